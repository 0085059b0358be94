/-
  What octets.Text returns, for any string and any limit: the document's answers; memory that was there before stays as it was. Conditions: none but that the string's length fits an int.
-/
import Derived.Test.YtnllnhnpoehclaaInt
namespace Go.Proofs.Ytnllnhnpoehclaa.texts
open Go.RowKit
open Go.Proofs.Ytnllnhnpoehclaa.oct Go.Proofs.Ytnllnhnpoehclaa.bits8

theorem head_app (x : List UInt8) (t : ByteArray) : (⟨x.toArray⟩ : ByteArray) ++ t = ⟨(x ++ t.data.toList).toArray⟩ := by
  obtain ⟨⟨l⟩⟩ := t
  exact str_app x l

section
variable (t : ByteArray) (most : Int) (w : World)
set_option maxRecDepth 100000 in
set_option maxHeartbeats 400000 in
theorem text_long (h : most < t.size) :
    Calls Try.prog 33 #[.string t, .int .i64 most] w fun e w' => e = .returned (.tuple #[.string ⟨#[]⟩, .int .i64 5]) ∧ Below w.heap.size w w' := by
  go_enter Try.func33, Try.ntmps33
  go_wp2
  go_ret2
  exact ⟨rfl, Below.refl _ _⟩
variable (ht : t.size ≤ 9223372036854775700)
include ht
set_option maxRecDepth 100000 in
set_option maxHeartbeats 400000 in
theorem text_over (h : (t.size : Int) ≤ most) (h2 : 1125899906842624 < t.size) :
    Calls Try.prog 33 #[.string t, .int .i64 most] w fun e w' => e = .returned (.tuple #[.string ⟨#[]⟩, .int .i64 6]) ∧ Below w.heap.size w w' := by
  go_enter Try.func33, Try.ntmps33
  go_wp2_with fail
  refine (ints.int_out _ _ (by omega)).mono ?_
  rintro e w1 ⟨rfl, hb⟩
  go_wp2_with fail
  go_ret2
  exact ⟨rfl, hb⟩
set_option maxRecDepth 100000 in
set_option maxHeartbeats 400000 in
theorem text_good (h : (t.size : Int) ≤ most) (h2 : t.size ≤ 1125899906842624) :
    Calls Try.prog 33 #[.string t, .int .i64 most] w fun e w' => e = .returned (.tuple #[.string ⟨((UInt8.ofNat (wd t.size) :: fixL t.size (wd t.size)) ++ t.data.toList).toArray⟩, .int .i64 0]) ∧ Below w.heap.size w w' := by
  have hc := ints.int_in t.size w h2
  have hwd := wd_le t.size
  have hfl := fixL_length t.size (wd t.size)
  have hl : (UInt8.ofNat (wd t.size) :: fixL t.size (wd t.size)).length ≤ 8 := by rw [List.length_cons, hfl]; omega
  clear hwd hfl
  generalize UInt8.ofNat (wd t.size) :: fixL t.size (wd t.size) = hd at hc hl ⊢
  have Hc := Lib.hid hc
  clear hc
  go_enter Try.func33, Try.ntmps33
  go_wp2_with fail
  refine Hc.out.mono ?_
  rintro e w1 ⟨rfl, hb⟩
  go_wp2_with fail
  go_ret2
  exact ⟨by rw [head_app]; rfl, hb⟩
end
theorem text_any (t : ByteArray) (most : Int) (w : World) (ht : t.size ≤ 9223372036854775700) :
    Calls Try.prog 33 #[.string t, .int .i64 most] w fun e w' => e = .returned (.tuple #[.string ⟨(textL t.data.toList most).1.toArray⟩, .int .i64 (textL t.data.toList most).2]) ∧ Below w.heap.size w w' := by
  have hl : t.data.toList.length = t.size := rfl
  by_cases h : most < t.size
  · rw [textL_long _ _ (by rw [hl]; exact h)]
    exact text_long t most w h
  by_cases h2 : 1125899906842624 < t.size
  · rw [textL_over _ _ (by rw [hl]; exact h) (by rw [hl]; exact h2)]
    exact text_over t most w ht (by omega) h2
  · rw [textL_good _ _ (by rw [hl]; exact h) (by rw [hl]; omega), hl]
    exact text_good t most w ht (by omega) (by omega)

end Go.Proofs.Ytnllnhnpoehclaa.texts
