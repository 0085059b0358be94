/-
  What the document's own answers Text and ReadText of layer 1 return, for any string, any offset and any limit; memory that was there before stays as it was. Conditions: none but that the string's length fits an int, and for ReadText that it is at most 2 to the power 48.
-/
import Derived.Test.YtfcagbpkaflbeaaR01I
import Derived.Test.YtfcagbpkaflbeaaR01R
namespace Go.Proofs.Ytfcagbpkaflbeaa.r01t
open Go.RowKit
open Go.Proofs.Ytfcagbpkaflbeaa.oct Go.Proofs.Ytfcagbpkaflbeaa.bits8 Go.Proofs.Ytfcagbpkaflbeaa.r01r

theorem head_app (x : List UInt8) (t : ByteArray) : (⟨x.toArray⟩ : ByteArray) ++ t = ⟨(x ++ t.data.toList).toArray⟩ := by
  obtain ⟨⟨l⟩⟩ := t
  exact str_app x l

section
variable (t : ByteArray) (most : Int) (w : World)
set_option maxHeartbeats 400000 in
theorem text_long (h : most < t.size) :
    Calls Try.prog 11 #[.string t, .int .i64 most] w fun e w' => e = .returned (.tuple #[.string ⟨#[]⟩, .int .i64 5]) ∧ Below w.heap.size w w' := by
  go_enter Try.func11, Try.ntmps11
  go_wp2
  go_ret2
  exact ⟨rfl, Below.refl _ _⟩
variable (ht : t.size ≤ 9223372036854775700)
include ht
set_option maxHeartbeats 400000 in
theorem text_over (h : (t.size : Int) ≤ most) (h2 : 1125899906842624 < t.size) :
    Calls Try.prog 11 #[.string t, .int .i64 most] w fun e w' => e = .returned (.tuple #[.string ⟨#[]⟩, .int .i64 6]) ∧ Below w.heap.size w w' := by
  go_enter Try.func11, Try.ntmps11
  go_wp2_with fail
  refine (r01i.int_out _ _ (by omega)).mono ?_
  rintro e w1 ⟨rfl, hb⟩
  go_wp2_with fail
  go_ret2
  exact ⟨rfl, hb⟩
set_option maxHeartbeats 400000 in
theorem text_good (h : (t.size : Int) ≤ most) (h2 : t.size ≤ 1125899906842624) :
    Calls Try.prog 11 #[.string t, .int .i64 most] w fun e w' => e = .returned (.tuple #[.string ⟨((UInt8.ofNat (wd t.size) :: fixL t.size (wd t.size)) ++ t.data.toList).toArray⟩, .int .i64 0]) ∧ Below w.heap.size w w' := by
  have hc := r01i.int_in t.size w h2
  have hwd := wd_le t.size
  have hfl := fixL_length t.size (wd t.size)
  have hl : (UInt8.ofNat (wd t.size) :: fixL t.size (wd t.size)).length ≤ 8 := by rw [List.length_cons, hfl]; omega
  clear hwd hfl
  generalize UInt8.ofNat (wd t.size) :: fixL t.size (wd t.size) = hd at hc hl ⊢
  have Hc := Lib.hid hc
  clear hc
  go_enter Try.func11, Try.ntmps11
  go_wp2_with fail
  refine Hc.out.mono ?_
  rintro e w1 ⟨rfl, hb⟩
  go_wp2_with fail
  go_ret2
  exact ⟨by rw [head_app]; rfl, hb⟩
end
theorem text_any (t : ByteArray) (most : Int) (w : World) (ht : t.size ≤ 9223372036854775700) :
    Calls Try.prog 11 #[.string t, .int .i64 most] w fun e w' => e = .returned (.tuple #[.string ⟨(textL t.data.toList most).1.toArray⟩, .int .i64 (textL t.data.toList most).2]) ∧ Below w.heap.size w w' := by
  have hl : t.data.toList.length = t.size := rfl
  by_cases h : most < t.size
  · rw [textL_long _ _ (by rw [hl]; exact h)]
    exact text_long t most w h
  by_cases h2 : 1125899906842624 < t.size
  · rw [textL_over _ _ (by rw [hl]; exact h) (by rw [hl]; exact h2)]
    exact text_over t most w ht (by omega) h2
  · rw [textL_good _ _ (by rw [hl]; exact h) (by rw [hl]; omega), hl]
    exact text_good t most w ht (by omega) (by omega)

theorem win (s : ByteArray) (a n : Nat) : s.extract a (a + n) = ⟨((s.data.toList.drop a).take n).toArray⟩ := by
  rw [← extract_list]

section
variable (s : ByteArray) (p most : Int) (w : World) (hs : s.size ≤ 281474976710656)
include hs
set_option maxHeartbeats 400000 in
theorem readText_err (a b e : Int) (he : e ≠ 0) (hr : rdInt s.data.toList p = (a, b, e)) :
    Calls Try.prog 19 #[.string s, .int .i64 p, .int .i64 most] w fun r w' => r = .returned (.tuple #[.string ⟨#[]⟩, .int .i64 0, .int .i64 e]) ∧ Below w.heap.size w w' := by
  have Hr := Lib.hid hr
  have hb : (e != 0) = true := by simpa using he
  clear hr he
  go_enter Try.func19, Try.ntmps19
  go_wp2_with fail
  refine (r01r.readInt_any _ _ _ (by omega)).mono ?_
  rintro r w1 ⟨rfl, rfl⟩
  rw [Hr.out]
  unfold tri
  go_wp2_with fail
  go_ret3
  exact ⟨rfl, Below.refl _ _⟩
set_option maxHeartbeats 400000 in
theorem readText_long (n t : Nat) (_hn : n ≤ 1125899906842624) (_ht : t ≤ s.size) (hr : rdInt s.data.toList p = ((n : Int), (t : Int), 0)) (h : most < n) :
    Calls Try.prog 19 #[.string s, .int .i64 p, .int .i64 most] w fun r w' => r = .returned (.tuple #[.string ⟨#[]⟩, .int .i64 0, .int .i64 5]) ∧ Below w.heap.size w w' := by
  have Hr := Lib.hid hr
  clear hr
  go_enter Try.func19, Try.ntmps19
  go_wp2_with fail
  refine (r01r.readInt_any _ _ _ (by omega)).mono ?_
  rintro r w1 ⟨rfl, rfl⟩
  rw [Hr.out]
  unfold tri
  go_wp2_with fail
  go_ret3
  exact ⟨rfl, Below.refl _ _⟩
set_option maxHeartbeats 400000 in
theorem readText_short (n t : Nat) (hn : n ≤ 1125899906842624) (ht : t ≤ s.size) (hr : rdInt s.data.toList p = ((n : Int), (t : Int), 0)) (h : (n : Int) ≤ most) (h2 : s.size < t + n) :
    Calls Try.prog 19 #[.string s, .int .i64 p, .int .i64 most] w fun r w' => r = .returned (.tuple #[.string ⟨#[]⟩, .int .i64 0, .int .i64 2]) ∧ Below w.heap.size w w' := by
  have Hr := Lib.hid hr
  clear hr
  go_enter Try.func19, Try.ntmps19
  go_wp2_with fail
  refine (r01r.readInt_any _ _ _ (by omega)).mono ?_
  rintro r w1 ⟨rfl, rfl⟩
  rw [Hr.out]
  unfold tri
  go_wp2_with fail
  go_ret3
  exact ⟨rfl, Below.refl _ _⟩
set_option maxHeartbeats 400000 in
theorem readText_good (n t : Nat) (hr : rdInt s.data.toList p = ((n : Int), (t : Int), 0)) (h : (n : Int) ≤ most) (h2 : t + n ≤ s.size) :
    Calls Try.prog 19 #[.string s, .int .i64 p, .int .i64 most] w fun r w' => r = .returned (.tuple #[.string ⟨((s.data.toList.drop t).take n).toArray⟩, .int .i64 (t + n), .int .i64 0]) ∧ Below w.heap.size w w' := by
  have Hr := Lib.hid hr
  rw [← win]
  clear hr
  go_enter Try.func19, Try.ntmps19
  go_wp2_with fail
  refine (r01r.readInt_any _ _ _ (by omega)).mono ?_
  rintro r w1 ⟨rfl, rfl⟩
  rw [Hr.out]
  unfold tri
  go_wp2_with fail
  go_ret3
  exact ⟨rfl, Below.refl _ _⟩
end
theorem readText_any (s : ByteArray) (p most : Int) (w : World) (hs : s.size ≤ 281474976710656) :
    Calls Try.prog 19 #[.string s, .int .i64 p, .int .i64 most] w fun r w' => r = .returned (.tuple #[.string ⟨(rdText s.data.toList p most).1.toArray⟩, .int .i64 (rdText s.data.toList p most).2.1, .int .i64 (rdText s.data.toList p most).2.2]) ∧ Below w.heap.size w w' := by
  have hl : s.data.toList.length = s.size := rfl
  by_cases h0 : (rdInt s.data.toList p).2.2 = 0
  · obtain ⟨n, q, c, hr, -, hn, ht, -⟩ := rdInt_facts _ _ h0
    rw [hl] at ht
    by_cases h1 : most < n
    · have e : rdText s.data.toList p most = ([], 0, 5) := by rw [rdText, if_pos h0, hr, if_pos h1]
      rw [e]
      exact readText_long s p most w hs n _ hn ht hr h1
    by_cases h2 : s.size < (q + 1 + c) + n
    · have e : rdText s.data.toList p most = ([], 0, 2) := by rw [rdText, if_pos h0, hr, if_neg h1, if_pos (by simp only; omega)]
      rw [e]
      exact readText_short s p most w hs n _ hn ht hr (by omega) h2
    · have e : rdText s.data.toList p most = ((s.data.toList.drop (q + 1 + c)).take n, ((q + 1 + c : Nat) : Int) + n, 0) := by
        rw [rdText, if_pos h0, hr, if_neg h1, if_neg (by simp only; omega)]
        simp only [Int.toNat_natCast]
      rw [e]
      exact readText_good s p most w hs n _ hr (by omega) (by omega)
  · have e : rdText s.data.toList p most = ([], 0, (rdInt s.data.toList p).2.2) := by rw [rdText, if_neg h0]
    rw [e]
    exact readText_err s p most w hs _ _ _ h0 rfl
end Go.Proofs.Ytfcagbpkaflbeaa.r01t
