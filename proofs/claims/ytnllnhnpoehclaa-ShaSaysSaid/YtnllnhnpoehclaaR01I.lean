/-
  What the document's own answers Int and Text of layer 1 return, for any number, any string and any limit; memory that was there before stays as it was. Conditions: none but that the string's length fits an int.
-/
import Derived.Test.YtnllnhnpoehclaaR01
import Derived.Deep.RegionWith
namespace Go.Proofs.Ytnllnhnpoehclaa.r01i
open Go.RowKit
open Go.Proofs.Ytnllnhnpoehclaa.oct Go.Proofs.Ytnllnhnpoehclaa.bits8

set_option maxRecDepth 100000 in
set_option maxHeartbeats 400000 in
theorem int_out (n : Int) (w : World) (hn : n < 0 ∨ 1125899906842624 < n) :
    Calls Try.prog 51 #[.int .i64 n] w fun e w' => e = .returned (.tuple #[.string ⟨#[]⟩, .int .i64 6]) ∧ Below w.heap.size w w' := by
  by_cases h1 : n < 0
  · clear hn
    go_enter Try.func51, Try.ntmps51
    go_wp2
    go_ret2
    exact ⟨rfl, Below.refl _ _⟩
  · have h2 : 1125899906842624 < n := by omega
    clear hn
    go_enter Try.func51, Try.ntmps51
    go_wp2
    go_ret2
    exact ⟨rfl, Below.refl _ _⟩

set_option maxRecDepth 100000 in
set_option maxHeartbeats 400000 in
theorem int_in (m : Nat) (w : World) (hm : m ≤ 1125899906842624) :
    Calls Try.prog 51 #[.int .i64 m] w fun e w' => e = .returned (.tuple #[.string ⟨(UInt8.ofNat (wd m) :: fixL m (wd m)).toArray⟩, .int .i64 0]) ∧ Below w.heap.size w w' := by
  have hwd := wd_le m
  have hsz := r01.size_any m w hm
  generalize wd m = k at hwd hsz ⊢
  have hfl : (fixL m k).length ≤ 7 := by rw [fixL_length]; exact hwd
  have Hsz := Lib.hid hsz
  clear hsz
  go_enter Try.func51, Try.ntmps51
  go_wp2_with fail
  refine Hsz.out.mono ?_
  rintro e w1 ⟨rfl, rfl⟩
  go_wp2_with fail
  have k1 : IntKind.u8.wrap (k : Int) = k := by rw [IntKind.wrap_u8]; omega
  have k2 : IntKind.u64.wrap (m : Int) = m := by rw [IntKind.wrap_u64]; omega
  have hcv : ∀ (W : World) (g : Nat), W.cell? ⟨g, 0, none⟩ = some (.int .u8 (k : Int)) → (convert 61 9 (.slice (some ⟨g, 0, none⟩) 1 1)).run Try.prog W = .ok (.string ⟨#[UInt8.ofNat k]⟩) W := fun W g hc =>
    run_convert_bytes_back (P := Try.prog) W 61 9 5 ⟨g, 0, none⟩ 1 [UInt8.ofNat k] Try.underlying61 Try.underlying5 Try.underlying9 (fun j hj => by
      have : j = 0 := by simpa using hj
      subst this
      rw [addr_add, hc]
      simp
      omega)
  go_region_with (go_at_call 32; refine (r01.fixed_any m k _ (by omega)).mono ?_; rintro e w3 ⟨rfl, hb3⟩; rw [fixS_wd _ _ (by omega)]; obtain ⟨hc3, hf3⟩ := bcell hb3; have hs3 := hb3.size)
  all_goals
    go_wp2
    go_ret2
    refine ⟨by rw [str_app_arr]; rfl, ?_⟩
    first
      | exact ((Below.refl _ _).alloc (Nat.le_refl _) _).drew.trans (hb3.mono (by simp))
      | exact ((Below.refl _ _).drew.trans hb3).alloc (by have := hb3.size; simpa using this) _
      | exact (((Below.refl _ _).drew.trans hb3).alloc (by have := hb3.size; simpa using this) _).drew
theorem int_any (n : Int) (w : World) :
    Calls Try.prog 51 #[.int .i64 n] w fun e w' => e = .returned (.tuple #[.string ⟨(intL n).1.toArray⟩, .int .i64 (intL n).2]) ∧ Below w.heap.size w w' := by
  by_cases h : n < 0 ∨ 1125899906842624 < n
  · rw [intL_out n h]
    exact int_out n w h
  · obtain ⟨m, rfl⟩ := Int.eq_ofNat_of_zero_le (show 0 ≤ n by omega)
    rw [intL_in m (by omega)]
    exact int_in m w (by omega)
end Go.Proofs.Ytnllnhnpoehclaa.r01i
