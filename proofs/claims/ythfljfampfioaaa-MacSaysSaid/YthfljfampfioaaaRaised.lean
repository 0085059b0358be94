/-
  What tables.raised returns for a long number and an exponent from 1 to 3: the parts of its power modulo 2 to the power 256; memory that was there before stays as it was. Conditions: the number has eight parts of 32 bits.
-/
import Derived.Test.YthfljfampfioaaaTimes
namespace Go.Proofs.Ythfljfampfioaaa.raised
open Go.RowKit
open Go.Proofs.Ythfljfampfioaaa.tabd Go.Proofs.Ythfljfampfioaaa.arr Go.Proofs.Ythfljfampfioaaa.times

theorem dg_mulmod (v x : Nat) : dg 8 (val (dg 8 v) * x) = dg 8 (v * x) := by
  rw [val_dg, ← dg_mod 8 (v % bp 8 * x), ← dg_mod 8 (v * x), Nat.mod_mul_mod]
theorem dg_self (us : List Nat) (h : us.length = 8) (s : Small us) : dg 8 (val us) = us := by
  have := dg_val us s
  rwa [h] at this

theorem pow_three {p : Nat} : 1 ≤ p → p ≤ 3 → p = 1 ∨ p = 2 ∨ p = 3 := by omega
/-- what the loop keeps: the three blocks, and that nothing below has changed -/
def St (us : List Nat) (w : World) (e : Nat) (wr : World) : Prop :=
  wr.heap[w.heap.size]? = some (.cells (LK .u32 us) 93 (0, 0)) ∧ (∃ Z : Array Value, Z.size = 8 ∧ wr.heap[w.heap.size + 1]? = some (.cells Z 93 (0, 0))) ∧
  wr.heap[w.heap.size + 1 + 1]? = some (.cells (LK .u32 (dg 8 (val us ^ e))) 93 (0, 0)) ∧ Below w.heap.size w wr ∧ w.heap.size + 3 ≤ wr.heap.size
theorem st_call {us : List Nat} {w wr w1 : World} {e : Nat} (h : St us w e wr) (hb : Below wr.heap.size wr w1) : St us w e w1 := by
  obtain ⟨h1, ⟨Z, hz, h2⟩, h3, h4, h5⟩ := h
  have hs := hb.size
  exact ⟨(hb.block _ (by omega)).trans h1, ⟨Z, hz, (hb.block _ (by omega)).trans h2⟩, (hb.block _ (by omega)).trans h3, h4.trans (hb.mono (by omega)), by omega⟩
theorem st_store {us : List Nat} {w wr : World} {e f : Nat} (h : St us w e wr) : St us w f (wr.setRow (w.heap.size + 1 + 1) (LK .u32 (dg 8 (val us ^ f)))) := by
  obtain ⟨h1, ⟨Z, hz, h2⟩, h3, h4, h5⟩ := h
  exact ⟨by rw [setRow_other _ _ _ _ (by omega)]; exact h1, ⟨Z, hz, by rw [setRow_other _ _ _ _ (by omega)]; exact h2⟩, setRow_heap _ _ _ _ _ _ h3, h4.trans (below_setRow _ _ _ (by omega)), by simpa using h5⟩

set_option maxHeartbeats 400000 in
theorem raised_any (us : List Nat) (p : Nat) (w : World) (hu : us.length = 8) (su : Small us) (h1 : 1 ≤ p) (h3 : p ≤ 3) :
    Calls Try.prog 64 #[.agg (LK .u32 us), .int .i64 p] w fun e w' => e = .returned (.agg (LK .u32 (dg 8 (val us ^ p)))) ∧ Below w.heap.size w w' := by
  have hsz : (LK .u32 us).size = 8 := by rw [lk_size]; exact hu
  have hsd : ∀ v, (LK .u32 (dg 8 v)).size = 8 := fun v => by rw [lk_size, dg_length]
  have Hsz := Lib.hid hsz
  have Hsd := Lib.hid hsd
  have Hu := Lib.hid hu
  have Su := Lib.hid su
  clear hu su hsz hsd
  go_enter Try.func64, Try.ntmps64
  go_wp2_with (first | (refine wpList_load_row rfl 93 _ rfl _ rfl 93 (LK .u32 us) (0, 0) _ ?_ Try.underlying93 rfl (by rw [Hsz.out]; exact zlong) ?_; · (rw [heap_past _ _ _ (by simp <;> omega), heap_at _ _ _ (by simp <;> omega)])) | (refine wpList_store_row rfl 93 _ _ rfl _ _ rfl rfl 93 _ (heap_at _ _ _ (by simp <;> omega)) (by rw [Hsz.out]; exact zlong) (by rw [Hsz.out]; rfl) (lk_one _ _) ?_))
  go_loopw [9] (fun i wr => ∃ k : Nat, k ≤ p - 1 ∧ i = .int .i64 k ∧ St us w (k + 1) wr) (fun i _ => p - (intOf i).toNat)
  case atStart =>
    refine ⟨0, by omega, rfl, ?_, ⟨LK .u32 [0, 0, 0, 0, 0, 0, 0, 0], rfl, ?_⟩, ?_, ?_, ?_⟩
    · rw [setRow_other _ _ _ _ (by omega), heap_past _ _ _ (by simp <;> omega), heap_past _ _ _ (by simp <;> omega), heap_at _ _ _ rfl]
    · rw [setRow_other _ _ _ _ (by omega), heap_past _ _ _ (by simp <;> omega), heap_at _ _ _ (by simp <;> omega)]; rfl
    · rw [Nat.zero_add, Nat.pow_one, dg_self us Hu.out Su.out, setRow_heap _ _ _ _ _ _ (heap_at _ _ _ (by simp <;> omega))]
    · exact ((((Below.refl _ _).alloc (Nat.le_refl _) _).alloc (by simp <;> omega) _).alloc (by simp <;> omega) _).trans (below_setRow _ _ _ (by omega))
    · simp
  case round =>
    obtain ⟨k, hk, rfl, hst⟩ := hrel
    have g0 := hst.1
    have g2 := hst.2.2.1
    by_cases hlt : k < p - 1
    · have Hst := Lib.hid hst
      clear hst
      go_wp2_with (first | (refine wpList_load_row rfl 93 _ rfl _ rfl 93 _ (0, 0) _ g2 Try.underlying93 rfl (by rw [Hsd.out]; exact zlong) ?_) | (refine wpList_load_row rfl 93 _ rfl _ rfl 93 _ (0, 0) _ g0 Try.underlying93 rfl (by rw [Hsz.out]; exact zlong) ?_))
      refine (times_any _ _ _ (dg_length _ _) Hu.out (dg_small _ _) Su.out).mono ?_
      rintro e w1 ⟨rfl, hb⟩
      rw [dg_mulmod, ← Nat.pow_succ]
      have Hs1 := Lib.hid (st_call Hst.out hb)
      have g2' := Hs1.out.2.2.1
      have Hb := Lib.hid hb
      clear hb g0 g2
      go_wp2_with (refine wpList_store_row rfl 93 _ _ rfl _ _ rfl rfl 93 _ g2' (by rw [Hsd.out]; exact zlong) (by rw [Hsd.out, Hsd.out]) (lk_one _ _) ?_)
      go_roundw
      case rel => exact ⟨k + 1, by omega, by go_num, st_store Hs1.out⟩
      case measure => simp [intOf]; omega
    · obtain rfl : p = k + 1 := by omega
      obtain ⟨-, ⟨Z, hz, g1⟩, -, hb, hs⟩ := hst
      have Hz := Lib.hid hz
      clear hz
      go_wp2_with (first | (refine wpList_load_row rfl 93 _ rfl _ rfl 93 _ (0, 0) _ g2 Try.underlying93 rfl (by rw [Hsd.out]; exact zlong) ?_) | (refine wpList_store_row rfl 93 _ _ rfl _ _ rfl rfl 93 _ g1 (by rw [Hsd.out]; exact zlong) (by rw [Hsd.out]; exact Hz.out) (lk_one _ _) ?_))
      refine bodyPost_ret_by (v := .agg (LK .u32 (dg 8 (val us ^ (k + 1))))) (results_cell_row rfl _ _ (w.heap.size + 1) 93 _ (0, 0) _ rfl (setRow_heap _ _ _ _ _ _ g1) Try.underlying93 rfl (by rw [Hsd.out]; exact zlong)) rfl ?_
      exact ⟨rfl, hb.trans (below_setRow _ _ _ (by omega))⟩
end Go.Proofs.Ythfljfampfioaaa.raised
