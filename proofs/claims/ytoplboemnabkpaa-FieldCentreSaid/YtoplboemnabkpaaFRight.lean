/-
  What field.Right returns. Conditions: none.
-/
import Derived.Test.YtoplboemnabkpaaFRed
namespace Go.Proofs.Ytoplboemnabkpaa.fright
open Go Go.RowKit
open Go.Proofs.Ytoplboemnabkpaa.arr Go.Proofs.Ytoplboemnabkpaa.mem Go.Proofs.Ytoplboemnabkpaa.stil Go.Proofs.Ytoplboemnabkpaa.polys Go.Proofs.Ytoplboemnabkpaa.polt Go.Proofs.Ytoplboemnabkpaa.fldm Go.Proofs.Ytoplboemnabkpaa.fld1 Go.Proofs.Ytoplboemnabkpaa.freduced

set_option maxRecDepth 100000 in
set_option maxHeartbeats 1000000 in
theorem right_any (f : Nat → Int) (w : World) :
    Calls Try.prog 9 #[.agg (FL .i64 256 f)] w fun e w' => e = .returned (.bool (same 256 (fun i => f i % 8380417) f)) ∧ Below w.heap.size w w' := by
  obtain ⟨-, hsize⟩ := zero_of_info infoP
  have heq := fun w => eq_poly (fun i => f i % 8380417) f w
  have H := fun w => reduced_any f w
  obtain ⟨b, Hb⟩ := ex_eq (same 256 (fun i => f i % 8380417) f)
  rw [Hb.out] at heq ⊢
  obtain ⟨F, HF⟩ := ex_eq (FL .i64 256 f)
  obtain ⟨G, HG⟩ := ex_eq (FL .i64 256 fun i => f i % 8380417)
  rw [HF.out, HG.out] at heq
  rw [HF.out] at H ⊢
  simp only [HG.out] at H
  have Hz : Away ((Try.prog.info? 27).map (·.size) = some F.size) := ⟨by rw [← HF.out, fl_size]; exact hsize⟩
  clear hsize
  go_enter Try.func9, Try.ntmps9
  go_wp2_with fail
  obtain ⟨W, hW⟩ : ∃ W, w.alloc (.cells F 27) = W := ⟨_, rfl⟩
  have hg : W.heap[w.heap.size]? = some (.cells F 27 (0, 0)) := by rw [← hW, heap_at _ _ _ rfl]
  have HB : Away (Below w.heap.size w W) := ⟨by rw [← hW]; exact (Below.refl _ _).alloc (Nat.le_refl _) _⟩
  rw [hW]
  clear hW
  refine wp_region_quiet_below (by kernel_rfl) (by kernel_rfl) ?_
  refine wpQuiet_load rfl 27 _ rfl _ rfl 27 _ _ (fun w' hC => heap_regrown hg hC) Try.underlying27 rfl Hz.out ?_
  quiet_step (exact Calls.regrown_of (H _))
  refine wpQuiet_load rfl 27 _ rfl _ rfl 27 _ _ (fun w' hC => heap_regrown hg hC) Try.underlying27 rfl Hz.out ?_
  quiet_step (skip)
  quiet_step (skip)
  refine wpQuiet_nil ?_
  intro w3 hC
  have hb3 : Away (Below W.heap.size W w3) := ⟨by
    obtain ⟨pp, rfl⟩ := hC
    exact below_regrown _ _ _⟩
  clear hC heq hg
  go_wp2_with fail
  go_ret
  exact ⟨rfl, HB.out.trans (hb3.out.mono HB.out.size)⟩
end Go.Proofs.Ytoplboemnabkpaa.fright
