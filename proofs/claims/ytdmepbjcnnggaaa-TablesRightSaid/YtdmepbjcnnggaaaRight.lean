/-
  What tables.Right and the reference's Right return for any tables: whether they equal the document's; memory that was there before stays as it was. Conditions: the cells are numbers of the fields' kinds.
-/
import Derived.Test.YtdmepbjcnnggaaaEq
import Derived.Test.YtdmepbjcnnggaaaMake
import Derived.Test.YtdmepbjcnnggaaaRMake
namespace Go.Proofs.Ytdmepbjcnnggaaa.right
open Go.RowKit
open Go.Proofs.Ytdmepbjcnnggaaa.tabv Go.Proofs.Ytdmepbjcnnggaaa.arr Go.Proofs.Ytdmepbjcnnggaaa.eqs Go.Proofs.Ytdmepbjcnnggaaa.built

theorem make_T {T : Array Value} (hT : TA = T) (w : World) : Calls Try.prog 17 #[] w fun e w' => e = .returned (.agg T) ∧ Below w.heap.size w w' := by subst hT; exact make.make_any w
theorem rmake_T {T : Array Value} (hT : TA = T) (w : World) : Calls Try.prog 18 #[] w fun e w' => e = .returned (.agg T) ∧ Below w.heap.size w w' := by subst hT; exact rmake.make_any w
theorem sizeT : (Try.prog.info? 39).map (·.size) = some 465 := (zero_of_info infoT).2

set_option maxRecDepth 100000 in
set_option maxHeartbeats 1000000 in
theorem right_any (xs T : Array Value) (r : Bool) (w : World) (hT : TA = T) (hs : xs.size = 465) (heq : ∀ w, (binOp .eql 39 (.agg xs) (.agg T)).run Try.prog w = .ok (.bool r) w) :
    Calls Try.prog 20 #[.agg xs] w fun e w' => e = .returned (.bool r) ∧ Below w.heap.size w w' := by
  have Hs := Away.mk hs
  have HT := Away.mk hT
  have hq := guardT
  clear hs hT
  go_enter Try.func20, Try.ntmps20
  go_wp2_with fail
  obtain ⟨W, hW⟩ : ∃ W, w.alloc (.cells xs 39) = W := ⟨_, rfl⟩
  have hg : W.heap[w.heap.size]? = some (.cells xs 39 (0, 0)) := by rw [← hW, heap_at _ _ _ rfl]
  have Hb : Away (Below w.heap.size w W) := ⟨by rw [← hW]; exact (Below.refl _ _).alloc (Nat.le_refl _) _⟩
  rw [hW]
  clear hW
  refine wp_region_quiet_below (by kernel_rfl) (by kernel_rfl) ?_
  refine wpQuiet_load rfl 39 _ rfl _ rfl 39 _ _ (fun w' hC => heap_regrown hg hC) Try.underlying39 rfl (by rw [Hs.out]; exact sizeT) ?_
  quiet_step (exact Calls.regrown_of (make_T HT.out _))
  quiet_step (skip)
  quiet_step (skip)
  refine wpQuiet_nil ?_
  intro w3 hC
  have hb3 : Away (Below W.heap.size W w3) := ⟨by
    obtain ⟨pp, rfl⟩ := hC
    exact below_regrown _ _ _⟩
  clear hC heq hg
  go_wp2_with fail
  go_ret
  exact ⟨rfl, Hb.out.trans (hb3.out.mono Hb.out.size)⟩

set_option maxRecDepth 100000 in
set_option maxHeartbeats 1000000 in
theorem rright_any (xs T : Array Value) (r : Bool) (w : World) (hT : TA = T) (hs : xs.size = 465) (heq : ∀ w, (binOp .eql 39 (.agg xs) (.agg T)).run Try.prog w = .ok (.bool r) w) :
    Calls Try.prog 21 #[.agg xs] w fun e w' => e = .returned (.bool r) ∧ Below w.heap.size w w' := by
  have Hs := Away.mk hs
  have HT := Away.mk hT
  have hq := guardT
  clear hs hT
  go_enter Try.func21, Try.ntmps21
  go_wp2_with fail
  obtain ⟨W, hW⟩ : ∃ W, w.alloc (.cells xs 39) = W := ⟨_, rfl⟩
  have hg : W.heap[w.heap.size]? = some (.cells xs 39 (0, 0)) := by rw [← hW, heap_at _ _ _ rfl]
  have Hb : Away (Below w.heap.size w W) := ⟨by rw [← hW]; exact (Below.refl _ _).alloc (Nat.le_refl _) _⟩
  rw [hW]
  clear hW
  refine wp_region_quiet_below (by kernel_rfl) (by kernel_rfl) ?_
  refine wpQuiet_load rfl 39 _ rfl _ rfl 39 _ _ (fun w' hC => heap_regrown hg hC) Try.underlying39 rfl (by rw [Hs.out]; exact sizeT) ?_
  quiet_step (exact Calls.regrown_of (rmake_T HT.out _))
  quiet_step (skip)
  quiet_step (skip)
  refine wpQuiet_nil ?_
  intro w3 hC
  have hb3 : Away (Below W.heap.size W w3) := ⟨by
    obtain ⟨pp, rfl⟩ := hC
    exact below_regrown _ _ _⟩
  clear hC heq hg
  go_wp2_with fail
  go_ret
  exact ⟨rfl, Hb.out.trans (hb3.out.mono Hb.out.size)⟩
end Go.Proofs.Ytdmepbjcnnggaaa.right
