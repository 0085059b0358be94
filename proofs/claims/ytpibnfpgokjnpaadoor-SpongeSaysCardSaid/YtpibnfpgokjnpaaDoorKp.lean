/-
  What keccak.Permute returns. Conditions: the state has 25 words of 64 bits, the tables have their size, and the package's variable 'places' holds what the program's text lays there.
-/
import Derived.Test.YtpibnfpgokjnpaaDoorKw
import Derived.Test.YtpibnfpgokjnpaaDoorRTM
namespace Go.Proofs.YtpibnfpgokjnpaaDoor.kfun
open Go.RowKit
open Go.Proofs.YtpibnfpgokjnpaaDoor.arr Go.Proofs.YtpibnfpgokjnpaaDoor.mem Go.Proofs.YtpibnfpgokjnpaaDoor.kecm Go.Proofs.YtpibnfpgokjnpaaDoor.kecb Go.Proofs.YtpibnfpgokjnpaaDoor.kturn Go.Proofs.YtpibnfpgokjnpaaDoor.kstep

theorem size25 {l : List Nat} (h : l.length = 25) : (Tryd.prog.info? 23).map (·.size) = some (LK .u64 l).size := by rw [lk_size, h]; exact info25
theorem same25 {l m : List Nat} (h : l.length = 25) (hm : m.length = 25) : (LK .u64 l).size = (LK .u64 m).size := by rw [lk_size, lk_size, h, hm]
theorem two {w W : World} {x y : Obj} (h : (w.alloc x).alloc y = W) : W.heap[w.heap.size]? = some x ∧ W.heap[w.heap.size + 1]? = some y ∧ W.heap.size = w.heap.size + 2 ∧ Below w.heap.size w W := by
  subst h
  refine ⟨?_, heap_at _ _ _ (by rw [size_alloc]), by rw [size_alloc, size_alloc], ((Below.refl _ _).alloc (Nat.le_refl _) _).alloc (by rw [size_alloc]; omega) _⟩
  rw [heap_past _ _ _ (by rw [size_alloc]; omega), heap_at _ _ _ rfl]
theorem three {w W : World} {x y z : Obj} (h : ((w.alloc x).alloc y).alloc z = W) : W.heap[w.heap.size]? = some x ∧ W.heap[w.heap.size + 1]? = some y ∧ W.heap[w.heap.size + 2]? = some z ∧ W.heap.size = w.heap.size + 3 ∧ Below w.heap.size w W := by
  obtain ⟨h1, h2, h3, h4⟩ := two (w := w) (x := x) (y := y) rfl
  subst h
  refine ⟨?_, ?_, heap_at _ _ _ h3.symm, by rw [size_alloc, h3], h4.alloc (by rw [h3]; omega) _⟩
  · rw [heap_past _ _ _ (by omega), h1]
  · rw [heap_past _ _ _ (by omega), h2]
theorem four {w W : World} {x y z u : Obj} (h : (((w.alloc x).alloc y).alloc z).alloc u = W) : W.heap[w.heap.size]? = some x ∧ W.heap[w.heap.size + 1]? = some y ∧ W.heap[w.heap.size + 2]? = some z ∧ W.heap[w.heap.size + 3]? = some u ∧ W.heap.size = w.heap.size + 4 ∧ Below w.heap.size w W := by
  obtain ⟨h1, h2, h3, h4, h5⟩ := three (w := w) (x := x) (y := y) (z := z) rfl
  subst h
  refine ⟨?_, ?_, ?_, heap_at _ _ _ h4.symm, by rw [size_alloc, h4], h5.alloc (by rw [h4]; omega) _⟩
  · rw [heap_past _ _ _ (by omega), h1]
  · rw [heap_past _ _ _ (by omega), h2]
  · rw [heap_past _ _ _ (by omega), h3]
theorem cst_lt {rs : List Nat} (h : ∀ i, rs.getD i 0 < 18446744073709551616) (n : Int) : cst rs n < 18446744073709551616 := by
  unfold cst
  split
  · exact h _
  · decide
theorem cst_at (rs : List Nat) (k : Nat) (h : k < 24) : cst rs (k : Int) = rs.getD k 0 := by
  rw [cst, if_pos (by omega), Int.toNat_natCast]
set_option maxRecDepth 100000 in
set_option maxHeartbeats 2000000 in
theorem perm_any {T : Array Value} {ts rs : List Nat} (a : List Nat) (w : World) (h : St a) (hK : KT T ts rs) (hP : Gp w) :
    Calls Tryd.prog 54 #[.agg T, .agg (LK .u64 a)] w fun e w' => e = .returned (.agg (LK .u64 (permL (fun i => ts.getD i 0) (fun i => rs.getD i 0) a 24))) ∧ Below w.heap.size w w' := by
  have H := Away.mk h
  obtain ⟨z, HZ⟩ := ex_eq Z
  have HZl : Away (z.length = 25) := ⟨by rw [← HZ.out]; rfl⟩
  have Hz : Away ((#[.int .u64 0, .int .u64 0, .int .u64 0, .int .u64 0, .int .u64 0, .int .u64 0, .int .u64 0, .int .u64 0, .int .u64 0, .int .u64 0, .int .u64 0, .int .u64 0, .int .u64 0, .int .u64 0, .int .u64 0, .int .u64 0, .int .u64 0, .int .u64 0, .int .u64 0, .int .u64 0, .int .u64 0, .int .u64 0, .int .u64 0, .int .u64 0, .int .u64 0] : Array Value) = LK .u64 z) := ⟨by rw [← HZ.out]; exact z_is⟩
  clear h HZ
  have HK := Away.mk hK
  have HP := Away.mk hP
  clear hK hP
  obtain ⟨R, HR⟩ := ex_eq (permL (fun i => ts.getD i 0) (fun i => rs.getD i 0) a 24)
  have HRl : Away (R.length = 25) := ⟨by rw [← HR.out]; exact (permL_st (fun i => ts.getD i 0) _ HK.out.br H.out 24).len⟩
  have HRo := Away.mk (lk_one .u64 R)
  have HRz := Away.mk (size25 HRl.out)
  rw [HR.out]
  go_enter Tryd.func54, Tryd.ntmps54
  go_wp2_with fail
  rw [Hz.out]
  obtain ⟨W, hW⟩ : ∃ x, ((w.alloc (.cells T 36)).alloc (.cells (LK .u64 a) 23)).alloc (.cells (LK .u64 z) 23) = x := ⟨_, rfl⟩
  obtain ⟨b0, b1, b2, hWs, hWb⟩ := three hW
  rw [hW]
  clear hW
  have B0 := Away.mk b0
  have B1 := Away.mk b1
  have B2 := Away.mk b2
  have HWs := Away.mk hWs
  have HWb := Away.mk hWb
  clear hWs hWb b0 b1 b2
  have P0 : Away (Gp W) := ⟨HP.out.later HWb.out⟩
  go_loopw [6] (fun i wr => ∃ k : Nat, k ≤ 24 ∧ i = .int .i64 (k : Int) ∧ Away (At (w.heap.size + 1) (LK .u64 (permL (fun i => ts.getD i 0) (fun i => rs.getD i 0) a k)) 23 W wr)) (fun i _ => 24 - (intOf i).toNat)
  case atStart => exact ⟨0, by decide, rfl, ⟨At.refl B1.out⟩⟩
  case round =>
   obtain ⟨k, hk, rfl, A0⟩ := hrel
   by_cases hlt : k < 24
   · have hkz : (k : Int) < 24 := by omega
     go_wp2_with fail
     refine (kstep.step_any (k : Int) w.heap.size (w.heap.size + 1) T _ ts rs wr (permL_st (fun i => ts.getD i 0) _ HK.out.br H.out k) HK.out (Gp.at P0.out A0.out (by have := gp_lt HP.out; omega)) (A0.out.other (by have := HWs.out; omega) (by omega) B0.out) A0.out.row (by omega) (by have := gp_lt HP.out; omega)).mono ?_
     rintro e w1 ⟨rfl, h1⟩
     have A1 : Away (At (w.heap.size + 1) (LK .u64 (permL (fun i => ts.getD i 0) (fun i => rs.getD i 0) a (k + 1))) 23 W w1) := ⟨by rw [permL, ← cst_at rs k hlt]; exact A0.out.trans h1⟩
     clear h1
     go_wp2_with fail
     go_roundw
     case rel => exact ⟨k + 1, by omega, by go_num, A1⟩
     case measure => simp [intOf]; omega
   · obtain rfl : k = 24 := by omega
     simp only [Int.cast_ofNat_Int]
     have A1 : Away (At (w.heap.size + 1) (LK .u64 R) 23 W wr) := ⟨by rw [← HR.out]; exact A0.out⟩
     have Hres : Away (wr.heap[w.heap.size + 2]? = some (.cells (LK .u64 z) 23 (0, 0))) := ⟨A1.out.other (by have := HWs.out; omega) (by omega) B2.out⟩
     have Hrow := Away.mk A1.out.row
     have Hb1 : Away (Below w.heap.size w wr) := ⟨HWb.out.trans (A1.out.below (by have := HWs.out; omega) (by omega))⟩
     go_wp2_with (first
       | (refine wpList_load_row rfl 23 _ rfl (w.heap.size + 1) rfl 23 (LK .u64 R) (0, 0) _ Hrow.out Tryd.underlying23 rfl HRz.out ?_)
       | (refine wpList_store_row rfl 23 _ _ rfl (w.heap.size + 2) (LK .u64 R) rfl rfl 23 _ Hres.out HRz.out (same25 HZl.out HRl.out) HRo.out ?_))
     refine bodyPost_ret_by (v := .agg (LK .u64 R)) (results_cell_row rfl _ _ (w.heap.size + 2) 23 _ (0, 0) _ rfl (setRow_heap _ _ _ _ _ _ Hres.out) Tryd.underlying23 rfl HRz.out) rfl ?_
     exact ⟨rfl, Hb1.out.trans (below_setRow _ _ _ (by omega))⟩
end Go.Proofs.YtpibnfpgokjnpaaDoor.kfun
