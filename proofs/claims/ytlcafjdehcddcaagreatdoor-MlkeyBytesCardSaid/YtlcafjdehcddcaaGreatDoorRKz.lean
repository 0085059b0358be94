/-
  What the document's own Sizes of layer 12 returns. Conditions: none.
-/
import Derived.Test.YtlcafjdehcddcaaGreatDoorMlk
import Derived.Test.YtlcafjdehcddcaaGreatDoorRfZ
import Derived.Test.YtlcafjdehcddcaaGreatDoorRBa
import Derived.OwnWalk
namespace Go.Proofs.YtlcafjdehcddcaaGreatDoor
namespace rksz
open Go Go.RowKit
open arr mem stil polys polt rbita rndm mlkm
set_option maxRecDepth 100000 in
set_option maxHeartbeats 8000000 in
theorem sizes_any (k l e t a b o s : Int) (w : World) :
 Calls Tryz.prog 8 #[.agg #[.int .i64 k, .int .i64 l, .int .i64 e, .int .i64 t, .int .i64 a, .int .i64 b, .int .i64 o, .int .i64 s]] w fun x w' => x = .returned (szs k l e t a b o s) ∧ Below w.heap.size w w' := by
 have HR0 := fun w1 => rfright.right_any k l e t a b o s w1
 obtain ⟨V, HV⟩ := ex_eq (szs k l e t a b o s)
 rw [HV.out]
 obtain ⟨C, HC⟩ := ex_eq (#[.int .i64 k, .int .i64 l, .int .i64 e, .int .i64 t, .int .i64 a, .int .i64 b, .int .i64 o, .int .i64 s] : Array Value)
 rw [HC.out] at HR0 ⊢
 have HCs : Away ((Tryz.prog.info? 23).map (·.size) = some C.size) := ⟨by rw [← HC.out]; kernel_rfl⟩
 obtain ⟨W, hW⟩ : ∃ x, w.alloc (.cells C 23) = x := ⟨_, rfl⟩
 obtain ⟨r0, hWs, b0⟩ := one hW
 have L0 : Away (W.heap[w.heap.size]? = some (.cells C 23 (0, 0))) := ⟨r0⟩
 have BW := Away.mk b0
 have HWs := Away.mk hWs
 have HW := Away.mk hW
 clear hW r0 b0 hWs
 by_cases h : latt k l e t a b o s = true
 rotate_left
 ·have h : latt k l e t a b o s = false := by simpa using h
  have hVe : Away (V = .tuple #[.int .i64 0, .int .i64 0, .int .i64 0]) := ⟨by rw [← HV.out]; unfold szs; rw [h]; rfl⟩
  rw [h] at HR0
  have HR := Away.mk HR0
  clear HR0 h
  go_enter Tryz.func8, Tryz.ntmps8
  go_wp2_with (first
   | (rw [HW.out])
   | (refine wpList_load_row rfl 23 _ rfl w.heap.size rfl 23 _ (0, 0) _ L0.out Tryz.underlying23 rfl HCs.out ?_))
  refine (HR.out _).mono ?_
  rintro x u1 ⟨rfl, hb1⟩
  have B1 : Away (Below w.heap.size w u1) := ⟨BW.out.trans (hb1.mono (by rw [HWs.out]; omega))⟩
  clear hb1
  go_wp2_with fail
  go_ret3
  exact ⟨by rw [hVe.out]; rfl, B1.out⟩
 rw [h] at HR0
 have HR := Away.mk HR0
 obtain ⟨⟨k1, k8⟩, ⟨l1, l8⟩, he, ha, ⟨o1, o8⟩, hs⟩ := latt_all h
 obtain ⟨E, hE⟩ : ∃ E : Nat, lb (2 * e).toNat = E := ⟨_, rfl⟩
 obtain ⟨A, hA⟩ : ∃ A : Nat, lb (a - 1).toNat = A := ⟨_, rfl⟩
 have hE3 : E = 3 ∨ E = 4 := by rcases he with rfl | rfl <;> (rw [← hE]; decide +kernel)
 have hA3 : A = 17 ∨ A = 19 := by rcases ha with rfl | rfl <;> (rw [← hA]; decide +kernel)
 have HE : Away (∀ w1 : World, Calls Tryz.prog 36 #[.int .i64 (2 * e)] w1 fun x w' => x = .returned (.int .i64 (E : Int)) ∧ w' = w1) := ⟨fun w1 => by have h := rbita.long_any (2 * e) (by omega) w1; rw [hE] at h; exact h⟩
 have HA : Away (∀ w1 : World, Calls Tryz.prog 36 #[.int .i64 (a - 1)] w1 fun x w' => x = .returned (.int .i64 (A : Int)) ∧ w' = w1) := ⟨fun w1 => by have h := rbita.long_any (a - 1) (by omega) w1; rw [hA] at h; exact h⟩
 obtain ⟨M, hM⟩ : ∃ M : Int, 32 * (E : Int) = M := ⟨_, rfl⟩
 obtain ⟨q, hq⟩ : ∃ q : Int, l + k = q := ⟨_, rfl⟩
 obtain ⟨p, hp⟩ : ∃ p : Int, M * q = p := ⟨_, rfl⟩
 obtain ⟨N, hN⟩ : ∃ N : Int, 32 * ((A : Int) + 1) = N := ⟨_, rfl⟩
 obtain ⟨r, hr⟩ : ∃ r : Int, N * l = r := ⟨_, rfl⟩
 obtain ⟨d, hd⟩ : ∃ d : Int, s / 4 = d := ⟨_, rfl⟩
 have hpb : 0 ≤ p ∧ p ≤ 2048 := by rcases hE3 with rfl | rfl <;> (rw [← hp, ← hM]; omega)
 have hrb : 0 ≤ r ∧ r ≤ 5120 := by rcases hA3 with rfl | rfl <;> (rw [← hr, ← hN]; omega)
 have f1 : IntKind.i64.wrap (2 * e) = 2 * e := by rw [IntKind.wrap_i64]; omega
 have f2 : IntKind.i64.wrap (32 * (E : Int)) = M := by rw [hM, IntKind.wrap_i64]; omega
 have f3 : IntKind.i64.wrap (320 * k) = 320 * k := by rw [IntKind.wrap_i64]; omega
 have f4 : IntKind.i64.wrap (32 + 320 * k) = 32 + 320 * k := by rw [IntKind.wrap_i64]; omega
 have f5 : IntKind.i64.wrap (l + k) = q := by rw [hq, IntKind.wrap_i64]; omega
 have f6 : IntKind.i64.wrap (M * q) = p := by rw [hp, IntKind.wrap_i64]; omega
 have f7 : IntKind.i64.wrap (128 + p) = 128 + p := by rw [IntKind.wrap_i64]; omega
 have f8 : IntKind.i64.wrap (416 * k) = 416 * k := by rw [IntKind.wrap_i64]; omega
 have f9 : IntKind.i64.wrap (128 + p + 416 * k) = 128 + p + 416 * k := by rw [IntKind.wrap_i64]; omega
 have g1 : s.tdiv 4 = d := by rw [Int.tdiv_eq_ediv_of_nonneg (by omega)]; exact hd
 have g1' : IntKind.i64.wrap (s.tdiv 4) = d := by rw [g1, IntKind.wrap_i64]; omega
 have g1'' : IntKind.i64.wrap d = d := by rw [IntKind.wrap_i64]; omega
 have g2 : IntKind.i64.wrap (a - 1) = a - 1 := by rw [IntKind.wrap_i64]; omega
 have g3 : IntKind.i64.wrap ((A : Int) + 1) = (A : Int) + 1 := by rw [IntKind.wrap_i64]; omega
 have g4 : IntKind.i64.wrap (32 * ((A : Int) + 1)) = N := by rw [hN, IntKind.wrap_i64]; omega
 have g5 : IntKind.i64.wrap (N * l) = r := by rw [hr, IntKind.wrap_i64]; omega
 have g6 : IntKind.i64.wrap (d + r) = d + r := by rw [IntKind.wrap_i64]; omega
 have g7 : IntKind.i64.wrap (d + r + o) = d + r + o := by rw [IntKind.wrap_i64]; omega
 have g8 : IntKind.i64.wrap (d + r + o + k) = d + r + o + k := by rw [IntKind.wrap_i64]; omega
 have hVe : Away (V = .tuple #[.int .i64 (32 + 320 * k), .int .i64 (128 + p + 416 * k), .int .i64 (d + r + o + k)]) := ⟨by
  rw [← HV.out]
  unfold szs sz1 sz2 sz3
  rw [if_pos h, hE, hA, hM, hN, hq, hp, hr, hd]⟩
 clear HR0 h he ha hs hE hA hE3 hA3 hM hq hp hN hr hd hpb hrb k1 k8 l1 l8 o1 o8
 go_enter Tryz.func8, Tryz.ntmps8
 go_wp2_with (first
  | (rw [HW.out])
  | (refine wpList_load_row rfl 23 _ rfl w.heap.size rfl 23 _ (0, 0) _ L0.out Tryz.underlying23 rfl HCs.out ?_))
 refine (HR.out _).mono ?_
 rintro x u1 ⟨rfl, hb1⟩
 have B1 : Away (Below w.heap.size w u1) := ⟨BW.out.trans (hb1.mono (by rw [HWs.out]; omega))⟩
 have L1 : u1.heap[w.heap.size]? = some (.cells C 23 (0, 0)) := (hb1.block _ (by rw [HWs.out]; omega)).trans L0.out
 have c0 : u1.cell? ⟨w.heap.size, 0, none⟩ = some (.int .i64 k) := cell_at L1 (by rw [← HC.out]; rfl)
 have c1 : u1.cell? ⟨w.heap.size, 1, none⟩ = some (.int .i64 l) := cell_at L1 (by rw [← HC.out]; rfl)
 have c2 : u1.cell? ⟨w.heap.size, 2, none⟩ = some (.int .i64 e) := cell_at L1 (by rw [← HC.out]; rfl)
 have c4 : u1.cell? ⟨w.heap.size, 4, none⟩ = some (.int .i64 a) := cell_at L1 (by rw [← HC.out]; rfl)
 have c6 : u1.cell? ⟨w.heap.size, 6, none⟩ = some (.int .i64 o) := cell_at L1 (by rw [← HC.out]; rfl)
 have c7 : u1.cell? ⟨w.heap.size, 7, none⟩ = some (.int .i64 s) := cell_at L1 (by rw [← HC.out]; rfl)
 clear hb1 L1
 go_wp2_with fail
 refine (HE.out _).mono ?_
 rintro x u1 ⟨rfl, rfl⟩
 go_wp2_with fail
 refine still_all (by kernel_rfl) (by kernel_rfl) ?_
 repeat still_step
 still_call (HA.out _)
 repeat still_step
 refine wpStill_nil ?_
 clear c0 c1 c2 c4 c6 c7
 go_wp2_with fail
 go_ret3
 exact ⟨by rw [hVe.out]; rfl, B1.out.drew⟩
end rksz
end Go.Proofs.YtlcafjdehcddcaaGreatDoor
