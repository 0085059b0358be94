/-
  Plain facts for the walk of the document's own Permute of layer 5. Conditions: as each theorem says.
  Plain facts for the walk of the document's own Permute of layer 5. Conditions: none.
  What the document's own Permute of layer 5 returns. Conditions: the state has 25 words of 64 bits, the tables have their size.
-/
import Derived.Test.YtjdcmnmnjkkpiaaDoorKq
namespace Go.Proofs.YtjdcmnmnjkkpiaaDoor.rkec
open Go.RowKit
open Go.Proofs.YtjdcmnmnjkkpiaaDoor.arr Go.Proofs.YtjdcmnmnjkkpiaaDoor.mem Go.Proofs.YtjdcmnmnjkkpiaaDoor.kecm Go.Proofs.YtjdcmnmnjkkpiaaDoor.kecb Go.Proofs.YtjdcmnmnjkkpiaaDoor.kstep Go.Proofs.YtjdcmnmnjkkpiaaDoor.kfun

theorem left1 (x r : Nat) (w : World) (hx : x < 18446744073709551616) (hr : rol x 1 = r) :
    Calls Tryd.prog 98 #[.int .u64 (x : Int), .int .i64 1] w fun e w' => e = .returned (.int .u64 (r : Int)) ∧ w' = w := by
  subst hr; exact rols.left_any x 1 w hx (by decide)
theorem z5_is : (#[.int .u64 0, .int .u64 0, .int .u64 0, .int .u64 0, .int .u64 0] : Array Value) = LK .u64 [0, 0, 0, 0, 0] := rfl
def oxy (i : Nat) : Nat := 5 * (i % 5) + i / 5
theorem oxy_lt (i : Nat) (h : i < 25) : oxy i < 25 := by unfold oxy; omega
theorem oxy_inj (i x y : Nat) (hi : i < 25) (hx : x < 5) (hy : y < 5) (h : oxy i = 5 * x + y) : i = x + 5 * y := by unfold oxy at h; omega
theorem src_at (x y : Nat) (hx : x < 5) (hy : y < 5) : src (y + 5 * ((2 * x + 3 * y) % 5)) = x + 5 * y := by
  unfold src
  have : ∀ x : Fin 5, ∀ y : Fin 5, (3 * ((y.val + 5 * ((2 * x.val + 3 * y.val) % 5)) / 5) + (y.val + 5 * ((2 * x.val + 3 * y.val) % 5)) % 5) % 5 + 5 * ((y.val + 5 * ((2 * x.val + 3 * y.val) % 5)) % 5) = x.val + 5 * y.val := by decide
  exact this ⟨x, hx⟩ ⟨y, hy⟩
theorem src_inj (i j : Nat) (hi : i < 25) (hj : j < 25) (h : src i = src j) : i = j := by
  have h1 := dst_src ⟨i, hi⟩
  have h2 := dst_src ⟨j, hj⟩
  simp only at h1 h2
  rw [← h1, ← h2, h]
end Go.Proofs.YtjdcmnmnjkkpiaaDoor.rkec

namespace Go.Proofs.YtjdcmnmnjkkpiaaDoor.rkeb
open Go.RowKit
open Go.Proofs.YtjdcmnmnjkkpiaaDoor.arr Go.Proofs.YtjdcmnmnjkkpiaaDoor.mem Go.Proofs.YtjdcmnmnjkkpiaaDoor.kecm Go.Proofs.YtjdcmnmnjkkpiaaDoor.kecb Go.Proofs.YtjdcmnmnjkkpiaaDoor.kstep Go.Proofs.YtjdcmnmnjkkpiaaDoor.kfun Go.Proofs.YtjdcmnmnjkkpiaaDoor.rkec

theorem sizeT : (Tryd.prog.info? 34).map (·.size) = some 465 := by kernel_rfl
theorem bendl_is (a : List Nat) : bendL a = mkS (kbend.bl a) := rfl
end Go.Proofs.YtjdcmnmnjkkpiaaDoor.rkeb

namespace Go.Proofs.YtjdcmnmnjkkpiaaDoor.rperm
open Go.RowKit
open Go.Proofs.YtjdcmnmnjkkpiaaDoor.arr Go.Proofs.YtjdcmnmnjkkpiaaDoor.mem Go.Proofs.YtjdcmnmnjkkpiaaDoor.kecm Go.Proofs.YtjdcmnmnjkkpiaaDoor.kecb Go.Proofs.YtjdcmnmnjkkpiaaDoor.kstep Go.Proofs.YtjdcmnmnjkkpiaaDoor.kfun Go.Proofs.YtjdcmnmnjkkpiaaDoor.rkec Go.Proofs.YtjdcmnmnjkkpiaaDoor.rkeb

/-- the columns, those below x filled -/
def ct (b : List Nat) (x : Nat) : List Nat := (List.range 5).map fun i => if i < x then kc b i else 0
theorem ct_len (b : List Nat) (x : Nat) : (ct b x).length = 5 := by simp [ct]
theorem ct_zero (b : List Nat) : ct b 0 = [0, 0, 0, 0, 0] := by rfl
theorem ct_get (b : List Nat) (x i : Nat) (h : i < 5) : (ct b x).getD i 0 = if i < x then kc b i else 0 := by simp [ct, List.getD_eq_getElem?_getD, h]
theorem ct_set (b : List Nat) (x v : Nat) (_hx : x < 5) (hv : kc b x = v) : (LK .u64 (ct b x)).setIfInBounds x (.int .u64 (v : Int)) = LK .u64 (ct b (x + 1)) := by
  subst hv
  rw [lk_set]
  congr 1
  apply List.ext_getElem (by rw [List.length_set, ct_len, ct_len])
  intro i h1 h2
  rw [List.getElem_set]
  simp only [ct, List.getElem_map, List.getElem_range]
  by_cases e : x = i
  · subst e; rw [if_pos rfl, if_pos (by omega)]
  · rw [if_neg e]
    by_cases h3 : i < x
    · rw [if_pos h3, if_pos (by omega)]
    · rw [if_neg h3, if_neg (by omega)]
theorem ct_at (b : List Nat) (p c : Nat) (hp : p < 5) (hc : kc b p = c) : (LK .u64 (ct b 5))[p]? = some (.int .u64 (c : Int)) := by
  rw [lk_get _ _ _ (by rw [ct_len]; exact hp), ct_get b 5 p hp, if_pos hp, hc]
theorem one {w W : World} {x : Obj} (h : w.alloc x = W) : W.heap[w.heap.size]? = some x ∧ W.heap.size = w.heap.size + 1 ∧ Below w.heap.size w W := by
  subst h
  exact ⟨heap_at _ _ _ rfl, size_alloc _ _, below_alloc _ _⟩

set_option maxRecDepth 100000 in
set_option maxHeartbeats 4000000 in
theorem perm_any {T : Array Value} {ts rs : List Nat} (a : List Nat) (w : World) (h : St a) (hK : KT T ts rs) :
    Calls Tryd.prog 94 #[.agg T, .agg (LK .u64 a)] w fun e w' => e = .returned (.agg (LK .u64 (permL (fun i => ts.getD i 0) (fun i => rs.getD i 0) a 24))) ∧ Below w.heap.size w w' := by
  have H := Away.mk h
  have HK := Away.mk hK
  obtain ⟨z, HZ⟩ := ex_eq Z
  have HZl : Away (z.length = 25) := ⟨by rw [← HZ.out]; rfl⟩
  have Hz : Away ((#[.int .u64 0, .int .u64 0, .int .u64 0, .int .u64 0, .int .u64 0, .int .u64 0, .int .u64 0, .int .u64 0, .int .u64 0, .int .u64 0, .int .u64 0, .int .u64 0, .int .u64 0, .int .u64 0, .int .u64 0, .int .u64 0, .int .u64 0, .int .u64 0, .int .u64 0, .int .u64 0, .int .u64 0, .int .u64 0, .int .u64 0, .int .u64 0, .int .u64 0] : Array Value) = LK .u64 z) := ⟨by rw [← HZ.out]; exact z_is⟩
  clear h HZ hK
  obtain ⟨R, HR⟩ := ex_eq (permL (fun i => ts.getD i 0) (fun i => rs.getD i 0) a 24)
  have HRl : Away (R.length = 25) := ⟨by rw [← HR.out]; exact (permL_st (fun i => ts.getD i 0) _ HK.out.br H.out 24).len⟩
  have HRo := Away.mk (lk_one .u64 R)
  have HRz := Away.mk (size25 HRl.out)
  rw [HR.out]
  go_enter Tryd.func94, Tryd.ntmps94
  go_wp2_with fail
  rw [Hz.out]
  obtain ⟨W, hW⟩ : ∃ x, ((w.alloc (.cells T 34)).alloc (.cells (LK .u64 a) 98)).alloc (.cells (LK .u64 z) 98) = x := ⟨_, rfl⟩
  obtain ⟨b0, b1, b2, hWs, hWb⟩ := three hW
  rw [hW]
  clear hW
  have B0 := Away.mk b0
  have B1 := Away.mk b1
  have B2 := Away.mk b2
  have HWs := Away.mk hWs
  have HWb := Away.mk hWb
  clear hWs hWb b0 b1 b2
  go_loopw [14] (fun i wr => ∃ k : Nat, k ≤ 24 ∧ i = .int .i64 (k : Int) ∧ Away (At (w.heap.size + 1) (LK .u64 (permL (fun i => ts.getD i 0) (fun i => rs.getD i 0) a k)) 98 W wr)) (fun i _ => 24 - (intOf i).toNat)
  case atStart => exact ⟨0, by decide, rfl, ⟨At.refl B1.out⟩⟩
  case round =>
   obtain ⟨k, hk, rfl, A0⟩ := hrel
   by_cases hlt : k < 24
   · have hkz : (k : Int) < 24 := by omega
     clear hk
     obtain ⟨cur, Hcur⟩ := ex_eq (permL (fun i => ts.getD i 0) (fun i => rs.getD i 0) a k)
     have HC : Away (St cur) := ⟨by rw [← Hcur.out]; exact permL_st (fun i => ts.getD i 0) _ HK.out.br H.out k⟩
     rw [Hcur.out] at A0
     go_wp2_with fail
     rw [z5_is]
     obtain ⟨V, hV⟩ : ∃ x, wr.alloc (.cells (LK .u64 [0, 0, 0, 0, 0]) 121) = x := ⟨_, rfl⟩
     obtain ⟨v0, v1, v2⟩ := one hV
     rw [hV]
     clear hV
     obtain ⟨gc, hgc⟩ : ∃ x, wr.heap.size = x := ⟨_, rfl⟩
     have G : Away (W.heap.size ≤ gc ∧ V.heap.size = gc + 1) := ⟨hgc ▸ A0.out.size, hgc ▸ v1⟩
     have AV : Away (At (w.heap.size + 1) (LK .u64 cur) 98 W V) := ⟨A0.out.later v2⟩
     rw [hgc] at v0
     rw [hgc]
     have V0 := Away.mk v0
     clear v0 v1 v2 hgc A0
     go_loopw [17] (fun i wr => ∃ x : Nat, x ≤ 5 ∧ i = .int .i64 (x : Int) ∧ Away (At gc (LK .u64 (ct cur x)) 121 V wr)) (fun i _ => 5 - (intOf i).toNat)
     case atStart => exact ⟨0, by decide, rfl, ⟨At.refl V0.out⟩⟩
     case round =>
      obtain ⟨x, hx, rfl, A0⟩ := hrel
      by_cases hlu : x < 5
      · have hxz : (x : Int) < 5 := by omega
        have hxz2 : (x : Int) < 25 := by omega
        have hA := A0.out.other (by have := G.out; have := HWs.out; omega) (by have := G.out; have := HWs.out; omega) AV.out.row
        obtain ⟨q1, hq1⟩ : ∃ q, q = x + 5 := ⟨_, rfl⟩
        have f1 : IntKind.i64.wrap ((x : Int) + 5) = (q1 : Int) := by rw [IntKind.wrap_i64]; omega
        have z1 : (q1 : Int) < 25 := by omega
        obtain ⟨q2, hq2⟩ : ∃ q, q = x + 10 := ⟨_, rfl⟩
        have f2 : IntKind.i64.wrap ((x : Int) + 10) = (q2 : Int) := by rw [IntKind.wrap_i64]; omega
        have z2 : (q2 : Int) < 25 := by omega
        obtain ⟨q3, hq3⟩ : ∃ q, q = x + 15 := ⟨_, rfl⟩
        have f3 : IntKind.i64.wrap ((x : Int) + 15) = (q3 : Int) := by rw [IntKind.wrap_i64]; omega
        have z3 : (q3 : Int) < 25 := by omega
        obtain ⟨q4, hq4⟩ : ∃ q, q = x + 20 := ⟨_, rfl⟩
        have f4 : IntKind.i64.wrap ((x : Int) + 20) = (q4 : Int) := by rw [IntKind.wrap_i64]; omega
        have z4 : (q4 : Int) < 25 := by omega
        obtain ⟨y0, hy0⟩ : ∃ y, g cur x = y := ⟨_, rfl⟩
        have c0 := lane_at HC.out.len hA x y0 (by omega) hy0
        obtain ⟨y1, hy1⟩ : ∃ y, g cur q1 = y := ⟨_, rfl⟩
        have c1 := lane_at HC.out.len hA q1 y1 (by omega) hy1
        obtain ⟨y2, hy2⟩ : ∃ y, g cur q2 = y := ⟨_, rfl⟩
        have c2 := lane_at HC.out.len hA q2 y2 (by omega) hy2
        obtain ⟨y3, hy3⟩ : ∃ y, g cur q3 = y := ⟨_, rfl⟩
        have c3 := lane_at HC.out.len hA q3 y3 (by omega) hy3
        obtain ⟨y4, hy4⟩ : ∃ y, g cur q4 = y := ⟨_, rfl⟩
        have c4 := lane_at HC.out.len hA q4 y4 (by omega) hy4
        obtain ⟨v, hv⟩ : ∃ v, kc cur x = v := ⟨_, rfl⟩
        have E := xor5 y0 y1 y2 y3 y4 v (hy0 ▸ HC.out.lt _) (hy1 ▸ HC.out.lt _) (hy2 ▸ HC.out.lt _) (hy3 ▸ HC.out.lt _) (hy4 ▸ HC.out.lt _) (by rw [← hv, kc, ← hy0, ← hy1, ← hy2, ← hy3, ← hy4, hq1, hq2, hq3, hq4])
        have HS := Away.mk (ct_set cur x v hlu hv)
        clear hA hq1 hq2 hq3 hq4 hy0 hy1 hy2 hy3 hy4 hv
        go_wp2_with fail
        refine still_tail 25 (by kernel_rfl) (by kernel_rfl) ?_
        simp only [List.take_succ_cons, List.take_zero, List.drop_succ_cons, List.drop_zero]
        repeat still_step
        refine wpStill_nil ?_
        have A1 : Away (At gc (LK .u64 (ct cur x)) 121 V wr.drew) := ⟨at_drew A0.out⟩
        clear c0 c1 c2 c3 c4 f1 f2 f3 f4
        with_reducible refine wpList_put2 A1 rfl _ _ _ rfl rfl ?_
        refine ⟨_, _, _, rfl, rfl, rfl, by rw [lk_size, ct_len]; exact hlu, ?_⟩
        intro wn HRn
        rw [HS.out] at HRn
        go_wp2_with fail
        go_roundw
        case rel => exact ⟨x + 1, by omega, by go_num, HRn⟩
        case measure => simp [intOf]; omega
      · obtain rfl : x = 5 := by omega
        simp only [Int.cast_ofNat_Int]
        clear hx hlu
        go_wp2_with fail
        rw [Hz.out]
        have AW : Away (At (w.heap.size + 1) (LK .u64 cur) 98 W wr) := ⟨at_over AV.out G.out.1 (by have := G.out; have := HWs.out; omega) A0.out⟩
        have hcc := A0.out.row
        have hgs : gc < wr.heap.size := A0.out.lt
        obtain ⟨V2, hV⟩ : ∃ x, wr.alloc (.cells (LK .u64 z) 98) = x := ⟨_, rfl⟩
        obtain ⟨v0, v1, v2⟩ := one hV
        rw [hV]
        clear hV
        obtain ⟨gb, hgb⟩ : ∃ x, wr.heap.size = x := ⟨_, rfl⟩
        have G2 : Away (W.heap.size ≤ gb ∧ V2.heap.size = gb + 1 ∧ gc < gb) := ⟨hgb ▸ AW.out.size, hgb ▸ v1, hgb ▸ hgs⟩
        have AX : Away (At (w.heap.size + 1) (LK .u64 cur) 98 W V2) := ⟨AW.out.later v2⟩
        have VC : Away (V2.heap[gc]? = some (.cells (LK .u64 (ct cur 5)) 121 (0, 0))) := ⟨(v2.block _ hgs).trans hcc⟩
        rw [hgb] at v0
        rw [hgb]
        have VB := Away.mk v0
        clear v0 v1 v2 hgb A0 AW hcc hgs AV V0
        go_loopw [46] (fun i wr => ∃ x : Nat, x ≤ 5 ∧ i = .int .i64 (x : Int) ∧ Away (At gb (LK .u64 (kecm.part (fun j => oxy (src j)) (kturn.tl ts (mixL cur)) (g z) (5 * x))) 98 V2 wr)) (fun i _ => 5 - (intOf i).toNat)
        case atStart =>
         refine ⟨0, by decide, rfl, ⟨?_⟩⟩
         rw [Nat.mul_zero, part_zero, mkS_eta HZl.out]
         exact At.refl VB.out
        case round =>
         obtain ⟨x, hx, rfl, A0⟩ := hrel
         by_cases hlu : x < 5
         · have hxz : (x : Int) < 5 := by omega
           clear hx
           obtain ⟨dd, hd⟩ : ∃ d, kd cur x = d := ⟨_, rfl⟩
           obtain ⟨k4, hk4⟩ : ∃ q, q = x + 4 := ⟨_, rfl⟩
           obtain ⟨k1, hk1⟩ : ∃ q, q = x + 1 := ⟨_, rfl⟩
           obtain ⟨p4, hp4⟩ : ∃ q, (x + 4) % 5 = q := ⟨_, rfl⟩
           obtain ⟨p1, hp1⟩ : ∃ q, (x + 1) % 5 = q := ⟨_, rfl⟩
           obtain ⟨c, hc⟩ : ∃ c, kc cur p4 = c := ⟨_, rfl⟩
           obtain ⟨e, he⟩ : ∃ c, kc cur p1 = c := ⟨_, rfl⟩
           obtain ⟨r, hr⟩ : ∃ c, rol (kc cur p1) 1 = c := ⟨_, rfl⟩
           have be : e < 18446744073709551616 := he ▸ kc_lt HC.out p1
           have bd : dd < 18446744073709551616 := hd ▸ kd_lt HC.out x
           have Her := Away.mk (show rol e 1 = r by rw [← he, hr])
           have D := xor2 c r dd (hc ▸ kc_lt HC.out p4) (hr ▸ rol_lt _ _ (kc_lt HC.out p1)) (kd_is cur x p4 p1 c r dd hp4 hp1 hc hr hd)
           have w4 : IntKind.i64.wrap ((x : Int) + 4) = (k4 : Int) := by rw [IntKind.wrap_i64]; omega
           have w1 : IntKind.i64.wrap ((x : Int) + 1) = (k1 : Int) := by rw [IntKind.wrap_i64]; omega
           have m4 : (k4 : Int).tmod 5 = (p4 : Int) := by rw [Int.tmod_eq_emod_of_nonneg (by omega)]; omega
           have m1 : (k1 : Int).tmod 5 = (p1 : Int) := by rw [Int.tmod_eq_emod_of_nonneg (by omega)]; omega
           have l4 : (p4 : Int) < 5 := by omega
           have l1 : (p1 : Int) < 5 := by omega
           have hcr := A0.out.other (by have := G2.out; omega) (by have := G2.out; omega) VC.out
           have c4 : wr.cell? ⟨gc, p4, none⟩ = some (.int .u64 (c : Int)) := cell_at hcr (ct_at cur p4 c (by omega) hc)
           have c1 : wr.cell? ⟨gc, p1, none⟩ = some (.int .u64 (e : Int)) := cell_at hcr (ct_at cur p1 e (by omega) he)
           have Hd := Away.mk hd
           clear hd hc he hr hp4 hp1 hk4 hk1 hcr
           go_wp2_with fail
           refine still_all (by kernel_rfl) (by kernel_rfl) ?_
           repeat still_step
           still_call (left1 e r _ be Her.out)
           repeat still_step
           refine wpStill_nil ?_
           clear c4 c1 w4 w1 m4 m1 D
           have A1 : Away (At gb (LK .u64 (kecm.part (fun j => oxy (src j)) (kturn.tl ts (mixL cur)) (g z) (5 * x))) 98 V2 wr.drew) := ⟨at_drew A0.out⟩
           clear A0
           go_wp2_with fail
           go_loopw [61] (fun i wr => ∃ y : Nat, y ≤ 5 ∧ i = .int .i64 (y : Int) ∧ Away (At gb (LK .u64 (kecm.part (fun j => oxy (src j)) (kturn.tl ts (mixL cur)) (g z) (5 * x + y))) 98 V2 wr)) (fun i _ => 5 - (intOf i).toNat)
           case atStart => exact ⟨0, by decide, rfl, A1⟩
           case round =>
            clear A1
            obtain ⟨y, hy, rfl, A0⟩ := hrel
            by_cases hlv : y < 5
            · have hyz : (y : Int) < 5 := by omega
              clear hy
              have f1 : IntKind.i64.wrap (2 * (x : Int)) = ((2 * x : Nat) : Int) := by rw [IntKind.wrap_i64]; omega
              have f2 : IntKind.i64.wrap (3 * (y : Int)) = ((3 * y : Nat) : Int) := by rw [IntKind.wrap_i64]; omega
              have f7 : IntKind.i64.wrap (5 * (y : Int)) = ((5 * y : Nat) : Int) := by rw [IntKind.wrap_i64]; omega
              obtain ⟨xa, hxa⟩ : ∃ q : Nat, q = 2 * x := ⟨_, rfl⟩
              obtain ⟨yb, hyb⟩ : ∃ q : Nat, q = 3 * y := ⟨_, rfl⟩
              obtain ⟨yf, hyf⟩ : ∃ q : Nat, q = 5 * y := ⟨_, rfl⟩
              rw [← hxa] at f1
              rw [← hyb] at f2
              rw [← hyf] at f7
              obtain ⟨c, hc⟩ : ∃ q : Nat, q = xa + yb := ⟨_, rfl⟩
              have f3 : IntKind.i64.wrap ((xa : Int) + (yb : Int)) = (c : Int) := by rw [IntKind.wrap_i64]; omega
              obtain ⟨d, hd⟩ : ∃ q : Nat, q = c % 5 := ⟨_, rfl⟩
              have f4 : (c : Int).tmod 5 = (d : Int) := by rw [Int.tmod_eq_emod_of_nonneg (by omega)]; omega
              obtain ⟨e, he⟩ : ∃ q : Nat, q = 5 * d := ⟨_, rfl⟩
              have f5 : IntKind.i64.wrap (5 * (d : Int)) = (e : Int) := by rw [IntKind.wrap_i64]; omega
              obtain ⟨j, hj⟩ : ∃ q : Nat, q = y + e := ⟨_, rfl⟩
              have f6 : IntKind.i64.wrap ((y : Int) + (e : Int)) = (j : Int) := by rw [IntKind.wrap_i64]; omega
              obtain ⟨i, hi⟩ : ∃ q : Nat, q = x + yf := ⟨_, rfl⟩
              have f8 : IntKind.i64.wrap ((x : Int) + (yf : Int)) = (i : Int) := by rw [IntKind.wrap_i64]; omega
              have hi25 : i < 25 := by omega
              have hj25 : j < 25 := by omega
              have iz : (i : Int) < 25 := by omega
              have jz : (j : Int) < 25 := by omega
              have hsj : src j = i := by rw [hj, he, hd, hc, hxa, hyb, hi, hyf]; exact src_at x y hlu hlv
              have hoi : oxy i = 5 * x + y := by unfold oxy; omega
              obtain ⟨l, hl⟩ : ∃ x, g cur i = x := ⟨_, rfl⟩
              obtain ⟨m, hm⟩ : ∃ x, g (mixL cur) i = x := ⟨_, rfl⟩
              have bm : m < 18446744073709551616 := hm ▸ (mixL_st HC.out).lt i
              have V := xor2 l dd m (hl ▸ HC.out.lt i) bd (by rw [← hm, mixL, mkS_g _ i hi25, hl, kd_mod cur i x (by omega), Hd.out])
              obtain ⟨t, ht⟩ : ∃ t, ts.getD i 0 = t := ⟨_, rfl⟩
              have bt : t < 9223372036854775808 := ht ▸ HK.out.bt i
              have cl := lane_at HC.out.len (A0.out.other (by have := G2.out; have := HWs.out; omega) (by have := G2.out; have := HWs.out; omega) AX.out.row) i l hi25 hl
              have ct : wr.cell? ⟨w.heap.size, 184 + i, none⟩ = some (.int .i64 (t : Int)) := by
                rw [← ht]; exact cell_at (A0.out.other (by have := G2.out; have := HWs.out; omega) (by have := G2.out; have := HWs.out; omega) (AX.out.other (by have := HWs.out; omega) (by omega) B0.out)) (HK.out.t i hi25)
              have HS := Away.mk (part_lane (ord := fun j => oxy (src j)) (f := kturn.tl ts (mixL cur)) (d := g z) (m := 5 * x + y) j (rol m (t % 64)) hj25 (by rw [hsj, hoi]) (fun i' hi' e' => src_inj i' j hi' hj25 (by rw [hsj]; have h1 := oxy_inj (src i') x y (src_lt i' hi') hlu hlv e'; omega)) (by rw [kturn.tl, hsj, hm, ht]))
              clear hxa hyb hyf hc hd he hj hi hsj hoi hl ht hm
              go_wp2_with fail
              refine still_tail 26 (by kernel_rfl) (by kernel_rfl) ?_
              simp only [List.take_succ_cons, List.take_zero, List.drop_succ_cons, List.drop_zero]
              repeat still_step
              still_call (rols.left_any m t _ bm bt)
              repeat still_step
              refine wpStill_nil ?_
              have A1 : Away (At gb (LK .u64 (kecm.part (fun j => oxy (src j)) (kturn.tl ts (mixL cur)) (g z) (5 * x + y))) 98 V2 wr.drew) := ⟨at_drew A0.out⟩
              clear cl ct f1 f2 f3 f4 f5 f6 f7 f8 V
              with_reducible refine wpList_put2 A1 rfl _ _ _ rfl rfl ?_
              refine ⟨_, _, _, rfl, rfl, rfl, by rw [lk25 _ (part_len _ _ _ _)]; exact hj25, ?_⟩
              intro wn HRn
              rw [HS.out] at HRn
              go_wp2_with fail
              go_roundw
              case rel => exact ⟨y + 1, by omega, by go_num, HRn⟩
              case measure => simp [intOf]; omega
            · obtain rfl : y = 5 := by omega
              simp only [Int.cast_ofNat_Int]
              go_wp2_with fail
              go_roundw
              case rel => exact ⟨x + 1, by omega, by go_num, by rw [Nat.mul_add]; exact A0⟩
              case measure => simp [intOf]; omega
         · obtain rfl : x = 5 := by omega
           simp only [Int.cast_ofNat_Int]
           clear hx hlu
           obtain ⟨tb, Htb⟩ := ex_eq (turnL (fun i => ts.getD i 0) (mixL cur))
           have HT : Away (St tb) := ⟨by rw [← Htb.out]; exact turnL_st _ (mixL_st HC.out)⟩
           have hfin := A0.out
           rw [part_all _ _ _ _ (fun i hi => oxy_lt _ (src_lt i hi)), ← kturn.turn_is, Htb.out] at hfin
           obtain ⟨V3, hV3⟩ : ∃ x, wr = x := ⟨_, rfl⟩
           rw [hV3] at hfin
           rw [hV3]
           clear hV3 A0
           have AY : Away (At (w.heap.size + 1) (LK .u64 cur) 98 W V3) := ⟨at_over AX.out G2.out.1 (by have := G2.out; have := HWs.out; omega) hfin⟩
           have VB3 := Away.mk hfin.row
           have G3 : Away (gb < V3.heap.size) := ⟨hfin.lt⟩
           clear hfin AX VB VC
           go_wp2_with fail
           go_loopw [12] (fun i wr => ∃ n : Nat, n ≤ 25 ∧ n % 5 = 0 ∧ i = .int .i64 (n : Int) ∧ Away (At (w.heap.size + 1) (LK .u64 (kecm.part (fun i => i) (kbend.bl tb) (g cur) n)) 98 V3 wr)) (fun i _ => 25 - (intOf i).toNat)
           case atStart =>
            refine ⟨0, by decide, rfl, rfl, ⟨?_⟩⟩
            rw [part_zero, mkS_eta HC.out.len]
            exact At.refl AY.out.row
           case round =>
            obtain ⟨n, hn, hm, rfl, A0⟩ := hrel
            by_cases hlu : n < 25
            · have hnz : (n : Int) < 25 := by omega
              have hn20 : n ≤ 20 := by omega
              have Hm := Away.mk hm
              clear hn hlu hm
              go_wp2_with fail
              go_loopw [96] (fun i wr => ∃ x : Nat, x ≤ 5 ∧ i = .int .i64 (x : Int) ∧ Away (At (w.heap.size + 1) (LK .u64 (kecm.part (fun i => i) (kbend.bl tb) (g cur) (n + x))) 98 V3 wr)) (fun i _ => 5 - (intOf i).toNat)
              case atStart => exact ⟨0, by decide, rfl, A0⟩
              case round =>
               clear A0
               obtain ⟨x, hx, rfl, A0⟩ := hrel
               by_cases hlv : x < 5
               · have hxz : (x : Int) < 5 := by omega
                 have hm := Hm.out
                 obtain ⟨i, hi⟩ : ∃ q : Nat, q = n + x := ⟨_, rfl⟩
                 have f8 : IntKind.i64.wrap ((x : Int) + (n : Int)) = (i : Int) := by rw [IntKind.wrap_i64]; omega
                 obtain ⟨x1, hx1⟩ : ∃ q : Nat, q = x + 1 := ⟨_, rfl⟩
                 have f1 : IntKind.i64.wrap ((x : Int) + 1) = (x1 : Int) := by rw [IntKind.wrap_i64]; omega
                 obtain ⟨p1, hp1⟩ : ∃ q : Nat, q = x1 % 5 := ⟨_, rfl⟩
                 have g1 : (x1 : Int).tmod 5 = (p1 : Int) := by rw [Int.tmod_eq_emod_of_nonneg (by omega)]; omega
                 obtain ⟨j1, hj1⟩ : ∃ q : Nat, q = p1 + n := ⟨_, rfl⟩
                 have e1 : IntKind.i64.wrap ((p1 : Int) + (n : Int)) = (j1 : Int) := by rw [IntKind.wrap_i64]; omega
                 obtain ⟨x2, hx2⟩ : ∃ q : Nat, q = x + 2 := ⟨_, rfl⟩
                 have f2 : IntKind.i64.wrap ((x : Int) + 2) = (x2 : Int) := by rw [IntKind.wrap_i64]; omega
                 obtain ⟨p2, hp2⟩ : ∃ q : Nat, q = x2 % 5 := ⟨_, rfl⟩
                 have g2 : (x2 : Int).tmod 5 = (p2 : Int) := by rw [Int.tmod_eq_emod_of_nonneg (by omega)]; omega
                 obtain ⟨j2, hj2⟩ : ∃ q : Nat, q = p2 + n := ⟨_, rfl⟩
                 have e2 : IntKind.i64.wrap ((p2 : Int) + (n : Int)) = (j2 : Int) := by rw [IntKind.wrap_i64]; omega
                 have hi25 : i < 25 := by omega
                 have h125 : j1 < 25 := by omega
                 have h225 : j2 < 25 := by omega
                 have iz : (i : Int) < 25 := by omega
                 have z1 : (j1 : Int) < 25 := by omega
                 have z2 : (j2 : Int) < 25 := by omega
                 have q1 : (i % 5 + 1) % 5 + 5 * (i / 5) = j1 := by omega
                 have q2 : (i % 5 + 2) % 5 + 5 * (i / 5) = j2 := by omega
                 obtain ⟨l, hl⟩ : ∃ x, g tb i = x := ⟨_, rfl⟩
                 obtain ⟨m, hm1⟩ : ∃ x, g tb j1 = x := ⟨_, rfl⟩
                 obtain ⟨u, hu⟩ : ∃ x, g tb j2 = x := ⟨_, rfl⟩
                 obtain ⟨v, hv⟩ : ∃ x, kbend.bl tb i = x := ⟨_, rfl⟩
                 have hA := A0.out.other G3.out (by have := G2.out; have := HWs.out; omega) VB3.out
                 have cl := lane_at HT.out.len hA i l hi25 hl
                 have cm := lane_at HT.out.len hA j1 m h125 hm1
                 have cn := lane_at HT.out.len hA j2 u h225 hu
                 have HV := Away.mk (bend3 l m u v (hl ▸ HT.out.lt _) (hm1 ▸ HT.out.lt _) (hu ▸ HT.out.lt _) (kbend.bl_is tb i j1 j2 l m u v q1 q2 hl hm1 hu hv))
                 have HS := Away.mk (part_lane (ord := fun i => i) (f := kbend.bl tb) (d := g cur) (m := n + x) i v hi25 hi (fun i' hi' e' => e'.trans hi.symm) hv)
                 clear hi hx1 hp1 hj1 hx2 hp2 hj2 q1 q2 hl hm1 hu hv hA hm
                 go_wp2_with fail
                 refine still_tail 26 (by kernel_rfl) (by kernel_rfl) ?_
                 simp only [List.take_succ_cons, List.take_zero, List.drop_succ_cons, List.drop_zero]
                 repeat still_step
                 refine wpStill_nil ?_
                 have A1 : Away (At (w.heap.size + 1) (LK .u64 (kecm.part (fun i => i) (kbend.bl tb) (g cur) (n + x))) 98 V3 wr.drew) := ⟨at_drew A0.out⟩
                 clear cl cm cn f1 f2 f8 g1 g2 e1 e2
                 with_reducible refine wpList_put2 A1 rfl _ _ _ rfl rfl ?_
                 refine ⟨_, _, _, rfl, rfl, rfl, by rw [lk25 _ (part_len _ _ _ _)]; exact hi25, ?_⟩
                 intro wn HRm
                 have HRn : Away (At (w.heap.size + 1) (LK .u64 (kecm.part (fun i => i) (kbend.bl tb) (g cur) (n + x + 1))) 98 V3 wn) := ⟨by rw [← HS.out, ← HV.out]; exact HRm.out⟩
                 clear HRm
                 go_wp2_with fail
                 go_roundw
                 case rel => exact ⟨x + 1, by omega, by go_num, HRn⟩
                 case measure => simp [intOf]; omega
               · obtain rfl : x = 5 := by omega
                 simp only [Int.cast_ofNat_Int]
                 go_wp2_with fail
                 go_roundw
                 case rel => exact ⟨n + 5, by omega, by have := Hm.out; omega, by go_num, A0⟩
                 case measure => simp [intOf]; omega
            · obtain rfl : n = 25 := by omega
              simp only [Int.cast_ofNat_Int]
              clear hn hm hlu
              obtain ⟨s, Hs⟩ := ex_eq (bendL tb)
              have Hst : Away (St s) := ⟨by rw [← Hs.out]; exact bendL_st HT.out⟩
              have hfin := A0.out
              rw [part_all _ _ _ _ (fun i hi => hi), ← bendl_is, Hs.out] at hfin
              have AE : Away (At (w.heap.size + 1) (LK .u64 s) 98 W wr) := ⟨AY.out.trans hfin⟩
              clear hfin
              obtain ⟨x, hx⟩ : ∃ x, g s 0 = x := ⟨_, rfl⟩
              obtain ⟨c, hc⟩ : ∃ c, rs.getD k 0 = c := ⟨_, rfl⟩
              obtain ⟨v, hv⟩ : ∃ v, x ^^^ c = v := ⟨_, rfl⟩
              have V := xor2 x c v (hx ▸ Hst.out.lt 0) (hc ▸ HK.out.br k) hv
              have cx := lane_at Hst.out.len AE.out.row 0 x (by decide) hx
              have cr : wr.cell? ⟨w.heap.size, 160 + k, none⟩ = some (.int .u64 (c : Int)) := by rw [← hc]; exact cell_at (AE.out.other (by have := HWs.out; omega) (by omega) B0.out) (HK.out.r k hlt)
              have HS : Away ((LK .u64 s).setIfInBounds 0 (.int .u64 (v : Int)) = LK .u64 (permL (fun i => ts.getD i 0) (fun i => rs.getD i 0) a (k + 1))) := ⟨by
                rw [iota_set c v Hst.out.len (by rw [hx, hv]), permL, Hcur.out, roundL, Htb.out, Hs.out, hc]⟩
              clear hx hc hv
              go_wp2_with fail
              refine still_tail 8 (by kernel_rfl) (by kernel_rfl) ?_
              simp only [List.take_succ_cons, List.take_zero, List.drop_succ_cons, List.drop_zero]
              repeat still_step
              refine wpStill_nil ?_
              have A4 : Away (At (w.heap.size + 1) (LK .u64 s) 98 W wr.drew) := ⟨at_drew AE.out⟩
              clear cx cr V
              with_reducible refine wpList_put2 A4 rfl _ _ _ rfl rfl ?_
              refine ⟨_, _, _, rfl, rfl, rfl, by rw [lk25 _ Hst.out.len]; decide, ?_⟩
              intro w5 G5
              rw [HS.out] at G5
              go_wp2_with fail
              go_roundw
              case rel => exact ⟨k + 1, by omega, by go_num, G5⟩
              case measure => simp [intOf]; omega
   · obtain rfl : k = 24 := by omega
     simp only [Int.cast_ofNat_Int]
     have hfin := A0.out
     rw [HR.out] at hfin
     have Hrow := Away.mk hfin.row
     have Hres : Away (wr.heap[w.heap.size + 2]? = some (.cells (LK .u64 z) 98 (0, 0))) := ⟨hfin.other (by have := HWs.out; omega) (by omega) B2.out⟩
     have Hb5 : Away (Below w.heap.size w wr) := ⟨HWb.out.trans (hfin.below (by have := HWs.out; omega) (by omega))⟩
     clear hfin
     go_wp2_with (first
       | (refine wpList_load_row rfl 98 _ rfl (w.heap.size + 1) rfl 98 (LK .u64 R) (0, 0) _ Hrow.out Tryd.underlying98 rfl HRz.out ?_)
       | (refine wpList_store_row rfl 98 _ _ rfl (w.heap.size + 2) (LK .u64 R) rfl rfl 98 _ Hres.out HRz.out (same25 HZl.out HRl.out) HRo.out ?_))
     refine bodyPost_ret_by (v := .agg (LK .u64 R)) (results_cell_row rfl _ _ (w.heap.size + 2) 98 _ (0, 0) _ rfl (setRow_heap _ _ _ _ _ _ Hres.out) Tryd.underlying98 rfl HRz.out) rfl ?_
     exact ⟨rfl, Hb5.out.trans (below_setRow _ _ _ (by omega))⟩
end Go.Proofs.YtjdcmnmnjkkpiaaDoor.rperm
