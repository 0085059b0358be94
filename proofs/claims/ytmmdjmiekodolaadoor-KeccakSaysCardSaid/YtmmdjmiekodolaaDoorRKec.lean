/-
  What the document's own Mix, Turn and Bend of layer 5 return. Conditions: the state has 25 words of 64 bits, the tables have their size.
-/
import Derived.Test.YtmmdjmiekodolaaDoorKFun
namespace Go.Proofs.YtmmdjmiekodolaaDoor.rkec
open Go.RowKit
open Go.Proofs.YtmmdjmiekodolaaDoor.arr Go.Proofs.YtmmdjmiekodolaaDoor.mem Go.Proofs.YtmmdjmiekodolaaDoor.kecm Go.Proofs.YtmmdjmiekodolaaDoor.kecb Go.Proofs.YtmmdjmiekodolaaDoor.kstep Go.Proofs.YtmmdjmiekodolaaDoor.kfun

theorem left1 (x r : Nat) (w : World) (hx : x < 18446744073709551616) (hr : rol x 1 = r) :
    Calls Tryd.prog 27 #[.int .u64 (x : Int), .int .i64 1] w fun e w' => e = .returned (.int .u64 (r : Int)) ∧ w' = w := by
  subst hr; exact rols.left_any x 1 w hx (by decide)
theorem z5_is : (#[.int .u64 0, .int .u64 0, .int .u64 0, .int .u64 0, .int .u64 0] : Array Value) = LK .u64 [0, 0, 0, 0, 0] := rfl
theorem ck_set (a : List Nat) (k c x v : Nat) (hc : (ck a k).getD (k % 5) 0 = c) (hx : g a k = x) (hv : c ^^^ x = v) : (LK .u64 (ck a k)).setIfInBounds (k % 5) (.int .u64 (v : Int)) = LK .u64 (ck a (k + 1)) := by
  subst hc hx hv; rw [lk_set, ck]
theorem ck_at (a : List Nat) (p c : Nat) (hp : p < 5) (hc : kc a p = c) : (LK .u64 (ck a 25))[p]? = some (.int .u64 (c : Int)) := by
  rw [lk_get _ _ _ (by rw [ck_len]; exact hp), ck_get a p hp, hc]
theorem mixf_is (a : List Nat) : mixL a = mkS (fun i => g a i ^^^ kd a i) := rfl

set_option maxRecDepth 100000 in
set_option maxHeartbeats 2000000 in
theorem mix_any (a : List Nat) (w : World) (h : St a) :
    Calls Tryd.prog 9 #[.agg (LK .u64 a)] w fun e w' => e = .returned (.agg (LK .u64 (mixL a))) ∧ Below w.heap.size w w' := by
  have H := Away.mk h
  obtain ⟨z, HZ⟩ := ex_eq Z
  have HZl : Away (z.length = 25) := ⟨by rw [← HZ.out]; rfl⟩
  have Hz : Away ((#[.int .u64 0, .int .u64 0, .int .u64 0, .int .u64 0, .int .u64 0, .int .u64 0, .int .u64 0, .int .u64 0, .int .u64 0, .int .u64 0, .int .u64 0, .int .u64 0, .int .u64 0, .int .u64 0, .int .u64 0, .int .u64 0, .int .u64 0, .int .u64 0, .int .u64 0, .int .u64 0, .int .u64 0, .int .u64 0, .int .u64 0, .int .u64 0, .int .u64 0] : Array Value) = LK .u64 z) := ⟨by rw [← HZ.out]; exact z_is⟩
  have HAz := Away.mk (size25 h.len)
  clear h HZ
  obtain ⟨R, HR⟩ := ex_eq (mixL a)
  have HRl : Away (R.length = 25) := ⟨by rw [← HR.out]; exact (mixL_st H.out).len⟩
  have HRo := Away.mk (lk_one .u64 R)
  have HRz := Away.mk (size25 HRl.out)
  rw [HR.out]
  go_enter Tryd.func9, Tryd.ntmps9
  go_wp2_with (refine wpList_load_row rfl 23 _ rfl w.heap.size rfl 23 (LK .u64 a) (0, 0) _ (three (w := w) (x := .cells (LK .u64 a) 23) rfl).1 Tryd.underlying23 rfl HAz.out ?_)
  rw [Hz.out, z5_is]
  obtain ⟨W, hW⟩ : ∃ x, ((w.alloc (.cells (LK .u64 a) 23)).alloc (.cells (LK .u64 z) 23)).alloc (.cells (LK .u64 [0, 0, 0, 0, 0]) 52) = x := ⟨_, rfl⟩
  obtain ⟨b0, b1, b2, hWs, hWb⟩ := three hW
  rw [hW]
  clear hW
  have B0 := Away.mk b0
  have B1 := Away.mk b1
  have B2 := Away.mk b2
  have HWs := Away.mk hWs
  have HWb := Away.mk hWb
  clear hWs hWb b0 b1 b2
  go_loopw [8] (fun i wr => ∃ k : Nat, k ≤ 25 ∧ i = .int .i64 (k : Int) ∧ Away (At (w.heap.size + 2) (LK .u64 (ck a k)) 52 W wr)) (fun i _ => 25 - (intOf i).toNat)
  case atStart => exact ⟨0, by decide, rfl, ⟨At.refl B2.out⟩⟩
  case round =>
    obtain ⟨k, hk, rfl, A0⟩ := hrel
    by_cases hlt : k < 25
    · have hkz : (k : Int) < 25 := by omega
      obtain ⟨x, hx⟩ : ∃ x, g a k = x := ⟨_, rfl⟩
      have bx : x < 18446744073709551616 := hx ▸ H.out.lt k
      have hag : ∀ w : World, (Instr.index 23 (.agg (LK .u64 a)) (.int .i64 (k : Int))).run Tryd.prog w = .ok (.int .u64 (x : Int)) w := fun w =>
        index_row Tryd.underlying23 (by kernel_rfl) (by kernel_rfl) (by kernel_rfl) _ _ k hlt (by rw [lane_get H.out.len k hlt, hx]) w
      obtain ⟨c, hc⟩ : ∃ c, (ck a k).getD (k % 5) 0 = c := ⟨_, rfl⟩
      have bc : c < 18446744073709551616 := hc ▸ ck_lt H.out k _
      obtain ⟨v, hv⟩ : ∃ v, c ^^^ x = v := ⟨_, rfl⟩
      have V := xor2 c x v bc bx hv
      have HS := Away.mk (ck_set a k c x v hc hx hv)
      obtain ⟨q, hq⟩ : ∃ q, k % 5 = q := ⟨_, rfl⟩
      have hq5 : q < 5 := by omega
      have hqz : (q : Int) < 5 := by omega
      have hm : (k : Int) % 5 = (q : Int) := by omega
      have cq : wr.cell? ⟨w.heap.size + 2, q, none⟩ = some (.int .u64 (c : Int)) := cell_at A0.out.row (by rw [← hq, lk_get _ _ _ (by rw [ck_len]; omega), hc])
      rw [hq] at HS
      clear hv hx hc hq
      go_wp2_with ((with_reducible refine wpList_put2 A0 rfl _ _ _ rfl rfl ?_); refine ⟨_, _, _, rfl, rfl, rfl, (by rw [lk_size, ck_len]; assumption), ?_⟩; intro wn HRn)

      rw [HS.out] at HRn
      clear hag HS V cq
      go_roundw
      case rel => exact ⟨k + 1, by omega, by go_num, HRn⟩
      case measure => simp [intOf]; omega
    · obtain rfl : k = 25 := by omega
      simp only [Int.cast_ofNat_Int]
      go_wp2_with fail
      obtain ⟨W1, hW1⟩ : ∃ x, wr = x := ⟨_, rfl⟩
      rw [hW1] at A0
      rw [hW1]
      clear hW1
      have hA1 : Away (W1.heap[w.heap.size]? = some (.cells (LK .u64 a) 23 (0, 0))) := ⟨A0.out.other (by have := HWs.out; omega) (by omega) B0.out⟩
      have hR1 : Away (W1.heap[w.heap.size + 1]? = some (.cells (LK .u64 z) 23 (0, 0))) := ⟨A0.out.other (by have := HWs.out; omega) (by omega) B1.out⟩
      have hC1 := Away.mk A0.out.row
      have hS1 : Away (w.heap.size + 3 ≤ W1.heap.size) := ⟨by have := A0.out.size; have := HWs.out; omega⟩
      have hb1 : Away (Below w.heap.size w W1) := ⟨HWb.out.trans (A0.out.below (by have := HWs.out; omega) (by omega))⟩
      clear A0
      go_loopw [20] (fun i wr => ∃ k : Nat, k ≤ 25 ∧ i = .int .i64 (k : Int) ∧ Away (At w.heap.size (LK .u64 (kecm.part (fun i => i) (fun i => g a i ^^^ kd a i) (g a) k)) 23 W1 wr)) (fun i _ => 25 - (intOf i).toNat)
      case atStart =>
        refine ⟨0, by decide, rfl, ⟨?_⟩⟩
        rw [part_zero, mkS_eta H.out.len]
        exact At.refl hA1.out
      case round =>
        obtain ⟨k, hk, rfl, A0⟩ := hrel
        by_cases hlt : k < 25
        · have hkz : (k : Int) < 25 := by omega
          obtain ⟨x, hx⟩ : ∃ x, g a k = x := ⟨_, rfl⟩
          obtain ⟨v, hv⟩ : ∃ v, g a k ^^^ kd a k = v := ⟨_, rfl⟩
          obtain ⟨d, hd⟩ : ∃ d, kd a k = d := ⟨_, rfl⟩
          obtain ⟨k4, hk4⟩ : ∃ q, q = k + 4 := ⟨_, rfl⟩
          obtain ⟨k1, hk1⟩ : ∃ q, q = k + 1 := ⟨_, rfl⟩
          obtain ⟨p4, hp4⟩ : ∃ q, (k + 4) % 5 = q := ⟨_, rfl⟩
          obtain ⟨p1, hp1⟩ : ∃ q, (k + 1) % 5 = q := ⟨_, rfl⟩
          obtain ⟨c, hc⟩ : ∃ c, kc a p4 = c := ⟨_, rfl⟩
          obtain ⟨e, he⟩ : ∃ c, kc a p1 = c := ⟨_, rfl⟩
          obtain ⟨r, hr⟩ : ∃ c, rol (kc a p1) 1 = c := ⟨_, rfl⟩
          have be : e < 18446744073709551616 := he ▸ kc_lt H.out p1
          have Her := Away.mk (show rol e 1 = r by rw [← he, hr])
          have D := xor2 c r d (hc ▸ kc_lt H.out p4) (hr ▸ rol_lt _ _ (kc_lt H.out p1)) (kd_is a k p4 p1 c r d hp4 hp1 hc hr hd)
          have V := xor2 x d v (hx ▸ H.out.lt k) (hd ▸ kd_lt H.out k) (by rw [← hv, hx, hd])
          have w4 : IntKind.i64.wrap ((k : Int) + 4) = (k4 : Int) := by rw [IntKind.wrap_i64]; omega
          have w1 : IntKind.i64.wrap ((k : Int) + 1) = (k1 : Int) := by rw [IntKind.wrap_i64]; omega
          have m4 : (k4 : Int).tmod 5 = (p4 : Int) := by rw [Int.tmod_eq_emod_of_nonneg (by omega)]; omega
          have m1 : (k1 : Int).tmod 5 = (p1 : Int) := by rw [Int.tmod_eq_emod_of_nonneg (by omega)]; omega
          have l4 : (p4 : Int) < 5 := by omega
          have l1 : (p1 : Int) < 5 := by omega
          have cx : wr.cell? ⟨w.heap.size, k, none⟩ = some (.int .u64 (x : Int)) := cell_at A0.out.row (by rw [lane_get (part_len _ _ _ _) _ hlt, part_get _ _ _ _ _ hlt (Nat.le_refl _), hx])
          have hcr := A0.out.other (by have := hS1.out; omega) (by omega) hC1.out
          have c4 : wr.cell? ⟨w.heap.size + 2, p4, none⟩ = some (.int .u64 (c : Int)) := cell_at hcr (ck_at a p4 c (by omega) hc)
          have c1 : wr.cell? ⟨w.heap.size + 2, p1, none⟩ = some (.int .u64 (e : Int)) := cell_at hcr (ck_at a p1 e (by omega) he)
          have HS := Away.mk (part_lane (ord := fun i => i) (f := fun i => g a i ^^^ kd a i) (d := g a) (m := k) k v hlt rfl (fun i _ e => e) hv)
          clear hv hx hd hc he hr hp4 hp1 hk4 hk1 hcr
          go_wp2_with fail
          refine still_tail 17 (by kernel_rfl) (by kernel_rfl) ?_
          simp only [List.take_succ_cons, List.take_zero, List.drop_succ_cons, List.drop_zero]
          repeat still_step
          still_call (left1 e r _ be Her.out)
          repeat still_step
          refine wpStill_nil ?_
          have A1 : Away (At w.heap.size (LK .u64 (kecm.part (fun i => i) (fun i => g a i ^^^ kd a i) (g a) k)) 23 W1 wr.drew) := ⟨at_drew A0.out⟩
          clear cx c4 c1 w4 w1 m4 m1
          with_reducible refine wpList_put2 A1 rfl _ _ _ rfl rfl ?_
          refine ⟨_, _, _, rfl, rfl, rfl, by rw [lk25 _ (part_len _ _ _ _)]; exact hlt, ?_⟩
          intro wn HRn
          rw [HS.out] at HRn
          go_wp2_with fail
          go_roundw
          case rel => exact ⟨k + 1, by omega, by go_num, HRn⟩
          case measure => simp [intOf]; omega
        · obtain rfl : k = 25 := by omega
          simp only [Int.cast_ofNat_Int]
          have hfin := A0.out
          rw [part_all _ _ _ _ (fun i hi => hi), ← mixf_is, HR.out] at hfin
          have Hres : Away (wr.heap[w.heap.size + 1]? = some (.cells (LK .u64 z) 23 (0, 0))) := ⟨hfin.other (by have := hS1.out; omega) (by omega) hR1.out⟩
          have Hrow := Away.mk hfin.row
          have Hb1 : Away (Below w.heap.size w wr) := ⟨hb1.out.trans (hfin.below (by have := hS1.out; omega) (Nat.le_refl _))⟩
          clear hfin
          go_wp2_with (first
            | (refine wpList_load_row rfl 23 _ rfl w.heap.size rfl 23 (LK .u64 R) (0, 0) _ Hrow.out Tryd.underlying23 rfl HRz.out ?_)
            | (refine wpList_store_row rfl 23 _ _ rfl (w.heap.size + 1) (LK .u64 R) rfl rfl 23 _ Hres.out HRz.out (same25 HZl.out HRl.out) HRo.out ?_))
          refine bodyPost_ret_by (v := .agg (LK .u64 R)) (results_cell_row rfl _ _ (w.heap.size + 1) 23 _ (0, 0) _ rfl (setRow_heap _ _ _ _ _ _ Hres.out) Tryd.underlying23 rfl HRz.out) rfl ?_
          exact ⟨rfl, Hb1.out.trans (below_setRow _ _ _ (by omega))⟩


/-- the order in which the document's own Turn and Bend write the lanes: x + 5 y comes at 5 x + y -/
def oxy (i : Nat) : Nat := 5 * (i % 5) + i / 5
theorem oxy_lt (i : Nat) (h : i < 25) : oxy i < 25 := by unfold oxy; omega
theorem oxy_inj (i x y : Nat) (hi : i < 25) (hx : x < 5) (hy : y < 5) (h : oxy i = 5 * x + y) : i = x + 5 * y := by unfold oxy at h; omega
theorem src_at (x y : Nat) (hx : x < 5) (hy : y < 5) : src (y + 5 * ((2 * x + 3 * y) % 5)) = x + 5 * y := by
  unfold src
  have : ∀ x : Fin 5, ∀ y : Fin 5, (3 * ((y.val + 5 * ((2 * x.val + 3 * y.val) % 5)) / 5) + (y.val + 5 * ((2 * x.val + 3 * y.val) % 5)) % 5) % 5 + 5 * ((y.val + 5 * ((2 * x.val + 3 * y.val) % 5)) % 5) = x.val + 5 * y.val := by decide
  exact this ⟨x, hx⟩ ⟨y, hy⟩
theorem src_inj (i j : Nat) (hi : i < 25) (hj : j < 25) (h : src i = src j) : i = j := by
  have h1 := dst_src ⟨i, hi⟩
  have h2 := dst_src ⟨j, hj⟩
  simp only at h1 h2
  rw [← h1, ← h2, h]

set_option maxRecDepth 100000 in
set_option maxHeartbeats 2000000 in
theorem turn_any {T : Array Value} {ts rs : List Nat} (a : List Nat) (w : World) (h : St a) (hK : KT T ts rs) :
    Calls Tryd.prog 11 #[.agg T, .agg (LK .u64 a)] w fun e w' => e = .returned (.agg (LK .u64 (turnL (fun i => ts.getD i 0) a))) ∧ Below w.heap.size w w' := by
  have H := Away.mk h
  have HK := Away.mk hK
  obtain ⟨z, HZ⟩ := ex_eq Z
  have HZl : Away (z.length = 25) := ⟨by rw [← HZ.out]; rfl⟩
  have Hz : Away ((#[.int .u64 0, .int .u64 0, .int .u64 0, .int .u64 0, .int .u64 0, .int .u64 0, .int .u64 0, .int .u64 0, .int .u64 0, .int .u64 0, .int .u64 0, .int .u64 0, .int .u64 0, .int .u64 0, .int .u64 0, .int .u64 0, .int .u64 0, .int .u64 0, .int .u64 0, .int .u64 0, .int .u64 0, .int .u64 0, .int .u64 0, .int .u64 0, .int .u64 0] : Array Value) = LK .u64 z) := ⟨by rw [← HZ.out]; exact z_is⟩
  clear h HZ hK
  obtain ⟨R, HR⟩ := ex_eq (turnL (fun i => ts.getD i 0) a)
  have HRl : Away (R.length = 25) := ⟨by rw [← HR.out]; exact mkS_len _⟩
  have HRo := Away.mk (lk_one .u64 R)
  have HRz := Away.mk (size25 HRl.out)
  rw [HR.out]
  go_enter Tryd.func11, Tryd.ntmps11
  go_wp2_with fail
  rw [Hz.out]
  obtain ⟨W, hW⟩ : ∃ x, (((w.alloc (.cells T 33)).alloc (.cells (LK .u64 a) 23)).alloc (.cells (LK .u64 z) 23)).alloc (.cells (LK .u64 z) 23) = x := ⟨_, rfl⟩
  obtain ⟨b0, b1, b2, b3, hWs, hWb⟩ := four hW
  rw [hW]
  clear hW
  have B0 := Away.mk b0
  have B1 := Away.mk b1
  have B2 := Away.mk b2
  have B3 := Away.mk b3
  have HWs := Away.mk hWs
  have HWb := Away.mk hWb
  clear hWs hWb b0 b1 b2 b3
  go_loopw [8] (fun i wr => ∃ x : Nat, x ≤ 5 ∧ i = .int .i64 (x : Int) ∧ Away (At (w.heap.size + 3) (LK .u64 (kecm.part (fun j => oxy (src j)) (kturn.tl ts a) (g z) (5 * x))) 23 W wr)) (fun i _ => 5 - (intOf i).toNat)
  case atStart =>
    refine ⟨0, by decide, rfl, ⟨?_⟩⟩
    rw [Nat.mul_zero, part_zero, mkS_eta HZl.out]
    exact At.refl B3.out
  case round =>
    obtain ⟨x, hx, rfl, A0⟩ := hrel
    by_cases hlt : x < 5
    · have hxz : (x : Int) < 5 := by omega
      clear hx
      go_wp2_with fail
      go_loopw [11] (fun i wr => ∃ y : Nat, y ≤ 5 ∧ i = .int .i64 (y : Int) ∧ Away (At (w.heap.size + 3) (LK .u64 (kecm.part (fun j => oxy (src j)) (kturn.tl ts a) (g z) (5 * x + y))) 23 W wr)) (fun i _ => 5 - (intOf i).toNat)
      case atStart => exact ⟨0, by decide, rfl, A0⟩
      case round =>
        clear A0
        obtain ⟨y, hy, rfl, A0⟩ := hrel
        by_cases hlu : y < 5
        · have hyz : (y : Int) < 5 := by omega
          clear hy
          have f1 : IntKind.i64.wrap (2 * (x : Int)) = ((2 * x : Nat) : Int) := by rw [IntKind.wrap_i64]; omega
          have f2 : IntKind.i64.wrap (3 * (y : Int)) = ((3 * y : Nat) : Int) := by rw [IntKind.wrap_i64]; omega
          have f7 : IntKind.i64.wrap (5 * (y : Int)) = ((5 * y : Nat) : Int) := by rw [IntKind.wrap_i64]; omega
          obtain ⟨xa, hxa⟩ : ∃ q : Nat, q = 2 * x := ⟨_, rfl⟩
          obtain ⟨yb, hyb⟩ : ∃ q : Nat, q = 3 * y := ⟨_, rfl⟩
          obtain ⟨yf, hyf⟩ : ∃ q : Nat, q = 5 * y := ⟨_, rfl⟩
          rw [← hxa] at f1
          rw [← hyb] at f2
          rw [← hyf] at f7
          obtain ⟨c, hc⟩ : ∃ q : Nat, q = xa + yb := ⟨_, rfl⟩
          have f3 : IntKind.i64.wrap ((xa : Int) + (yb : Int)) = (c : Int) := by rw [IntKind.wrap_i64]; omega
          obtain ⟨d, hd⟩ : ∃ q : Nat, q = c % 5 := ⟨_, rfl⟩
          have f4 : (c : Int).tmod 5 = (d : Int) := by rw [Int.tmod_eq_emod_of_nonneg (by omega)]; omega
          obtain ⟨e, he⟩ : ∃ q : Nat, q = 5 * d := ⟨_, rfl⟩
          have f5 : IntKind.i64.wrap (5 * (d : Int)) = (e : Int) := by rw [IntKind.wrap_i64]; omega
          obtain ⟨j, hj⟩ : ∃ q : Nat, q = y + e := ⟨_, rfl⟩
          have f6 : IntKind.i64.wrap ((y : Int) + (e : Int)) = (j : Int) := by rw [IntKind.wrap_i64]; omega
          obtain ⟨i, hi⟩ : ∃ q : Nat, q = x + yf := ⟨_, rfl⟩
          have f8 : IntKind.i64.wrap ((x : Int) + (yf : Int)) = (i : Int) := by rw [IntKind.wrap_i64]; omega
          have hi25 : i < 25 := by omega
          have hj25 : j < 25 := by omega
          have iz : (i : Int) < 25 := by omega
          have jz : (j : Int) < 25 := by omega
          have hsj : src j = i := by rw [hj, he, hd, hc, hxa, hyb, hi, hyf]; exact src_at x y hlt hlu
          have hoi : oxy i = 5 * x + y := by unfold oxy; omega
          obtain ⟨l, hl⟩ : ∃ x, g a i = x := ⟨_, rfl⟩
          have bl : l < 18446744073709551616 := hl ▸ H.out.lt i
          obtain ⟨t, ht⟩ : ∃ t, ts.getD i 0 = t := ⟨_, rfl⟩
          have bt : t < 9223372036854775808 := ht ▸ HK.out.bt i
          have cl := lane_at H.out.len (A0.out.other (by have := HWs.out; omega) (by omega) B1.out) i l hi25 hl
          have ct : wr.cell? ⟨w.heap.size, 184 + i, none⟩ = some (.int .i64 (t : Int)) := by
            rw [← ht]; exact cell_at (A0.out.other (by have := HWs.out; omega) (by omega) B0.out) (HK.out.t i hi25)
          have HS := Away.mk (part_lane (ord := fun j => oxy (src j)) (f := kturn.tl ts a) (d := g z) (m := 5 * x + y) j (rol l (t % 64)) hj25 (by rw [hsj, hoi]) (fun i' hi' e' => src_inj i' j hi' hj25 (by rw [hsj]; have h1 := oxy_inj (src i') x y (src_lt i' hi') hlt hlu e'; omega)) (by rw [kturn.tl, hsj, hl, ht]))
          clear hxa hyb hyf hc hd he hj hi hsj hoi hl ht
          go_wp2_with fail
          refine still_tail 24 (by kernel_rfl) (by kernel_rfl) ?_
          simp only [List.take_succ_cons, List.take_zero, List.drop_succ_cons, List.drop_zero]
          repeat still_step
          still_call (rols.left_any l t _ bl bt)
          repeat still_step
          refine wpStill_nil ?_
          have A1 : Away (At (w.heap.size + 3) (LK .u64 (kecm.part (fun j => oxy (src j)) (kturn.tl ts a) (g z) (5 * x + y))) 23 W wr.drew) := ⟨at_drew A0.out⟩
          clear cl ct f1 f2 f3 f4 f5 f6 f7 f8
          with_reducible refine wpList_put2 A1 rfl _ _ _ rfl rfl ?_
          refine ⟨_, _, _, rfl, rfl, rfl, by rw [lk25 _ (part_len _ _ _ _)]; exact hj25, ?_⟩
          intro wn HRn
          rw [HS.out] at HRn
          go_wp2_with fail
          go_roundw
          case rel => exact ⟨y + 1, by omega, by go_num, HRn⟩
          case measure => simp [intOf]; omega
        · obtain rfl : y = 5 := by omega
          simp only [Int.cast_ofNat_Int]
          go_wp2_with fail
          go_roundw
          case rel => exact ⟨x + 1, by omega, by go_num, by rw [Nat.mul_add]; exact A0⟩
          case measure => simp [intOf]; omega
    · obtain rfl : x = 5 := by omega
      simp only [Int.cast_ofNat_Int]
      have hfin := A0.out
      rw [part_all _ _ _ _ (fun i hi => oxy_lt _ (src_lt i hi)), ← kturn.turn_is, HR.out] at hfin
      have Hres : Away (wr.heap[w.heap.size + 2]? = some (.cells (LK .u64 z) 23 (0, 0))) := ⟨hfin.other (by have := HWs.out; omega) (by omega) B2.out⟩
      have Hrow := Away.mk hfin.row
      have Hb1 : Away (Below w.heap.size w wr) := ⟨HWb.out.trans (hfin.below (by have := HWs.out; omega) (by omega))⟩
      clear hfin
      go_wp2_with (first
        | (refine wpList_load_row rfl 23 _ rfl (w.heap.size + 3) rfl 23 (LK .u64 R) (0, 0) _ Hrow.out Tryd.underlying23 rfl HRz.out ?_)
        | (refine wpList_store_row rfl 23 _ _ rfl (w.heap.size + 2) (LK .u64 R) rfl rfl 23 _ Hres.out HRz.out (same25 HZl.out HRl.out) HRo.out ?_))
      refine bodyPost_ret_by (v := .agg (LK .u64 R)) (results_cell_row rfl _ _ (w.heap.size + 2) 23 _ (0, 0) _ rfl (setRow_heap _ _ _ _ _ _ Hres.out) Tryd.underlying23 rfl HRz.out) rfl ?_
      exact ⟨rfl, Hb1.out.trans (below_setRow _ _ _ (by omega))⟩

end Go.Proofs.YtmmdjmiekodolaaDoor.rkec
