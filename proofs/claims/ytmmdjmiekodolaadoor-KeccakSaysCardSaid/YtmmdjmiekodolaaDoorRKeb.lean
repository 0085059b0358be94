/-
  What the document's own Bend and Step of layer 5 return. Conditions: the state has 25 words of 64 bits, the tables have their size.
-/
import Derived.Test.YtmmdjmiekodolaaDoorRKec
namespace Go.Proofs.YtmmdjmiekodolaaDoor.rkeb
open Go.RowKit
open Go.Proofs.YtmmdjmiekodolaaDoor.arr Go.Proofs.YtmmdjmiekodolaaDoor.mem Go.Proofs.YtmmdjmiekodolaaDoor.kecm Go.Proofs.YtmmdjmiekodolaaDoor.kecb Go.Proofs.YtmmdjmiekodolaaDoor.kstep Go.Proofs.YtmmdjmiekodolaaDoor.kfun Go.Proofs.YtmmdjmiekodolaaDoor.rkec Go.Proofs.YtmmdjmiekodolaaDoor.qtail

theorem sizeT : (Tryd.prog.info? 33).map (·.size) = some 465 := by kernel_rfl
theorem bendl_is (a : List Nat) : bendL a = mkS (kbend.bl a) := rfl
set_option maxRecDepth 100000 in
set_option maxHeartbeats 2000000 in
theorem bend_any (a : List Nat) (w : World) (h : St a) :
    Calls Tryd.prog 13 #[.agg (LK .u64 a)] w fun e w' => e = .returned (.agg (LK .u64 (bendL a))) ∧ Below w.heap.size w w' := by
  have H := Away.mk h
  obtain ⟨z, HZ⟩ := ex_eq Z
  have HZl : Away (z.length = 25) := ⟨by rw [← HZ.out]; rfl⟩
  have Hz : Away ((#[.int .u64 0, .int .u64 0, .int .u64 0, .int .u64 0, .int .u64 0, .int .u64 0, .int .u64 0, .int .u64 0, .int .u64 0, .int .u64 0, .int .u64 0, .int .u64 0, .int .u64 0, .int .u64 0, .int .u64 0, .int .u64 0, .int .u64 0, .int .u64 0, .int .u64 0, .int .u64 0, .int .u64 0, .int .u64 0, .int .u64 0, .int .u64 0, .int .u64 0] : Array Value) = LK .u64 z) := ⟨by rw [← HZ.out]; exact z_is⟩
  clear h HZ
  obtain ⟨R, HR⟩ := ex_eq (bendL a)
  have HRl : Away (R.length = 25) := ⟨by rw [← HR.out]; exact mkS_len _⟩
  have HRo := Away.mk (lk_one .u64 R)
  have HRz := Away.mk (size25 HRl.out)
  rw [HR.out]
  go_enter Tryd.func13, Tryd.ntmps13
  go_wp2_with fail
  rw [Hz.out]
  obtain ⟨W, hW⟩ : ∃ x, ((w.alloc (.cells (LK .u64 a) 23)).alloc (.cells (LK .u64 z) 23)).alloc (.cells (LK .u64 z) 23) = x := ⟨_, rfl⟩
  obtain ⟨b0, b1, b2, hWs, hWb⟩ := three hW
  rw [hW]
  clear hW
  have B0 := Away.mk b0
  have B1 := Away.mk b1
  have B2 := Away.mk b2
  have HWs := Away.mk hWs
  have HWb := Away.mk hWb
  clear hWs hWb b0 b1 b2
  go_loopw [6] (fun i wr => ∃ x : Nat, x ≤ 5 ∧ i = .int .i64 (x : Int) ∧ Away (At (w.heap.size + 2) (LK .u64 (kecm.part oxy (kbend.bl a) (g z) (5 * x))) 23 W wr)) (fun i _ => 5 - (intOf i).toNat)
  case atStart =>
    refine ⟨0, by decide, rfl, ⟨?_⟩⟩
    rw [Nat.mul_zero, part_zero, mkS_eta HZl.out]
    exact At.refl B2.out
  case round =>
    obtain ⟨x, hx, rfl, A0⟩ := hrel
    by_cases hlt : x < 5
    · have hxz : (x : Int) < 5 := by omega
      clear hx
      go_wp2_with fail
      go_loopw [9] (fun i wr => ∃ y : Nat, y ≤ 5 ∧ i = .int .i64 (y : Int) ∧ Away (At (w.heap.size + 2) (LK .u64 (kecm.part oxy (kbend.bl a) (g z) (5 * x + y))) 23 W wr)) (fun i _ => 5 - (intOf i).toNat)
      case atStart => exact ⟨0, by decide, rfl, A0⟩
      case round =>
        clear A0
        obtain ⟨y, hy, rfl, A0⟩ := hrel
        by_cases hlu : y < 5
        · have hyz : (y : Int) < 5 := by omega
          clear hy
          obtain ⟨yf, hyf⟩ : ∃ q : Nat, q = 5 * y := ⟨_, rfl⟩
          have f7 : IntKind.i64.wrap (5 * (y : Int)) = (yf : Int) := by rw [IntKind.wrap_i64]; omega
          obtain ⟨i, hi⟩ : ∃ q : Nat, q = x + yf := ⟨_, rfl⟩
          have f8 : IntKind.i64.wrap ((x : Int) + (yf : Int)) = (i : Int) := by rw [IntKind.wrap_i64]; omega
          obtain ⟨x1, hx1⟩ : ∃ q : Nat, q = x + 1 := ⟨_, rfl⟩
          have f1 : IntKind.i64.wrap ((x : Int) + 1) = (x1 : Int) := by rw [IntKind.wrap_i64]; omega
          obtain ⟨p1, hp1⟩ : ∃ q : Nat, q = x1 % 5 := ⟨_, rfl⟩
          have g1 : (x1 : Int).tmod 5 = (p1 : Int) := by rw [Int.tmod_eq_emod_of_nonneg (by omega)]; omega
          obtain ⟨j1, hj1⟩ : ∃ q : Nat, q = p1 + yf := ⟨_, rfl⟩
          have e1 : IntKind.i64.wrap ((p1 : Int) + (yf : Int)) = (j1 : Int) := by rw [IntKind.wrap_i64]; omega
          obtain ⟨x2, hx2⟩ : ∃ q : Nat, q = x + 2 := ⟨_, rfl⟩
          have f2 : IntKind.i64.wrap ((x : Int) + 2) = (x2 : Int) := by rw [IntKind.wrap_i64]; omega
          obtain ⟨p2, hp2⟩ : ∃ q : Nat, q = x2 % 5 := ⟨_, rfl⟩
          have g2 : (x2 : Int).tmod 5 = (p2 : Int) := by rw [Int.tmod_eq_emod_of_nonneg (by omega)]; omega
          obtain ⟨j2, hj2⟩ : ∃ q : Nat, q = p2 + yf := ⟨_, rfl⟩
          have e2 : IntKind.i64.wrap ((p2 : Int) + (yf : Int)) = (j2 : Int) := by rw [IntKind.wrap_i64]; omega
          have hi25 : i < 25 := by omega
          have h125 : j1 < 25 := by omega
          have h225 : j2 < 25 := by omega
          have iz : (i : Int) < 25 := by omega
          have z1 : (j1 : Int) < 25 := by omega
          have z2 : (j2 : Int) < 25 := by omega
          have hoi : oxy i = 5 * x + y := by unfold oxy; omega
          have q1 : (i % 5 + 1) % 5 + 5 * (i / 5) = j1 := by omega
          have q2 : (i % 5 + 2) % 5 + 5 * (i / 5) = j2 := by omega
          obtain ⟨l, hl⟩ : ∃ x, g a i = x := ⟨_, rfl⟩
          obtain ⟨m, hm⟩ : ∃ x, g a j1 = x := ⟨_, rfl⟩
          obtain ⟨n, hn⟩ : ∃ x, g a j2 = x := ⟨_, rfl⟩
          obtain ⟨v, hv⟩ : ∃ x, kbend.bl a i = x := ⟨_, rfl⟩
          have hA := A0.out.other (by have := HWs.out; omega) (by omega) B0.out
          have cl := lane_at H.out.len hA i l hi25 hl
          have cm := lane_at H.out.len hA j1 m h125 hm
          have cn := lane_at H.out.len hA j2 n h225 hn
          have HV := Away.mk (bend3 l m n v (hl ▸ H.out.lt _) (hm ▸ H.out.lt _) (hn ▸ H.out.lt _) (kbend.bl_is a i j1 j2 l m n v q1 q2 hl hm hn hv))
          have HS := Away.mk (part_lane (ord := oxy) (f := kbend.bl a) (d := g z) (m := 5 * x + y) i v hi25 hoi (fun i' hi' e' => by have h1 := oxy_inj i' x y hi' hlt hlu e'; omega) hv)
          clear hyf hi hx1 hp1 hj1 hx2 hp2 hj2 hoi q1 q2 hl hm hn hv hA
          go_wp2_with fail
          refine still_tail 30 (by kernel_rfl) (by kernel_rfl) ?_
          simp only [List.take_succ_cons, List.take_zero, List.drop_succ_cons, List.drop_zero]
          repeat still_step
          refine wpStill_nil ?_
          have A1 : Away (At (w.heap.size + 2) (LK .u64 (kecm.part oxy (kbend.bl a) (g z) (5 * x + y))) 23 W wr.drew) := ⟨at_drew A0.out⟩
          clear cl cm cn f1 f2 f7 f8 g1 g2 e1 e2
          with_reducible refine wpList_put2 A1 rfl _ _ _ rfl rfl ?_
          refine ⟨_, _, _, rfl, rfl, rfl, by rw [lk25 _ (part_len _ _ _ _)]; exact hi25, ?_⟩
          intro wn HRm
          have HRn : Away (At (w.heap.size + 2) (LK .u64 (kecm.part oxy (kbend.bl a) (g z) (5 * x + y + 1))) 23 W wn) := ⟨by rw [← HS.out, ← HV.out]; exact HRm.out⟩
          clear HRm
          go_wp2_with fail
          go_roundw
          case rel => exact ⟨y + 1, by omega, by go_num, HRn⟩
          case measure => simp [intOf]; omega
        · obtain rfl : y = 5 := by omega
          simp only [Int.cast_ofNat_Int]
          go_wp2_with fail
          go_roundw
          case rel => exact ⟨x + 1, by omega, by go_num, by rw [Nat.mul_add]; exact A0⟩
          case measure => simp [intOf]; omega
    · obtain rfl : x = 5 := by omega
      simp only [Int.cast_ofNat_Int]
      have hfin := A0.out
      rw [part_all _ _ _ _ (fun i hi => oxy_lt _ hi), ← bendl_is, HR.out] at hfin
      have Hres : Away (wr.heap[w.heap.size + 1]? = some (.cells (LK .u64 z) 23 (0, 0))) := ⟨hfin.other (by have := HWs.out; omega) (by omega) B1.out⟩
      have Hrow := Away.mk hfin.row
      have Hb1 : Away (Below w.heap.size w wr) := ⟨HWb.out.trans (hfin.below (by have := HWs.out; omega) (by omega))⟩
      clear hfin
      go_wp2_with (first
        | (refine wpList_load_row rfl 23 _ rfl (w.heap.size + 2) rfl 23 (LK .u64 R) (0, 0) _ Hrow.out Tryd.underlying23 rfl HRz.out ?_)
        | (refine wpList_store_row rfl 23 _ _ rfl (w.heap.size + 1) (LK .u64 R) rfl rfl 23 _ Hres.out HRz.out (same25 HZl.out HRl.out) HRo.out ?_))
      refine bodyPost_ret_by (v := .agg (LK .u64 R)) (results_cell_row rfl _ _ (w.heap.size + 1) 23 _ (0, 0) _ rfl (setRow_heap _ _ _ _ _ _ Hres.out) Tryd.underlying23 rfl HRz.out) rfl ?_
      exact ⟨rfl, Hb1.out.trans (below_setRow _ _ _ (by omega))⟩

set_option maxRecDepth 100000 in
set_option maxHeartbeats 2000000 in
theorem step_at {T : Array Value} {ts rs : List Nat} (m : Nat) (hm : m < 24) (a : List Nat) (w : World) (h : St a) (hK : KT T ts rs) :
    Calls Tryd.prog 15 #[.agg T, .agg (LK .u64 a), .int .i64 (m : Int)] w fun e w' => e = .returned (.agg (LK .u64 (roundL (fun i => ts.getD i 0) (rs.getD m 0) a))) ∧ Below w.heap.size w w' := by
  have H := Away.mk h
  have HK := Away.mk hK
  obtain ⟨z, HZ⟩ := ex_eq Z
  have HZl : Away (z.length = 25) := ⟨by rw [← HZ.out]; rfl⟩
  have Hz : Away ((#[.int .u64 0, .int .u64 0, .int .u64 0, .int .u64 0, .int .u64 0, .int .u64 0, .int .u64 0, .int .u64 0, .int .u64 0, .int .u64 0, .int .u64 0, .int .u64 0, .int .u64 0, .int .u64 0, .int .u64 0, .int .u64 0, .int .u64 0, .int .u64 0, .int .u64 0, .int .u64 0, .int .u64 0, .int .u64 0, .int .u64 0, .int .u64 0, .int .u64 0] : Array Value) = LK .u64 z) := ⟨by rw [← HZ.out]; exact z_is⟩
  have HTz : Away ((Tryd.prog.info? 33).map (·.size) = some T.size) := ⟨by rw [hK.size]; exact sizeT⟩
  have HAz := Away.mk (size25 h.len)
  clear h HZ hK
  obtain ⟨R, HR⟩ := ex_eq (roundL (fun i => ts.getD i 0) (rs.getD m 0) a)
  have HRl : Away (R.length = 25) := ⟨by rw [← HR.out]; exact mkS_len _⟩
  have HRo := Away.mk (lk_one .u64 R)
  have HRz := Away.mk (size25 HRl.out)
  rw [HR.out]
  obtain ⟨s, Hs⟩ := ex_eq (bendL (turnL (fun i => ts.getD i 0) (mixL a)))
  have Hst : Away (St s) := ⟨by rw [← Hs.out]; exact bendL_st (turnL_st _ (mixL_st H.out))⟩
  have Hso := Away.mk (lk_one .u64 s)
  have Hsz := Away.mk (size25 Hst.out.len)
  have Hrs : Away (iota (rs.getD m 0) s = R) := ⟨by rw [← HR.out, ← Hs.out]; rfl⟩
  have C1 : Away (∀ w1 : World, Calls Tryd.prog 9 #[.agg (LK .u64 a)] w1 fun e w' => e = .returned (.agg (LK .u64 (mixL a))) ∧ Below w1.heap.size w1 w') := ⟨fun w1 => rkec.mix_any a w1 H.out⟩
  have C2 : Away (∀ w1 : World, Calls Tryd.prog 11 #[.agg T, .agg (LK .u64 (mixL a))] w1 fun e w' => e = .returned (.agg (LK .u64 (turnL (fun i => ts.getD i 0) (mixL a)))) ∧ Below w1.heap.size w1 w') := ⟨fun w1 => rkec.turn_any (mixL a) w1 (mixL_st H.out) HK.out⟩
  have C3 : Away (∀ w1 : World, Calls Tryd.prog 13 #[.agg (LK .u64 (turnL (fun i => ts.getD i 0) (mixL a)))] w1 fun e w' => e = .returned (.agg (LK .u64 s)) ∧ Below w1.heap.size w1 w') := ⟨fun w1 => by rw [← Hs.out]; exact bend_any _ w1 (turnL_st _ (mixL_st H.out))⟩
  clear Hs HR
  have hm0 : (0 : Int) ≤ (m : Int) := by omega
  have hm1 : (m : Int) < 24 := by omega
  have Hm := Away.mk hm
  clear hm
  go_enter Tryd.func15, Tryd.ntmps15
  go_wp2_with fail
  rw [Hz.out]
  obtain ⟨W, hW⟩ : ∃ x, ((w.alloc (.cells T 33)).alloc (.cells (LK .u64 a) 23)).alloc (.cells (LK .u64 z) 23) = x := ⟨_, rfl⟩
  obtain ⟨b0, b1, b2, hWs, hWb⟩ := three hW
  rw [hW]
  clear hW
  have B0 := Away.mk b0
  have B1 := Away.mk b1
  have B2 := Away.mk b2
  have HWs := Away.mk hWs
  have HWb := Away.mk hWb
  clear hWs hWb b0 b1 b2
  refine region_below_tail 5 (by kernel_rfl) (by kernel_rfl) ?_
  refine wpQuiet_load rfl 33 _ rfl _ rfl 33 _ _ (fun w' hC => heap_regrown B0.out hC) Tryd.underlying33 rfl HTz.out ?_
  refine wpQuiet_load rfl 23 _ rfl _ rfl 23 _ _ (fun w' hC => heap_regrown B1.out hC) Tryd.underlying23 rfl HAz.out ?_
  quiet_step (exact Calls.regrown_of (C1.out _))
  quiet_step (exact Calls.regrown_of (C2.out _))
  quiet_step (exact Calls.regrown_of (C3.out _))
  refine wpQuiet_nil ?_
  intro w3 hC
  have hb3 : Below W.heap.size W w3 := by
    obtain ⟨pp, rfl⟩ := hC
    exact below_regrown _ _ _
  have hz3 : W.heap.size ≤ w3.heap.size := hb3.size
  have D1 : Away (w3.heap[w.heap.size + 1]? = some (.cells (LK .u64 a) 23 (0, 0))) := ⟨(hb3.block _ (by have := HWs.out; omega)).trans B1.out⟩
  have Hb3 : Away (Below w.heap.size w w3) := ⟨HWb.out.trans (hb3.mono (by have := HWs.out; omega))⟩
  have hT3 : (w3.setRow (w.heap.size + 1) (LK .u64 s)).heap[w.heap.size]? = some (.cells T 33 (0, 0)) := by
    rw [setRow_other _ _ _ _ (by omega), hb3.block _ (by have := HWs.out; omega)]; exact B0.out
  have hR3 : (w3.setRow (w.heap.size + 1) (LK .u64 s)).heap[w.heap.size + 2]? = some (.cells (LK .u64 z) 23 (0, 0)) := by
    rw [setRow_other _ _ _ _ (by omega), hb3.block _ (by have := HWs.out; omega)]; exact B2.out
  have hz4 : w.heap.size + 3 ≤ (w3.setRow (w.heap.size + 1) (LK .u64 s)).heap.size := by have := HWs.out; simpa [World.setRow] using (by omega : w.heap.size + 3 ≤ w3.heap.size)
  have Hb4 : Away (Below w.heap.size w (w3.setRow (w.heap.size + 1) (LK .u64 s))) := ⟨Hb3.out.trans (below_setRow _ _ _ (by omega))⟩
  have Hrow0 := Away.mk (setRow_heap _ _ _ (LK .u64 s) _ _ D1.out)
  obtain ⟨w4, hw4⟩ : ∃ x, w3.setRow (w.heap.size + 1) (LK .u64 s) = x := ⟨_, rfl⟩
  rw [hw4] at hT3 hR3 hz4 Hb4 Hrow0
  have T3 := Away.mk hT3
  have R3 := Away.mk hR3
  have Z4 := Away.mk hz4
  have Hw4 := Away.mk hw4
  clear hC hb3 hz3 hT3 hR3 hz4 hw4
  refine wpList_store_row rfl 23 _ _ rfl (w.heap.size + 1) (LK .u64 s) rfl rfl 23 _ D1.out Hsz.out (by rw [lk_size, lk_size, Hst.out.len, H.out.len]) Hso.out ?_
  rw [Hw4.out]
  clear Hw4 D1 Hb3
  obtain ⟨x, hx⟩ : ∃ x, g s 0 = x := ⟨_, rfl⟩
  obtain ⟨c, hc⟩ : ∃ c, rs.getD m 0 = c := ⟨_, rfl⟩
  obtain ⟨v, hv⟩ : ∃ v, x ^^^ c = v := ⟨_, rfl⟩
  have bx : x < 18446744073709551616 := hx ▸ Hst.out.lt 0
  have bc : c < 18446744073709551616 := hc ▸ HK.out.br m
  have V := xor2 x c v bx bc hv
  have cx := lane_at Hst.out.len Hrow0.out 0 x (by decide) hx
  have cr : w4.cell? ⟨w.heap.size, 160 + m, none⟩ = some (.int .u64 (c : Int)) := by rw [← hc]; exact cell_at T3.out (HK.out.r m Hm.out)
  have HS : Away ((LK .u64 s).setIfInBounds 0 (.int .u64 (v : Int)) = LK .u64 R) := ⟨by rw [← Hrs.out, hc]; exact iota_set c v Hst.out.len (by rw [hx, hv])⟩
  clear hx hc hv
  go_wp2_with fail
  refine still_tail 8 (by kernel_rfl) (by kernel_rfl) ?_
  simp only [List.take_succ_cons, List.take_zero, List.drop_succ_cons, List.drop_zero]
  repeat still_step
  refine wpStill_nil ?_
  have A4 : Away (At (w.heap.size + 1) (LK .u64 s) 23 w4 w4.drew) := ⟨at_drew (At.refl Hrow0.out)⟩
  clear cx cr
  with_reducible refine wpList_put2 A4 rfl _ _ _ rfl rfl ?_
  refine ⟨_, _, _, rfl, rfl, rfl, by rw [lk25 _ Hst.out.len]; decide, ?_⟩
  intro w5 G5
  rw [HS.out] at G5
  have Hrow := Away.mk G5.out.row
  have Hres : Away (w5.heap[w.heap.size + 2]? = some (.cells (LK .u64 z) 23 (0, 0))) := ⟨G5.out.other (by have := Z4.out; omega) (by omega) R3.out⟩
  have Hb5 : Away (Below w.heap.size w w5) := ⟨Hb4.out.trans (G5.out.below (by have := Z4.out; omega) (by omega))⟩
  go_wp2_with (first
    | (refine wpList_load_row rfl 23 _ rfl (w.heap.size + 1) rfl 23 (LK .u64 R) (0, 0) _ Hrow.out Tryd.underlying23 rfl HRz.out ?_)
    | (refine wpList_store_row rfl 23 _ _ rfl (w.heap.size + 2) (LK .u64 R) rfl rfl 23 _ Hres.out HRz.out (same25 HZl.out HRl.out) HRo.out ?_))
  refine bodyPost_ret_by (v := .agg (LK .u64 R)) (results_cell_row rfl _ _ (w.heap.size + 2) 23 _ (0, 0) _ rfl (setRow_heap _ _ _ _ _ _ Hres.out) Tryd.underlying23 rfl HRz.out) rfl ?_
  exact ⟨rfl, Hb5.out.trans (below_setRow _ _ _ (by omega))⟩

set_option maxRecDepth 100000 in
set_option maxHeartbeats 2000000 in
theorem step_neg {T : Array Value} {ts rs : List Nat} (n : Int) (hn : n < 0) (a : List Nat) (w : World) (h : St a) (hK : KT T ts rs) :
    Calls Tryd.prog 15 #[.agg T, .agg (LK .u64 a), .int .i64 n] w fun e w' => e = .returned (.agg (LK .u64 (roundL (fun i => ts.getD i 0) (0) a))) ∧ Below w.heap.size w w' := by
  have H := Away.mk h
  have HK := Away.mk hK
  obtain ⟨z, HZ⟩ := ex_eq Z
  have HZl : Away (z.length = 25) := ⟨by rw [← HZ.out]; rfl⟩
  have Hz : Away ((#[.int .u64 0, .int .u64 0, .int .u64 0, .int .u64 0, .int .u64 0, .int .u64 0, .int .u64 0, .int .u64 0, .int .u64 0, .int .u64 0, .int .u64 0, .int .u64 0, .int .u64 0, .int .u64 0, .int .u64 0, .int .u64 0, .int .u64 0, .int .u64 0, .int .u64 0, .int .u64 0, .int .u64 0, .int .u64 0, .int .u64 0, .int .u64 0, .int .u64 0] : Array Value) = LK .u64 z) := ⟨by rw [← HZ.out]; exact z_is⟩
  have HTz : Away ((Tryd.prog.info? 33).map (·.size) = some T.size) := ⟨by rw [hK.size]; exact sizeT⟩
  have HAz := Away.mk (size25 h.len)
  clear h HZ hK
  obtain ⟨R, HR⟩ := ex_eq (roundL (fun i => ts.getD i 0) (0) a)
  have HRl : Away (R.length = 25) := ⟨by rw [← HR.out]; exact mkS_len _⟩
  have HRo := Away.mk (lk_one .u64 R)
  have HRz := Away.mk (size25 HRl.out)
  rw [HR.out]
  obtain ⟨s, Hs⟩ := ex_eq (bendL (turnL (fun i => ts.getD i 0) (mixL a)))
  have Hst : Away (St s) := ⟨by rw [← Hs.out]; exact bendL_st (turnL_st _ (mixL_st H.out))⟩
  have Hso := Away.mk (lk_one .u64 s)
  have Hsz := Away.mk (size25 Hst.out.len)
  have Hrs : Away (iota (0) s = R) := ⟨by rw [← HR.out, ← Hs.out]; rfl⟩
  have C1 : Away (∀ w1 : World, Calls Tryd.prog 9 #[.agg (LK .u64 a)] w1 fun e w' => e = .returned (.agg (LK .u64 (mixL a))) ∧ Below w1.heap.size w1 w') := ⟨fun w1 => rkec.mix_any a w1 H.out⟩
  have C2 : Away (∀ w1 : World, Calls Tryd.prog 11 #[.agg T, .agg (LK .u64 (mixL a))] w1 fun e w' => e = .returned (.agg (LK .u64 (turnL (fun i => ts.getD i 0) (mixL a)))) ∧ Below w1.heap.size w1 w') := ⟨fun w1 => rkec.turn_any (mixL a) w1 (mixL_st H.out) HK.out⟩
  have C3 : Away (∀ w1 : World, Calls Tryd.prog 13 #[.agg (LK .u64 (turnL (fun i => ts.getD i 0) (mixL a)))] w1 fun e w' => e = .returned (.agg (LK .u64 s)) ∧ Below w1.heap.size w1 w') := ⟨fun w1 => by rw [← Hs.out]; exact bend_any _ w1 (turnL_st _ (mixL_st H.out))⟩
  clear Hs HR
  go_enter Tryd.func15, Tryd.ntmps15
  go_wp2_with fail
  rw [Hz.out]
  obtain ⟨W, hW⟩ : ∃ x, ((w.alloc (.cells T 33)).alloc (.cells (LK .u64 a) 23)).alloc (.cells (LK .u64 z) 23) = x := ⟨_, rfl⟩
  obtain ⟨b0, b1, b2, hWs, hWb⟩ := three hW
  rw [hW]
  clear hW
  have B0 := Away.mk b0
  have B1 := Away.mk b1
  have B2 := Away.mk b2
  have HWs := Away.mk hWs
  have HWb := Away.mk hWb
  clear hWs hWb b0 b1 b2
  refine region_below_tail 5 (by kernel_rfl) (by kernel_rfl) ?_
  refine wpQuiet_load rfl 33 _ rfl _ rfl 33 _ _ (fun w' hC => heap_regrown B0.out hC) Tryd.underlying33 rfl HTz.out ?_
  refine wpQuiet_load rfl 23 _ rfl _ rfl 23 _ _ (fun w' hC => heap_regrown B1.out hC) Tryd.underlying23 rfl HAz.out ?_
  quiet_step (exact Calls.regrown_of (C1.out _))
  quiet_step (exact Calls.regrown_of (C2.out _))
  quiet_step (exact Calls.regrown_of (C3.out _))
  refine wpQuiet_nil ?_
  intro w3 hC
  have hb3 : Below W.heap.size W w3 := by
    obtain ⟨pp, rfl⟩ := hC
    exact below_regrown _ _ _
  have hz3 : W.heap.size ≤ w3.heap.size := hb3.size
  have D1 : Away (w3.heap[w.heap.size + 1]? = some (.cells (LK .u64 a) 23 (0, 0))) := ⟨(hb3.block _ (by have := HWs.out; omega)).trans B1.out⟩
  have Hb3 : Away (Below w.heap.size w w3) := ⟨HWb.out.trans (hb3.mono (by have := HWs.out; omega))⟩
  have hT3 : (w3.setRow (w.heap.size + 1) (LK .u64 s)).heap[w.heap.size]? = some (.cells T 33 (0, 0)) := by
    rw [setRow_other _ _ _ _ (by omega), hb3.block _ (by have := HWs.out; omega)]; exact B0.out
  have hR3 : (w3.setRow (w.heap.size + 1) (LK .u64 s)).heap[w.heap.size + 2]? = some (.cells (LK .u64 z) 23 (0, 0)) := by
    rw [setRow_other _ _ _ _ (by omega), hb3.block _ (by have := HWs.out; omega)]; exact B2.out
  have hz4 : w.heap.size + 3 ≤ (w3.setRow (w.heap.size + 1) (LK .u64 s)).heap.size := by have := HWs.out; simpa [World.setRow] using (by omega : w.heap.size + 3 ≤ w3.heap.size)
  have Hb4 : Away (Below w.heap.size w (w3.setRow (w.heap.size + 1) (LK .u64 s))) := ⟨Hb3.out.trans (below_setRow _ _ _ (by omega))⟩
  have Hrow0 := Away.mk (setRow_heap _ _ _ (LK .u64 s) _ _ D1.out)
  obtain ⟨w4, hw4⟩ : ∃ x, w3.setRow (w.heap.size + 1) (LK .u64 s) = x := ⟨_, rfl⟩
  rw [hw4] at hT3 hR3 hz4 Hb4 Hrow0
  have T3 := Away.mk hT3
  have R3 := Away.mk hR3
  have Z4 := Away.mk hz4
  have Hw4 := Away.mk hw4
  clear hC hb3 hz3 hT3 hR3 hz4 hw4
  refine wpList_store_row rfl 23 _ _ rfl (w.heap.size + 1) (LK .u64 s) rfl rfl 23 _ D1.out Hsz.out (by rw [lk_size, lk_size, Hst.out.len, H.out.len]) Hso.out ?_
  rw [Hw4.out]
  clear Hw4 D1 Hb3
  rw [iota_zero Hst.out.len] at Hrs
  have Hrow : Away (w4.heap[w.heap.size + 1]? = some (.cells (LK .u64 R) 23 (0, 0))) := ⟨by rw [← Hrs.out]; exact Hrow0.out⟩
  have Hres := R3
  have Hb5 := Hb4
  go_wp2_with (first
    | (refine wpList_load_row rfl 23 _ rfl (w.heap.size + 1) rfl 23 (LK .u64 R) (0, 0) _ Hrow.out Tryd.underlying23 rfl HRz.out ?_)
    | (refine wpList_store_row rfl 23 _ _ rfl (w.heap.size + 2) (LK .u64 R) rfl rfl 23 _ Hres.out HRz.out (same25 HZl.out HRl.out) HRo.out ?_))
  refine bodyPost_ret_by (v := .agg (LK .u64 R)) (results_cell_row rfl _ _ (w.heap.size + 2) 23 _ (0, 0) _ rfl (setRow_heap _ _ _ _ _ _ Hres.out) Tryd.underlying23 rfl HRz.out) rfl ?_
  exact ⟨rfl, Hb5.out.trans (below_setRow _ _ _ (by omega))⟩

set_option maxRecDepth 100000 in
set_option maxHeartbeats 2000000 in
theorem step_big {T : Array Value} {ts rs : List Nat} (n : Int) (hn : 24 ≤ n) (a : List Nat) (w : World) (h : St a) (hK : KT T ts rs) :
    Calls Tryd.prog 15 #[.agg T, .agg (LK .u64 a), .int .i64 n] w fun e w' => e = .returned (.agg (LK .u64 (roundL (fun i => ts.getD i 0) (0) a))) ∧ Below w.heap.size w w' := by
  have H := Away.mk h
  have HK := Away.mk hK
  obtain ⟨z, HZ⟩ := ex_eq Z
  have HZl : Away (z.length = 25) := ⟨by rw [← HZ.out]; rfl⟩
  have Hz : Away ((#[.int .u64 0, .int .u64 0, .int .u64 0, .int .u64 0, .int .u64 0, .int .u64 0, .int .u64 0, .int .u64 0, .int .u64 0, .int .u64 0, .int .u64 0, .int .u64 0, .int .u64 0, .int .u64 0, .int .u64 0, .int .u64 0, .int .u64 0, .int .u64 0, .int .u64 0, .int .u64 0, .int .u64 0, .int .u64 0, .int .u64 0, .int .u64 0, .int .u64 0] : Array Value) = LK .u64 z) := ⟨by rw [← HZ.out]; exact z_is⟩
  have HTz : Away ((Tryd.prog.info? 33).map (·.size) = some T.size) := ⟨by rw [hK.size]; exact sizeT⟩
  have HAz := Away.mk (size25 h.len)
  clear h HZ hK
  obtain ⟨R, HR⟩ := ex_eq (roundL (fun i => ts.getD i 0) (0) a)
  have HRl : Away (R.length = 25) := ⟨by rw [← HR.out]; exact mkS_len _⟩
  have HRo := Away.mk (lk_one .u64 R)
  have HRz := Away.mk (size25 HRl.out)
  rw [HR.out]
  obtain ⟨s, Hs⟩ := ex_eq (bendL (turnL (fun i => ts.getD i 0) (mixL a)))
  have Hst : Away (St s) := ⟨by rw [← Hs.out]; exact bendL_st (turnL_st _ (mixL_st H.out))⟩
  have Hso := Away.mk (lk_one .u64 s)
  have Hsz := Away.mk (size25 Hst.out.len)
  have Hrs : Away (iota (0) s = R) := ⟨by rw [← HR.out, ← Hs.out]; rfl⟩
  have C1 : Away (∀ w1 : World, Calls Tryd.prog 9 #[.agg (LK .u64 a)] w1 fun e w' => e = .returned (.agg (LK .u64 (mixL a))) ∧ Below w1.heap.size w1 w') := ⟨fun w1 => rkec.mix_any a w1 H.out⟩
  have C2 : Away (∀ w1 : World, Calls Tryd.prog 11 #[.agg T, .agg (LK .u64 (mixL a))] w1 fun e w' => e = .returned (.agg (LK .u64 (turnL (fun i => ts.getD i 0) (mixL a)))) ∧ Below w1.heap.size w1 w') := ⟨fun w1 => rkec.turn_any (mixL a) w1 (mixL_st H.out) HK.out⟩
  have C3 : Away (∀ w1 : World, Calls Tryd.prog 13 #[.agg (LK .u64 (turnL (fun i => ts.getD i 0) (mixL a)))] w1 fun e w' => e = .returned (.agg (LK .u64 s)) ∧ Below w1.heap.size w1 w') := ⟨fun w1 => by rw [← Hs.out]; exact bend_any _ w1 (turnL_st _ (mixL_st H.out))⟩
  clear Hs HR
  go_enter Tryd.func15, Tryd.ntmps15
  go_wp2_with fail
  rw [Hz.out]
  obtain ⟨W, hW⟩ : ∃ x, ((w.alloc (.cells T 33)).alloc (.cells (LK .u64 a) 23)).alloc (.cells (LK .u64 z) 23) = x := ⟨_, rfl⟩
  obtain ⟨b0, b1, b2, hWs, hWb⟩ := three hW
  rw [hW]
  clear hW
  have B0 := Away.mk b0
  have B1 := Away.mk b1
  have B2 := Away.mk b2
  have HWs := Away.mk hWs
  have HWb := Away.mk hWb
  clear hWs hWb b0 b1 b2
  refine region_below_tail 5 (by kernel_rfl) (by kernel_rfl) ?_
  refine wpQuiet_load rfl 33 _ rfl _ rfl 33 _ _ (fun w' hC => heap_regrown B0.out hC) Tryd.underlying33 rfl HTz.out ?_
  refine wpQuiet_load rfl 23 _ rfl _ rfl 23 _ _ (fun w' hC => heap_regrown B1.out hC) Tryd.underlying23 rfl HAz.out ?_
  quiet_step (exact Calls.regrown_of (C1.out _))
  quiet_step (exact Calls.regrown_of (C2.out _))
  quiet_step (exact Calls.regrown_of (C3.out _))
  refine wpQuiet_nil ?_
  intro w3 hC
  have hb3 : Below W.heap.size W w3 := by
    obtain ⟨pp, rfl⟩ := hC
    exact below_regrown _ _ _
  have hz3 : W.heap.size ≤ w3.heap.size := hb3.size
  have D1 : Away (w3.heap[w.heap.size + 1]? = some (.cells (LK .u64 a) 23 (0, 0))) := ⟨(hb3.block _ (by have := HWs.out; omega)).trans B1.out⟩
  have Hb3 : Away (Below w.heap.size w w3) := ⟨HWb.out.trans (hb3.mono (by have := HWs.out; omega))⟩
  have hT3 : (w3.setRow (w.heap.size + 1) (LK .u64 s)).heap[w.heap.size]? = some (.cells T 33 (0, 0)) := by
    rw [setRow_other _ _ _ _ (by omega), hb3.block _ (by have := HWs.out; omega)]; exact B0.out
  have hR3 : (w3.setRow (w.heap.size + 1) (LK .u64 s)).heap[w.heap.size + 2]? = some (.cells (LK .u64 z) 23 (0, 0)) := by
    rw [setRow_other _ _ _ _ (by omega), hb3.block _ (by have := HWs.out; omega)]; exact B2.out
  have hz4 : w.heap.size + 3 ≤ (w3.setRow (w.heap.size + 1) (LK .u64 s)).heap.size := by have := HWs.out; simpa [World.setRow] using (by omega : w.heap.size + 3 ≤ w3.heap.size)
  have Hb4 : Away (Below w.heap.size w (w3.setRow (w.heap.size + 1) (LK .u64 s))) := ⟨Hb3.out.trans (below_setRow _ _ _ (by omega))⟩
  have Hrow0 := Away.mk (setRow_heap _ _ _ (LK .u64 s) _ _ D1.out)
  obtain ⟨w4, hw4⟩ : ∃ x, w3.setRow (w.heap.size + 1) (LK .u64 s) = x := ⟨_, rfl⟩
  rw [hw4] at hT3 hR3 hz4 Hb4 Hrow0
  have T3 := Away.mk hT3
  have R3 := Away.mk hR3
  have Z4 := Away.mk hz4
  have Hw4 := Away.mk hw4
  clear hC hb3 hz3 hT3 hR3 hz4 hw4
  refine wpList_store_row rfl 23 _ _ rfl (w.heap.size + 1) (LK .u64 s) rfl rfl 23 _ D1.out Hsz.out (by rw [lk_size, lk_size, Hst.out.len, H.out.len]) Hso.out ?_
  rw [Hw4.out]
  clear Hw4 D1 Hb3
  rw [iota_zero Hst.out.len] at Hrs
  have Hrow : Away (w4.heap[w.heap.size + 1]? = some (.cells (LK .u64 R) 23 (0, 0))) := ⟨by rw [← Hrs.out]; exact Hrow0.out⟩
  have Hres := R3
  have Hb5 := Hb4
  go_wp2_with (first
    | (refine wpList_load_row rfl 23 _ rfl (w.heap.size + 1) rfl 23 (LK .u64 R) (0, 0) _ Hrow.out Tryd.underlying23 rfl HRz.out ?_)
    | (refine wpList_store_row rfl 23 _ _ rfl (w.heap.size + 2) (LK .u64 R) rfl rfl 23 _ Hres.out HRz.out (same25 HZl.out HRl.out) HRo.out ?_))
  refine bodyPost_ret_by (v := .agg (LK .u64 R)) (results_cell_row rfl _ _ (w.heap.size + 2) 23 _ (0, 0) _ rfl (setRow_heap _ _ _ _ _ _ Hres.out) Tryd.underlying23 rfl HRz.out) rfl ?_
  exact ⟨rfl, Hb5.out.trans (below_setRow _ _ _ (by omega))⟩

theorem step_any {T : Array Value} {ts rs : List Nat} (n : Int) (a : List Nat) (w : World) (h : St a) (hK : KT T ts rs) :
    Calls Tryd.prog 15 #[.agg T, .agg (LK .u64 a), .int .i64 n] w fun e w' => e = .returned (.agg (LK .u64 (roundL (fun i => ts.getD i 0) (cst rs n) a))) ∧ Below w.heap.size w w' := by
  by_cases h0 : n < 0
  · rw [cst, if_neg (by omega)]
    exact step_neg n h0 a w h hK
  · by_cases h1 : 24 ≤ n
    · rw [cst, if_neg (by omega)]
      exact step_big n h1 a w h hK
    · obtain ⟨m, rfl⟩ := Int.eq_ofNat_of_zero_le (show 0 ≤ n by omega)
      rw [cst, if_pos (by omega), Int.toNat_natCast]
      exact step_at m (by omega) a w h hK
end Go.Proofs.YtmmdjmiekodolaaDoor.rkeb
