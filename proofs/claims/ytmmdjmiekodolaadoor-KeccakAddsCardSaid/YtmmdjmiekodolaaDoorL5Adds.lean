/-
  The statement KeccakAdds (P5.6): mixing and turning take the exclusive or of two states to that of both. Conditions: none, but what the row lists of the package's variable 'places', which the card ties to the program's text; for every input that the form speaks of.
-/
import Derived.Test.YtmmdjmiekodolaaDoorRows
import Derived.Test.YtmmdjmiekodolaaDoorCards
import Derived.Test.YtmmdjmiekodolaaDoorTie
import Derived.Test.YtmmdjmiekodolaaDoorLaid
import Derived.Test.YtmmdjmiekodolaaDoorAwake5
import Derived.Test.YtmmdjmiekodolaaDoorKecT
import Derived.Test.YtmmdjmiekodolaaDoorVaryE
import Derived.Test.YtmmdjmiekodolaaDoorTMc
import Derived.ProofKit
import Derived.OpenShut
import Derived.Carry
import Derived.SevenTiedAt
namespace Go.Proofs.YtmmdjmiekodolaaDoor.ladds
open Go Go.ChangeShapes Go.WideShapes Go.ChangeAt Go.RowKit
open Go.Proofs.YtmmdjmiekodolaaDoor.arr Go.Proofs.YtmmdjmiekodolaaDoor.mem Go.Proofs.YtmmdjmiekodolaaDoor.tabv Go.Proofs.YtmmdjmiekodolaaDoor.built Go.Proofs.YtmmdjmiekodolaaDoor.kecm Go.Proofs.YtmmdjmiekodolaaDoor.kecb Go.Proofs.YtmmdjmiekodolaaDoor.keca Go.Proofs.YtmmdjmiekodolaaDoor.kturn Go.Proofs.YtmmdjmiekodolaaDoor.kstep Go.Proofs.YtmmdjmiekodolaaDoor.kfun Go.Proofs.YtmmdjmiekodolaaDoor.kect Go.Proofs.YtmmdjmiekodolaaDoor.laids Go.Proofs.YtmmdjmiekodolaaDoor.qops Go.Proofs.YtmmdjmiekodolaaDoor.awake5 Go.Proofs.YtmmdjmiekodolaaDoor.vary Go.Proofs.YtmmdjmiekodolaaDoor.varyn Go.Proofs.YtmmdjmiekodolaaDoor.varye
set_option linter.unusedVariables false
theorem own : ownKnob Tryd.prog.godebug = none := by kernel_rfl
theorem laidOut : laidOutB Tryd.prog = true := by kernel_rfl


theorem alloc25 (ρ : Operand → Value) (o : Oper) (w1 : World) (ho : o.op = .alloc 23) : (execOp ρ o).run Tryd.prog w1 = .ok (.value (ptr w1.heap.size)) (w1.alloc (.cells #[.int .u64 0, .int .u64 0, .int .u64 0, .int .u64 0, .int .u64 0, .int .u64 0, .int .u64 0, .int .u64 0, .int .u64 0, .int .u64 0, .int .u64 0, .int .u64 0, .int .u64 0, .int .u64 0, .int .u64 0, .int .u64 0, .int .u64 0, .int .u64 0, .int .u64 0, .int .u64 0, .int .u64 0, .int .u64 0, .int .u64 0, .int .u64 0, .int .u64 0] 23)) := by
  unfold execOp
  simp only [ho]
  go_simp
  rfl
def vr (m s ke d e : Nat) : Vr := ⟨m, s, ke, d, e, 23, #[.int .u64 0, .int .u64 0, .int .u64 0, .int .u64 0, .int .u64 0, .int .u64 0, .int .u64 0, .int .u64 0, .int .u64 0, .int .u64 0, .int .u64 0, .int .u64 0, .int .u64 0, .int .u64 0, .int .u64 0, .int .u64 0, .int .u64 0, .int .u64 0, .int .u64 0, .int .u64 0, .int .u64 0, .int .u64 0, .int .u64 0, .int .u64 0, .int .u64 0]⟩
theorem fits25 {l : List Nat} (h : l.length = 25) : Fits Tryd.prog 23 #[.int .u64 0, .int .u64 0, .int .u64 0, .int .u64 0, .int .u64 0, .int .u64 0, .int .u64 0, .int .u64 0, .int .u64 0, .int .u64 0, .int .u64 0, .int .u64 0, .int .u64 0, .int .u64 0, .int .u64 0, .int .u64 0, .int .u64 0, .int .u64 0, .int .u64 0, .int .u64 0, .int .u64 0, .int .u64 0, .int .u64 0, .int .u64 0, .int .u64 0] (LK .u64 l) := ⟨size25 h, by rw [lk_size, h]; rfl, lk_one _ _⟩
theorem st_len {a : List Nat} (h : St a) : a.length = 25 := h.len

set_option maxRecDepth 100000 in
set_option maxHeartbeats 4000000 in
theorem walk (a b : List Nat) (w : World) (wla : a.length = 25) (wga : ∀ i, a.getD i 0 < 18446744073709551616) (wlb : b.length = 25) (wgb : ∀ i, b.getD i 0 < 18446744073709551616) (hP : Gp w) :
    Calls Tryd.prog 4 #[.agg (LK .u64 a), .agg (LK .u64 b)] w fun e w' => e = .returned (.bool true) ∧ Below w.heap.size w w' := by
  have HP := Away.mk hP
  have HAz := Away.mk (size25 wla)
  have HBz := Away.mk (size25 wlb)
  have HAo := Away.mk (lk_one .u64 a)
  have H : Away (St a) := ⟨st_of_arg wla wga⟩
  have HB : Away (St b) := ⟨st_of_arg wlb wgb⟩
  clear wla wga wlb wgb hP
  obtain ⟨hz, hsize⟩ := zero_of_info infoT
  obtain ⟨Zt, HZ⟩ := ex_eq TZ
  rw [HZ.out] at hz
  have HZs : Away (Zt.size = 465) := ⟨by rw [← HZ.out]; exact tz_size⟩
  have Hsize := Away.mk hsize
  clear hsize
  have hkt := kt_doc
  obtain ⟨T, HT⟩ := ex_eq TA
  rw [HT.out] at hkt
  have HTs : Away (T.size = 465) := ⟨by rw [← HT.out]; exact ta_size⟩
  have HTo : Away (T.all (·.oneCell') = true) := ⟨by rw [← HT.out]; exact ta_one⟩
  have HTz : Away ((Tryd.prog.info? 33).map (·.size) = some T.size) := ⟨by rw [HTs.out]; exact Hsize.out⟩
  have HK := Away.mk hkt
  have Hmk : Away (∀ w1 : World, Calls Tryd.prog 19 #[] w1 fun e w' => e = .returned (.agg T) ∧ Below w1.heap.size w1 w') := ⟨fun w1 => by rw [← HT.out]; exact make.make_any w1⟩
  clear hkt HT HZ

  go_enter Tryd.func4, Tryd.ntmps4
  go_wp2_with fail
  obtain ⟨W0, hW0⟩ : ∃ x, (w.alloc (.cells (LK .u64 a) 23)).alloc (.cells (LK .u64 b) 23) = x := ⟨_, rfl⟩
  obtain ⟨x0, x1, s0, b0⟩ := two hW0
  rw [hW0]
  clear hW0
  refine (Hmk.out _).mono ?_
  rintro e w1 ⟨rfl, hb1⟩
  obtain ⟨gT, hgT⟩ : ∃ x, w1.heap.size = x := ⟨_, rfl⟩
  obtain ⟨W1, hW1⟩ : ∃ x, w1.alloc (.cells T 33) = x := ⟨_, rfl⟩
  have b1 : Below W0.heap.size W0 W1 := by rw [← hW1]; exact hb1.alloc hb1.size _
  have A1 : Away (W1.heap[w.heap.size]? = some (.cells (LK .u64 a) 23 (0, 0))) := ⟨(b1.block _ (by omega)).trans x0⟩
  have B1 : Away (W1.heap[w.heap.size + 1]? = some (.cells (LK .u64 b) 23 (0, 0))) := ⟨(b1.block _ (by omega)).trans x1⟩
  have T1 : Away (W1.heap[gT]? = some (.cells T 33 (0, 0))) := ⟨by rw [← hW1]; exact heap_at _ _ _ hgT.symm⟩
  have S1 : Away (w.heap.size + 2 ≤ gT ∧ gT < W1.heap.size) := ⟨by have := hb1.size; omega, lt_of_row T1.out⟩
  have Hb1 : Away (Below w.heap.size w W1) := ⟨b0.trans (b1.mono b0.size)⟩
  have HW1 := Away.mk hW1
  have HgT := Away.mk hgT
  clear x0 x1 s0 b0 b1 hb1 hW1 hgT
  go_wp2_with (first
    | (refine wpList_store_new rfl 33 _ _ rfl _ rfl rfl (by rw [HTs.out]; exact Hsize.out) (by rw [HTs.out]; exact HZs.out) HTo.out rfl ?_; rw [HW1.out, HgT.out])
    | (refine wpList_load_row rfl 23 _ rfl w.heap.size rfl 23 (LK .u64 a) (0, 0) _ A1.out Tryd.underlying23 rfl HAz.out ?_)
    | (refine wpList_store_new rfl 23 _ _ rfl (LK .u64 a) rfl rfl HAz.out (by rw [lk_size, H.out.len]; rfl) HAo.out rfl ?_))
  obtain ⟨gc, hgc⟩ : ∃ x, W1.heap.size = x := ⟨_, rfl⟩
  obtain ⟨W, hW⟩ : ∃ x, W1.alloc (.cells (LK .u64 a) 23) = x := ⟨_, rfl⟩
  obtain ⟨y0, y1, y2⟩ := one hW
  have A2 : Away (W.heap[w.heap.size]? = some (.cells (LK .u64 a) 23 (0, 0))) := ⟨(y2.block _ (by have := S1.out; omega)).trans A1.out⟩
  have B2 : Away (W.heap[w.heap.size + 1]? = some (.cells (LK .u64 b) 23 (0, 0))) := ⟨(y2.block _ (by have := S1.out; omega)).trans B1.out⟩
  have T2 : Away (W.heap[gT]? = some (.cells T 33 (0, 0))) := ⟨(y2.block _ (by have := S1.out; omega)).trans T1.out⟩
  have C2 : Away (W.heap[gc]? = some (.cells (LK .u64 a) 23 (0, 0))) := ⟨hgc ▸ y0⟩
  have S2 : Away (w.heap.size + 2 ≤ gT ∧ gT < gc ∧ gc < W.heap.size) := ⟨by have := S1.out; omega⟩
  have Hb2 : Away (Below w.heap.size w W) := ⟨Hb1.out.trans (y2.mono (by have := S1.out; omega))⟩
  have P2 : Away (Gp W) := ⟨HP.out.later Hb2.out⟩
  rw [hW, hgc]
  clear hW hgc y0 y1 y2 A1 B1 T1 S1 Hb1 HW1 HgT hz
  go_loopw [17] (fun i wr => ∃ k : Nat, k ≤ 25 ∧ i = .int .i64 (k : Int) ∧ Away (At gc (LK .u64 (kecm.part (fun i => i) (fun i => g a i ^^^ g b i) (g a) k)) 23 W wr)) (fun i _ => 25 - (intOf i).toNat)
  case atStart =>
    refine ⟨0, by decide, rfl, ⟨?_⟩⟩
    rw [part_zero, mkS_eta H.out.len]
    exact At.refl C2.out
  case round =>
    obtain ⟨k, hk, rfl, A0⟩ := hrel
    by_cases hlt : k < 25
    · have hkz : (k : Int) < 25 := by omega
      obtain ⟨x, hx⟩ : ∃ x, g a k = x := ⟨_, rfl⟩
      obtain ⟨y, hy⟩ : ∃ x, g b k = x := ⟨_, rfl⟩
      obtain ⟨v, hv⟩ : ∃ v, g a k ^^^ g b k = v := ⟨_, rfl⟩
      have V := xor2 x y v (hx ▸ H.out.lt k) (hy ▸ HB.out.lt k) (by rw [← hv, hx, hy])
      have cx : wr.cell? ⟨gc, k, none⟩ = some (.int .u64 (x : Int)) := cell_at A0.out.row (by rw [lane_get (part_len _ _ _ _) _ hlt, part_get _ _ _ _ _ hlt (Nat.le_refl _), hx])
      have cy := lane_at HB.out.len (A0.out.other (by have := S2.out; omega) (by have := S2.out; omega) B2.out) k y hlt hy
      have HS := Away.mk (part_lane (ord := fun i => i) (f := fun i => g a i ^^^ g b i) (d := g a) (m := k) k v hlt rfl (fun i _ e => e) hv)
      clear hx hy hv hk
      go_wp2_with fail
      refine still_tail 8 (by kernel_rfl) (by kernel_rfl) ?_
      simp only [List.take_succ_cons, List.take_zero, List.drop_succ_cons, List.drop_zero]
      repeat still_step
      refine wpStill_nil ?_
      have A1 : Away (At gc (LK .u64 (kecm.part (fun i => i) (fun i => g a i ^^^ g b i) (g a) k)) 23 W wr.drew) := ⟨at_drew A0.out⟩
      clear cx cy V
      with_reducible refine wpList_put2 A1 rfl _ _ _ rfl rfl ?_
      refine ⟨_, _, _, rfl, rfl, rfl, by rw [lk25 _ (part_len _ _ _ _)]; exact hlt, ?_⟩
      intro wn HRn
      rw [HS.out] at HRn
      go_wp2_with fail
      go_roundw
      case rel => exact ⟨k + 1, by omega, by go_num, HRn⟩
      case measure => simp [intOf]; omega
    · obtain rfl : k = 25 := by omega
      simp only [Int.cast_ofNat_Int]
      have hfin := A0.out
      rw [part_all _ _ _ _ (fun i hi => hi)] at hfin
      obtain ⟨c, Hc⟩ := ex_eq (xs a b)
      have HC : Away (St c) := ⟨by rw [← Hc.out]; exact xs_st H.out HB.out⟩
      have hfin2 : At gc (LK .u64 c) 23 W wr := by rw [← Hc.out]; exact hfin
      have HCz := Away.mk (size25 HC.out.len)
      have A3 : Away (wr.heap[w.heap.size]? = some (.cells (LK .u64 a) 23 (0, 0))) := ⟨hfin2.other (by have := S2.out; omega) (by have := S2.out; omega) A2.out⟩
      have B3 : Away (wr.heap[w.heap.size + 1]? = some (.cells (LK .u64 b) 23 (0, 0))) := ⟨hfin2.other (by have := S2.out; omega) (by have := S2.out; omega) B2.out⟩
      have T3 : Away (wr.heap[gT]? = some (.cells T 33 (0, 0))) := ⟨hfin2.other (by have := S2.out; omega) (by have := S2.out; omega) T2.out⟩
      have C3 := Away.mk hfin2.row
      have P3 : Away (Gp wr) := ⟨P2.out.at hfin2 (by have := S2.out; have := gp_lt HP.out; omega)⟩
      have Hb3 : Away (Below w.heap.size w wr) := ⟨Hb2.out.trans (hfin2.below (by have := S2.out; omega) (by have := S2.out; omega))⟩
      have S3 : Away (w.heap.size + 2 ≤ gT ∧ gT < gc ∧ gc < wr.heap.size) := ⟨by have := S2.out; exact ⟨this.1, this.2.1, hfin2.lt⟩⟩
      clear hfin hfin2 A0 A2 B2 T2 C2 P2 Hb2 S2 hk hlt
      obtain ⟨Xa, HXa⟩ := ex_eq (mixL a)
      have LXa : Away (Xa.length = 25) := ⟨by rw [← HXa.out]; exact mkS_len _⟩
      obtain ⟨Xb, HXb⟩ := ex_eq (mixL b)
      have LXb : Away (Xb.length = 25) := ⟨by rw [← HXb.out]; exact mkS_len _⟩
      obtain ⟨Xc, HXc⟩ := ex_eq (mixL c)
      have LXc : Away (Xc.length = 25) := ⟨by rw [← HXc.out]; exact mkS_len _⟩
      obtain ⟨Ta, HTa⟩ := ex_eq (turnL (fun i => TL.getD i 0) a)
      have LTa : Away (Ta.length = 25) := ⟨by rw [← HTa.out]; exact mkS_len _⟩
      obtain ⟨Tb, HTb⟩ := ex_eq (turnL (fun i => TL.getD i 0) b)
      have LTb : Away (Tb.length = 25) := ⟨by rw [← HTb.out]; exact mkS_len _⟩
      obtain ⟨Tc, HTc⟩ := ex_eq (turnL (fun i => TL.getD i 0) c)
      have LTc : Away (Tc.length = 25) := ⟨by rw [← HTc.out]; exact mkS_len _⟩
      have Ma : Away (∀ w1 : World, Calls Tryd.prog 8 #[.agg (LK .u64 a)] w1 fun e w' => e = .returned (.agg (LK .u64 Xa)) ∧ Below w1.heap.size w1 w') := ⟨fun w1 => by rw [← HXa.out]; exact mix_any a w1 H.out⟩
      have Mb : Away (∀ w1 : World, Calls Tryd.prog 8 #[.agg (LK .u64 b)] w1 fun e w' => e = .returned (.agg (LK .u64 Xb)) ∧ Below w1.heap.size w1 w') := ⟨fun w1 => by rw [← HXb.out]; exact mix_any b w1 HB.out⟩
      have Mc : Away (∀ w1 : World, Calls Tryd.prog 8 #[.agg (LK .u64 c)] w1 fun e w' => e = .returned (.agg (LK .u64 Xc)) ∧ Below w1.heap.size w1 w') := ⟨fun w1 => by rw [← HXc.out]; exact mix_any c w1 HC.out⟩
      have Ua : Away (∀ w1 : World, Gp w1 → Calls Tryd.prog 10 #[.agg T, .agg (LK .u64 a)] w1 fun e w' => e = .returned (.agg (LK .u64 Ta)) ∧ Below w1.heap.size w1 w') := ⟨fun w1 h => by rw [← HTa.out]; exact turn_any a w1 H.out HK.out h⟩
      have Ub : Away (∀ w1 : World, Gp w1 → Calls Tryd.prog 10 #[.agg T, .agg (LK .u64 b)] w1 fun e w' => e = .returned (.agg (LK .u64 Tb)) ∧ Below w1.heap.size w1 w') := ⟨fun w1 h => by rw [← HTb.out]; exact turn_any b w1 HB.out HK.out h⟩
      have Uc : Away (∀ w1 : World, Gp w1 → Calls Tryd.prog 10 #[.agg T, .agg (LK .u64 c)] w1 fun e w' => e = .returned (.agg (LK .u64 Tc)) ∧ Below w1.heap.size w1 w') := ⟨fun w1 h => by rw [← HTc.out]; exact turn_any c w1 HC.out HK.out h⟩
      have XX : Away (∀ i, i < 25 → g Xc i = g Xa i ^^^ g Xb i) := ⟨fun i hi => by rw [← HXc.out, ← HXa.out, ← HXb.out, ← Hc.out]; exact mix_xs H.out HB.out i hi⟩
      have TT2 : Away (∀ i, i < 25 → g Tc i = g Ta i ^^^ g Tb i) := ⟨fun i hi => by rw [← HTc.out, ← HTa.out, ← HTb.out, ← Hc.out]; exact turn_xs _ H.out HB.out i hi⟩
      have QXa : Away (∀ i, g Xa i < 18446744073709551616) := ⟨by rw [← HXa.out]; exact (mixL_st H.out).lt⟩
      have QXb : Away (∀ i, g Xb i < 18446744073709551616) := ⟨by rw [← HXb.out]; exact (mixL_st HB.out).lt⟩
      have QTa : Away (∀ i, g Ta i < 18446744073709551616) := ⟨by rw [← HTa.out]; exact (turnL_st _ H.out).lt⟩
      have QTb : Away (∀ i, g Tb i < 18446744073709551616) := ⟨by rw [← HTb.out]; exact (turnL_st _ HB.out).lt⟩
      clear HXa HXb HXc HTa HTb HTc Hc
      go_wp2_with fail
      refine region_vary_take [vr 6 9 1 8 30, vr 7 10 3 9 32, vr 8 11 5 10 34] 6 (by kernel_rfl) (by kernel_rfl) (by kernel_rfl) (by kernel_rfl) (by decide) (fun v hv ρ o w1 ho => by
        simp only [List.mem_cons, List.not_mem_nil, or_false] at hv
        rcases hv with rfl | rfl | rfl <;> exact alloc25 ρ o w1 ho) (by simp [vr]) (fun ops HO => ?_)
      simp only [List.take_succ_cons, List.take_zero]

      refine wpMild_load rfl 23 _ rfl _ rfl 23 _ _ (fun w9 hw9 => (hw9.block _ (lt_of_row A3.out)).trans A3.out) Tryd.underlying23 rfl HAz.out ?_
      refine wpMild_step rfl (fun K hK => ?_)
      go_simp
      apply Exists.intro
      refine ⟨fun w9 hw9 => ?_, hK _ ?_⟩
      exact Ma.out w9
      clear hK K
      refine wpMild_load rfl 23 _ rfl _ rfl 23 _ _ (fun w9 hw9 => (hw9.block _ (lt_of_row B3.out)).trans B3.out) Tryd.underlying23 rfl HBz.out ?_
      refine wpMild_step rfl (fun K hK => ?_)
      go_simp
      apply Exists.intro
      refine ⟨fun w9 hw9 => ?_, hK _ ?_⟩
      exact Mb.out w9
      clear hK K
      refine wpMild_load rfl 23 _ rfl _ rfl 23 _ _ (fun w9 hw9 => (hw9.block _ (lt_of_row C3.out)).trans C3.out) Tryd.underlying23 rfl HCz.out ?_
      refine wpMild_step rfl (fun K hK => ?_)
      go_simp
      apply Exists.intro
      refine ⟨fun w9 hw9 => ?_, hK _ ?_⟩
      exact Mc.out w9
      clear hK K
      refine ends3 (LK .u64 Xa) (LK .u64 Xb) (LK .u64 Xc) rfl (fits25 LXa.out) rfl (fits25 LXb.out) rfl (fits25 LXc.out) (by decide) (by decide) (by decide) (fun p1 p2 p3 w5 l1 l2 l3 n12 n13 n23 hb5 r1 r2 r3 => ?_)
      simp only [vr, Act.put, List.setIfInBounds_toArray, List.set_cons_zero, List.set_cons_succ] at r1 r2 r3 ⊢
      have A5 : Away (w5.heap[w.heap.size]? = some (.cells (LK .u64 a) 23 (0, 0))) := ⟨(hb5.block _ (lt_of_row A3.out)).trans A3.out⟩
      have B5 : Away (w5.heap[w.heap.size + 1]? = some (.cells (LK .u64 b) 23 (0, 0))) := ⟨(hb5.block _ (lt_of_row B3.out)).trans B3.out⟩
      have T5 : Away (w5.heap[gT]? = some (.cells T 33 (0, 0))) := ⟨(hb5.block _ (lt_of_row T3.out)).trans T3.out⟩
      have C5 : Away (w5.heap[gc]? = some (.cells (LK .u64 c) 23 (0, 0))) := ⟨(hb5.block _ (lt_of_row C3.out)).trans C3.out⟩
      have P5 : Away (Gp w5) := ⟨P3.out.later hb5⟩
      have Hb5 : Away (Below w.heap.size w w5) := ⟨Hb3.out.trans (hb5.mono Hb3.out.size)⟩
      have R1 := Away.mk r1
      have R2 := Away.mk r2
      have R3 := Away.mk r3
      clear r1 r2 r3 hb5 l1 l2 l3 n12 n13 n23 A3 B3 T3 C3 P3 Hb3 S3 Ma Mb Mc HO
      go_wp2_with fail
      refine region_vary_take [vr 9 12 2 11 37, vr 10 13 5 12 40, vr 11 14 8 13 43] 9 (by kernel_rfl) (by kernel_rfl) (by kernel_rfl) (by kernel_rfl) (by decide) (fun v hv ρ o w1 ho => by
        simp only [List.mem_cons, List.not_mem_nil, or_false] at hv
        rcases hv with rfl | rfl | rfl <;> exact alloc25 ρ o w1 ho) (by simp [vr]) (fun ops HO => ?_)
      simp only [List.take_succ_cons, List.take_zero]
      refine wpMild_load rfl 33 _ rfl _ rfl 33 _ _ (fun w9 hw9 => (hw9.block _ (lt_of_row T5.out)).trans T5.out) Tryd.underlying33 rfl HTz.out ?_
      refine wpMild_load rfl 23 _ rfl _ rfl 23 _ _ (fun w9 hw9 => (hw9.block _ (lt_of_row A5.out)).trans A5.out) Tryd.underlying23 rfl HAz.out ?_
      refine wpMild_step rfl (fun K hK => ?_)
      go_simp
      apply Exists.intro
      refine ⟨fun w9 hw9 => ?_, hK _ ?_⟩
      exact Ua.out w9 (P5.out.later hw9)
      clear hK K
      refine wpMild_load rfl 33 _ rfl _ rfl 33 _ _ (fun w9 hw9 => (hw9.block _ (lt_of_row T5.out)).trans T5.out) Tryd.underlying33 rfl HTz.out ?_
      refine wpMild_load rfl 23 _ rfl _ rfl 23 _ _ (fun w9 hw9 => (hw9.block _ (lt_of_row B5.out)).trans B5.out) Tryd.underlying23 rfl HBz.out ?_
      refine wpMild_step rfl (fun K hK => ?_)
      go_simp
      apply Exists.intro
      refine ⟨fun w9 hw9 => ?_, hK _ ?_⟩
      exact Ub.out w9 (P5.out.later hw9)
      clear hK K
      refine wpMild_load rfl 33 _ rfl _ rfl 33 _ _ (fun w9 hw9 => (hw9.block _ (lt_of_row T5.out)).trans T5.out) Tryd.underlying33 rfl HTz.out ?_
      refine wpMild_load rfl 23 _ rfl _ rfl 23 _ _ (fun w9 hw9 => (hw9.block _ (lt_of_row C5.out)).trans C5.out) Tryd.underlying23 rfl HCz.out ?_
      refine wpMild_step rfl (fun K hK => ?_)
      go_simp
      apply Exists.intro
      refine ⟨fun w9 hw9 => ?_, hK _ ?_⟩
      exact Uc.out w9 (P5.out.later hw9)
      clear hK K
      refine ends3 (LK .u64 Ta) (LK .u64 Tb) (LK .u64 Tc) rfl (fits25 LTa.out) rfl (fits25 LTb.out) rfl (fits25 LTc.out) (by decide) (by decide) (by decide) (fun q1 q2 q3 w6 l1 l2 l3 n12 n13 n23 hb6 r1 r2 r3 => ?_)
      simp only [vr, Act.put, List.setIfInBounds_toArray, List.set_cons_zero, List.set_cons_succ] at r1 r2 r3 ⊢
      have E1 : Away (w6.heap[p1]? = some (.cells (LK .u64 Xa) 23 (0, 0))) := ⟨(hb6.block _ (lt_of_row R1.out)).trans R1.out⟩
      have E2 : Away (w6.heap[p2]? = some (.cells (LK .u64 Xb) 23 (0, 0))) := ⟨(hb6.block _ (lt_of_row R2.out)).trans R2.out⟩
      have E3 : Away (w6.heap[p3]? = some (.cells (LK .u64 Xc) 23 (0, 0))) := ⟨(hb6.block _ (lt_of_row R3.out)).trans R3.out⟩
      have F1 := Away.mk r1
      have F2 := Away.mk r2
      have F3 := Away.mk r3
      have P6 : Away (Gp w6) := ⟨P5.out.later hb6⟩
      have Hb6 : Away (Below w.heap.size w w6) := ⟨Hb5.out.trans (hb6.mono Hb5.out.size)⟩
      clear r1 r2 r3 hb6 l1 l2 l3 n12 n13 n23 A5 B5 T5 C5 P5 Hb5 R1 R2 R3 Ua Ub Uc HO
      go_wp2_with fail
      go_loopw [44] (fun i wr => ∃ k : Nat, k ≤ 25 ∧ i = .int .i64 (k : Int) ∧ Away (Below w6.heap.size w6 wr)) (fun i _ => 25 - (intOf i).toNat)
      case atStart => exact ⟨0, by decide, rfl, ⟨Below.refl _ _⟩⟩
      case round =>
        obtain ⟨k, hk, rfl, B0⟩ := hrel
        by_cases hlt : k < 25
        · have hkz : (k : Int) < 25 := by omega
          obtain ⟨xa, hxa⟩ : ∃ x, g Xa k = x := ⟨_, rfl⟩
          obtain ⟨xb, hxb⟩ : ∃ x, g Xb k = x := ⟨_, rfl⟩
          obtain ⟨xc, hxc⟩ : ∃ x, g Xc k = x := ⟨_, rfl⟩
          obtain ⟨ta, hta⟩ : ∃ x, g Ta k = x := ⟨_, rfl⟩
          obtain ⟨tb, htb⟩ : ∃ x, g Tb k = x := ⟨_, rfl⟩
          obtain ⟨tc, htc⟩ : ∃ x, g Tc k = x := ⟨_, rfl⟩
          have V1 := xor2 xa xb xc (hxa ▸ QXa.out k) (hxb ▸ QXb.out k) (by rw [← hxa, ← hxb, ← hxc, XX.out k hlt])
          have V2 := xor2 ta tb tc (hta ▸ QTa.out k) (htb ▸ QTb.out k) (by rw [← hta, ← htb, ← htc, TT2.out k hlt])
          have lv : ∀ {p : Nat} {o : Obj}, w6.heap[p]? = some o → wr.heap[p]? = some o := fun {p o} h => by
            have hl : p < w6.heap.size := by
              by_cases hlt : p < w6.heap.size
              · exact hlt
              · rw [Array.getElem?_eq_none (by omega)] at h; cases h
            exact (B0.out.block p hl).trans h
          have c1 := lane_at LXa.out (lv E1.out) k xa hlt hxa
          have c2 := lane_at LXb.out (lv E2.out) k xb hlt hxb
          have c3 := lane_at LXc.out (lv E3.out) k xc hlt hxc
          have c4 := lane_at LTa.out (lv F1.out) k ta hlt hta
          have c5 := lane_at LTb.out (lv F2.out) k tb hlt htb
          have c6 := lane_at LTc.out (lv F3.out) k tc hlt htc
          clear hxa hxb hxc hta htb htc lv hk
          go_wp2_with fail
          refine region_still_ops (by kernel_rfl) (by kernel_rfl) (fun ops HO => ?_)
          still_step
          still_step
          still_step
          still_step
          still_step
          still_step
          still_step
          still_step
          still_step
          still_step
          still_step
          still_step
          refine wpStill_want (by rw [← HO.out]; kernel_rfl) (fun K hK => ?_)
          go_simp
          refine hK _ ?_
          clear hK K
          refine wpStill_want (by rw [← HO.out]; kernel_rfl) (fun K hK => ?_)
          go_simp
          refine hK _ ?_
          clear hK K
          refine wpStill_want (by rw [← HO.out]; kernel_rfl) (fun K hK => ?_)
          go_simp
          refine hK _ ?_
          clear hK K
          refine wpStill_want (by rw [← HO.out]; kernel_rfl) (fun K hK => ?_)
          go_simp
          refine hK _ ?_
          clear hK K
          refine wpStill_want (by rw [← HO.out]; kernel_rfl) (fun K hK => ?_)
          go_simp
          refine hK _ ?_
          clear hK K
          refine wpStill_want (by rw [← HO.out]; kernel_rfl) (fun K hK => ?_)
          go_simp
          refine hK _ ?_
          clear hK K
          refine wpStill_want (by rw [← HO.out]; kernel_rfl) (fun K hK => ?_)
          go_simp
          refine hK _ ?_
          clear hK K
          refine wpStill_want (by rw [← HO.out]; kernel_rfl) (fun K hK => ?_)
          go_simp
          refine hK _ ?_
          clear hK K
          refine wpStill_want (by rw [← HO.out]; kernel_rfl) (fun K hK => ?_)
          go_simp
          refine hK _ ?_
          clear hK K
          refine wpStill_want (by rw [← HO.out]; kernel_rfl) (fun K hK => ?_)
          go_simp
          refine hK _ ?_
          clear hK K
          refine wpStill_want (by rw [← HO.out]; kernel_rfl) (fun K hK => ?_)
          go_simp
          refine hK _ ?_
          clear hK K
          still_step
          refine wpStill_nil ?_
          clear c1 c2 c3 c4 c5 c6 V1 V2 HO
          go_wp2_with fail
          go_roundw
          case rel => exact ⟨k + 1, by omega, by go_num, ⟨B0.out.drew⟩⟩
          case measure => simp [intOf]; omega
        · obtain rfl : k = 25 := by omega
          simp only [Int.cast_ofNat_Int]
          have P7 : Away (Gp wr) := ⟨P6.out.later B0.out⟩
          have Hb7 : Away (Below w.heap.size w wr) := ⟨Hb6.out.trans (B0.out.mono Hb6.out.size)⟩
          clear E1 E2 E3 F1 F2 F3 B0
          go_wp2_with fail
          refine (awake_any _ P7.out).mono ?_
          rintro e w8 ⟨rfl, hb8⟩
          have Hb8 : Away (Below w.heap.size w w8) := ⟨Hb7.out.trans (hb8.mono Hb7.out.size)⟩
          clear hb8
          go_wp2_with fail
          go_ret
          exact ⟨rfl, Hb8.out⟩

/-! ### The row and its card -/
set_option maxRecDepth 100000 in
theorem lifted (os : Os) (started : os.Started) (H : Type) (enc : TypeId × Value → H) :
    ReturnsInHanded {} Tryd.checked os 4 .any (fun w args => (Rows.keccakAddsSpec.pre enc Tryd.prog Tryd.f4 [] false w args ∧ laidMetH Tryd.prog [("sigil/keccak.places", Rows.laid_sigil_keccak_places)] w) ∧ sizedMet enc Tryd.prog Tryd.f4 (OpenSpec.ofChange Rows.keccakAddsSpec) false w args)
      (Rows.keccakAddsSpec.post enc Tryd.prog Tryd.f4 false true false false) := by
  refine returnsInHanded_of_change_and (C := Tryd.checked) (X := fun w _ => laidMetH Tryd.prog [("sigil/keccak.places", Rows.laid_sigil_keccak_places)] w) (fun _ _ _ hh h => h.of_heap hh) own started (by kernel_rfl) Tryd.func4
    (ChangeSpec.witness_shaped (enc := enc) (C := Tryd.checked) (os := os) (X := fun w _ => laidMetH Tryd.prog [("sigil/keccak.places", Rows.laid_sigil_keccak_places)] w) false (World.doorLaid Tryd.prog 400 os) #[.agg #[.int .u64 0, .int .u64 0, .int .u64 0, .int .u64 0, .int .u64 0, .int .u64 0, .int .u64 0, .int .u64 0, .int .u64 0, .int .u64 0, .int .u64 0, .int .u64 0, .int .u64 0, .int .u64 0, .int .u64 0, .int .u64 0, .int .u64 0, .int .u64 0, .int .u64 0, .int .u64 0, .int .u64 0, .int .u64 0, .int .u64 0, .int .u64 0, .int .u64 0], .agg #[.int .u64 0, .int .u64 0, .int .u64 0, .int .u64 0, .int .u64 0, .int .u64 0, .int .u64 0, .int .u64 0, .int .u64 0, .int .u64 0, .int .u64 0, .int .u64 0, .int .u64 0, .int .u64 0, .int .u64 0, .int .u64 0, .int .u64 0, .int .u64 0, .int .u64 0, .int .u64 0, .int .u64 0, .int .u64 0, .int .u64 0, .int .u64 0, .int .u64 0]] 8 rfl (World.shaped_of_RefB (by kernel_rfl) (by kernel_rfl)) (by kernel_rfl) (by kernel_rfl) (by kernel_rfl) (laids.door_met os _)) ?_
  intro W base args ds gs before hval0 hW _ _ hL _
  have hval : ∀ (j : Nat) t v, Tryd.f4.params[j]? = some t → args[j]? = some v → Value.okWide Tryd.prog W .any base t v := hval0
  have hW' := hW
  have hlt := hW.lt
  obtain ⟨p, q, hA0, hV, rfl, hfz, hnd⟩ := hW
  have hA : DataW.TrodAll enc Tryd.prog W 0 (fun _ => true) true Tryd.f4.params.toList args.toList ds p := hA0
  rw [Tryd.params4] at hA hval
  obtain ⟨v0, vs0, d0, ds0, p0, q0, hargs, rfl, rfl, h0, r0⟩ := trodAll_cons hA
  obtain ⟨v1, vs1, d1, ds1, p1, q1, rfl, rfl, rfl, h1, r1⟩ := trodAll_cons r0
  obtain ⟨rfl, rfl, rfl⟩ := trodAll_nil r1
  obtain rfl : args = #[v0, v1] := by cases args; simp_all
  obtain ⟨rfl, rfl⟩ := trodVars_none hV
  obtain ⟨a0, rfl, wl0, wg0⟩ := words.open_words Tryd.underlying23 Tryd.underlying22 (by kernel_rfl) (by kernel_rfl) (hval 0 23 v0 rfl rfl) h0
  obtain ⟨a1, rfl, wl1, wg1⟩ := words.open_words Tryd.underlying23 Tryd.underlying22 (by kernel_rfl) (by kernel_rfl) (hval 1 23 v1 rfl rfl) h1
  have hG := laids.gp_of hL
  clear hA0 hval0 hL
  refine (walk a0 a1 W wl0 wg0 wl1 wg1 hG).mono fun e W' ⟨he, bel⟩ => ?_
  subst he
  exact ⟨_, rfl, _, _, _, [], _, [], hW', trodAll_mk1 (shut_bool Tryd.underlying4 _), (trodAll_cons_mk (Below.trod laidOut (by kernel_rfl) (of_decide_eq_true (by kernel_rfl)) h0 bel (fun x hx => by first | exact absurd hx (by simp) | exact hlt x (by simpa using hx) | exact hlt x (by simp; exact Or.inl hx) | exact hlt x (by simp; exact Or.inr hx) | exact hlt x (by simp; exact Or.inr (Or.inl hx)) | exact hlt x (by simp; exact Or.inr (Or.inr hx)))) (trodAll_cons_mk (Below.trod laidOut (by kernel_rfl) (of_decide_eq_true (by kernel_rfl)) h1 bel (fun x hx => by first | exact absurd hx (by simp) | exact hlt x (by simpa using hx) | exact hlt x (by simp; exact Or.inl hx) | exact hlt x (by simp; exact Or.inr hx) | exact hlt x (by simp; exact Or.inr (Or.inl hx)) | exact hlt x (by simp; exact Or.inr (Or.inr hx)))) trodAll_mk0)), rfl, bel.frame _, fun h => by cases h⟩

theorem over : Rows.KeccakAddsSaid :=
  OpenClaim.holds_of_wide 4 Tryd.f4 rfl rfl rfl rfl rfl rfl rfl ⟨rfl, rfl, rfl, rfl, rfl⟩ rfl rfl rfl rfl rfl (by kernel_rfl) Tryd.func4 (by kernel_rfl)
    (of_decide_eq_true (by kernel_rfl)) (by unfold Func.isWrapper; first | (rw [if_pos (by decide +kernel)]; kernel_rfl) | (rw [if_neg (by decide +kernel)]; exact ⟨rfl, rfl⟩))
    (fun os started H enc _ => lifted os started H enc)

theorem proved : Rows.KeccakAddsCardSaid :=
  Claim7.holds_tied_plain_at .later [] [.data] true _ false
    over (fun _ h => by cases h) (by kernel_rfl) (fun _ h => by cases h) keccakAdds_row_tie rfl ⟨rfl, rfl⟩ (by kernel_rfl) rfl
    (fun f fn hf hfn => by
      obtain rfl : f = 4 := Option.some.inj ((show Tryd.prog.funcNamed "sigil/sigillaw05.KeccakAdds" = some 4 by kernel_rfl).symm.trans hf) |>.symm
      obtain rfl : fn = Tryd.f4 := (Option.some.inj (Tryd.func4.symm.trans hfn)).symm
      exact ⟨by kernel_rfl, fun j t ht => by
        rw [Tryd.params4] at ht
        have hm : t ∈ [23, 23] := by simpa using Array.mem_of_getElem? ht
        have hall : ([23, 23].all fun u => !Tryd.prog.wantsStandIn u) = true := by kernel_rfl
        exact (show Tryd.prog.wantsStandIn t = false by simpa using List.all_eq_true.1 hall t hm)⟩)
    (by kernel_rfl)
end Go.Proofs.YtmmdjmiekodolaaDoor.ladds
