/-
  The statement KeccakSteps (P5.4, P5.5): all rounds are the steps of each, one behind the other; a step of a round that there is not is mixing, turning and bending. Conditions: none, but what the row lists of the package's variable 'places', which the card ties to the program's text; for every input that the form speaks of.
-/
import Derived.Test.YtmmdjmiekodolaaDoorRows
import Derived.Test.YtmmdjmiekodolaaDoorCards
import Derived.Test.YtmmdjmiekodolaaDoorTie
import Derived.Test.YtmmdjmiekodolaaDoorLaid
import Derived.Test.YtmmdjmiekodolaaDoorAwake5
import Derived.Test.YtmmdjmiekodolaaDoorKecT
import Derived.Test.YtmmdjmiekodolaaDoorTMc
import Derived.ProofKit
import Derived.OpenShut
import Derived.Carry
import Derived.SevenTiedAt
namespace Go.Proofs.YtmmdjmiekodolaaDoor.lsteps
open Go Go.ChangeShapes Go.WideShapes Go.ChangeAt Go.RowKit
open Go.Proofs.YtmmdjmiekodolaaDoor.arr Go.Proofs.YtmmdjmiekodolaaDoor.mem Go.Proofs.YtmmdjmiekodolaaDoor.tabv Go.Proofs.YtmmdjmiekodolaaDoor.built Go.Proofs.YtmmdjmiekodolaaDoor.kecm Go.Proofs.YtmmdjmiekodolaaDoor.kecb Go.Proofs.YtmmdjmiekodolaaDoor.keca Go.Proofs.YtmmdjmiekodolaaDoor.kturn Go.Proofs.YtmmdjmiekodolaaDoor.kstep Go.Proofs.YtmmdjmiekodolaaDoor.kfun Go.Proofs.YtmmdjmiekodolaaDoor.kect Go.Proofs.YtmmdjmiekodolaaDoor.laids Go.Proofs.YtmmdjmiekodolaaDoor.qops Go.Proofs.YtmmdjmiekodolaaDoor.awake5
set_option linter.unusedVariables false
theorem own : ownKnob Tryd.prog.godebug = none := by kernel_rfl
theorem laidOut : laidOutB Tryd.prog = true := by kernel_rfl


set_option maxRecDepth 100000 in
set_option maxHeartbeats 4000000 in
theorem walk (a : List Nat) (b : Int) (w : World) (wl : a.length = 25) (wg : ∀ i, a.getD i 0 < 18446744073709551616) (wb : (Lit.int .i64 b).wf = true) (hP : Gp w) :
    Calls Tryd.prog 6 #[.agg (LK .u64 a), .int .i64 b] w fun e w' => e = .returned (.bool true) ∧ Below w.heap.size w w' := by
  have H : Away (St a) := ⟨st_of_arg wl wg⟩
  have HP := Away.mk hP
  have HAz := Away.mk (size25 wl)
  have HAo := Away.mk (lk_one .u64 a)
  obtain ⟨B, hB, hBl⟩ := wrap_u64_nat b
  clear wl wg hP wb
  obtain ⟨hz, hsize⟩ := zero_of_info infoT
  obtain ⟨Zt, HZ⟩ := ex_eq TZ
  rw [HZ.out] at hz
  have HZs : Away (Zt.size = 465) := ⟨by rw [← HZ.out]; exact tz_size⟩
  have Hsize := Away.mk hsize
  obtain ⟨z, HZa⟩ := ex_eq Z
  have HZl : Away (z.length = 25) := ⟨by rw [← HZa.out]; rfl⟩
  have Hz : Away ((#[.int .u64 0, .int .u64 0, .int .u64 0, .int .u64 0, .int .u64 0, .int .u64 0, .int .u64 0, .int .u64 0, .int .u64 0, .int .u64 0, .int .u64 0, .int .u64 0, .int .u64 0, .int .u64 0, .int .u64 0, .int .u64 0, .int .u64 0, .int .u64 0, .int .u64 0, .int .u64 0, .int .u64 0, .int .u64 0, .int .u64 0, .int .u64 0, .int .u64 0] : Array Value) = LK .u64 z) := ⟨by rw [← HZa.out]; exact z_is⟩
  clear hsize HZa
  have hkt := kt_doc
  obtain ⟨T, HT⟩ := ex_eq TA
  rw [HT.out] at hkt
  have HTs : Away (T.size = 465) := ⟨by rw [← HT.out]; exact ta_size⟩
  have HTo : Away (T.all (·.oneCell') = true) := ⟨by rw [← HT.out]; exact ta_one⟩
  have HK := Away.mk hkt
  have Hmk : Away (∀ w1 : World, Calls Tryd.prog 19 #[] w1 fun e w' => e = .returned (.agg T) ∧ Below w1.heap.size w1 w') := ⟨fun w1 => by rw [← HT.out]; exact make.make_any w1⟩
  clear hkt HT HZ
  obtain ⟨m, hm⟩ : ∃ m, B % 24 = m := ⟨_, rfl⟩
  have hm1 : (B : Int).tmod 24 = (m : Int) := by rw [Int.tmod_eq_emod_of_nonneg (by omega)]; omega
  have hm2 : (B : Int) % 24 = (m : Int) := by omega
  have hm24 : m < 24 := by omega
  have hmz : (m : Int) < 24 := by omega
  obtain ⟨c, hc⟩ : ∃ c, RL.getD m 0 = c := ⟨_, rfl⟩
  have bc : c < 18446744073709551616 := hc ▸ rl_lt m
  obtain ⟨v, hv⟩ : ∃ v, c ^^^ B = v := ⟨_, rfl⟩
  have V := xor2 c B v bc hBl hv
  have bv : v < 18446744073709551616 := hv ▸ xor_lt c B bc hBl
  obtain ⟨rs, hrs⟩ : ∃ rs, RL.set m v = rs := ⟨_, rfl⟩
  obtain ⟨T', hT'⟩ : ∃ T', T.setIfInBounds (160 + m) (.int .u64 (v : Int)) = T' := ⟨_, rfl⟩
  have HK' : Away (KT T' TL rs) := ⟨by rw [← hrs, ← hT']; exact kt_rounds HK.out rfl m v hm24 bv⟩
  have HT' := Away.mk hT'
  have HTz : Away ((Tryd.prog.info? 33).map (·.size) = some T'.size) := ⟨by rw [HK'.out.size]; exact Hsize.out⟩
  have Hcell : Away (T[160 + m]? = some (.int .u64 (c : Int))) := ⟨by rw [HK.out.r m hm24, hc]⟩
  clear hrs hT' hv hc hm
  go_enter Tryd.func6, Tryd.ntmps6
  go_wp2_with fail
  obtain ⟨W0, hW0⟩ : ∃ x, w.alloc (.cells (LK .u64 a) 23) = x := ⟨_, rfl⟩
  have A0 : Away (W0.heap[w.heap.size]? = some (.cells (LK .u64 a) 23 (0, 0))) := ⟨by rw [← hW0]; exact heap_at _ _ _ rfl⟩
  have b0 : Below w.heap.size w W0 := by rw [← hW0]; exact below_alloc _ _
  rw [hW0]
  clear hW0
  refine (Hmk.out _).mono ?_
  rintro e w1 ⟨rfl, hb1⟩
  obtain ⟨gT, hgT⟩ : ∃ x, w1.heap.size = x := ⟨_, rfl⟩
  obtain ⟨W1, hW1⟩ : ∃ x, w1.alloc (.cells T 33) = x := ⟨_, rfl⟩
  have S0 : Away (w.heap.size < W0.heap.size ∧ W0.heap.size ≤ gT) := ⟨lt_of_row A0.out, hgT ▸ hb1.size⟩
  have B01 : Below W0.heap.size W0 W1 := by rw [← hW1]; exact hb1.alloc hb1.size _
  have A1 : Away (W1.heap[w.heap.size]? = some (.cells (LK .u64 a) 23 (0, 0))) := ⟨(B01.block _ S0.out.1).trans A0.out⟩
  have t1 : W1.heap[gT]? = some (.cells T 33 (0, 0)) := by rw [← hW1]; exact heap_at _ _ _ hgT.symm
  have R1 : Away (At gT T 33 W1 W1) := ⟨At.refl t1⟩
  have c1 : W1.cell? ⟨gT, 160 + m, none⟩ = some (.int .u64 (c : Int)) := cell_at t1 Hcell.out
  have Hb1 : Away (Below w.heap.size w W1) := ⟨b0.trans (B01.mono b0.size)⟩
  have S1 : Away (gT < W1.heap.size) := ⟨lt_of_row t1⟩
  have HW1 := Away.mk hW1
  have HgT := Away.mk hgT
  clear t1 b0 B01 hb1 A0 hW1 hgT
  go_wp2_with (first
    | (refine wpList_store_new rfl 33 _ _ rfl _ rfl rfl (by rw [HTs.out]; exact Hsize.out) (by rw [HTs.out]; exact HZs.out) HTo.out rfl ?_; rw [HW1.out, HgT.out])
    | ((with_reducible refine wpList_put2 (by assumption) rfl _ _ _ rfl rfl ?_); refine ⟨_, _, _, rfl, rfl, rfl, (by rw [HTs.out]; omega), ?_⟩; intro wn HRn; rw [HT'.out] at HRn; have An : Away (wn.heap[w.heap.size]? = some (.cells (LK .u64 a) 23 (0, 0))) := ⟨HRn.out.other (by have := S0.out; have := S1.out; omega) (by have := S0.out; omega) A1.out⟩)
    | (refine wpList_load_row rfl 23 _ rfl w.heap.size rfl 23 (LK .u64 a) (0, 0) _ An.out Tryd.underlying23 rfl HAz.out ?_)
    | (refine wpList_store_new rfl 23 _ _ rfl (LK .u64 a) rfl rfl HAz.out (by rw [lk_size, H.out.len]; rfl) HAo.out rfl ?_))
  have Hbn : Away (Below w.heap.size w wn) := ⟨Hb1.out.trans (HRn.out.below (by have := S0.out; have := S1.out; omega) (by have := S0.out; omega))⟩
  have Tn := Away.mk HRn.out.row
  have Sn : Away (gT < wn.heap.size) := ⟨HRn.out.lt⟩
  clear hB hm1 hm2 hmz V c1 R1 A1 hz HRn
  obtain ⟨gb, hgb⟩ : ∃ x, wn.heap.size = x := ⟨_, rfl⟩
  obtain ⟨W, hW⟩ : ∃ x, wn.alloc (.cells (LK .u64 a) 23) = x := ⟨_, rfl⟩
  have Ab : Away (W.heap[gb]? = some (.cells (LK .u64 a) 23 (0, 0))) := ⟨by rw [← hW]; exact heap_at _ _ _ hgb.symm⟩
  have hbw : Below wn.heap.size wn W := by rw [← hW]; exact below_alloc _ _
  have A2 : Away (W.heap[w.heap.size]? = some (.cells (LK .u64 a) 23 (0, 0))) := ⟨(hbw.block _ (by have := S0.out; have := Sn.out; omega)).trans An.out⟩
  have T2 : Away (W.heap[gT]? = some (.cells T' 33 (0, 0))) := ⟨(hbw.block _ Sn.out).trans Tn.out⟩
  have P2 : Away (Gp W) := ⟨HP.out.later (Hbn.out.trans (hbw.mono Hbn.out.size))⟩
  have Hb2 : Away (Below w.heap.size w W) := ⟨Hbn.out.trans (hbw.mono Hbn.out.size)⟩
  have S2 : Away (w.heap.size < gT ∧ gT < gb ∧ gb < W.heap.size) := ⟨by have := S0.out; omega, hgb ▸ Sn.out, lt_of_row Ab.out⟩
  rw [hW, hgb]
  clear hW hbw An Hbn Tn Sn S0 S1 hgb Hb1
  go_loopw [21] (fun i wr => ∃ k : Nat, k ≤ 24 ∧ i = .int .i64 (k : Int) ∧ Away (At gb (LK .u64 (permL (fun i => TL.getD i 0) (fun i => rs.getD i 0) a k)) 23 W wr)) (fun i _ => 24 - (intOf i).toNat)
  case atStart => exact ⟨0, by decide, rfl, ⟨At.refl Ab.out⟩⟩
  case round =>
    obtain ⟨k, hk, rfl, A0⟩ := hrel
    by_cases hlt : k < 24
    · have hkz : (k : Int) < 24 := by omega
      obtain ⟨cur, Hcur⟩ := ex_eq (permL (fun i => TL.getD i 0) (fun i => rs.getD i 0) a k)
      have HC : Away (St cur) := ⟨by rw [← Hcur.out]; exact permL_st (fun i => TL.getD i 0) _ HK'.out.br H.out k⟩
      obtain ⟨nxt, Hnxt⟩ := ex_eq (permL (fun i => TL.getD i 0) (fun i => rs.getD i 0) a (k + 1))
      have HN : Away (St nxt) := ⟨by rw [← Hnxt.out]; exact permL_st (fun i => TL.getD i 0) _ HK'.out.br H.out (k + 1)⟩
      rw [Hcur.out] at A0
      have Hst : Away (∀ w1 : World, Gp w1 → Calls Tryd.prog 14 #[.agg T', .agg (LK .u64 cur), .int .i64 (k : Int)] w1 fun e w' => e = .returned (.agg (LK .u64 nxt)) ∧ Below w1.heap.size w1 w') := ⟨fun w1 h => by
        rw [← Hnxt.out, permL, Hcur.out, ← cst_at rs k hlt]; exact step_any (k : Int) cur w1 HC.out HK'.out h⟩
      have Tr : Away (wr.heap[gT]? = some (.cells T' 33 (0, 0))) := ⟨A0.out.other (by have := S2.out; omega) (by have := S2.out; omega) T2.out⟩
      have Cr := Away.mk A0.out.row
      have Cz := Away.mk (size25 HC.out.len)
      have Nz := Away.mk (size25 HN.out.len)
      have No := Away.mk (lk_one .u64 nxt)
      have Cn := Away.mk (same25 HC.out.len HN.out.len)
      clear hk
      go_wp2_with (first
        | (refine wpList_load_row rfl 33 _ rfl gT rfl 33 T' (0, 0) _ Tr.out Tryd.underlying33 rfl HTz.out ?_)
        | (refine wpList_load_row rfl 23 _ rfl gb rfl 23 (LK .u64 cur) (0, 0) _ Cr.out Tryd.underlying23 rfl Cz.out ?_))
      refine (Hst.out _ (Gp.at P2.out A0.out (by have := S2.out; have := gp_lt HP.out; omega))).mono ?_
      rintro e w3 ⟨rfl, h3⟩
      have C3 : Away (w3.heap[gb]? = some (.cells (LK .u64 cur) 23 (0, 0))) := ⟨(h3.block _ A0.out.lt).trans Cr.out⟩
      have A3 : Away (At gb (LK .u64 nxt) 23 W (w3.setRow gb (LK .u64 nxt))) := ⟨by
        have h4 := A0.out.later h3
        exact ⟨h4.os, h4.tape, h4.output, by simpa [World.setRow] using h4.size, setRow_heap _ _ _ _ _ _ C3.out, fun i hi hg => (setRow_other _ _ _ _ hg).trans (h4.block i hi hg)⟩⟩
      clear h3 Hst A0 Tr Cr
      go_wp2_with (refine wpList_store_row rfl 23 _ _ rfl gb (LK .u64 nxt) rfl rfl 23 _ C3.out Nz.out Cn.out No.out ?_)
      go_roundw
      case rel => exact ⟨k + 1, by omega, by go_num, by rw [Hnxt.out]; exact A3⟩
      case measure => simp [intOf]; omega
    · obtain rfl : k = 24 := by omega
      simp only [Int.cast_ofNat_Int]
      obtain ⟨R, HR⟩ := ex_eq (permL (fun i => TL.getD i 0) (fun i => rs.getD i 0) a 24)
      rw [HR.out] at A0
      have HRl : Away (R.length = 25) := ⟨by rw [← HR.out]; exact (permL_st (fun i => TL.getD i 0) _ HK'.out.br H.out 24).len⟩
      have Rz := Away.mk (size25 HRl.out)
      have Tr : Away (wr.heap[gT]? = some (.cells T' 33 (0, 0))) := ⟨A0.out.other (by have := S2.out; omega) (by have := S2.out; omega) T2.out⟩
      have Ar : Away (wr.heap[w.heap.size]? = some (.cells (LK .u64 a) 23 (0, 0))) := ⟨A0.out.other (by have := S2.out; omega) (by have := S2.out; omega) A2.out⟩
      have Cr := Away.mk A0.out.row
      have Pr : Away (Gp wr) := ⟨Gp.at P2.out A0.out (by have := S2.out; have := gp_lt HP.out; omega)⟩
      have Hbr : Away (Below w.heap.size w wr) := ⟨Hb2.out.trans (A0.out.below (by have := S2.out; omega) (by have := S2.out; omega))⟩
      obtain ⟨M, HM⟩ := ex_eq (mixL a)
      have HMs : Away (St M) := ⟨by rw [← HM.out]; exact mixL_st H.out⟩
      obtain ⟨U, HU⟩ := ex_eq (turnL (fun i => TL.getD i 0) M)
      have HUs : Away (St U) := ⟨by rw [← HU.out]; exact turnL_st _ HMs.out⟩
      obtain ⟨B2, HB2⟩ := ex_eq (bendL U)
      have HBs : Away (St B2) := ⟨by rw [← HB2.out]; exact bendL_st HUs.out⟩
      have C1 : Away (∀ w1 : World, Gp w1 → Calls Tryd.prog 16 #[.agg T', .agg (LK .u64 a)] w1 fun e w' => e = .returned (.agg (LK .u64 R)) ∧ Below w1.heap.size w1 w') := ⟨fun w1 h => by rw [← HR.out]; exact perm_any a w1 H.out HK'.out h⟩
      have C2 : Away (∀ w1 : World, Gp w1 → Calls Tryd.prog 14 #[.agg T', .agg (LK .u64 a), .int .i64 24] w1 fun e w' => e = .returned (.agg (LK .u64 B2)) ∧ Below w1.heap.size w1 w') := ⟨fun w1 h => by
        have h9 := step_any (T := T') (ts := TL) (rs := rs) 24 a w1 H.out HK'.out h
        rw [cst, if_neg (by omega), roundL, HM.out, HU.out, HB2.out, iota_zero HBs.out.len] at h9
        exact h9⟩
      have C3 : Away (∀ w1 : World, Calls Tryd.prog 8 #[.agg (LK .u64 a)] w1 fun e w' => e = .returned (.agg (LK .u64 M)) ∧ Below w1.heap.size w1 w') := ⟨fun w1 => by rw [← HM.out]; exact mix_any a w1 H.out⟩
      have C4 : Away (∀ w1 : World, Gp w1 → Calls Tryd.prog 10 #[.agg T', .agg (LK .u64 M)] w1 fun e w' => e = .returned (.agg (LK .u64 U)) ∧ Below w1.heap.size w1 w') := ⟨fun w1 h => by rw [← HU.out]; exact turn_any M w1 HMs.out HK'.out h⟩
      have C5 : Away (∀ w1 : World, Calls Tryd.prog 12 #[.agg (LK .u64 U)] w1 fun e w' => e = .returned (.agg (LK .u64 B2)) ∧ Below w1.heap.size w1 w') := ⟨fun w1 => by rw [← HB2.out]; exact bend_any U w1 HUs.out⟩
      have C6 := Away.mk awake_any
      have q1 := eq25 R R HRl.out HRl.out
      have q2 := eq25 B2 B2 HBs.out.len HBs.out.len
      simp only [decide_true] at q1 q2
      have g1 := guard25
      clear A0 HR HM HU HB2
      go_wp2_with fail

      refine region_quiet_ops (by kernel_rfl) (by kernel_rfl) (fun ops HO => ?_)
      refine wpQuiet_load rfl 33 _ rfl _ rfl 33 _ _ (fun w9 hC => heap_regrown Tr.out hC) Tryd.underlying33 rfl HTz.out ?_
      refine wpQuiet_load rfl 23 _ rfl _ rfl 23 _ _ (fun w9 hC => heap_regrown Ar.out hC) Tryd.underlying23 rfl HAz.out ?_
      quiet_step (exact Calls.regrown_of (C1.out _ (Pr.out.later (below_regrown _ _ _))))
      refine wpQuiet_load rfl 23 _ rfl _ rfl 23 _ _ (fun w9 hC => heap_regrown Cr.out hC) Tryd.underlying23 rfl Rz.out ?_
      quiet_step (skip)
      quiet_step (skip)
      refine wpQuiet_load (by rw [← HO.out]; kernel_rfl) 33 _ rfl _ rfl 33 _ _ (fun w9 hC => heap_regrown Tr.out hC) Tryd.underlying33 rfl HTz.out ?_
      refine wpQuiet_load (by rw [← HO.out]; kernel_rfl) 23 _ rfl _ rfl 23 _ _ (fun w9 hC => heap_regrown Ar.out hC) Tryd.underlying23 rfl HAz.out ?_
      refine wpQuiet_want (by rw [← HO.out]; kernel_rfl) (fun K hK => ?_)
      go_simp
      apply Exists.intro
      refine ⟨fun _ => ?_, hK _ ?_⟩
      exact Calls.regrown_of (C2.out _ (Pr.out.later (below_regrown _ _ _)))
      clear hK K
      refine wpQuiet_load (by rw [← HO.out]; kernel_rfl) 33 _ rfl _ rfl 33 _ _ (fun w9 hC => heap_regrown Tr.out hC) Tryd.underlying33 rfl HTz.out ?_
      refine wpQuiet_load (by rw [← HO.out]; kernel_rfl) 23 _ rfl _ rfl 23 _ _ (fun w9 hC => heap_regrown Ar.out hC) Tryd.underlying23 rfl HAz.out ?_
      refine wpQuiet_want (by rw [← HO.out]; kernel_rfl) (fun K hK => ?_)
      go_simp
      apply Exists.intro
      refine ⟨fun _ => ?_, hK _ ?_⟩
      exact Calls.regrown_of (C3.out _)
      clear hK K
      refine wpQuiet_want (by rw [← HO.out]; kernel_rfl) (fun K hK => ?_)
      go_simp
      apply Exists.intro
      refine ⟨fun _ => ?_, hK _ ?_⟩
      exact Calls.regrown_of (C4.out _ (Pr.out.later (below_regrown _ _ _)))
      clear hK K
      refine wpQuiet_want (by rw [← HO.out]; kernel_rfl) (fun K hK => ?_)
      go_simp
      apply Exists.intro
      refine ⟨fun _ => ?_, hK _ ?_⟩
      exact Calls.regrown_of (C5.out _)
      clear hK K
      refine wpQuiet_want (by rw [← HO.out]; kernel_rfl) (fun K hK => ?_)
      go_simp
      refine hK _ ?_
      clear hK K
      quiet_step (skip)
      quiet_step (skip)
      refine wpQuiet_want (by rw [← HO.out]; kernel_rfl) (fun K hK => ?_)
      go_simp
      apply Exists.intro
      refine ⟨fun _ => ?_, hK _ ?_⟩
      exact Calls.regrown_of (C6.out _ (Pr.out.later (below_regrown _ _ _)))
      clear hK K
      quiet_step (skip)
      quiet_step (skip)
      refine wpQuiet_nil ?_
      intro w3 hC
      have Hb3 : Away (Below w.heap.size w w3) := ⟨by
        obtain ⟨pp, rfl⟩ := hC
        exact Hbr.out.trans ((below_regrown _ _ _).mono Hbr.out.size)⟩
      clear hC
      go_wp2_with fail
      go_ret
      exact ⟨rfl, Hb3.out⟩

/-! ### The row and its card -/
set_option maxRecDepth 100000 in
theorem lifted (os : Os) (started : os.Started) (H : Type) (enc : TypeId × Value → H) :
    ReturnsInHanded {} Tryd.checked os 6 .any (fun w args => (Rows.keccakStepsSpec.pre enc Tryd.prog Tryd.f6 [] false w args ∧ laidMetH Tryd.prog [("sigil/keccak.places", Rows.laid_sigil_keccak_places)] w) ∧ sizedMet enc Tryd.prog Tryd.f6 (OpenSpec.ofChange Rows.keccakStepsSpec) false w args)
      (Rows.keccakStepsSpec.post enc Tryd.prog Tryd.f6 false true false false) := by
  refine returnsInHanded_of_change_and (C := Tryd.checked) (X := fun w _ => laidMetH Tryd.prog [("sigil/keccak.places", Rows.laid_sigil_keccak_places)] w) (fun _ _ _ hh h => h.of_heap hh) own started (by kernel_rfl) Tryd.func6
    (ChangeSpec.witness_shaped (enc := enc) (C := Tryd.checked) (os := os) (X := fun w _ => laidMetH Tryd.prog [("sigil/keccak.places", Rows.laid_sigil_keccak_places)] w) false (World.doorLaid Tryd.prog 400 os) #[.agg #[.int .u64 0, .int .u64 0, .int .u64 0, .int .u64 0, .int .u64 0, .int .u64 0, .int .u64 0, .int .u64 0, .int .u64 0, .int .u64 0, .int .u64 0, .int .u64 0, .int .u64 0, .int .u64 0, .int .u64 0, .int .u64 0, .int .u64 0, .int .u64 0, .int .u64 0, .int .u64 0, .int .u64 0, .int .u64 0, .int .u64 0, .int .u64 0, .int .u64 0], .int .i64 0] 8 rfl (World.shaped_of_RefB (by kernel_rfl) (by kernel_rfl)) (by kernel_rfl) (by kernel_rfl) (by kernel_rfl) (laids.door_met os _)) ?_
  intro W base args ds gs before hval0 hW _ _ hL _
  have hval : ∀ (j : Nat) t v, Tryd.f6.params[j]? = some t → args[j]? = some v → Value.okWide Tryd.prog W .any base t v := hval0
  have hW' := hW
  have hlt := hW.lt
  obtain ⟨p, q, hA0, hV, rfl, hfz, hnd⟩ := hW
  have hA : DataW.TrodAll enc Tryd.prog W 0 (fun _ => true) true Tryd.f6.params.toList args.toList ds p := hA0
  rw [Tryd.params6] at hA hval
  obtain ⟨v0, vs0, d0, ds0, p0, q0, hargs, rfl, rfl, h0, r0⟩ := trodAll_cons hA
  obtain ⟨v1, vs1, d1, ds1, p1, q1, rfl, rfl, rfl, h1, r1⟩ := trodAll_cons r0
  obtain ⟨rfl, rfl, rfl⟩ := trodAll_nil r1
  obtain rfl : args = #[v0, v1] := by cases args; simp_all
  obtain ⟨rfl, rfl⟩ := trodVars_none hV
  obtain ⟨a0, rfl, wl0, wg0⟩ := words.open_words Tryd.underlying23 Tryd.underlying22 (by kernel_rfl) (by kernel_rfl) (hval 0 23 v0 rfl rfl) h0
  obtain ⟨a1, rfl, rfl, rfl, w1⟩ := open_int Tryd.underlying3 (hval 1 3 v1 rfl rfl) h1
  have hG := laids.gp_of hL
  clear hA0 hval0 hL
  refine (walk a0 a1 W wl0 wg0 w1 hG).mono fun e W' ⟨he, bel⟩ => ?_
  subst he
  exact ⟨_, rfl, _, _, _, [], _, [], hW', trodAll_mk1 (shut_bool Tryd.underlying4 _), (trodAll_cons_mk (Below.trod laidOut (by kernel_rfl) (of_decide_eq_true (by kernel_rfl)) h0 bel (fun x hx => by first | exact absurd hx (by simp) | exact hlt x (by simpa using hx) | exact hlt x (by simp; exact Or.inl hx) | exact hlt x (by simp; exact Or.inr hx) | exact hlt x (by simp; exact Or.inr (Or.inl hx)) | exact hlt x (by simp; exact Or.inr (Or.inr hx)))) (trodAll_cons_mk (Below.trod laidOut (by kernel_rfl) (of_decide_eq_true (by kernel_rfl)) h1 bel (fun x hx => by first | exact absurd hx (by simp) | exact hlt x (by simpa using hx) | exact hlt x (by simp; exact Or.inl hx) | exact hlt x (by simp; exact Or.inr hx) | exact hlt x (by simp; exact Or.inr (Or.inl hx)) | exact hlt x (by simp; exact Or.inr (Or.inr hx)))) trodAll_mk0)), rfl, bel.frame _, fun h => by cases h⟩

theorem over : Rows.KeccakStepsSaid :=
  OpenClaim.holds_of_wide 6 Tryd.f6 rfl rfl rfl rfl rfl rfl rfl ⟨rfl, rfl, rfl, rfl, rfl⟩ rfl rfl rfl rfl rfl (by kernel_rfl) Tryd.func6 (by kernel_rfl)
    (of_decide_eq_true (by kernel_rfl)) (by unfold Func.isWrapper; first | (rw [if_pos (by decide +kernel)]; kernel_rfl) | (rw [if_neg (by decide +kernel)]; exact ⟨rfl, rfl⟩))
    (fun os started H enc _ => lifted os started H enc)

theorem proved : Rows.KeccakStepsCardSaid :=
  Claim7.holds_tied_plain_at .later [] [.data] true _ false
    over (fun _ h => by cases h) (by kernel_rfl) (fun _ h => by cases h) keccakSteps_row_tie rfl ⟨rfl, rfl⟩ (by kernel_rfl) rfl
    (fun f fn hf hfn => by
      obtain rfl : f = 6 := Option.some.inj ((show Tryd.prog.funcNamed "sigil/sigillaw05.KeccakSteps" = some 6 by kernel_rfl).symm.trans hf) |>.symm
      obtain rfl : fn = Tryd.f6 := (Option.some.inj (Tryd.func6.symm.trans hfn)).symm
      exact ⟨by kernel_rfl, fun j t ht => by
        rw [Tryd.params6] at ht
        have hm : t ∈ [23, 3] := by simpa using Array.mem_of_getElem? ht
        have hall : ([23, 3].all fun u => !Tryd.prog.wantsStandIn u) = true := by kernel_rfl
        exact (show Tryd.prog.wantsStandIn t = false by simpa using List.all_eq_true.1 hall t hm)⟩)
    (by kernel_rfl)
end Go.Proofs.YtmmdjmiekodolaaDoor.lsteps
