/-
  The statement KeccakSays (P5.1 to P5.5): each part of a round, and all rounds, of any state, with tables in which one number is turned, agree with the reference. Conditions: none, but what the row lists of the package's variable 'places', which the card ties to the program's text; for every input that the form speaks of.
-/
import Derived.Test.YtmmdjmiekodolaaDoorRows
import Derived.Test.YtmmdjmiekodolaaDoorCards
import Derived.Test.YtmmdjmiekodolaaDoorTie
import Derived.Test.YtmmdjmiekodolaaDoorLaid
import Derived.Test.YtmmdjmiekodolaaDoorAwake5
import Derived.Test.YtmmdjmiekodolaaDoorKecT
import Derived.Test.YtmmdjmiekodolaaDoorRPerm
import Derived.Test.YtmmdjmiekodolaaDoorRTM
import Derived.ProofKit
import Derived.OpenShut
import Derived.Carry
import Derived.SevenTiedAt
namespace Go.Proofs.YtmmdjmiekodolaaDoor.lsays
open Go Go.ChangeShapes Go.WideShapes Go.ChangeAt Go.RowKit
open Go.Proofs.YtmmdjmiekodolaaDoor.arr Go.Proofs.YtmmdjmiekodolaaDoor.mem Go.Proofs.YtmmdjmiekodolaaDoor.tabv Go.Proofs.YtmmdjmiekodolaaDoor.built Go.Proofs.YtmmdjmiekodolaaDoor.kecm Go.Proofs.YtmmdjmiekodolaaDoor.kecb Go.Proofs.YtmmdjmiekodolaaDoor.keca Go.Proofs.YtmmdjmiekodolaaDoor.kturn Go.Proofs.YtmmdjmiekodolaaDoor.kstep Go.Proofs.YtmmdjmiekodolaaDoor.kfun Go.Proofs.YtmmdjmiekodolaaDoor.kect Go.Proofs.YtmmdjmiekodolaaDoor.laids Go.Proofs.YtmmdjmiekodolaaDoor.qops Go.Proofs.YtmmdjmiekodolaaDoor.awake5
set_option linter.unusedVariables false
theorem own : ownKnob Tryd.prog.godebug = none := by kernel_rfl
theorem laidOut : laidOutB Tryd.prog = true := by kernel_rfl


theorem and511 (b : Int) : ∃ e : Nat, bits .and .i64 b 511 = (e : Int) ∧ e < 512 := by
  have h : (BitVec.ofInt 64 b &&& BitVec.ofInt 64 511).toNat < 512 := by
    rw [BitVec.toNat_and]
    exact Nat.lt_of_le_of_lt Nat.and_le_right (by decide)
  refine ⟨(BitVec.ofInt 64 b &&& BitVec.ofInt 64 511).toNat, ?_, h⟩
  show IntKind.i64.wrap ((BitVec.ofInt 64 b &&& BitVec.ofInt 64 511).toNat : Int) = _
  rw [IntKind.wrap_i64]
  omega
theorem xori (c e v : Nat) (hc : c < 512) (he : e < 512) (hv : c ^^^ e = v) : bits .xor .i64 (c : Int) (e : Int) = (v : Int) := by
  subst hv
  have h : c ^^^ e < 512 := Nat.xor_lt_two_pow (n := 9) hc he
  show IntKind.i64.wrap ((BitVec.ofInt 64 (c : Int) ^^^ BitVec.ofInt 64 (e : Int)).toNat : Int) = _
  rw [BitVec.toNat_xor, BitVec.ofInt_natCast, BitVec.ofInt_natCast, BitVec.toNat_ofNat, BitVec.toNat_ofNat, Nat.mod_eq_of_lt (by omega), Nat.mod_eq_of_lt (by omega), IntKind.wrap_i64]
  omega

set_option maxRecDepth 100000 in
set_option maxHeartbeats 4000000 in
theorem walk (a : List Nat) (n b : Int) (w : World) (wl : a.length = 25) (wg : ∀ i, a.getD i 0 < 18446744073709551616) (wn : (Lit.int .i64 n).wf = true) (wb : (Lit.int .i64 b).wf = true) (hP : Gp w) :
    Calls Tryd.prog 3 #[.agg (LK .u64 a), .int .i64 n, .int .i64 b] w fun e w' => e = .returned (.bool true) ∧ Below w.heap.size w w' := by
  have H : Away (St a) := ⟨st_of_arg wl wg⟩
  have HP := Away.mk hP
  have HAz := Away.mk (size25 wl)
  obtain ⟨B, hB, hBl⟩ := wrap_u64_nat b
  obtain ⟨e5, hE, he5⟩ := and511 b
  clear wl wg hP wb wn
  obtain ⟨hz, hsize⟩ := zero_of_info infoT
  obtain ⟨Zt, HZ⟩ := ex_eq TZ
  rw [HZ.out] at hz
  have HZs : Away (Zt.size = 465) := ⟨by rw [← HZ.out]; exact tz_size⟩
  have Hsize := Away.mk hsize
  clear hsize
  have hkt := kt_doc
  obtain ⟨T, HT⟩ := ex_eq TA
  rw [HT.out] at hkt
  have HTs : Away (T.size = 465) := ⟨by rw [← HT.out]; exact ta_size⟩
  have HTo : Away (T.all (·.oneCell') = true) := ⟨by rw [← HT.out]; exact ta_one⟩
  have HK := Away.mk hkt
  have Hmk : Away (∀ w1 : World, Calls Tryd.prog 7 #[] w1 fun e w' => e = .returned (.agg T) ∧ Below w1.heap.size w1 w') := ⟨fun w1 => by rw [← HT.out]; exact rmake.make_any w1⟩
  clear hkt HT HZ
  obtain ⟨m, hm⟩ : ∃ m, B % 25 = m := ⟨_, rfl⟩
  have hm1 : (B : Int).tmod 25 = (m : Int) := by rw [Int.tmod_eq_emod_of_nonneg (by omega)]; omega
  have hm2 : (B : Int) % 25 = (m : Int) := by omega
  have hm24 : m < 25 := by omega
  have hmz : (m : Int) < 25 := by omega
  obtain ⟨c, hc⟩ : ∃ c, TL.getD m 0 = c := ⟨_, rfl⟩
  have bc : c < 64 := hc ▸ tl_lt m
  obtain ⟨v, hv⟩ : ∃ v, c ^^^ e5 = v := ⟨_, rfl⟩
  have V := xori c e5 v (by omega) he5 hv
  have bv : v < 512 := hv ▸ Nat.xor_lt_two_pow (n := 9) (by omega) he5
  obtain ⟨ts, hts⟩ : ∃ ts, TL.set m v = ts := ⟨_, rfl⟩
  obtain ⟨T', hT'⟩ : ∃ T', T.setIfInBounds (184 + m) (.int .i64 (v : Int)) = T' := ⟨_, rfl⟩
  have HK' : Away (KT T' ts RL) := ⟨by rw [← hts, ← hT']; exact kt_turns HK.out rfl m v hm24 (by omega)⟩
  have HT' := Away.mk hT'
  have HTz : Away ((Tryd.prog.info? 33).map (·.size) = some T'.size) := ⟨by rw [HK'.out.size]; exact Hsize.out⟩
  have Hcell : Away (T[184 + m]? = some (.int .i64 (c : Int))) := ⟨by rw [HK.out.t m hm24, hc]⟩
  clear hts hT' hv hc hm bc he5
  go_enter Tryd.func3, Tryd.ntmps3
  go_wp2_with fail
  obtain ⟨W0, hW0⟩ : ∃ x, w.alloc (.cells (LK .u64 a) 23) = x := ⟨_, rfl⟩
  have A0 : Away (W0.heap[w.heap.size]? = some (.cells (LK .u64 a) 23 (0, 0))) := ⟨by rw [← hW0]; exact heap_at _ _ _ rfl⟩
  have b0 : Below w.heap.size w W0 := by rw [← hW0]; exact below_alloc _ _
  rw [hW0]
  clear hW0
  refine (Hmk.out _).mono ?_
  rintro e w1 ⟨rfl, hb1⟩
  obtain ⟨gT, hgT⟩ : ∃ x, w1.heap.size = x := ⟨_, rfl⟩
  obtain ⟨W1, hW1⟩ : ∃ x, w1.alloc (.cells T 33) = x := ⟨_, rfl⟩
  have S0 : Away (w.heap.size < W0.heap.size ∧ W0.heap.size ≤ gT) := ⟨lt_of_row A0.out, hgT ▸ hb1.size⟩
  have B01 : Below W0.heap.size W0 W1 := by rw [← hW1]; exact hb1.alloc hb1.size _
  have A1 : Away (W1.heap[w.heap.size]? = some (.cells (LK .u64 a) 23 (0, 0))) := ⟨(B01.block _ S0.out.1).trans A0.out⟩
  have t1 : W1.heap[gT]? = some (.cells T 33 (0, 0)) := by rw [← hW1]; exact heap_at _ _ _ hgT.symm
  have R1 : Away (At gT T 33 W1 W1) := ⟨At.refl t1⟩
  have c1 : W1.cell? ⟨gT, 184 + m, none⟩ = some (.int .i64 (c : Int)) := cell_at t1 Hcell.out
  have Hb1 : Away (Below w.heap.size w W1) := ⟨b0.trans (B01.mono b0.size)⟩
  have S1 : Away (gT < W1.heap.size) := ⟨lt_of_row t1⟩
  have HW1 := Away.mk hW1
  have HgT := Away.mk hgT
  clear t1 b0 B01 hb1 A0 hW1 hgT
  go_wp2_with (first
    | (refine wpList_store_new rfl 33 _ _ rfl _ rfl rfl (by rw [HTs.out]; exact Hsize.out) (by rw [HTs.out]; exact HZs.out) HTo.out rfl ?_; rw [HW1.out, HgT.out])
    | ((with_reducible refine wpList_put2 (by assumption) rfl _ _ _ rfl rfl ?_); refine ⟨_, _, _, rfl, rfl, rfl, (by rw [HTs.out]; omega), ?_⟩; intro wr HRn))
  rw [HT'.out] at HRn
  have Ar : Away (wr.heap[w.heap.size]? = some (.cells (LK .u64 a) 23 (0, 0))) := ⟨HRn.out.other (by have := S0.out; have := S1.out; omega) (by have := S0.out; omega) A1.out⟩
  have Hbr : Away (Below w.heap.size w wr) := ⟨Hb1.out.trans (HRn.out.below (by have := S0.out; have := S1.out; omega) (by have := S0.out; omega))⟩
  have Tr := Away.mk HRn.out.row
  have Pr : Away (Gp wr) := ⟨HP.out.later Hbr.out⟩
  clear hB hE hm1 hm2 hmz V c1 R1 A1 hz HRn
  obtain ⟨M, HM⟩ := ex_eq (mixL a)
  have HMl : Away (M.length = 25) := ⟨by rw [← HM.out]; exact mkS_len _⟩
  obtain ⟨U, HU⟩ := ex_eq (turnL (fun i => ts.getD i 0) a)
  have HUl : Away (U.length = 25) := ⟨by rw [← HU.out]; exact mkS_len _⟩
  obtain ⟨B2, HB2⟩ := ex_eq (bendL a)
  have HBl : Away (B2.length = 25) := ⟨by rw [← HB2.out]; exact mkS_len _⟩
  obtain ⟨S, HS⟩ := ex_eq (roundL (fun i => ts.getD i 0) (cst RL n) a)
  have HSl : Away (S.length = 25) := ⟨by rw [← HS.out]; exact mkS_len _⟩
  obtain ⟨R, HR⟩ := ex_eq (permL (fun i => ts.getD i 0) (fun i => RL.getD i 0) a 24)
  have HRl : Away (R.length = 25) := ⟨by rw [← HR.out]; exact (permL_st _ _ HK'.out.br H.out 24).len⟩
  have C1 : Away (∀ w1 : World, Calls Tryd.prog 8 #[.agg (LK .u64 a)] w1 fun e w' => e = .returned (.agg (LK .u64 M)) ∧ Below w1.heap.size w1 w') := ⟨fun w1 => by rw [← HM.out]; exact mix_any a w1 H.out⟩
  have D1 : Away (∀ w1 : World, Calls Tryd.prog 9 #[.agg (LK .u64 a)] w1 fun e w' => e = .returned (.agg (LK .u64 M)) ∧ Below w1.heap.size w1 w') := ⟨fun w1 => by rw [← HM.out]; exact rkec.mix_any a w1 H.out⟩
  have C2 : Away (∀ w1 : World, Gp w1 → Calls Tryd.prog 10 #[.agg T', .agg (LK .u64 a)] w1 fun e w' => e = .returned (.agg (LK .u64 U)) ∧ Below w1.heap.size w1 w') := ⟨fun w1 h => by rw [← HU.out]; exact turn_any a w1 H.out HK'.out h⟩
  have D2 : Away (∀ w1 : World, Calls Tryd.prog 11 #[.agg T', .agg (LK .u64 a)] w1 fun e w' => e = .returned (.agg (LK .u64 U)) ∧ Below w1.heap.size w1 w') := ⟨fun w1 => by rw [← HU.out]; exact rkec.turn_any a w1 H.out HK'.out⟩
  have C3 : Away (∀ w1 : World, Calls Tryd.prog 12 #[.agg (LK .u64 a)] w1 fun e w' => e = .returned (.agg (LK .u64 B2)) ∧ Below w1.heap.size w1 w') := ⟨fun w1 => by rw [← HB2.out]; exact bend_any a w1 H.out⟩
  have D3 : Away (∀ w1 : World, Calls Tryd.prog 13 #[.agg (LK .u64 a)] w1 fun e w' => e = .returned (.agg (LK .u64 B2)) ∧ Below w1.heap.size w1 w') := ⟨fun w1 => by rw [← HB2.out]; exact rkeb.bend_any a w1 H.out⟩
  have C4 : Away (∀ w1 : World, Gp w1 → Calls Tryd.prog 14 #[.agg T', .agg (LK .u64 a), .int .i64 n] w1 fun e w' => e = .returned (.agg (LK .u64 S)) ∧ Below w1.heap.size w1 w') := ⟨fun w1 h => by rw [← HS.out]; exact step_any n a w1 H.out HK'.out h⟩
  have D4 : Away (∀ w1 : World, Calls Tryd.prog 15 #[.agg T', .agg (LK .u64 a), .int .i64 n] w1 fun e w' => e = .returned (.agg (LK .u64 S)) ∧ Below w1.heap.size w1 w') := ⟨fun w1 => by rw [← HS.out]; exact rkeb.step_any n a w1 H.out HK'.out⟩
  have C5 : Away (∀ w1 : World, Gp w1 → Calls Tryd.prog 16 #[.agg T', .agg (LK .u64 a)] w1 fun e w' => e = .returned (.agg (LK .u64 R)) ∧ Below w1.heap.size w1 w') := ⟨fun w1 h => by rw [← HR.out]; exact perm_any a w1 H.out HK'.out h⟩
  have D5 : Away (∀ w1 : World, Calls Tryd.prog 17 #[.agg T', .agg (LK .u64 a)] w1 fun e w' => e = .returned (.agg (LK .u64 R)) ∧ Below w1.heap.size w1 w') := ⟨fun w1 => by rw [← HR.out]; exact rperm.perm_any a w1 H.out HK'.out⟩
  have C6 := Away.mk awake_any
  have q1 := eq25 M M HMl.out HMl.out
  have q2 := eq25 U U HUl.out HUl.out
  have q3 := eq25 B2 B2 HBl.out HBl.out
  have q4 := eq25 S S HSl.out HSl.out
  have q5 := eq25 R R HRl.out HRl.out
  simp only [decide_true] at q1 q2 q3 q4 q5
  have g1 := guard25
  clear HM HU HB2 HS HR
  go_wp2_with fail

  refine region_quiet_ops (by kernel_rfl) (by kernel_rfl) (fun ops HO => ?_)
  refine wpQuiet_load rfl 23 _ rfl _ rfl 23 _ _ (fun w9 hC => heap_regrown Ar.out hC) Tryd.underlying23 rfl HAz.out ?_
  quiet_step (exact Calls.regrown_of (C1.out _))
  refine wpQuiet_load rfl 23 _ rfl _ rfl 23 _ _ (fun w9 hC => heap_regrown Ar.out hC) Tryd.underlying23 rfl HAz.out ?_
  quiet_step (exact Calls.regrown_of (D1.out _))
  quiet_step (skip)
  quiet_step (skip)
  refine wpQuiet_load (by rw [← HO.out]; kernel_rfl) 33 _ rfl _ rfl 33 _ _ (fun w9 hC => heap_regrown Tr.out hC) Tryd.underlying33 rfl HTz.out ?_
  refine wpQuiet_load (by rw [← HO.out]; kernel_rfl) 23 _ rfl _ rfl 23 _ _ (fun w9 hC => heap_regrown Ar.out hC) Tryd.underlying23 rfl HAz.out ?_
  refine wpQuiet_want (by rw [← HO.out]; kernel_rfl) (fun K hK => ?_)
  go_simp
  apply Exists.intro
  refine ⟨fun _ => ?_, hK _ ?_⟩
  exact Calls.regrown_of (C2.out _ (Pr.out.later (below_regrown _ _ _)))
  clear hK K
  refine wpQuiet_load (by rw [← HO.out]; kernel_rfl) 33 _ rfl _ rfl 33 _ _ (fun w9 hC => heap_regrown Tr.out hC) Tryd.underlying33 rfl HTz.out ?_
  refine wpQuiet_load (by rw [← HO.out]; kernel_rfl) 23 _ rfl _ rfl 23 _ _ (fun w9 hC => heap_regrown Ar.out hC) Tryd.underlying23 rfl HAz.out ?_
  refine wpQuiet_want (by rw [← HO.out]; kernel_rfl) (fun K hK => ?_)
  go_simp
  apply Exists.intro
  refine ⟨fun _ => ?_, hK _ ?_⟩
  exact Calls.regrown_of (D2.out _)
  clear hK K
  refine wpQuiet_want (by rw [← HO.out]; kernel_rfl) (fun K hK => ?_)
  go_simp
  refine hK _ ?_
  clear hK K
  quiet_step (skip)
  quiet_step (skip)
  refine wpQuiet_load (by rw [← HO.out]; kernel_rfl) 23 _ rfl _ rfl 23 _ _ (fun w9 hC => heap_regrown Ar.out hC) Tryd.underlying23 rfl HAz.out ?_
  refine wpQuiet_want (by rw [← HO.out]; kernel_rfl) (fun K hK => ?_)
  go_simp
  apply Exists.intro
  refine ⟨fun _ => ?_, hK _ ?_⟩
  exact Calls.regrown_of (C3.out _)
  clear hK K
  refine wpQuiet_load (by rw [← HO.out]; kernel_rfl) 23 _ rfl _ rfl 23 _ _ (fun w9 hC => heap_regrown Ar.out hC) Tryd.underlying23 rfl HAz.out ?_
  refine wpQuiet_want (by rw [← HO.out]; kernel_rfl) (fun K hK => ?_)
  go_simp
  apply Exists.intro
  refine ⟨fun _ => ?_, hK _ ?_⟩
  exact Calls.regrown_of (D3.out _)
  clear hK K
  refine wpQuiet_want (by rw [← HO.out]; kernel_rfl) (fun K hK => ?_)
  go_simp
  refine hK _ ?_
  clear hK K
  quiet_step (skip)
  quiet_step (skip)
  refine wpQuiet_load (by rw [← HO.out]; kernel_rfl) 33 _ rfl _ rfl 33 _ _ (fun w9 hC => heap_regrown Tr.out hC) Tryd.underlying33 rfl HTz.out ?_
  refine wpQuiet_load (by rw [← HO.out]; kernel_rfl) 23 _ rfl _ rfl 23 _ _ (fun w9 hC => heap_regrown Ar.out hC) Tryd.underlying23 rfl HAz.out ?_
  refine wpQuiet_want (by rw [← HO.out]; kernel_rfl) (fun K hK => ?_)
  go_simp
  refine hK _ ?_
  clear hK K
  refine wpQuiet_want (by rw [← HO.out]; kernel_rfl) (fun K hK => ?_)
  go_simp
  apply Exists.intro
  refine ⟨fun _ => ?_, hK _ ?_⟩
  exact Calls.regrown_of (C4.out _ (Pr.out.later (below_regrown _ _ _)))
  clear hK K
  refine wpQuiet_load (by rw [← HO.out]; kernel_rfl) 33 _ rfl _ rfl 33 _ _ (fun w9 hC => heap_regrown Tr.out hC) Tryd.underlying33 rfl HTz.out ?_
  refine wpQuiet_load (by rw [← HO.out]; kernel_rfl) 23 _ rfl _ rfl 23 _ _ (fun w9 hC => heap_regrown Ar.out hC) Tryd.underlying23 rfl HAz.out ?_
  refine wpQuiet_want (by rw [← HO.out]; kernel_rfl) (fun K hK => ?_)
  go_simp
  refine hK _ ?_
  clear hK K
  refine wpQuiet_want (by rw [← HO.out]; kernel_rfl) (fun K hK => ?_)
  go_simp
  apply Exists.intro
  refine ⟨fun _ => ?_, hK _ ?_⟩
  exact Calls.regrown_of (D4.out _)
  clear hK K
  refine wpQuiet_want (by rw [← HO.out]; kernel_rfl) (fun K hK => ?_)
  go_simp
  refine hK _ ?_
  clear hK K
  quiet_step (skip)
  quiet_step (skip)
  refine wpQuiet_load (by rw [← HO.out]; kernel_rfl) 33 _ rfl _ rfl 33 _ _ (fun w9 hC => heap_regrown Tr.out hC) Tryd.underlying33 rfl HTz.out ?_
  refine wpQuiet_load (by rw [← HO.out]; kernel_rfl) 23 _ rfl _ rfl 23 _ _ (fun w9 hC => heap_regrown Ar.out hC) Tryd.underlying23 rfl HAz.out ?_
  refine wpQuiet_want (by rw [← HO.out]; kernel_rfl) (fun K hK => ?_)
  go_simp
  apply Exists.intro
  refine ⟨fun _ => ?_, hK _ ?_⟩
  exact Calls.regrown_of (C5.out _ (Pr.out.later (below_regrown _ _ _)))
  clear hK K
  refine wpQuiet_load (by rw [← HO.out]; kernel_rfl) 33 _ rfl _ rfl 33 _ _ (fun w9 hC => heap_regrown Tr.out hC) Tryd.underlying33 rfl HTz.out ?_
  refine wpQuiet_load (by rw [← HO.out]; kernel_rfl) 23 _ rfl _ rfl 23 _ _ (fun w9 hC => heap_regrown Ar.out hC) Tryd.underlying23 rfl HAz.out ?_
  refine wpQuiet_want (by rw [← HO.out]; kernel_rfl) (fun K hK => ?_)
  go_simp
  apply Exists.intro
  refine ⟨fun _ => ?_, hK _ ?_⟩
  exact Calls.regrown_of (D5.out _)
  clear hK K
  refine wpQuiet_want (by rw [← HO.out]; kernel_rfl) (fun K hK => ?_)
  go_simp
  refine hK _ ?_
  clear hK K
  quiet_step (skip)
  quiet_step (skip)
  refine wpQuiet_want (by rw [← HO.out]; kernel_rfl) (fun K hK => ?_)
  go_simp
  apply Exists.intro
  refine ⟨fun _ => ?_, hK _ ?_⟩
  exact Calls.regrown_of (C6.out _ (Pr.out.later (below_regrown _ _ _)))
  clear hK K
  quiet_step (skip)
  quiet_step (skip)
  refine wpQuiet_nil ?_
  intro w3 hC
  have Hb3 : Away (Below w.heap.size w w3) := ⟨by
    obtain ⟨pp, rfl⟩ := hC
    exact Hbr.out.trans ((below_regrown _ _ _).mono Hbr.out.size)⟩
  clear hC
  go_wp2_with fail
  go_ret
  exact ⟨rfl, Hb3.out⟩

/-! ### The row and its card -/
set_option maxRecDepth 100000 in
theorem lifted (os : Os) (started : os.Started) (H : Type) (enc : TypeId × Value → H) :
    ReturnsInHanded {} Tryd.checked os 3 .any (fun w args => (Rows.keccakSaysSpec.pre enc Tryd.prog Tryd.f3 [] false w args ∧ laidMetH Tryd.prog [("sigil/keccak.places", Rows.laid_sigil_keccak_places)] w) ∧ sizedMet enc Tryd.prog Tryd.f3 (OpenSpec.ofChange Rows.keccakSaysSpec) false w args)
      (Rows.keccakSaysSpec.post enc Tryd.prog Tryd.f3 false true false false) := by
  refine returnsInHanded_of_change_and (C := Tryd.checked) (X := fun w _ => laidMetH Tryd.prog [("sigil/keccak.places", Rows.laid_sigil_keccak_places)] w) (fun _ _ _ hh h => h.of_heap hh) own started (by kernel_rfl) Tryd.func3
    (ChangeSpec.witness_shaped (enc := enc) (C := Tryd.checked) (os := os) (X := fun w _ => laidMetH Tryd.prog [("sigil/keccak.places", Rows.laid_sigil_keccak_places)] w) false (World.doorLaid Tryd.prog 400 os) #[.agg #[.int .u64 0, .int .u64 0, .int .u64 0, .int .u64 0, .int .u64 0, .int .u64 0, .int .u64 0, .int .u64 0, .int .u64 0, .int .u64 0, .int .u64 0, .int .u64 0, .int .u64 0, .int .u64 0, .int .u64 0, .int .u64 0, .int .u64 0, .int .u64 0, .int .u64 0, .int .u64 0, .int .u64 0, .int .u64 0, .int .u64 0, .int .u64 0, .int .u64 0], .int .i64 0, .int .i64 0] 8 rfl (World.shaped_of_RefB (by kernel_rfl) (by kernel_rfl)) (by kernel_rfl) (by kernel_rfl) (by kernel_rfl) (laids.door_met os _)) ?_
  intro W base args ds gs before hval0 hW _ _ hL _
  have hval : ∀ (j : Nat) t v, Tryd.f3.params[j]? = some t → args[j]? = some v → Value.okWide Tryd.prog W .any base t v := hval0
  have hW' := hW
  have hlt := hW.lt
  obtain ⟨p, q, hA0, hV, rfl, hfz, hnd⟩ := hW
  have hA : DataW.TrodAll enc Tryd.prog W 0 (fun _ => true) true Tryd.f3.params.toList args.toList ds p := hA0
  rw [Tryd.params3] at hA hval
  obtain ⟨v0, vs0, d0, ds0, p0, q0, hargs, rfl, rfl, h0, r0⟩ := trodAll_cons hA
  obtain ⟨v1, vs1, d1, ds1, p1, q1, rfl, rfl, rfl, h1, r1⟩ := trodAll_cons r0
  obtain ⟨v2, vs2, d2, ds2, p2, q2, rfl, rfl, rfl, h2, r2⟩ := trodAll_cons r1
  obtain ⟨rfl, rfl, rfl⟩ := trodAll_nil r2
  obtain rfl : args = #[v0, v1, v2] := by cases args; simp_all
  obtain ⟨rfl, rfl⟩ := trodVars_none hV
  obtain ⟨a0, rfl, wl0, wg0⟩ := words.open_words Tryd.underlying23 Tryd.underlying22 (by kernel_rfl) (by kernel_rfl) (hval 0 23 v0 rfl rfl) h0
  obtain ⟨a1, rfl, rfl, rfl, w1⟩ := open_int Tryd.underlying3 (hval 1 3 v1 rfl rfl) h1
  obtain ⟨a2, rfl, rfl, rfl, w2⟩ := open_int Tryd.underlying3 (hval 2 3 v2 rfl rfl) h2
  have hG := laids.gp_of hL
  clear hA0 hval0 hL
  refine (walk a0 a1 a2 W wl0 wg0 w1 w2 hG).mono fun e W' ⟨he, bel⟩ => ?_
  subst he
  exact ⟨_, rfl, _, _, _, [], _, [], hW', trodAll_mk1 (shut_bool Tryd.underlying4 _), (trodAll_cons_mk (Below.trod laidOut (by kernel_rfl) (of_decide_eq_true (by kernel_rfl)) h0 bel (fun x hx => by first | exact absurd hx (by simp) | exact hlt x (by simpa using hx) | exact hlt x (by simp; exact Or.inl hx) | exact hlt x (by simp; exact Or.inr hx) | exact hlt x (by simp; exact Or.inr (Or.inl hx)) | exact hlt x (by simp; exact Or.inr (Or.inr hx)))) (trodAll_cons_mk (Below.trod laidOut (by kernel_rfl) (of_decide_eq_true (by kernel_rfl)) h1 bel (fun x hx => by first | exact absurd hx (by simp) | exact hlt x (by simpa using hx) | exact hlt x (by simp; exact Or.inl hx) | exact hlt x (by simp; exact Or.inr hx) | exact hlt x (by simp; exact Or.inr (Or.inl hx)) | exact hlt x (by simp; exact Or.inr (Or.inr hx)))) (trodAll_cons_mk (Below.trod laidOut (by kernel_rfl) (of_decide_eq_true (by kernel_rfl)) h2 bel (fun x hx => by first | exact absurd hx (by simp) | exact hlt x (by simpa using hx) | exact hlt x (by simp; exact Or.inl hx) | exact hlt x (by simp; exact Or.inr hx) | exact hlt x (by simp; exact Or.inr (Or.inl hx)) | exact hlt x (by simp; exact Or.inr (Or.inr hx)))) trodAll_mk0))), rfl, bel.frame _, fun h => by cases h⟩

theorem over : Rows.KeccakSaysSaid :=
  OpenClaim.holds_of_wide 3 Tryd.f3 rfl rfl rfl rfl rfl rfl rfl ⟨rfl, rfl, rfl, rfl, rfl⟩ rfl rfl rfl rfl rfl (by kernel_rfl) Tryd.func3 (by kernel_rfl)
    (of_decide_eq_true (by kernel_rfl)) (by unfold Func.isWrapper; first | (rw [if_pos (by decide +kernel)]; kernel_rfl) | (rw [if_neg (by decide +kernel)]; exact ⟨rfl, rfl⟩))
    (fun os started H enc _ => lifted os started H enc)

theorem proved : Rows.KeccakSaysCardSaid :=
  Claim7.holds_tied_plain_at .later [] [.data] true _ false
    over (fun _ h => by cases h) (by kernel_rfl) (fun _ h => by cases h) keccakSays_row_tie rfl ⟨rfl, rfl⟩ (by kernel_rfl) rfl
    (fun f fn hf hfn => by
      obtain rfl : f = 3 := Option.some.inj ((show Tryd.prog.funcNamed "sigil/sigillaw05.KeccakSays" = some 3 by kernel_rfl).symm.trans hf) |>.symm
      obtain rfl : fn = Tryd.f3 := (Option.some.inj (Tryd.func3.symm.trans hfn)).symm
      exact ⟨by kernel_rfl, fun j t ht => by
        rw [Tryd.params3] at ht
        have hm : t ∈ [23, 3, 3] := by simpa using Array.mem_of_getElem? ht
        have hall : ([23, 3, 3].all fun u => !Tryd.prog.wantsStandIn u) = true := by kernel_rfl
        exact (show Tryd.prog.wantsStandIn t = false by simpa using List.all_eq_true.1 hall t hm)⟩)
    (by kernel_rfl)
end Go.Proofs.YtmmdjmiekodolaaDoor.lsays
