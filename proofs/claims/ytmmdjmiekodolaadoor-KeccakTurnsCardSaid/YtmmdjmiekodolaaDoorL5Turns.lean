/-
  The statement KeccakTurns (P5.7): two states that are unlike have unlike Turns; the number of bits that are set stays. Conditions: none, but what the row lists of the package's variable 'places', which the card ties to the program's text; for every input that the form speaks of.
-/
import Derived.Test.YtmmdjmiekodolaaDoorRows
import Derived.Test.YtmmdjmiekodolaaDoorCards
import Derived.Test.YtmmdjmiekodolaaDoorTie
import Derived.Test.YtmmdjmiekodolaaDoorLaid
import Derived.Test.YtmmdjmiekodolaaDoorAwake5
import Derived.Test.YtmmdjmiekodolaaDoorKecT
import Derived.Test.YtmmdjmiekodolaaDoorVaryE
import Derived.Test.YtmmdjmiekodolaaDoorTMc
import Derived.ProofKit
import Derived.OpenShut
import Derived.Carry
import Derived.SevenTiedAt
namespace Go.Proofs.YtmmdjmiekodolaaDoor.lturns
open Go Go.ChangeShapes Go.WideShapes Go.ChangeAt Go.RowKit
open Go.Proofs.YtmmdjmiekodolaaDoor.arr Go.Proofs.YtmmdjmiekodolaaDoor.mem Go.Proofs.YtmmdjmiekodolaaDoor.tabv Go.Proofs.YtmmdjmiekodolaaDoor.built Go.Proofs.YtmmdjmiekodolaaDoor.kecm Go.Proofs.YtmmdjmiekodolaaDoor.kecb Go.Proofs.YtmmdjmiekodolaaDoor.keca Go.Proofs.YtmmdjmiekodolaaDoor.kturn Go.Proofs.YtmmdjmiekodolaaDoor.kstep Go.Proofs.YtmmdjmiekodolaaDoor.kfun Go.Proofs.YtmmdjmiekodolaaDoor.kect Go.Proofs.YtmmdjmiekodolaaDoor.laids Go.Proofs.YtmmdjmiekodolaaDoor.qops Go.Proofs.YtmmdjmiekodolaaDoor.awake5 Go.Proofs.YtmmdjmiekodolaaDoor.vary Go.Proofs.YtmmdjmiekodolaaDoor.varyn Go.Proofs.YtmmdjmiekodolaaDoor.varye
set_option linter.unusedVariables false
theorem own : ownKnob Tryd.prog.godebug = none := by kernel_rfl
theorem laidOut : laidOutB Tryd.prog = true := by kernel_rfl


theorem alloc25 (ρ : Operand → Value) (o : Oper) (w1 : World) (ho : o.op = .alloc 23) : (execOp ρ o).run Tryd.prog w1 = .ok (.value (ptr w1.heap.size)) (w1.alloc (.cells #[.int .u64 0, .int .u64 0, .int .u64 0, .int .u64 0, .int .u64 0, .int .u64 0, .int .u64 0, .int .u64 0, .int .u64 0, .int .u64 0, .int .u64 0, .int .u64 0, .int .u64 0, .int .u64 0, .int .u64 0, .int .u64 0, .int .u64 0, .int .u64 0, .int .u64 0, .int .u64 0, .int .u64 0, .int .u64 0, .int .u64 0, .int .u64 0, .int .u64 0] 23)) := by
  unfold execOp
  simp only [ho]
  go_simp
  rfl
def vr (m s ke d e : Nat) : Vr := ⟨m, s, ke, d, e, 23, #[.int .u64 0, .int .u64 0, .int .u64 0, .int .u64 0, .int .u64 0, .int .u64 0, .int .u64 0, .int .u64 0, .int .u64 0, .int .u64 0, .int .u64 0, .int .u64 0, .int .u64 0, .int .u64 0, .int .u64 0, .int .u64 0, .int .u64 0, .int .u64 0, .int .u64 0, .int .u64 0, .int .u64 0, .int .u64 0, .int .u64 0, .int .u64 0, .int .u64 0]⟩
theorem fits25 {l : List Nat} (h : l.length = 25) : Fits Tryd.prog 23 #[.int .u64 0, .int .u64 0, .int .u64 0, .int .u64 0, .int .u64 0, .int .u64 0, .int .u64 0, .int .u64 0, .int .u64 0, .int .u64 0, .int .u64 0, .int .u64 0, .int .u64 0, .int .u64 0, .int .u64 0, .int .u64 0, .int .u64 0, .int .u64 0, .int .u64 0, .int .u64 0, .int .u64 0, .int .u64 0, .int .u64 0, .int .u64 0, .int .u64 0] (LK .u64 l) := ⟨size25 h, by rw [lk_size, h]; rfl, lk_one _ _⟩
/-- the bits of the lanes before i, and the k lowest of lane i -/
def nb (l : List Nat) (i k : Nat) : Nat := ((List.range i).map fun i => pc (g l i)).sum + ((List.range k).map fun j => ((g l i).testBit j).toNat).sum
theorem nb_zero (l : List Nat) : nb l 0 0 = 0 := rfl
theorem nb_bit (l : List Nat) (i k x : Nat) (hx : g l i = x) : nb l i (k + 1) = nb l i k + (x.testBit k).toNat := by
  subst hx
  unfold nb
  rw [List.range_succ (n := k), List.map_append, List.sum_append]
  simp
  omega
theorem nb_lane (l : List Nat) (i : Nat) : nb l i 64 = nb l (i + 1) 0 := by
  unfold nb
  rw [List.range_succ (n := i), List.map_append, List.sum_append]
  simp [pc]
theorem bits_le (x k : Nat) : ((List.range k).map fun j => (x.testBit j).toNat).sum ≤ k := by
  induction k with
  | zero => simp
  | succ k ih =>
    rw [List.range_succ, List.map_append, List.sum_append]
    have : (x.testBit k).toNat ≤ 1 := Bool.toNat_le _
    simp
    omega
theorem nb_le (l : List Nat) (i k : Nat) : nb l i k ≤ 64 * i + k := by
  have h1 : ((List.range i).map fun i => pc (g l i)).sum ≤ 64 * i := by
    induction i with
    | zero => simp
    | succ i ih =>
      rw [List.range_succ, List.map_append, List.sum_append]
      have := bits_le (g l i) 64
      simp [pc] at ih this ⊢
      omega
  have h2 := bits_le (g l i) k
  unfold nb
  omega
theorem nb_all (l : List Nat) : nb l 25 0 = pcs l := by
  unfold nb pcs
  rw [List.range_zero, List.map_nil, List.sum_nil, Nat.add_zero]
theorem bit_is (x k β : Nat) (hx : x < 18446744073709551616) (h : (x.testBit k).toNat = β) : bits .and .u64 ((x : Int) / 2 ^ k) 1 = (β : Int) := by
  subst h
  have e := rols.castd x k
  rw [e]
  have h := u64_and_nat (x / 2 ^ k) 1 (Nat.lt_of_le_of_lt (Nat.div_le_self _ _) hx) (by decide)
  rw [show ((1 : Nat) : Int) = 1 from rfl] at h
  rw [h, Nat.and_one_is_mod, Nat.toNat_testBit]

set_option maxRecDepth 100000 in
set_option maxHeartbeats 4000000 in
theorem walk (a b : List Nat) (w : World) (wla : a.length = 25) (wga : ∀ i, a.getD i 0 < 18446744073709551616) (wlb : b.length = 25) (wgb : ∀ i, b.getD i 0 < 18446744073709551616) (hP : Gp w) :
    Calls Tryd.prog 5 #[.agg (LK .u64 a), .agg (LK .u64 b)] w fun e w' => e = .returned (.bool true) ∧ Below w.heap.size w w' := by
  have HP := Away.mk hP
  have HAz := Away.mk (size25 wla)
  have HBz := Away.mk (size25 wlb)
  have HAo := Away.mk (lk_one .u64 a)
  have H : Away (St a) := ⟨st_of_arg wla wga⟩
  have HB : Away (St b) := ⟨st_of_arg wlb wgb⟩
  clear wla wga wlb wgb hP
  obtain ⟨hz, hsize⟩ := zero_of_info infoT
  obtain ⟨Zt, HZ⟩ := ex_eq TZ
  rw [HZ.out] at hz
  have HZs : Away (Zt.size = 465) := ⟨by rw [← HZ.out]; exact tz_size⟩
  have Hsize := Away.mk hsize
  clear hsize
  have hkt := kt_doc
  obtain ⟨T, HT⟩ := ex_eq TA
  rw [HT.out] at hkt
  have HTs : Away (T.size = 465) := ⟨by rw [← HT.out]; exact ta_size⟩
  have HTo : Away (T.all (·.oneCell') = true) := ⟨by rw [← HT.out]; exact ta_one⟩
  have HTz : Away ((Tryd.prog.info? 33).map (·.size) = some T.size) := ⟨by rw [HTs.out]; exact Hsize.out⟩
  have HK := Away.mk hkt
  have Hmk : Away (∀ w1 : World, Calls Tryd.prog 19 #[] w1 fun e w' => e = .returned (.agg T) ∧ Below w1.heap.size w1 w') := ⟨fun w1 => by rw [← HT.out]; exact make.make_any w1⟩
  clear hkt HT HZ

  obtain ⟨Ta, HTa⟩ := ex_eq (turnL (fun i => TL.getD i 0) a)
  have LTa : Away (Ta.length = 25) := ⟨by rw [← HTa.out]; exact mkS_len _⟩
  obtain ⟨Tb, HTb⟩ := ex_eq (turnL (fun i => TL.getD i 0) b)
  have LTb : Away (Tb.length = 25) := ⟨by rw [← HTb.out]; exact mkS_len _⟩
  have Ua : Away (∀ w1 : World, Gp w1 → Calls Tryd.prog 10 #[.agg T, .agg (LK .u64 a)] w1 fun e w' => e = .returned (.agg (LK .u64 Ta)) ∧ Below w1.heap.size w1 w') := ⟨fun w1 h => by rw [← HTa.out]; exact turn_any a w1 H.out HK.out h⟩
  have Ub : Away (∀ w1 : World, Gp w1 → Calls Tryd.prog 10 #[.agg T, .agg (LK .u64 b)] w1 fun e w' => e = .returned (.agg (LK .u64 Tb)) ∧ Below w1.heap.size w1 w') := ⟨fun w1 h => by rw [← HTb.out]; exact turn_any b w1 HB.out HK.out h⟩
  have QT : Away (∀ i, g Ta i < 18446744073709551616) := ⟨by rw [← HTa.out]; exact (turnL_st _ H.out).lt⟩
  have Heq : Away (decide (a = b) = decide (Ta = Tb)) := ⟨by
    rw [← HTa.out, ← HTb.out]
    by_cases e : a = b
    · subst e; simp
    · have e2 : turnL (fun i => TL.getD i 0) a ≠ turnL (fun i => TL.getD i 0) b := fun h => e (turn_inj _ H.out HB.out h)
      rw [decide_eq_false e, decide_eq_false e2]⟩
  have Hpc : Away (nb Ta 25 0 = nb a 25 0) := ⟨by rw [nb_all, nb_all, ← HTa.out]; exact pcs_turn _ H.out⟩
  have HUz := Away.mk (size25 LTa.out)
  have HVz := Away.mk (size25 LTb.out)
  clear HTa HTb HAo
  go_enter Tryd.func5, Tryd.ntmps5
  go_wp2_with fail
  obtain ⟨W0, hW0⟩ : ∃ x, (w.alloc (.cells (LK .u64 a) 23)).alloc (.cells (LK .u64 b) 23) = x := ⟨_, rfl⟩
  obtain ⟨x0, x1, s0, b0⟩ := two hW0
  rw [hW0]
  clear hW0
  refine (Hmk.out _).mono ?_
  rintro e w1 ⟨rfl, hb1⟩
  go_wp2_with (refine wpList_store_new rfl 33 _ _ rfl _ rfl rfl (by rw [HTs.out]; exact Hsize.out) (by rw [HTs.out]; exact HZs.out) HTo.out rfl ?_)
  obtain ⟨gT, hgT⟩ : ∃ x, w1.heap.size = x := ⟨_, rfl⟩
  obtain ⟨W, hW1⟩ : ∃ x, w1.alloc (.cells T 33) = x := ⟨_, rfl⟩
  have b1 : Below W0.heap.size W0 W := by rw [← hW1]; exact hb1.alloc hb1.size _
  have A3 : Away (W.heap[w.heap.size]? = some (.cells (LK .u64 a) 23 (0, 0))) := ⟨(b1.block _ (by omega)).trans x0⟩
  have B3 : Away (W.heap[w.heap.size + 1]? = some (.cells (LK .u64 b) 23 (0, 0))) := ⟨(b1.block _ (by omega)).trans x1⟩
  have T3 : Away (W.heap[gT]? = some (.cells T 33 (0, 0))) := ⟨by rw [← hW1]; exact heap_at _ _ _ hgT.symm⟩
  have Hb3 : Away (Below w.heap.size w W) := ⟨b0.trans (b1.mono b0.size)⟩
  have P3 : Away (Gp W) := ⟨HP.out.later Hb3.out⟩
  rw [hW1, hgT]
  clear x0 x1 s0 b0 b1 hb1 hW1 hgT hz
  refine region_vary_take [vr 6 8 2 6 15, vr 7 9 5 7 18] 6 (by kernel_rfl) (by kernel_rfl) (by kernel_rfl) (by kernel_rfl) (by decide) (fun v hv ρ o w1 ho => by
    simp only [List.mem_cons, List.not_mem_nil, or_false] at hv
    rcases hv with rfl | rfl <;> exact alloc25 ρ o w1 ho) (by simp [vr]) (fun ops HO => ?_)
  simp only [List.take_succ_cons, List.take_zero]
  refine wpMild_load rfl 33 _ rfl _ rfl 33 _ _ (fun w9 hw9 => (hw9.block _ (lt_of_row T3.out)).trans T3.out) Tryd.underlying33 rfl HTz.out ?_
  refine wpMild_load rfl 23 _ rfl _ rfl 23 _ _ (fun w9 hw9 => (hw9.block _ (lt_of_row A3.out)).trans A3.out) Tryd.underlying23 rfl HAz.out ?_
  refine wpMild_step rfl (fun K hK => ?_)
  go_simp
  apply Exists.intro
  refine ⟨fun w9 hw9 => ?_, hK _ ?_⟩
  exact Ua.out w9 (P3.out.later hw9)
  clear hK K
  refine wpMild_load rfl 33 _ rfl _ rfl 33 _ _ (fun w9 hw9 => (hw9.block _ (lt_of_row T3.out)).trans T3.out) Tryd.underlying33 rfl HTz.out ?_
  refine wpMild_load rfl 23 _ rfl _ rfl 23 _ _ (fun w9 hw9 => (hw9.block _ (lt_of_row B3.out)).trans B3.out) Tryd.underlying23 rfl HBz.out ?_
  refine wpMild_step rfl (fun K hK => ?_)
  go_simp
  apply Exists.intro
  refine ⟨fun w9 hw9 => ?_, hK _ ?_⟩
  exact Ub.out w9 (P3.out.later hw9)
  clear hK K
  refine ends2 (LK .u64 Ta) (LK .u64 Tb) rfl (fits25 LTa.out) rfl (fits25 LTb.out) (by decide) (fun p1 p2 w6 l1 l2 n12 hb6 r1 r2 => ?_)
  simp only [vr, Act.put, List.setIfInBounds_toArray, List.set_cons_zero, List.set_cons_succ] at r1 r2 ⊢
  have A6 : Away (w6.heap[w.heap.size]? = some (.cells (LK .u64 a) 23 (0, 0))) := ⟨(hb6.block _ (lt_of_row A3.out)).trans A3.out⟩
  have B6 : Away (w6.heap[w.heap.size + 1]? = some (.cells (LK .u64 b) 23 (0, 0))) := ⟨(hb6.block _ (lt_of_row B3.out)).trans B3.out⟩
  have R1 := Away.mk r1
  have R2 := Away.mk r2
  have P6 : Away (Gp w6) := ⟨P3.out.later hb6⟩
  have Hb6 : Away (Below w.heap.size w w6) := ⟨Hb3.out.trans (hb6.mono Hb3.out.size)⟩
  clear r1 r2 hb6 l1 l2 n12 A3 B3 T3 P3 Hb3 Ua Ub HO
  go_wp2_with fail
  go_loopw [8, 9, 19] (fun n m i wr => ∃ j : Nat, j ≤ 25 ∧ i = .int .i64 (j : Int) ∧ n = .int .i64 ((nb a j 0 : Nat) : Int) ∧ m = .int .i64 ((nb Ta j 0 : Nat) : Int) ∧ Away (Below w6.heap.size w6 wr)) (fun _ _ i _ => 25 - (intOf i).toNat)
  case atStart => exact ⟨0, by decide, rfl, rfl, rfl, ⟨Below.refl _ _⟩⟩
  case round =>
    obtain ⟨j, hj, rfl, rfl, rfl, B0⟩ := hrel
    by_cases hlt : j < 25
    · have hjz : (j : Int) < 25 := by omega
      obtain ⟨x, hx⟩ : ∃ x, g a j = x := ⟨_, rfl⟩
      obtain ⟨y, hy⟩ : ∃ x, g Ta j = x := ⟨_, rfl⟩
      have bx : x < 18446744073709551616 := hx ▸ H.out.lt j
      have by' : y < 18446744073709551616 := hy ▸ QT.out j
      have Hx := Away.mk hx
      have Hy := Away.mk hy
      have cx0 := Away.mk (lane_at H.out.len ((B0.out.block _ (lt_of_row A6.out)).trans A6.out) j x hlt hx)
      have cy0 := Away.mk (lane_at LTa.out ((B0.out.block _ (lt_of_row R1.out)).trans R1.out) j y hlt hy)
      clear hj hx hy
      go_wp2_with fail
      obtain ⟨W9, hW9⟩ : ∃ x, wr = x := ⟨_, rfl⟩
      rw [hW9] at cx0 cy0 B0
      rw [hW9]
      clear hW9
      go_loopw [8, 9, 22] (fun n m i wr => ∃ k : Nat, k ≤ 64 ∧ i = .int .i64 (k : Int) ∧ n = .int .i64 ((nb a j k : Nat) : Int) ∧ m = .int .i64 ((nb Ta j k : Nat) : Int) ∧ wr = W9) (fun _ _ i _ => 64 - (intOf i).toNat)
      case atStart => exact ⟨0, by decide, rfl, rfl, rfl, rfl⟩
      case round =>
        obtain ⟨k, hk, rfl, rfl, rfl, hww⟩ := hrel
        rw [hww]
        by_cases hlu : k < 64
        · have hkz : (k : Int) < 64 := by omega
          have cx := cx0.out
          have cy := cy0.out
          obtain ⟨β, hβ⟩ : ∃ β, (x.testBit k).toNat = β := ⟨_, rfl⟩
          obtain ⟨γ, hγ⟩ : ∃ γ, (y.testBit k).toNat = γ := ⟨_, rfl⟩
          have hb1 : β ≤ 1 := hβ ▸ Bool.toNat_le _
          have hg1 : γ ≤ 1 := hγ ▸ Bool.toNat_le _
          have V1 := bit_is x k β bx hβ
          have V2 := bit_is y k γ by' hγ
          have N1 := Away.mk (nb_bit a j k x Hx.out)
          have N2 := Away.mk (nb_bit Ta j k y Hy.out)
          rw [hβ] at N1
          rw [hγ] at N2
          have h1 := nb_le a j k
          have h2 := nb_le Ta j k
          obtain ⟨n1, hn1⟩ : ∃ n, nb a j k = n := ⟨_, rfl⟩
          obtain ⟨n2, hn2⟩ : ∃ n, nb Ta j k = n := ⟨_, rfl⟩
          rw [hn1] at N1 h1
          rw [hn2] at N2 h2
          have h1 : n1 ≤ 2000 := by omega
          have h2 : n2 ≤ 2000 := by omega
          rw [hn1, hn2]
          clear hβ hγ hn1 hn2 hk
          go_wp2_with fail
          go_roundw
          case rel => exact ⟨k + 1, by omega, by go_num, by rw [N1.out]; go_num, by rw [N2.out]; go_num, by first | rfl | trivial⟩
          case measure => simp [intOf]; omega
        · obtain rfl : k = 64 := by omega
          simp only [Int.cast_ofNat_Int]
          clear hk hlu
          go_wp2_with fail
          go_roundw
          case rel => exact ⟨j + 1, by omega, by go_num, by rw [nb_lane], by rw [nb_lane], B0⟩
          case measure => simp [intOf]; omega
    · obtain rfl : j = 25 := by omega
      simp only [Int.cast_ofNat_Int]
      rw [Hpc.out]
      obtain ⟨n1, hn1⟩ : ∃ n, nb a 25 0 = n := ⟨_, rfl⟩
      rw [hn1]
      clear hn1 hj hlt
      have A7 : Away (wr.heap[w.heap.size]? = some (.cells (LK .u64 a) 23 (0, 0))) := ⟨(B0.out.block _ (lt_of_row A6.out)).trans A6.out⟩
      have B7 : Away (wr.heap[w.heap.size + 1]? = some (.cells (LK .u64 b) 23 (0, 0))) := ⟨(B0.out.block _ (lt_of_row B6.out)).trans B6.out⟩
      have U7 : Away (wr.heap[p1]? = some (.cells (LK .u64 Ta) 23 (0, 0))) := ⟨(B0.out.block _ (lt_of_row R1.out)).trans R1.out⟩
      have V7 : Away (wr.heap[p2]? = some (.cells (LK .u64 Tb) 23 (0, 0))) := ⟨(B0.out.block _ (lt_of_row R2.out)).trans R2.out⟩
      have Pr : Away (Gp wr) := ⟨P6.out.later B0.out⟩
      have Hbr : Away (Below w.heap.size w wr) := ⟨Hb6.out.trans (B0.out.mono Hb6.out.size)⟩
      have q1 := eq25 a b H.out.len HB.out.len
      have q2 := eq25 Ta Tb LTa.out LTb.out
      rw [Heq.out] at q1
      obtain ⟨β, hβ⟩ : ∃ β, decide (Ta = Tb) = β := ⟨_, rfl⟩
      rw [hβ] at q1 q2
      have g1 := guard25
      have C6 := Away.mk awake_any
      clear hβ B0
      go_wp2_with fail
      refine region_quiet_ops (by kernel_rfl) (by kernel_rfl) (fun ops HO => ?_)
      refine wpQuiet_load rfl 23 _ rfl _ rfl 23 _ _ (fun w9 hC => heap_regrown A7.out hC) Tryd.underlying23 rfl HAz.out ?_
      refine wpQuiet_load rfl 23 _ rfl _ rfl 23 _ _ (fun w9 hC => heap_regrown B7.out hC) Tryd.underlying23 rfl HBz.out ?_
      quiet_step (skip)
      refine wpQuiet_load rfl 23 _ rfl _ rfl 23 _ _ (fun w9 hC => heap_regrown U7.out hC) Tryd.underlying23 rfl HUz.out ?_
      refine wpQuiet_load rfl 23 _ rfl _ rfl 23 _ _ (fun w9 hC => heap_regrown V7.out hC) Tryd.underlying23 rfl HVz.out ?_
      quiet_step (skip)
      quiet_step (skip)
      quiet_step (skip)
      refine wpQuiet_want (by rw [← HO.out]; kernel_rfl) (fun K hK => ?_)
      go_simp
      refine hK _ ?_
      clear hK K
      refine wpQuiet_want (by rw [← HO.out]; kernel_rfl) (fun K hK => ?_)
      go_simp
      refine hK _ ?_
      clear hK K
      refine wpQuiet_want (by rw [← HO.out]; kernel_rfl) (fun K hK => ?_)
      go_simp
      refine hK _ ?_
      clear hK K
      quiet_step (skip)
      quiet_step (skip)
      refine wpQuiet_want (by rw [← HO.out]; kernel_rfl) (fun K hK => ?_)
      go_simp
      apply Exists.intro
      refine ⟨fun _ => ?_, hK _ ?_⟩
      exact Calls.regrown_of (C6.out _ (Pr.out.later (below_regrown _ _ _)))
      clear hK K
      quiet_step (skip)
      quiet_step (skip)
      refine wpQuiet_nil ?_
      intro w3 hC
      have Hb3 : Away (Below w.heap.size w w3) := ⟨by
        obtain ⟨pp, rfl⟩ := hC
        exact Hbr.out.trans ((below_regrown _ _ _).mono Hbr.out.size)⟩
      clear hC
      go_wp2_with fail
      go_ret
      exact ⟨rfl, Hb3.out⟩

/-! ### The row and its card -/
set_option maxRecDepth 100000 in
theorem lifted (os : Os) (started : os.Started) (H : Type) (enc : TypeId × Value → H) :
    ReturnsInHanded {} Tryd.checked os 5 .any (fun w args => (Rows.keccakTurnsSpec.pre enc Tryd.prog Tryd.f5 [] false w args ∧ laidMetH Tryd.prog [("sigil/keccak.places", Rows.laid_sigil_keccak_places)] w) ∧ sizedMet enc Tryd.prog Tryd.f5 (OpenSpec.ofChange Rows.keccakTurnsSpec) false w args)
      (Rows.keccakTurnsSpec.post enc Tryd.prog Tryd.f5 false true false false) := by
  refine returnsInHanded_of_change_and (C := Tryd.checked) (X := fun w _ => laidMetH Tryd.prog [("sigil/keccak.places", Rows.laid_sigil_keccak_places)] w) (fun _ _ _ hh h => h.of_heap hh) own started (by kernel_rfl) Tryd.func5
    (ChangeSpec.witness_shaped (enc := enc) (C := Tryd.checked) (os := os) (X := fun w _ => laidMetH Tryd.prog [("sigil/keccak.places", Rows.laid_sigil_keccak_places)] w) false (World.doorLaid Tryd.prog 400 os) #[.agg #[.int .u64 0, .int .u64 0, .int .u64 0, .int .u64 0, .int .u64 0, .int .u64 0, .int .u64 0, .int .u64 0, .int .u64 0, .int .u64 0, .int .u64 0, .int .u64 0, .int .u64 0, .int .u64 0, .int .u64 0, .int .u64 0, .int .u64 0, .int .u64 0, .int .u64 0, .int .u64 0, .int .u64 0, .int .u64 0, .int .u64 0, .int .u64 0, .int .u64 0], .agg #[.int .u64 0, .int .u64 0, .int .u64 0, .int .u64 0, .int .u64 0, .int .u64 0, .int .u64 0, .int .u64 0, .int .u64 0, .int .u64 0, .int .u64 0, .int .u64 0, .int .u64 0, .int .u64 0, .int .u64 0, .int .u64 0, .int .u64 0, .int .u64 0, .int .u64 0, .int .u64 0, .int .u64 0, .int .u64 0, .int .u64 0, .int .u64 0, .int .u64 0]] 8 rfl (World.shaped_of_RefB (by kernel_rfl) (by kernel_rfl)) (by kernel_rfl) (by kernel_rfl) (by kernel_rfl) (laids.door_met os _)) ?_
  intro W base args ds gs before hval0 hW _ _ hL _
  have hval : ∀ (j : Nat) t v, Tryd.f5.params[j]? = some t → args[j]? = some v → Value.okWide Tryd.prog W .any base t v := hval0
  have hW' := hW
  have hlt := hW.lt
  obtain ⟨p, q, hA0, hV, rfl, hfz, hnd⟩ := hW
  have hA : DataW.TrodAll enc Tryd.prog W 0 (fun _ => true) true Tryd.f5.params.toList args.toList ds p := hA0
  rw [Tryd.params5] at hA hval
  obtain ⟨v0, vs0, d0, ds0, p0, q0, hargs, rfl, rfl, h0, r0⟩ := trodAll_cons hA
  obtain ⟨v1, vs1, d1, ds1, p1, q1, rfl, rfl, rfl, h1, r1⟩ := trodAll_cons r0
  obtain ⟨rfl, rfl, rfl⟩ := trodAll_nil r1
  obtain rfl : args = #[v0, v1] := by cases args; simp_all
  obtain ⟨rfl, rfl⟩ := trodVars_none hV
  obtain ⟨a0, rfl, wl0, wg0⟩ := words.open_words Tryd.underlying23 Tryd.underlying22 (by kernel_rfl) (by kernel_rfl) (hval 0 23 v0 rfl rfl) h0
  obtain ⟨a1, rfl, wl1, wg1⟩ := words.open_words Tryd.underlying23 Tryd.underlying22 (by kernel_rfl) (by kernel_rfl) (hval 1 23 v1 rfl rfl) h1
  have hG := laids.gp_of hL
  clear hA0 hval0 hL
  refine (walk a0 a1 W wl0 wg0 wl1 wg1 hG).mono fun e W' ⟨he, bel⟩ => ?_
  subst he
  exact ⟨_, rfl, _, _, _, [], _, [], hW', trodAll_mk1 (shut_bool Tryd.underlying4 _), (trodAll_cons_mk (Below.trod laidOut (by kernel_rfl) (of_decide_eq_true (by kernel_rfl)) h0 bel (fun x hx => by first | exact absurd hx (by simp) | exact hlt x (by simpa using hx) | exact hlt x (by simp; exact Or.inl hx) | exact hlt x (by simp; exact Or.inr hx) | exact hlt x (by simp; exact Or.inr (Or.inl hx)) | exact hlt x (by simp; exact Or.inr (Or.inr hx)))) (trodAll_cons_mk (Below.trod laidOut (by kernel_rfl) (of_decide_eq_true (by kernel_rfl)) h1 bel (fun x hx => by first | exact absurd hx (by simp) | exact hlt x (by simpa using hx) | exact hlt x (by simp; exact Or.inl hx) | exact hlt x (by simp; exact Or.inr hx) | exact hlt x (by simp; exact Or.inr (Or.inl hx)) | exact hlt x (by simp; exact Or.inr (Or.inr hx)))) trodAll_mk0)), rfl, bel.frame _, fun h => by cases h⟩

theorem over : Rows.KeccakTurnsSaid :=
  OpenClaim.holds_of_wide 5 Tryd.f5 rfl rfl rfl rfl rfl rfl rfl ⟨rfl, rfl, rfl, rfl, rfl⟩ rfl rfl rfl rfl rfl (by kernel_rfl) Tryd.func5 (by kernel_rfl)
    (of_decide_eq_true (by kernel_rfl)) (by unfold Func.isWrapper; first | (rw [if_pos (by decide +kernel)]; kernel_rfl) | (rw [if_neg (by decide +kernel)]; exact ⟨rfl, rfl⟩))
    (fun os started H enc _ => lifted os started H enc)

theorem proved : Rows.KeccakTurnsCardSaid :=
  Claim7.holds_tied_plain_at .later [] [.data] true _ false
    over (fun _ h => by cases h) (by kernel_rfl) (fun _ h => by cases h) keccakTurns_row_tie rfl ⟨rfl, rfl⟩ (by kernel_rfl) rfl
    (fun f fn hf hfn => by
      obtain rfl : f = 5 := Option.some.inj ((show Tryd.prog.funcNamed "sigil/sigillaw05.KeccakTurns" = some 5 by kernel_rfl).symm.trans hf) |>.symm
      obtain rfl : fn = Tryd.f5 := (Option.some.inj (Tryd.func5.symm.trans hfn)).symm
      exact ⟨by kernel_rfl, fun j t ht => by
        rw [Tryd.params5] at ht
        have hm : t ∈ [23, 23] := by simpa using Array.mem_of_getElem? ht
        have hall : ([23, 23].all fun u => !Tryd.prog.wantsStandIn u) = true := by kernel_rfl
        exact (show Tryd.prog.wantsStandIn t = false by simpa using List.all_eq_true.1 hall t hm)⟩)
    (by kernel_rfl)
end Go.Proofs.YtmmdjmiekodolaaDoor.lturns
