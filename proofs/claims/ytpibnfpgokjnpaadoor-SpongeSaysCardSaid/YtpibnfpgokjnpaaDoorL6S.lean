/-
  The statement SpongeSays (P6.1 to P6.6): absorbing any bytes into any sponge, squeezing, the one-call functions and validity agree with the reference. Conditions: none, but what the row lists of keccak's variable 'places', which the card ties to the program's text; for every input that the form speaks of.
-/
import Derived.Test.YtpibnfpgokjnpaaDoorRows
import Derived.Test.YtpibnfpgokjnpaaDoorCards
import Derived.Test.YtpibnfpgokjnpaaDoorTie
import Derived.Test.YtpibnfpgokjnpaaDoorLd
import Derived.Test.YtpibnfpgokjnpaaDoorAwake6
import Derived.Test.YtpibnfpgokjnpaaDoorSp5
import Derived.Test.YtpibnfpgokjnpaaDoorRTM
import Derived.Test.YtpibnfpgokjnpaaDoorBase
import Derived.ProofKit
import Derived.OpenShut
import Derived.Carry
import Derived.SevenTiedAt
namespace Go.Proofs.YtpibnfpgokjnpaaDoor.lsays6
open Go Go.ChangeShapes Go.WideShapes Go.ChangeAt Go.RowKit
open Go.Proofs.YtpibnfpgokjnpaaDoor.arr Go.Proofs.YtpibnfpgokjnpaaDoor.mem Go.Proofs.YtpibnfpgokjnpaaDoor.tabv Go.Proofs.YtpibnfpgokjnpaaDoor.built Go.Proofs.YtpibnfpgokjnpaaDoor.kecm Go.Proofs.YtpibnfpgokjnpaaDoor.kecb Go.Proofs.YtpibnfpgokjnpaaDoor.keca Go.Proofs.YtpibnfpgokjnpaaDoor.kturn Go.Proofs.YtpibnfpgokjnpaaDoor.kstep Go.Proofs.YtpibnfpgokjnpaaDoor.kfun Go.Proofs.YtpibnfpgokjnpaaDoor.spgm Go.Proofs.YtpibnfpgokjnpaaDoor.rspa Go.Proofs.YtpibnfpgokjnpaaDoor.rspb Go.Proofs.YtpibnfpgokjnpaaDoor.rspc Go.Proofs.YtpibnfpgokjnpaaDoor.rspd Go.Proofs.YtpibnfpgokjnpaaDoor.spol Go.Proofs.YtpibnfpgokjnpaaDoor.spom Go.Proofs.YtpibnfpgokjnpaaDoor.laids Go.Proofs.YtpibnfpgokjnpaaDoor.qops
set_option linter.unusedVariables false
theorem own : ownKnob Tryd.prog.godebug = none := by kernel_rfl
theorem laidOut : laidOutB Tryd.prog = true := by kernel_rfl

set_option maxRecDepth 100000 in
set_option maxHeartbeats 8000000 in
theorem far (k a : Int) (ob : Bool) (l : List Nat) (b : ByteArray) (n : Int) (w : World) (h : St l) (hg : 2000 < b.size ∨ b.size ≤ 2000 ∧ 2000 < n) (hP : Gp w) :
    Calls Tryd.prog 3 #[.agg (SC k l a ob), .string b, .int .i64 n] w fun e w' => e = .returned (.bool true) ∧ Below w.heap.size w w' := by
  have HP := Away.mk hP
  obtain ⟨S, HS⟩ := ex_eq (SC k l a ob)
  rw [HS.out]
  obtain ⟨W, hW⟩ : ∃ x, w.alloc (.cells S 25) = x := ⟨_, rfl⟩
  have HW := Away.mk hW
  have BW : Away (Below w.heap.size w W) := ⟨by rw [← hW]; exact below_alloc _ _⟩
  clear hW h
  rcases hg with hg | ⟨hg, hg2⟩
  · go_enter Tryd.func3, Tryd.ntmps3
    go_wp2_with (rw [HW.out])
    refine (awake6.awake_any _ (HP.out.later BW.out)).mono ?_
    rintro e w3 ⟨rfl, hb⟩
    have B3 : Away (Below w.heap.size w w3) := ⟨BW.out.trans (hb.mono BW.out.size)⟩
    clear hb
    go_wp2_with fail
    go_ret
    exact ⟨rfl, B3.out⟩
  · have h3 : ¬ (2000 : Int) < (b.size : Int) := by omega
    go_enter Tryd.func3, Tryd.ntmps3
    go_wp2_with (rw [HW.out])
    refine (awake6.awake_any _ (HP.out.later BW.out)).mono ?_
    rintro e w3 ⟨rfl, hb⟩
    have B3 : Away (Below w.heap.size w w3) := ⟨BW.out.trans (hb.mono BW.out.size)⟩
    clear hb
    go_wp2_with fail
    go_ret
    exact ⟨rfl, B3.out⟩
set_option maxRecDepth 100000 in
set_option maxHeartbeats 8000000 in
theorem near (k a : Int) (ob : Bool) (l : List Nat) (b : ByteArray) (n : Int) (w : World) (h : St l) (hg : b.size ≤ 2000) (hg2 : n ≤ 2000) (hP : Gp w) :
    Calls Tryd.prog 3 #[.agg (SC k l a ob), .string b, .int .i64 n] w fun e w' => e = .returned (.bool true) ∧ Below w.heap.size w w' := by
  have HP := Away.mk hP
  obtain ⟨X1, e1, G1, C1, D1⟩ := absorb_both k a ob l b h hg
  obtain ⟨X2, s2, e2, G2, C2, D2⟩ := squeeze_both k a ob l n h
  obtain ⟨s3, e3, C3, D3⟩ := shake_both k b n hg
  obtain ⟨s4, e4, C4, D4⟩ := sha3_both k b hg
  obtain ⟨X5, e5, G5, C5, D5⟩ := new_both k
  have C6 : ∀ w1 : World, Calls Tryd.prog 18 #[.agg (SC k l a ob)] w1 fun e w' => e = .returned (.bool (rspb.ok k a ob)) ∧ Below w1.heap.size w1 w' := fun w1 => spoi.right_any k a ob l w1 h.len
  have D6 : ∀ w1 : World, Calls Tryd.prog 19 #[.agg (SC k l a ob)] w1 fun e w' => e = .returned (.bool (rspb.ok k a ob)) ∧ Below w1.heap.size w1 w' := fun w1 => rspb.right_any k a ob l w1 h.len
  obtain ⟨vv, hvv⟩ : ∃ v, rspb.ok k a ob = v := ⟨_, rfl⟩
  rw [hvv] at C6 D6
  have hSi : (Tryd.prog.info? 25).map (·.size) = some 28 := sizeS
  obtain ⟨S, HS⟩ := ex_eq (SC k l a ob)
  have S28 : Away (S.size = 28) := ⟨by rw [← HS.out]; exact sc_size k a ob h.len⟩
  have Sk : Away (S[0]? = some (.int .i64 k)) := ⟨by rw [← HS.out]; exact sc_kind k l a ob⟩
  rw [HS.out] at C1 D1 C2 D2 C6 D6 ⊢
  clear hvv h hP HS
  obtain ⟨hz, hsize⟩ := zero_of_info infoT
  obtain ⟨Zt, HZ⟩ := ex_eq TZ
  rw [HZ.out] at hz
  have HZs : Away (Zt.size = 465) := ⟨by rw [← HZ.out]; exact tz_size⟩
  have Hsize := Away.mk hsize
  clear hsize
  obtain ⟨T, HT⟩ := ex_eq TA
  have HTs : Away (T.size = 465) := ⟨by rw [← HT.out]; exact ta_size⟩
  have HTo : Away (T.all (·.oneCell') = true) := ⟨by rw [← HT.out]; exact ta_one⟩
  have Hmk : Away (∀ w1 : World, Calls Tryd.prog 7 #[] w1 fun e w' => e = .returned (.agg T) ∧ Below w1.heap.size w1 w') := ⟨fun w1 => by rw [← HT.out]; exact rmake.make_any w1⟩
  have HTz : Away ((Tryd.prog.info? 36).map (·.size) = some T.size) := ⟨by rw [HTs.out]; exact Hsize.out⟩
  rw [HT.out] at C1 D1 C2 D2 C3 D3 C4 D4
  have C1 := Away.mk C1
  have D1 := Away.mk D1
  have C2 := Away.mk C2
  have D2 := Away.mk D2
  have C3 := Away.mk C3
  have D3 := Away.mk D3
  have C4 := Away.mk C4
  have D4 := Away.mk D4
  have C5 := Away.mk C5
  have D5 := Away.mk D5
  have C6 := Away.mk C6
  have D6 := Away.mk D6
  have G1 := Away.mk G1
  have G2 := Away.mk G2
  have G5 := Away.mk G5
  have IS : Away ((Tryd.prog.info? 25).map (·.size) = some S.size) := ⟨by rw [S28.out]; exact hSi⟩
  have I1 : Away ((Tryd.prog.info? 25).map (·.size) = some X1.size) := ⟨by rw [G1.out.size]; exact hSi⟩
  have I2 : Away ((Tryd.prog.info? 25).map (·.size) = some X2.size) := ⟨by rw [G2.out.size]; exact hSi⟩
  have I5 : Away ((Tryd.prog.info? 25).map (·.size) = some X5.size) := ⟨by rw [G5.out.size]; exact hSi⟩
  clear HT HZ hSi
  obtain ⟨W0, hW0⟩ : ∃ x, w.alloc (.cells S 25) = x := ⟨_, rfl⟩
  have HW0 := Away.mk hW0
  have B0 : Away (Below w.heap.size w W0) := ⟨by rw [← hW0]; exact below_alloc _ _⟩
  have RS0 : Away (W0.heap[w.heap.size]? = some (.cells S 25 (0, 0))) := ⟨by rw [← hW0]; exact heap_at _ _ _ rfl⟩
  clear hW0
  go_enter Tryd.func3, Tryd.ntmps3
  go_wp2_with (rw [HW0.out])
  refine (Hmk.out _).mono ?_
  rintro e w1 ⟨rfl, hb1⟩
  obtain ⟨W1, hW1⟩ : ∃ x, w1.alloc (.cells T 36) = x := ⟨_, rfl⟩
  have HW1 := Away.mk hW1
  have B1 : Away (Below w.heap.size w W1) := ⟨by rw [← hW1]; exact (B0.out.trans (hb1.mono B0.out.size)).alloc (Nat.le_trans B0.out.size hb1.size) _⟩
  have RS1 : Away (W1.heap[w.heap.size]? = some (.cells S 25 (0, 0))) := ⟨by rw [← hW1, heap_past _ _ _ (Nat.lt_of_lt_of_le (lt_of_row RS0.out) hb1.size)]; exact (hb1.block _ (lt_of_row RS0.out)).trans RS0.out⟩
  have RT1 : Away (W1.heap[w1.heap.size]? = some (.cells T 36 (0, 0))) := ⟨by rw [← hW1]; exact heap_at _ _ _ rfl⟩
  have P1 : Away (Gp W1) := ⟨HP.out.later B1.out⟩
  clear hb1 hW1 HW0
  have c1 : W1.cell? ⟨w.heap.size, 0, none⟩ = some (.int .i64 k) := cell_at RS1.out Sk.out
  go_wp2_with (first
    | (refine wpList_store_new rfl 36 _ _ rfl _ rfl rfl (by rw [HTs.out]; exact Hsize.out) (by rw [HTs.out]; exact HZs.out) HTo.out rfl ?_)
    | (rw [HW1.out])
    | (refine wpList_load_row rfl 36 _ rfl w1.heap.size rfl 36 T (0, 0) _ RT1.out Tryd.underlying36 rfl HTz.out ?_)
    | (refine wpList_load_row rfl 25 _ rfl w.heap.size rfl 25 S (0, 0) _ RS1.out Tryd.underlying25 rfl IS.out ?_))
  refine (C1.out _ P1.out).mono ?_
  rintro e w2 ⟨rfl, hb2⟩
  obtain ⟨W2, hW2⟩ : ∃ x, w2.alloc (.cells X1 25) = x := ⟨_, rfl⟩
  have HW2 := Away.mk hW2
  have Bs2 : Away (Below W1.heap.size W1 W2) := ⟨by rw [← hW2]; exact hb2.alloc hb2.size _⟩
  have B2 : Away (Below w.heap.size w W2) := ⟨B1.out.trans (Bs2.out.mono B1.out.size)⟩
  have RS2 : Away (W2.heap[w.heap.size]? = some (.cells S 25 (0, 0))) := ⟨(Bs2.out.block _ (lt_of_row RS1.out)).trans RS1.out⟩
  have RT2 : Away (W2.heap[w1.heap.size]? = some (.cells T 36 (0, 0))) := ⟨(Bs2.out.block _ (lt_of_row RT1.out)).trans RT1.out⟩
  have Ra_2 : Away (W2.heap[w2.heap.size]? = some (.cells X1 25 (0, 0))) := ⟨by rw [← hW2]; exact heap_at _ _ _ rfl⟩
  have P2 : Away (Gp W2) := ⟨HP.out.later B2.out⟩
  have c2 : W2.cell? ⟨w.heap.size, 0, none⟩ = some (.int .i64 k) := cell_at RS2.out Sk.out
  clear hb2 hW2 c1 RS1 RT1 P1
  go_wp2_with (first
    | (refine wpList_store_new rfl 25 _ _ rfl X1 rfl rfl I1.out (by exact G1.out.size.symm) G1.out.one rfl ?_)
    | (rw [HW2.out])
    | (refine wpList_load_row rfl 36 _ rfl w1.heap.size rfl 36 T (0, 0) _ RT2.out Tryd.underlying36 rfl HTz.out ?_)
    | (refine wpList_load_row rfl 25 _ rfl w.heap.size rfl 25 S (0, 0) _ RS2.out Tryd.underlying25 rfl IS.out ?_))
  refine (D1.out _).mono ?_
  rintro e w3 ⟨rfl, hb3⟩
  obtain ⟨W3, hW3⟩ : ∃ x, w3.alloc (.cells X1 25) = x := ⟨_, rfl⟩
  have HW3 := Away.mk hW3
  have Bs3 : Away (Below W2.heap.size W2 W3) := ⟨by rw [← hW3]; exact hb3.alloc hb3.size _⟩
  have B3 : Away (Below w.heap.size w W3) := ⟨B2.out.trans (Bs3.out.mono B2.out.size)⟩
  have RS3 : Away (W3.heap[w.heap.size]? = some (.cells S 25 (0, 0))) := ⟨(Bs3.out.block _ (lt_of_row RS2.out)).trans RS2.out⟩
  have RT3 : Away (W3.heap[w1.heap.size]? = some (.cells T 36 (0, 0))) := ⟨(Bs3.out.block _ (lt_of_row RT2.out)).trans RT2.out⟩
  have Ra_3 : Away (W3.heap[w2.heap.size]? = some (.cells X1 25 (0, 0))) := ⟨(Bs3.out.block _ (lt_of_row Ra_2.out)).trans Ra_2.out⟩
  have Rb_3 : Away (W3.heap[w3.heap.size]? = some (.cells X1 25 (0, 0))) := ⟨by rw [← hW3]; exact heap_at _ _ _ rfl⟩
  have P3 : Away (Gp W3) := ⟨HP.out.later B3.out⟩
  have c3 : W3.cell? ⟨w.heap.size, 0, none⟩ = some (.int .i64 k) := cell_at RS3.out Sk.out
  clear hb3 hW3 c2 RS2 RT2 P2 Ra_2
  go_wp2_with (first
    | (refine wpList_store_new rfl 25 _ _ rfl X1 rfl rfl I1.out (by exact G1.out.size.symm) G1.out.one rfl ?_)
    | (rw [HW3.out])
    | (refine wpList_load_row rfl 36 _ rfl w1.heap.size rfl 36 T (0, 0) _ RT3.out Tryd.underlying36 rfl HTz.out ?_)
    | (refine wpList_load_row rfl 25 _ rfl w.heap.size rfl 25 S (0, 0) _ RS3.out Tryd.underlying25 rfl IS.out ?_))
  refine (C2.out _ P3.out).mono ?_
  rintro e w4 ⟨rfl, hb4⟩
  obtain ⟨W4, hW4⟩ : ∃ x, w4.alloc (.cells X2 25) = x := ⟨_, rfl⟩
  have HW4 := Away.mk hW4
  have Bs4 : Away (Below W3.heap.size W3 W4) := ⟨by rw [← hW4]; exact hb4.alloc hb4.size _⟩
  have B4 : Away (Below w.heap.size w W4) := ⟨B3.out.trans (Bs4.out.mono B3.out.size)⟩
  have RS4 : Away (W4.heap[w.heap.size]? = some (.cells S 25 (0, 0))) := ⟨(Bs4.out.block _ (lt_of_row RS3.out)).trans RS3.out⟩
  have RT4 : Away (W4.heap[w1.heap.size]? = some (.cells T 36 (0, 0))) := ⟨(Bs4.out.block _ (lt_of_row RT3.out)).trans RT3.out⟩
  have Ra_4 : Away (W4.heap[w2.heap.size]? = some (.cells X1 25 (0, 0))) := ⟨(Bs4.out.block _ (lt_of_row Ra_3.out)).trans Ra_3.out⟩
  have Rb_4 : Away (W4.heap[w3.heap.size]? = some (.cells X1 25 (0, 0))) := ⟨(Bs4.out.block _ (lt_of_row Rb_3.out)).trans Rb_3.out⟩
  have Rc_4 : Away (W4.heap[w4.heap.size]? = some (.cells X2 25 (0, 0))) := ⟨by rw [← hW4]; exact heap_at _ _ _ rfl⟩
  have P4 : Away (Gp W4) := ⟨HP.out.later B4.out⟩
  have c4 : W4.cell? ⟨w.heap.size, 0, none⟩ = some (.int .i64 k) := cell_at RS4.out Sk.out
  clear hb4 hW4 c3 RS3 RT3 P3 Ra_3 Rb_3
  go_wp2_with (first
    | (refine wpList_store_new rfl 25 _ _ rfl X2 rfl rfl I2.out (by exact G2.out.size.symm) G2.out.one rfl ?_)
    | (rw [HW4.out])
    | (refine wpList_load_row rfl 36 _ rfl w1.heap.size rfl 36 T (0, 0) _ RT4.out Tryd.underlying36 rfl HTz.out ?_)
    | (refine wpList_load_row rfl 25 _ rfl w.heap.size rfl 25 S (0, 0) _ RS4.out Tryd.underlying25 rfl IS.out ?_))
  refine (D2.out _).mono ?_
  rintro e w5 ⟨rfl, hb5⟩
  obtain ⟨W5, hW5⟩ : ∃ x, w5.alloc (.cells X2 25) = x := ⟨_, rfl⟩
  have HW5 := Away.mk hW5
  have Bs5 : Away (Below W4.heap.size W4 W5) := ⟨by rw [← hW5]; exact hb5.alloc hb5.size _⟩
  have B5 : Away (Below w.heap.size w W5) := ⟨B4.out.trans (Bs5.out.mono B4.out.size)⟩
  have RS5 : Away (W5.heap[w.heap.size]? = some (.cells S 25 (0, 0))) := ⟨(Bs5.out.block _ (lt_of_row RS4.out)).trans RS4.out⟩
  have RT5 : Away (W5.heap[w1.heap.size]? = some (.cells T 36 (0, 0))) := ⟨(Bs5.out.block _ (lt_of_row RT4.out)).trans RT4.out⟩
  have Ra_5 : Away (W5.heap[w2.heap.size]? = some (.cells X1 25 (0, 0))) := ⟨(Bs5.out.block _ (lt_of_row Ra_4.out)).trans Ra_4.out⟩
  have Rb_5 : Away (W5.heap[w3.heap.size]? = some (.cells X1 25 (0, 0))) := ⟨(Bs5.out.block _ (lt_of_row Rb_4.out)).trans Rb_4.out⟩
  have Rc_5 : Away (W5.heap[w4.heap.size]? = some (.cells X2 25 (0, 0))) := ⟨(Bs5.out.block _ (lt_of_row Rc_4.out)).trans Rc_4.out⟩
  have Rd_5 : Away (W5.heap[w5.heap.size]? = some (.cells X2 25 (0, 0))) := ⟨by rw [← hW5]; exact heap_at _ _ _ rfl⟩
  have P5 : Away (Gp W5) := ⟨HP.out.later B5.out⟩
  have c5 : W5.cell? ⟨w.heap.size, 0, none⟩ = some (.int .i64 k) := cell_at RS5.out Sk.out
  clear hb5 hW5 c4 RS4 RT4 P4 Ra_4 Rb_4 Rc_4
  go_wp2_with (first
    | (refine wpList_store_new rfl 25 _ _ rfl X2 rfl rfl I2.out (by exact G2.out.size.symm) G2.out.one rfl ?_)
    | (rw [HW5.out])
    | (refine wpList_load_row rfl 36 _ rfl w1.heap.size rfl 36 T (0, 0) _ RT5.out Tryd.underlying36 rfl HTz.out ?_)
    | (refine wpList_load_row rfl 25 _ rfl w.heap.size rfl 25 S (0, 0) _ RS5.out Tryd.underlying25 rfl IS.out ?_))
  refine (C3.out _ P5.out).mono ?_
  rintro e w6 ⟨rfl, hb6⟩
  obtain ⟨W6, hW6⟩ : ∃ x, w6 = x := ⟨_, rfl⟩
  rw [hW6] at hb6 ⊢
  have Bs6 : Away (Below W5.heap.size W5 W6) := ⟨hb6⟩
  have B6 : Away (Below w.heap.size w W6) := ⟨B5.out.trans (Bs6.out.mono B5.out.size)⟩
  have RS6 : Away (W6.heap[w.heap.size]? = some (.cells S 25 (0, 0))) := ⟨(Bs6.out.block _ (lt_of_row RS5.out)).trans RS5.out⟩
  have RT6 : Away (W6.heap[w1.heap.size]? = some (.cells T 36 (0, 0))) := ⟨(Bs6.out.block _ (lt_of_row RT5.out)).trans RT5.out⟩
  have Ra_6 : Away (W6.heap[w2.heap.size]? = some (.cells X1 25 (0, 0))) := ⟨(Bs6.out.block _ (lt_of_row Ra_5.out)).trans Ra_5.out⟩
  have Rb_6 : Away (W6.heap[w3.heap.size]? = some (.cells X1 25 (0, 0))) := ⟨(Bs6.out.block _ (lt_of_row Rb_5.out)).trans Rb_5.out⟩
  have Rc_6 : Away (W6.heap[w4.heap.size]? = some (.cells X2 25 (0, 0))) := ⟨(Bs6.out.block _ (lt_of_row Rc_5.out)).trans Rc_5.out⟩
  have Rd_6 : Away (W6.heap[w5.heap.size]? = some (.cells X2 25 (0, 0))) := ⟨(Bs6.out.block _ (lt_of_row Rd_5.out)).trans Rd_5.out⟩
  have P6 : Away (Gp W6) := ⟨HP.out.later B6.out⟩
  have c6 : W6.cell? ⟨w.heap.size, 0, none⟩ = some (.int .i64 k) := cell_at RS6.out Sk.out
  clear hb6 hW6 c5 RS5 RT5 P5 Ra_5 Rb_5 Rc_5 Rd_5
  go_wp2_with (first
    | (refine wpList_load_row rfl 36 _ rfl w1.heap.size rfl 36 T (0, 0) _ RT6.out Tryd.underlying36 rfl HTz.out ?_)
    | (refine wpList_load_row rfl 25 _ rfl w.heap.size rfl 25 S (0, 0) _ RS6.out Tryd.underlying25 rfl IS.out ?_))
  refine (D3.out _).mono ?_
  rintro e w7 ⟨rfl, hb7⟩
  obtain ⟨W7, hW7⟩ : ∃ x, w7 = x := ⟨_, rfl⟩
  rw [hW7] at hb7 ⊢
  have Bs7 : Away (Below W6.heap.size W6 W7) := ⟨hb7⟩
  have B7 : Away (Below w.heap.size w W7) := ⟨B6.out.trans (Bs7.out.mono B6.out.size)⟩
  have RS7 : Away (W7.heap[w.heap.size]? = some (.cells S 25 (0, 0))) := ⟨(Bs7.out.block _ (lt_of_row RS6.out)).trans RS6.out⟩
  have RT7 : Away (W7.heap[w1.heap.size]? = some (.cells T 36 (0, 0))) := ⟨(Bs7.out.block _ (lt_of_row RT6.out)).trans RT6.out⟩
  have Ra_7 : Away (W7.heap[w2.heap.size]? = some (.cells X1 25 (0, 0))) := ⟨(Bs7.out.block _ (lt_of_row Ra_6.out)).trans Ra_6.out⟩
  have Rb_7 : Away (W7.heap[w3.heap.size]? = some (.cells X1 25 (0, 0))) := ⟨(Bs7.out.block _ (lt_of_row Rb_6.out)).trans Rb_6.out⟩
  have Rc_7 : Away (W7.heap[w4.heap.size]? = some (.cells X2 25 (0, 0))) := ⟨(Bs7.out.block _ (lt_of_row Rc_6.out)).trans Rc_6.out⟩
  have Rd_7 : Away (W7.heap[w5.heap.size]? = some (.cells X2 25 (0, 0))) := ⟨(Bs7.out.block _ (lt_of_row Rd_6.out)).trans Rd_6.out⟩
  have P7 : Away (Gp W7) := ⟨HP.out.later B7.out⟩
  have c7 : W7.cell? ⟨w.heap.size, 0, none⟩ = some (.int .i64 k) := cell_at RS7.out Sk.out
  clear hb7 hW7 c6 RS6 RT6 P6 Ra_6 Rb_6 Rc_6 Rd_6
  go_wp2_with (first
    | (refine wpList_load_row rfl 36 _ rfl w1.heap.size rfl 36 T (0, 0) _ RT7.out Tryd.underlying36 rfl HTz.out ?_)
    | (refine wpList_load_row rfl 25 _ rfl w.heap.size rfl 25 S (0, 0) _ RS7.out Tryd.underlying25 rfl IS.out ?_))
  refine (C4.out _ P7.out).mono ?_
  rintro e w8 ⟨rfl, hb8⟩
  obtain ⟨W8, hW8⟩ : ∃ x, w8 = x := ⟨_, rfl⟩
  rw [hW8] at hb8 ⊢
  have Bs8 : Away (Below W7.heap.size W7 W8) := ⟨hb8⟩
  have B8 : Away (Below w.heap.size w W8) := ⟨B7.out.trans (Bs8.out.mono B7.out.size)⟩
  have RS8 : Away (W8.heap[w.heap.size]? = some (.cells S 25 (0, 0))) := ⟨(Bs8.out.block _ (lt_of_row RS7.out)).trans RS7.out⟩
  have RT8 : Away (W8.heap[w1.heap.size]? = some (.cells T 36 (0, 0))) := ⟨(Bs8.out.block _ (lt_of_row RT7.out)).trans RT7.out⟩
  have Ra_8 : Away (W8.heap[w2.heap.size]? = some (.cells X1 25 (0, 0))) := ⟨(Bs8.out.block _ (lt_of_row Ra_7.out)).trans Ra_7.out⟩
  have Rb_8 : Away (W8.heap[w3.heap.size]? = some (.cells X1 25 (0, 0))) := ⟨(Bs8.out.block _ (lt_of_row Rb_7.out)).trans Rb_7.out⟩
  have Rc_8 : Away (W8.heap[w4.heap.size]? = some (.cells X2 25 (0, 0))) := ⟨(Bs8.out.block _ (lt_of_row Rc_7.out)).trans Rc_7.out⟩
  have Rd_8 : Away (W8.heap[w5.heap.size]? = some (.cells X2 25 (0, 0))) := ⟨(Bs8.out.block _ (lt_of_row Rd_7.out)).trans Rd_7.out⟩
  have P8 : Away (Gp W8) := ⟨HP.out.later B8.out⟩
  have c8 : W8.cell? ⟨w.heap.size, 0, none⟩ = some (.int .i64 k) := cell_at RS8.out Sk.out
  clear hb8 hW8 c7 RS7 RT7 P7 Ra_7 Rb_7 Rc_7 Rd_7
  go_wp2_with (first
    | (refine wpList_load_row rfl 36 _ rfl w1.heap.size rfl 36 T (0, 0) _ RT8.out Tryd.underlying36 rfl HTz.out ?_)
    | (refine wpList_load_row rfl 25 _ rfl w.heap.size rfl 25 S (0, 0) _ RS8.out Tryd.underlying25 rfl IS.out ?_))
  refine (D4.out _).mono ?_
  rintro e w9 ⟨rfl, hb9⟩
  obtain ⟨W9, hW9⟩ : ∃ x, w9 = x := ⟨_, rfl⟩
  rw [hW9] at hb9 ⊢
  have Bs9 : Away (Below W8.heap.size W8 W9) := ⟨hb9⟩
  have B9 : Away (Below w.heap.size w W9) := ⟨B8.out.trans (Bs9.out.mono B8.out.size)⟩
  have RS9 : Away (W9.heap[w.heap.size]? = some (.cells S 25 (0, 0))) := ⟨(Bs9.out.block _ (lt_of_row RS8.out)).trans RS8.out⟩
  have RT9 : Away (W9.heap[w1.heap.size]? = some (.cells T 36 (0, 0))) := ⟨(Bs9.out.block _ (lt_of_row RT8.out)).trans RT8.out⟩
  have Ra_9 : Away (W9.heap[w2.heap.size]? = some (.cells X1 25 (0, 0))) := ⟨(Bs9.out.block _ (lt_of_row Ra_8.out)).trans Ra_8.out⟩
  have Rb_9 : Away (W9.heap[w3.heap.size]? = some (.cells X1 25 (0, 0))) := ⟨(Bs9.out.block _ (lt_of_row Rb_8.out)).trans Rb_8.out⟩
  have Rc_9 : Away (W9.heap[w4.heap.size]? = some (.cells X2 25 (0, 0))) := ⟨(Bs9.out.block _ (lt_of_row Rc_8.out)).trans Rc_8.out⟩
  have Rd_9 : Away (W9.heap[w5.heap.size]? = some (.cells X2 25 (0, 0))) := ⟨(Bs9.out.block _ (lt_of_row Rd_8.out)).trans Rd_8.out⟩
  have P9 : Away (Gp W9) := ⟨HP.out.later B9.out⟩
  have c9 : W9.cell? ⟨w.heap.size, 0, none⟩ = some (.int .i64 k) := cell_at RS9.out Sk.out
  clear hb9 hW9 c8 RS8 RT8 P8 Ra_8 Rb_8 Rc_8 Rd_8
  go_wp2_with (first
    | (refine wpList_load_row rfl 36 _ rfl w1.heap.size rfl 36 T (0, 0) _ RT9.out Tryd.underlying36 rfl HTz.out ?_)
    | (refine wpList_load_row rfl 25 _ rfl w.heap.size rfl 25 S (0, 0) _ RS9.out Tryd.underlying25 rfl IS.out ?_))
  refine (C5.out _).mono ?_
  rintro e w10 ⟨rfl, hb10⟩
  obtain ⟨W10, hW10⟩ : ∃ x, w10.alloc (.cells X5 25) = x := ⟨_, rfl⟩
  have HW10 := Away.mk hW10
  have Bs10 : Away (Below W9.heap.size W9 W10) := ⟨by rw [← hW10]; exact hb10.alloc hb10.size _⟩
  have B10 : Away (Below w.heap.size w W10) := ⟨B9.out.trans (Bs10.out.mono B9.out.size)⟩
  have RS10 : Away (W10.heap[w.heap.size]? = some (.cells S 25 (0, 0))) := ⟨(Bs10.out.block _ (lt_of_row RS9.out)).trans RS9.out⟩
  have RT10 : Away (W10.heap[w1.heap.size]? = some (.cells T 36 (0, 0))) := ⟨(Bs10.out.block _ (lt_of_row RT9.out)).trans RT9.out⟩
  have Ra_10 : Away (W10.heap[w2.heap.size]? = some (.cells X1 25 (0, 0))) := ⟨(Bs10.out.block _ (lt_of_row Ra_9.out)).trans Ra_9.out⟩
  have Rb_10 : Away (W10.heap[w3.heap.size]? = some (.cells X1 25 (0, 0))) := ⟨(Bs10.out.block _ (lt_of_row Rb_9.out)).trans Rb_9.out⟩
  have Rc_10 : Away (W10.heap[w4.heap.size]? = some (.cells X2 25 (0, 0))) := ⟨(Bs10.out.block _ (lt_of_row Rc_9.out)).trans Rc_9.out⟩
  have Rd_10 : Away (W10.heap[w5.heap.size]? = some (.cells X2 25 (0, 0))) := ⟨(Bs10.out.block _ (lt_of_row Rd_9.out)).trans Rd_9.out⟩
  have Ri_10 : Away (W10.heap[w10.heap.size]? = some (.cells X5 25 (0, 0))) := ⟨by rw [← hW10]; exact heap_at _ _ _ rfl⟩
  have P10 : Away (Gp W10) := ⟨HP.out.later B10.out⟩
  have c10 : W10.cell? ⟨w.heap.size, 0, none⟩ = some (.int .i64 k) := cell_at RS10.out Sk.out
  clear hb10 hW10 c9 RS9 RT9 P9 Ra_9 Rb_9 Rc_9 Rd_9
  go_wp2_with (first
    | (refine wpList_store_new rfl 25 _ _ rfl X5 rfl rfl I5.out (by exact G5.out.size.symm) G5.out.one rfl ?_)
    | (rw [HW10.out])
    | (refine wpList_load_row rfl 36 _ rfl w1.heap.size rfl 36 T (0, 0) _ RT10.out Tryd.underlying36 rfl HTz.out ?_)
    | (refine wpList_load_row rfl 25 _ rfl w.heap.size rfl 25 S (0, 0) _ RS10.out Tryd.underlying25 rfl IS.out ?_))
  refine (D5.out _).mono ?_
  rintro e w11 ⟨rfl, hb11⟩
  obtain ⟨W11, hW11⟩ : ∃ x, w11.alloc (.cells X5 25) = x := ⟨_, rfl⟩
  have HW11 := Away.mk hW11
  have Bs11 : Away (Below W10.heap.size W10 W11) := ⟨by rw [← hW11]; exact hb11.alloc hb11.size _⟩
  have B11 : Away (Below w.heap.size w W11) := ⟨B10.out.trans (Bs11.out.mono B10.out.size)⟩
  have RS11 : Away (W11.heap[w.heap.size]? = some (.cells S 25 (0, 0))) := ⟨(Bs11.out.block _ (lt_of_row RS10.out)).trans RS10.out⟩
  have RT11 : Away (W11.heap[w1.heap.size]? = some (.cells T 36 (0, 0))) := ⟨(Bs11.out.block _ (lt_of_row RT10.out)).trans RT10.out⟩
  have Ra_11 : Away (W11.heap[w2.heap.size]? = some (.cells X1 25 (0, 0))) := ⟨(Bs11.out.block _ (lt_of_row Ra_10.out)).trans Ra_10.out⟩
  have Rb_11 : Away (W11.heap[w3.heap.size]? = some (.cells X1 25 (0, 0))) := ⟨(Bs11.out.block _ (lt_of_row Rb_10.out)).trans Rb_10.out⟩
  have Rc_11 : Away (W11.heap[w4.heap.size]? = some (.cells X2 25 (0, 0))) := ⟨(Bs11.out.block _ (lt_of_row Rc_10.out)).trans Rc_10.out⟩
  have Rd_11 : Away (W11.heap[w5.heap.size]? = some (.cells X2 25 (0, 0))) := ⟨(Bs11.out.block _ (lt_of_row Rd_10.out)).trans Rd_10.out⟩
  have Ri_11 : Away (W11.heap[w10.heap.size]? = some (.cells X5 25 (0, 0))) := ⟨(Bs11.out.block _ (lt_of_row Ri_10.out)).trans Ri_10.out⟩
  have Rj_11 : Away (W11.heap[w11.heap.size]? = some (.cells X5 25 (0, 0))) := ⟨by rw [← hW11]; exact heap_at _ _ _ rfl⟩
  have P11 : Away (Gp W11) := ⟨HP.out.later B11.out⟩
  have c11 : W11.cell? ⟨w.heap.size, 0, none⟩ = some (.int .i64 k) := cell_at RS11.out Sk.out
  clear hb11 hW11 c10 RS10 RT10 P10 Ra_10 Rb_10 Rc_10 Rd_10 Ri_10
  have q1 := G1.out.eq
  have q2 := G2.out.eq
  have q5 := G5.out.eq
  have gS := guardS
  clear c11
  go_wp2_with (first
    | (refine wpList_store_new rfl 25 _ _ rfl X5 rfl rfl I5.out (by exact G5.out.size.symm) G5.out.one rfl ?_)
    | (rw [HW11.out]))
  refine region_quiet_ops (by kernel_rfl) (by kernel_rfl) (fun ops HO => ?_)
  refine wpQuiet_load rfl 25 _ rfl _ rfl 25 _ _ (fun w9 hC => heap_regrown Ra_11.out hC) Tryd.underlying25 rfl I1.out ?_
  refine wpQuiet_load rfl 25 _ rfl _ rfl 25 _ _ (fun w9 hC => heap_regrown Rb_11.out hC) Tryd.underlying25 rfl I1.out ?_
  quiet_step (skip)
  quiet_step (skip)
  refine wpQuiet_want (by rw [← HO.out]; kernel_rfl) (fun K hK => ?_)
  go_simp
  refine hK _ ?_
  clear hK K
  refine wpQuiet_want (by rw [← HO.out]; kernel_rfl) (fun K hK => ?_)
  go_simp
  refine hK _ ?_
  clear hK K
  refine wpQuiet_want (by rw [← HO.out]; kernel_rfl) (fun K hK => ?_)
  go_simp
  refine hK _ ?_
  clear hK K
  quiet_step (skip)
  quiet_step (skip)
  refine wpQuiet_load (by rw [← HO.out]; kernel_rfl) 25 _ rfl _ rfl 25 _ _ (fun w9 hC => heap_regrown Rc_11.out hC) Tryd.underlying25 rfl I2.out ?_
  refine wpQuiet_load (by rw [← HO.out]; kernel_rfl) 25 _ rfl _ rfl 25 _ _ (fun w9 hC => heap_regrown Rd_11.out hC) Tryd.underlying25 rfl I2.out ?_
  refine wpQuiet_want (by rw [← HO.out]; kernel_rfl) (fun K hK => ?_)
  go_simp
  refine hK _ ?_
  clear hK K
  quiet_step (skip)
  quiet_step (skip)
  refine wpQuiet_want (by rw [← HO.out]; kernel_rfl) (fun K hK => ?_)
  go_simp
  refine hK _ ?_
  clear hK K
  refine wpQuiet_want (by rw [← HO.out]; kernel_rfl) (fun K hK => ?_)
  go_simp
  refine hK _ ?_
  clear hK K
  refine wpQuiet_want (by rw [← HO.out]; kernel_rfl) (fun K hK => ?_)
  go_simp
  refine hK _ ?_
  clear hK K
  quiet_step (skip)
  quiet_step (skip)
  refine wpQuiet_want (by rw [← HO.out]; kernel_rfl) (fun K hK => ?_)
  go_simp
  refine hK _ ?_
  clear hK K
  refine wpQuiet_want (by rw [← HO.out]; kernel_rfl) (fun K hK => ?_)
  go_simp
  refine hK _ ?_
  clear hK K
  refine wpQuiet_want (by rw [← HO.out]; kernel_rfl) (fun K hK => ?_)
  go_simp
  refine hK _ ?_
  clear hK K
  quiet_step (skip)
  quiet_step (skip)
  refine wpQuiet_want (by rw [← HO.out]; kernel_rfl) (fun K hK => ?_)
  go_simp
  refine hK _ ?_
  clear hK K
  refine wpQuiet_want (by rw [← HO.out]; kernel_rfl) (fun K hK => ?_)
  go_simp
  refine hK _ ?_
  clear hK K
  refine wpQuiet_want (by rw [← HO.out]; kernel_rfl) (fun K hK => ?_)
  go_simp
  refine hK _ ?_
  clear hK K
  quiet_step (skip)
  quiet_step (skip)
  refine wpQuiet_want (by rw [← HO.out]; kernel_rfl) (fun K hK => ?_)
  go_simp
  refine hK _ ?_
  clear hK K
  refine wpQuiet_want (by rw [← HO.out]; kernel_rfl) (fun K hK => ?_)
  go_simp
  refine hK _ ?_
  clear hK K
  refine wpQuiet_want (by rw [← HO.out]; kernel_rfl) (fun K hK => ?_)
  go_simp
  refine hK _ ?_
  clear hK K
  quiet_step (skip)
  quiet_step (skip)
  refine wpQuiet_want (by rw [← HO.out]; kernel_rfl) (fun K hK => ?_)
  go_simp
  refine hK _ ?_
  clear hK K
  refine wpQuiet_want (by rw [← HO.out]; kernel_rfl) (fun K hK => ?_)
  go_simp
  refine hK _ ?_
  clear hK K
  refine wpQuiet_want (by rw [← HO.out]; kernel_rfl) (fun K hK => ?_)
  go_simp
  refine hK _ ?_
  clear hK K
  quiet_step (skip)
  quiet_step (skip)
  refine wpQuiet_want (by rw [← HO.out]; kernel_rfl) (fun K hK => ?_)
  go_simp
  refine hK _ ?_
  clear hK K
  refine wpQuiet_want (by rw [← HO.out]; kernel_rfl) (fun K hK => ?_)
  go_simp
  refine hK _ ?_
  clear hK K
  refine wpQuiet_want (by rw [← HO.out]; kernel_rfl) (fun K hK => ?_)
  go_simp
  refine hK _ ?_
  clear hK K
  quiet_step (skip)
  quiet_step (skip)
  refine wpQuiet_load (by rw [← HO.out]; kernel_rfl) 25 _ rfl _ rfl 25 _ _ (fun w9 hC => heap_regrown Ri_11.out hC) Tryd.underlying25 rfl I5.out ?_
  refine wpQuiet_load (by rw [← HO.out]; kernel_rfl) 25 _ rfl _ rfl 25 _ _ (fun w9 hC => heap_regrown Rj_11.out hC) Tryd.underlying25 rfl I5.out ?_
  refine wpQuiet_want (by rw [← HO.out]; kernel_rfl) (fun K hK => ?_)
  go_simp
  refine hK _ ?_
  clear hK K
  quiet_step (skip)
  quiet_step (skip)
  refine wpQuiet_want (by rw [← HO.out]; kernel_rfl) (fun K hK => ?_)
  go_simp
  refine hK _ ?_
  clear hK K
  refine wpQuiet_want (by rw [← HO.out]; kernel_rfl) (fun K hK => ?_)
  go_simp
  refine hK _ ?_
  clear hK K
  refine wpQuiet_want (by rw [← HO.out]; kernel_rfl) (fun K hK => ?_)
  go_simp
  refine hK _ ?_
  clear hK K
  quiet_step (skip)
  quiet_step (skip)
  refine wpQuiet_load (by rw [← HO.out]; kernel_rfl) 25 _ rfl _ rfl 25 _ _ (fun w9 hC => heap_regrown RS11.out hC) Tryd.underlying25 rfl IS.out ?_
  refine wpQuiet_want (by rw [← HO.out]; kernel_rfl) (fun K hK => ?_)
  go_simp
  apply Exists.intro
  refine ⟨fun _ => ?_, hK _ ?_⟩
  exact Calls.regrown_of (C6.out _)
  clear hK K
  refine wpQuiet_load (by rw [← HO.out]; kernel_rfl) 25 _ rfl _ rfl 25 _ _ (fun w9 hC => heap_regrown RS11.out hC) Tryd.underlying25 rfl IS.out ?_
  refine wpQuiet_want (by rw [← HO.out]; kernel_rfl) (fun K hK => ?_)
  go_simp
  apply Exists.intro
  refine ⟨fun _ => ?_, hK _ ?_⟩
  exact Calls.regrown_of (D6.out _)
  clear hK K
  refine wpQuiet_want (by rw [← HO.out]; kernel_rfl) (fun K hK => ?_)
  go_simp
  refine hK _ ?_
  clear hK K
  quiet_step (skip)
  quiet_step (skip)
  refine wpQuiet_want (by rw [← HO.out]; kernel_rfl) (fun K hK => ?_)
  go_simp
  apply Exists.intro
  refine ⟨fun _ => ?_, hK _ ?_⟩
  exact Calls.regrown_of (awake6.awake_any _ (P11.out.later (below_regrown _ _ _)))
  clear hK K
  quiet_step (skip)
  quiet_step (skip)
  refine wpQuiet_nil ?_
  rintro w20 ⟨pp, rfl⟩
  have BZ : Away (Below w.heap.size w (Sort.grow (redrawn W11 pp.d) pp.os)) := ⟨B11.out.trans ((below_regrown _ _ _).mono B11.out.size)⟩
  go_wp2_with fail
  go_ret
  exact ⟨rfl, BZ.out⟩
end Go.Proofs.YtpibnfpgokjnpaaDoor.lsays6
