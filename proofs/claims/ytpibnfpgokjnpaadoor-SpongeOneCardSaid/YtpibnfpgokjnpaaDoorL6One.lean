/-
  The statement SpongeOne (P6.5, P6.6): the one-call functions equal absorbing and squeezing. Conditions: none, but what the row lists of keccak's variable 'places', which the card ties to the program's text; for every input that the form speaks of.
-/
import Derived.Test.YtpibnfpgokjnpaaDoorRows
import Derived.Test.YtpibnfpgokjnpaaDoorCards
import Derived.Test.YtpibnfpgokjnpaaDoorTie
import Derived.Test.YtpibnfpgokjnpaaDoorLd
import Derived.Test.YtpibnfpgokjnpaaDoorAwake6
import Derived.ProofKit
import Derived.OpenShut
import Derived.Carry
import Derived.SevenTiedAt
namespace Go.Proofs.YtpibnfpgokjnpaaDoor.lone
open Go Go.ChangeShapes Go.WideShapes Go.ChangeAt Go.RowKit
open Go.Proofs.YtpibnfpgokjnpaaDoor.arr Go.Proofs.YtpibnfpgokjnpaaDoor.mem Go.Proofs.YtpibnfpgokjnpaaDoor.tabv Go.Proofs.YtpibnfpgokjnpaaDoor.built Go.Proofs.YtpibnfpgokjnpaaDoor.kecm Go.Proofs.YtpibnfpgokjnpaaDoor.kecb Go.Proofs.YtpibnfpgokjnpaaDoor.keca Go.Proofs.YtpibnfpgokjnpaaDoor.kturn Go.Proofs.YtpibnfpgokjnpaaDoor.kstep Go.Proofs.YtpibnfpgokjnpaaDoor.kfun Go.Proofs.YtpibnfpgokjnpaaDoor.spgm Go.Proofs.YtpibnfpgokjnpaaDoor.spmx Go.Proofs.YtpibnfpgokjnpaaDoor.rspa Go.Proofs.YtpibnfpgokjnpaaDoor.rspc Go.Proofs.YtpibnfpgokjnpaaDoor.rspd Go.Proofs.YtpibnfpgokjnpaaDoor.spoa Go.Proofs.YtpibnfpgokjnpaaDoor.spof Go.Proofs.YtpibnfpgokjnpaaDoor.spok Go.Proofs.YtpibnfpgokjnpaaDoor.laids
set_option linter.unusedVariables false
theorem own : ownKnob Tryd.prog.godebug = none := by kernel_rfl
theorem laidOut : laidOutB Tryd.prog = true := by kernel_rfl

theorem wrap_u64_nat (b : Int) : ∃ B : Nat, IntKind.u64.wrap b = (B : Int) ∧ B < 18446744073709551616 := by
  refine ⟨(IntKind.u64.wrap b).toNat, ?_, ?_⟩ <;> (rw [IntKind.wrap_u64]; omega)
theorem rate_cases (k : Int) (h : 0 < rate k) : k = 1 ∨ k = 2 ∨ k = 3 ∨ k = 4 := by
  unfold rate at h
  by_cases h1 : k = 1
  · simp [h1]
  · by_cases h2 : k = 2
    · simp [h2]
    · by_cases h3 : k = 3
      · simp [h3]
      · by_cases h4 : k = 4
        · simp [h4]
        · simp [h1, h2, h3, h4] at h
set_option maxRecDepth 100000 in
set_option maxHeartbeats 4000000 in
theorem far (b : ByteArray) (n : Int) (w : World) (h : 2000 < b.size) (hP : Gp w) :
    Calls Tryd.prog 5 #[.string b, .int .i64 n] w fun e w' => e = .returned (.bool true) ∧ Below w.heap.size w w' := by
  have HP := Away.mk hP
  go_enter Tryd.func5, Tryd.ntmps5
  go_wp2_with fail
  refine (awake6.awake_any _ HP.out).mono ?_
  rintro e w3 ⟨rfl, hb⟩
  go_wp2_with fail
  go_ret
  exact ⟨rfl, hb⟩
set_option maxRecDepth 100000 in
set_option maxHeartbeats 4000000 in
theorem near (b : ByteArray) (n : Int) (w : World) (h : b.size ≤ 2000) (hP : Gp w) :
    Calls Tryd.prog 5 #[.string b, .int .i64 n] w fun e w' => e = .returned (.bool true) ∧ Below w.heap.size w w' := by
  have HP := Away.mk hP
  obtain ⟨N, hN, hNl⟩ := wrap_u64_nat n
  obtain ⟨m, hm⟩ : ∃ m, N % 400 = m := ⟨_, rfl⟩
  have hm4 : m < 400 := by omega
  have fm : (N : Int).tmod 400 = (m : Int) := by rw [Int.tmod_eq_emod_of_nonneg (by omega)]; omega
  have fm2 : (N : Int) % 400 = (m : Int) := by omega
  have fmw : IntKind.i64.wrap (m : Int) = (m : Int) := by rw [IntKind.wrap_i64]; omega
  clear hP hm
  obtain ⟨hz, hsize⟩ := zero_of_info infoT
  obtain ⟨Zt, HZ⟩ := ex_eq TZ
  rw [HZ.out] at hz
  have HZs : Away (Zt.size = 465) := ⟨by rw [← HZ.out]; exact tz_size⟩
  have Hsize := Away.mk hsize
  clear hsize
  have hkt := kecd.kt_doc
  obtain ⟨T, HT⟩ := ex_eq TA
  rw [HT.out] at hkt
  have HTs : Away (T.size = 465) := ⟨by rw [← HT.out]; exact ta_size⟩
  have HTo : Away (T.all (·.oneCell') = true) := ⟨by rw [← HT.out]; exact ta_one⟩
  have HK := Away.mk hkt
  clear hkt
  have Hmk : Away (∀ w1 : World, Calls Tryd.prog 20 #[] w1 fun e w' => e = .returned (.agg T) ∧ Below w1.heap.size w1 w') := ⟨fun w1 => by rw [← HT.out]; exact make.make_any w1⟩
  have HTz : Away ((Tryd.prog.info? 36).map (·.size) = some T.size) := ⟨by rw [HTs.out]; exact Hsize.out⟩
  clear HT HZ
  go_enter Tryd.func5, Tryd.ntmps5
  go_wp2_with fail
  refine (Hmk.out _).mono ?_
  rintro e w1 ⟨rfl, hb1⟩
  obtain ⟨W, hW⟩ : ∃ W, w1.alloc (.cells T 36) = W := ⟨_, rfl⟩
  have HW := Away.mk hW
  have Hg : Away (W.heap[w1.heap.size]? = some (.cells T 36 (0, 0))) := ⟨by rw [← hW, heap_at _ _ _ rfl]⟩
  have Hb : Away (Below w.heap.size w W) := ⟨by rw [← hW]; exact hb1.alloc hb1.size _⟩
  have P1 : Away (Gp W) := ⟨HP.out.later Hb.out⟩
  have hgl := lt_of_row Hg.out
  clear hW hb1
  go_wp2_with (first
    | (refine wpList_store_new rfl 36 _ _ rfl _ rfl rfl (by rw [HTs.out]; exact Hsize.out) (by rw [HTs.out]; exact HZs.out) HTo.out rfl ?_)
    | (rw [HW.out]))
  clear hN fm fm2 hz
  go_loopw [6] (fun v wr => (v = .int .i64 1 ∨ v = .int .i64 2 ∨ v = .int .i64 3 ∨ v = .int .i64 4 ∨ v = .int .i64 5) ∧ Away (Below W.heap.size W wr)) (fun v _ => 5 - (intOf v).toNat)
  case atStart => exact ⟨Or.inl rfl, ⟨Below.refl _ _⟩⟩
  case round =>
    obtain ⟨hv, HB⟩ := hrel
    have Gr : Away (wr.heap[w1.heap.size]? = some (.cells T 36 (0, 0))) := ⟨(HB.out.block _ hgl).trans Hg.out⟩
    have Pr : Away (Gp wr) := ⟨P1.out.later HB.out⟩
    rcases hv with rfl | rfl | rfl | rfl | rfl
    · have hra : 0 < rate 1 := by decide
      have hEo : St (abs (PP TL RL) (rate 1) ⟨Z, 0⟩ (bys b)).l ∧ (abs (PP TL RL) (rate 1) ⟨Z, 0⟩ (bys b)).at' < rate 1 := abs_ok (fun _ h => pp_st HK.out.br h) _ z_st hra
      obtain ⟨A, HA⟩ := ex_eq (out TL RL 1 b m)
      have C2 : Away (∀ w1 : World, Gp w1 → Calls Tryd.prog 8 #[.agg T, .agg (SC 1 Z 0 false), .string b] w1 fun e w' => e = .returned (.tuple #[.agg (SC 1 (abs (PP TL RL) (rate 1) ⟨Z, 0⟩ (bys b)).l ((abs (PP TL RL) (rate 1) ⟨Z, 0⟩ (bys b)).at' : Nat) false), .int .i64 0]) ∧ Below w1.heap.size w1 w') := ⟨fun w1 hp => spoj.absorb_go 1 0 Z b w1 z_st HK.out hp (by decide) (by omega)⟩
      obtain ⟨E, HE⟩ := ex_eq (abs (PP TL RL) (rate 1) ⟨Z, 0⟩ (bys b))
      have HA2 : Away (⟨(u8s (sq (PP TL RL) (rate 1) (pad (rate 1) (spgm.mark 1) ⟨E.l, E.at'⟩) (m))).toArray⟩ = A) := ⟨by rw [← HA.out, ← HE.out]; rfl⟩
      rw [HE.out] at C2 hEo
      have hok : rspb.ok 1 (E.at' : Int) false = true := by
        have h9 := hEo.2
        unfold rspb.ok
        rw [decide_eq_true hra, decide_eq_true (show (0 : Int) ≤ (E.at' : Int) by omega), decide_eq_true (show (E.at' : Int) < (rate 1 : Int) by omega)]
        rfl
      have C3 : Away (∀ w1 : World, Gp w1 → Calls Tryd.prog 10 #[.agg T, .agg (SC 1 E.l (E.at' : Int) false), .int .i64 (m : Int)] w1 fun e w' => e = .returned (.tuple #[.agg (SC 1 (sk (PP TL RL) (rate 1) (pad (rate 1) (spgm.mark 1) ⟨E.l, E.at'⟩) (m)).l ((sk (PP TL RL) (rate 1) (pad (rate 1) (spgm.mark 1) ⟨E.l, E.at'⟩) (m)).at' : Nat) true), .string A, .int .i64 0]) ∧ Below w1.heap.size w1 w') := ⟨fun w1 hp => by rw [← HA2.out]; exact spoj.squeeze_pad 1 E.at' (m) E.l w1 hEo.1 HK.out hp hok (by omega)⟩
      have hsk : (sk (PP TL RL) (rate 1) (pad (rate 1) (spgm.mark 1) ⟨E.l, E.at'⟩) (m)).l.length = 25 := (sk_ok (fun _ h => pp_st HK.out.br h) hra (pad_ok (s := ⟨E.l, E.at'⟩) hEo.1).1 (pad_ok (s := ⟨E.l, E.at'⟩) hEo.1).2 (m)).1.len
      obtain ⟨E2, HE2⟩ := ex_eq (sk (PP TL RL) (rate 1) (pad (rate 1) (spgm.mark 1) ⟨E.l, E.at'⟩) (m))
      rw [HE2.out] at C3 hsk
      have C1 : Away (∀ w1 : World, Calls Tryd.prog 16 #[.int .i64 1] w1 fun e w' => e = .returned (.tuple #[.agg (SC 1 Z 0 false), .int .i64 0]) ∧ Below w1.heap.size w1 w') := ⟨fun w1 => spoi.new_good 1 w1 hra⟩
      obtain ⟨S0, HS0⟩ := ex_eq (SC 1 Z 0 false)
      have i0 : Away ((Tryd.prog.info? 25).map (·.size) = some S0.size) := ⟨by rw [← HS0.out]; exact sc_info _ _ _ z_len⟩
      have o0 : Away (S0.all (·.oneCell') = true) := ⟨by rw [← HS0.out]; exact sc_one _ _ _ _⟩
      have z0 : Away (S0.size = 28) := ⟨by rw [← HS0.out]; exact sc_size _ _ _ z_len⟩
      obtain ⟨S1, HS1⟩ := ex_eq (SC 1 E.l (E.at' : Int) false)
      have i1 : Away ((Tryd.prog.info? 25).map (·.size) = some S1.size) := ⟨by rw [← HS1.out]; exact sc_info _ _ _ hEo.1.len⟩
      have o1 : Away (S1.all (·.oneCell') = true) := ⟨by rw [← HS1.out]; exact sc_one _ _ _ _⟩
      have z1 : Away (S1.size = 28) := ⟨by rw [← HS1.out]; exact sc_size _ _ _ hEo.1.len⟩
      obtain ⟨S2, HS2⟩ := ex_eq (SC 1 E2.l (E2.at' : Int) true)
      have i2 : Away ((Tryd.prog.info? 25).map (·.size) = some S2.size) := ⟨by rw [← HS2.out]; exact sc_info _ _ _ hsk⟩
      have o2 : Away (S2.all (·.oneCell') = true) := ⟨by rw [← HS2.out]; exact sc_one _ _ _ _⟩
      have z2 : Away (S2.size = 28) := ⟨by rw [← HS2.out]; exact sc_size _ _ _ hsk⟩
      rw [HS0.out] at C1 C2
      rw [HS1.out] at C2 C3
      rw [HS2.out] at C3
      have C4 : Away (∀ w1 : World, Calls Tryd.prog 14 #[.agg T, .int .i64 1, .string b] w1 fun e w' => e = .returned (.tuple #[.string ⟨#[]⟩, .int .i64 1]) ∧ Below w1.heap.size w1 w') := ⟨fun w1 => spok.sha3_none 1 b w1 HK.out (by decide)⟩
      have C5 : Away (∀ w1 : World, Gp w1 → Calls Tryd.prog 12 #[.agg T, .int .i64 1, .string b, .int .i64 (m : Int)] w1 fun e w' => e = .returned (.tuple #[.string A, .int .i64 0]) ∧ Below w1.heap.size w1 w') := ⟨fun w1 hp => by rw [← HA.out]; exact spok.shake_go 1 b m w1 HK.out hp hra (by decide) (by omega) (by omega)⟩
      clear hEo hok hsk HA HA2 HE HE2 HS0 HS1 HS2 hra
      go_wp2_with fail
      refine (C1.out _).mono ?_
      rintro e w2 ⟨rfl, hb2⟩
      obtain ⟨W3, hW3⟩ : ∃ x, w2.alloc (.cells S0 25) = x := ⟨_, rfl⟩
      have HW3 := Away.mk hW3
      have B3 : Away (Below wr.heap.size wr W3) := ⟨by rw [← hW3]; exact hb2.alloc hb2.size _⟩
      have G3 : Away (W3.heap[w1.heap.size]? = some (.cells T 36 (0, 0))) := ⟨(B3.out.block _ (lt_of_row Gr.out)).trans Gr.out⟩
      have R3 : Away (W3.heap[w2.heap.size]? = some (.cells S0 25 (0, 0))) := ⟨by rw [← hW3]; exact heap_at _ _ _ rfl⟩
      have P3 : Away (Gp W3) := ⟨Pr.out.later B3.out⟩
      have hRR7 : wr.heap.size ≤ w2.heap.size := hb2.size
      have hTT7 : w1.heap.size ≠ w2.heap.size := by have := lt_of_row Gr.out; omega
      clear hb2 hW3
      go_wp2_with (first
        | (refine wpList_store_new rfl 25 _ _ rfl S0 rfl rfl i0.out (by exact z0.out.symm) o0.out rfl ?_)
        | (rw [HW3.out])
        | (refine wpList_load_row rfl 36 _ rfl w1.heap.size rfl 36 T (0, 0) _ G3.out Tryd.underlying36 rfl HTz.out ?_)
        | (refine wpList_load_row rfl 25 _ rfl w2.heap.size rfl 25 S0 (0, 0) _ R3.out Tryd.underlying25 rfl i0.out ?_))
      refine (C2.out _ P3.out).mono ?_
      rintro e w4 ⟨rfl, hb4⟩
      obtain ⟨W5, hW5⟩ : ∃ x, w4.setRow w2.heap.size S1 = x := ⟨_, rfl⟩
      have HW5 := Away.mk hW5
      have R4 : Away (w4.heap[w2.heap.size]? = some (.cells S0 25 (0, 0))) := ⟨(hb4.block _ (lt_of_row R3.out)).trans R3.out⟩
      have B5 : Away (Below wr.heap.size wr W5) := ⟨by rw [← hW5]; exact (B3.out.trans (hb4.mono B3.out.size)).trans (below_setRow _ _ _ hRR7)⟩
      have G5 : Away (W5.heap[w1.heap.size]? = some (.cells T 36 (0, 0))) := ⟨(B5.out.block _ (lt_of_row Gr.out)).trans Gr.out⟩
      have R5 : Away (W5.heap[w2.heap.size]? = some (.cells S1 25 (0, 0))) := ⟨by rw [← hW5]; exact setRow_heap _ _ _ _ _ _ R4.out⟩
      have P5 : Away (Gp W5) := ⟨Pr.out.later B5.out⟩
      clear hb4 hW5 HW3
      go_wp2_with (first
        | (refine wpList_store_row rfl 25 _ _ rfl w2.heap.size S1 rfl rfl 25 _ R4.out i1.out (z0.out.trans z1.out.symm) o1.out ?_)
        | (rw [HW5.out])
        | (refine wpList_load_row rfl 36 _ rfl w1.heap.size rfl 36 T (0, 0) _ G5.out Tryd.underlying36 rfl HTz.out ?_)
        | (refine wpList_load_row rfl 25 _ rfl w2.heap.size rfl 25 S1 (0, 0) _ R5.out Tryd.underlying25 rfl i1.out ?_))
      refine (C3.out _ P5.out).mono ?_
      rintro e w6 ⟨rfl, hb6⟩
      obtain ⟨W7, hW7⟩ : ∃ x, w6.alloc (.cells S2 25) = x := ⟨_, rfl⟩
      have HW7 := Away.mk hW7
      have B7 : Away (Below wr.heap.size wr W7) := ⟨by rw [← hW7]; exact (B5.out.trans (hb6.mono B5.out.size)).alloc (Nat.le_trans B5.out.size hb6.size) _⟩
      have G7 : Away (W7.heap[w1.heap.size]? = some (.cells T 36 (0, 0))) := ⟨(B7.out.block _ (lt_of_row Gr.out)).trans Gr.out⟩
      have P7 : Away (Gp W7) := ⟨Pr.out.later B7.out⟩
      clear hb6 hW7 HW5
      go_wp2_with (first
        | (refine wpList_store_new rfl 25 _ _ rfl S2 rfl rfl i2.out (by exact z2.out.symm) o2.out rfl ?_)
        | (rw [HW7.out])
        | (refine wpList_load_row rfl 36 _ rfl w1.heap.size rfl 36 T (0, 0) _ G7.out Tryd.underlying36 rfl HTz.out ?_))
      refine (C4.out _).mono ?_
      rintro e w8 ⟨rfl, hb8⟩
      have B8 : Away (Below wr.heap.size wr w8) := ⟨B7.out.trans (hb8.mono B7.out.size)⟩
      have G8 : Away (w8.heap[w1.heap.size]? = some (.cells T 36 (0, 0))) := ⟨(B8.out.block _ (lt_of_row Gr.out)).trans Gr.out⟩
      have P8 : Away (Gp w8) := ⟨Pr.out.later B8.out⟩
      clear hb8 HW7
      go_wp2_with (refine wpList_load_row rfl 36 _ rfl w1.heap.size rfl 36 T (0, 0) _ G8.out Tryd.underlying36 rfl HTz.out ?_)
      refine (C5.out _ P8.out).mono ?_
      rintro e w9 ⟨rfl, hb9⟩
      have B9 : Away (Below wr.heap.size wr w9) := ⟨B8.out.trans (hb9.mono B8.out.size)⟩
      clear hb9
      go_wp2_with fail
      go_roundw
      case rel => exact ⟨by first | exact Or.inl rfl | exact Or.inr (Or.inl rfl) | exact Or.inr (Or.inr (Or.inl rfl)) | exact Or.inr (Or.inr (Or.inr (Or.inl rfl))) | exact Or.inr (Or.inr (Or.inr (Or.inr rfl))), ⟨HB.out.trans (B9.out.mono HB.out.size)⟩⟩
      case measure => simp [intOf]
    · have hra : 0 < rate 2 := by decide
      have hEo : St (abs (PP TL RL) (rate 2) ⟨Z, 0⟩ (bys b)).l ∧ (abs (PP TL RL) (rate 2) ⟨Z, 0⟩ (bys b)).at' < rate 2 := abs_ok (fun _ h => pp_st HK.out.br h) _ z_st hra
      obtain ⟨A, HA⟩ := ex_eq (out TL RL 2 b m)
      have C2 : Away (∀ w1 : World, Gp w1 → Calls Tryd.prog 8 #[.agg T, .agg (SC 2 Z 0 false), .string b] w1 fun e w' => e = .returned (.tuple #[.agg (SC 2 (abs (PP TL RL) (rate 2) ⟨Z, 0⟩ (bys b)).l ((abs (PP TL RL) (rate 2) ⟨Z, 0⟩ (bys b)).at' : Nat) false), .int .i64 0]) ∧ Below w1.heap.size w1 w') := ⟨fun w1 hp => spoj.absorb_go 2 0 Z b w1 z_st HK.out hp (by decide) (by omega)⟩
      obtain ⟨E, HE⟩ := ex_eq (abs (PP TL RL) (rate 2) ⟨Z, 0⟩ (bys b))
      have HA2 : Away (⟨(u8s (sq (PP TL RL) (rate 2) (pad (rate 2) (spgm.mark 2) ⟨E.l, E.at'⟩) (m))).toArray⟩ = A) := ⟨by rw [← HA.out, ← HE.out]; rfl⟩
      rw [HE.out] at C2 hEo
      have hok : rspb.ok 2 (E.at' : Int) false = true := by
        have h9 := hEo.2
        unfold rspb.ok
        rw [decide_eq_true hra, decide_eq_true (show (0 : Int) ≤ (E.at' : Int) by omega), decide_eq_true (show (E.at' : Int) < (rate 2 : Int) by omega)]
        rfl
      have C3 : Away (∀ w1 : World, Gp w1 → Calls Tryd.prog 10 #[.agg T, .agg (SC 2 E.l (E.at' : Int) false), .int .i64 (m : Int)] w1 fun e w' => e = .returned (.tuple #[.agg (SC 2 (sk (PP TL RL) (rate 2) (pad (rate 2) (spgm.mark 2) ⟨E.l, E.at'⟩) (m)).l ((sk (PP TL RL) (rate 2) (pad (rate 2) (spgm.mark 2) ⟨E.l, E.at'⟩) (m)).at' : Nat) true), .string A, .int .i64 0]) ∧ Below w1.heap.size w1 w') := ⟨fun w1 hp => by rw [← HA2.out]; exact spoj.squeeze_pad 2 E.at' (m) E.l w1 hEo.1 HK.out hp hok (by omega)⟩
      have hsk : (sk (PP TL RL) (rate 2) (pad (rate 2) (spgm.mark 2) ⟨E.l, E.at'⟩) (m)).l.length = 25 := (sk_ok (fun _ h => pp_st HK.out.br h) hra (pad_ok (s := ⟨E.l, E.at'⟩) hEo.1).1 (pad_ok (s := ⟨E.l, E.at'⟩) hEo.1).2 (m)).1.len
      obtain ⟨E2, HE2⟩ := ex_eq (sk (PP TL RL) (rate 2) (pad (rate 2) (spgm.mark 2) ⟨E.l, E.at'⟩) (m))
      rw [HE2.out] at C3 hsk
      have C1 : Away (∀ w1 : World, Calls Tryd.prog 16 #[.int .i64 2] w1 fun e w' => e = .returned (.tuple #[.agg (SC 2 Z 0 false), .int .i64 0]) ∧ Below w1.heap.size w1 w') := ⟨fun w1 => spoi.new_good 2 w1 hra⟩
      obtain ⟨S0, HS0⟩ := ex_eq (SC 2 Z 0 false)
      have i0 : Away ((Tryd.prog.info? 25).map (·.size) = some S0.size) := ⟨by rw [← HS0.out]; exact sc_info _ _ _ z_len⟩
      have o0 : Away (S0.all (·.oneCell') = true) := ⟨by rw [← HS0.out]; exact sc_one _ _ _ _⟩
      have z0 : Away (S0.size = 28) := ⟨by rw [← HS0.out]; exact sc_size _ _ _ z_len⟩
      obtain ⟨S1, HS1⟩ := ex_eq (SC 2 E.l (E.at' : Int) false)
      have i1 : Away ((Tryd.prog.info? 25).map (·.size) = some S1.size) := ⟨by rw [← HS1.out]; exact sc_info _ _ _ hEo.1.len⟩
      have o1 : Away (S1.all (·.oneCell') = true) := ⟨by rw [← HS1.out]; exact sc_one _ _ _ _⟩
      have z1 : Away (S1.size = 28) := ⟨by rw [← HS1.out]; exact sc_size _ _ _ hEo.1.len⟩
      obtain ⟨S2, HS2⟩ := ex_eq (SC 2 E2.l (E2.at' : Int) true)
      have i2 : Away ((Tryd.prog.info? 25).map (·.size) = some S2.size) := ⟨by rw [← HS2.out]; exact sc_info _ _ _ hsk⟩
      have o2 : Away (S2.all (·.oneCell') = true) := ⟨by rw [← HS2.out]; exact sc_one _ _ _ _⟩
      have z2 : Away (S2.size = 28) := ⟨by rw [← HS2.out]; exact sc_size _ _ _ hsk⟩
      rw [HS0.out] at C1 C2
      rw [HS1.out] at C2 C3
      rw [HS2.out] at C3
      have C4 : Away (∀ w1 : World, Calls Tryd.prog 14 #[.agg T, .int .i64 2, .string b] w1 fun e w' => e = .returned (.tuple #[.string ⟨#[]⟩, .int .i64 1]) ∧ Below w1.heap.size w1 w') := ⟨fun w1 => spok.sha3_none 2 b w1 HK.out (by decide)⟩
      have C5 : Away (∀ w1 : World, Gp w1 → Calls Tryd.prog 12 #[.agg T, .int .i64 2, .string b, .int .i64 (m : Int)] w1 fun e w' => e = .returned (.tuple #[.string A, .int .i64 0]) ∧ Below w1.heap.size w1 w') := ⟨fun w1 hp => by rw [← HA.out]; exact spok.shake_go 2 b m w1 HK.out hp hra (by decide) (by omega) (by omega)⟩
      clear hEo hok hsk HA HA2 HE HE2 HS0 HS1 HS2 hra
      go_wp2_with fail
      refine (C1.out _).mono ?_
      rintro e w2 ⟨rfl, hb2⟩
      obtain ⟨W3, hW3⟩ : ∃ x, w2.alloc (.cells S0 25) = x := ⟨_, rfl⟩
      have HW3 := Away.mk hW3
      have B3 : Away (Below wr.heap.size wr W3) := ⟨by rw [← hW3]; exact hb2.alloc hb2.size _⟩
      have G3 : Away (W3.heap[w1.heap.size]? = some (.cells T 36 (0, 0))) := ⟨(B3.out.block _ (lt_of_row Gr.out)).trans Gr.out⟩
      have R3 : Away (W3.heap[w2.heap.size]? = some (.cells S0 25 (0, 0))) := ⟨by rw [← hW3]; exact heap_at _ _ _ rfl⟩
      have P3 : Away (Gp W3) := ⟨Pr.out.later B3.out⟩
      have hRR7 : wr.heap.size ≤ w2.heap.size := hb2.size
      have hTT7 : w1.heap.size ≠ w2.heap.size := by have := lt_of_row Gr.out; omega
      clear hb2 hW3
      go_wp2_with (first
        | (refine wpList_store_new rfl 25 _ _ rfl S0 rfl rfl i0.out (by exact z0.out.symm) o0.out rfl ?_)
        | (rw [HW3.out])
        | (refine wpList_load_row rfl 36 _ rfl w1.heap.size rfl 36 T (0, 0) _ G3.out Tryd.underlying36 rfl HTz.out ?_)
        | (refine wpList_load_row rfl 25 _ rfl w2.heap.size rfl 25 S0 (0, 0) _ R3.out Tryd.underlying25 rfl i0.out ?_))
      refine (C2.out _ P3.out).mono ?_
      rintro e w4 ⟨rfl, hb4⟩
      obtain ⟨W5, hW5⟩ : ∃ x, w4.setRow w2.heap.size S1 = x := ⟨_, rfl⟩
      have HW5 := Away.mk hW5
      have R4 : Away (w4.heap[w2.heap.size]? = some (.cells S0 25 (0, 0))) := ⟨(hb4.block _ (lt_of_row R3.out)).trans R3.out⟩
      have B5 : Away (Below wr.heap.size wr W5) := ⟨by rw [← hW5]; exact (B3.out.trans (hb4.mono B3.out.size)).trans (below_setRow _ _ _ hRR7)⟩
      have G5 : Away (W5.heap[w1.heap.size]? = some (.cells T 36 (0, 0))) := ⟨(B5.out.block _ (lt_of_row Gr.out)).trans Gr.out⟩
      have R5 : Away (W5.heap[w2.heap.size]? = some (.cells S1 25 (0, 0))) := ⟨by rw [← hW5]; exact setRow_heap _ _ _ _ _ _ R4.out⟩
      have P5 : Away (Gp W5) := ⟨Pr.out.later B5.out⟩
      clear hb4 hW5 HW3
      go_wp2_with (first
        | (refine wpList_store_row rfl 25 _ _ rfl w2.heap.size S1 rfl rfl 25 _ R4.out i1.out (z0.out.trans z1.out.symm) o1.out ?_)
        | (rw [HW5.out])
        | (refine wpList_load_row rfl 36 _ rfl w1.heap.size rfl 36 T (0, 0) _ G5.out Tryd.underlying36 rfl HTz.out ?_)
        | (refine wpList_load_row rfl 25 _ rfl w2.heap.size rfl 25 S1 (0, 0) _ R5.out Tryd.underlying25 rfl i1.out ?_))
      refine (C3.out _ P5.out).mono ?_
      rintro e w6 ⟨rfl, hb6⟩
      obtain ⟨W7, hW7⟩ : ∃ x, w6.alloc (.cells S2 25) = x := ⟨_, rfl⟩
      have HW7 := Away.mk hW7
      have B7 : Away (Below wr.heap.size wr W7) := ⟨by rw [← hW7]; exact (B5.out.trans (hb6.mono B5.out.size)).alloc (Nat.le_trans B5.out.size hb6.size) _⟩
      have G7 : Away (W7.heap[w1.heap.size]? = some (.cells T 36 (0, 0))) := ⟨(B7.out.block _ (lt_of_row Gr.out)).trans Gr.out⟩
      have P7 : Away (Gp W7) := ⟨Pr.out.later B7.out⟩
      clear hb6 hW7 HW5
      go_wp2_with (first
        | (refine wpList_store_new rfl 25 _ _ rfl S2 rfl rfl i2.out (by exact z2.out.symm) o2.out rfl ?_)
        | (rw [HW7.out])
        | (refine wpList_load_row rfl 36 _ rfl w1.heap.size rfl 36 T (0, 0) _ G7.out Tryd.underlying36 rfl HTz.out ?_))
      refine (C4.out _).mono ?_
      rintro e w8 ⟨rfl, hb8⟩
      have B8 : Away (Below wr.heap.size wr w8) := ⟨B7.out.trans (hb8.mono B7.out.size)⟩
      have G8 : Away (w8.heap[w1.heap.size]? = some (.cells T 36 (0, 0))) := ⟨(B8.out.block _ (lt_of_row Gr.out)).trans Gr.out⟩
      have P8 : Away (Gp w8) := ⟨Pr.out.later B8.out⟩
      clear hb8 HW7
      go_wp2_with (refine wpList_load_row rfl 36 _ rfl w1.heap.size rfl 36 T (0, 0) _ G8.out Tryd.underlying36 rfl HTz.out ?_)
      refine (C5.out _ P8.out).mono ?_
      rintro e w9 ⟨rfl, hb9⟩
      have B9 : Away (Below wr.heap.size wr w9) := ⟨B8.out.trans (hb9.mono B8.out.size)⟩
      clear hb9
      go_wp2_with fail
      go_roundw
      case rel => exact ⟨by first | exact Or.inl rfl | exact Or.inr (Or.inl rfl) | exact Or.inr (Or.inr (Or.inl rfl)) | exact Or.inr (Or.inr (Or.inr (Or.inl rfl))) | exact Or.inr (Or.inr (Or.inr (Or.inr rfl))), ⟨HB.out.trans (B9.out.mono HB.out.size)⟩⟩
      case measure => simp [intOf]
    · have hra : 0 < rate 3 := by decide
      have hEo : St (abs (PP TL RL) (rate 3) ⟨Z, 0⟩ (bys b)).l ∧ (abs (PP TL RL) (rate 3) ⟨Z, 0⟩ (bys b)).at' < rate 3 := abs_ok (fun _ h => pp_st HK.out.br h) _ z_st hra
      obtain ⟨A, HA⟩ := ex_eq (out TL RL 3 b 32)
      have C2 : Away (∀ w1 : World, Gp w1 → Calls Tryd.prog 8 #[.agg T, .agg (SC 3 Z 0 false), .string b] w1 fun e w' => e = .returned (.tuple #[.agg (SC 3 (abs (PP TL RL) (rate 3) ⟨Z, 0⟩ (bys b)).l ((abs (PP TL RL) (rate 3) ⟨Z, 0⟩ (bys b)).at' : Nat) false), .int .i64 0]) ∧ Below w1.heap.size w1 w') := ⟨fun w1 hp => spoj.absorb_go 3 0 Z b w1 z_st HK.out hp (by decide) (by omega)⟩
      obtain ⟨E, HE⟩ := ex_eq (abs (PP TL RL) (rate 3) ⟨Z, 0⟩ (bys b))
      have HA2 : Away (⟨(u8s (sq (PP TL RL) (rate 3) (pad (rate 3) (spgm.mark 3) ⟨E.l, E.at'⟩) (32))).toArray⟩ = A) := ⟨by rw [← HA.out, ← HE.out]; rfl⟩
      rw [HE.out] at C2 hEo
      have hok : rspb.ok 3 (E.at' : Int) false = true := by
        have h9 := hEo.2
        unfold rspb.ok
        rw [decide_eq_true hra, decide_eq_true (show (0 : Int) ≤ (E.at' : Int) by omega), decide_eq_true (show (E.at' : Int) < (rate 3 : Int) by omega)]
        rfl
      have C3 : Away (∀ w1 : World, Gp w1 → Calls Tryd.prog 10 #[.agg T, .agg (SC 3 E.l (E.at' : Int) false), .int .i64 32] w1 fun e w' => e = .returned (.tuple #[.agg (SC 3 (sk (PP TL RL) (rate 3) (pad (rate 3) (spgm.mark 3) ⟨E.l, E.at'⟩) (32)).l ((sk (PP TL RL) (rate 3) (pad (rate 3) (spgm.mark 3) ⟨E.l, E.at'⟩) (32)).at' : Nat) true), .string A, .int .i64 0]) ∧ Below w1.heap.size w1 w') := ⟨fun w1 hp => by rw [← HA2.out]; exact spoj.squeeze_pad 3 E.at' (32) E.l w1 hEo.1 HK.out hp hok (by omega)⟩
      have hsk : (sk (PP TL RL) (rate 3) (pad (rate 3) (spgm.mark 3) ⟨E.l, E.at'⟩) (32)).l.length = 25 := (sk_ok (fun _ h => pp_st HK.out.br h) hra (pad_ok (s := ⟨E.l, E.at'⟩) hEo.1).1 (pad_ok (s := ⟨E.l, E.at'⟩) hEo.1).2 (32)).1.len
      obtain ⟨E2, HE2⟩ := ex_eq (sk (PP TL RL) (rate 3) (pad (rate 3) (spgm.mark 3) ⟨E.l, E.at'⟩) (32))
      rw [HE2.out] at C3 hsk
      have C1 : Away (∀ w1 : World, Calls Tryd.prog 16 #[.int .i64 3] w1 fun e w' => e = .returned (.tuple #[.agg (SC 3 Z 0 false), .int .i64 0]) ∧ Below w1.heap.size w1 w') := ⟨fun w1 => spoi.new_good 3 w1 hra⟩
      obtain ⟨S0, HS0⟩ := ex_eq (SC 3 Z 0 false)
      have i0 : Away ((Tryd.prog.info? 25).map (·.size) = some S0.size) := ⟨by rw [← HS0.out]; exact sc_info _ _ _ z_len⟩
      have o0 : Away (S0.all (·.oneCell') = true) := ⟨by rw [← HS0.out]; exact sc_one _ _ _ _⟩
      have z0 : Away (S0.size = 28) := ⟨by rw [← HS0.out]; exact sc_size _ _ _ z_len⟩
      obtain ⟨S1, HS1⟩ := ex_eq (SC 3 E.l (E.at' : Int) false)
      have i1 : Away ((Tryd.prog.info? 25).map (·.size) = some S1.size) := ⟨by rw [← HS1.out]; exact sc_info _ _ _ hEo.1.len⟩
      have o1 : Away (S1.all (·.oneCell') = true) := ⟨by rw [← HS1.out]; exact sc_one _ _ _ _⟩
      have z1 : Away (S1.size = 28) := ⟨by rw [← HS1.out]; exact sc_size _ _ _ hEo.1.len⟩
      obtain ⟨S2, HS2⟩ := ex_eq (SC 3 E2.l (E2.at' : Int) true)
      have i2 : Away ((Tryd.prog.info? 25).map (·.size) = some S2.size) := ⟨by rw [← HS2.out]; exact sc_info _ _ _ hsk⟩
      have o2 : Away (S2.all (·.oneCell') = true) := ⟨by rw [← HS2.out]; exact sc_one _ _ _ _⟩
      have z2 : Away (S2.size = 28) := ⟨by rw [← HS2.out]; exact sc_size _ _ _ hsk⟩
      rw [HS0.out] at C1 C2
      rw [HS1.out] at C2 C3
      rw [HS2.out] at C3
      have C4 : Away (∀ w1 : World, Gp w1 → Calls Tryd.prog 14 #[.agg T, .int .i64 3, .string b] w1 fun e w' => e = .returned (.tuple #[.string A, .int .i64 0]) ∧ Below w1.heap.size w1 w') := ⟨fun w1 hp => by rw [← HA.out]; exact spok.sha3_go 3 b w1 HK.out hp hra (by decide) (by decide) (by omega)⟩
      clear hEo hok hsk HA HA2 HE HE2 HS0 HS1 HS2 hra
      go_wp2_with fail
      refine (C1.out _).mono ?_
      rintro e w2 ⟨rfl, hb2⟩
      obtain ⟨W3, hW3⟩ : ∃ x, w2.alloc (.cells S0 25) = x := ⟨_, rfl⟩
      have HW3 := Away.mk hW3
      have B3 : Away (Below wr.heap.size wr W3) := ⟨by rw [← hW3]; exact hb2.alloc hb2.size _⟩
      have G3 : Away (W3.heap[w1.heap.size]? = some (.cells T 36 (0, 0))) := ⟨(B3.out.block _ (lt_of_row Gr.out)).trans Gr.out⟩
      have R3 : Away (W3.heap[w2.heap.size]? = some (.cells S0 25 (0, 0))) := ⟨by rw [← hW3]; exact heap_at _ _ _ rfl⟩
      have P3 : Away (Gp W3) := ⟨Pr.out.later B3.out⟩
      have hRR7 : wr.heap.size ≤ w2.heap.size := hb2.size
      have hTT7 : w1.heap.size ≠ w2.heap.size := by have := lt_of_row Gr.out; omega
      clear hb2 hW3
      go_wp2_with (first
        | (refine wpList_store_new rfl 25 _ _ rfl S0 rfl rfl i0.out (by exact z0.out.symm) o0.out rfl ?_)
        | (rw [HW3.out])
        | (refine wpList_load_row rfl 36 _ rfl w1.heap.size rfl 36 T (0, 0) _ G3.out Tryd.underlying36 rfl HTz.out ?_)
        | (refine wpList_load_row rfl 25 _ rfl w2.heap.size rfl 25 S0 (0, 0) _ R3.out Tryd.underlying25 rfl i0.out ?_))
      refine (C2.out _ P3.out).mono ?_
      rintro e w4 ⟨rfl, hb4⟩
      obtain ⟨W5, hW5⟩ : ∃ x, w4.setRow w2.heap.size S1 = x := ⟨_, rfl⟩
      have HW5 := Away.mk hW5
      have R4 : Away (w4.heap[w2.heap.size]? = some (.cells S0 25 (0, 0))) := ⟨(hb4.block _ (lt_of_row R3.out)).trans R3.out⟩
      have B5 : Away (Below wr.heap.size wr W5) := ⟨by rw [← hW5]; exact (B3.out.trans (hb4.mono B3.out.size)).trans (below_setRow _ _ _ hRR7)⟩
      have G5 : Away (W5.heap[w1.heap.size]? = some (.cells T 36 (0, 0))) := ⟨(B5.out.block _ (lt_of_row Gr.out)).trans Gr.out⟩
      have R5 : Away (W5.heap[w2.heap.size]? = some (.cells S1 25 (0, 0))) := ⟨by rw [← hW5]; exact setRow_heap _ _ _ _ _ _ R4.out⟩
      have P5 : Away (Gp W5) := ⟨Pr.out.later B5.out⟩
      clear hb4 hW5 HW3
      go_wp2_with (first
        | (refine wpList_store_row rfl 25 _ _ rfl w2.heap.size S1 rfl rfl 25 _ R4.out i1.out (z0.out.trans z1.out.symm) o1.out ?_)
        | (rw [HW5.out])
        | (refine wpList_load_row rfl 36 _ rfl w1.heap.size rfl 36 T (0, 0) _ G5.out Tryd.underlying36 rfl HTz.out ?_)
        | (refine wpList_load_row rfl 25 _ rfl w2.heap.size rfl 25 S1 (0, 0) _ R5.out Tryd.underlying25 rfl i1.out ?_))
      refine (C3.out _ P5.out).mono ?_
      rintro e w6 ⟨rfl, hb6⟩
      obtain ⟨W7, hW7⟩ : ∃ x, w6.alloc (.cells S2 25) = x := ⟨_, rfl⟩
      have HW7 := Away.mk hW7
      have B7 : Away (Below wr.heap.size wr W7) := ⟨by rw [← hW7]; exact (B5.out.trans (hb6.mono B5.out.size)).alloc (Nat.le_trans B5.out.size hb6.size) _⟩
      have G7 : Away (W7.heap[w1.heap.size]? = some (.cells T 36 (0, 0))) := ⟨(B7.out.block _ (lt_of_row Gr.out)).trans Gr.out⟩
      have P7 : Away (Gp W7) := ⟨Pr.out.later B7.out⟩
      clear hb6 hW7 HW5
      go_wp2_with (first
        | (refine wpList_store_new rfl 25 _ _ rfl S2 rfl rfl i2.out (by exact z2.out.symm) o2.out rfl ?_)
        | (rw [HW7.out])
        | (refine wpList_load_row rfl 36 _ rfl w1.heap.size rfl 36 T (0, 0) _ G7.out Tryd.underlying36 rfl HTz.out ?_))
      refine (C4.out _ P7.out).mono ?_
      rintro e w8 ⟨rfl, hb8⟩
      have B8 : Away (Below wr.heap.size wr w8) := ⟨B7.out.trans (hb8.mono B7.out.size)⟩
      have G8 : Away (w8.heap[w1.heap.size]? = some (.cells T 36 (0, 0))) := ⟨(B8.out.block _ (lt_of_row Gr.out)).trans Gr.out⟩
      have P8 : Away (Gp w8) := ⟨Pr.out.later B8.out⟩
      clear hb8 HW7
      go_wp2_with fail
      go_roundw
      case rel => exact ⟨by first | exact Or.inl rfl | exact Or.inr (Or.inl rfl) | exact Or.inr (Or.inr (Or.inl rfl)) | exact Or.inr (Or.inr (Or.inr (Or.inl rfl))) | exact Or.inr (Or.inr (Or.inr (Or.inr rfl))), ⟨HB.out.trans (B8.out.mono HB.out.size)⟩⟩
      case measure => simp [intOf]
    · have hra : 0 < rate 4 := by decide
      have hEo : St (abs (PP TL RL) (rate 4) ⟨Z, 0⟩ (bys b)).l ∧ (abs (PP TL RL) (rate 4) ⟨Z, 0⟩ (bys b)).at' < rate 4 := abs_ok (fun _ h => pp_st HK.out.br h) _ z_st hra
      obtain ⟨A, HA⟩ := ex_eq (out TL RL 4 b 64)
      have C2 : Away (∀ w1 : World, Gp w1 → Calls Tryd.prog 8 #[.agg T, .agg (SC 4 Z 0 false), .string b] w1 fun e w' => e = .returned (.tuple #[.agg (SC 4 (abs (PP TL RL) (rate 4) ⟨Z, 0⟩ (bys b)).l ((abs (PP TL RL) (rate 4) ⟨Z, 0⟩ (bys b)).at' : Nat) false), .int .i64 0]) ∧ Below w1.heap.size w1 w') := ⟨fun w1 hp => spoj.absorb_go 4 0 Z b w1 z_st HK.out hp (by decide) (by omega)⟩
      obtain ⟨E, HE⟩ := ex_eq (abs (PP TL RL) (rate 4) ⟨Z, 0⟩ (bys b))
      have HA2 : Away (⟨(u8s (sq (PP TL RL) (rate 4) (pad (rate 4) (spgm.mark 4) ⟨E.l, E.at'⟩) (64))).toArray⟩ = A) := ⟨by rw [← HA.out, ← HE.out]; rfl⟩
      rw [HE.out] at C2 hEo
      have hok : rspb.ok 4 (E.at' : Int) false = true := by
        have h9 := hEo.2
        unfold rspb.ok
        rw [decide_eq_true hra, decide_eq_true (show (0 : Int) ≤ (E.at' : Int) by omega), decide_eq_true (show (E.at' : Int) < (rate 4 : Int) by omega)]
        rfl
      have C3 : Away (∀ w1 : World, Gp w1 → Calls Tryd.prog 10 #[.agg T, .agg (SC 4 E.l (E.at' : Int) false), .int .i64 64] w1 fun e w' => e = .returned (.tuple #[.agg (SC 4 (sk (PP TL RL) (rate 4) (pad (rate 4) (spgm.mark 4) ⟨E.l, E.at'⟩) (64)).l ((sk (PP TL RL) (rate 4) (pad (rate 4) (spgm.mark 4) ⟨E.l, E.at'⟩) (64)).at' : Nat) true), .string A, .int .i64 0]) ∧ Below w1.heap.size w1 w') := ⟨fun w1 hp => by rw [← HA2.out]; exact spoj.squeeze_pad 4 E.at' (64) E.l w1 hEo.1 HK.out hp hok (by omega)⟩
      have hsk : (sk (PP TL RL) (rate 4) (pad (rate 4) (spgm.mark 4) ⟨E.l, E.at'⟩) (64)).l.length = 25 := (sk_ok (fun _ h => pp_st HK.out.br h) hra (pad_ok (s := ⟨E.l, E.at'⟩) hEo.1).1 (pad_ok (s := ⟨E.l, E.at'⟩) hEo.1).2 (64)).1.len
      obtain ⟨E2, HE2⟩ := ex_eq (sk (PP TL RL) (rate 4) (pad (rate 4) (spgm.mark 4) ⟨E.l, E.at'⟩) (64))
      rw [HE2.out] at C3 hsk
      have C1 : Away (∀ w1 : World, Calls Tryd.prog 16 #[.int .i64 4] w1 fun e w' => e = .returned (.tuple #[.agg (SC 4 Z 0 false), .int .i64 0]) ∧ Below w1.heap.size w1 w') := ⟨fun w1 => spoi.new_good 4 w1 hra⟩
      obtain ⟨S0, HS0⟩ := ex_eq (SC 4 Z 0 false)
      have i0 : Away ((Tryd.prog.info? 25).map (·.size) = some S0.size) := ⟨by rw [← HS0.out]; exact sc_info _ _ _ z_len⟩
      have o0 : Away (S0.all (·.oneCell') = true) := ⟨by rw [← HS0.out]; exact sc_one _ _ _ _⟩
      have z0 : Away (S0.size = 28) := ⟨by rw [← HS0.out]; exact sc_size _ _ _ z_len⟩
      obtain ⟨S1, HS1⟩ := ex_eq (SC 4 E.l (E.at' : Int) false)
      have i1 : Away ((Tryd.prog.info? 25).map (·.size) = some S1.size) := ⟨by rw [← HS1.out]; exact sc_info _ _ _ hEo.1.len⟩
      have o1 : Away (S1.all (·.oneCell') = true) := ⟨by rw [← HS1.out]; exact sc_one _ _ _ _⟩
      have z1 : Away (S1.size = 28) := ⟨by rw [← HS1.out]; exact sc_size _ _ _ hEo.1.len⟩
      obtain ⟨S2, HS2⟩ := ex_eq (SC 4 E2.l (E2.at' : Int) true)
      have i2 : Away ((Tryd.prog.info? 25).map (·.size) = some S2.size) := ⟨by rw [← HS2.out]; exact sc_info _ _ _ hsk⟩
      have o2 : Away (S2.all (·.oneCell') = true) := ⟨by rw [← HS2.out]; exact sc_one _ _ _ _⟩
      have z2 : Away (S2.size = 28) := ⟨by rw [← HS2.out]; exact sc_size _ _ _ hsk⟩
      rw [HS0.out] at C1 C2
      rw [HS1.out] at C2 C3
      rw [HS2.out] at C3
      have C4 : Away (∀ w1 : World, Gp w1 → Calls Tryd.prog 14 #[.agg T, .int .i64 4, .string b] w1 fun e w' => e = .returned (.tuple #[.string A, .int .i64 0]) ∧ Below w1.heap.size w1 w') := ⟨fun w1 hp => by rw [← HA.out]; exact spok.sha3_go 4 b w1 HK.out hp hra (by decide) (by decide) (by omega)⟩
      clear hEo hok hsk HA HA2 HE HE2 HS0 HS1 HS2 hra
      go_wp2_with fail
      refine (C1.out _).mono ?_
      rintro e w2 ⟨rfl, hb2⟩
      obtain ⟨W3, hW3⟩ : ∃ x, w2.alloc (.cells S0 25) = x := ⟨_, rfl⟩
      have HW3 := Away.mk hW3
      have B3 : Away (Below wr.heap.size wr W3) := ⟨by rw [← hW3]; exact hb2.alloc hb2.size _⟩
      have G3 : Away (W3.heap[w1.heap.size]? = some (.cells T 36 (0, 0))) := ⟨(B3.out.block _ (lt_of_row Gr.out)).trans Gr.out⟩
      have R3 : Away (W3.heap[w2.heap.size]? = some (.cells S0 25 (0, 0))) := ⟨by rw [← hW3]; exact heap_at _ _ _ rfl⟩
      have P3 : Away (Gp W3) := ⟨Pr.out.later B3.out⟩
      have hRR7 : wr.heap.size ≤ w2.heap.size := hb2.size
      have hTT7 : w1.heap.size ≠ w2.heap.size := by have := lt_of_row Gr.out; omega
      clear hb2 hW3
      go_wp2_with (first
        | (refine wpList_store_new rfl 25 _ _ rfl S0 rfl rfl i0.out (by exact z0.out.symm) o0.out rfl ?_)
        | (rw [HW3.out])
        | (refine wpList_load_row rfl 36 _ rfl w1.heap.size rfl 36 T (0, 0) _ G3.out Tryd.underlying36 rfl HTz.out ?_)
        | (refine wpList_load_row rfl 25 _ rfl w2.heap.size rfl 25 S0 (0, 0) _ R3.out Tryd.underlying25 rfl i0.out ?_))
      refine (C2.out _ P3.out).mono ?_
      rintro e w4 ⟨rfl, hb4⟩
      obtain ⟨W5, hW5⟩ : ∃ x, w4.setRow w2.heap.size S1 = x := ⟨_, rfl⟩
      have HW5 := Away.mk hW5
      have R4 : Away (w4.heap[w2.heap.size]? = some (.cells S0 25 (0, 0))) := ⟨(hb4.block _ (lt_of_row R3.out)).trans R3.out⟩
      have B5 : Away (Below wr.heap.size wr W5) := ⟨by rw [← hW5]; exact (B3.out.trans (hb4.mono B3.out.size)).trans (below_setRow _ _ _ hRR7)⟩
      have G5 : Away (W5.heap[w1.heap.size]? = some (.cells T 36 (0, 0))) := ⟨(B5.out.block _ (lt_of_row Gr.out)).trans Gr.out⟩
      have R5 : Away (W5.heap[w2.heap.size]? = some (.cells S1 25 (0, 0))) := ⟨by rw [← hW5]; exact setRow_heap _ _ _ _ _ _ R4.out⟩
      have P5 : Away (Gp W5) := ⟨Pr.out.later B5.out⟩
      clear hb4 hW5 HW3
      go_wp2_with (first
        | (refine wpList_store_row rfl 25 _ _ rfl w2.heap.size S1 rfl rfl 25 _ R4.out i1.out (z0.out.trans z1.out.symm) o1.out ?_)
        | (rw [HW5.out])
        | (refine wpList_load_row rfl 36 _ rfl w1.heap.size rfl 36 T (0, 0) _ G5.out Tryd.underlying36 rfl HTz.out ?_)
        | (refine wpList_load_row rfl 25 _ rfl w2.heap.size rfl 25 S1 (0, 0) _ R5.out Tryd.underlying25 rfl i1.out ?_))
      refine (C3.out _ P5.out).mono ?_
      rintro e w6 ⟨rfl, hb6⟩
      obtain ⟨W7, hW7⟩ : ∃ x, w6.alloc (.cells S2 25) = x := ⟨_, rfl⟩
      have HW7 := Away.mk hW7
      have B7 : Away (Below wr.heap.size wr W7) := ⟨by rw [← hW7]; exact (B5.out.trans (hb6.mono B5.out.size)).alloc (Nat.le_trans B5.out.size hb6.size) _⟩
      have G7 : Away (W7.heap[w1.heap.size]? = some (.cells T 36 (0, 0))) := ⟨(B7.out.block _ (lt_of_row Gr.out)).trans Gr.out⟩
      have P7 : Away (Gp W7) := ⟨Pr.out.later B7.out⟩
      clear hb6 hW7 HW5
      go_wp2_with (first
        | (refine wpList_store_new rfl 25 _ _ rfl S2 rfl rfl i2.out (by exact z2.out.symm) o2.out rfl ?_)
        | (rw [HW7.out])
        | (refine wpList_load_row rfl 36 _ rfl w1.heap.size rfl 36 T (0, 0) _ G7.out Tryd.underlying36 rfl HTz.out ?_))
      refine (C4.out _ P7.out).mono ?_
      rintro e w8 ⟨rfl, hb8⟩
      have B8 : Away (Below wr.heap.size wr w8) := ⟨B7.out.trans (hb8.mono B7.out.size)⟩
      have G8 : Away (w8.heap[w1.heap.size]? = some (.cells T 36 (0, 0))) := ⟨(B8.out.block _ (lt_of_row Gr.out)).trans Gr.out⟩
      have P8 : Away (Gp w8) := ⟨Pr.out.later B8.out⟩
      clear hb8 HW7
      go_wp2_with fail
      go_roundw
      case rel => exact ⟨by first | exact Or.inl rfl | exact Or.inr (Or.inl rfl) | exact Or.inr (Or.inr (Or.inl rfl)) | exact Or.inr (Or.inr (Or.inr (Or.inl rfl))) | exact Or.inr (Or.inr (Or.inr (Or.inr rfl))), ⟨HB.out.trans (B8.out.mono HB.out.size)⟩⟩
      case measure => simp [intOf]
    · go_wp2_with fail
      refine (awake6.awake_any _ Pr.out).mono ?_
      rintro e w3 ⟨rfl, hb⟩
      have HE : Away (Below w.heap.size w w3) := ⟨Hb.out.trans ((HB.out.trans (hb.mono HB.out.size)).mono Hb.out.size)⟩
      clear hb
      go_wp2_with fail
      go_ret
      exact ⟨rfl, HE.out⟩
theorem walk (b : ByteArray) (n : Int) (w : World) (wb : b.size ≤ maxLen) (wn : (Lit.int .i64 n).wf = true) (hP : Gp w) :
    Calls Tryd.prog 5 #[.string b, .int .i64 n] w fun e w' => e = .returned (.bool true) ∧ Below w.heap.size w w' := by
  by_cases h : 2000 < b.size
  · exact far b n w h hP
  · exact near b n w (by omega) hP

end Go.Proofs.YtpibnfpgokjnpaaDoor.lone
