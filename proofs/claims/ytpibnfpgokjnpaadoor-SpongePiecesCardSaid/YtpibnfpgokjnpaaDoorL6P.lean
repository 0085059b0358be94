/-
  The statement SpongePieces (P6.7, P6.8): the pieces in which input is absorbed and output is squeezed make no difference; the sponge remains valid. Conditions: none, but what the row lists of keccak's variable 'places', which the card ties to the program's text; for every input that the form speaks of.
-/
import Derived.Test.YtpibnfpgokjnpaaDoorRows
import Derived.Test.YtpibnfpgokjnpaaDoorCards
import Derived.Test.YtpibnfpgokjnpaaDoorTie
import Derived.Test.YtpibnfpgokjnpaaDoorLd
import Derived.Test.YtpibnfpgokjnpaaDoorAwake6
import Derived.Test.YtpibnfpgokjnpaaDoorSp4
import Derived.ProofKit
import Derived.OpenShut
import Derived.Carry
import Derived.SevenTiedAt
namespace Go.Proofs.YtpibnfpgokjnpaaDoor.lpieces6
open Go Go.ChangeShapes Go.WideShapes Go.ChangeAt Go.RowKit
open Go.Proofs.YtpibnfpgokjnpaaDoor.arr Go.Proofs.YtpibnfpgokjnpaaDoor.mem Go.Proofs.YtpibnfpgokjnpaaDoor.tabv Go.Proofs.YtpibnfpgokjnpaaDoor.built Go.Proofs.YtpibnfpgokjnpaaDoor.kecm Go.Proofs.YtpibnfpgokjnpaaDoor.kecb Go.Proofs.YtpibnfpgokjnpaaDoor.keca Go.Proofs.YtpibnfpgokjnpaaDoor.kturn Go.Proofs.YtpibnfpgokjnpaaDoor.kstep Go.Proofs.YtpibnfpgokjnpaaDoor.kfun Go.Proofs.YtpibnfpgokjnpaaDoor.spgm Go.Proofs.YtpibnfpgokjnpaaDoor.spmx Go.Proofs.YtpibnfpgokjnpaaDoor.rspa Go.Proofs.YtpibnfpgokjnpaaDoor.rspc Go.Proofs.YtpibnfpgokjnpaaDoor.rspd Go.Proofs.YtpibnfpgokjnpaaDoor.spoa Go.Proofs.YtpibnfpgokjnpaaDoor.spof Go.Proofs.YtpibnfpgokjnpaaDoor.spok Go.Proofs.YtpibnfpgokjnpaaDoor.spol Go.Proofs.YtpibnfpgokjnpaaDoor.laids
set_option linter.unusedVariables false
theorem own : ownKnob Tryd.prog.godebug = none := by kernel_rfl
theorem laidOut : laidOutB Tryd.prog = true := by kernel_rfl

theorem wrap_u64_nat (b : Int) : ∃ B : Nat, IntKind.u64.wrap b = (B : Int) ∧ B < 18446744073709551616 := by
  refine ⟨(IntKind.u64.wrap b).toNat, ?_, ?_⟩ <;> (rw [IntKind.wrap_u64]; omega)
set_option maxRecDepth 100000 in
set_option maxHeartbeats 8000000 in
theorem far (ao bo : Option Addr) (n cap n2 cap2 : Nat) (kd : Int) (w : World) (h : 20 < n ∨ n ≤ 20 ∧ 20 < n2) (hP : Gp w) :
    Calls Tryd.prog 4 #[.slice ao n cap, .slice bo n2 cap2, .int .i64 kd] w fun e w' => e = .returned (.bool true) ∧ Below w.heap.size w w' := by
  have HP := Away.mk hP
  rcases h with h | ⟨h, h2⟩
  · go_enter Tryd.func4, Tryd.ntmps4
    go_wp2_with fail
    refine (awake6.awake_any _ HP.out).mono ?_
    rintro e w3 ⟨rfl, hb⟩
    go_wp2_with fail
    go_ret
    exact ⟨rfl, hb⟩
  · have h3 : ¬ (20 : Int) < (n : Int) := by omega
    go_enter Tryd.func4, Tryd.ntmps4
    go_wp2_with fail
    refine (awake6.awake_any _ HP.out).mono ?_
    rintro e w3 ⟨rfl, hb⟩
    go_wp2_with fail
    go_ret
    exact ⟨rfl, hb⟩
set_option maxRecDepth 100000 in
set_option maxHeartbeats 8000000 in
theorem near (ao bo : Option Addr) (n cap n2 cap2 : Nat) (kd : Int) (S : Nat → ByteArray) (R : Nat → Int) (w : World) (hn : n ≤ 20) (hn2 : n2 ≤ 20) (hcell : ∀ i, i < n → ∃ a, ao = some a ∧ a.block < w.heap.size ∧ w.cell? (a.add i) = some (.string (S i)))
    (hcell2 : ∀ i, i < n2 → ∃ a, bo = some a ∧ a.block < w.heap.size ∧ w.cell? (a.add i) = some (.int .i64 (R i))) (hP : Gp w) :
    Calls Tryd.prog 4 #[.slice ao n cap, .slice bo n2 cap2, .int .i64 kd] w fun e w' => e = .returned (.bool true) ∧ Below w.heap.size w w' := by
  have HP := Away.mk hP
  obtain ⟨N, hN, hNl⟩ := wrap_u64_nat kd
  obtain ⟨m, hm⟩ : ∃ m, N % 4 = m := ⟨_, rfl⟩
  have hm4 : m < 4 := by omega
  have fm : (N : Int).tmod 4 = (m : Int) := by rw [Int.tmod_eq_emod_of_nonneg (by omega)]; omega
  have fm2 : (N : Int) % 4 = (m : Int) := by omega
  have fmw : IntKind.i64.wrap (m : Int) = (m : Int) := by rw [IntKind.wrap_i64]; omega
  obtain ⟨k, hk⟩ : ∃ k : Int, 1 + (m : Int) = k := ⟨_, rfl⟩
  have fkw : IntKind.i64.wrap (1 + (m : Int)) = k := by rw [IntKind.wrap_i64]; omega
  have hra : 0 < rate k := by
    have h9 : k = 1 ∨ k = 2 ∨ k = 3 ∨ k = 4 := by omega
    rcases h9 with h9 | h9 | h9 | h9 <;> (rw [h9]; decide)
  have hr168 := rate_le k
  clear hP hm
  obtain ⟨hz, hsize⟩ := zero_of_info infoT
  obtain ⟨Zt, HZ⟩ := ex_eq TZ
  rw [HZ.out] at hz
  have HZs : Away (Zt.size = 465) := ⟨by rw [← HZ.out]; exact tz_size⟩
  have Hsize := Away.mk hsize
  clear hsize
  have hkt := kecd.kt_doc
  obtain ⟨T, HT⟩ := ex_eq TA
  rw [HT.out] at hkt
  have HTs : Away (T.size = 465) := ⟨by rw [← HT.out]; exact ta_size⟩
  have HTo : Away (T.all (·.oneCell') = true) := ⟨by rw [← HT.out]; exact ta_one⟩
  have HK := Away.mk hkt
  clear hkt
  have Hmk : Away (∀ w1 : World, Calls Tryd.prog 20 #[] w1 fun e w' => e = .returned (.agg T) ∧ Below w1.heap.size w1 w') := ⟨fun w1 => by rw [← HT.out]; exact make.make_any w1⟩
  have HTz : Away ((Tryd.prog.info? 36).map (·.size) = some T.size) := ⟨by rw [HTs.out]; exact Hsize.out⟩
  clear HT HZ
  obtain ⟨F, HF⟩ : ∃ F : Sp → Bool → Array Value, Away (∀ s o, SC k s.l (s.at' : Int) o = F s o) := ⟨fun s o => SC k s.l (s.at' : Int) o, ⟨fun _ _ => rfl⟩⟩
  obtain ⟨r, hr⟩ : ∃ r, rate k = r := ⟨_, rfl⟩
  obtain ⟨mk0, hmk0⟩ : ∃ x, spgm.mark k = x := ⟨_, rfl⟩
  have Fi : Away (∀ s o, St s.l → (Tryd.prog.info? 25).map (·.size) = some (F s o).size) := ⟨fun s o h => by rw [← HF.out]; exact sc_info _ _ _ h.len⟩
  have Fo : Away (∀ s o, (F s o).all (·.oneCell') = true) := ⟨fun s o => by rw [← HF.out]; exact sc_one _ _ _ _⟩
  have Fz : Away (∀ s o, St s.l → (F s o).size = 28) := ⟨fun s o h => by rw [← HF.out]; exact sc_size _ _ _ h.len⟩
  have Fk : Away (∀ s o, (F s o)[0]? = some (.int .i64 k)) := ⟨fun s o => by rw [← HF.out]; exact sc_kind _ _ _ _⟩
  have Fe : Away (∀ s o, St s.l → ∀ w1, (binOp .neq 25 (.agg (F s o)) (.agg (F s o))).run Tryd.prog w1 = .ok (.bool false) w1) := ⟨fun s o h w1 => by rw [← HF.out]; exact neq_sp _ _ _ h.len w1⟩
  have C1 : Away (∀ w1 : World, Calls Tryd.prog 16 #[.int .i64 k] w1 fun e w' => e = .returned (.tuple #[.agg (F ⟨Z, 0⟩ false), .int .i64 0]) ∧ Below w1.heap.size w1 w') := ⟨fun w1 => by rw [← HF.out]; exact spoi.new_good k w1 hra⟩
  have C2 : Away (∀ (s : Sp) (b : ByteArray) (w1 : World), Gp w1 → St s.l → s.at' < r → b.size ≤ 1125899906842624 → Calls Tryd.prog 8 #[.agg T, .agg (F s false), .string b] w1 fun e w' => e = .returned (.tuple #[.agg (F (abs (PP TL RL) r s (bys b)) false), .int .i64 0]) ∧ Below w1.heap.size w1 w') := ⟨fun s b w1 hp h1 h2 h3 => by
    rw [← HF.out, ← HF.out, ← hr]; rw [← hr] at h2; exact spoj.absorb_go k s.at' s.l b w1 h1 HK.out hp (ok_in k s.at' h2) h3⟩
  have C3 : Away (∀ (s : Sp) (w1 : World), St s.l → s.at' < r → Calls Tryd.prog 18 #[.agg (F s false)] w1 fun e w' => e = .returned (.bool true) ∧ Below w1.heap.size w1 w') := ⟨fun s w1 h1 h2 => by
    rw [← HF.out]; rw [← hr] at h2; have h9 := spoi.right_any k (s.at' : Int) false s.l w1 h1.len; rw [ok_in k s.at' h2] at h9; exact h9⟩
  have C4 : Away (∀ (s : Sp) (w1 : World), St s.l → s.at' ≤ r → Calls Tryd.prog 18 #[.agg (F s true)] w1 fun e w' => e = .returned (.bool true) ∧ Below w1.heap.size w1 w') := ⟨fun s w1 h1 h2 => by
    rw [← HF.out]; rw [← hr] at h2; have h9 := spoi.right_any k (s.at' : Int) true s.l w1 h1.len; rw [ok_to k s.at' hra h2] at h9; exact h9⟩
  have C5 : Away (∀ (s : Sp) (q : Nat) (w1 : World), Gp w1 → St s.l → s.at' < r → q ≤ 50000 → Calls Tryd.prog 10 #[.agg T, .agg (F s false), .int .i64 (q : Int)] w1 fun e w' => e = .returned (.tuple #[.agg (F (sk (PP TL RL) r (pad r mk0 s) q) true), .string ⟨(u8s (sq (PP TL RL) r (pad r mk0 s) q)).toArray⟩, .int .i64 0]) ∧ Below w1.heap.size w1 w') := ⟨fun s q w1 hp h1 h2 h3 => by
    rw [← HF.out, ← HF.out, ← hr, ← hmk0]; rw [← hr] at h2; exact spoj.squeeze_pad k s.at' q s.l w1 h1 HK.out hp (ok_in k s.at' h2) h3⟩
  have C6 : Away (∀ (s : Sp) (q : Nat) (w1 : World), Gp w1 → St s.l → s.at' ≤ r → q ≤ 50000 → Calls Tryd.prog 10 #[.agg T, .agg (F s true), .int .i64 (q : Int)] w1 fun e w' => e = .returned (.tuple #[.agg (F (sk (PP TL RL) r s q) true), .string ⟨(u8s (sq (PP TL RL) r s q)).toArray⟩, .int .i64 0]) ∧ Below w1.heap.size w1 w') := ⟨fun s q w1 hp h1 h2 h3 => by
    rw [← HF.out, ← HF.out, ← hr]; rw [← hr] at h2; exact spoj.squeeze_go k s.at' q s.l w1 h1 HK.out hp (ok_to k s.at' hra h2) h3⟩
  have hr0 : 0 < r := by rw [← hr]; exact hra
  have hPst : Away (∀ l, St l → St (PP TL RL l)) := ⟨fun _ h => pp_st HK.out.br h⟩
  have Hcell := Away.mk hcell
  have Hcell2 := Away.mk hcell2
  clear hcell hcell2 hra hr168 hr hmk0 HF HK
  go_enter Tryd.func4, Tryd.ntmps4
  go_wp2_with fail
  refine (Hmk.out _).mono ?_
  rintro e w1 ⟨rfl, hb1⟩
  obtain ⟨W, hW⟩ : ∃ W, w1.alloc (.cells T 36) = W := ⟨_, rfl⟩
  have HW := Away.mk hW
  have Hg : Away (W.heap[w1.heap.size]? = some (.cells T 36 (0, 0))) := ⟨by rw [← hW, heap_at _ _ _ rfl]⟩
  have Hb : Away (Below w.heap.size w W) := ⟨by rw [← hW]; exact hb1.alloc hb1.size _⟩
  have hwT : w.heap.size ≤ w1.heap.size := hb1.size
  clear hW hb1
  go_wp2_with (first
    | (refine wpList_store_new rfl 36 _ _ rfl _ rfl rfl (by rw [HTs.out]; exact Hsize.out) (by rw [HTs.out]; exact HZs.out) HTo.out rfl ?_)
    | (rw [HW.out]))
  clear hz HW
  refine (C1.out _).mono ?_
  rintro e w2 ⟨rfl, hb2⟩
  obtain ⟨V, hV⟩ : ∃ x, w2.alloc (.cells (F ⟨Z, 0⟩ false) 25) = x := ⟨_, rfl⟩
  have HV := Away.mk hV
  have BV : Away (Below w.heap.size w V) := ⟨by rw [← hV]; exact (Hb.out.trans (hb2.mono Hb.out.size)).alloc (Nat.le_trans Hb.out.size hb2.size) _⟩
  have hT8 : w1.heap.size < w2.heap.size := Nat.lt_of_lt_of_le (lt_of_row Hg.out) hb2.size
  have GV : Away (V.heap[w1.heap.size]? = some (.cells T 36 (0, 0))) := ⟨by rw [← hV, heap_past _ _ _ (by omega)]; exact (hb2.block _ (lt_of_row Hg.out)).trans Hg.out⟩
  have RV : Away (V.heap[w2.heap.size]? = some (.cells (F ⟨Z, 0⟩ false) 25 (0, 0))) := ⟨by rw [← hV]; exact heap_at _ _ _ rfl⟩
  have PV : Away (Gp V) := ⟨HP.out.later BV.out⟩
  have hgp8 : w2.heap.size ≠ 0 := by have := gp_lt HP.out; omega
  have hV8 := lt_of_row RV.out
  clear hb2 hV
  go_wp2_with (first
    | (refine wpList_store_new rfl 25 _ _ rfl (F ⟨Z, 0⟩ false) rfl rfl (Fi.out _ _ z_st) (by exact (Fz.out _ _ z_st).symm) (Fo.out _ _) rfl ?_)
    | (rw [HV.out]))
  clear HV fm fm2 fmw hN hk fkw
  go_loopw [10, 42] (fun al i wr => ∃ (c : Nat) (A : ByteArray), c ≤ n ∧ i = .int .i64 (c : Int) ∧ al = .string A ∧ A.size ≤ 400 * c ∧ Away (At w2.heap.size (F (abs (PP TL RL) r ⟨Z, 0⟩ (bys A)) false) 25 V wr)) (fun _ i _ => n - (intOf i).toNat)
  case atStart => exact ⟨0, ⟨#[]⟩, Nat.zero_le _, rfl, rfl, by decide, ⟨At.refl RV.out⟩⟩
  case round =>
    obtain ⟨c, A, hc, rfl, rfl, hA, Hx⟩ := hrel
    have hEo : Away (St (abs (PP TL RL) r ⟨Z, 0⟩ (bys A)).l ∧ (abs (PP TL RL) r ⟨Z, 0⟩ (bys A)).at' < r) := ⟨abs_ok hPst.out _ z_st hr0⟩
    have Bx : Away (Below w.heap.size w wr) := ⟨BV.out.trans (Hx.out.below (by omega) (by omega))⟩
    have Gx : Away (wr.heap[w1.heap.size]? = some (.cells T 36 (0, 0))) := ⟨Hx.out.other (by omega) (by omega) GV.out⟩
    have Px : Away (Gp wr) := ⟨Gp.at PV.out Hx.out hgp8⟩
    have Rx : Away (wr.heap[w2.heap.size]? = some (.cells (F (abs (PP TL RL) r ⟨Z, 0⟩ (bys A)) false) 25 (0, 0))) := ⟨Hx.out.row⟩
    by_cases hlt : c < n
    · obtain ⟨a, rfl, hb, hcl⟩ := Hcell.out c hlt
      have hp : wr.cell? (a.add c) = some (.string (S c)) := by
        rw [Bx.out.cell (p := a.add c) (by simp only [Addr.add]; split <;> exact hb)]
        exact hcl
      clear hcl
      obtain ⟨q, hq⟩ : ∃ q, S c = q := ⟨_, rfl⟩
      rw [hq] at hp
      have lk : (c : Int) < (n : Int) := by omega
      by_cases hlen : 400 < q.size
      · go_wp2_with fail
        refine (awake6.awake_any _ Px.out).mono ?_
        rintro e w4 ⟨rfl, hb⟩
        have Hb4 : Away (Below w.heap.size w w4) := ⟨Bx.out.trans (hb.mono Bx.out.size)⟩
        clear hb
        go_wp2_with fail
        go_ret
        exact ⟨rfl, Hb4.out⟩
      · have hsum : A.size + q.size ≤ 9223372036854775807 := by omega
        have Hn : Away (abs (PP TL RL) r (abs (PP TL RL) r ⟨Z, 0⟩ (bys A)) (bys q) = abs (PP TL RL) r ⟨Z, 0⟩ (bys (A ++ q))) := ⟨by rw [← abs_append, ← bys_app]⟩
        obtain ⟨E, HE⟩ := ex_eq (abs (PP TL RL) r ⟨Z, 0⟩ (bys A))
        rw [HE.out] at hEo Rx Hn Hx
        obtain ⟨S0, HS0⟩ := ex_eq (F E false)
        have i0 := Away.mk (Fi.out E false hEo.out.1)
        have z0 := Away.mk (Fz.out E false hEo.out.1)
        have D2 := Away.mk (C2.out E q wr Px.out hEo.out.1 hEo.out.2 (by omega))
        rw [Hn.out] at D2
        have hE2 : St (abs (PP TL RL) r ⟨Z, 0⟩ (bys (A ++ q))).l ∧ (abs (PP TL RL) r ⟨Z, 0⟩ (bys (A ++ q))).at' < r := abs_ok hPst.out _ z_st hr0
        obtain ⟨E2, HE2⟩ := ex_eq (abs (PP TL RL) r ⟨Z, 0⟩ (bys (A ++ q)))
        rw [HE2.out] at D2 hE2
        obtain ⟨S1, HS1⟩ := ex_eq (F E2 false)
        have i1 := Away.mk (Fi.out E2 false hE2.1)
        have o1 := Away.mk (Fo.out E2 false)
        have z1 := Away.mk (Fz.out E2 false hE2.1)
        have D3 : Away (∀ w1 : World, Calls Tryd.prog 18 #[.agg (F E2 false)] w1 fun e w' => e = .returned (.bool true) ∧ Below w1.heap.size w1 w') := ⟨fun w1 => C3.out E2 w1 hE2.1 hE2.2⟩
        rw [HS0.out] at Rx i0 z0 D2 Hx
        rw [HS1.out] at i1 o1 z1 D2 D3
        have hal : (A ++ q).size ≤ 400 * (c + 1) := by rw [ByteArray.size_append]; omega
        clear hE2 HE
        go_wp2_with (first
          | (refine wpList_load_row rfl 36 _ rfl w1.heap.size rfl 36 T (0, 0) _ Gx.out Tryd.underlying36 rfl HTz.out ?_)
          | (refine wpList_load_row rfl 25 _ rfl w2.heap.size rfl 25 S0 (0, 0) _ Rx.out Tryd.underlying25 rfl i0.out ?_))
        refine D2.out.mono ?_
        rintro e w4 ⟨rfl, hb4⟩
        have A4 : Away (At w2.heap.size S0 25 V w4) := ⟨Hx.out.later hb4⟩
        have R4 : Away (w4.heap[w2.heap.size]? = some (.cells S0 25 (0, 0))) := ⟨A4.out.row⟩
        obtain ⟨W5, hW5⟩ : ∃ x, w4.setRow w2.heap.size S1 = x := ⟨_, rfl⟩
        have HW5 := Away.mk hW5
        have A5 : Away (At w2.heap.size S1 25 V W5) := ⟨by rw [← hW5]; exact at_row6 A4.out⟩
        have R5 : Away (W5.heap[w2.heap.size]? = some (.cells S1 25 (0, 0))) := ⟨A5.out.row⟩
        clear hb4 hW5 D2 hp
        go_wp2_with (first
          | (refine wpList_store_row rfl 25 _ _ rfl w2.heap.size S1 rfl rfl 25 _ R4.out i1.out (z0.out.trans z1.out.symm) o1.out ?_)
          | (rw [HW5.out])
          | (refine wpList_load_want rfl 25 _ rfl w2.heap.size rfl 25 S1 _ R5.out Tryd.underlying25 rfl i1.out ?_))
        refine (D3.out _).mono ?_
        rintro e w6 ⟨rfl, hb6⟩
        have A6 : Away (At w2.heap.size (F (abs (PP TL RL) r ⟨Z, 0⟩ (bys (A ++ q))) false) 25 V w6) := ⟨by rw [HE2.out, HS1.out]; exact A5.out.later hb6⟩
        clear hb6 HW5
        go_wp2_with fail
        go_roundw
        case rel => exact ⟨c + 1, A ++ q, by omega, by go_num, rfl, hal, A6⟩
        case measure => simp [intOf]; omega
    · obtain rfl : c = n := by omega
      clear Hcell hc hlt
      obtain ⟨E, HE⟩ := ex_eq (abs (PP TL RL) r ⟨Z, 0⟩ (bys A))
      rw [HE.out] at hEo Rx Hx
      obtain ⟨S1, HS1⟩ := ex_eq (F E false)
      have i1 := Away.mk (Fi.out E false hEo.out.1)
      have o1 := Away.mk (Fo.out E false)
      have z1 := Away.mk (Fz.out E false hEo.out.1)
      have k1 := Fk.out E false
      have e1 := Fe.out E false hEo.out.1
      rw [HS1.out] at Rx i1 o1 z1 Hx k1 e1
      have ck : wr.cell? ⟨w2.heap.size, 0, none⟩ = some (.int .i64 k) := cell_at Rx.out k1
      have E1 := Away.mk e1
      obtain ⟨S0, HS0⟩ := ex_eq (F ⟨Z, 0⟩ false)
      have i0 := Away.mk (Fi.out ⟨Z, 0⟩ false z_st)
      have o0 := Away.mk (Fo.out ⟨Z, 0⟩ false)
      have z0 := Away.mk (Fz.out ⟨Z, 0⟩ false z_st)
      have D2 := Away.mk (fun (w9 : World) (hp : Gp w9) => C2.out ⟨Z, 0⟩ A w9 hp z_st hr0 (by omega))
      have D1 := C1
      rw [HE.out, HS1.out] at D2
      rw [HS0.out] at i0 o0 z0 D2 D1
      clear k1 e1 HE
      go_wp2_with fail
      refine (D1.out _).mono ?_
      rintro e w5 ⟨rfl, hb5⟩
      obtain ⟨W6, hW6⟩ : ∃ x, w5.alloc (.cells S0 25) = x := ⟨_, rfl⟩
      have HW6 := Away.mk hW6
      have A6 : Away (At w2.heap.size S1 25 V W6) := ⟨by rw [← hW6]; exact (Hx.out.later hb5).later (below_alloc _ _)⟩
      have G6 : Away (W6.heap[w1.heap.size]? = some (.cells T 36 (0, 0))) := ⟨A6.out.other (by omega) (by omega) GV.out⟩
      have R6 : Away (W6.heap[w5.heap.size]? = some (.cells S0 25 (0, 0))) := ⟨by rw [← hW6]; exact heap_at _ _ _ rfl⟩
      have P6 : Away (Gp W6) := ⟨Gp.at PV.out A6.out hgp8⟩
      have hV5 : V.heap.size ≤ w5.heap.size := (Hx.out.later hb5).size
      clear hb5 hW6 ck
      go_wp2_with (first
        | (refine wpList_store_new rfl 25 _ _ rfl S0 rfl rfl i0.out (by exact z0.out.symm) o0.out rfl ?_)
        | (rw [HW6.out])
        | (refine wpList_load_row rfl 36 _ rfl w1.heap.size rfl 36 T (0, 0) _ G6.out Tryd.underlying36 rfl HTz.out ?_)
        | (refine wpList_load_row rfl 25 _ rfl w5.heap.size rfl 25 S0 (0, 0) _ R6.out Tryd.underlying25 rfl i0.out ?_))
      refine (D2.out _ P6.out).mono ?_
      rintro e w7 ⟨rfl, hb7⟩
      obtain ⟨W8, hW8⟩ : ∃ x, w7.setRow w5.heap.size S1 = x := ⟨_, rfl⟩
      have HW8 := Away.mk hW8
      have R7 : Away (w7.heap[w5.heap.size]? = some (.cells S0 25 (0, 0))) := ⟨(hb7.block _ (lt_of_row R6.out)).trans R6.out⟩
      have A8 : Away (At w2.heap.size S1 25 V W8) := ⟨by rw [← hW8]; exact at_below (A6.out.later hb7) (below_setRow _ _ _ hV5) (Nat.le_refl _) hV8⟩
      have G8 : Away (W8.heap[w1.heap.size]? = some (.cells T 36 (0, 0))) := ⟨A8.out.other (by omega) (by omega) GV.out⟩
      have R8 : Away (W8.heap[w2.heap.size]? = some (.cells S1 25 (0, 0))) := ⟨A8.out.row⟩
      have R8o : Away (W8.heap[w5.heap.size]? = some (.cells S1 25 (0, 0))) := ⟨by rw [← hW8]; exact setRow_heap _ _ _ _ _ _ R7.out⟩
      have P8 : Away (Gp W8) := ⟨Gp.at PV.out A8.out hgp8⟩
      have B8 : Away (Below w.heap.size w W8) := ⟨BV.out.trans (A8.out.below (by omega) (by omega))⟩
      have e1 := E1.out
      clear hb7 hW8 HW6
      go_wp2_with (first
        | (refine wpList_store_row rfl 25 _ _ rfl w5.heap.size S1 rfl rfl 25 _ R7.out i1.out (z0.out.trans z1.out.symm) o1.out ?_)
        | (rw [HW8.out])
        | (refine wpList_load_want rfl 25 _ rfl w5.heap.size rfl 25 S1 _ R8o.out Tryd.underlying25 rfl i1.out ?_)
        | (refine wpList_load_want rfl 25 _ rfl w2.heap.size rfl 25 S1 _ R8.out Tryd.underlying25 rfl i1.out ?_))
      clear e1 HW8 Hx A6 G6 R6 P6 Rx Gx Px Bx D1 D2 i0 o0 z0 HS0 R7
      obtain ⟨s0, Hs0⟩ := ex_eq (pad r mk0 E)
      have Hs0o : Away (St s0.l ∧ s0.at' ≤ r) := ⟨by rw [← Hs0.out]; exact pad_ok hEo.out.1⟩
      have hW8 := lt_of_row R8o.out
      have hW82 := lt_of_row R8.out
      have hW81 := lt_of_row G8.out
      have hBW := B8.out.size
      go_loopw [15, 90] (fun gt i wr => ∃ (c j : Nat), c ≤ n2 ∧ i = .int .i64 (c : Int) ∧ gt = .string ⟨(u8s (sq (PP TL RL) r s0 j)).toArray⟩ ∧ j ≤ 300 * c ∧ (c = 0 → j = 0) ∧ Away (At w2.heap.size (if c = 0 then S1 else F (sk (PP TL RL) r s0 j) true) 25 W8 wr)) (fun _ i _ => n2 - (intOf i).toNat)
      case atStart => exact ⟨0, 0, Nat.zero_le _, rfl, rfl, Nat.zero_le _, fun _ => rfl, ⟨by rw [if_pos rfl]; exact At.refl R8.out⟩⟩
      case round =>
        obtain ⟨c, j, hc, rfl, rfl, hj, hcj, Hx⟩ := hrel
        have Bx : Away (Below w.heap.size w wr) := ⟨B8.out.trans (Hx.out.below (by omega) (by omega))⟩
        have Gx : Away (wr.heap[w1.heap.size]? = some (.cells T 36 (0, 0))) := ⟨Hx.out.other (by omega) (by omega) G8.out⟩
        have Px : Away (Gp wr) := ⟨Gp.at P8.out Hx.out hgp8⟩
        by_cases hlt : c < n2
        · by_cases h0 : c = 0
          · have lk : (c : Int) < (n2 : Int) := by omega
            obtain ⟨a, rfl, hb, hcl⟩ := Hcell2.out c hlt
            have hp : wr.cell? (a.add c) = some (.int .i64 (R c)) := by
              rw [Bx.out.cell (p := a.add c) (by simp only [Addr.add]; split <;> exact hb)]
              exact hcl
            clear hcl
            obtain ⟨zz, hzz⟩ : ∃ q, R c = q := ⟨_, rfl⟩
            rw [hzz] at hp
            obtain ⟨N2, hN2, hN2l⟩ := wrap_u64_nat zz
            obtain ⟨M, hM⟩ : ∃ M, N2 % 300 = M := ⟨_, rfl⟩
            have hM3 : M < 300 := by omega
            have gm : (N2 : Int).tmod 300 = (M : Int) := by rw [Int.tmod_eq_emod_of_nonneg (by omega)]; omega
            have gm2 : (N2 : Int) % 300 = (M : Int) := by omega
            have gmw : IntKind.i64.wrap (M : Int) = (M : Int) := by rw [IntKind.wrap_i64]; omega
            clear hM hzz
            have H0 := Away.mk h0
            obtain rfl : j = 0 := hcj h0
            clear h0 hcj
            have Rx : Away (wr.heap[w2.heap.size]? = some (.cells S1 25 (0, 0))) := ⟨by have h9 := Hx.out.row; rw [if_pos H0.out] at h9; exact h9⟩
            have D5 := Away.mk (C5.out E M wr Px.out hEo.out.1 hEo.out.2 (by omega))
            rw [Hs0.out, HS1.out] at D5
            have Hj : Away (sk (PP TL RL) r s0 M = sk (PP TL RL) r s0 (0 + M)) := ⟨by rw [Nat.zero_add]⟩
            have Hq : Away (sq (PP TL RL) r s0 0 ++ sq (PP TL RL) r s0 M = sq (PP TL RL) r s0 (0 + M)) := ⟨by rw [Nat.zero_add]; rfl⟩
            obtain ⟨Qs, HQs⟩ := ex_eq (sq (PP TL RL) r s0 M)
            have hQl : Qs.length = M := by rw [← HQs.out, sq_length]
            rw [HQs.out] at D5 Hq
            have io := i1
            have zo := z1
            obtain ⟨So, HSo⟩ : ∃ x, S1 = x := ⟨_, rfl⟩
            rw [HSo] at Rx D5 io zo
            rw [Hj.out] at D5
            have hsk2 := sk_ok (P := PP TL RL) hPst.out hr0 Hs0o.out.1 Hs0o.out.2 (0 + M)
            have D6 : Away (∀ w1 : World, Calls Tryd.prog 18 #[.agg (F (sk (PP TL RL) r s0 (0 + M)) true)] w1 fun e w' => e = .returned (.bool true) ∧ Below w1.heap.size w1 w') := ⟨fun w1 => C4.out _ w1 hsk2.1 hsk2.2⟩
            have i2 := Away.mk (Fi.out (sk (PP TL RL) r s0 (0 + M)) true hsk2.1)
            have o2 := Away.mk (Fo.out (sk (PP TL RL) r s0 (0 + M)) true)
            have z2 := Away.mk (Fz.out (sk (PP TL RL) r s0 (0 + M)) true hsk2.1)
            obtain ⟨S2, HS2⟩ := ex_eq (F (sk (PP TL RL) r s0 (0 + M)) true)
            rw [HS2.out] at D5 D6 i2 o2 z2
            obtain ⟨Q, HQ⟩ := ex_eq (⟨(u8s Qs).toArray⟩ : ByteArray)
            have hQ : Q.size = M := by rw [← HQ.out, size_u8s, hQl]
            rw [HQ.out] at D5
            obtain ⟨G, HG⟩ := ex_eq (⟨(u8s (sq (PP TL RL) r s0 0)).toArray⟩ : ByteArray)
            have hG : G.size = 0 := by rw [← HG.out, size_u8s, sq_length]
            have HGQ : Away (G ++ Q = ⟨(u8s (sq (PP TL RL) r s0 (0 + M))).toArray⟩) := ⟨by rw [← HG.out, ← HQ.out, str_u8s, Hq.out]⟩
            have hsum : G.size + Q.size ≤ 9223372036854775807 := by omega
            have HAx : Away (At w2.heap.size So 25 W8 wr) := ⟨⟨Hx.out.os, Hx.out.tape, Hx.out.output, Hx.out.size, Rx.out, Hx.out.block⟩⟩
            rw [HG.out]
            clear hsk2 Hj Hq HQs hQl HQ HG Hx hG HSo
            go_wp2_with (first
              | (refine wpList_load_row rfl 36 _ rfl w1.heap.size rfl 36 T (0, 0) _ Gx.out Tryd.underlying36 rfl HTz.out ?_)
              | (refine wpList_load_row rfl 25 _ rfl w2.heap.size rfl 25 So (0, 0) _ Rx.out Tryd.underlying25 rfl io.out ?_))
            refine D5.out.mono ?_
            rintro e w4 ⟨rfl, hb4⟩
            have A4 : Away (At w2.heap.size So 25 W8 w4) := ⟨HAx.out.later hb4⟩
            have R4 : Away (w4.heap[w2.heap.size]? = some (.cells So 25 (0, 0))) := ⟨A4.out.row⟩
            obtain ⟨W5, hW5⟩ : ∃ x, w4.setRow w2.heap.size S2 = x := ⟨_, rfl⟩
            have HW5 := Away.mk hW5
            have A5 : Away (At w2.heap.size S2 25 W8 W5) := ⟨by rw [← hW5]; exact at_row6 A4.out⟩
            have R5 : Away (W5.heap[w2.heap.size]? = some (.cells S2 25 (0, 0))) := ⟨A5.out.row⟩
            clear hb4 hW5 D5 hp
            go_wp2_with (first
              | (refine wpList_store_row rfl 25 _ _ rfl w2.heap.size S2 rfl rfl 25 _ R4.out i2.out (zo.out.trans z2.out.symm) o2.out ?_)
              | (rw [HW5.out])
              | (refine wpList_load_want rfl 25 _ rfl w2.heap.size rfl 25 S2 _ R5.out Tryd.underlying25 rfl i2.out ?_))
            refine (D6.out _).mono ?_
            rintro e w6 ⟨rfl, hb6⟩
            have A6 : Away (At w2.heap.size (if c + 1 = 0 then S1 else F (sk (PP TL RL) r s0 (0 + M)) true) 25 W8 w6) := ⟨by rw [if_neg (by omega), HS2.out]; exact A5.out.later hb6⟩
            clear hb6 HW5
            go_wp2_with fail
            go_roundw
            case rel => exact ⟨c + 1, 0 + M, by omega, by go_num, by rw [← HGQ.out], by omega, fun h => by omega, A6⟩
            case measure => simp [intOf]; omega
          · have lk : (c : Int) < (n2 : Int) := by omega
            obtain ⟨a, rfl, hb, hcl⟩ := Hcell2.out c hlt
            have hp : wr.cell? (a.add c) = some (.int .i64 (R c)) := by
              rw [Bx.out.cell (p := a.add c) (by simp only [Addr.add]; split <;> exact hb)]
              exact hcl
            clear hcl
            obtain ⟨zz, hzz⟩ : ∃ q, R c = q := ⟨_, rfl⟩
            rw [hzz] at hp
            obtain ⟨N2, hN2, hN2l⟩ := wrap_u64_nat zz
            obtain ⟨M, hM⟩ : ∃ M, N2 % 300 = M := ⟨_, rfl⟩
            have hM3 : M < 300 := by omega
            have gm : (N2 : Int).tmod 300 = (M : Int) := by rw [Int.tmod_eq_emod_of_nonneg (by omega)]; omega
            have gm2 : (N2 : Int) % 300 = (M : Int) := by omega
            have gmw : IntKind.i64.wrap (M : Int) = (M : Int) := by rw [IntKind.wrap_i64]; omega
            clear hM hzz
            have Rx : Away (wr.heap[w2.heap.size]? = some (.cells (F (sk (PP TL RL) r s0 j) true) 25 (0, 0))) := ⟨by have h9 := Hx.out.row; rw [if_neg h0] at h9; exact h9⟩
            have hsk := sk_ok (P := PP TL RL) hPst.out hr0 Hs0o.out.1 Hs0o.out.2 j
            have D5 := Away.mk (C6.out (sk (PP TL RL) r s0 j) M wr Px.out hsk.1 hsk.2 (by omega))
            have Hj : Away (sk (PP TL RL) r (sk (PP TL RL) r s0 j) M = sk (PP TL RL) r s0 (j + M)) := ⟨(sk_add _ _ _ _ _).symm⟩
            have Hq : Away (sq (PP TL RL) r s0 j ++ sq (PP TL RL) r (sk (PP TL RL) r s0 j) M = sq (PP TL RL) r s0 (j + M)) := ⟨(sq_add _ _ _ _ _).symm⟩
            obtain ⟨Qs, HQs⟩ := ex_eq (sq (PP TL RL) r (sk (PP TL RL) r s0 j) M)
            have hQl : Qs.length = M := by rw [← HQs.out, sq_length]
            rw [HQs.out] at D5 Hq
            have io := Away.mk (Fi.out (sk (PP TL RL) r s0 j) true hsk.1)
            have zo := Away.mk (Fz.out (sk (PP TL RL) r s0 j) true hsk.1)
            obtain ⟨So, HSo⟩ : ∃ x, F (sk (PP TL RL) r s0 j) true = x := ⟨_, rfl⟩
            rw [HSo] at Rx D5 io zo
            clear hsk
            rw [Hj.out] at D5
            have hsk2 := sk_ok (P := PP TL RL) hPst.out hr0 Hs0o.out.1 Hs0o.out.2 (j + M)
            have D6 : Away (∀ w1 : World, Calls Tryd.prog 18 #[.agg (F (sk (PP TL RL) r s0 (j + M)) true)] w1 fun e w' => e = .returned (.bool true) ∧ Below w1.heap.size w1 w') := ⟨fun w1 => C4.out _ w1 hsk2.1 hsk2.2⟩
            have i2 := Away.mk (Fi.out (sk (PP TL RL) r s0 (j + M)) true hsk2.1)
            have o2 := Away.mk (Fo.out (sk (PP TL RL) r s0 (j + M)) true)
            have z2 := Away.mk (Fz.out (sk (PP TL RL) r s0 (j + M)) true hsk2.1)
            obtain ⟨S2, HS2⟩ := ex_eq (F (sk (PP TL RL) r s0 (j + M)) true)
            rw [HS2.out] at D5 D6 i2 o2 z2
            obtain ⟨Q, HQ⟩ := ex_eq (⟨(u8s Qs).toArray⟩ : ByteArray)
            have hQ : Q.size = M := by rw [← HQ.out, size_u8s, hQl]
            rw [HQ.out] at D5
            obtain ⟨G, HG⟩ := ex_eq (⟨(u8s (sq (PP TL RL) r s0 j)).toArray⟩ : ByteArray)
            have hG : G.size = j := by rw [← HG.out, size_u8s, sq_length]
            have HGQ : Away (G ++ Q = ⟨(u8s (sq (PP TL RL) r s0 (j + M))).toArray⟩) := ⟨by rw [← HG.out, ← HQ.out, str_u8s, Hq.out]⟩
            have hsum : G.size + Q.size ≤ 9223372036854775807 := by omega
            have HAx : Away (At w2.heap.size So 25 W8 wr) := ⟨⟨Hx.out.os, Hx.out.tape, Hx.out.output, Hx.out.size, Rx.out, Hx.out.block⟩⟩
            rw [HG.out]
            clear hsk2 Hj Hq HQs hQl HQ HG Hx hG HSo
            go_wp2_with (first
              | (refine wpList_load_row rfl 36 _ rfl w1.heap.size rfl 36 T (0, 0) _ Gx.out Tryd.underlying36 rfl HTz.out ?_)
              | (refine wpList_load_row rfl 25 _ rfl w2.heap.size rfl 25 So (0, 0) _ Rx.out Tryd.underlying25 rfl io.out ?_))
            refine D5.out.mono ?_
            rintro e w4 ⟨rfl, hb4⟩
            have A4 : Away (At w2.heap.size So 25 W8 w4) := ⟨HAx.out.later hb4⟩
            have R4 : Away (w4.heap[w2.heap.size]? = some (.cells So 25 (0, 0))) := ⟨A4.out.row⟩
            obtain ⟨W5, hW5⟩ : ∃ x, w4.setRow w2.heap.size S2 = x := ⟨_, rfl⟩
            have HW5 := Away.mk hW5
            have A5 : Away (At w2.heap.size S2 25 W8 W5) := ⟨by rw [← hW5]; exact at_row6 A4.out⟩
            have R5 : Away (W5.heap[w2.heap.size]? = some (.cells S2 25 (0, 0))) := ⟨A5.out.row⟩
            clear hb4 hW5 D5 hp
            go_wp2_with (first
              | (refine wpList_store_row rfl 25 _ _ rfl w2.heap.size S2 rfl rfl 25 _ R4.out i2.out (zo.out.trans z2.out.symm) o2.out ?_)
              | (rw [HW5.out])
              | (refine wpList_load_want rfl 25 _ rfl w2.heap.size rfl 25 S2 _ R5.out Tryd.underlying25 rfl i2.out ?_))
            refine (D6.out _).mono ?_
            rintro e w6 ⟨rfl, hb6⟩
            have A6 : Away (At w2.heap.size (if c + 1 = 0 then S1 else F (sk (PP TL RL) r s0 (j + M)) true) 25 W8 w6) := ⟨by rw [if_neg (by omega), HS2.out]; exact A5.out.later hb6⟩
            clear hb6 HW5
            go_wp2_with fail
            go_roundw
            case rel => exact ⟨c + 1, j + M, by omega, by go_num, by rw [← HGQ.out], by omega, fun h => by omega, A6⟩
            case measure => simp [intOf]; omega
        · obtain rfl : c = n2 := by omega
          have Ro : Away (wr.heap[w5.heap.size]? = some (.cells S1 25 (0, 0))) := ⟨Hx.out.other hW8 (by omega) R8o.out⟩
          have D5 := Away.mk (C5.out E j wr Px.out hEo.out.1 hEo.out.2 (by omega))
          rw [Hs0.out, HS1.out] at D5
          have hsk2 := sk_ok (P := PP TL RL) hPst.out hr0 Hs0o.out.1 Hs0o.out.2 j
          have i2 := Away.mk (Fi.out (sk (PP TL RL) r s0 j) true hsk2.1)
          have o2 := Away.mk (Fo.out (sk (PP TL RL) r s0 j) true)
          have z2 := Away.mk (Fz.out (sk (PP TL RL) r s0 j) true hsk2.1)
          obtain ⟨S2, HS2⟩ := ex_eq (F (sk (PP TL RL) r s0 j) true)
          rw [HS2.out] at D5 i2 o2 z2
          obtain ⟨G, HG⟩ := ex_eq (⟨(u8s (sq (PP TL RL) r s0 j)).toArray⟩ : ByteArray)
          have hG : G.size = j := by rw [← HG.out, size_u8s, sq_length]
          rw [HG.out] at D5 ⊢
          clear hsk2 HG Hx hcj
          go_wp2_with (first
            | (refine wpList_load_row rfl 36 _ rfl w1.heap.size rfl 36 T (0, 0) _ Gx.out Tryd.underlying36 rfl HTz.out ?_)
            | (refine wpList_load_row rfl 25 _ rfl w5.heap.size rfl 25 S1 (0, 0) _ Ro.out Tryd.underlying25 rfl i1.out ?_))
          refine D5.out.mono ?_
          rintro e w7 ⟨rfl, hb7⟩
          have B7 : Away (Below w.heap.size w w7) := ⟨Bx.out.trans (hb7.mono Bx.out.size)⟩
          obtain ⟨W9, hW9⟩ : ∃ x, w7.alloc (.cells S2 25) = x := ⟨_, rfl⟩
          have HW9 := Away.mk hW9
          have B9 : Away (Below w.heap.size w W9) := ⟨by rw [← hW9]; exact B7.out.alloc B7.out.size _⟩
          have P9 : Away (Gp W9) := ⟨HP.out.later B9.out⟩
          clear hb7 hW9 D5
          go_wp2_with (first
            | (refine wpList_store_new rfl 25 _ _ rfl S2 rfl rfl i2.out (by exact z2.out.symm) o2.out rfl ?_)
            | (rw [HW9.out]))
          refine (awake6.awake_any _ P9.out).mono ?_
          rintro e w10 ⟨rfl, hb10⟩
          have B10 : Away (Below w.heap.size w w10) := ⟨B9.out.trans (hb10.mono B9.out.size)⟩
          clear hb10
          go_wp2_with fail
          go_ret
          exact ⟨rfl, B10.out⟩
theorem walk (ao bo : Option Addr) (n cap n2 cap2 : Nat) (kd : Int) (S : Nat → ByteArray) (R : Nat → Int) (w : World) (hcell : ∀ i, i < n → ∃ a, ao = some a ∧ a.block < w.heap.size ∧ w.cell? (a.add i) = some (.string (S i)))
    (hcell2 : ∀ i, i < n2 → ∃ a, bo = some a ∧ a.block < w.heap.size ∧ w.cell? (a.add i) = some (.int .i64 (R i))) (hP : Gp w) :
    Calls Tryd.prog 4 #[.slice ao n cap, .slice bo n2 cap2, .int .i64 kd] w fun e w' => e = .returned (.bool true) ∧ Below w.heap.size w w' := by
  by_cases h : n ≤ 20
  · by_cases h2 : n2 ≤ 20
    · exact near ao bo n cap n2 cap2 kd S R w h h2 hcell hcell2 hP
    · exact far ao bo n cap n2 cap2 kd w (Or.inr ⟨h, by omega⟩) hP
  · exact far ao bo n cap n2 cap2 kd w (Or.inl (by omega)) hP
end Go.Proofs.YtpibnfpgokjnpaaDoor.lpieces6
