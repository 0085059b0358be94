/-
  SampleSmall, the near case (P11.7), with what the functions return handed in. Conditions: keccak's variable 'places' holds what the program's text lays there.
-/
import Derived.Test.YtjdcmnmnjkkpiaaDoorQD
import Derived.Test.YtjdcmnmnjkkpiaaDoorPuA
import Derived.Test.YtjdcmnmnjkkpiaaDoorRSex
import Derived.Test.YtjdcmnmnjkkpiaaDoorFlA
import Derived.Test.YtjdcmnmnjkkpiaaDoorFRx
import Derived.Test.YtjdcmnmnjkkpiaaDoorTab
import Derived.Test.YtjdcmnmnjkkpiaaDoorKq
namespace Go.Proofs.YtjdcmnmnjkkpiaaDoor.small11
set_option linter.unusedSimpArgs false
open Go Go.RowKit
open Go.Proofs.YtjdcmnmnjkkpiaaDoor.mem Go.Proofs.YtjdcmnmnjkkpiaaDoor.arr Go.Proofs.YtjdcmnmnjkkpiaaDoor.tabv Go.Proofs.YtjdcmnmnjkkpiaaDoor.built Go.Proofs.YtjdcmnmnjkkpiaaDoor.kturn Go.Proofs.YtjdcmnmnjkkpiaaDoor.polys Go.Proofs.YtjdcmnmnjkkpiaaDoor.polt Go.Proofs.YtjdcmnmnjkkpiaaDoor.pols Go.Proofs.YtjdcmnmnjkkpiaaDoor.saml Go.Proofs.YtjdcmnmnjkkpiaaDoor.lsl11 Go.Proofs.YtjdcmnmnjkkpiaaDoor.helda Go.Proofs.YtjdcmnmnjkkpiaaDoor.samb Go.Proofs.YtjdcmnmnjkkpiaaDoor.rndm Go.Proofs.YtjdcmnmnjkkpiaaDoor.fldm

theorem sl_some {w : World} {v : Value} {m : Nat} {q : Nat → Nat → Int} (h : SL w v m q) (hm : 1 ≤ m) : ∃ g c, v = .slice (some ⟨g, 0, none⟩) m c := by
  rcases h with ⟨rfl, -⟩ | ⟨-, -, B, g, c, rfl, -⟩
  · omega
  · exact ⟨_, _, rfl⟩
theorem sl_cells {w : World} {a m c : Nat} {q : Nat → Nat → Int} (h : SL w (.slice (some ⟨a, 0, none⟩) m c) m q) (j : Nat) (hj : j < m) (i : Nat) (hi : i < 256) : w.cell? ⟨a, j * 256 + i, none⟩ = some (.int .i64 (q j i)) := by
  rcases h with ⟨rfl, -⟩ | ⟨-, -, B, g, k, he, -, -, hc⟩
  · omega
  · injection he with x1 x2 x3
    injection x1 with x1
    injection x1 with x1
    subst x1
    rw [Nat.mul_comm]
    exact hc j hj i hi
theorem wp_buildTwo {P : Program} {o : Oper} {a : Act} {w : World} {K : Act → World → Prop} {Q : Exit → Act → World → Prop} (t e : TypeId) (x y : Operand) (ho : o.op = .buildSlice t 2 #[(0, x), (1, y)])
    (f g : Nat → Int) (F G : Array Value) (hF : FL .i64 256 f = F) (hG : FL .i64 256 g = G) (ie : TypeInfo) (z : Array Value)
    (hu : P.underlying t = some (.slice e)) (hie : P.info? e = some ie) (hz : ie.zero = some (.agg z)) (hsz : ie.size = 256) (hx : a.eval x = .agg F) (hy : a.eval y = .agg G)
    (h : K (a.put o.dst (.slice (some ⟨w.heap.size, 0, none⟩) 2 2)) (w.alloc (.cells (RW 2 (polb.pair f g)) e))) : o.wp P a w K Q := by
  refine wp_buildSlice t e 2 _ ho (RW 2 (polb.pair f g)) ie (.agg z) hu hie hz (by rw [hsz]; decide) (by rw [hsz]; decide) ?_ h
  have hc : ((#[(0, x), (1, y)] : Array (Nat × Operand)).map fun (i, x) => (i, a.eval x)).toList = ([Value.agg F, Value.agg G].zipIdx 0).map fun x => (x.2, x.1) := by simp [hx, hy]
  have sF : F.size = 256 := by rw [← hF, fl_size]
  have sG : G.size = 256 := by rw [← hG, fl_size]
  have hc2 : ([Value.agg F, Value.agg G].zipIdx 0).map (fun x => (x.2, x.1)) = [(0, Value.agg F), (1, Value.agg G)] := rfl
  rw [hc, hc2, ← polb.rw_pair f g, hF, hG, hsz]
  exact polb.fill_two F G _ sF sG (by rw [Array.size_map, Array.size_range])
set_option maxRecDepth 100000 in
set_option maxHeartbeats 4000000 in
theorem near (b : ByteArray) (fr wh pk : Int) (kn ln tau fm : Nat) (e a g o s : Int) (q1 q2 q3 : Nat → Nat → Int) (h u : Nat → Int) (w : World) (hb : b.size ≤ 400) (hP : Gp w) (C : Array Value) (hC : C = #[.int .i64 (kn : Int), .int .i64 (ln : Int), .int .i64 e, .int .i64 (tau : Int), .int .i64 a, .int .i64 g, .int .i64 o, .int .i64 s])
    (hfm : (IntKind.u64.wrap fr).tmod 5000 = (fm : Int)) (hfl : fm < 5000) (hl1 : 1 ≤ ln) (hk1 : 1 ≤ kn) (hr1 : ∀ i k, 0 ≤ q1 i k ∧ q1 i k < 8380417) (hr2 : ∀ i k, 0 ≤ q2 i k ∧ q2 i k < 8380417) (hr3 : ∀ i k, 0 ≤ q3 i k ∧ q3 i k < 8380417) (hrh : ∀ k, 0 ≤ h k ∧ h k < 8380417) (hru : ∀ k, 0 ≤ u k ∧ u k < 8380417) (hs1 : cbs q1 ln ≤ e) (hs2 : cbs q2 kn ≤ e) (hs3 : cbs q3 ln ≤ a) (hnt : nz h 256 ≤ tau) (hsh : cbs (fun _ => h) 1 ≤ 1)
    (HPk : ∀ w1 : World, Calls Tryd.prog 23 #[.int .i64 wh] w1 fun e w' => e = .returned (.int .i64 pk) ∧ w' = w1)
    (HSt : ∀ w1 : World, Calls Tryd.prog 22 #[.int .i64 pk] w1 fun e w' => e = .returned (.tuple #[.agg C, .int .i64 0]) ∧ Below w1.heap.size w1 w')
    (HC : ∀ w1 : World, Gp w1 → Calls Tryd.prog 16 #[.agg TA, .agg C, .string b] w1 fun e w' => (∃ v1 v2, e = .returned (.tuple #[v1, v2]) ∧ SL w' v1 ln q1 ∧ SL w' v2 kn q2) ∧ Below w1.heap.size w1 w')
    (HK : ∀ w1 : World, Gp w1 → Calls Tryd.prog 19 #[.agg TA, .agg C, .string b, .int .i64 (fm : Int)] w1 fun e w' => (∃ v, e = .returned v ∧ SL w' v ln q3) ∧ Below w1.heap.size w1 w')
    (HB : ∀ w1 : World, Gp w1 → Calls Tryd.prog 12 #[.agg TA, .string b, .int .i64 (tau : Int)] w1 fun e w' => e = .returned (.agg (FL .i64 256 h)) ∧ Below w1.heap.size w1 w')
    (HU : ∀ w1 : World, Gp w1 → Calls Tryd.prog 8 #[.agg TA, .string b] w1 fun e w' => e = .returned (.agg (FL .i64 256 u)) ∧ Below w1.heap.size w1 w')
    (HA : ∀ w1 : World, Gp w1 → Calls Tryd.prog 6 #[] w1 fun e w' => e = .returned (.bool true) ∧ Below w1.heap.size w1 w') :
    Calls Tryd.prog 5 #[.string b, .int .i64 fr, .int .i64 wh] w fun e w' => e = .returned (.bool true) ∧ Below w.heap.size w w' := by
  have HP := Away.mk hP
  obtain ⟨hz, hsize⟩ := zero_of_info built.infoT
  obtain ⟨hzp, hsizep⟩ := zero_of_info polt.infoP
  obtain ⟨hzl, hsizel⟩ := zero_of_info rset.infoL
  obtain ⟨Zt, HZ⟩ := ex_eq TZ
  rw [HZ.out] at hz
  obtain ⟨Zp, HZp⟩ := ex_eq (FL .i64 256 fun _ => 0)
  rw [HZp.out] at hzp
  obtain ⟨Zl, HZl⟩ := ex_eq set0
  rw [HZl.out] at hzl
  have HZs : Away (Zt.size = 465) := ⟨by rw [← HZ.out]; exact tz_size⟩
  have HZps : Away (Zp.size = 256) := ⟨by rw [← HZp.out]; exact fl_size _ _ _⟩
  have HZls : Away (Zl.size = 8) := ⟨by rw [← HZl.out]; rfl⟩
  have Hsize := Away.mk hsize
  have Hsizep := Away.mk hsizep
  have Hsizel := Away.mk hsizel
  obtain ⟨T, HT⟩ := ex_eq TA
  rw [HT.out] at HC HK HB HU
  have HTs : Away (T.size = 465) := ⟨by rw [← HT.out]; exact ta_size⟩
  have HTo : Away (T.all (·.oneCell') = true) := ⟨by rw [← HT.out]; exact ta_one⟩
  have HTz : Away ((Tryd.prog.info? 34).map (·.size) = some T.size) := ⟨by rw [HTs.out]; exact Hsize.out⟩
  have Hmk : Away (∀ w1 : World, Calls Tryd.prog 21 #[] w1 fun e w' => e = .returned (.agg T) ∧ Below w1.heap.size w1 w') := ⟨fun w1 => by rw [← HT.out]; exact make.make_any w1⟩
  have HCs : Away (C.size = 8) := ⟨by rw [hC]; rfl⟩
  have HCo : Away (C.all (·.oneCell') = true) := ⟨by rw [hC]; simp [Value.oneCell']⟩
  have HCz : Away ((Tryd.prog.info? 41).map (·.size) = some C.size) := ⟨by rw [HCs.out]; exact Hsizel.out⟩
  obtain ⟨X, HX⟩ := ex_eq (FL .i64 256 h)
  rw [HX.out] at HB
  have HXs : Away (X.size = 256) := ⟨by rw [← HX.out]; exact fl_size _ _ _⟩
  have HXo : Away (X.all (·.oneCell') = true) := ⟨by rw [← HX.out]; exact fl_one _ _ _⟩
  have HXz : Away ((Tryd.prog.info? 36).map (·.size) = some X.size) := ⟨by rw [HXs.out]; exact Hsizep.out⟩
  obtain ⟨Y, HY⟩ := ex_eq (FL .i64 256 u)
  rw [HY.out] at HU
  obtain ⟨i0, hi, hz0, hz1, hz2⟩ := rbitb.parts infoPoly
  rw [HZp.out] at hz0
  have HI := Away.mk (And.intro hi (And.intro hz0 (And.intro hz1 hz2)))
  clear hi hz0 hz1 hz2
  have HCe := Away.mk hC
  have Hs1 := Away.mk hs1
  have Hs2 := Away.mk hs2
  have Hs3 := Away.mk hs3
  have Hnt := Away.mk hnt
  have Hsh := Away.mk hsh
  have HC := Away.mk HC
  have HK := Away.mk HK
  have HB := Away.mk HB
  have HU := Away.mk HU
  have HA := Away.mk HA
  have HPk := Away.mk HPk
  have HSt := Away.mk HSt
  have hbz : ¬ (400 : Int) < (b.size : Int) := by omega
  have fmw : IntKind.i64.wrap (fm : Int) = (fm : Int) := by rw [IntKind.wrap_i64]; omega
  clear hsize hsizep hsizel hP HT HZ HZp HZl hb hC hs1 hs2 hs3 hnt hsh
  go_enter Tryd.func5, Tryd.ntmps5
  go_wp2_with fail
  refine (Hmk.out _).mono ?_
  rintro e0 w1 ⟨rfl, hb1⟩
  obtain ⟨W1, hW1⟩ : ∃ x, w1.alloc (.cells T 34) = x := ⟨_, rfl⟩
  obtain ⟨r1, hs1, b1⟩ := one hW1
  have HW1 := Away.mk hW1
  have T1 : Away (W1.heap[w1.heap.size]? = some (.cells T 34 (0, 0))) := ⟨r1⟩
  have B1 : Away (Below w.heap.size w W1) := ⟨hb1.trans (b1.mono hb1.size)⟩
  clear hb1 hW1 r1 hs1 b1
  go_wp2_with (first
    | (refine wpList_store_new rfl 34 _ _ rfl _ rfl rfl HTz.out (by rw [HTs.out]; exact HZs.out) HTo.out rfl ?_)
    | (rw [HW1.out]))
  refine (HPk.out _).mono ?_
  rintro e0 W1 ⟨rfl, rfl⟩
  go_wp2_with fail
  refine (HSt.out _).mono ?_
  rintro e0 w3 ⟨rfl, hb3⟩
  obtain ⟨W3, hW3⟩ : ∃ x, w3.alloc (.cells C 41) = x := ⟨_, rfl⟩
  obtain ⟨r3, hs3, b3⟩ := one hW3
  have HW3 := Away.mk hW3
  have D3 : Away (Below W1.heap.size W1 W3) := ⟨hb3.trans (b3.mono hb3.size)⟩
  have T3 : Away (W3.heap[w1.heap.size]? = some (.cells T 34 (0, 0))) := ⟨(D3.out.block _ (lt_of_row T1.out)).trans T1.out⟩
  have L3 : Away (W3.heap[w3.heap.size]? = some (.cells C 41 (0, 0))) := ⟨r3⟩
  have B3 : Away (Below w.heap.size w W3) := ⟨B1.out.trans (D3.out.mono B1.out.size)⟩
  clear hb3 hW3 r3 hs3 b3
  go_wp2_with (first
    | (refine wpList_store_new rfl 41 _ _ rfl _ rfl rfl HCz.out (by rw [HCs.out]; exact HZls.out) HCo.out rfl ?_)
    | (rw [HW3.out])
    | (refine wpList_load_row rfl 34 _ rfl w1.heap.size rfl 34 T (0, 0) _ T3.out Tryd.underlying34 rfl HTz.out ?_)
    | (refine wpList_load_row rfl 41 _ rfl w3.heap.size rfl 41 C (0, 0) _ L3.out Tryd.underlying41 rfl HCz.out ?_))
  refine (HC.out _ (HP.out.later B3.out)).mono ?_
  rintro e0 w4 ⟨⟨c1, c2, rfl, Sc1, Sc2⟩, hb4⟩
  have T4 : Away (w4.heap[w1.heap.size]? = some (.cells T 34 (0, 0))) := ⟨(hb4.block _ (lt_of_row T3.out)).trans T3.out⟩
  have L4 : Away (w4.heap[w3.heap.size]? = some (.cells C 41 (0, 0))) := ⟨(hb4.block _ (lt_of_row L3.out)).trans L3.out⟩
  have B4 : Away (Below w.heap.size w w4) := ⟨B3.out.trans (hb4.mono B3.out.size)⟩
  obtain ⟨a1, k1, rfl⟩ := sl_some Sc1 hl1
  obtain ⟨a2, k2, rfl⟩ := sl_some Sc2 hk1
  have Sc1 := Away.mk Sc1
  have Sc2 := Away.mk Sc2
  clear hb4
  go_wp2_with (first
    | (refine wpList_load_row rfl 34 _ rfl w1.heap.size rfl 34 T (0, 0) _ T4.out Tryd.underlying34 rfl HTz.out ?_)
    | (refine wpList_load_row rfl 41 _ rfl w3.heap.size rfl 41 C (0, 0) _ L4.out Tryd.underlying41 rfl HCz.out ?_))
  refine (HK.out _ (HP.out.later B4.out)).mono ?_
  rintro e0 w5 ⟨⟨c3, rfl, Sc3⟩, hb5⟩
  have T5 : Away (w5.heap[w1.heap.size]? = some (.cells T 34 (0, 0))) := ⟨(hb5.block _ (lt_of_row T4.out)).trans T4.out⟩
  have L5 : Away (w5.heap[w3.heap.size]? = some (.cells C 41 (0, 0))) := ⟨(hb5.block _ (lt_of_row L4.out)).trans L4.out⟩
  have B5 : Away (Below w.heap.size w w5) := ⟨B4.out.trans (hb5.mono B4.out.size)⟩
  obtain ⟨a3, k3, rfl⟩ := sl_some Sc3 hl1
  have S1 := Away.mk (Sc1.out.later hb5)
  have S2 := Away.mk (Sc2.out.later hb5)
  have S3 := Away.mk Sc3
  have ct : w5.cell? ⟨w3.heap.size, 3, none⟩ = some (.int .i64 (tau : Int)) := cell_at L5.out (by rw [HCe.out]; rfl)
  clear hb5 Sc1 Sc2 Sc3
  go_wp2_with (first
    | (refine wpList_load_row rfl 34 _ rfl w1.heap.size rfl 34 T (0, 0) _ T5.out Tryd.underlying34 rfl HTz.out ?_)
    | (refine wpList_load_row rfl 41 _ rfl w3.heap.size rfl 41 C (0, 0) _ L5.out Tryd.underlying41 rfl HCz.out ?_))
  refine (HB.out _ (HP.out.later B5.out)).mono ?_
  rintro e0 w6 ⟨rfl, hb6⟩
  obtain ⟨W6, hW6⟩ : ∃ x, w6.alloc (.cells X 36) = x := ⟨_, rfl⟩
  obtain ⟨r6, hs6, b6⟩ := one hW6
  have HW6 := Away.mk hW6
  have D6 : Away (Below w5.heap.size w5 W6) := ⟨hb6.trans (b6.mono hb6.size)⟩
  have T6 : Away (W6.heap[w1.heap.size]? = some (.cells T 34 (0, 0))) := ⟨(D6.out.block _ (lt_of_row T5.out)).trans T5.out⟩
  have L6 : Away (W6.heap[w3.heap.size]? = some (.cells C 41 (0, 0))) := ⟨(D6.out.block _ (lt_of_row L5.out)).trans L5.out⟩
  have X6 : Away (W6.heap[w6.heap.size]? = some (.cells X 36 (0, 0))) := ⟨r6⟩
  have B6 : Away (Below w.heap.size w W6) := ⟨B5.out.trans (D6.out.mono B5.out.size)⟩
  have Q1 := Away.mk (S1.out.later D6.out)
  have Q2 := Away.mk (S2.out.later D6.out)
  have Q3 := Away.mk (S3.out.later D6.out)
  clear hb6 hW6 r6 hs6 b6 ct S1 S2 S3 D6
  go_wp2_with (first
    | (refine wpList_store_new rfl 36 _ _ rfl _ rfl rfl HXz.out (by rw [HXs.out]; exact HZps.out) HXo.out rfl ?_)
    | (rw [HW6.out])
    | (refine wpList_load_row rfl 36 _ rfl w6.heap.size rfl 36 X (0, 0) _ X6.out Tryd.underlying36 rfl HXz.out ?_))
  go_loopw [14, 53] (fun c v wr => ∃ i : Nat, i ≤ 256 ∧ v = .int .i64 (i : Int) ∧ c = .int .i64 ((nz h i : Nat) : Int) ∧ W6 = wr) (fun _ v _ => 256 - (intOf v).toNat)
  case atStart => exact ⟨0, by omega, rfl, rfl, rfl⟩
  case round =>
    obtain ⟨i, hi, rfl, rfl, rfl⟩ := hrel
    have hn := nz_le h i
    by_cases hlt : i < 256
    · have hiz : (i : Int) < 256 := by omega
      have hi0 : (0 : Int) ≤ (i : Int) := by omega
      have hix : ∀ w9 : World, (Instr.index 36 (.agg X) (.int .i64 (i : Int))).run Tryd.prog w9 = .ok (.int .i64 (h i)) w9 := fun w9 => by rw [← HX.out]; exact index_poly h i hlt w9
      obtain ⟨n, hnn⟩ : ∃ n, nz h i = n := ⟨_, rfl⟩
      rw [hnn] at hn ⊢
      have Hnn := Away.mk hnn
      by_cases h0 : h i = 0
      · have hs : Away (nz h (i + 1) = n) := ⟨by rw [nz, if_pos h0, hnn]; rfl⟩
        have hq : (h i != 0) = false := by rw [h0]; rfl
        clear hnn h0
        go_wp2_with fail
        go_roundw
        case rel => exact ⟨i + 1, by omega, by go_num, by rw [hs.out], trivial⟩
        case measure => simp [intOf]; omega
      · have hs : Away (nz h (i + 1) = n + 1) := ⟨by rw [nz, if_neg h0, hnn]⟩
        have hq : (h i != 0) = true := by simp only [bne_iff_ne, ne_eq]; exact h0
        clear hnn h0
        go_wp2_with fail
        go_roundw
        case rel => exact ⟨i + 1, by omega, by go_num, by rw [hs.out]; go_num, trivial⟩
        case measure => simp [intOf]; omega
    · obtain rfl : i = 256 := by omega
      simp only [Int.cast_ofNat_Int]
      obtain ⟨n, hnn⟩ : ∃ n, nz h 256 = n := ⟨_, rfl⟩
      rw [hnn] at hn ⊢
      have Hnn := Away.mk hnn
      clear hnn
      go_wp2_with fail
      have KX : Away (∀ w' : World, Below W6.heap.size W6 w' → w'.heap[w6.heap.size]? = some (.cells X 36 (0, 0))) := ⟨fun w' hb => (hb.block _ (lt_of_row X6.out)).trans X6.out⟩
      have KT : Away (∀ w' : World, Below W6.heap.size W6 w' → w'.heap[w1.heap.size]? = some (.cells T 34 (0, 0))) := ⟨fun w' hb => (hb.block _ (lt_of_row T6.out)).trans T6.out⟩
      refine hk_begin W6.heap.size 11 [0, 1, 2, 3, 4, 5, 10, 6, 7, 8, 9] (by kernel_rfl) rfl rfl (by decide) (fun hS ops HO => ?_)
      simp only [List.filterMap_cons, List.filterMap_nil, List.getElem?_cons_succ, List.getElem?_cons_zero]
      (focus (refine hk_take (v := ?_) (by rw [← HO.out]; kernel_rfl) (by rw [← HO.out]; kernel_rfl) (by rw [← HO.out]; kernel_rfl) (by rw [← HO.out]; kernel_rfl) (fun _ _ _ h => h) ?_ hS ?_; rotate_left; focus (intro w9 h9; go_simp; first | done | with_reducible rfl); all_goals skip))
      simp only [Act.put, List.setIfInBounds_toArray, List.set_cons_zero, List.set_cons_succ]
      (focus (refine hk_take (v := ?_) (by rw [← HO.out]; kernel_rfl) (by rw [← HO.out]; kernel_rfl) (by rw [← HO.out]; kernel_rfl) (by rw [← HO.out]; kernel_rfl) (fun _ _ _ h => h) ?_ hS ?_; rotate_left; focus (intro w9 h9; go_simp; first | done | with_reducible rfl); all_goals skip))
      simp only [Act.put, List.setIfInBounds_toArray, List.set_cons_zero, List.set_cons_succ]
      (focus (refine hk_take (v := ?_) (by rw [← HO.out]; kernel_rfl) (by rw [← HO.out]; kernel_rfl) (by rw [← HO.out]; kernel_rfl) (by rw [← HO.out]; kernel_rfl) (fun _ _ _ h => h) ?_ hS ?_; rotate_left; focus (intro w9 h9; go_simp; first | done | with_reducible rfl); all_goals skip))
      simp only [Act.put, List.setIfInBounds_toArray, List.set_cons_zero, List.set_cons_succ]
      refine hk_load (by rw [← HO.out]; kernel_rfl) (by rw [← HO.out]; kernel_rfl) (by rw [← HO.out]; kernel_rfl) (by rw [← HO.out]; kernel_rfl) (fun _ _ _ _ h => h) 36 _ rfl w6.heap.size rfl 36 X _ KX.out Tryd.underlying36 rfl HXz.out hS ?_
      simp only [Act.put, List.setIfInBounds_toArray, List.set_cons_zero, List.set_cons_succ]
      refine hk_load (by rw [← HO.out]; kernel_rfl) (by rw [← HO.out]; kernel_rfl) (by rw [← HO.out]; kernel_rfl) (by rw [← HO.out]; kernel_rfl) (fun _ _ _ _ h => h) 34 _ rfl w1.heap.size rfl 34 T _ KT.out Tryd.underlying34 rfl HTz.out hS ?_
      simp only [Act.put, List.setIfInBounds_toArray, List.set_cons_zero, List.set_cons_succ]
      (focus (refine hk_take (v := ?_) (by rw [← HO.out]; kernel_rfl) (by rw [← HO.out]; kernel_rfl) (by rw [← HO.out]; kernel_rfl) (by rw [← HO.out]; kernel_rfl) (fun _ _ _ h => h) ?_ hS ?_; rotate_left; focus (intro w9 h9; go_simp; first | done | with_reducible rfl); all_goals skip))
      simp only [Act.put, List.setIfInBounds_toArray, List.set_cons_zero, List.set_cons_succ]
      (focus (refine hk_take (v := ?_) (by rw [← HO.out]; kernel_rfl) (by rw [← HO.out]; kernel_rfl) (by rw [← HO.out]; kernel_rfl) (by rw [← HO.out]; kernel_rfl) (fun _ _ _ h => h) ?_ hS ?_; rotate_left; focus (intro w9 h9; go_simp; first | done | with_reducible rfl); all_goals skip))
      simp only [Act.put, List.setIfInBounds_toArray, List.set_cons_zero, List.set_cons_succ]
      refine hk_step (by rw [← HO.out]; kernel_rfl) (by rw [← HO.out]; kernel_rfl) (fun K hK => ?_)
      go_simp
      refine (HU.out _ (HP.out.later (B6.out.trans (hS.mono B6.out.size)))).mono ?_
      rintro e0 w8 ⟨rfl, hb8⟩
      have h8 : Below W6.heap.size W6 w8 := hS.trans (hb8.mono hS.size)
      refine hK _ _ h8 ?_
      clear hK K hb8
      refine hk_step (by rw [← HO.out]; kernel_rfl) (by rw [← HO.out]; kernel_rfl) (fun K hK => ?_)
      refine wp_buildTwo 44 36 _ _ rfl h u X Y HX.out HY.out i0 Zp Tryd.underlying44 HI.out.1 HI.out.2.1 HI.out.2.2.1 rfl rfl ?_
      obtain ⟨W8, hW8⟩ : ∃ x, w8.alloc (.cells (RW 2 (polb.pair h u)) 36) = x := ⟨_, rfl⟩
      obtain ⟨r8, hs8, b8⟩ := one hW8
      have h8' : Below W6.heap.size W6 W8 := h8.trans (b8.mono h8.size)
      rw [hW8]
      refine hK _ _ h8' ?_
      clear hK K
      obtain ⟨gP, hgP⟩ : ∃ x, w8.heap.size = x := ⟨_, rfl⟩
      rw [hgP] at r8 ⊢
      clear hs8
      refine hk_step (by rw [← HO.out]; kernel_rfl) (by rw [← HO.out]; kernel_rfl) (fun K hK => ?_)
      go_simp
      obtain ⟨W9, hW9⟩ : ∃ x, W8.alloc (.cells #[.slice (some ⟨a1, 0, none⟩) ln k1, .slice (some ⟨a2, 0, none⟩) kn k2, .slice (some ⟨a3, 0, none⟩) ln k3, .slice (some ⟨gP, 0, none⟩) 2 2] 44) = x := ⟨_, rfl⟩
      obtain ⟨r9, hs9, b9⟩ := one hW9
      have h9 : Below W6.heap.size W6 W9 := h8'.trans (b9.mono h8'.size)
      rw [hW9]
      refine hK _ _ h9 ?_
      clear hK K
      obtain ⟨gL, hgL⟩ : ∃ x, W8.heap.size = x := ⟨_, rfl⟩
      rw [hgL] at r9 ⊢
      (focus (refine hk_take (v := ?_) (by rw [← HO.out]; kernel_rfl) (by rw [← HO.out]; kernel_rfl) (by rw [← HO.out]; kernel_rfl) (by rw [← HO.out]; kernel_rfl) (fun _ _ _ h => h) ?_ h9 ?_; rotate_left; focus (intro w99 h99; go_simp; first | done | with_reducible rfl); all_goals skip))
      simp only [Act.put, List.setIfInBounds_toArray, List.set_cons_zero, List.set_cons_succ]
      refine hk_nil (by rw [← HO.out]; kernel_rfl) ?_
      have B9 : Away (Below w.heap.size w W9) := ⟨B6.out.trans (h9.mono B6.out.size)⟩
      have H69 : Away (Below W6.heap.size W6 W9) := ⟨h9⟩
      have V1 := Away.mk (Q1.out.later h9)
      have V2 := Away.mk (Q2.out.later h9)
      have V3 := Away.mk (Q3.out.later h9)
      have V4 : Away (SL W9 (.slice (some ⟨gP, 0, none⟩) 2 2) 2 (polb.pair h u)) := ⟨Or.inr ⟨by decide, by decide, 0, gP, 2, rfl, Nat.zero_le _, by have := lt_of_row r8; have := b9.size; omega, fun i hi k hk => (b9.cell (p := ⟨gP, 256 * i + k, none⟩) (lt_of_row r8)).trans (rw_cell r8 i k hi hk)⟩⟩
      have GL : Away (∀ j, j < 4 → ∃ aj mj cj qj, W9.cell? ⟨gL, j, none⟩ = some (.slice (some ⟨aj, 0, none⟩) mj cj) ∧ SL W9 (.slice (some ⟨aj, 0, none⟩) mj cj) mj qj ∧ ∀ i k, 0 ≤ qj i k ∧ qj i k < 8380417) := ⟨fun j hj => by
        match j, hj with
        | 0, _ => exact ⟨_, _, _, _, cell_at r9 rfl, V1.out, hr1⟩
        | 1, _ => exact ⟨_, _, _, _, cell_at r9 rfl, V2.out, hr2⟩
        | 2, _ => exact ⟨_, _, _, _, cell_at r9 rfl, V3.out, hr3⟩
        | 3, _ => exact ⟨_, _, _, _, cell_at r9 rfl, V4.out, fun i k => by unfold polb.pair; split; exact hrh k; exact hru k⟩⟩
      have Hg9 : Away (gL < W9.heap.size) := ⟨lt_of_row r9⟩
      clear hS h8 h8' h9 hW8 r8 b8 hW9 r9 hs9 b9 HO hgP hgL
      go_wp2_with fail
      go_loopw [71] (fun v wr => ∃ j : Nat, j ≤ 4 ∧ v = .int .i64 (j : Int) ∧ Away (Below W9.heap.size W9 wr)) (fun v _ => 4 - (intOf v).toNat)
      case atStart => exact ⟨0, by omega, rfl, ⟨Below.refl _ _⟩⟩
      case round =>
        obtain ⟨j, hj, rfl, Hb⟩ := hrel
        rename World => wo
        by_cases hlt : j < 4
        · have hjz : (j : Int) < 4 := by omega
          have hj0 : (0 : Int) ≤ (j : Int) := by omega
          obtain ⟨aj, mj, cj, qj, hc0, hsl, hred⟩ := GL.out j hlt
          have hc : wo.cell? ⟨gL, j, none⟩ = some (.slice (some ⟨aj, 0, none⟩) mj cj) := (Hb.out.cell (p := ⟨gL, j, none⟩) Hg9.out).trans hc0
          have Hsl := Away.mk (hsl.later Hb.out)
          have Hred := Away.mk hred
          have Hlt := Away.mk hlt
          have hm8 : mj ≤ 8 := by
            rcases Hsl.out with ⟨h0, -⟩ | ⟨-, h8, -⟩
            · omega
            · exact h8
          clear hc0 hsl hred hlt
          go_wp2_with fail
          clear hc
          go_loopw [77] (fun v wr => ∃ k : Nat, k ≤ mj ∧ v = .int .i64 (k : Int) ∧ Away (Below wo.heap.size wo wr)) (fun v _ => mj - (intOf v).toNat)
          case atStart => exact ⟨0, by omega, rfl, ⟨Below.refl _ _⟩⟩
          case round =>
            obtain ⟨k, hk, rfl, Hc⟩ := hrel
            by_cases hklt : k < mj
            · have hkz : (k : Int) < (mj : Int) := by omega
              have hk0 : (0 : Int) ≤ (k : Int) := by omega
              have hk8 : k < 8 := by omega
              have hcs := fun i hi => sl_cells (Hsl.out.later Hc.out) k hklt i hi
              obtain ⟨F, HF⟩ := ex_eq (FL .i64 256 (qj k))
              obtain ⟨o6, ho6⟩ : ∃ o6, k * 256 = o6 := ⟨_, rfl⟩
              have hrg : Away (wr.rangeAt aj o6 F.toList) := ⟨by rw [← HF.out, ← ho6, Nat.mul_comm]; exact Holds.range (p := qj) fun i hi => by rw [Nat.mul_comm]; exact hcs i hi⟩
              have Fs : Away (F.size = 256) := ⟨by rw [← HF.out]; exact fl_size _ _ _⟩
              have Fo : Away (F.all (·.oneCell') = true) := ⟨by rw [← HF.out]; exact fl_one _ _ _⟩
              have Fi : Away ((Tryd.prog.info? 36).map (·.size) = some F.size) := ⟨by rw [Fs.out]; exact Hsizep.out⟩
              have Fz : Away (Zp.size = F.size) := ⟨by rw [HZps.out, Fs.out]⟩
              have HR1 : Away (∀ w1 : World, Calls Tryd.prog 24 #[.agg F] w1 fun e w' => e = .returned (.bool true) ∧ Below w1.heap.size w1 w') := ⟨fun w1 => by
                have h1 := fright.right_any (qj k) w1
                rw [(same_iff 256 _ _).2 (fun i _ => by have := Hred.out k i; omega), HF.out] at h1
                exact h1⟩
              obtain ⟨W11, hW11⟩ : ∃ x, wr.alloc (.cells F 36) = x := ⟨_, rfl⟩
              obtain ⟨r11, hs11, b11⟩ := one hW11
              have HW11 := Away.mk hW11
              have R11 := Away.mk r11
              have D11 : Away (Below wo.heap.size wo W11) := ⟨Hc.out.trans (b11.mono Hc.out.size)⟩
              have Hklt := Away.mk hklt
              clear hcs hW11 r11 hs11 b11
              go_wp2_with (first
                | ((with_reducible refine wpList_load_mid rfl 36 _ rfl aj o6 ?hx F.toList _ hrg.out Tryd.underlying36 rfl ?hi ?_); (case hx => rfl); (case hi => rw [Array.length_toList]; exact Fi.out))
                | (refine wpList_store_new rfl 36 _ _ rfl F rfl rfl Fi.out (by exact Fz.out) Fo.out rfl ?_)
                | (rw [HW11.out])
                | (refine wpList_load_row rfl 36 _ rfl wr.heap.size rfl 36 F (0, 0) _ R11.out Tryd.underlying36 rfl Fi.out ?_))
              refine (HR1.out _).mono ?_
              rintro e0 w13 ⟨rfl, hb13⟩
              have D13 : Away (Below wo.heap.size wo w13) := ⟨D11.out.trans (hb13.mono D11.out.size)⟩
              clear hb13
              go_wp2_with fail
              go_roundw
              case rel => exact ⟨k + 1, by have := Hklt.out; omega, by go_num, D13⟩
              case measure => have := Hklt.out; simp [intOf]; omega
            · obtain rfl : k = mj := by omega
              have D13 : Away (Below W9.heap.size W9 wr) := ⟨Hb.out.trans (Hc.out.mono Hb.out.size)⟩
              go_wp2_with fail
              go_roundw
              case rel => exact ⟨j + 1, by have := Hlt.out; omega, by go_num, D13⟩
              case measure => have := Hlt.out; simp [intOf]; omega
        · obtain rfl : j = 4 := by omega
          simp only [Int.cast_ofNat_Int]
          have BZ : Away (Below w.heap.size w wo) := ⟨B9.out.trans (Hb.out.mono B9.out.size)⟩
          have D6 : Away (Below W6.heap.size W6 wo) := ⟨H69.out.trans (Hb.out.mono H69.out.size)⟩
          have KC : Away (∀ w' : World, Below wo.heap.size wo w' → w'.heap[w3.heap.size]? = some (.cells C 41 (0, 0))) := ⟨fun w' hb => (hb.block _ (by have := D6.out.size; have := lt_of_row L6.out; omega)).trans ((D6.out.block _ (lt_of_row L6.out)).trans L6.out)⟩
          have KX : Away (∀ w' : World, Below wo.heap.size wo w' → w'.heap[w6.heap.size]? = some (.cells X 36 (0, 0))) := ⟨fun w' hb => (hb.block _ (by have := D6.out.size; have := lt_of_row X6.out; omega)).trans ((D6.out.block _ (lt_of_row X6.out)).trans X6.out)⟩
          have K0 : Away (∀ w' : World, Below wo.heap.size wo w' → w'.cell? ⟨w3.heap.size, 0, none⟩ = some (.int .i64 (kn : Int))) := ⟨fun w' hb => cell_at (KC.out w' hb) (by rw [HCe.out]; rfl)⟩
          have K1 : Away (∀ w' : World, Below wo.heap.size wo w' → w'.cell? ⟨w3.heap.size, 1, none⟩ = some (.int .i64 (ln : Int))) := ⟨fun w' hb => cell_at (KC.out w' hb) (by rw [HCe.out]; rfl)⟩
          have K2 : Away (∀ w' : World, Below wo.heap.size wo w' → w'.cell? ⟨w3.heap.size, 2, none⟩ = some (.int .i64 e)) := ⟨fun w' hb => cell_at (KC.out w' hb) (by rw [HCe.out]; rfl)⟩
          have K3 : Away (∀ w' : World, Below wo.heap.size wo w' → w'.cell? ⟨w3.heap.size, 3, none⟩ = some (.int .i64 (tau : Int))) := ⟨fun w' hb => cell_at (KC.out w' hb) (by rw [HCe.out]; rfl)⟩
          have K4 : Away (∀ w' : World, Below wo.heap.size wo w' → w'.cell? ⟨w3.heap.size, 4, none⟩ = some (.int .i64 a)) := ⟨fun w' hb => cell_at (KC.out w' hb) (by rw [HCe.out]; rfl)⟩
          have U1 := Away.mk (V1.out.later Hb.out)
          have U2 := Away.mk (V2.out.later Hb.out)
          have U3 := Away.mk (V3.out.later Hb.out)
          have hl8 : ln ≤ 8 := by
            rcases U1.out with ⟨h0, -⟩ | ⟨-, h8, -⟩
            · omega
            · exact h8
          have hk8 : kn ≤ 8 := by
            rcases U2.out with ⟨h0, -⟩ | ⟨-, h8, -⟩
            · omega
            · exact h8
          have HZ1 : Away (∀ w' : World, Below wo.heap.size wo w' → Calls Tryd.prog 25 #[.slice (some ⟨a1, 0, none⟩) ln k1] w' fun e w'' => e = .returned (.int .i64 (cbs q1 ln)) ∧ w'' = w') := ⟨fun w' hb => fsize.size_any a1 ln k1 q1 w' (by omega) (fun j hj i hi => sl_cells (U1.out.later hb) j hj i hi)⟩
          have HZ2 : Away (∀ w' : World, Below wo.heap.size wo w' → Calls Tryd.prog 25 #[.slice (some ⟨a2, 0, none⟩) kn k2] w' fun e w'' => e = .returned (.int .i64 (cbs q2 kn)) ∧ w'' = w') := ⟨fun w' hb => fsize.size_any a2 kn k2 q2 w' (by omega) (fun j hj i hi => sl_cells (U2.out.later hb) j hj i hi)⟩
          have HZ3 : Away (∀ w' : World, Below wo.heap.size wo w' → Calls Tryd.prog 25 #[.slice (some ⟨a3, 0, none⟩) ln k3] w' fun e w'' => e = .returned (.int .i64 (cbs q3 ln)) ∧ w'' = w') := ⟨fun w' hb => fsize.size_any a3 ln k3 q3 w' (by omega) (fun j hj i hi => sl_cells (U3.out.later hb) j hj i hi)⟩
          have g1 := Hs1.out
          have g2 := Hs2.out
          have g3 := Hs3.out
          have g4 := Hsh.out
          obtain ⟨S1, hS1⟩ : ∃ S, cbs q1 ln = S := ⟨_, rfl⟩
          obtain ⟨S2, hS2⟩ : ∃ S, cbs q2 kn = S := ⟨_, rfl⟩
          obtain ⟨S3, hS3⟩ : ∃ S, cbs q3 ln = S := ⟨_, rfl⟩
          obtain ⟨S4, hS4⟩ : ∃ S, cbs (fun _ => h) 1 = S := ⟨_, rfl⟩
          rw [hS1] at HZ1 g1
          rw [hS2] at HZ2 g2
          rw [hS3] at HZ3 g3
          rw [hS4] at g4
          have HS4 := Away.mk hS4
          have d1 : decide (S1 ≤ e) = true := decide_eq_true g1
          have d2 : decide (S2 ≤ e) = true := decide_eq_true g2
          have d3 : decide (S3 ≤ a) = true := decide_eq_true g3
          have d4 : decide (S4 ≤ 1) = true := decide_eq_true g4
          have g5 : (n : Int) ≤ (tau : Int) := by have := Hnt.out; rw [Hnn.out] at this; omega
          have d5 : decide ((n : Int) ≤ (tau : Int)) = true := decide_eq_true g5
          have d6 : decide (n ≤ tau) = true := decide_eq_true (by omega)
          clear hS1 hS2 hS3 hS4 Hs1 Hs2 Hs3 Hsh GL V4 Hg9
          go_wp2_with fail
          refine hk_begin wo.heap.size 60 [0, 1, 2, 3, 5, 6, 4, 7, 8, 9, 10, 12, 13, 11, 14, 15, 16, 17, 19, 20, 18, 21, 22, 23, 24, 26, 27, 25, 28, 29, 30, 31, 33, 34, 32, 35, 36, 37, 38, 40, 41, 39, 42, 43, 44, 45, 46, 47, 48, 49, 50, 51, 52, 53, 54, 55, 56, 57, 58, 59] (by kernel_rfl) rfl rfl (by decide) (fun hS ops HO => ?_)
          simp only [List.filterMap_cons, List.filterMap_nil, List.getElem?_cons_succ, List.getElem?_cons_zero]
          (focus (refine hk_take (v := ?_) (by rw [← HO.out]; kernel_rfl) (by rw [← HO.out]; kernel_rfl) (by rw [← HO.out]; kernel_rfl) (by rw [← HO.out]; kernel_rfl) (fun _ _ _ h => h) ?_ hS ?_; rotate_left; focus (intro w9 h9; go_simp; first | done | with_reducible rfl); all_goals skip))
          simp only [Act.put, List.setIfInBounds_toArray, List.set_cons_zero, List.set_cons_succ]
          (focus (refine hk_take (v := ?_) (by rw [← HO.out]; kernel_rfl) (by rw [← HO.out]; kernel_rfl) (by rw [← HO.out]; kernel_rfl) (by rw [← HO.out]; kernel_rfl) (fun _ _ _ h => h) ?_ hS ?_; rotate_left; focus (intro w9 h9; go_simp; first | done | with_reducible rfl); all_goals skip))
          simp only [Act.put, List.setIfInBounds_toArray, List.set_cons_zero, List.set_cons_succ]
          (focus (refine hk_take (v := ?_) (by rw [← HO.out]; kernel_rfl) (by rw [← HO.out]; kernel_rfl) (by rw [← HO.out]; kernel_rfl) (by rw [← HO.out]; kernel_rfl) (fun _ _ _ h => h) ?_ hS ?_; rotate_left; focus (intro w9 h9; go_simp; first | done | with_reducible rfl); all_goals skip))
          simp only [Act.put, List.setIfInBounds_toArray, List.set_cons_zero, List.set_cons_succ]
          (focus (refine hk_take (v := ?_) (by rw [← HO.out]; kernel_rfl) (by rw [← HO.out]; kernel_rfl) (by rw [← HO.out]; kernel_rfl) (by rw [← HO.out]; kernel_rfl) (fun _ _ _ h => h) ?_ hS ?_; rotate_left; focus (intro w9 h9; go_simp; first | done | with_reducible rfl); all_goals skip))
          simp only [Act.put, List.setIfInBounds_toArray, List.set_cons_zero, List.set_cons_succ]
          (focus (refine hk_take (v := ?_) (by rw [← HO.out]; kernel_rfl) (by rw [← HO.out]; kernel_rfl) (by rw [← HO.out]; kernel_rfl) (by rw [← HO.out]; kernel_rfl) (fun _ _ _ h => h) ?_ hS ?_; rotate_left; focus (intro w9 h9; go_simp; first | done | with_reducible rfl); all_goals skip))
          simp only [Act.put, List.setIfInBounds_toArray, List.set_cons_zero, List.set_cons_succ]
          (focus (refine hk_take (v := ?_) (by rw [← HO.out]; kernel_rfl) (by rw [← HO.out]; kernel_rfl) (by rw [← HO.out]; kernel_rfl) (by rw [← HO.out]; kernel_rfl) (fun _ _ _ h => h) ?_ hS ?_; rotate_left; focus (intro w9 h9; have hc := K1.out w9 h9; go_simp; first | done | with_reducible rfl); all_goals skip))
          simp only [Act.put, List.setIfInBounds_toArray, List.set_cons_zero, List.set_cons_succ]
          (focus (refine hk_take (v := ?_) (by rw [← HO.out]; kernel_rfl) (by rw [← HO.out]; kernel_rfl) (by rw [← HO.out]; kernel_rfl) (by rw [← HO.out]; kernel_rfl) (fun _ _ _ h => h) ?_ hS ?_; rotate_left; focus (intro w9 h9; go_simp; first | done | with_reducible rfl); all_goals skip))
          simp only [Act.put, List.setIfInBounds_toArray, List.set_cons_zero, List.set_cons_succ]
          (focus (refine hk_take (v := ?_) (by rw [← HO.out]; kernel_rfl) (by rw [← HO.out]; kernel_rfl) (by rw [← HO.out]; kernel_rfl) (by rw [← HO.out]; kernel_rfl) (fun _ _ _ h => h) ?_ hS ?_; rotate_left; focus (intro w9 h9; go_simp; first | done | with_reducible rfl); all_goals skip))
          simp only [Act.put, List.setIfInBounds_toArray, List.set_cons_zero, List.set_cons_succ]
          (focus (refine hk_take (v := ?_) (by rw [← HO.out]; kernel_rfl) (by rw [← HO.out]; kernel_rfl) (by rw [← HO.out]; kernel_rfl) (by rw [← HO.out]; kernel_rfl) (fun _ _ _ h => h) ?_ hS ?_; rotate_left; focus (intro w9 h9; go_simp; first | done | with_reducible rfl); all_goals skip))
          simp only [Act.put, List.setIfInBounds_toArray, List.set_cons_zero, List.set_cons_succ]
          (focus (refine hk_take (v := ?_) (by rw [← HO.out]; kernel_rfl) (by rw [← HO.out]; kernel_rfl) (by rw [← HO.out]; kernel_rfl) (by rw [← HO.out]; kernel_rfl) (fun _ _ _ h => h) ?_ hS ?_; rotate_left; focus (intro w9 h9; go_simp; first | done | with_reducible rfl); all_goals skip))
          simp only [Act.put, List.setIfInBounds_toArray, List.set_cons_zero, List.set_cons_succ]
          (focus (refine hk_take (v := ?_) (by rw [← HO.out]; kernel_rfl) (by rw [← HO.out]; kernel_rfl) (by rw [← HO.out]; kernel_rfl) (by rw [← HO.out]; kernel_rfl) (fun _ _ _ h => h) ?_ hS ?_; rotate_left; focus (intro w9 h9; go_simp; first | done | with_reducible rfl); all_goals skip))
          simp only [Act.put, List.setIfInBounds_toArray, List.set_cons_zero, List.set_cons_succ]
          (focus (refine hk_take (v := ?_) (by rw [← HO.out]; kernel_rfl) (by rw [← HO.out]; kernel_rfl) (by rw [← HO.out]; kernel_rfl) (by rw [← HO.out]; kernel_rfl) (fun _ _ _ h => h) ?_ hS ?_; rotate_left; focus (intro w9 h9; go_simp; first | done | with_reducible rfl); all_goals skip))
          simp only [Act.put, List.setIfInBounds_toArray, List.set_cons_zero, List.set_cons_succ]
          (focus (refine hk_take (v := ?_) (by rw [← HO.out]; kernel_rfl) (by rw [← HO.out]; kernel_rfl) (by rw [← HO.out]; kernel_rfl) (by rw [← HO.out]; kernel_rfl) (fun _ _ _ h => h) ?_ hS ?_; rotate_left; focus (intro w9 h9; have hc := K0.out w9 h9; go_simp; first | done | with_reducible rfl); all_goals skip))
          simp only [Act.put, List.setIfInBounds_toArray, List.set_cons_zero, List.set_cons_succ]
          (focus (refine hk_take (v := ?_) (by rw [← HO.out]; kernel_rfl) (by rw [← HO.out]; kernel_rfl) (by rw [← HO.out]; kernel_rfl) (by rw [← HO.out]; kernel_rfl) (fun _ _ _ h => h) ?_ hS ?_; rotate_left; focus (intro w9 h9; go_simp; first | done | with_reducible rfl); all_goals skip))
          simp only [Act.put, List.setIfInBounds_toArray, List.set_cons_zero, List.set_cons_succ]
          (focus (refine hk_take (v := ?_) (by rw [← HO.out]; kernel_rfl) (by rw [← HO.out]; kernel_rfl) (by rw [← HO.out]; kernel_rfl) (by rw [← HO.out]; kernel_rfl) (fun _ _ _ h => h) ?_ hS ?_; rotate_left; focus (intro w9 h9; go_simp; first | done | with_reducible rfl); all_goals skip))
          simp only [Act.put, List.setIfInBounds_toArray, List.set_cons_zero, List.set_cons_succ]
          (focus (refine hk_take (v := ?_) (by rw [← HO.out]; kernel_rfl) (by rw [← HO.out]; kernel_rfl) (by rw [← HO.out]; kernel_rfl) (by rw [← HO.out]; kernel_rfl) (fun _ _ _ h => h) ?_ hS ?_; rotate_left; focus (intro w9 h9; go_simp; first | done | with_reducible rfl); all_goals skip))
          simp only [Act.put, List.setIfInBounds_toArray, List.set_cons_zero, List.set_cons_succ]
          (focus (refine hk_take (v := ?_) (by rw [← HO.out]; kernel_rfl) (by rw [← HO.out]; kernel_rfl) (by rw [← HO.out]; kernel_rfl) (by rw [← HO.out]; kernel_rfl) (fun _ _ _ h => h) ?_ hS ?_; rotate_left; focus (intro w9 h9; go_simp; first | done | with_reducible rfl); all_goals skip))
          simp only [Act.put, List.setIfInBounds_toArray, List.set_cons_zero, List.set_cons_succ]
          (focus (refine hk_take (v := ?_) (by rw [← HO.out]; kernel_rfl) (by rw [← HO.out]; kernel_rfl) (by rw [← HO.out]; kernel_rfl) (by rw [← HO.out]; kernel_rfl) (fun _ _ _ h => h) ?_ hS ?_; rotate_left; focus (intro w9 h9; go_simp; first | done | with_reducible rfl); all_goals skip))
          simp only [Act.put, List.setIfInBounds_toArray, List.set_cons_zero, List.set_cons_succ]
          (focus (refine hk_take (v := ?_) (by rw [← HO.out]; kernel_rfl) (by rw [← HO.out]; kernel_rfl) (by rw [← HO.out]; kernel_rfl) (by rw [← HO.out]; kernel_rfl) (fun _ _ _ h => h) ?_ hS ?_; rotate_left; focus (intro w9 h9; go_simp; first | done | with_reducible rfl); all_goals skip))
          simp only [Act.put, List.setIfInBounds_toArray, List.set_cons_zero, List.set_cons_succ]
          (focus (refine hk_take (v := ?_) (by rw [← HO.out]; kernel_rfl) (by rw [← HO.out]; kernel_rfl) (by rw [← HO.out]; kernel_rfl) (by rw [← HO.out]; kernel_rfl) (fun _ _ _ h => h) ?_ hS ?_; rotate_left; focus (intro w9 h9; have hc := K1.out w9 h9; go_simp; first | done | with_reducible rfl); all_goals skip))
          simp only [Act.put, List.setIfInBounds_toArray, List.set_cons_zero, List.set_cons_succ]
          (focus (refine hk_take (v := ?_) (by rw [← HO.out]; kernel_rfl) (by rw [← HO.out]; kernel_rfl) (by rw [← HO.out]; kernel_rfl) (by rw [← HO.out]; kernel_rfl) (fun _ _ _ h => h) ?_ hS ?_; rotate_left; focus (intro w9 h9; go_simp; first | done | with_reducible rfl); all_goals skip))
          simp only [Act.put, List.setIfInBounds_toArray, List.set_cons_zero, List.set_cons_succ]
          (focus (refine hk_take (v := ?_) (by rw [← HO.out]; kernel_rfl) (by rw [← HO.out]; kernel_rfl) (by rw [← HO.out]; kernel_rfl) (by rw [← HO.out]; kernel_rfl) (fun _ _ _ h => h) ?_ hS ?_; rotate_left; focus (intro w9 h9; go_simp; first | done | with_reducible rfl); all_goals skip))
          simp only [Act.put, List.setIfInBounds_toArray, List.set_cons_zero, List.set_cons_succ]
          (focus (refine hk_take (v := ?_) (by rw [← HO.out]; kernel_rfl) (by rw [← HO.out]; kernel_rfl) (by rw [← HO.out]; kernel_rfl) (by rw [← HO.out]; kernel_rfl) (fun _ _ _ h => h) ?_ hS ?_; rotate_left; focus (intro w9 h9; go_simp; first | done | with_reducible rfl); all_goals skip))
          simp only [Act.put, List.setIfInBounds_toArray, List.set_cons_zero, List.set_cons_succ]
          (focus (refine hk_take (v := ?_) (by rw [← HO.out]; kernel_rfl) (by rw [← HO.out]; kernel_rfl) (by rw [← HO.out]; kernel_rfl) (by rw [← HO.out]; kernel_rfl) (fun _ _ _ h => h) ?_ hS ?_; rotate_left; focus (intro w9 h9; go_simp; first | done | with_reducible rfl); all_goals skip))
          simp only [Act.put, List.setIfInBounds_toArray, List.set_cons_zero, List.set_cons_succ]
          (focus (refine hk_take (v := ?_) (by rw [← HO.out]; kernel_rfl) (by rw [← HO.out]; kernel_rfl) (by rw [← HO.out]; kernel_rfl) (by rw [← HO.out]; kernel_rfl) (fun _ _ _ h => h) ?_ hS ?_; rotate_left; focus (intro w9 h9; go_simp; first | done | with_reducible rfl); all_goals skip))
          simp only [Act.put, List.setIfInBounds_toArray, List.set_cons_zero, List.set_cons_succ]
          (focus (refine hk_take (v := ?_) (by rw [← HO.out]; kernel_rfl) (by rw [← HO.out]; kernel_rfl) (by rw [← HO.out]; kernel_rfl) (by rw [← HO.out]; kernel_rfl) (fun _ _ _ h => h) ?_ hS ?_; rotate_left; focus (intro w9 h9; go_simp; first | done | with_reducible rfl); all_goals skip))
          simp only [Act.put, List.setIfInBounds_toArray, List.set_cons_zero, List.set_cons_succ]
          (focus (refine hk_take (v := ?_) (by rw [← HO.out]; kernel_rfl) (by rw [← HO.out]; kernel_rfl) (by rw [← HO.out]; kernel_rfl) (by rw [← HO.out]; kernel_rfl) (fun _ _ _ h => h) ?_ hS ?_; rotate_left; focus (intro w9 h9; have hc := K2.out w9 h9; go_simp; first | done | with_reducible rfl); all_goals skip))
          simp only [Act.put, List.setIfInBounds_toArray, List.set_cons_zero, List.set_cons_succ]
          refine hk_step (by rw [← HO.out]; kernel_rfl) (by rw [← HO.out]; kernel_rfl) (fun K hK => ?_)
          go_simp
          refine (HZ1.out _ hS).mono ?_
          rintro e0 w21 ⟨rfl, hw⟩
          have hq : Below wo.heap.size wo w21 := by rw [hw]; exact hS
          clear hw
          refine hK _ _ hq ?_
          clear hK K 
          have h21 := hq
          clear hq
          (focus (refine hk_take (v := ?_) (by rw [← HO.out]; kernel_rfl) (by rw [← HO.out]; kernel_rfl) (by rw [← HO.out]; kernel_rfl) (by rw [← HO.out]; kernel_rfl) (fun _ _ _ h => h) ?_ h21 ?_; rotate_left; focus (intro w9 h9; go_simp; first | done | with_reducible rfl); all_goals skip))
          simp only [Act.put, List.setIfInBounds_toArray, List.set_cons_zero, List.set_cons_succ]
          (focus (refine hk_take (v := ?_) (by rw [← HO.out]; kernel_rfl) (by rw [← HO.out]; kernel_rfl) (by rw [← HO.out]; kernel_rfl) (by rw [← HO.out]; kernel_rfl) (fun _ _ _ h => h) ?_ h21 ?_; rotate_left; focus (intro w9 h9; go_simp; first | done | with_reducible rfl); all_goals skip))
          simp only [Act.put, List.setIfInBounds_toArray, List.set_cons_zero, List.set_cons_succ]
          (focus (refine hk_take (v := ?_) (by rw [← HO.out]; kernel_rfl) (by rw [← HO.out]; kernel_rfl) (by rw [← HO.out]; kernel_rfl) (by rw [← HO.out]; kernel_rfl) (fun _ _ _ h => h) ?_ h21 ?_; rotate_left; focus (intro w9 h9; go_simp; first | done | with_reducible rfl); all_goals skip))
          simp only [Act.put, List.setIfInBounds_toArray, List.set_cons_zero, List.set_cons_succ]
          (focus (refine hk_take (v := ?_) (by rw [← HO.out]; kernel_rfl) (by rw [← HO.out]; kernel_rfl) (by rw [← HO.out]; kernel_rfl) (by rw [← HO.out]; kernel_rfl) (fun _ _ _ h => h) ?_ h21 ?_; rotate_left; focus (intro w9 h9; go_simp; first | done | with_reducible rfl); all_goals skip))
          simp only [Act.put, List.setIfInBounds_toArray, List.set_cons_zero, List.set_cons_succ]
          (focus (refine hk_take (v := ?_) (by rw [← HO.out]; kernel_rfl) (by rw [← HO.out]; kernel_rfl) (by rw [← HO.out]; kernel_rfl) (by rw [← HO.out]; kernel_rfl) (fun _ _ _ h => h) ?_ h21 ?_; rotate_left; focus (intro w9 h9; go_simp; first | done | with_reducible rfl); all_goals skip))
          simp only [Act.put, List.setIfInBounds_toArray, List.set_cons_zero, List.set_cons_succ]
          (focus (refine hk_take (v := ?_) (by rw [← HO.out]; kernel_rfl) (by rw [← HO.out]; kernel_rfl) (by rw [← HO.out]; kernel_rfl) (by rw [← HO.out]; kernel_rfl) (fun _ _ _ h => h) ?_ h21 ?_; rotate_left; focus (intro w9 h9; have hc := K2.out w9 h9; go_simp; first | done | with_reducible rfl); all_goals skip))
          simp only [Act.put, List.setIfInBounds_toArray, List.set_cons_zero, List.set_cons_succ]
          refine hk_step (by rw [← HO.out]; kernel_rfl) (by rw [← HO.out]; kernel_rfl) (fun K hK => ?_)
          go_simp
          refine (HZ2.out _ h21).mono ?_
          rintro e0 w22 ⟨rfl, hw⟩
          have hq : Below wo.heap.size wo w22 := by rw [hw]; exact h21
          clear hw
          refine hK _ _ hq ?_
          clear hK K h21
          have h22 := hq
          clear hq
          (focus (refine hk_take (v := ?_) (by rw [← HO.out]; kernel_rfl) (by rw [← HO.out]; kernel_rfl) (by rw [← HO.out]; kernel_rfl) (by rw [← HO.out]; kernel_rfl) (fun _ _ _ h => h) ?_ h22 ?_; rotate_left; focus (intro w9 h9; go_simp; first | done | with_reducible rfl); all_goals skip))
          simp only [Act.put, List.setIfInBounds_toArray, List.set_cons_zero, List.set_cons_succ]
          (focus (refine hk_take (v := ?_) (by rw [← HO.out]; kernel_rfl) (by rw [← HO.out]; kernel_rfl) (by rw [← HO.out]; kernel_rfl) (by rw [← HO.out]; kernel_rfl) (fun _ _ _ h => h) ?_ h22 ?_; rotate_left; focus (intro w9 h9; go_simp; first | done | with_reducible rfl); all_goals skip))
          simp only [Act.put, List.setIfInBounds_toArray, List.set_cons_zero, List.set_cons_succ]
          (focus (refine hk_take (v := ?_) (by rw [← HO.out]; kernel_rfl) (by rw [← HO.out]; kernel_rfl) (by rw [← HO.out]; kernel_rfl) (by rw [← HO.out]; kernel_rfl) (fun _ _ _ h => h) ?_ h22 ?_; rotate_left; focus (intro w9 h9; go_simp; first | done | with_reducible rfl); all_goals skip))
          simp only [Act.put, List.setIfInBounds_toArray, List.set_cons_zero, List.set_cons_succ]
          (focus (refine hk_take (v := ?_) (by rw [← HO.out]; kernel_rfl) (by rw [← HO.out]; kernel_rfl) (by rw [← HO.out]; kernel_rfl) (by rw [← HO.out]; kernel_rfl) (fun _ _ _ h => h) ?_ h22 ?_; rotate_left; focus (intro w9 h9; go_simp; first | done | with_reducible rfl); all_goals skip))
          simp only [Act.put, List.setIfInBounds_toArray, List.set_cons_zero, List.set_cons_succ]
          (focus (refine hk_take (v := ?_) (by rw [← HO.out]; kernel_rfl) (by rw [← HO.out]; kernel_rfl) (by rw [← HO.out]; kernel_rfl) (by rw [← HO.out]; kernel_rfl) (fun _ _ _ h => h) ?_ h22 ?_; rotate_left; focus (intro w9 h9; go_simp; first | done | with_reducible rfl); all_goals skip))
          simp only [Act.put, List.setIfInBounds_toArray, List.set_cons_zero, List.set_cons_succ]
          (focus (refine hk_take (v := ?_) (by rw [← HO.out]; kernel_rfl) (by rw [← HO.out]; kernel_rfl) (by rw [← HO.out]; kernel_rfl) (by rw [← HO.out]; kernel_rfl) (fun _ _ _ h => h) ?_ h22 ?_; rotate_left; focus (intro w9 h9; have hc := K4.out w9 h9; go_simp; first | done | with_reducible rfl); all_goals skip))
          simp only [Act.put, List.setIfInBounds_toArray, List.set_cons_zero, List.set_cons_succ]
          refine hk_step (by rw [← HO.out]; kernel_rfl) (by rw [← HO.out]; kernel_rfl) (fun K hK => ?_)
          go_simp
          refine (HZ3.out _ h22).mono ?_
          rintro e0 w23 ⟨rfl, hw⟩
          have hq : Below wo.heap.size wo w23 := by rw [hw]; exact h22
          clear hw
          refine hK _ _ hq ?_
          clear hK K h22
          have h23 := hq
          clear hq
          (focus (refine hk_take (v := ?_) (by rw [← HO.out]; kernel_rfl) (by rw [← HO.out]; kernel_rfl) (by rw [← HO.out]; kernel_rfl) (by rw [← HO.out]; kernel_rfl) (fun _ _ _ h => h) ?_ h23 ?_; rotate_left; focus (intro w9 h9; go_simp; first | done | with_reducible rfl); all_goals skip))
          simp only [Act.put, List.setIfInBounds_toArray, List.set_cons_zero, List.set_cons_succ]
          (focus (refine hk_take (v := ?_) (by rw [← HO.out]; kernel_rfl) (by rw [← HO.out]; kernel_rfl) (by rw [← HO.out]; kernel_rfl) (by rw [← HO.out]; kernel_rfl) (fun _ _ _ h => h) ?_ h23 ?_; rotate_left; focus (intro w9 h9; go_simp; first | done | with_reducible rfl); all_goals skip))
          simp only [Act.put, List.setIfInBounds_toArray, List.set_cons_zero, List.set_cons_succ]
          (focus (refine hk_take (v := ?_) (by rw [← HO.out]; kernel_rfl) (by rw [← HO.out]; kernel_rfl) (by rw [← HO.out]; kernel_rfl) (by rw [← HO.out]; kernel_rfl) (fun _ _ _ h => h) ?_ h23 ?_; rotate_left; focus (intro w9 h9; go_simp; first | done | with_reducible rfl); all_goals skip))
          simp only [Act.put, List.setIfInBounds_toArray, List.set_cons_zero, List.set_cons_succ]
          (focus (refine hk_take (v := ?_) (by rw [← HO.out]; kernel_rfl) (by rw [← HO.out]; kernel_rfl) (by rw [← HO.out]; kernel_rfl) (by rw [← HO.out]; kernel_rfl) (fun _ _ _ h => h) ?_ h23 ?_; rotate_left; focus (intro w9 h9; go_simp; first | done | with_reducible rfl); all_goals skip))
          simp only [Act.put, List.setIfInBounds_toArray, List.set_cons_zero, List.set_cons_succ]
          (focus (refine hk_take (v := ?_) (by rw [← HO.out]; kernel_rfl) (by rw [← HO.out]; kernel_rfl) (by rw [← HO.out]; kernel_rfl) (by rw [← HO.out]; kernel_rfl) (fun _ _ _ h => h) ?_ h23 ?_; rotate_left; focus (intro w9 h9; go_simp; first | done | with_reducible rfl); all_goals skip))
          simp only [Act.put, List.setIfInBounds_toArray, List.set_cons_zero, List.set_cons_succ]
          (focus (refine hk_take (v := ?_) (by rw [← HO.out]; kernel_rfl) (by rw [← HO.out]; kernel_rfl) (by rw [← HO.out]; kernel_rfl) (by rw [← HO.out]; kernel_rfl) (fun _ _ _ h => h) ?_ h23 ?_; rotate_left; focus (intro w9 h9; have hc := K3.out w9 h9; go_simp; first | done | with_reducible rfl); all_goals skip))
          simp only [Act.put, List.setIfInBounds_toArray, List.set_cons_zero, List.set_cons_succ]
          (focus (refine hk_take (v := ?_) (by rw [← HO.out]; kernel_rfl) (by rw [← HO.out]; kernel_rfl) (by rw [← HO.out]; kernel_rfl) (by rw [← HO.out]; kernel_rfl) (fun _ _ _ h => h) ?_ h23 ?_; rotate_left; focus (intro w9 h9; go_simp; first | done | with_reducible rfl); all_goals skip))
          simp only [Act.put, List.setIfInBounds_toArray, List.set_cons_zero, List.set_cons_succ]
          (focus (refine hk_take (v := ?_) (by rw [← HO.out]; kernel_rfl) (by rw [← HO.out]; kernel_rfl) (by rw [← HO.out]; kernel_rfl) (by rw [← HO.out]; kernel_rfl) (fun _ _ _ h => h) ?_ h23 ?_; rotate_left; focus (intro w9 h9; go_simp; first | done | with_reducible rfl); all_goals skip))
          simp only [Act.put, List.setIfInBounds_toArray, List.set_cons_zero, List.set_cons_succ]
          (focus (refine hk_take (v := ?_) (by rw [← HO.out]; kernel_rfl) (by rw [← HO.out]; kernel_rfl) (by rw [← HO.out]; kernel_rfl) (by rw [← HO.out]; kernel_rfl) (fun _ _ _ h => h) ?_ h23 ?_; rotate_left; focus (intro w9 h9; go_simp; first | done | with_reducible rfl); all_goals skip))
          simp only [Act.put, List.setIfInBounds_toArray, List.set_cons_zero, List.set_cons_succ]
          refine hk_load (by rw [← HO.out]; kernel_rfl) (by rw [← HO.out]; kernel_rfl) (by rw [← HO.out]; kernel_rfl) (by rw [← HO.out]; kernel_rfl) (fun _ _ _ _ h => h) 36 _ rfl w6.heap.size rfl 36 X _ KX.out Tryd.underlying36 rfl HXz.out h23 ?_
          simp only [Act.put, List.setIfInBounds_toArray, List.set_cons_zero, List.set_cons_succ]
          refine hk_step (by rw [← HO.out]; kernel_rfl) (by rw [← HO.out]; kernel_rfl) (fun K hK => ?_)
          refine wp_buildSlice 44 36 1 _ rfl X i0 (.agg Zp) Tryd.underlying44 HI.out.1 HI.out.2.1 (by rw [HI.out.2.2.1]; decide) (by rw [HI.out.2.2.1]; decide) ?hf ?_
          case hf =>
            go_simp
            exact ⟨⟨decide_eq_false (fun h => h (HXs.out.trans HI.out.2.2.1.symm)), by rw [HXs.out, HI.out.2.2.1]; exact Nat.le_refl _⟩, fold_one X _ HXs.out (by simp [HI.out.2.2.1])⟩
          obtain ⟨W24, hW24⟩ : ∃ x, w23.alloc (.cells X 36) = x := ⟨_, rfl⟩
          obtain ⟨r24, hs24, b24⟩ := one hW24
          have h24 : Below wo.heap.size wo W24 := h23.trans (b24.mono h23.size)
          rw [hW24]
          refine hK _ _ h24 ?_
          clear hK K
          obtain ⟨gY, hgY⟩ : ∃ x, w23.heap.size = x := ⟨_, rfl⟩
          rw [hgY] at r24 ⊢
          simp only [Act.put, List.setIfInBounds_toArray, List.set_cons_zero, List.set_cons_succ]
          refine hk_step (by rw [← HO.out]; kernel_rfl) (by rw [← HO.out]; kernel_rfl) (fun K hK => ?_)
          go_simp
          refine (fsize.size_any gY 1 1 (fun _ => h) W24 (by decide) (fun j hj i hi => by
            obtain rfl : j = 0 := by omega
            rw [Nat.zero_mul, Nat.zero_add]
            refine cell_at r24 ?_
            rw [← HX.out]
            exact fl_get .i64 256 h i hi)).mono ?_
          rintro e0 w25 ⟨rfl, hw⟩
          have h25 : Below wo.heap.size wo w25 := by rw [hw]; exact h24
          rw [HS4.out]
          refine hK _ _ h25 ?_
          clear hK K hw
          (focus (refine hk_take (v := ?_) (by rw [← HO.out]; kernel_rfl) (by rw [← HO.out]; kernel_rfl) (by rw [← HO.out]; kernel_rfl) (by rw [← HO.out]; kernel_rfl) (fun _ _ _ h => h) ?_ h25 ?_; rotate_left; focus (intro w9 h9; go_simp; first | done | with_reducible rfl); all_goals skip))
          simp only [Act.put, List.setIfInBounds_toArray, List.set_cons_zero, List.set_cons_succ]
          (focus (refine hk_take (v := ?_) (by rw [← HO.out]; kernel_rfl) (by rw [← HO.out]; kernel_rfl) (by rw [← HO.out]; kernel_rfl) (by rw [← HO.out]; kernel_rfl) (fun _ _ _ h => h) ?_ h25 ?_; rotate_left; focus (intro w9 h9; go_simp; first | done | with_reducible rfl); all_goals skip))
          simp only [Act.put, List.setIfInBounds_toArray, List.set_cons_zero, List.set_cons_succ]
          (focus (refine hk_take (v := ?_) (by rw [← HO.out]; kernel_rfl) (by rw [← HO.out]; kernel_rfl) (by rw [← HO.out]; kernel_rfl) (by rw [← HO.out]; kernel_rfl) (fun _ _ _ h => h) ?_ h25 ?_; rotate_left; focus (intro w9 h9; go_simp; first | done | with_reducible rfl); all_goals skip))
          simp only [Act.put, List.setIfInBounds_toArray, List.set_cons_zero, List.set_cons_succ]
          refine hk_step (by rw [← HO.out]; kernel_rfl) (by rw [← HO.out]; kernel_rfl) (fun K hK => ?_)
          go_simp
          refine (HA.out _ (HP.out.later (BZ.out.trans (h25.mono BZ.out.size)))).mono ?_
          rintro e0 w26 ⟨rfl, hb26⟩
          have h26 : Below wo.heap.size wo w26 := h25.trans (hb26.mono h25.size)
          refine hK _ _ h26 ?_
          clear hK K hb26
          (focus (refine hk_take (v := ?_) (by rw [← HO.out]; kernel_rfl) (by rw [← HO.out]; kernel_rfl) (by rw [← HO.out]; kernel_rfl) (by rw [← HO.out]; kernel_rfl) (fun _ _ _ h => h) ?_ h26 ?_; rotate_left; focus (intro w9 h9; go_simp; first | done | with_reducible rfl); all_goals skip))
          simp only [Act.put, List.setIfInBounds_toArray, List.set_cons_zero, List.set_cons_succ]
          (focus (refine hk_take (v := ?_) (by rw [← HO.out]; kernel_rfl) (by rw [← HO.out]; kernel_rfl) (by rw [← HO.out]; kernel_rfl) (by rw [← HO.out]; kernel_rfl) (fun _ _ _ h => h) ?_ h26 ?_; rotate_left; focus (intro w9 h9; go_simp; first | done | with_reducible rfl); all_goals skip))
          simp only [Act.put, List.setIfInBounds_toArray, List.set_cons_zero, List.set_cons_succ]
          refine hk_nil (by rw [← HO.out]; kernel_rfl) ?_
          have BF : Away (Below w.heap.size w w26) := ⟨BZ.out.trans (h26.mono BZ.out.size)⟩
          go_wp2_with fail
          go_ret
          exact ⟨rfl, BF.out⟩
end Go.Proofs.YtjdcmnmnjkkpiaaDoor.small11
