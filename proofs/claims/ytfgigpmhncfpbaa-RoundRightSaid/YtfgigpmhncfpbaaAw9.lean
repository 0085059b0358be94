/-
  The law package's own look at round ('awake') returns true. Conditions: none.
-/
import Derived.Test.YtfgigpmhncfpbaaRSl
import Derived.Test.YtfgigpmhncfpbaaRHn
import Derived.Test.YtfgigpmhncfpbaaRUs
import Derived.Test.YtfgigpmhncfpbaaRSe
import Derived.Test.YtfgigpmhncfpbaaRRg
namespace Go.Proofs.Ytfgigpmhncfpbaa.awake9
open Go Go.RowKit
open Go.Proofs.Ytfgigpmhncfpbaa.arr Go.Proofs.Ytfgigpmhncfpbaa.mem Go.Proofs.Ytfgigpmhncfpbaa.stil Go.Proofs.Ytfgigpmhncfpbaa.polys Go.Proofs.Ytfgigpmhncfpbaa.polt Go.Proofs.Ytfgigpmhncfpbaa.fldm Go.Proofs.Ytfgigpmhncfpbaa.rndm

theorem wpList_load_want {P : Program} {ops : Array Oper} {w : World} {Q : Exit → Act → World → Prop} {rest : List Oper} {o : Oper} {a : Act} (hw : Region.wanted o (yielded ops a.tmps) = true) (ty : TypeId) (x : Operand) (ho : o.op = .load ty x)
    (g : Nat) (hx : a.eval x = .pointer (some ⟨g, 0, none⟩)) (t : TypeId) (cs : Array Value) (d : TypeDesc) (hg : w.heap[g]? = some (.cells cs t (0, 0)))
    (hu : P.underlying ty = some d) (hd : (match d with | .struct _ | .array _ _ => true | _ => false) = true) (hi : (P.info? ty).map (·.size) = some cs.size)
    (h : wpList P ops Q rest (a.put o.dst (.agg cs)) w) : wpList P ops Q (o :: rest) a w :=
  wpList_step fun K hK => by rw [if_pos hw]; exact wp_load_row ty x ho g hx t cs (0, 0) d hg hu hd hi (hK _ _ h)
theorem right_set1 (w1 : World) : Calls Try.prog 6 #[.agg set1] w1 fun e w' => e = .returned (.bool true) ∧ Below w1.heap.size w1 w' := by
  have h := rright.right_any 4 4 2 39 131072 95232 80 128 w1
  rw [show latt 4 4 2 39 131072 95232 80 128 = true from by decide] at h
  exact h
set_option maxRecDepth 100000 in
set_option maxHeartbeats 4000000 in
theorem awake_any (w : World) :
    Calls Try.prog 8 #[] w fun e w' => e = .returned (.bool true) ∧ Below w.heap.size w w' := by
  obtain ⟨hz, hsize⟩ := zero_of_info infoP
  obtain ⟨z, HZ⟩ := ex_eq (FL .i64 256 fun _ => 0)
  rw [HZ.out] at hz
  have Hzs : Away (z.size = 256) := ⟨by rw [← HZ.out]; exact fl_size _ _ _⟩
  obtain ⟨hy, hsizeL⟩ := zero_of_info rset.infoL
  obtain ⟨y, HY⟩ := ex_eq set0
  rw [HY.out] at hy
  have Hys : Away (y.size = 8) := ⟨by rw [← HY.out]; rfl⟩
  have sz : ∀ h : Nat → Int, (Try.prog.info? 30).map (·.size) = some (FL .i64 256 h).size := fun h => by rw [fl_size]; exact hsize
  obtain ⟨I, HI⟩ := ex_eq (FL .i64 256 (p2 8192 8191))
  obtain ⟨A, HA⟩ := ex_eq (FL .i64 256 fun i => sh (p2 8192 8191 i))
  obtain ⟨B, HB⟩ := ex_eq (FL .i64 256 fun i => sl (p2 8192 8191 i) % 8380417)
  obtain ⟨P, HP⟩ := ex_eq (FL .i64 256 (p1 95232))
  obtain ⟨D, HD⟩ := ex_eq (FL .i64 256 (p1 5))
  obtain ⟨H, HH⟩ := ex_eq (FL .i64 256 fun i => hn 95232 (p1 95232 i) (p1 5 i))
  obtain ⟨U, HU⟩ := ex_eq (FL .i64 256 fun i => us 95232 (hn 95232 (p1 95232 i) (p1 5 i)) (p1 5 i))
  obtain ⟨S, HS⟩ := ex_eq set1
  have Ai : Away ((Try.prog.info? 30).map (·.size) = some A.size) := ⟨by rw [← HA.out]; exact sz _⟩
  have Ao : Away (A.all (·.oneCell') = true) := ⟨by rw [← HA.out]; exact fl_one _ _ _⟩
  have Az : Away (z.size = A.size) := ⟨by rw [Hzs.out, ← HA.out, fl_size]⟩
  have Bi : Away ((Try.prog.info? 30).map (·.size) = some B.size) := ⟨by rw [← HB.out]; exact sz _⟩
  have Bo : Away (B.all (·.oneCell') = true) := ⟨by rw [← HB.out]; exact fl_one _ _ _⟩
  have Bz : Away (z.size = B.size) := ⟨by rw [Hzs.out, ← HB.out, fl_size]⟩
  have Hi : Away ((Try.prog.info? 30).map (·.size) = some H.size) := ⟨by rw [← HH.out]; exact sz _⟩
  have Ho : Away (H.all (·.oneCell') = true) := ⟨by rw [← HH.out]; exact fl_one _ _ _⟩
  have Hz0 : Away (z.size = H.size) := ⟨by rw [Hzs.out, ← HH.out, fl_size]⟩
  have Si : Away ((Try.prog.info? 23).map (·.size) = some S.size) := ⟨by rw [← HS.out]; exact hsizeL⟩
  have So : Away (S.all (·.oneCell') = true) := ⟨by rw [← HS.out]; simp [set1, Value.oneCell']⟩
  have Sz : Away (y.size = S.size) := ⟨by rw [Hys.out, ← HS.out]; rfl⟩
  have H1 : Away (∀ w1 : World, Calls Try.prog 9 #[.agg I] w1 fun e w' => e = .returned (.tuple #[.agg A, .agg B]) ∧ Below w1.heap.size w1 w') := ⟨fun w1 => by rw [← HI.out, ← HA.out, ← HB.out]; exact rsplit.split_any _ w1⟩
  have H2 : Away (∀ w1 : World, Calls Try.prog 17 #[.int .i64 8380416, .int .i64 95232] w1 fun e w' => e = .returned (.tuple #[.int .i64 0, .int .i64 (-1)]) ∧ w' = w1) := ⟨fun w1 => rpart.parts_any 8380416 95232 w1⟩
  have H3 : Away (∀ w1 : World, Calls Try.prog 5 #[.int .i64 1] w1 fun e w' => e = .returned (.tuple #[.agg S, .int .i64 0]) ∧ Below w1.heap.size w1 w') := ⟨fun w1 => by rw [← HS.out]; exact rset.set_1 w1⟩
  have H4 : Away (∀ w1 : World, Calls Try.prog 18 #[.agg P, .agg D, .int .i64 95232] w1 fun e w' => e = .returned (.agg H) ∧ Below w1.heap.size w1 w') := ⟨fun w1 => by rw [← HP.out, ← HD.out, ← HH.out]; exact rhint.hint_any _ _ _ w1⟩
  have H5 : Away (∀ w1 : World, Calls Try.prog 6 #[.agg S] w1 fun e w' => e = .returned (.bool true) ∧ Below w1.heap.size w1 w') := ⟨fun w1 => by rw [← HS.out]; exact right_set1 w1⟩
  have H6 : Away (∀ w1 : World, Calls Try.prog 19 #[.agg H, .agg D, .int .i64 95232] w1 fun e w' => e = .returned (.agg U) ∧ Below w1.heap.size w1 w') := ⟨fun w1 => by rw [← HH.out, ← HD.out, ← HU.out]; exact ruse.use_any _ _ _ w1⟩
  have HUi : Away (∀ w1 : World, (Instr.index 30 (.agg U) (.int .i64 0)).run Try.prog w1 = .ok (.int .i64 1) w1) := ⟨fun w1 => by
    have h := index_poly (fun i => us 95232 (hn 95232 (p1 95232 i) (p1 5 i)) (p1 5 i)) 0 (by decide) w1
    rw [HU.out] at h
    exact h⟩
  have a0 : Away (A[0]? = some (.int .i64 1)) := ⟨by rw [← HA.out]; exact fl_get .i64 256 _ 0 (by decide)⟩
  have a1 : Away (A[1]? = some (.int .i64 1)) := ⟨by rw [← HA.out]; exact fl_get .i64 256 _ 1 (by decide)⟩
  have b0 : Away (B[0]? = some (.int .i64 0)) := ⟨by rw [← HB.out]; exact fl_get .i64 256 _ 0 (by decide)⟩
  have b1 : Away (B[1]? = some (.int .i64 8380416)) := ⟨by rw [← HB.out]; exact fl_get .i64 256 _ 1 (by decide)⟩
  have h0 : Away (H[0]? = some (.int .i64 1)) := ⟨by rw [← HH.out]; exact fl_get .i64 256 _ 0 (by decide)⟩
  have s0 : Away (S[0]? = some (.int .i64 4)) := ⟨by rw [← HS.out]; rfl⟩
  have bi : Try.prog.built 30 [(0, .int .i64 8192), (1, .int .i64 8191)] = some I := by rw [← HI.out]; exact built2 _ _
  have bp : Try.prog.built 30 [(0, .int .i64 95232)] = some P := by rw [← HP.out]; exact built1 _
  have bd : Try.prog.built 30 [(0, .int .i64 5)] = some D := by rw [← HD.out]; exact built1 _
  have Hbi := Away.mk (And.intro bi (And.intro bp bd))
  have hne : ¬ z = #[] := fun h => by have := Hzs.out; rw [h] at this; cases this
  have bD : z.setIfInBounds 0 (.int .i64 5) = D := by rw [← HZ.out, fl_set, ← HD.out]; rfl
  have HbD := Away.mk (And.intro hne bD)
  have Hzz := Away.mk hz
  clear HI HA HB HP HD HH HU HS HY hsize hsizeL sz bi bp bd hne bD
  go_enter Try.func8, Try.ntmps8
  go_wp2_with (refine wpList_built2 rfl 30 _ _ _ _ rfl I Hbi.out.1 ?_)
  refine (H1.out _).mono ?_
  rintro e w1 ⟨rfl, hb1⟩
  obtain ⟨g, hg⟩ := ex_eq w1.heap.size
  obtain ⟨W, hW⟩ : ∃ x, (w1.alloc (.cells z 30)).alloc (.cells z 30) = x := ⟨_, rfl⟩
  obtain ⟨k0, k1, kS, kB⟩ := two hW
  have HW := Away.mk hW
  have E0 : Away (W.heap[w1.heap.size]? = some (.cells z 30 (0, 0))) := ⟨k0⟩
  have E1 : Away ((W.setRow w1.heap.size A).heap[w1.heap.size + 1]? = some (.cells z 30 (0, 0))) := ⟨(setRow_other _ _ _ _ (by omega)).trans k1⟩
  obtain ⟨V, hV⟩ : ∃ x, (W.setRow w1.heap.size A).setRow (w1.heap.size + 1) B = x := ⟨_, rfl⟩
  have V0 : Away (V.heap[w1.heap.size]? = some (.cells A 30 (0, 0))) := ⟨by rw [← hV]; exact (setRow_other _ _ _ _ (by omega)).trans (setRow_heap _ _ _ _ _ _ E0.out)⟩
  have V1 : Away (V.heap[w1.heap.size + 1]? = some (.cells B 30 (0, 0))) := ⟨by rw [← hV]; exact setRow_heap _ _ _ _ _ _ E1.out⟩
  have VB : Away (Below w.heap.size w V) := ⟨by rw [← hV]; exact ((hb1.trans (kB.mono hb1.size)).trans (below_setRow _ _ _ hb1.size)).trans (below_setRow _ _ _ (Nat.le_succ_of_le hb1.size))⟩
  have HV := Away.mk hV
  clear hW hV k0 k1 kS kB hb1 hg
  go_wp2_with (first
    | (rw [HW.out])
    | (refine wpList_store_row rfl 30 _ _ rfl w1.heap.size A rfl rfl 30 _ E0.out Ai.out Az.out Ao.out ?_)
    | (refine wpList_store_row rfl 30 _ _ rfl (w1.heap.size + 1) B rfl rfl 30 _ E1.out Bi.out Bz.out Bo.out ?_))
  rw [HV.out]
  clear HV E0 E1 HW
  refine (H2.out _).mono ?_
  rintro e wx ⟨rfl, rfl⟩
  go_wp2_with fail
  refine (H3.out _).mono ?_
  rintro e w3 ⟨rfl, hb3⟩
  have F0 : Away (w3.heap[w1.heap.size]? = some (.cells A 30 (0, 0))) := ⟨(hb3.block _ (lt_of_row V0.out)).trans V0.out⟩
  have F1 : Away (w3.heap[w1.heap.size + 1]? = some (.cells B 30 (0, 0))) := ⟨(hb3.block _ (lt_of_row V1.out)).trans V1.out⟩
  have FB : Away (Below w.heap.size w w3) := ⟨VB.out.trans (hb3.mono VB.out.size)⟩
  clear hb3 V0 V1 VB
  go_wp2_with (first
    | (refine wpList_store_new rfl 23 _ _ rfl _ rfl rfl Si.out Sz.out So.out rfl ?_)
    | (refine wpList_built1 rfl 30 _ _ rfl P Hbi.out.2.1 ?_)
    | (refine wpList_built1 rfl 30 _ _ rfl D Hbi.out.2.2 ?_))
  obtain ⟨X, hX⟩ : ∃ x, w3.alloc (.cells S 23) = x := ⟨_, rfl⟩
  obtain ⟨x0, xS, xB⟩ := one hX
  rw [hX]
  have X0 : Away (X.heap[w1.heap.size]? = some (.cells A 30 (0, 0))) := ⟨(xB.block _ (lt_of_row F0.out)).trans F0.out⟩
  have X1 : Away (X.heap[w1.heap.size + 1]? = some (.cells B 30 (0, 0))) := ⟨(xB.block _ (lt_of_row F1.out)).trans F1.out⟩
  have X2 : Away (X.heap[w3.heap.size]? = some (.cells S 23 (0, 0))) := ⟨x0⟩
  have XB : Away (Below w.heap.size w X) := ⟨FB.out.trans (xB.mono FB.out.size)⟩
  clear hX x0 xS xB F0 F1 FB
  refine (H4.out _).mono ?_
  rintro e w4 ⟨rfl, hb4⟩
  have G0 : Away (w4.heap[w1.heap.size]? = some (.cells A 30 (0, 0))) := ⟨(hb4.block _ (lt_of_row X0.out)).trans X0.out⟩
  have G1 : Away (w4.heap[w1.heap.size + 1]? = some (.cells B 30 (0, 0))) := ⟨(hb4.block _ (lt_of_row X1.out)).trans X1.out⟩
  have G2 : Away (w4.heap[w3.heap.size]? = some (.cells S 23 (0, 0))) := ⟨(hb4.block _ (lt_of_row X2.out)).trans X2.out⟩
  have GB : Away (Below w.heap.size w w4) := ⟨XB.out.trans (hb4.mono XB.out.size)⟩
  obtain ⟨Y, hY⟩ : ∃ x, w4.alloc (.cells H 30) = x := ⟨_, rfl⟩
  obtain ⟨y0, yS, yB⟩ := one hY
  have c0 : Y.cell? ⟨w1.heap.size, 0, none⟩ = some (.int .i64 1) := cell_at ((yB.block _ (lt_of_row G0.out)).trans G0.out) a0.out
  have c1 : Y.cell? ⟨w1.heap.size + 1, 0, none⟩ = some (.int .i64 0) := cell_at ((yB.block _ (lt_of_row G1.out)).trans G1.out) b0.out
  have c2 : Y.cell? ⟨w1.heap.size, 1, none⟩ = some (.int .i64 1) := cell_at ((yB.block _ (lt_of_row G0.out)).trans G0.out) a1.out
  have c3 : Y.cell? ⟨w1.heap.size + 1, 1, none⟩ = some (.int .i64 8380416) := cell_at ((yB.block _ (lt_of_row G1.out)).trans G1.out) b1.out
  have c4 : Y.cell? ⟨w3.heap.size, 0, none⟩ = some (.int .i64 4) := cell_at ((yB.block _ (lt_of_row G2.out)).trans G2.out) s0.out
  have Y2 : Away (Y.heap[w3.heap.size]? = some (.cells S 23 (0, 0))) := ⟨(yB.block _ (lt_of_row G2.out)).trans G2.out⟩
  have Y3 : Away (Y.heap[w4.heap.size]? = some (.cells H 30 (0, 0))) := ⟨y0⟩
  have YB : Away (Below w.heap.size w Y) := ⟨GB.out.trans (yB.mono GB.out.size)⟩
  have HY := Away.mk hY
  clear hY y0 yS yB hb4 G0 G1 G2 GB X0 X1 X2 XB
  go_wp2_with (first
    | (refine wpList_store_new rfl 30 _ _ rfl _ rfl rfl Hi.out Hz0.out Ho.out rfl ?_)
    | (rw [HY.out])
    | (refine wpList_load_want rfl 23 _ rfl w3.heap.size rfl 23 S _ Y2.out Try.underlying23 rfl Si.out ?_))
  clear c0 c1 c2 c3 c4
  refine (H5.out _).mono ?_
  rintro e w5 ⟨rfl, hb5⟩
  have Z3 : Away (w5.heap[w4.heap.size]? = some (.cells H 30 (0, 0))) := ⟨(hb5.block _ (lt_of_row Y3.out)).trans Y3.out⟩
  have ZB : Away (Below w.heap.size w w5) := ⟨YB.out.trans (hb5.mono YB.out.size)⟩
  have c5 : w5.cell? ⟨w4.heap.size, 0, none⟩ = some (.int .i64 1) := cell_at Z3.out h0.out
  obtain ⟨hne, bD⟩ := HbD.out
  clear hb5 Y2 Y3 YB
  go_wp2_with fail
  refine wp_load_row 30 _ rfl w4.heap.size rfl 30 H (0, 0) _ Z3.out Try.underlying30 rfl Hi.out ?_
  go_wp2_with fail
  refine (H6.out _).mono ?_
  rintro e w6 ⟨rfl, hb6⟩
  have hui := HUi.out w6
  have LB : Away (Below w.heap.size w w6) := ⟨ZB.out.trans (hb6.mono ZB.out.size)⟩
  clear hb6 c5
  go_wp2_with fail
  go_ret
  exact ⟨rfl, LB.out⟩
end Go.Proofs.Ytfgigpmhncfpbaa.awake9
