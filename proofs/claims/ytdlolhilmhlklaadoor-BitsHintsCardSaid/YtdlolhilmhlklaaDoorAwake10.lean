/-
  The law package's own look at bits ('awake') returns true. Conditions: none.
-/
import Derived.Test.YtdlolhilmhlklaaDoorPSig
import Derived.Test.YtdlolhilmhlklaaDoorPUns
import Derived.Test.YtdlolhilmhlklaaDoorPHin
import Derived.Test.YtdlolhilmhlklaaDoorPot
import Derived.Test.YtdlolhilmhlklaaDoorBitP
import Derived.Test.YtdlolhilmhlklaaDoorPolB
namespace Go.Proofs.YtdlolhilmhlklaaDoor.awake10
open Go Go.RowKit
open Go.Proofs.YtdlolhilmhlklaaDoor.arr Go.Proofs.YtdlolhilmhlklaaDoor.mem Go.Proofs.YtdlolhilmhlklaaDoor.stil Go.Proofs.YtdlolhilmhlklaaDoor.polys Go.Proofs.YtdlolhilmhlklaaDoor.polt Go.Proofs.YtdlolhilmhlklaaDoor.fldm Go.Proofs.YtdlolhilmhlklaaDoor.rbita Go.Proofs.YtdlolhilmhlklaaDoor.rbitb Go.Proofs.YtdlolhilmhlklaaDoor.rbitc Go.Proofs.YtdlolhilmhlklaaDoor.rbitd Go.Proofs.YtdlolhilmhlklaaDoor.rbite Go.Proofs.YtdlolhilmhlklaaDoor.rbitf Go.Proofs.YtdlolhilmhlklaaDoor.rbitg Go.Proofs.YtdlolhilmhlklaaDoor.rbith Go.Proofs.YtdlolhilmhlklaaDoor.bitp Go.Proofs.YtdlolhilmhlklaaDoor.pols Go.Proofs.YtdlolhilmhlklaaDoor.polb

theorem in1 : inb (p2 1 2) 3 := by decide +kernel
theorem in2 : ins (p2 8380416 2) 2 2 := by decide +kernel
theorem first : (bys (packed (p2 1 2) 3)).getD 0 0 = 9 := by decide +kernel
theorem hint : (⟨(u8s (lay (pair (p2 0 1) (p1 1)) 5 2 2)).toArray⟩ : ByteArray) = ⟨#[1, 0, 0, 0, 0, 1, 2]⟩ := by
  have e : u8s (lay (pair (p2 0 1) (p1 1)) 5 2 2) = [1, 0, 0, 0, 0, 1, 2] := by decide +kernel
  rw [e]
theorem few : tot (pair (p2 0 1) (p1 1)) 2 ≤ 5 := by decide +kernel
theorem low2 : ∀ i, i < 256 → 0 ≤ p2 8380416 2 i ∧ p2 8380416 2 i < 8380417 := by decide +kernel
theorem lb3 : lb (3 : Int).toNat = 2 := by decide +kernel
theorem lb4 : lb ((2 : Int) + 2).toNat = 3 := by decide +kernel
set_option maxRecDepth 100000 in
set_option maxHeartbeats 4000000 in
theorem awake_any (w : World) :
    Calls Tryd.prog 5 #[] w fun e w' => e = .returned (.bool true) ∧ Below w.heap.size w w' := by
  obtain ⟨i0, hi, hz0, hz1, hz2⟩ := tparts polt.infoPoly
  obtain ⟨hz, hsize⟩ := zero_of_info polt.infoP
  have sizeO := size_packed (p2 1 2) 3
  rw [lb3] at sizeO
  have sizeU := size_packed (sg (p2 8380416 2) 2) (2 + 2)
  rw [lb4] at sizeU
  have upO : FL .i64 256 (up (packed (p2 1 2) 3) 2) = FL .i64 256 (p2 1 2) := fl_congr _ _ fun i hi => by
    have := up_packed (p2 1 2) 3 (by decide) in1 i hi
    rw [lb3] at this
    exact this
  have inU : inb (sg (p2 8380416 2) 2) (2 + 2) := (psig.ins_inb _ _ _).2 in2
  have upU : FL .i64 256 (up (packed (sg (p2 8380416 2) 2) (2 + 2)) 3) = FL .i64 256 (sg (p2 8380416 2) 2) := fl_congr _ _ fun i hi => by
    have := up_packed (sg (p2 8380416 2) 2) (2 + 2) (by decide) inU i hi
    rw [lb4] at this
    exact this
  have unU : FL .i64 256 (un (sg (p2 8380416 2) 2) 2) = FL .i64 256 (p2 8380416 2) := fl_congr _ _ fun i hi => un_sg _ _ i (low2 i hi)
  have inO' : inb (up (packed (p2 1 2) 3) 2) 3 := fun i hi => by
    have := up_packed (p2 1 2) 3 (by decide) in1 i hi
    rw [lb3] at this
    rw [this]
    exact in1 i hi
  have inU' : inb (up (packed (sg (p2 8380416 2) 2) (2 + 2)) 3) (2 + 2) := fun i hi => by
    have := up_packed (sg (p2 8380416 2) 2) (2 + 2) (by decide) inU i hi
    rw [lb4] at this
    rw [this]
    exact inU i hi
  have C1 : ∀ w1 : World, Calls Tryd.prog 14 #[.agg (FL .i64 256 (p2 1 2)), .int .i64 3] w1 fun e w' => e = .returned (.tuple #[.string (packed (p2 1 2) 3), .int .i64 0]) ∧ Below w1.heap.size w1 w' := fun w1 => by
    have h := ppack.pack_any (p2 1 2) 3 w1 (by decide) (by decide)
    rw [if_pos in1] at h
    exact h
  have C2 : ∀ w1 : World, Calls Tryd.prog 6 #[.string (packed (p2 1 2) 3), .int .i64 3] w1 fun e w' => e = .returned (.tuple #[.agg (FL .i64 256 (p2 1 2)), .int .i64 0]) ∧ Below w1.heap.size w1 w' := fun w1 => by
    have h := punp.unpack_any (packed (p2 1 2) 3) 3 w1 (by decide) (by decide) (by rw [lb3]; exact sizeO)
    rw [lb3, if_pos inO', upO] at h
    exact h
  have C3 : ∀ w1 : World, Calls Tryd.prog 15 #[.agg (FL .i64 256 (p2 8380416 2)), .int .i64 2, .int .i64 2] w1 fun e w' => e = .returned (.tuple #[.string (packed (sg (p2 8380416 2) 2) (2 + 2)), .int .i64 0]) ∧ Below w1.heap.size w1 w' := fun w1 => by
    have h := psig.signed_any (p2 8380416 2) 2 2 w1 (by decide) (by decide) (by decide) (by decide)
    rw [if_pos in2] at h
    exact h
  have C4 : ∀ w1 : World, Calls Tryd.prog 8 #[.string (packed (sg (p2 8380416 2) 2) (2 + 2)), .int .i64 2, .int .i64 2] w1 fun e w' => e = .returned (.tuple #[.agg (FL .i64 256 (p2 8380416 2)), .int .i64 0]) ∧ Below w1.heap.size w1 w' := fun w1 => by
    have h := puns.unsigned_good (packed (sg (p2 8380416 2) 2) (2 + 2)) 2 2 w1 (sg (p2 8380416 2) 2) (by decide) (by decide) (by decide) (by decide) inU (fun w2 => by
      have h2 := punp.unpack_any (packed (sg (p2 8380416 2) 2) (2 + 2)) (2 + 2) w2 (by decide) (by decide) (by rw [lb4]; exact sizeU)
      rw [lb4, if_pos inU', upU] at h2
      exact h2)
    rw [unU] at h
    exact h
  have C5 : ∀ (w1 : World) (g : Nat), w1.heap[g]? = some (.cells (RW 2 (pair (p2 0 1) (p1 1))) 25 (0, 0)) → Calls Tryd.prog 13 #[.slice (some ⟨g, 0, none⟩) 2 2, .int .i64 5] w1 fun e w' => e = .returned (.tuple #[.string ⟨#[1, 0, 0, 0, 0, 1, 2]⟩, .int .i64 0]) ∧ Below w1.heap.size w1 w' := fun w1 g hg => by
    have h := phin.hints_any (pair (p2 0 1) (p1 1)) g 0 2 2 5 w1 (lt_of_row hg) (by decide) (by decide) (by decide) (by decide) (fun i hi => by rw [Nat.zero_add]; exact Holds.range fun k hk => rw_cell hg i k hi hk)
    rw [if_pos few, hint] at h
    exact h
  have hb0 := first
  obtain ⟨O, HO⟩ := ex_eq (packed (p2 1 2) 3)
  obtain ⟨U, HU⟩ := ex_eq (packed (sg (p2 8380416 2) 2) (2 + 2))
  rw [HO.out] at C1 C2 sizeO hb0
  rw [HU.out] at C3 C4 sizeU
  have hix := byte_of O 0 9 (by omega) hb0
  obtain ⟨P, HP⟩ := ex_eq (FL .i64 256 (p2 1 2))
  obtain ⟨S, HS⟩ := ex_eq (FL .i64 256 (p2 8380416 2))
  obtain ⟨D, HD⟩ := ex_eq (FL .i64 256 (p2 0 1))
  obtain ⟨E, HE⟩ := ex_eq (FL .i64 256 (p1 1))
  have HEqP : Away (∀ w1 : World, (Op.equalIn 10000 25 (.agg P) (.agg P)).run Tryd.prog w1 = .ok true w1) := ⟨fun w1 => by
    have h := equal_poly (p2 1 2) (p2 1 2) w1
    rw [HP.out, (same_iff 256 _ _).2 fun _ _ => rfl] at h
    exact h⟩
  have HEqS : Away (∀ w1 : World, (Op.equalIn 10000 25 (.agg S) (.agg S)).run Tryd.prog w1 = .ok true w1) := ⟨fun w1 => by
    have h := equal_poly (p2 8380416 2) (p2 8380416 2) w1
    rw [HS.out, (same_iff 256 _ _).2 fun _ _ => rfl] at h
    exact h⟩
  rw [HP.out] at C1 C2
  rw [HS.out] at C3 C4
  have H1 := Away.mk C1
  have H2 := Away.mk C2
  have H3 := Away.mk C3
  have H4 := Away.mk C4
  have H5 := Away.mk C5
  have bP : Tryd.prog.built 25 [(0, .int .i64 1), (1, .int .i64 2)] = some P := by rw [← HP.out]; exact built2 _ _
  have bS : Tryd.prog.built 25 [(0, .int .i64 8380416), (1, .int .i64 2)] = some S := by rw [← HS.out]; exact built2 _ _
  have bD : Tryd.prog.built 25 [(0, .int .i64 0), (1, .int .i64 1)] = some D := by rw [← HD.out]; exact built2 _ _
  have bE : Tryd.prog.built 25 [(0, .int .i64 1)] = some E := by rw [← HE.out]; exact built1 _
  have Hb := Away.mk (And.intro bP (And.intro bS (And.intro bD bE)))
  obtain ⟨z, HZ⟩ := ex_eq (FL .i64 256 fun _ => 0)
  rw [HZ.out] at hz hz0
  have Hzs : Away (z.size = 256) := ⟨by rw [← HZ.out]; exact fl_size _ _ _⟩
  have Ps : P.size = 256 := by rw [← HP.out]; exact fl_size _ _ _
  have Ss : S.size = 256 := by rw [← HS.out]; exact fl_size _ _ _
  have Pi : Away ((Tryd.prog.info? 25).map (·.size) = some P.size) := ⟨by rw [Ps]; exact hsize⟩
  have Po : Away (P.all (·.oneCell') = true) := ⟨by rw [← HP.out]; exact fl_one _ _ _⟩
  have Pz : Away (z.size = P.size) := ⟨by rw [Hzs.out, Ps]⟩
  have Si : Away ((Tryd.prog.info? 25).map (·.size) = some S.size) := ⟨by rw [Ss]; exact hsize⟩
  have So : Away (S.all (·.oneCell') = true) := ⟨by rw [← HS.out]; exact fl_one _ _ _⟩
  have Sz : Away (z.size = S.size) := ⟨by rw [Hzs.out, Ss]⟩
  have HI := Away.mk (And.intro hi (And.intro hz0 (And.intro hz1 hz2)))
  have hne : ¬ z = #[] := fun h => by have := Hzs.out; rw [h] at this; cases this
  have hn2 : ¬ z.size < 2 := by rw [Hzs.out]; decide
  have cP : (z.setIfInBounds 0 (.int .i64 1)).setIfInBounds 1 (.int .i64 2) = P := by rw [← HZ.out, fl_set, fl_set, ← HP.out]; rfl
  have cS : (z.setIfInBounds 0 (.int .i64 8380416)).setIfInBounds 1 (.int .i64 2) = S := by rw [← HZ.out, fl_set, fl_set, ← HS.out]; rfl
  have HC := Away.mk (And.intro hne (And.intro hn2 (And.intro cP cS)))
  have HzO := Away.mk (And.intro sizeO (And.intro sizeU hix))
  clear C1 C2 C3 C4 C5 upO upU unU inO' inU' inU HO HU HP HS HZ hsize hi hz0 hz1 hz2 bP bS bD bE hne hn2 cP cS Ps Ss sizeO sizeU hix hb0
  go_enter Tryd.func5, Tryd.ntmps5
  go_wp2_with (refine wpList_built2 rfl 25 _ _ _ _ rfl P Hb.out.1 ?_)
  refine (H1.out _).mono ?_
  rintro e w1 ⟨rfl, hb1⟩
  have B1 := Away.mk hb1
  clear hb1
  go_wp2_with fail
  refine (H2.out _).mono ?_
  rintro e w2 ⟨rfl, hb2⟩
  have B2 : Away (Below w.heap.size w w2) := ⟨B1.out.trans (hb2.mono B1.out.size)⟩
  clear hb2 B1
  go_wp2_with (first
    | (refine wpList_store_new rfl 25 _ _ rfl _ rfl rfl Pi.out Pz.out Po.out rfl ?_)
    | (refine wpList_built2 rfl 25 _ _ _ _ rfl S Hb.out.2.1 ?_))
  obtain ⟨W, hW⟩ : ∃ x, w2.alloc (.cells P 25) = x := ⟨_, rfl⟩
  obtain ⟨x0, xS, xB⟩ := one hW
  rw [hW]
  have X0 : Away (W.heap[w2.heap.size]? = some (.cells P 25 (0, 0))) := ⟨x0⟩
  have XB : Away (Below w.heap.size w W) := ⟨B2.out.trans (xB.mono B2.out.size)⟩
  clear hW x0 xS xB B2
  refine (H3.out _).mono ?_
  rintro e w3 ⟨rfl, hb3⟩
  have Y0 : Away (w3.heap[w2.heap.size]? = some (.cells P 25 (0, 0))) := ⟨(hb3.block _ (lt_of_row X0.out)).trans X0.out⟩
  have YB : Away (Below w.heap.size w w3) := ⟨XB.out.trans (hb3.mono XB.out.size)⟩
  clear hb3 X0 XB
  go_wp2_with fail
  refine (H4.out _).mono ?_
  rintro e w4 ⟨rfl, hb4⟩
  have Z0 : Away (w4.heap[w2.heap.size]? = some (.cells P 25 (0, 0))) := ⟨(hb4.block _ (lt_of_row Y0.out)).trans Y0.out⟩
  have ZB : Away (Below w.heap.size w w4) := ⟨YB.out.trans (hb4.mono YB.out.size)⟩
  clear hb4 Y0 YB
  obtain ⟨V, hV⟩ : ∃ x, (w4.alloc (.cells S 25)).alloc (.cells (RW 2 (pair (p2 0 1) (p1 1))) 25) = x := ⟨_, rfl⟩
  obtain ⟨v0, v1, vS, vB⟩ := two hV
  have V0 : Away (V.heap[w2.heap.size]? = some (.cells P 25 (0, 0))) := ⟨(vB.block _ (lt_of_row Z0.out)).trans Z0.out⟩
  have V1 : Away (V.heap[w4.heap.size]? = some (.cells S 25 (0, 0))) := ⟨v0⟩
  have V2 : Away (V.heap[w4.heap.size + 1]? = some (.cells (RW 2 (pair (p2 0 1) (p1 1))) 25 (0, 0))) := ⟨v1⟩
  have VB : Away (Below w.heap.size w V) := ⟨ZB.out.trans (vB.mono ZB.out.size)⟩
  have HV := Away.mk hV
  clear hV v0 v1 vS vB Z0 ZB
  go_wp2_with (first
    | (refine wpList_store_new rfl 25 _ _ rfl _ rfl rfl Si.out Sz.out So.out rfl ?_)
    | (refine wpList_built2 rfl 25 _ _ _ _ rfl D Hb.out.2.2.1 ?_)
    | (refine wpList_built1 rfl 25 _ _ rfl E Hb.out.2.2.2 ?_)
    | (refine wpList_buildTwo rfl 30 25 _ _ rfl (p2 0 1) (p1 1) D E HD.out HE.out i0 z Tryd.underlying30 HI.out.1 HI.out.2.1 HI.out.2.2.1 rfl rfl ?_))
  rw [HV.out]
  refine (H5.out V _ V2.out).mono ?_
  rintro e w6 ⟨rfl, hb6⟩
  have G0 : Away (w6.heap[w2.heap.size]? = some (.cells P 25 (0, 0))) := ⟨(hb6.block _ (lt_of_row V0.out)).trans V0.out⟩
  have G1 : Away (w6.heap[w4.heap.size]? = some (.cells S 25 (0, 0))) := ⟨(hb6.block _ (lt_of_row V1.out)).trans V1.out⟩
  have GB : Away (Below w.heap.size w w6) := ⟨VB.out.trans (hb6.mono VB.out.size)⟩
  have heP := HEqP.out w6
  have heS := HEqS.out w6
  obtain ⟨hne, hn2, cP, cS⟩ := HC.out
  obtain ⟨sizeO, sizeU, hix⟩ := HzO.out
  have hix0 : (Instr.index 9 (.string O) (.int .i64 0)).run Tryd.prog w6 = .ok (.int .u8 9) w6 := hix w6
  clear hb6 V0 V1 V2 VB HV hix
  go_wp2_with fail
  refine wp_load_row 25 _ rfl w2.heap.size rfl 25 P (0, 0) _ G0.out Tryd.underlying25 rfl Pi.out ?_
  clear hix0 sizeO
  go_wp2_with fail
  refine wp_load_row 25 _ rfl w4.heap.size rfl 25 S (0, 0) _ G1.out Tryd.underlying25 rfl Si.out ?_
  clear heP cP sizeU
  go_wp2_with fail
  go_ret
  exact ⟨rfl, GB.out⟩
end Go.Proofs.YtdlolhilmhlklaaDoor.awake10
