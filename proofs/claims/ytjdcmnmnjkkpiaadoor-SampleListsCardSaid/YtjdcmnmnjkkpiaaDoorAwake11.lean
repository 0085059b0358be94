/-
  The law package's own look at sampling ('awake') returns true. Conditions: keccak's variable 'places' holds what the program's text lays there; what package sample's functions return is handed in.
-/
import Derived.Test.YtjdcmnmnjkkpiaaDoorSaCx
import Derived.Test.YtjdcmnmnjkkpiaaDoorPuA
import Derived.Test.YtjdcmnmnjkkpiaaDoorRSex
import Derived.Test.YtjdcmnmnjkkpiaaDoorFlA
import Derived.Test.YtjdcmnmnjkkpiaaDoorTab
namespace Go.Proofs.YtjdcmnmnjkkpiaaDoor.awake11
set_option linter.unusedSimpArgs false
open Go Go.RowKit
open Go.Proofs.YtjdcmnmnjkkpiaaDoor.rbitb Go.Proofs.YtjdcmnmnjkkpiaaDoor.mem Go.Proofs.YtjdcmnmnjkkpiaaDoor.arr Go.Proofs.YtjdcmnmnjkkpiaaDoor.tabv Go.Proofs.YtjdcmnmnjkkpiaaDoor.built Go.Proofs.YtjdcmnmnjkkpiaaDoor.kturn Go.Proofs.YtjdcmnmnjkkpiaaDoor.kstep Go.Proofs.YtjdcmnmnjkkpiaaDoor.polys Go.Proofs.YtjdcmnmnjkkpiaaDoor.polt Go.Proofs.YtjdcmnmnjkkpiaaDoor.pols Go.Proofs.YtjdcmnmnjkkpiaaDoor.fldm Go.Proofs.YtjdcmnmnjkkpiaaDoor.rndm Go.Proofs.YtjdcmnmnjkkpiaaDoor.samm Go.Proofs.YtjdcmnmnjkkpiaaDoor.samb Go.Proofs.YtjdcmnmnjkkpiaaDoor.samc Go.Proofs.YtjdcmnmnjkkpiaaDoor.rsdoc Go.Proofs.YtjdcmnmnjkkpiaaDoor.helda

set_option maxRecDepth 100000 in
set_option maxHeartbeats 4000000 in
theorem awake_any (w : World) (hP : Gp w)
    (HBl : ∀ w1 : World, Gp w1 → Calls Tryd.prog 12 #[.agg TA, .string sx, .int .i64 5] w1 fun e w' => e = .returned (.agg (FL .i64 256 (dB sx 5))) ∧ Below w1.heap.size w1 w')
    (HUn : ∀ w1 : World, Gp w1 → Calls Tryd.prog 8 #[.agg TA, .string su] w1 fun e w' => e = .returned (.agg (FL .i64 256 (dU su))) ∧ Below w1.heap.size w1 w')
    (HMa : ∀ w1 : World, Gp w1 → Calls Tryd.prog 14 #[.agg TA, .agg set4, .string ⟨#[114, 104, 111]⟩] w1 fun e w' => (∃ x c, e = .returned (.slice x 1 c)) ∧ Below w1.heap.size w1 w')
    (HMk : ∀ w1 : World, Gp w1 → Calls Tryd.prog 19 #[.agg TA, .agg set4, .string ⟨#[109]⟩, .int .i64 0] w1 fun e w' => (∃ x c, e = .returned (.slice x 1 c)) ∧ Below w1.heap.size w1 w')
    (HSe : ∀ w1 : World, Gp w1 → Calls Tryd.prog 16 #[.agg TA, .agg set4, .string ⟨#[115]⟩] w1 fun e w' => (∃ v1 v2, e = .returned (.tuple #[v1, v2]) ∧ Holds w' w1.heap.size v1 1 (fun _ => dS s0 2) ∧ Holds w' w1.heap.size v2 1 (fun _ => dS s1 2)) ∧ Below w1.heap.size w1 w') :
    Calls Tryd.prog 6 #[] w fun e w' => e = .returned (.bool true) ∧ Below w.heap.size w w' := by
  have HP := Away.mk hP
  obtain ⟨hz, hsize⟩ := zero_of_info infoT
  obtain ⟨hzp, hsizep⟩ := zero_of_info polt.infoP
  obtain ⟨hzl, hsizel⟩ := zero_of_info rset.infoL
  obtain ⟨Zt, HZ⟩ := ex_eq TZ
  rw [HZ.out] at hz
  obtain ⟨Zp, HZp⟩ := ex_eq (FL .i64 256 fun _ => 0)
  rw [HZp.out] at hzp
  obtain ⟨Zl, HZl⟩ := ex_eq set0
  rw [HZl.out] at hzl
  have HZs : Away (Zt.size = 465) := ⟨by rw [← HZ.out]; exact tz_size⟩
  have HZps : Away (Zp.size = 256) := ⟨by rw [← HZp.out]; exact fl_size _ _ _⟩
  have HZls : Away (Zl.size = 8) := ⟨by rw [← HZl.out]; rfl⟩
  have Hsize := Away.mk hsize
  have Hsizep := Away.mk hsizep
  have Hsizel := Away.mk hsizel
  obtain ⟨T, HT⟩ := ex_eq TA
  have HTs : Away (T.size = 465) := ⟨by rw [← HT.out]; exact ta_size⟩
  have HTo : Away (T.all (·.oneCell') = true) := ⟨by rw [← HT.out]; exact ta_one⟩
  have HTz : Away ((Tryd.prog.info? 34).map (·.size) = some T.size) := ⟨by rw [HTs.out]; exact Hsize.out⟩
  have Hmk : Away (∀ w1 : World, Calls Tryd.prog 21 #[] w1 fun e w' => e = .returned (.agg T) ∧ Below w1.heap.size w1 w') := ⟨fun w1 => by rw [← HT.out]; exact make.make_any w1⟩
  obtain ⟨C, HC⟩ := ex_eq set4
  have HCs : Away (C.size = 8) := ⟨by rw [← HC.out]; rfl⟩
  have HCo : Away (C.all (·.oneCell') = true) := ⟨by rw [← HC.out]; simp [set4, Value.oneCell']⟩
  have HCz : Away ((Tryd.prog.info? 41).map (·.size) = some C.size) := ⟨by rw [HCs.out]; exact Hsizel.out⟩
  have HSet : Away (∀ w1 : World, Calls Tryd.prog 22 #[.int .i64 4] w1 fun e w' => e = .returned (.tuple #[.agg C, .int .i64 0]) ∧ Below w1.heap.size w1 w') := ⟨fun w1 => by rw [← HC.out]; exact rset.set_4 w1⟩
  obtain ⟨G, HG⟩ := ex_eq (FL .i64 256 (dB sx 5))
  have HGs : Away (G.size = 256) := ⟨by rw [← HG.out]; exact fl_size _ _ _⟩
  have HGo : Away (G.all (·.oneCell') = true) := ⟨by rw [← HG.out]; exact fl_one _ _ _⟩
  have HGz : Away ((Tryd.prog.info? 36).map (·.size) = some G.size) := ⟨by rw [HGs.out]; exact Hsizep.out⟩
  obtain ⟨U, HU⟩ := ex_eq (FL .i64 256 (dU su))
  have HUs : Away (U.size = 256) := ⟨by rw [← HU.out]; exact fl_size _ _ _⟩
  have HUo : Away (U.all (·.oneCell') = true) := ⟨by rw [← HU.out]; exact fl_one _ _ _⟩
  have HUz : Away ((Tryd.prog.info? 36).map (·.size) = some U.size) := ⟨by rw [HUs.out]; exact Hsizep.out⟩
  obtain ⟨i0, hi, hz0, hz1, hz2⟩ := parts infoPoly
  rw [HZp.out] at hz0
  have HI := Away.mk (And.intro hi (And.intro hz0 (And.intro hz1 hz2)))
  clear hi hz0 hz1 hz2
  have HSz : Away (∀ (w1 : World) (g : Nat), w1.heap[g]? = some (.cells G 36 (0, 0)) → Calls Tryd.prog 25 #[.slice (some ⟨g, 0, none⟩) 1 1] w1 fun e w' => e = .returned (.int .i64 1) ∧ w' = w1) := ⟨fun w1 g hg => by
    have h := fsize.size_any g 1 1 (fun _ => dB sx 5) w1 (by decide) (fun j hj i hi => by
      obtain rfl : j = 0 := by omega
      rw [Nat.zero_mul, Nat.zero_add]
      exact cell_at hg (by rw [← HG.out]; exact fl_get .i64 256 (dB sx 5) i hi))
    have e1 : cbs (fun _ => dB sx 5) 1 = 1 := by
      rw [cbs, cbs]
      show max 0 (cb (dB sx 5) 256) = 1
      have e2 : cb (dB sx 5) 256 = 1 := by unfold dB; rw [show (5 : Int) = ((5 : Nat) : Int) from rfl, ball_in _ 5 (by decide) (by decide)]; exact x_size
      rw [e2]; rfl
    rw [e1] at h
    exact h⟩
  obtain ⟨X, HX⟩ := ex_eq (FL .i64 256 (dS s0 2))
  obtain ⟨Y, HY⟩ := ex_eq (FL .i64 256 (dS s1 2))
  have HXz : Away ((Tryd.prog.info? 36).map (·.size) = some X.toList.length) := ⟨by rw [← HX.out, Array.length_toList, fl_size]; exact Hsizep.out⟩
  have HYz : Away ((Tryd.prog.info? 36).map (·.size) = some Y.toList.length) := ⟨by rw [← HY.out, Array.length_toList, fl_size]; exact Hsizep.out⟩
  have hneq : ∀ w1 : World, (binOp .neq 36 (.agg X) (.agg Y)).run Tryd.prog w1 = .ok (.bool true) w1 := fun w1 => by
    rw [← HX.out, ← HY.out, neq_fl Tryd.underlying36 (by kernel_rfl) (by kernel_rfl) Tryd.underlying3, decide_eq_false (fun h => s_differs (h 1 (by decide)))]
    rfl
  obtain ⟨y0, hy0⟩ : ∃ y, dU su 0 = y := ⟨_, rfl⟩
  obtain ⟨y1, hy1⟩ : ∃ y, dU su 1 = y := ⟨_, rfl⟩
  have hyy : (y0 != y1) = true := by rw [← hy0, ← hy1]; simp only [bne_iff_ne, ne_eq]; exact u_differs
  have Hy0 := Away.mk hy0
  have Hy1 := Away.mk hy1
  clear hy0 hy1
  rw [HT.out] at HBl HUn HMa HMk HSe
  rw [HC.out] at HMa HMk HSe
  rw [HG.out] at HBl
  rw [HU.out] at HUn
  have HBl := Away.mk HBl
  have HUn := Away.mk HUn
  have HMa := Away.mk HMa
  have HMk := Away.mk HMk
  have HSe := Away.mk HSe
  clear hsize hsizep hsizel hP
  clear HT HZ HZp HZl HC
  go_enter Tryd.func6, Tryd.ntmps6
  go_wp2_with fail
  refine (Hmk.out _).mono ?_
  rintro e w1 ⟨rfl, hb1⟩
  obtain ⟨W1, hW1⟩ : ∃ x, w1.alloc (.cells T 34) = x := ⟨_, rfl⟩
  obtain ⟨r1, hs1, b1⟩ := one hW1
  have HW1 := Away.mk hW1
  have T1 : Away (W1.heap[w1.heap.size]? = some (.cells T 34 (0, 0))) := ⟨r1⟩
  have B1 : Away (Below w.heap.size w W1) := ⟨hb1.trans (b1.mono hb1.size)⟩
  clear hb1 hW1 r1 hs1 b1
  go_wp2_with (first
    | (refine wpList_store_new rfl 34 _ _ rfl _ rfl rfl HTz.out (by rw [HTs.out]; exact HZs.out) HTo.out rfl ?_)
    | (rw [HW1.out])
    | (refine wpList_load_row rfl 34 _ rfl w1.heap.size rfl 34 T (0, 0) _ T1.out Tryd.underlying34 rfl HTz.out ?_))
  refine (HBl.out _ (HP.out.later B1.out)).mono ?_
  rintro e w2 ⟨rfl, hb2⟩
  obtain ⟨W2, hW2⟩ : ∃ x, w2.alloc (.cells G 36) = x := ⟨_, rfl⟩
  obtain ⟨r2, hs2, b2⟩ := one hW2
  have HW2 := Away.mk hW2
  have D2 : Away (Below W1.heap.size W1 W2) := ⟨hb2.trans (b2.mono hb2.size)⟩
  have T2 : Away (W2.heap[w1.heap.size]? = some (.cells T 34 (0, 0))) := ⟨(D2.out.block _ (lt_of_row T1.out)).trans T1.out⟩
  have G2 : Away (W2.heap[w2.heap.size]? = some (.cells G 36 (0, 0))) := ⟨r2⟩
  have B2 : Away (Below w.heap.size w W2) := ⟨B1.out.trans (D2.out.mono B1.out.size)⟩
  clear hb2 hW2 r2 hs2 b2
  go_wp2_with (first
    | (refine wpList_store_new rfl 36 _ _ rfl _ rfl rfl HGz.out (by rw [HGs.out]; exact HZps.out) HGo.out rfl ?_)
    | (rw [HW2.out]))
  refine (HSet.out _).mono ?_
  rintro e w3 ⟨rfl, hb3⟩
  obtain ⟨W3, hW3⟩ : ∃ x, w3.alloc (.cells C 41) = x := ⟨_, rfl⟩
  obtain ⟨r3, hs3, b3⟩ := one hW3
  have HW3 := Away.mk hW3
  have D3 : Away (Below W2.heap.size W2 W3) := ⟨hb3.trans (b3.mono hb3.size)⟩
  have T3 : Away (W3.heap[w1.heap.size]? = some (.cells T 34 (0, 0))) := ⟨(D3.out.block _ (lt_of_row T2.out)).trans T2.out⟩
  have G3 : Away (W3.heap[w2.heap.size]? = some (.cells G 36 (0, 0))) := ⟨(D3.out.block _ (lt_of_row G2.out)).trans G2.out⟩
  have C3 : Away (W3.heap[w3.heap.size]? = some (.cells C 41 (0, 0))) := ⟨r3⟩
  have B3 : Away (Below w.heap.size w W3) := ⟨B2.out.trans (D3.out.mono B2.out.size)⟩
  clear hb3 hW3 r3 hs3 b3
  go_wp2_with (first
    | (refine wpList_store_new rfl 41 _ _ rfl _ rfl rfl HCz.out (by rw [HCs.out]; exact HZls.out) HCo.out rfl ?_)
    | (rw [HW3.out])
    | (refine wpList_load_row rfl 34 _ rfl w1.heap.size rfl 34 T (0, 0) _ T3.out Tryd.underlying34 rfl HTz.out ?_)
    | (refine wpList_load_row rfl 41 _ rfl w3.heap.size rfl 41 C (0, 0) _ C3.out Tryd.underlying41 rfl HCz.out ?_))
  refine (HMa.out _ (HP.out.later B3.out)).mono ?_
  rintro e w4 ⟨⟨x4, c4, rfl⟩, hb4⟩
  have T4 : Away (w4.heap[w1.heap.size]? = some (.cells T 34 (0, 0))) := ⟨(hb4.block _ (lt_of_row T3.out)).trans T3.out⟩
  have G4 : Away (w4.heap[w2.heap.size]? = some (.cells G 36 (0, 0))) := ⟨(hb4.block _ (lt_of_row G3.out)).trans G3.out⟩
  have C4 : Away (w4.heap[w3.heap.size]? = some (.cells C 41 (0, 0))) := ⟨(hb4.block _ (lt_of_row C3.out)).trans C3.out⟩
  have B4 : Away (Below w.heap.size w w4) := ⟨B3.out.trans (hb4.mono B3.out.size)⟩
  clear hb4
  go_wp2_with (first
    | (refine wpList_load_row rfl 34 _ rfl w1.heap.size rfl 34 T (0, 0) _ T4.out Tryd.underlying34 rfl HTz.out ?_)
    | (refine wpList_load_row rfl 41 _ rfl w3.heap.size rfl 41 C (0, 0) _ C4.out Tryd.underlying41 rfl HCz.out ?_))
  refine (HSe.out _ (HP.out.later B4.out)).mono ?_
  rintro e w5 ⟨⟨v1, v2, rfl, hx, hy⟩, hb5⟩
  obtain ⟨gx, cx, rfl, hx1, hx2, hx3⟩ := hx
  obtain ⟨gy, cy, rfl, hy1, hy2, hy3⟩ := hy
  have T5 : Away (w5.heap[w1.heap.size]? = some (.cells T 34 (0, 0))) := ⟨(hb5.block _ (lt_of_row T4.out)).trans T4.out⟩
  have G5 : Away (w5.heap[w2.heap.size]? = some (.cells G 36 (0, 0))) := ⟨(hb5.block _ (lt_of_row G4.out)).trans G4.out⟩
  have C5 : Away (w5.heap[w3.heap.size]? = some (.cells C 41 (0, 0))) := ⟨(hb5.block _ (lt_of_row C4.out)).trans C4.out⟩
  have B5 : Away (Below w.heap.size w w5) := ⟨B4.out.trans (hb5.mono B4.out.size)⟩
  have X5 : Away (gx < w5.heap.size ∧ ∀ k, k < 256 → w5.cell? ⟨gx, k, none⟩ = some (.int .i64 (dS s0 2 k))) := ⟨hx2, fun k hk => by have := hx3 0 (by decide) k hk; rwa [Nat.mul_zero, Nat.zero_add] at this⟩
  have Y5 : Away (gy < w5.heap.size ∧ ∀ k, k < 256 → w5.cell? ⟨gy, k, none⟩ = some (.int .i64 (dS s1 2 k))) := ⟨hy2, fun k hk => by have := hy3 0 (by decide) k hk; rwa [Nat.mul_zero, Nat.zero_add] at this⟩
  clear hb5 hx1 hx2 hx3 hy1 hy2 hy3
  go_wp2_with (refine wpList_load_row rfl 34 _ rfl w1.heap.size rfl 34 T (0, 0) _ T5.out Tryd.underlying34 rfl HTz.out ?_)
  refine (HUn.out _ (HP.out.later B5.out)).mono ?_
  rintro e w6 ⟨rfl, hb6⟩
  obtain ⟨W6, hW6⟩ : ∃ x, w6.alloc (.cells U 36) = x := ⟨_, rfl⟩
  obtain ⟨r6, hs6, b6⟩ := one hW6
  have HW6 := Away.mk hW6
  have D6 : Away (Below w5.heap.size w5 W6) := ⟨hb6.trans (b6.mono hb6.size)⟩
  have KT : Away (∀ w' : World, Below W6.heap.size W6 w' → w'.heap[w1.heap.size]? = some (.cells T 34 (0, 0))) := ⟨fun w' hb => by
    have h6 := (D6.out.block _ (lt_of_row T5.out)).trans T5.out
    exact (hb.block _ (lt_of_row h6)).trans h6⟩
  have KG : Away (∀ w' : World, Below W6.heap.size W6 w' → w'.heap[w2.heap.size]? = some (.cells G 36 (0, 0))) := ⟨fun w' hb => by
    have h6 := (D6.out.block _ (lt_of_row G5.out)).trans G5.out
    exact (hb.block _ (lt_of_row h6)).trans h6⟩
  have KC : Away (∀ w' : World, Below W6.heap.size W6 w' → w'.heap[w3.heap.size]? = some (.cells C 41 (0, 0))) := ⟨fun w' hb => by
    have h6 := (D6.out.block _ (lt_of_row C5.out)).trans C5.out
    exact (hb.block _ (lt_of_row h6)).trans h6⟩
  have KX : Away (∀ w' : World, Below W6.heap.size W6 w' → w'.rangeAt gx 0 X.toList) := ⟨fun w' hb => by
    rw [← HX.out]
    have h2 : gx < W6.heap.size := Nat.lt_of_lt_of_le X5.out.1 D6.out.size
    exact Holds.range (i := 0) (p := fun _ => dS s0 2) fun k hk => by
      rw [Nat.mul_zero, Nat.zero_add]
      exact (hb.cell (p := ⟨gx, k, none⟩) h2).trans ((D6.out.cell (p := ⟨gx, k, none⟩) X5.out.1).trans (X5.out.2 k hk))⟩
  have KY : Away (∀ w' : World, Below W6.heap.size W6 w' → w'.rangeAt gy 0 Y.toList) := ⟨fun w' hb => by
    rw [← HY.out]
    have h2 : gy < W6.heap.size := Nat.lt_of_lt_of_le Y5.out.1 D6.out.size
    exact Holds.range (i := 0) (p := fun _ => dS s1 2) fun k hk => by
      rw [Nat.mul_zero, Nat.zero_add]
      exact (hb.cell (p := ⟨gy, k, none⟩) h2).trans ((D6.out.cell (p := ⟨gy, k, none⟩) Y5.out.1).trans (Y5.out.2 k hk))⟩
  have KU : Away (∀ w' : World, Below W6.heap.size W6 w' → ∀ k, k < 256 → w'.cell? ⟨w6.heap.size, k, none⟩ = some (.int .i64 (dU su k))) := ⟨fun w' hb k hk => by
    refine cell_at ((hb.block _ (lt_of_row r6)).trans r6) ?_
    rw [← HU.out]
    exact fl_get .i64 256 (dU su) k hk⟩
  have KU0 : Away (∀ w' : World, Below W6.heap.size W6 w' → w'.cell? ⟨w6.heap.size, 0, none⟩ = some (.int .i64 y0)) := ⟨fun w' hb => by rw [← Hy0.out]; exact KU.out w' hb 0 (by decide)⟩
  have KU1 : Away (∀ w' : World, Below W6.heap.size W6 w' → w'.cell? ⟨w6.heap.size, 1, none⟩ = some (.int .i64 y1)) := ⟨fun w' hb => by rw [← Hy1.out]; exact KU.out w' hb 1 (by decide)⟩
  have B6 : Away (Below w.heap.size w W6) := ⟨B5.out.trans (D6.out.mono B5.out.size)⟩
  clear hb6 hW6 r6 hs6 b6 X5 Y5 T5 G5 C5 T4 G4 C4 T3 G3 C3 T2 G2 T1 D2 D3
  go_wp2_with (first
    | (refine wpList_store_new rfl 36 _ _ rfl _ rfl rfl HUz.out (by rw [HUs.out]; exact HZps.out) HUo.out rfl ?_)
    | (rw [HW6.out]))
  refine hl_begin W6.heap.size 47 (by kernel_rfl) rfl (fun hS ops HO => ?_)
  (focus (refine hl_take (v := ?_) (by rw [← HO.out]; kernel_rfl) (by decide) (by rw [← HO.out]; kernel_rfl) (by rw [← HO.out]; kernel_rfl) (by rw [← HO.out]; kernel_rfl) (fun _ _ _ h => h) ?_ hS ?_; rotate_left; focus (intro w9 h9; go_simp; first | done | with_reducible rfl); all_goals skip))
  simp only [Act.put, List.setIfInBounds_toArray, List.set_cons_zero, List.set_cons_succ]
  (focus (refine hl_take (v := ?_) (by rw [← HO.out]; kernel_rfl) (by decide) (by rw [← HO.out]; kernel_rfl) (by rw [← HO.out]; kernel_rfl) (by rw [← HO.out]; kernel_rfl) (fun _ _ _ h => h) ?_ hS ?_; rotate_left; focus (intro w9 h9; go_simp; first | done | with_reducible rfl); all_goals skip))
  simp only [Act.put, List.setIfInBounds_toArray, List.set_cons_zero, List.set_cons_succ]
  (focus (refine hl_take (v := ?_) (by rw [← HO.out]; kernel_rfl) (by decide) (by rw [← HO.out]; kernel_rfl) (by rw [← HO.out]; kernel_rfl) (by rw [← HO.out]; kernel_rfl) (fun _ _ _ h => h) ?_ hS ?_; rotate_left; focus (intro w9 h9; go_simp; first | done | with_reducible rfl); all_goals skip))
  simp only [Act.put, List.setIfInBounds_toArray, List.set_cons_zero, List.set_cons_succ]
  refine hl_load (by rw [← HO.out]; kernel_rfl) (by decide) (by rw [← HO.out]; kernel_rfl) (by rw [← HO.out]; kernel_rfl) (by rw [← HO.out]; kernel_rfl) (fun _ _ _ _ h => h) 36 _ rfl w2.heap.size rfl 36 G _ KG.out Tryd.underlying36 rfl HGz.out hS ?_
  simp only [Act.put, List.setIfInBounds_toArray, List.set_cons_zero, List.set_cons_succ]
  refine hl_step (by rw [← HO.out]; kernel_rfl) (by decide) (by rw [← HO.out]; kernel_rfl) (fun K hK => ?_)
  refine wp_buildSlice 44 36 1 _ rfl G i0 (.agg Zp) Tryd.underlying44 HI.out.1 HI.out.2.1 (by rw [HI.out.2.2.1]; decide) (by rw [HI.out.2.2.1]; decide) ?hf ?_
  case hf =>
    go_simp
    exact ⟨⟨decide_eq_false (fun h => h (HGs.out.trans HI.out.2.2.1.symm)), by rw [HGs.out, HI.out.2.2.1]; exact Nat.le_refl _⟩, fold_one G _ HGs.out (by simp [HI.out.2.2.1])⟩
  obtain ⟨W7, hW7⟩ : ∃ x, W6.drew.alloc (.cells G 36) = x := ⟨_, rfl⟩
  obtain ⟨r7, hs7, b7⟩ := one hW7
  have h7 : Below W6.heap.size W6 W7 := hS.trans b7
  rw [hW7]
  refine hK _ _ h7 ?_
  clear hK K
  refine hl_step (by rw [← HO.out]; kernel_rfl) (by decide) (by rw [← HO.out]; kernel_rfl) (fun K hK => ?_)
  go_simp
  refine (HSz.out W7 _ r7).mono ?_
  rintro e w8 ⟨rfl, rfl⟩
  refine hK _ _ h7 ?_
  clear hK K
  (focus (refine hl_take (v := ?_) (by rw [← HO.out]; kernel_rfl) (by decide) (by rw [← HO.out]; kernel_rfl) (by rw [← HO.out]; kernel_rfl) (by rw [← HO.out]; kernel_rfl) (fun _ _ _ h => h) ?_ h7 ?_; rotate_left; focus (intro w9 h9; go_simp; first | done | with_reducible rfl); all_goals skip))
  simp only [Act.put, List.setIfInBounds_toArray, List.set_cons_zero, List.set_cons_succ]
  (focus (refine hl_take (v := ?_) (by rw [← HO.out]; kernel_rfl) (by decide) (by rw [← HO.out]; kernel_rfl) (by rw [← HO.out]; kernel_rfl) (by rw [← HO.out]; kernel_rfl) (fun _ _ _ h => h) ?_ h7 ?_; rotate_left; focus (intro w9 h9; go_simp; first | done | with_reducible rfl); all_goals skip))
  simp only [Act.put, List.setIfInBounds_toArray, List.set_cons_zero, List.set_cons_succ]
  (focus (refine hl_take (v := ?_) (by rw [← HO.out]; kernel_rfl) (by decide) (by rw [← HO.out]; kernel_rfl) (by rw [← HO.out]; kernel_rfl) (by rw [← HO.out]; kernel_rfl) (fun _ _ _ h => h) ?_ h7 ?_; rotate_left; focus (intro w9 h9; go_simp; first | done | with_reducible rfl); all_goals skip))
  simp only [Act.put, List.setIfInBounds_toArray, List.set_cons_zero, List.set_cons_succ]
  (focus (refine hl_take (v := ?_) (by rw [← HO.out]; kernel_rfl) (by decide) (by rw [← HO.out]; kernel_rfl) (by rw [← HO.out]; kernel_rfl) (by rw [← HO.out]; kernel_rfl) (fun _ _ _ h => h) ?_ h7 ?_; rotate_left; focus (intro w9 h9; go_simp; first | done | with_reducible rfl); all_goals skip))
  simp only [Act.put, List.setIfInBounds_toArray, List.set_cons_zero, List.set_cons_succ]
  refine hl_step (by rw [← HO.out]; kernel_rfl) (by decide) (by rw [← HO.out]; kernel_rfl) (fun K hK => ?_)
  go_simp
  refine hK _ _ h7 ?_
  clear hK K
  (focus (refine hl_take (v := ?_) (by rw [← HO.out]; kernel_rfl) (by decide) (by rw [← HO.out]; kernel_rfl) (by rw [← HO.out]; kernel_rfl) (by rw [← HO.out]; kernel_rfl) (fun _ _ _ h => h) ?_ h7 ?_; rotate_left; focus (intro w9 h9; go_simp; first | done | with_reducible rfl); all_goals skip))
  simp only [Act.put, List.setIfInBounds_toArray, List.set_cons_zero, List.set_cons_succ]
  (focus (refine hl_take (v := ?_) (by rw [← HO.out]; kernel_rfl) (by decide) (by rw [← HO.out]; kernel_rfl) (by rw [← HO.out]; kernel_rfl) (by rw [← HO.out]; kernel_rfl) (fun _ _ _ h => h) ?_ h7 ?_; rotate_left; focus (intro w9 h9; go_simp; first | done | with_reducible rfl); all_goals skip))
  simp only [Act.put, List.setIfInBounds_toArray, List.set_cons_zero, List.set_cons_succ]
  (focus (refine hl_take (v := ?_) (by rw [← HO.out]; kernel_rfl) (by decide) (by rw [← HO.out]; kernel_rfl) (by rw [← HO.out]; kernel_rfl) (by rw [← HO.out]; kernel_rfl) (fun _ _ _ h => h) ?_ h7 ?_; rotate_left; focus (intro w9 h9; go_simp; first | done | with_reducible rfl); all_goals skip))
  simp only [Act.put, List.setIfInBounds_toArray, List.set_cons_zero, List.set_cons_succ]
  (focus (refine hl_take (v := ?_) (by rw [← HO.out]; kernel_rfl) (by decide) (by rw [← HO.out]; kernel_rfl) (by rw [← HO.out]; kernel_rfl) (by rw [← HO.out]; kernel_rfl) (fun _ _ _ h => h) ?_ h7 ?_; rotate_left; focus (intro w9 h9; go_simp; first | done | with_reducible rfl); all_goals skip))
  simp only [Act.put, List.setIfInBounds_toArray, List.set_cons_zero, List.set_cons_succ]
  refine hl_step (by rw [← HO.out]; kernel_rfl) (by decide) (by rw [← HO.out]; kernel_rfl) (fun K hK => ?_)
  go_simp
  refine hK _ _ h7 ?_
  clear hK K
  (focus (refine hl_take (v := ?_) (by rw [← HO.out]; kernel_rfl) (by decide) (by rw [← HO.out]; kernel_rfl) (by rw [← HO.out]; kernel_rfl) (by rw [← HO.out]; kernel_rfl) (fun _ _ _ h => h) ?_ h7 ?_; rotate_left; focus (intro w9 h9; go_simp; first | done | with_reducible rfl); all_goals skip))
  simp only [Act.put, List.setIfInBounds_toArray, List.set_cons_zero, List.set_cons_succ]
  (focus (refine hl_take (v := ?_) (by rw [← HO.out]; kernel_rfl) (by decide) (by rw [← HO.out]; kernel_rfl) (by rw [← HO.out]; kernel_rfl) (by rw [← HO.out]; kernel_rfl) (fun _ _ _ h => h) ?_ h7 ?_; rotate_left; focus (intro w9 h9; go_simp; first | done | with_reducible rfl); all_goals skip))
  simp only [Act.put, List.setIfInBounds_toArray, List.set_cons_zero, List.set_cons_succ]
  (focus (refine hl_take (v := ?_) (by rw [← HO.out]; kernel_rfl) (by decide) (by rw [← HO.out]; kernel_rfl) (by rw [← HO.out]; kernel_rfl) (by rw [← HO.out]; kernel_rfl) (fun _ _ _ h => h) ?_ h7 ?_; rotate_left; focus (intro w9 h9; go_simp; first | done | with_reducible rfl); all_goals skip))
  simp only [Act.put, List.setIfInBounds_toArray, List.set_cons_zero, List.set_cons_succ]
  (focus (refine hl_take (v := ?_) (by rw [← HO.out]; kernel_rfl) (by decide) (by rw [← HO.out]; kernel_rfl) (by rw [← HO.out]; kernel_rfl) (by rw [← HO.out]; kernel_rfl) (fun _ _ _ h => h) ?_ h7 ?_; rotate_left; focus (intro w9 h9; go_simp; first | done | with_reducible rfl); all_goals skip))
  simp only [Act.put, List.setIfInBounds_toArray, List.set_cons_zero, List.set_cons_succ]
  refine hl_step (by rw [← HO.out]; kernel_rfl) (by decide) (by rw [← HO.out]; kernel_rfl) (fun K hK => ?_)
  go_simp
  refine hK _ _ h7 ?_
  clear hK K
  (focus (refine hl_take (v := ?_) (by rw [← HO.out]; kernel_rfl) (by decide) (by rw [← HO.out]; kernel_rfl) (by rw [← HO.out]; kernel_rfl) (by rw [← HO.out]; kernel_rfl) (fun _ _ _ h => h) ?_ h7 ?_; rotate_left; focus (intro w9 h9; go_simp; first | done | with_reducible rfl); all_goals skip))
  simp only [Act.put, List.setIfInBounds_toArray, List.set_cons_zero, List.set_cons_succ]
  (focus (refine hl_take (v := ?_) (by rw [← HO.out]; kernel_rfl) (by decide) (by rw [← HO.out]; kernel_rfl) (by rw [← HO.out]; kernel_rfl) (by rw [← HO.out]; kernel_rfl) (fun _ _ _ h => h) ?_ h7 ?_; rotate_left; focus (intro w9 h9; go_simp; first | done | with_reducible rfl); all_goals skip))
  simp only [Act.put, List.setIfInBounds_toArray, List.set_cons_zero, List.set_cons_succ]
  (focus (refine hl_take (v := ?_) (by rw [← HO.out]; kernel_rfl) (by decide) (by rw [← HO.out]; kernel_rfl) (by rw [← HO.out]; kernel_rfl) (by rw [← HO.out]; kernel_rfl) (fun _ _ _ h => h) ?_ h7 ?_; rotate_left; focus (intro w9 h9; go_simp; first | done | with_reducible rfl); all_goals skip))
  simp only [Act.put, List.setIfInBounds_toArray, List.set_cons_zero, List.set_cons_succ]
  (focus (refine hl_take (v := ?_) (by rw [← HO.out]; kernel_rfl) (by decide) (by rw [← HO.out]; kernel_rfl) (by rw [← HO.out]; kernel_rfl) (by rw [← HO.out]; kernel_rfl) (fun _ _ _ h => h) ?_ h7 ?_; rotate_left; focus (intro w9 h9; go_simp; first | done | with_reducible rfl); all_goals skip))
  simp only [Act.put, List.setIfInBounds_toArray, List.set_cons_zero, List.set_cons_succ]
  (focus (refine hl_take (v := ?_) (by rw [← HO.out]; kernel_rfl) (by decide) (by rw [← HO.out]; kernel_rfl) (by rw [← HO.out]; kernel_rfl) (by rw [← HO.out]; kernel_rfl) (fun _ _ _ h => h) ?_ h7 ?_; rotate_left; focus (intro w9 h9; go_simp; first | done | with_reducible rfl); all_goals skip))
  simp only [Act.put, List.setIfInBounds_toArray, List.set_cons_zero, List.set_cons_succ]
  refine hl_mid (by rw [← HO.out]; kernel_rfl) (by decide) (by rw [← HO.out]; kernel_rfl) (by rw [← HO.out]; kernel_rfl) (by rw [← HO.out]; kernel_rfl) (fun _ _ _ _ h => h) 36 _ rfl gx 0 rfl (X) _ KX.out Tryd.underlying36 rfl HXz.out h7 ?_
  simp only [Act.put, List.setIfInBounds_toArray, List.set_cons_zero, List.set_cons_succ]
  (focus (refine hl_take (v := ?_) (by rw [← HO.out]; kernel_rfl) (by decide) (by rw [← HO.out]; kernel_rfl) (by rw [← HO.out]; kernel_rfl) (by rw [← HO.out]; kernel_rfl) (fun _ _ _ h => h) ?_ h7 ?_; rotate_left; focus (intro w9 h9; go_simp; first | done | with_reducible rfl); all_goals skip))
  simp only [Act.put, List.setIfInBounds_toArray, List.set_cons_zero, List.set_cons_succ]
  (focus (refine hl_take (v := ?_) (by rw [← HO.out]; kernel_rfl) (by decide) (by rw [← HO.out]; kernel_rfl) (by rw [← HO.out]; kernel_rfl) (by rw [← HO.out]; kernel_rfl) (fun _ _ _ h => h) ?_ h7 ?_; rotate_left; focus (intro w9 h9; go_simp; first | done | with_reducible rfl); all_goals skip))
  simp only [Act.put, List.setIfInBounds_toArray, List.set_cons_zero, List.set_cons_succ]
  refine hl_mid (by rw [← HO.out]; kernel_rfl) (by decide) (by rw [← HO.out]; kernel_rfl) (by rw [← HO.out]; kernel_rfl) (by rw [← HO.out]; kernel_rfl) (fun _ _ _ _ h => h) 36 _ rfl gy 0 rfl (Y) _ KY.out Tryd.underlying36 rfl HYz.out h7 ?_
  simp only [Act.put, List.setIfInBounds_toArray, List.set_cons_zero, List.set_cons_succ]
  (focus (refine hl_take (v := ?_) (by rw [← HO.out]; kernel_rfl) (by decide) (by rw [← HO.out]; kernel_rfl) (by rw [← HO.out]; kernel_rfl) (by rw [← HO.out]; kernel_rfl) (fun _ _ _ h => h) ?_ h7 ?_; rotate_left; focus (intro w9 h9; go_simp; first | done | with_reducible rfl); all_goals skip))
  simp only [Act.put, List.setIfInBounds_toArray, List.set_cons_zero, List.set_cons_succ]
  (focus (refine hl_take (v := ?_) (by rw [← HO.out]; kernel_rfl) (by decide) (by rw [← HO.out]; kernel_rfl) (by rw [← HO.out]; kernel_rfl) (by rw [← HO.out]; kernel_rfl) (fun _ _ _ h => h) ?_ h7 ?_; rotate_left; focus (intro w9 h9; go_simp; first | done | with_reducible rfl); all_goals skip))
  simp only [Act.put, List.setIfInBounds_toArray, List.set_cons_zero, List.set_cons_succ]
  (focus (refine hl_take (v := ?_) (by rw [← HO.out]; kernel_rfl) (by decide) (by rw [← HO.out]; kernel_rfl) (by rw [← HO.out]; kernel_rfl) (by rw [← HO.out]; kernel_rfl) (fun _ _ _ h => h) ?_ h7 ?_; rotate_left; focus (intro w9 h9; go_simp; first | done | with_reducible rfl); all_goals skip))
  simp only [Act.put, List.setIfInBounds_toArray, List.set_cons_zero, List.set_cons_succ]
  (focus (refine hl_take (v := ?_) (by rw [← HO.out]; kernel_rfl) (by decide) (by rw [← HO.out]; kernel_rfl) (by rw [← HO.out]; kernel_rfl) (by rw [← HO.out]; kernel_rfl) (fun _ _ _ h => h) ?_ h7 ?_; rotate_left; focus (intro w9 h9; go_simp; first | done | with_reducible rfl); all_goals skip))
  simp only [Act.put, List.setIfInBounds_toArray, List.set_cons_zero, List.set_cons_succ]
  (focus (refine hl_take (v := ?_) (by rw [← HO.out]; kernel_rfl) (by decide) (by rw [← HO.out]; kernel_rfl) (by rw [← HO.out]; kernel_rfl) (by rw [← HO.out]; kernel_rfl) (fun _ _ _ h => h) ?_ h7 ?_; rotate_left; focus (intro w9 h9; have hc := KU0.out w9 h9; go_simp; first | done | with_reducible rfl); all_goals skip))
  simp only [Act.put, List.setIfInBounds_toArray, List.set_cons_zero, List.set_cons_succ]
  (focus (refine hl_take (v := ?_) (by rw [← HO.out]; kernel_rfl) (by decide) (by rw [← HO.out]; kernel_rfl) (by rw [← HO.out]; kernel_rfl) (by rw [← HO.out]; kernel_rfl) (fun _ _ _ h => h) ?_ h7 ?_; rotate_left; focus (intro w9 h9; go_simp; first | done | with_reducible rfl); all_goals skip))
  simp only [Act.put, List.setIfInBounds_toArray, List.set_cons_zero, List.set_cons_succ]
  (focus (refine hl_take (v := ?_) (by rw [← HO.out]; kernel_rfl) (by decide) (by rw [← HO.out]; kernel_rfl) (by rw [← HO.out]; kernel_rfl) (by rw [← HO.out]; kernel_rfl) (fun _ _ _ h => h) ?_ h7 ?_; rotate_left; focus (intro w9 h9; have hc := KU1.out w9 h9; go_simp; first | done | with_reducible rfl); all_goals skip))
  simp only [Act.put, List.setIfInBounds_toArray, List.set_cons_zero, List.set_cons_succ]
  (focus (refine hl_take (v := ?_) (by rw [← HO.out]; kernel_rfl) (by decide) (by rw [← HO.out]; kernel_rfl) (by rw [← HO.out]; kernel_rfl) (by rw [← HO.out]; kernel_rfl) (fun _ _ _ h => h) ?_ h7 ?_; rotate_left; focus (intro w9 h9; go_simp; first | done | with_reducible rfl); all_goals skip))
  simp only [Act.put, List.setIfInBounds_toArray, List.set_cons_zero, List.set_cons_succ]
  (focus (refine hl_take (v := ?_) (by rw [← HO.out]; kernel_rfl) (by decide) (by rw [← HO.out]; kernel_rfl) (by rw [← HO.out]; kernel_rfl) (by rw [← HO.out]; kernel_rfl) (fun _ _ _ h => h) ?_ h7 ?_; rotate_left; focus (intro w9 h9; go_simp; first | done | with_reducible rfl); all_goals skip))
  simp only [Act.put, List.setIfInBounds_toArray, List.set_cons_zero, List.set_cons_succ]
  (focus (refine hl_take (v := ?_) (by rw [← HO.out]; kernel_rfl) (by decide) (by rw [← HO.out]; kernel_rfl) (by rw [← HO.out]; kernel_rfl) (by rw [← HO.out]; kernel_rfl) (fun _ _ _ h => h) ?_ h7 ?_; rotate_left; focus (intro w9 h9; go_simp; first | done | with_reducible rfl); all_goals skip))
  simp only [Act.put, List.setIfInBounds_toArray, List.set_cons_zero, List.set_cons_succ]
  refine hl_load (by rw [← HO.out]; kernel_rfl) (by decide) (by rw [← HO.out]; kernel_rfl) (by rw [← HO.out]; kernel_rfl) (by rw [← HO.out]; kernel_rfl) (fun _ _ _ _ h => h) 34 _ rfl w1.heap.size rfl 34 T _ KT.out Tryd.underlying34 rfl HTz.out h7 ?_
  simp only [Act.put, List.setIfInBounds_toArray, List.set_cons_zero, List.set_cons_succ]
  refine hl_load (by rw [← HO.out]; kernel_rfl) (by decide) (by rw [← HO.out]; kernel_rfl) (by rw [← HO.out]; kernel_rfl) (by rw [← HO.out]; kernel_rfl) (fun _ _ _ _ h => h) 41 _ rfl w3.heap.size rfl 41 C _ KC.out Tryd.underlying41 rfl HCz.out h7 ?_
  simp only [Act.put, List.setIfInBounds_toArray, List.set_cons_zero, List.set_cons_succ]
  refine hl_step (by rw [← HO.out]; kernel_rfl) (by decide) (by rw [← HO.out]; kernel_rfl) (fun K hK => ?_)
  go_simp
  refine (HMk.out _ (HP.out.later (B6.out.trans (h7.mono B6.out.size)))).mono ?_
  rintro e w8 ⟨⟨x8, c8, rfl⟩, hb8⟩
  have h8 : Below W6.heap.size W6 w8 := h7.trans (hb8.mono h7.size)
  refine hK _ _ h8 ?_
  clear hK K
  refine hl_step (by rw [← HO.out]; kernel_rfl) (by decide) (by rw [← HO.out]; kernel_rfl) (fun K hK => ?_)
  go_simp
  refine hK _ _ h8 ?_
  clear hK K
  (focus (refine hl_take (v := ?_) (by rw [← HO.out]; kernel_rfl) (by decide) (by rw [← HO.out]; kernel_rfl) (by rw [← HO.out]; kernel_rfl) (by rw [← HO.out]; kernel_rfl) (fun _ _ _ h => h) ?_ h8 ?_; rotate_left; focus (intro w9 h9; go_simp; first | done | with_reducible rfl); all_goals skip))
  simp only [Act.put, List.setIfInBounds_toArray, List.set_cons_zero, List.set_cons_succ]
  (focus (refine hl_take (v := ?_) (by rw [← HO.out]; kernel_rfl) (by decide) (by rw [← HO.out]; kernel_rfl) (by rw [← HO.out]; kernel_rfl) (by rw [← HO.out]; kernel_rfl) (fun _ _ _ h => h) ?_ h8 ?_; rotate_left; focus (intro w9 h9; go_simp; first | done | with_reducible rfl); all_goals skip))
  simp only [Act.put, List.setIfInBounds_toArray, List.set_cons_zero, List.set_cons_succ]
  (focus (refine hl_take (v := ?_) (by rw [← HO.out]; kernel_rfl) (by decide) (by rw [← HO.out]; kernel_rfl) (by rw [← HO.out]; kernel_rfl) (by rw [← HO.out]; kernel_rfl) (fun _ _ _ h => h) ?_ h8 ?_; rotate_left; focus (intro w9 h9; go_simp; first | done | with_reducible rfl); all_goals skip))
  simp only [Act.put, List.setIfInBounds_toArray, List.set_cons_zero, List.set_cons_succ]
  refine hl_nil (by rw [← HO.out]; kernel_rfl) ?_
  go_wp2_with fail
  go_ret
  exact ⟨rfl, B6.out.trans (h8.mono B6.out.size)⟩
end Go.Proofs.YtjdcmnmnjkkpiaaDoor.awake11
