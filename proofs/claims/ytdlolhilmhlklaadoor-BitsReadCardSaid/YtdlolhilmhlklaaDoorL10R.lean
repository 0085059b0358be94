/-
  What the statement BitsRead (P10.3, P10.5, P10.7) says is so: any bytes as polynomials, within any bounds, are what the document's own functions return; its walk. Conditions: none.
-/
import Derived.Test.YtdlolhilmhlklaaDoorAwake10
import Derived.Test.YtdlolhilmhlklaaDoorRBUns
import Derived.Test.YtdlolhilmhlklaaDoorRBUnh
import Derived.Test.YtdlolhilmhlklaaDoorRBUnv
import Derived.Test.YtdlolhilmhlklaaDoorPUnh
import Derived.Test.YtdlolhilmhlklaaDoorLPols
namespace Go.Proofs.YtdlolhilmhlklaaDoor.l10r
set_option linter.unusedVariables false
open Go Go.RowKit
open Go.Proofs.YtdlolhilmhlklaaDoor.arr Go.Proofs.YtdlolhilmhlklaaDoor.mem Go.Proofs.YtdlolhilmhlklaaDoor.stil Go.Proofs.YtdlolhilmhlklaaDoor.polys Go.Proofs.YtdlolhilmhlklaaDoor.polt Go.Proofs.YtdlolhilmhlklaaDoor.rbita Go.Proofs.YtdlolhilmhlklaaDoor.rbitc Go.Proofs.YtdlolhilmhlklaaDoor.rbitd Go.Proofs.YtdlolhilmhlklaaDoor.rbite Go.Proofs.YtdlolhilmhlklaaDoor.rbitf Go.Proofs.YtdlolhilmhlklaaDoor.rbitg Go.Proofs.YtdlolhilmhlklaaDoor.rbitu Go.Proofs.YtdlolhilmhlklaaDoor.pols

theorem unpack_both (s : ByteArray) (a : Int) : ∃ (x : Nat → Int) (c : Int), (∀ w : World, Calls Tryd.prog 6 #[.string s, .int .i64 a] w fun e w' => e = .returned (.tuple #[.agg (FL .i64 256 x), .int .i64 c]) ∧ Below w.heap.size w w') ∧
    ∀ w : World, Calls Tryd.prog 7 #[.string s, .int .i64 a] w fun e w' => e = .returned (.tuple #[.agg (FL .i64 256 x), .int .i64 c]) ∧ Below w.heap.size w w' := by
  by_cases h1 : a < 1 ∨ 8380417 ≤ a ∨ s.size ≠ 32 * lb a.toNat
  · exact ⟨fun _ => 0, 1, fun w => punp.unpack_bad s a w h1, fun w => rbitf.unpack_bad s a w h1⟩
  · have hs : s.size = 32 * lb a.toNat := by omega
    by_cases h2 : inb (up s (lb a.toNat)) a
    · refine ⟨up s (lb a.toNat), 0, fun w => ?_, fun w => ?_⟩
      · have h := punp.unpack_any s a w (by omega) (by omega) hs
        rw [if_pos h2] at h
        exact h
      · have h := rbitf.unpack_any s a w (by omega) (by omega) hs
        rw [if_pos h2] at h
        exact h
    · refine ⟨fun _ => 0, 3, fun w => ?_, fun w => ?_⟩
      · have h := punp.unpack_any s a w (by omega) (by omega) hs
        rw [if_neg h2] at h
        exact h
      · have h := rbitf.unpack_any s a w (by omega) (by omega) hs
        rw [if_neg h2] at h
        exact h
theorem unsigned_both (s : ByteArray) (a b : Int) : ∃ (x : Nat → Int) (c : Int), (∀ w : World, Calls Tryd.prog 8 #[.string s, .int .i64 a, .int .i64 b] w fun e w' => e = .returned (.tuple #[.agg (FL .i64 256 x), .int .i64 c]) ∧ Below w.heap.size w w') ∧
    ∀ w : World, Calls Tryd.prog 9 #[.string s, .int .i64 a, .int .i64 b] w fun e w' => e = .returned (.tuple #[.agg (FL .i64 256 x), .int .i64 c]) ∧ Below w.heap.size w w' := by
  by_cases h0 : 0 ≤ a ∧ a < 4190208 ∧ 1 ≤ b ∧ b < 4190208
  · obtain ⟨g1, g2, g3, g4⟩ := h0
    by_cases h1 : a + b < 1 ∨ 8380417 ≤ a + b ∨ s.size ≠ 32 * lb (a + b).toNat
    · exact ⟨fun _ => 0, 1, fun w => puns.unsigned_err s a b w 1 g1 g3 g2 g4 (by decide) (fun w1 => punp.unpack_bad s (a + b) w1 h1), fun w => rbitg.unsigned_err s a b w 1 g1 g3 g2 g4 (by decide) (fun w1 => rbitf.unpack_bad s (a + b) w1 h1)⟩
    · have hs : s.size = 32 * lb (a + b).toNat := by omega
      by_cases h2 : inb (up s (lb (a + b).toNat)) (a + b)
      · refine ⟨un (up s (lb (a + b).toNat)) b, 0, fun w => ?_, fun w => ?_⟩
        · exact puns.unsigned_good s a b w (up s (lb (a + b).toNat)) g1 g3 g2 g4 h2 (fun w1 => by
            have h := punp.unpack_any s (a + b) w1 (by omega) (by omega) hs
            rw [if_pos h2] at h
            exact h)
        · exact rbitg.unsigned_good s a b w (up s (lb (a + b).toNat)) g1 g3 g2 g4 h2 (fun w1 => by
            have h := rbitf.unpack_any s (a + b) w1 (by omega) (by omega) hs
            rw [if_pos h2] at h
            exact h)
      · refine ⟨fun _ => 0, 3, fun w => ?_, fun w => ?_⟩
        · exact puns.unsigned_err s a b w 3 g1 g3 g2 g4 (by decide) (fun w1 => by
            have h := punp.unpack_any s (a + b) w1 (by omega) (by omega) hs
            rw [if_neg h2] at h
            exact h)
        · exact rbitg.unsigned_err s a b w 3 g1 g3 g2 g4 (by decide) (fun w1 => by
            have h := rbitf.unpack_any s (a + b) w1 (by omega) (by omega) hs
            rw [if_neg h2] at h
            exact h)
  · exact ⟨fun _ => 0, 1, fun w => puns.unsigned_bad s a b w h0, fun w => rbitg.unsigned_bad s a b w (by omega)⟩
theorem unhints_both (s : ByteArray) (a b : Int) :
    (∃ c : Int, (∀ w : World, Calls Tryd.prog 10 #[.string s, .int .i64 a, .int .i64 b] w fun e w' => e = .returned (.tuple #[.slice none 0 0, .int .i64 c]) ∧ Below w.heap.size w w') ∧
      ∀ w : World, Calls Tryd.prog 11 #[.string s, .int .i64 a, .int .i64 b] w fun e w' => e = .returned (.tuple #[.slice none 0 0, .int .i64 c]) ∧ Below w.heap.size w w') ∨
    (∃ (m : Nat) (p : Nat → Nat → Int), m ≤ 8 ∧ (∀ w : World, Calls Tryd.prog 10 #[.string s, .int .i64 a, .int .i64 b] w fun e w' => (∃ v, e = .returned (.tuple #[v, .int .i64 0]) ∧ Holds w' w.heap.size v m p) ∧ Below w.heap.size w w') ∧
      ∀ w : World, Calls Tryd.prog 11 #[.string s, .int .i64 a, .int .i64 b] w fun e w' => (∃ v, e = .returned (.tuple #[v, .int .i64 0]) ∧ Holds w' w.heap.size v m p) ∧ Below w.heap.size w w') := by
  by_cases h0 : a < 1 ∨ 255 < a ∨ b < 1 ∨ 8 < b ∨ (s.size : Int) ≠ a + b
  · exact Or.inl ⟨1, fun w => punh.unhints_bad s a b w h0, fun w => rbitv.unhints_bad s a b w h0⟩
  · obtain ⟨om, rfl⟩ : ∃ n : Nat, a = (n : Int) := ⟨a.toNat, by omega⟩
    obtain ⟨m, rfl⟩ : ∃ n : Nat, b = (n : Int) := ⟨b.toNat, by omega⟩
    by_cases hu : uok (fun j => (bys s).getD j 0) om m
    · refine Or.inr ⟨m, ply (fun j => (bys s).getD j 0) om, by omega, fun w => ?_, fun w => ?_⟩
      · refine (punh.unhints_any s m om w (by omega) (by omega) (by omega) (by omega) (by omega)).mono fun e w' h => ⟨?_, h.2⟩
        rcases h.1 with ⟨-, v, hv⟩ | ⟨h1, -⟩
        · exact ⟨v, hv⟩
        · exact absurd hu h1
      · refine (rbitu.unhints_any s m om w (by omega) (by omega) (by omega) (by omega) (by omega)).mono fun e w' h => ⟨?_, h.2⟩
        rcases h.1 with ⟨-, v, hv, ho⟩ | ⟨h1, -⟩
        · exact ⟨v, hv, own_holds (by omega) ho⟩
        · exact absurd hu h1
    · refine Or.inl ⟨3, fun w => ?_, fun w => ?_⟩
      · refine (punh.unhints_any s m om w (by omega) (by omega) (by omega) (by omega) (by omega)).mono fun e w' h => ⟨?_, h.2⟩
        rcases h.1 with ⟨h1, -⟩ | ⟨-, h1⟩
        · exact absurd h1 hu
        · exact h1
      · refine (rbitu.unhints_any s m om w (by omega) (by omega) (by omega) (by omega) (by omega)).mono fun e w' h => ⟨?_, h.2⟩
        rcases h.1 with ⟨h1, -⟩ | ⟨-, h1⟩
        · exact absurd h1 hu
        · exact h1
set_option maxRecDepth 100000 in
set_option maxHeartbeats 4000000 in
theorem walk_far (s : ByteArray) (x y z : Int) (w : World) (h : 2000 < s.size) :
    Calls Tryd.prog 3 #[.string s, .agg #[.int .i64 x, .int .i64 y, .int .i64 z]] w fun e w' => e = .returned (.bool true) ∧ Below w.heap.size w w' := by
  have HA := Away.mk (fun w1 => awake10.awake_any w1)
  have hz : (2000 : Int) < (s.size : Int) := by omega
  obtain ⟨W, hW⟩ : ∃ x_1, w.alloc (.cells #[.int .i64 x, .int .i64 y, .int .i64 z] 22) = x_1 := ⟨_, rfl⟩
  obtain ⟨-, -, b0⟩ := polt.one hW
  have B0 := Away.mk b0
  have HW := Away.mk hW
  clear hW b0 h
  go_enter Tryd.func3, Tryd.ntmps3
  go_wp2_with (rw [HW.out])
  refine (HA.out _).mono ?_
  rintro e w8 ⟨rfl, hb8⟩
  have BZ : Away (Below w.heap.size w w8) := ⟨B0.out.trans (hb8.mono B0.out.size)⟩
  clear hb8
  go_wp2_with fail
  go_ret
  exact ⟨rfl, BZ.out⟩
set_option maxRecDepth 100000 in
set_option maxHeartbeats 8000000 in
theorem walk_near (s : ByteArray) (x y z : Int) (w : World) (h : s.size ≤ 2000) :
    Calls Tryd.prog 3 #[.string s, .agg #[.int .i64 x, .int .i64 y, .int .i64 z]] w fun e w' => e = .returned (.bool true) ∧ Below w.heap.size w w' := by
  have HA := Away.mk (fun w1 => awake10.awake_any w1)
  have hz : ¬ (2000 : Int) < (s.size : Int) := by omega
  obtain ⟨f1, e1, p1, p2⟩ := unpack_both s x
  obtain ⟨f2, e2, g1, g2⟩ := unsigned_both s y z
  have HUB := Away.mk (unhints_both s x y)
  obtain ⟨hz0, hsize⟩ := zero_of_info polt.infoP
  obtain ⟨Z, HZ⟩ := ex_eq (FL .i64 256 fun _ => 0)
  rw [HZ.out] at hz0
  have Zs : Z.size = 256 := by rw [← HZ.out]; exact fl_size _ _ _
  have HE1 : Away (∀ w1 : World, (Op.equalIn 10000 25 (.agg (FL .i64 256 f1)) (.agg (FL .i64 256 f1))).run Tryd.prog w1 = .ok true w1) := ⟨fun w1 => by
    have h := equal_poly f1 f1 w1
    rw [(same_iff 256 _ _).2 fun _ _ => rfl] at h
    exact h⟩
  have HE2 : Away (∀ w1 : World, (Op.equalIn 10000 25 (.agg (FL .i64 256 f2)) (.agg (FL .i64 256 f2))).run Tryd.prog w1 = .ok true w1) := ⟨fun w1 => by
    have h := equal_poly f2 f2 w1
    rw [(same_iff 256 _ _).2 fun _ _ => rfl] at h
    exact h⟩
  have Xi : Away ((Tryd.prog.info? 25).map (·.size) = some (FL .i64 256 f1).size) := ⟨by rw [fl_size]; exact hsize⟩
  have Xo : Away ((FL .i64 256 f1).all (·.oneCell') = true) := ⟨fl_one _ _ _⟩
  have Xz : Away (Z.size = (FL .i64 256 f1).size) := ⟨by rw [fl_size]; exact Zs⟩
  have Yi : Away ((Tryd.prog.info? 25).map (·.size) = some (FL .i64 256 f2).size) := ⟨by rw [fl_size]; exact hsize⟩
  have Yo : Away ((FL .i64 256 f2).all (·.oneCell') = true) := ⟨fl_one _ _ _⟩
  have Yz : Away (Z.size = (FL .i64 256 f2).size) := ⟨by rw [fl_size]; exact Zs⟩
  obtain ⟨X, HX⟩ := ex_eq (FL .i64 256 f1)
  obtain ⟨Y, HY⟩ := ex_eq (FL .i64 256 f2)
  rw [HX.out] at p1 p2 HE1 Xi Xo Xz
  rw [HY.out] at g1 g2 HE2 Yi Yo Yz
  have P1 := Away.mk p1
  have P2 := Away.mk p2
  have G1 := Away.mk g1
  have G2 := Away.mk g2
  obtain ⟨W0, hW⟩ : ∃ x_1, w.alloc (.cells #[.int .i64 x, .int .i64 y, .int .i64 z] 22) = x_1 := ⟨_, rfl⟩
  obtain ⟨r0, -, b0⟩ := polt.one hW
  have S0 : Away (W0.heap[w.heap.size]? = some (.cells #[.int .i64 x, .int .i64 y, .int .i64 z] 22 (0, 0))) := ⟨r0⟩
  have B0 := Away.mk b0
  have HW0 := Away.mk hW
  have c0 : W0.cell? ⟨w.heap.size, 0, none⟩ = some (.int .i64 x) := cell_at S0.out rfl
  have c1 : W0.cell? ⟨w.heap.size, 1, none⟩ = some (.int .i64 y) := cell_at S0.out rfl
  have c2 : W0.cell? ⟨w.heap.size, 2, none⟩ = some (.int .i64 z) := cell_at S0.out rfl
  clear hW r0 b0 h p1 p2 g1 g2 HX HY HZ Zs hsize
  go_enter Tryd.func3, Tryd.ntmps3
  go_wp2_with (rw [HW0.out])
  refine (P1.out _).mono ?_
  rintro e u1 ⟨rfl, hb⟩
  obtain ⟨W1, hW⟩ : ∃ x_1, u1.alloc (.cells X 25) = x_1 := ⟨_, rfl⟩
  obtain ⟨r0, -, b0⟩ := polt.one hW
  have hbb := hb.trans (b0.mono hb.size)
  have S1 : Away (W1.heap[w.heap.size]? = some (.cells #[.int .i64 x, .int .i64 y, .int .i64 z] 22 (0, 0))) := ⟨(hbb.block _ (lt_of_row S0.out)).trans S0.out⟩
  have Ra1 : Away (W1.heap[u1.heap.size]? = some (.cells X 25 (0, 0))) := ⟨r0⟩
  have B1 : Away (Below w.heap.size w W1) := ⟨B0.out.trans (hbb.mono B0.out.size)⟩
  have HW1 := Away.mk hW
  clear hb hbb hW r0 b0 c0 c1 c2 S0 B0 
  have c0 : W1.cell? ⟨w.heap.size, 0, none⟩ = some (.int .i64 x) := cell_at S1.out rfl
  have c1 : W1.cell? ⟨w.heap.size, 1, none⟩ = some (.int .i64 y) := cell_at S1.out rfl
  have c2 : W1.cell? ⟨w.heap.size, 2, none⟩ = some (.int .i64 z) := cell_at S1.out rfl
  go_wp2_with (first
    | (refine wpList_store_new rfl 25 _ _ rfl _ rfl rfl Xi.out Xz.out Xo.out rfl ?_)
    | (rw [HW1.out]))
  refine (P2.out _).mono ?_
  rintro e u2 ⟨rfl, hb⟩
  obtain ⟨W2, hW⟩ : ∃ x_1, u2.alloc (.cells X 25) = x_1 := ⟨_, rfl⟩
  obtain ⟨r0, -, b0⟩ := polt.one hW
  have hbb := hb.trans (b0.mono hb.size)
  have S2 : Away (W2.heap[w.heap.size]? = some (.cells #[.int .i64 x, .int .i64 y, .int .i64 z] 22 (0, 0))) := ⟨(hbb.block _ (lt_of_row S1.out)).trans S1.out⟩
  have Ra2 : Away (W2.heap[u1.heap.size]? = some (.cells X 25 (0, 0))) := ⟨(hbb.block _ (lt_of_row Ra1.out)).trans Ra1.out⟩
  have Rb2 : Away (W2.heap[u2.heap.size]? = some (.cells X 25 (0, 0))) := ⟨r0⟩
  have B2 : Away (Below w.heap.size w W2) := ⟨B1.out.trans (hbb.mono B1.out.size)⟩
  have HW2 := Away.mk hW
  clear hb hbb hW r0 b0 c0 c1 c2 S1 B1 Ra1
  have c0 : W2.cell? ⟨w.heap.size, 0, none⟩ = some (.int .i64 x) := cell_at S2.out rfl
  have c1 : W2.cell? ⟨w.heap.size, 1, none⟩ = some (.int .i64 y) := cell_at S2.out rfl
  have c2 : W2.cell? ⟨w.heap.size, 2, none⟩ = some (.int .i64 z) := cell_at S2.out rfl
  go_wp2_with (first
    | (refine wpList_store_new rfl 25 _ _ rfl _ rfl rfl Xi.out Xz.out Xo.out rfl ?_)
    | (rw [HW2.out]))
  refine (G1.out _).mono ?_
  rintro e u3 ⟨rfl, hb⟩
  obtain ⟨W3, hW⟩ : ∃ x_1, u3.alloc (.cells Y 25) = x_1 := ⟨_, rfl⟩
  obtain ⟨r0, -, b0⟩ := polt.one hW
  have hbb := hb.trans (b0.mono hb.size)
  have S3 : Away (W3.heap[w.heap.size]? = some (.cells #[.int .i64 x, .int .i64 y, .int .i64 z] 22 (0, 0))) := ⟨(hbb.block _ (lt_of_row S2.out)).trans S2.out⟩
  have Ra3 : Away (W3.heap[u1.heap.size]? = some (.cells X 25 (0, 0))) := ⟨(hbb.block _ (lt_of_row Ra2.out)).trans Ra2.out⟩
  have Rb3 : Away (W3.heap[u2.heap.size]? = some (.cells X 25 (0, 0))) := ⟨(hbb.block _ (lt_of_row Rb2.out)).trans Rb2.out⟩
  have Rc3 : Away (W3.heap[u3.heap.size]? = some (.cells Y 25 (0, 0))) := ⟨r0⟩
  have B3 : Away (Below w.heap.size w W3) := ⟨B2.out.trans (hbb.mono B2.out.size)⟩
  have HW3 := Away.mk hW
  clear hb hbb hW r0 b0 c0 c1 c2 S2 B2 Ra2 Rb2
  have c0 : W3.cell? ⟨w.heap.size, 0, none⟩ = some (.int .i64 x) := cell_at S3.out rfl
  have c1 : W3.cell? ⟨w.heap.size, 1, none⟩ = some (.int .i64 y) := cell_at S3.out rfl
  have c2 : W3.cell? ⟨w.heap.size, 2, none⟩ = some (.int .i64 z) := cell_at S3.out rfl
  go_wp2_with (first
    | (refine wpList_store_new rfl 25 _ _ rfl _ rfl rfl Yi.out Yz.out Yo.out rfl ?_)
    | (rw [HW3.out]))
  refine (G2.out _).mono ?_
  rintro e u4 ⟨rfl, hb⟩
  obtain ⟨W4, hW⟩ : ∃ x_1, u4.alloc (.cells Y 25) = x_1 := ⟨_, rfl⟩
  obtain ⟨r0, -, b0⟩ := polt.one hW
  have hbb := hb.trans (b0.mono hb.size)
  have S4 : Away (W4.heap[w.heap.size]? = some (.cells #[.int .i64 x, .int .i64 y, .int .i64 z] 22 (0, 0))) := ⟨(hbb.block _ (lt_of_row S3.out)).trans S3.out⟩
  have Ra4 : Away (W4.heap[u1.heap.size]? = some (.cells X 25 (0, 0))) := ⟨(hbb.block _ (lt_of_row Ra3.out)).trans Ra3.out⟩
  have Rb4 : Away (W4.heap[u2.heap.size]? = some (.cells X 25 (0, 0))) := ⟨(hbb.block _ (lt_of_row Rb3.out)).trans Rb3.out⟩
  have Rc4 : Away (W4.heap[u3.heap.size]? = some (.cells Y 25 (0, 0))) := ⟨(hbb.block _ (lt_of_row Rc3.out)).trans Rc3.out⟩
  have Rd4 : Away (W4.heap[u4.heap.size]? = some (.cells Y 25 (0, 0))) := ⟨r0⟩
  have B4 : Away (Below w.heap.size w W4) := ⟨B3.out.trans (hbb.mono B3.out.size)⟩
  have HW4 := Away.mk hW
  clear hb hbb hW r0 b0 c0 c1 c2 S3 B3 Ra3 Rb3 Rc3
  have c0 : W4.cell? ⟨w.heap.size, 0, none⟩ = some (.int .i64 x) := cell_at S4.out rfl
  have c1 : W4.cell? ⟨w.heap.size, 1, none⟩ = some (.int .i64 y) := cell_at S4.out rfl
  have c2 : W4.cell? ⟨w.heap.size, 2, none⟩ = some (.int .i64 z) := cell_at S4.out rfl
  go_wp2_with (first
    | (refine wpList_store_new rfl 25 _ _ rfl _ rfl rfl Yi.out Yz.out Yo.out rfl ?_)
    | (rw [HW4.out]))
  rcases HUB.out with ⟨c, u1', u2'⟩ | ⟨m, p, hm, u1', u2'⟩
  · have U1 := Away.mk u1'
    have U2 := Away.mk u2'
    clear u1' u2'
    refine (U1.out _).mono ?_
    rintro e w5 ⟨rfl, hb⟩
    have S5 : Away (w5.heap[w.heap.size]? = some (.cells #[.int .i64 x, .int .i64 y, .int .i64 z] 22 (0, 0))) := ⟨(hb.block _ (lt_of_row S4.out)).trans S4.out⟩
    have Ra5 : Away (w5.heap[u1.heap.size]? = some (.cells X 25 (0, 0))) := ⟨(hb.block _ (lt_of_row Ra4.out)).trans Ra4.out⟩
    have Rb5 : Away (w5.heap[u2.heap.size]? = some (.cells X 25 (0, 0))) := ⟨(hb.block _ (lt_of_row Rb4.out)).trans Rb4.out⟩
    have Rc5 : Away (w5.heap[u3.heap.size]? = some (.cells Y 25 (0, 0))) := ⟨(hb.block _ (lt_of_row Rc4.out)).trans Rc4.out⟩
    have Rd5 : Away (w5.heap[u4.heap.size]? = some (.cells Y 25 (0, 0))) := ⟨(hb.block _ (lt_of_row Rd4.out)).trans Rd4.out⟩
    have B5 : Away (Below w.heap.size w w5) := ⟨B4.out.trans (hb.mono B4.out.size)⟩
    clear hb c0 c1 c2 B4 Ra4 Rb4 Rc4 Rd4
    have c0 : w5.cell? ⟨w.heap.size, 0, none⟩ = some (.int .i64 x) := cell_at S5.out rfl
    have c1 : w5.cell? ⟨w.heap.size, 1, none⟩ = some (.int .i64 y) := cell_at S5.out rfl
    have c2 : w5.cell? ⟨w.heap.size, 2, none⟩ = some (.int .i64 z) := cell_at S5.out rfl
    go_wp2_with fail
    refine (U2.out _).mono ?_
    rintro e w6 ⟨rfl, hb⟩
    have Ra6 : Away (w6.heap[u1.heap.size]? = some (.cells X 25 (0, 0))) := ⟨(hb.block _ (lt_of_row Ra5.out)).trans Ra5.out⟩
    have Rb6 : Away (w6.heap[u2.heap.size]? = some (.cells X 25 (0, 0))) := ⟨(hb.block _ (lt_of_row Rb5.out)).trans Rb5.out⟩
    have Rc6 : Away (w6.heap[u3.heap.size]? = some (.cells Y 25 (0, 0))) := ⟨(hb.block _ (lt_of_row Rc5.out)).trans Rc5.out⟩
    have Rd6 : Away (w6.heap[u4.heap.size]? = some (.cells Y 25 (0, 0))) := ⟨(hb.block _ (lt_of_row Rd5.out)).trans Rd5.out⟩
    have B6 : Away (Below w.heap.size w w6) := ⟨B5.out.trans (hb.mono B5.out.size)⟩
    clear hb c0 c1 c2 B5 Ra5 Rb5 Rc5 Rd5
    have he1 := HE1.out w6
    have he2 := HE2.out w6
    go_wp2_with (first
      | (refine wpList_load_row rfl 25 _ rfl u1.heap.size rfl 25 X (0, 0) _ Ra6.out Tryd.underlying25 rfl Xi.out ?_)
      | (refine wpList_load_row rfl 25 _ rfl u2.heap.size rfl 25 X (0, 0) _ Rb6.out Tryd.underlying25 rfl Xi.out ?_))
    refine wp_load_row 25 _ rfl u3.heap.size rfl 25 Y (0, 0) _ Rc6.out Tryd.underlying25 rfl Yi.out ?_
    go_wp2_with fail
    refine wp_load_row 25 _ rfl u4.heap.size rfl 25 Y (0, 0) _ Rd6.out Tryd.underlying25 rfl Yi.out ?_
    go_wp2_with fail
    refine (lpols.nil_any _).mono ?_
    rintro e w7 ⟨rfl, hb7⟩
    have B7 : Away (Below w.heap.size w w7) := ⟨B6.out.trans (hb7.mono B6.out.size)⟩
    clear hb7 he1 he2
    go_wp2_with fail
    refine (HA.out _).mono ?_
    rintro e w8 ⟨rfl, hb8⟩
    have BZ : Away (Below w.heap.size w w8) := ⟨B7.out.trans (hb8.mono B7.out.size)⟩
    clear hb8
    go_wp2_with fail
    go_ret
    exact ⟨rfl, BZ.out⟩
  · have U1 := Away.mk u1'
    have U2 := Away.mk u2'
    clear u1' u2'
    refine (U1.out _).mono ?_
    rintro e w5 ⟨⟨v5, rfl, hv5⟩, hb⟩
    have S5 : Away (w5.heap[w.heap.size]? = some (.cells #[.int .i64 x, .int .i64 y, .int .i64 z] 22 (0, 0))) := ⟨(hb.block _ (lt_of_row S4.out)).trans S4.out⟩
    have Ra5 : Away (w5.heap[u1.heap.size]? = some (.cells X 25 (0, 0))) := ⟨(hb.block _ (lt_of_row Ra4.out)).trans Ra4.out⟩
    have Rb5 : Away (w5.heap[u2.heap.size]? = some (.cells X 25 (0, 0))) := ⟨(hb.block _ (lt_of_row Rb4.out)).trans Rb4.out⟩
    have Rc5 : Away (w5.heap[u3.heap.size]? = some (.cells Y 25 (0, 0))) := ⟨(hb.block _ (lt_of_row Rc4.out)).trans Rc4.out⟩
    have Rd5 : Away (w5.heap[u4.heap.size]? = some (.cells Y 25 (0, 0))) := ⟨(hb.block _ (lt_of_row Rd4.out)).trans Rd4.out⟩
    have B5 : Away (Below w.heap.size w w5) := ⟨B4.out.trans (hb.mono B4.out.size)⟩
    have V5 := Away.mk hv5
    clear hv5
    clear hb c0 c1 c2 B4 Ra4 Rb4 Rc4 Rd4
    have c0 : w5.cell? ⟨w.heap.size, 0, none⟩ = some (.int .i64 x) := cell_at S5.out rfl
    have c1 : w5.cell? ⟨w.heap.size, 1, none⟩ = some (.int .i64 y) := cell_at S5.out rfl
    have c2 : w5.cell? ⟨w.heap.size, 2, none⟩ = some (.int .i64 z) := cell_at S5.out rfl
    go_wp2_with fail
    refine (U2.out _).mono ?_
    rintro e w6 ⟨⟨v6, rfl, hv6⟩, hb⟩
    have Ra6 : Away (w6.heap[u1.heap.size]? = some (.cells X 25 (0, 0))) := ⟨(hb.block _ (lt_of_row Ra5.out)).trans Ra5.out⟩
    have Rb6 : Away (w6.heap[u2.heap.size]? = some (.cells X 25 (0, 0))) := ⟨(hb.block _ (lt_of_row Rb5.out)).trans Rb5.out⟩
    have Rc6 : Away (w6.heap[u3.heap.size]? = some (.cells Y 25 (0, 0))) := ⟨(hb.block _ (lt_of_row Rc5.out)).trans Rc5.out⟩
    have Rd6 : Away (w6.heap[u4.heap.size]? = some (.cells Y 25 (0, 0))) := ⟨(hb.block _ (lt_of_row Rd5.out)).trans Rd5.out⟩
    have B6 : Away (Below w.heap.size w w6) := ⟨B5.out.trans (hb.mono B5.out.size)⟩
    have V5b : Away (Holds w6 W4.heap.size v5 m p) := ⟨V5.out.later hb⟩
    have V6 := Away.mk hv6
    clear hv6 V5
    clear hb c0 c1 c2 B5 Ra5 Rb5 Rc5 Rd5
    have he1 := HE1.out w6
    have he2 := HE2.out w6
    go_wp2_with (first
      | (refine wpList_load_row rfl 25 _ rfl u1.heap.size rfl 25 X (0, 0) _ Ra6.out Tryd.underlying25 rfl Xi.out ?_)
      | (refine wpList_load_row rfl 25 _ rfl u2.heap.size rfl 25 X (0, 0) _ Rb6.out Tryd.underlying25 rfl Xi.out ?_))
    refine wp_load_row 25 _ rfl u3.heap.size rfl 25 Y (0, 0) _ Rc6.out Tryd.underlying25 rfl Yi.out ?_
    go_wp2_with fail
    refine wp_load_row 25 _ rfl u4.heap.size rfl 25 Y (0, 0) _ Rd6.out Tryd.underlying25 rfl Yi.out ?_
    go_wp2_with fail
    refine (lpols.same_any _ _ m _ _ p _ (by omega) V5b.out V6.out).mono ?_
    rintro e w7 ⟨rfl, hb7⟩
    have B7 : Away (Below w.heap.size w w7) := ⟨B6.out.trans (hb7.mono B6.out.size)⟩
    clear hb7 he1 he2
    go_wp2_with fail
    refine (HA.out _).mono ?_
    rintro e w8 ⟨rfl, hb8⟩
    have BZ : Away (Below w.heap.size w w8) := ⟨B7.out.trans (hb8.mono B7.out.size)⟩
    clear hb8
    go_wp2_with fail
    go_ret
    exact ⟨rfl, BZ.out⟩
theorem walk (s : ByteArray) (x y z : Int) (w : World) (hs : s.size ≤ maxLen) (hx : (Lit.int .i64 x).wf = true) (hy : (Lit.int .i64 y).wf = true) (hz : (Lit.int .i64 z).wf = true) :
    Calls Tryd.prog 3 #[.string s, .agg #[.int .i64 x, .int .i64 y, .int .i64 z]] w fun e w' => e = .returned (.bool true) ∧ Below w.heap.size w w' := by
  by_cases h : 2000 < s.size
  · exact walk_far s x y z w h
  · exact walk_near s x y z w (by omega)
end Go.Proofs.YtdlolhilmhlklaaDoor.l10r
