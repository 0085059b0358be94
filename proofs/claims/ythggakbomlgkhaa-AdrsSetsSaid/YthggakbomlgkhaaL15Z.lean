/-
  The statement AdrsSets (P15.1, P15.3): each of the fourteen sets is valid, and the sizes of its signature's parts add up to the standard's. Conditions: none.
-/
import Derived.Test.YthggakbomlgkhaaAwake15
namespace Go.Proofs.Ythggakbomlgkhaa.l15z
open Go Go.RowKit
open Go.Proofs.Ythggakbomlgkhaa.arr Go.Proofs.Ythggakbomlgkhaa.mem Go.Proofs.Ythggakbomlgkhaa.stil Go.Proofs.Ythggakbomlgkhaa.boxt Go.Proofs.Ythggakbomlgkhaa.polys Go.Proofs.Ythggakbomlgkhaa.adm Go.Proofs.Ythggakbomlgkhaa.awake15

set_option maxRecDepth 100000 in
set_option maxHeartbeats 4000000 in
theorem kind_1 (x : Int) (w : World) (hk : (IntKind.u64.wrap x).tmod 14 = 0) : Calls Try.prog 6 #[.int .i64 x] w fun e w' => e = .returned (.bool true) ∧ Below w.heap.size w w' := by
  obtain ⟨hz, hsize⟩ := zero_of_info infoF
  obtain ⟨Z, HZ⟩ := ex_eq (fo 0 0 0 0 0 0)
  rw [HZ.out] at hz
  have ok1 : okF 2 16 63 7 12 14 := by decide
  obtain ⟨L, HL⟩ := ex_eq (fo 2 16 63 7 12 14)
  have HLz : Away ((Try.prog.info? 23).map (·.size) = some L.size) := ⟨by rw [← HL.out]; exact hsize⟩
  have HLs : Away (Z.size = L.size) := ⟨by rw [← HL.out, ← HZ.out]; rfl⟩
  have HLo : Away (L.all (·.oneCell') = true) := ⟨by rw [← HL.out]; exact fo_one ..⟩
  have HSet := Away.mk (fun w1 => adu.set_1 w1)
  have HLen : Away (∀ w1 : World, Calls Try.prog 8 #[.agg (fo 2 16 63 7 12 14)] w1 fun e w' => e = .returned (.tuple #[.int .i64 32, .int .i64 3, .int .i64 30]) ∧ Below w1.heap.size w1 w') := ⟨fun w1 => adl.lengths_ok 2 16 63 7 12 14 w1 ok1⟩
  have HRt : Away (∀ w1 : World, Calls Try.prog 12 #[.agg (fo 2 16 63 7 12 14)] w1 fun e w' => e = .returned (.bool true) ∧ Below w1.heap.size w1 w') := ⟨fun w1 => by
    have h9 := adr.right_any 2 16 63 7 12 14 w1
    rw [decide_eq_true ok1] at h9
    exact h9⟩
  have HAw := Away.mk (fun w1 => awake_any w1)
  rw [HL.out] at HSet HLen HRt
  clear hsize HZ ok1
  go_enter Try.func6, Try.ntmps6
  go_wp2_with fail
  refine (HSet.out _).mono ?_
  rintro e w1 ⟨rfl, hb1⟩
  obtain ⟨W1, hW1⟩ : ∃ x, w1.alloc (.cells L 23) = x := ⟨_, rfl⟩
  obtain ⟨r1, hs1, b1⟩ := one hW1
  have HW1 := Away.mk hW1
  have B1 : Away (Below w.heap.size w W1) := ⟨hb1.trans (b1.mono hb1.size)⟩
  have K0 : Away (∀ w' : World, Below W1.heap.size W1 w' → w'.heap[w1.heap.size]? = some (.cells L 23 (0, 0))) := ⟨fun w' hb => (hb.block _ (lt_of_row r1)).trans r1⟩
  have E1 : Away (Below W1.heap.size W1 W1) := ⟨Below.refl _ _⟩
  clear hb1 hW1 r1 hs1 b1 hk
  go_wp2_with (first
    | (refine wpList_store_new rfl 23 _ _ rfl _ rfl rfl HLz.out HLs.out HLo.out rfl ?_)
    | (rw [HW1.out])
    | (refine wpList_load_row rfl 23 _ rfl w1.heap.size rfl 23 L (0, 0) _ (K0.out _ E1.out) Try.underlying23 rfl HLz.out ?_))
  refine (HLen.out _).mono ?_
  rintro e w2 ⟨rfl, hb⟩
  have E2 : Away (Below W1.heap.size W1 w2) := ⟨E1.out.trans (hb.mono E1.out.size)⟩
  have hr2 := K0.out _ E2.out
  rw [← HL.out] at hr2
  have c1 : w2.cell? ⟨w1.heap.size, 1, none⟩ = some (.int .i64 16) := cell_at hr2 rfl
  have c2 : w2.cell? ⟨w1.heap.size, 2, none⟩ = some (.int .i64 63) := cell_at hr2 rfl
  have c3 : w2.cell? ⟨w1.heap.size, 3, none⟩ = some (.int .i64 7) := cell_at hr2 rfl
  have c4 : w2.cell? ⟨w1.heap.size, 4, none⟩ = some (.int .i64 12) := cell_at hr2 rfl
  have c5 : w2.cell? ⟨w1.heap.size, 5, none⟩ = some (.int .i64 14) := cell_at hr2 rfl
  have E3 : Away (Below W1.heap.size W1 (w2.alloc (.cells #[.int .i64 7856, .int .i64 17088, .int .i64 16224, .int .i64 35664, .int .i64 29792, .int .i64 49856] 3))) := ⟨E2.out.alloc E2.out.size _⟩
  clear hb hz hr2
  go_wp2_with (first
    | (refine wpList_load_want rfl 23 _ rfl w1.heap.size rfl 23 L _ (K0.out _ E3.out) Try.underlying23 rfl HLz.out ?_))
  obtain ⟨V, hV⟩ : ∃ y, w2.alloc (.cells #[.int .i64 7856, .int .i64 17088, .int .i64 16224, .int .i64 35664, .int .i64 29792, .int .i64 49856] 3) = y := ⟨_, rfl⟩
  obtain ⟨rv, -, -⟩ := one hV
  have HV := Away.mk hV
  rw [hV] at E3 ⊢
  refine (HRt.out _).mono ?_
  rintro e w4 ⟨rfl, hb⟩
  have cw : w4.cell? ⟨w2.heap.size, 0, none⟩ = some (.int .i64 7856) := cell_at ((hb.block _ (lt_of_row rv)).trans rv) rfl
  have E4 : Away (Below W1.heap.size W1 w4) := ⟨E3.out.trans (hb.mono E3.out.size)⟩
  clear hb hV rv c1 c2 c3 c4 c5
  go_wp2_with fail
  refine (HAw.out _).mono ?_
  rintro e w5 ⟨rfl, hb⟩
  have E5 : Away (Below W1.heap.size W1 w5) := ⟨E4.out.trans (hb.mono E4.out.size)⟩
  clear hb cw
  go_wp2_with fail
  go_ret
  exact ⟨rfl, B1.out.trans (E5.out.mono B1.out.size)⟩
set_option maxRecDepth 100000 in
set_option maxHeartbeats 4000000 in
theorem kind_2 (x : Int) (w : World) (hk : (IntKind.u64.wrap x).tmod 14 = 1) : Calls Try.prog 6 #[.int .i64 x] w fun e w' => e = .returned (.bool true) ∧ Below w.heap.size w w' := by
  obtain ⟨hz, hsize⟩ := zero_of_info infoF
  obtain ⟨Z, HZ⟩ := ex_eq (fo 0 0 0 0 0 0)
  rw [HZ.out] at hz
  have ok1 : okF 2 16 66 22 6 33 := by decide
  obtain ⟨L, HL⟩ := ex_eq (fo 2 16 66 22 6 33)
  have HLz : Away ((Try.prog.info? 23).map (·.size) = some L.size) := ⟨by rw [← HL.out]; exact hsize⟩
  have HLs : Away (Z.size = L.size) := ⟨by rw [← HL.out, ← HZ.out]; rfl⟩
  have HLo : Away (L.all (·.oneCell') = true) := ⟨by rw [← HL.out]; exact fo_one ..⟩
  have HSet := Away.mk (fun w1 => adu.set_2 w1)
  have HLen : Away (∀ w1 : World, Calls Try.prog 8 #[.agg (fo 2 16 66 22 6 33)] w1 fun e w' => e = .returned (.tuple #[.int .i64 32, .int .i64 3, .int .i64 34]) ∧ Below w1.heap.size w1 w') := ⟨fun w1 => adl.lengths_ok 2 16 66 22 6 33 w1 ok1⟩
  have HRt : Away (∀ w1 : World, Calls Try.prog 12 #[.agg (fo 2 16 66 22 6 33)] w1 fun e w' => e = .returned (.bool true) ∧ Below w1.heap.size w1 w') := ⟨fun w1 => by
    have h9 := adr.right_any 2 16 66 22 6 33 w1
    rw [decide_eq_true ok1] at h9
    exact h9⟩
  have HAw := Away.mk (fun w1 => awake_any w1)
  rw [HL.out] at HSet HLen HRt
  clear hsize HZ ok1
  go_enter Try.func6, Try.ntmps6
  go_wp2_with fail
  refine (HSet.out _).mono ?_
  rintro e w1 ⟨rfl, hb1⟩
  obtain ⟨W1, hW1⟩ : ∃ x, w1.alloc (.cells L 23) = x := ⟨_, rfl⟩
  obtain ⟨r1, hs1, b1⟩ := one hW1
  have HW1 := Away.mk hW1
  have B1 : Away (Below w.heap.size w W1) := ⟨hb1.trans (b1.mono hb1.size)⟩
  have K0 : Away (∀ w' : World, Below W1.heap.size W1 w' → w'.heap[w1.heap.size]? = some (.cells L 23 (0, 0))) := ⟨fun w' hb => (hb.block _ (lt_of_row r1)).trans r1⟩
  have E1 : Away (Below W1.heap.size W1 W1) := ⟨Below.refl _ _⟩
  clear hb1 hW1 r1 hs1 b1 hk
  go_wp2_with (first
    | (refine wpList_store_new rfl 23 _ _ rfl _ rfl rfl HLz.out HLs.out HLo.out rfl ?_)
    | (rw [HW1.out])
    | (refine wpList_load_row rfl 23 _ rfl w1.heap.size rfl 23 L (0, 0) _ (K0.out _ E1.out) Try.underlying23 rfl HLz.out ?_))
  refine (HLen.out _).mono ?_
  rintro e w2 ⟨rfl, hb⟩
  have E2 : Away (Below W1.heap.size W1 w2) := ⟨E1.out.trans (hb.mono E1.out.size)⟩
  have hr2 := K0.out _ E2.out
  rw [← HL.out] at hr2
  have c1 : w2.cell? ⟨w1.heap.size, 1, none⟩ = some (.int .i64 16) := cell_at hr2 rfl
  have c2 : w2.cell? ⟨w1.heap.size, 2, none⟩ = some (.int .i64 66) := cell_at hr2 rfl
  have c3 : w2.cell? ⟨w1.heap.size, 3, none⟩ = some (.int .i64 22) := cell_at hr2 rfl
  have c4 : w2.cell? ⟨w1.heap.size, 4, none⟩ = some (.int .i64 6) := cell_at hr2 rfl
  have c5 : w2.cell? ⟨w1.heap.size, 5, none⟩ = some (.int .i64 33) := cell_at hr2 rfl
  have E3 : Away (Below W1.heap.size W1 (w2.alloc (.cells #[.int .i64 7856, .int .i64 17088, .int .i64 16224, .int .i64 35664, .int .i64 29792, .int .i64 49856] 3))) := ⟨E2.out.alloc E2.out.size _⟩
  clear hb hz hr2
  go_wp2_with (first
    | (refine wpList_load_want rfl 23 _ rfl w1.heap.size rfl 23 L _ (K0.out _ E3.out) Try.underlying23 rfl HLz.out ?_))
  obtain ⟨V, hV⟩ : ∃ y, w2.alloc (.cells #[.int .i64 7856, .int .i64 17088, .int .i64 16224, .int .i64 35664, .int .i64 29792, .int .i64 49856] 3) = y := ⟨_, rfl⟩
  obtain ⟨rv, -, -⟩ := one hV
  have HV := Away.mk hV
  rw [hV] at E3 ⊢
  refine (HRt.out _).mono ?_
  rintro e w4 ⟨rfl, hb⟩
  have cw : w4.cell? ⟨w2.heap.size, 1, none⟩ = some (.int .i64 17088) := cell_at ((hb.block _ (lt_of_row rv)).trans rv) rfl
  have E4 : Away (Below W1.heap.size W1 w4) := ⟨E3.out.trans (hb.mono E3.out.size)⟩
  clear hb hV rv c1 c2 c3 c4 c5
  go_wp2_with fail
  refine (HAw.out _).mono ?_
  rintro e w5 ⟨rfl, hb⟩
  have E5 : Away (Below W1.heap.size W1 w5) := ⟨E4.out.trans (hb.mono E4.out.size)⟩
  clear hb cw
  go_wp2_with fail
  go_ret
  exact ⟨rfl, B1.out.trans (E5.out.mono B1.out.size)⟩
set_option maxRecDepth 100000 in
set_option maxHeartbeats 4000000 in
theorem kind_3 (x : Int) (w : World) (hk : (IntKind.u64.wrap x).tmod 14 = 2) : Calls Try.prog 6 #[.int .i64 x] w fun e w' => e = .returned (.bool true) ∧ Below w.heap.size w w' := by
  obtain ⟨hz, hsize⟩ := zero_of_info infoF
  obtain ⟨Z, HZ⟩ := ex_eq (fo 0 0 0 0 0 0)
  rw [HZ.out] at hz
  have ok1 : okF 2 24 63 7 14 17 := by decide
  obtain ⟨L, HL⟩ := ex_eq (fo 2 24 63 7 14 17)
  have HLz : Away ((Try.prog.info? 23).map (·.size) = some L.size) := ⟨by rw [← HL.out]; exact hsize⟩
  have HLs : Away (Z.size = L.size) := ⟨by rw [← HL.out, ← HZ.out]; rfl⟩
  have HLo : Away (L.all (·.oneCell') = true) := ⟨by rw [← HL.out]; exact fo_one ..⟩
  have HSet := Away.mk (fun w1 => adu.set_3 w1)
  have HLen : Away (∀ w1 : World, Calls Try.prog 8 #[.agg (fo 2 24 63 7 14 17)] w1 fun e w' => e = .returned (.tuple #[.int .i64 48, .int .i64 3, .int .i64 39]) ∧ Below w1.heap.size w1 w') := ⟨fun w1 => adl.lengths_ok 2 24 63 7 14 17 w1 ok1⟩
  have HRt : Away (∀ w1 : World, Calls Try.prog 12 #[.agg (fo 2 24 63 7 14 17)] w1 fun e w' => e = .returned (.bool true) ∧ Below w1.heap.size w1 w') := ⟨fun w1 => by
    have h9 := adr.right_any 2 24 63 7 14 17 w1
    rw [decide_eq_true ok1] at h9
    exact h9⟩
  have HAw := Away.mk (fun w1 => awake_any w1)
  rw [HL.out] at HSet HLen HRt
  clear hsize HZ ok1
  go_enter Try.func6, Try.ntmps6
  go_wp2_with fail
  refine (HSet.out _).mono ?_
  rintro e w1 ⟨rfl, hb1⟩
  obtain ⟨W1, hW1⟩ : ∃ x, w1.alloc (.cells L 23) = x := ⟨_, rfl⟩
  obtain ⟨r1, hs1, b1⟩ := one hW1
  have HW1 := Away.mk hW1
  have B1 : Away (Below w.heap.size w W1) := ⟨hb1.trans (b1.mono hb1.size)⟩
  have K0 : Away (∀ w' : World, Below W1.heap.size W1 w' → w'.heap[w1.heap.size]? = some (.cells L 23 (0, 0))) := ⟨fun w' hb => (hb.block _ (lt_of_row r1)).trans r1⟩
  have E1 : Away (Below W1.heap.size W1 W1) := ⟨Below.refl _ _⟩
  clear hb1 hW1 r1 hs1 b1 hk
  go_wp2_with (first
    | (refine wpList_store_new rfl 23 _ _ rfl _ rfl rfl HLz.out HLs.out HLo.out rfl ?_)
    | (rw [HW1.out])
    | (refine wpList_load_row rfl 23 _ rfl w1.heap.size rfl 23 L (0, 0) _ (K0.out _ E1.out) Try.underlying23 rfl HLz.out ?_))
  refine (HLen.out _).mono ?_
  rintro e w2 ⟨rfl, hb⟩
  have E2 : Away (Below W1.heap.size W1 w2) := ⟨E1.out.trans (hb.mono E1.out.size)⟩
  have hr2 := K0.out _ E2.out
  rw [← HL.out] at hr2
  have c1 : w2.cell? ⟨w1.heap.size, 1, none⟩ = some (.int .i64 24) := cell_at hr2 rfl
  have c2 : w2.cell? ⟨w1.heap.size, 2, none⟩ = some (.int .i64 63) := cell_at hr2 rfl
  have c3 : w2.cell? ⟨w1.heap.size, 3, none⟩ = some (.int .i64 7) := cell_at hr2 rfl
  have c4 : w2.cell? ⟨w1.heap.size, 4, none⟩ = some (.int .i64 14) := cell_at hr2 rfl
  have c5 : w2.cell? ⟨w1.heap.size, 5, none⟩ = some (.int .i64 17) := cell_at hr2 rfl
  have E3 : Away (Below W1.heap.size W1 (w2.alloc (.cells #[.int .i64 7856, .int .i64 17088, .int .i64 16224, .int .i64 35664, .int .i64 29792, .int .i64 49856] 3))) := ⟨E2.out.alloc E2.out.size _⟩
  clear hb hz hr2
  go_wp2_with (first
    | (refine wpList_load_want rfl 23 _ rfl w1.heap.size rfl 23 L _ (K0.out _ E3.out) Try.underlying23 rfl HLz.out ?_))
  obtain ⟨V, hV⟩ : ∃ y, w2.alloc (.cells #[.int .i64 7856, .int .i64 17088, .int .i64 16224, .int .i64 35664, .int .i64 29792, .int .i64 49856] 3) = y := ⟨_, rfl⟩
  obtain ⟨rv, -, -⟩ := one hV
  have HV := Away.mk hV
  rw [hV] at E3 ⊢
  refine (HRt.out _).mono ?_
  rintro e w4 ⟨rfl, hb⟩
  have cw : w4.cell? ⟨w2.heap.size, 2, none⟩ = some (.int .i64 16224) := cell_at ((hb.block _ (lt_of_row rv)).trans rv) rfl
  have E4 : Away (Below W1.heap.size W1 w4) := ⟨E3.out.trans (hb.mono E3.out.size)⟩
  clear hb hV rv c1 c2 c3 c4 c5
  go_wp2_with fail
  refine (HAw.out _).mono ?_
  rintro e w5 ⟨rfl, hb⟩
  have E5 : Away (Below W1.heap.size W1 w5) := ⟨E4.out.trans (hb.mono E4.out.size)⟩
  clear hb cw
  go_wp2_with fail
  go_ret
  exact ⟨rfl, B1.out.trans (E5.out.mono B1.out.size)⟩
set_option maxRecDepth 100000 in
set_option maxHeartbeats 4000000 in
theorem kind_4 (x : Int) (w : World) (hk : (IntKind.u64.wrap x).tmod 14 = 3) : Calls Try.prog 6 #[.int .i64 x] w fun e w' => e = .returned (.bool true) ∧ Below w.heap.size w w' := by
  obtain ⟨hz, hsize⟩ := zero_of_info infoF
  obtain ⟨Z, HZ⟩ := ex_eq (fo 0 0 0 0 0 0)
  rw [HZ.out] at hz
  have ok1 : okF 2 24 66 22 8 33 := by decide
  obtain ⟨L, HL⟩ := ex_eq (fo 2 24 66 22 8 33)
  have HLz : Away ((Try.prog.info? 23).map (·.size) = some L.size) := ⟨by rw [← HL.out]; exact hsize⟩
  have HLs : Away (Z.size = L.size) := ⟨by rw [← HL.out, ← HZ.out]; rfl⟩
  have HLo : Away (L.all (·.oneCell') = true) := ⟨by rw [← HL.out]; exact fo_one ..⟩
  have HSet := Away.mk (fun w1 => adu.set_4 w1)
  have HLen : Away (∀ w1 : World, Calls Try.prog 8 #[.agg (fo 2 24 66 22 8 33)] w1 fun e w' => e = .returned (.tuple #[.int .i64 48, .int .i64 3, .int .i64 42]) ∧ Below w1.heap.size w1 w') := ⟨fun w1 => adl.lengths_ok 2 24 66 22 8 33 w1 ok1⟩
  have HRt : Away (∀ w1 : World, Calls Try.prog 12 #[.agg (fo 2 24 66 22 8 33)] w1 fun e w' => e = .returned (.bool true) ∧ Below w1.heap.size w1 w') := ⟨fun w1 => by
    have h9 := adr.right_any 2 24 66 22 8 33 w1
    rw [decide_eq_true ok1] at h9
    exact h9⟩
  have HAw := Away.mk (fun w1 => awake_any w1)
  rw [HL.out] at HSet HLen HRt
  clear hsize HZ ok1
  go_enter Try.func6, Try.ntmps6
  go_wp2_with fail
  refine (HSet.out _).mono ?_
  rintro e w1 ⟨rfl, hb1⟩
  obtain ⟨W1, hW1⟩ : ∃ x, w1.alloc (.cells L 23) = x := ⟨_, rfl⟩
  obtain ⟨r1, hs1, b1⟩ := one hW1
  have HW1 := Away.mk hW1
  have B1 : Away (Below w.heap.size w W1) := ⟨hb1.trans (b1.mono hb1.size)⟩
  have K0 : Away (∀ w' : World, Below W1.heap.size W1 w' → w'.heap[w1.heap.size]? = some (.cells L 23 (0, 0))) := ⟨fun w' hb => (hb.block _ (lt_of_row r1)).trans r1⟩
  have E1 : Away (Below W1.heap.size W1 W1) := ⟨Below.refl _ _⟩
  clear hb1 hW1 r1 hs1 b1 hk
  go_wp2_with (first
    | (refine wpList_store_new rfl 23 _ _ rfl _ rfl rfl HLz.out HLs.out HLo.out rfl ?_)
    | (rw [HW1.out])
    | (refine wpList_load_row rfl 23 _ rfl w1.heap.size rfl 23 L (0, 0) _ (K0.out _ E1.out) Try.underlying23 rfl HLz.out ?_))
  refine (HLen.out _).mono ?_
  rintro e w2 ⟨rfl, hb⟩
  have E2 : Away (Below W1.heap.size W1 w2) := ⟨E1.out.trans (hb.mono E1.out.size)⟩
  have hr2 := K0.out _ E2.out
  rw [← HL.out] at hr2
  have c1 : w2.cell? ⟨w1.heap.size, 1, none⟩ = some (.int .i64 24) := cell_at hr2 rfl
  have c2 : w2.cell? ⟨w1.heap.size, 2, none⟩ = some (.int .i64 66) := cell_at hr2 rfl
  have c3 : w2.cell? ⟨w1.heap.size, 3, none⟩ = some (.int .i64 22) := cell_at hr2 rfl
  have c4 : w2.cell? ⟨w1.heap.size, 4, none⟩ = some (.int .i64 8) := cell_at hr2 rfl
  have c5 : w2.cell? ⟨w1.heap.size, 5, none⟩ = some (.int .i64 33) := cell_at hr2 rfl
  have E3 : Away (Below W1.heap.size W1 (w2.alloc (.cells #[.int .i64 7856, .int .i64 17088, .int .i64 16224, .int .i64 35664, .int .i64 29792, .int .i64 49856] 3))) := ⟨E2.out.alloc E2.out.size _⟩
  clear hb hz hr2
  go_wp2_with (first
    | (refine wpList_load_want rfl 23 _ rfl w1.heap.size rfl 23 L _ (K0.out _ E3.out) Try.underlying23 rfl HLz.out ?_))
  obtain ⟨V, hV⟩ : ∃ y, w2.alloc (.cells #[.int .i64 7856, .int .i64 17088, .int .i64 16224, .int .i64 35664, .int .i64 29792, .int .i64 49856] 3) = y := ⟨_, rfl⟩
  obtain ⟨rv, -, -⟩ := one hV
  have HV := Away.mk hV
  rw [hV] at E3 ⊢
  refine (HRt.out _).mono ?_
  rintro e w4 ⟨rfl, hb⟩
  have cw : w4.cell? ⟨w2.heap.size, 3, none⟩ = some (.int .i64 35664) := cell_at ((hb.block _ (lt_of_row rv)).trans rv) rfl
  have E4 : Away (Below W1.heap.size W1 w4) := ⟨E3.out.trans (hb.mono E3.out.size)⟩
  clear hb hV rv c1 c2 c3 c4 c5
  go_wp2_with fail
  refine (HAw.out _).mono ?_
  rintro e w5 ⟨rfl, hb⟩
  have E5 : Away (Below W1.heap.size W1 w5) := ⟨E4.out.trans (hb.mono E4.out.size)⟩
  clear hb cw
  go_wp2_with fail
  go_ret
  exact ⟨rfl, B1.out.trans (E5.out.mono B1.out.size)⟩
set_option maxRecDepth 100000 in
set_option maxHeartbeats 4000000 in
theorem kind_5 (x : Int) (w : World) (hk : (IntKind.u64.wrap x).tmod 14 = 4) : Calls Try.prog 6 #[.int .i64 x] w fun e w' => e = .returned (.bool true) ∧ Below w.heap.size w w' := by
  obtain ⟨hz, hsize⟩ := zero_of_info infoF
  obtain ⟨Z, HZ⟩ := ex_eq (fo 0 0 0 0 0 0)
  rw [HZ.out] at hz
  have ok1 : okF 2 32 64 8 14 22 := by decide
  obtain ⟨L, HL⟩ := ex_eq (fo 2 32 64 8 14 22)
  have HLz : Away ((Try.prog.info? 23).map (·.size) = some L.size) := ⟨by rw [← HL.out]; exact hsize⟩
  have HLs : Away (Z.size = L.size) := ⟨by rw [← HL.out, ← HZ.out]; rfl⟩
  have HLo : Away (L.all (·.oneCell') = true) := ⟨by rw [← HL.out]; exact fo_one ..⟩
  have HSet := Away.mk (fun w1 => adu.set_5 w1)
  have HLen : Away (∀ w1 : World, Calls Try.prog 8 #[.agg (fo 2 32 64 8 14 22)] w1 fun e w' => e = .returned (.tuple #[.int .i64 64, .int .i64 3, .int .i64 47]) ∧ Below w1.heap.size w1 w') := ⟨fun w1 => adl.lengths_ok 2 32 64 8 14 22 w1 ok1⟩
  have HRt : Away (∀ w1 : World, Calls Try.prog 12 #[.agg (fo 2 32 64 8 14 22)] w1 fun e w' => e = .returned (.bool true) ∧ Below w1.heap.size w1 w') := ⟨fun w1 => by
    have h9 := adr.right_any 2 32 64 8 14 22 w1
    rw [decide_eq_true ok1] at h9
    exact h9⟩
  have HAw := Away.mk (fun w1 => awake_any w1)
  rw [HL.out] at HSet HLen HRt
  clear hsize HZ ok1
  go_enter Try.func6, Try.ntmps6
  go_wp2_with fail
  refine (HSet.out _).mono ?_
  rintro e w1 ⟨rfl, hb1⟩
  obtain ⟨W1, hW1⟩ : ∃ x, w1.alloc (.cells L 23) = x := ⟨_, rfl⟩
  obtain ⟨r1, hs1, b1⟩ := one hW1
  have HW1 := Away.mk hW1
  have B1 : Away (Below w.heap.size w W1) := ⟨hb1.trans (b1.mono hb1.size)⟩
  have K0 : Away (∀ w' : World, Below W1.heap.size W1 w' → w'.heap[w1.heap.size]? = some (.cells L 23 (0, 0))) := ⟨fun w' hb => (hb.block _ (lt_of_row r1)).trans r1⟩
  have E1 : Away (Below W1.heap.size W1 W1) := ⟨Below.refl _ _⟩
  clear hb1 hW1 r1 hs1 b1 hk
  go_wp2_with (first
    | (refine wpList_store_new rfl 23 _ _ rfl _ rfl rfl HLz.out HLs.out HLo.out rfl ?_)
    | (rw [HW1.out])
    | (refine wpList_load_row rfl 23 _ rfl w1.heap.size rfl 23 L (0, 0) _ (K0.out _ E1.out) Try.underlying23 rfl HLz.out ?_))
  refine (HLen.out _).mono ?_
  rintro e w2 ⟨rfl, hb⟩
  have E2 : Away (Below W1.heap.size W1 w2) := ⟨E1.out.trans (hb.mono E1.out.size)⟩
  have hr2 := K0.out _ E2.out
  rw [← HL.out] at hr2
  have c1 : w2.cell? ⟨w1.heap.size, 1, none⟩ = some (.int .i64 32) := cell_at hr2 rfl
  have c2 : w2.cell? ⟨w1.heap.size, 2, none⟩ = some (.int .i64 64) := cell_at hr2 rfl
  have c3 : w2.cell? ⟨w1.heap.size, 3, none⟩ = some (.int .i64 8) := cell_at hr2 rfl
  have c4 : w2.cell? ⟨w1.heap.size, 4, none⟩ = some (.int .i64 14) := cell_at hr2 rfl
  have c5 : w2.cell? ⟨w1.heap.size, 5, none⟩ = some (.int .i64 22) := cell_at hr2 rfl
  have E3 : Away (Below W1.heap.size W1 (w2.alloc (.cells #[.int .i64 7856, .int .i64 17088, .int .i64 16224, .int .i64 35664, .int .i64 29792, .int .i64 49856] 3))) := ⟨E2.out.alloc E2.out.size _⟩
  clear hb hz hr2
  go_wp2_with (first
    | (refine wpList_load_want rfl 23 _ rfl w1.heap.size rfl 23 L _ (K0.out _ E3.out) Try.underlying23 rfl HLz.out ?_))
  obtain ⟨V, hV⟩ : ∃ y, w2.alloc (.cells #[.int .i64 7856, .int .i64 17088, .int .i64 16224, .int .i64 35664, .int .i64 29792, .int .i64 49856] 3) = y := ⟨_, rfl⟩
  obtain ⟨rv, -, -⟩ := one hV
  have HV := Away.mk hV
  rw [hV] at E3 ⊢
  refine (HRt.out _).mono ?_
  rintro e w4 ⟨rfl, hb⟩
  have cw : w4.cell? ⟨w2.heap.size, 4, none⟩ = some (.int .i64 29792) := cell_at ((hb.block _ (lt_of_row rv)).trans rv) rfl
  have E4 : Away (Below W1.heap.size W1 w4) := ⟨E3.out.trans (hb.mono E3.out.size)⟩
  clear hb hV rv c1 c2 c3 c4 c5
  go_wp2_with fail
  refine (HAw.out _).mono ?_
  rintro e w5 ⟨rfl, hb⟩
  have E5 : Away (Below W1.heap.size W1 w5) := ⟨E4.out.trans (hb.mono E4.out.size)⟩
  clear hb cw
  go_wp2_with fail
  go_ret
  exact ⟨rfl, B1.out.trans (E5.out.mono B1.out.size)⟩
set_option maxRecDepth 100000 in
set_option maxHeartbeats 4000000 in
theorem kind_6 (x : Int) (w : World) (hk : (IntKind.u64.wrap x).tmod 14 = 5) : Calls Try.prog 6 #[.int .i64 x] w fun e w' => e = .returned (.bool true) ∧ Below w.heap.size w w' := by
  obtain ⟨hz, hsize⟩ := zero_of_info infoF
  obtain ⟨Z, HZ⟩ := ex_eq (fo 0 0 0 0 0 0)
  rw [HZ.out] at hz
  have ok1 : okF 2 32 68 17 9 35 := by decide
  obtain ⟨L, HL⟩ := ex_eq (fo 2 32 68 17 9 35)
  have HLz : Away ((Try.prog.info? 23).map (·.size) = some L.size) := ⟨by rw [← HL.out]; exact hsize⟩
  have HLs : Away (Z.size = L.size) := ⟨by rw [← HL.out, ← HZ.out]; rfl⟩
  have HLo : Away (L.all (·.oneCell') = true) := ⟨by rw [← HL.out]; exact fo_one ..⟩
  have HSet := Away.mk (fun w1 => adu.set_6 w1)
  have HLen : Away (∀ w1 : World, Calls Try.prog 8 #[.agg (fo 2 32 68 17 9 35)] w1 fun e w' => e = .returned (.tuple #[.int .i64 64, .int .i64 3, .int .i64 49]) ∧ Below w1.heap.size w1 w') := ⟨fun w1 => adl.lengths_ok 2 32 68 17 9 35 w1 ok1⟩
  have HRt : Away (∀ w1 : World, Calls Try.prog 12 #[.agg (fo 2 32 68 17 9 35)] w1 fun e w' => e = .returned (.bool true) ∧ Below w1.heap.size w1 w') := ⟨fun w1 => by
    have h9 := adr.right_any 2 32 68 17 9 35 w1
    rw [decide_eq_true ok1] at h9
    exact h9⟩
  have HAw := Away.mk (fun w1 => awake_any w1)
  rw [HL.out] at HSet HLen HRt
  clear hsize HZ ok1
  go_enter Try.func6, Try.ntmps6
  go_wp2_with fail
  refine (HSet.out _).mono ?_
  rintro e w1 ⟨rfl, hb1⟩
  obtain ⟨W1, hW1⟩ : ∃ x, w1.alloc (.cells L 23) = x := ⟨_, rfl⟩
  obtain ⟨r1, hs1, b1⟩ := one hW1
  have HW1 := Away.mk hW1
  have B1 : Away (Below w.heap.size w W1) := ⟨hb1.trans (b1.mono hb1.size)⟩
  have K0 : Away (∀ w' : World, Below W1.heap.size W1 w' → w'.heap[w1.heap.size]? = some (.cells L 23 (0, 0))) := ⟨fun w' hb => (hb.block _ (lt_of_row r1)).trans r1⟩
  have E1 : Away (Below W1.heap.size W1 W1) := ⟨Below.refl _ _⟩
  clear hb1 hW1 r1 hs1 b1 hk
  go_wp2_with (first
    | (refine wpList_store_new rfl 23 _ _ rfl _ rfl rfl HLz.out HLs.out HLo.out rfl ?_)
    | (rw [HW1.out])
    | (refine wpList_load_row rfl 23 _ rfl w1.heap.size rfl 23 L (0, 0) _ (K0.out _ E1.out) Try.underlying23 rfl HLz.out ?_))
  refine (HLen.out _).mono ?_
  rintro e w2 ⟨rfl, hb⟩
  have E2 : Away (Below W1.heap.size W1 w2) := ⟨E1.out.trans (hb.mono E1.out.size)⟩
  have hr2 := K0.out _ E2.out
  rw [← HL.out] at hr2
  have c1 : w2.cell? ⟨w1.heap.size, 1, none⟩ = some (.int .i64 32) := cell_at hr2 rfl
  have c2 : w2.cell? ⟨w1.heap.size, 2, none⟩ = some (.int .i64 68) := cell_at hr2 rfl
  have c3 : w2.cell? ⟨w1.heap.size, 3, none⟩ = some (.int .i64 17) := cell_at hr2 rfl
  have c4 : w2.cell? ⟨w1.heap.size, 4, none⟩ = some (.int .i64 9) := cell_at hr2 rfl
  have c5 : w2.cell? ⟨w1.heap.size, 5, none⟩ = some (.int .i64 35) := cell_at hr2 rfl
  have E3 : Away (Below W1.heap.size W1 (w2.alloc (.cells #[.int .i64 7856, .int .i64 17088, .int .i64 16224, .int .i64 35664, .int .i64 29792, .int .i64 49856] 3))) := ⟨E2.out.alloc E2.out.size _⟩
  clear hb hz hr2
  go_wp2_with (first
    | (refine wpList_load_want rfl 23 _ rfl w1.heap.size rfl 23 L _ (K0.out _ E3.out) Try.underlying23 rfl HLz.out ?_))
  obtain ⟨V, hV⟩ : ∃ y, w2.alloc (.cells #[.int .i64 7856, .int .i64 17088, .int .i64 16224, .int .i64 35664, .int .i64 29792, .int .i64 49856] 3) = y := ⟨_, rfl⟩
  obtain ⟨rv, -, -⟩ := one hV
  have HV := Away.mk hV
  rw [hV] at E3 ⊢
  refine (HRt.out _).mono ?_
  rintro e w4 ⟨rfl, hb⟩
  have cw : w4.cell? ⟨w2.heap.size, 5, none⟩ = some (.int .i64 49856) := cell_at ((hb.block _ (lt_of_row rv)).trans rv) rfl
  have E4 : Away (Below W1.heap.size W1 w4) := ⟨E3.out.trans (hb.mono E3.out.size)⟩
  clear hb hV rv c1 c2 c3 c4 c5
  go_wp2_with fail
  refine (HAw.out _).mono ?_
  rintro e w5 ⟨rfl, hb⟩
  have E5 : Away (Below W1.heap.size W1 w5) := ⟨E4.out.trans (hb.mono E4.out.size)⟩
  clear hb cw
  go_wp2_with fail
  go_ret
  exact ⟨rfl, B1.out.trans (E5.out.mono B1.out.size)⟩
set_option maxRecDepth 100000 in
set_option maxHeartbeats 4000000 in
theorem kind_7 (x : Int) (w : World) (hk : (IntKind.u64.wrap x).tmod 14 = 6) : Calls Try.prog 6 #[.int .i64 x] w fun e w' => e = .returned (.bool true) ∧ Below w.heap.size w w' := by
  obtain ⟨hz, hsize⟩ := zero_of_info infoF
  obtain ⟨Z, HZ⟩ := ex_eq (fo 0 0 0 0 0 0)
  rw [HZ.out] at hz
  have ok1 : okF 1 16 63 7 12 14 := by decide
  obtain ⟨L, HL⟩ := ex_eq (fo 1 16 63 7 12 14)
  have HLz : Away ((Try.prog.info? 23).map (·.size) = some L.size) := ⟨by rw [← HL.out]; exact hsize⟩
  have HLs : Away (Z.size = L.size) := ⟨by rw [← HL.out, ← HZ.out]; rfl⟩
  have HLo : Away (L.all (·.oneCell') = true) := ⟨by rw [← HL.out]; exact fo_one ..⟩
  have HSet := Away.mk (fun w1 => adu.set_7 w1)
  have HLen : Away (∀ w1 : World, Calls Try.prog 8 #[.agg (fo 1 16 63 7 12 14)] w1 fun e w' => e = .returned (.tuple #[.int .i64 32, .int .i64 3, .int .i64 30]) ∧ Below w1.heap.size w1 w') := ⟨fun w1 => adl.lengths_ok 1 16 63 7 12 14 w1 ok1⟩
  have HRt : Away (∀ w1 : World, Calls Try.prog 12 #[.agg (fo 1 16 63 7 12 14)] w1 fun e w' => e = .returned (.bool true) ∧ Below w1.heap.size w1 w') := ⟨fun w1 => by
    have h9 := adr.right_any 1 16 63 7 12 14 w1
    rw [decide_eq_true ok1] at h9
    exact h9⟩
  have HAw := Away.mk (fun w1 => awake_any w1)
  rw [HL.out] at HSet HLen HRt
  clear hsize HZ ok1
  go_enter Try.func6, Try.ntmps6
  go_wp2_with fail
  refine (HSet.out _).mono ?_
  rintro e w1 ⟨rfl, hb1⟩
  obtain ⟨W1, hW1⟩ : ∃ x, w1.alloc (.cells L 23) = x := ⟨_, rfl⟩
  obtain ⟨r1, hs1, b1⟩ := one hW1
  have HW1 := Away.mk hW1
  have B1 : Away (Below w.heap.size w W1) := ⟨hb1.trans (b1.mono hb1.size)⟩
  have K0 : Away (∀ w' : World, Below W1.heap.size W1 w' → w'.heap[w1.heap.size]? = some (.cells L 23 (0, 0))) := ⟨fun w' hb => (hb.block _ (lt_of_row r1)).trans r1⟩
  have E1 : Away (Below W1.heap.size W1 W1) := ⟨Below.refl _ _⟩
  clear hb1 hW1 r1 hs1 b1 hk
  go_wp2_with (first
    | (refine wpList_store_new rfl 23 _ _ rfl _ rfl rfl HLz.out HLs.out HLo.out rfl ?_)
    | (rw [HW1.out])
    | (refine wpList_load_row rfl 23 _ rfl w1.heap.size rfl 23 L (0, 0) _ (K0.out _ E1.out) Try.underlying23 rfl HLz.out ?_))
  refine (HLen.out _).mono ?_
  rintro e w2 ⟨rfl, hb⟩
  have E2 : Away (Below W1.heap.size W1 w2) := ⟨E1.out.trans (hb.mono E1.out.size)⟩
  have hr2 := K0.out _ E2.out
  rw [← HL.out] at hr2
  have c1 : w2.cell? ⟨w1.heap.size, 1, none⟩ = some (.int .i64 16) := cell_at hr2 rfl
  have c2 : w2.cell? ⟨w1.heap.size, 2, none⟩ = some (.int .i64 63) := cell_at hr2 rfl
  have c3 : w2.cell? ⟨w1.heap.size, 3, none⟩ = some (.int .i64 7) := cell_at hr2 rfl
  have c4 : w2.cell? ⟨w1.heap.size, 4, none⟩ = some (.int .i64 12) := cell_at hr2 rfl
  have c5 : w2.cell? ⟨w1.heap.size, 5, none⟩ = some (.int .i64 14) := cell_at hr2 rfl
  have E3 : Away (Below W1.heap.size W1 (w2.alloc (.cells #[.int .i64 7856, .int .i64 17088, .int .i64 16224, .int .i64 35664, .int .i64 29792, .int .i64 49856] 3))) := ⟨E2.out.alloc E2.out.size _⟩
  clear hb hz hr2
  go_wp2_with (first
    | (refine wpList_load_want rfl 23 _ rfl w1.heap.size rfl 23 L _ (K0.out _ E3.out) Try.underlying23 rfl HLz.out ?_))
  obtain ⟨V, hV⟩ : ∃ y, w2.alloc (.cells #[.int .i64 7856, .int .i64 17088, .int .i64 16224, .int .i64 35664, .int .i64 29792, .int .i64 49856] 3) = y := ⟨_, rfl⟩
  obtain ⟨rv, -, -⟩ := one hV
  have HV := Away.mk hV
  rw [hV] at E3 ⊢
  refine (HRt.out _).mono ?_
  rintro e w4 ⟨rfl, hb⟩
  have cw : w4.cell? ⟨w2.heap.size, 0, none⟩ = some (.int .i64 7856) := cell_at ((hb.block _ (lt_of_row rv)).trans rv) rfl
  have E4 : Away (Below W1.heap.size W1 w4) := ⟨E3.out.trans (hb.mono E3.out.size)⟩
  clear hb hV rv c1 c2 c3 c4 c5
  go_wp2_with fail
  refine (HAw.out _).mono ?_
  rintro e w5 ⟨rfl, hb⟩
  have E5 : Away (Below W1.heap.size W1 w5) := ⟨E4.out.trans (hb.mono E4.out.size)⟩
  clear hb cw
  go_wp2_with fail
  go_ret
  exact ⟨rfl, B1.out.trans (E5.out.mono B1.out.size)⟩
set_option maxRecDepth 100000 in
set_option maxHeartbeats 4000000 in
theorem kind_8 (x : Int) (w : World) (hk : (IntKind.u64.wrap x).tmod 14 = 7) : Calls Try.prog 6 #[.int .i64 x] w fun e w' => e = .returned (.bool true) ∧ Below w.heap.size w w' := by
  obtain ⟨hz, hsize⟩ := zero_of_info infoF
  obtain ⟨Z, HZ⟩ := ex_eq (fo 0 0 0 0 0 0)
  rw [HZ.out] at hz
  have ok1 : okF 1 16 66 22 6 33 := by decide
  obtain ⟨L, HL⟩ := ex_eq (fo 1 16 66 22 6 33)
  have HLz : Away ((Try.prog.info? 23).map (·.size) = some L.size) := ⟨by rw [← HL.out]; exact hsize⟩
  have HLs : Away (Z.size = L.size) := ⟨by rw [← HL.out, ← HZ.out]; rfl⟩
  have HLo : Away (L.all (·.oneCell') = true) := ⟨by rw [← HL.out]; exact fo_one ..⟩
  have HSet := Away.mk (fun w1 => adu.set_8 w1)
  have HLen : Away (∀ w1 : World, Calls Try.prog 8 #[.agg (fo 1 16 66 22 6 33)] w1 fun e w' => e = .returned (.tuple #[.int .i64 32, .int .i64 3, .int .i64 34]) ∧ Below w1.heap.size w1 w') := ⟨fun w1 => adl.lengths_ok 1 16 66 22 6 33 w1 ok1⟩
  have HRt : Away (∀ w1 : World, Calls Try.prog 12 #[.agg (fo 1 16 66 22 6 33)] w1 fun e w' => e = .returned (.bool true) ∧ Below w1.heap.size w1 w') := ⟨fun w1 => by
    have h9 := adr.right_any 1 16 66 22 6 33 w1
    rw [decide_eq_true ok1] at h9
    exact h9⟩
  have HAw := Away.mk (fun w1 => awake_any w1)
  rw [HL.out] at HSet HLen HRt
  clear hsize HZ ok1
  go_enter Try.func6, Try.ntmps6
  go_wp2_with fail
  refine (HSet.out _).mono ?_
  rintro e w1 ⟨rfl, hb1⟩
  obtain ⟨W1, hW1⟩ : ∃ x, w1.alloc (.cells L 23) = x := ⟨_, rfl⟩
  obtain ⟨r1, hs1, b1⟩ := one hW1
  have HW1 := Away.mk hW1
  have B1 : Away (Below w.heap.size w W1) := ⟨hb1.trans (b1.mono hb1.size)⟩
  have K0 : Away (∀ w' : World, Below W1.heap.size W1 w' → w'.heap[w1.heap.size]? = some (.cells L 23 (0, 0))) := ⟨fun w' hb => (hb.block _ (lt_of_row r1)).trans r1⟩
  have E1 : Away (Below W1.heap.size W1 W1) := ⟨Below.refl _ _⟩
  clear hb1 hW1 r1 hs1 b1 hk
  go_wp2_with (first
    | (refine wpList_store_new rfl 23 _ _ rfl _ rfl rfl HLz.out HLs.out HLo.out rfl ?_)
    | (rw [HW1.out])
    | (refine wpList_load_row rfl 23 _ rfl w1.heap.size rfl 23 L (0, 0) _ (K0.out _ E1.out) Try.underlying23 rfl HLz.out ?_))
  refine (HLen.out _).mono ?_
  rintro e w2 ⟨rfl, hb⟩
  have E2 : Away (Below W1.heap.size W1 w2) := ⟨E1.out.trans (hb.mono E1.out.size)⟩
  have hr2 := K0.out _ E2.out
  rw [← HL.out] at hr2
  have c1 : w2.cell? ⟨w1.heap.size, 1, none⟩ = some (.int .i64 16) := cell_at hr2 rfl
  have c2 : w2.cell? ⟨w1.heap.size, 2, none⟩ = some (.int .i64 66) := cell_at hr2 rfl
  have c3 : w2.cell? ⟨w1.heap.size, 3, none⟩ = some (.int .i64 22) := cell_at hr2 rfl
  have c4 : w2.cell? ⟨w1.heap.size, 4, none⟩ = some (.int .i64 6) := cell_at hr2 rfl
  have c5 : w2.cell? ⟨w1.heap.size, 5, none⟩ = some (.int .i64 33) := cell_at hr2 rfl
  have E3 : Away (Below W1.heap.size W1 (w2.alloc (.cells #[.int .i64 7856, .int .i64 17088, .int .i64 16224, .int .i64 35664, .int .i64 29792, .int .i64 49856] 3))) := ⟨E2.out.alloc E2.out.size _⟩
  clear hb hz hr2
  go_wp2_with (first
    | (refine wpList_load_want rfl 23 _ rfl w1.heap.size rfl 23 L _ (K0.out _ E3.out) Try.underlying23 rfl HLz.out ?_))
  obtain ⟨V, hV⟩ : ∃ y, w2.alloc (.cells #[.int .i64 7856, .int .i64 17088, .int .i64 16224, .int .i64 35664, .int .i64 29792, .int .i64 49856] 3) = y := ⟨_, rfl⟩
  obtain ⟨rv, -, -⟩ := one hV
  have HV := Away.mk hV
  rw [hV] at E3 ⊢
  refine (HRt.out _).mono ?_
  rintro e w4 ⟨rfl, hb⟩
  have cw : w4.cell? ⟨w2.heap.size, 1, none⟩ = some (.int .i64 17088) := cell_at ((hb.block _ (lt_of_row rv)).trans rv) rfl
  have E4 : Away (Below W1.heap.size W1 w4) := ⟨E3.out.trans (hb.mono E3.out.size)⟩
  clear hb hV rv c1 c2 c3 c4 c5
  go_wp2_with fail
  refine (HAw.out _).mono ?_
  rintro e w5 ⟨rfl, hb⟩
  have E5 : Away (Below W1.heap.size W1 w5) := ⟨E4.out.trans (hb.mono E4.out.size)⟩
  clear hb cw
  go_wp2_with fail
  go_ret
  exact ⟨rfl, B1.out.trans (E5.out.mono B1.out.size)⟩
set_option maxRecDepth 100000 in
set_option maxHeartbeats 4000000 in
theorem kind_9 (x : Int) (w : World) (hk : (IntKind.u64.wrap x).tmod 14 = 8) : Calls Try.prog 6 #[.int .i64 x] w fun e w' => e = .returned (.bool true) ∧ Below w.heap.size w w' := by
  obtain ⟨hz, hsize⟩ := zero_of_info infoF
  obtain ⟨Z, HZ⟩ := ex_eq (fo 0 0 0 0 0 0)
  rw [HZ.out] at hz
  have ok1 : okF 1 24 63 7 14 17 := by decide
  obtain ⟨L, HL⟩ := ex_eq (fo 1 24 63 7 14 17)
  have HLz : Away ((Try.prog.info? 23).map (·.size) = some L.size) := ⟨by rw [← HL.out]; exact hsize⟩
  have HLs : Away (Z.size = L.size) := ⟨by rw [← HL.out, ← HZ.out]; rfl⟩
  have HLo : Away (L.all (·.oneCell') = true) := ⟨by rw [← HL.out]; exact fo_one ..⟩
  have HSet := Away.mk (fun w1 => adu.set_9 w1)
  have HLen : Away (∀ w1 : World, Calls Try.prog 8 #[.agg (fo 1 24 63 7 14 17)] w1 fun e w' => e = .returned (.tuple #[.int .i64 48, .int .i64 3, .int .i64 39]) ∧ Below w1.heap.size w1 w') := ⟨fun w1 => adl.lengths_ok 1 24 63 7 14 17 w1 ok1⟩
  have HRt : Away (∀ w1 : World, Calls Try.prog 12 #[.agg (fo 1 24 63 7 14 17)] w1 fun e w' => e = .returned (.bool true) ∧ Below w1.heap.size w1 w') := ⟨fun w1 => by
    have h9 := adr.right_any 1 24 63 7 14 17 w1
    rw [decide_eq_true ok1] at h9
    exact h9⟩
  have HAw := Away.mk (fun w1 => awake_any w1)
  rw [HL.out] at HSet HLen HRt
  clear hsize HZ ok1
  go_enter Try.func6, Try.ntmps6
  go_wp2_with fail
  refine (HSet.out _).mono ?_
  rintro e w1 ⟨rfl, hb1⟩
  obtain ⟨W1, hW1⟩ : ∃ x, w1.alloc (.cells L 23) = x := ⟨_, rfl⟩
  obtain ⟨r1, hs1, b1⟩ := one hW1
  have HW1 := Away.mk hW1
  have B1 : Away (Below w.heap.size w W1) := ⟨hb1.trans (b1.mono hb1.size)⟩
  have K0 : Away (∀ w' : World, Below W1.heap.size W1 w' → w'.heap[w1.heap.size]? = some (.cells L 23 (0, 0))) := ⟨fun w' hb => (hb.block _ (lt_of_row r1)).trans r1⟩
  have E1 : Away (Below W1.heap.size W1 W1) := ⟨Below.refl _ _⟩
  clear hb1 hW1 r1 hs1 b1 hk
  go_wp2_with (first
    | (refine wpList_store_new rfl 23 _ _ rfl _ rfl rfl HLz.out HLs.out HLo.out rfl ?_)
    | (rw [HW1.out])
    | (refine wpList_load_row rfl 23 _ rfl w1.heap.size rfl 23 L (0, 0) _ (K0.out _ E1.out) Try.underlying23 rfl HLz.out ?_))
  refine (HLen.out _).mono ?_
  rintro e w2 ⟨rfl, hb⟩
  have E2 : Away (Below W1.heap.size W1 w2) := ⟨E1.out.trans (hb.mono E1.out.size)⟩
  have hr2 := K0.out _ E2.out
  rw [← HL.out] at hr2
  have c1 : w2.cell? ⟨w1.heap.size, 1, none⟩ = some (.int .i64 24) := cell_at hr2 rfl
  have c2 : w2.cell? ⟨w1.heap.size, 2, none⟩ = some (.int .i64 63) := cell_at hr2 rfl
  have c3 : w2.cell? ⟨w1.heap.size, 3, none⟩ = some (.int .i64 7) := cell_at hr2 rfl
  have c4 : w2.cell? ⟨w1.heap.size, 4, none⟩ = some (.int .i64 14) := cell_at hr2 rfl
  have c5 : w2.cell? ⟨w1.heap.size, 5, none⟩ = some (.int .i64 17) := cell_at hr2 rfl
  have E3 : Away (Below W1.heap.size W1 (w2.alloc (.cells #[.int .i64 7856, .int .i64 17088, .int .i64 16224, .int .i64 35664, .int .i64 29792, .int .i64 49856] 3))) := ⟨E2.out.alloc E2.out.size _⟩
  clear hb hz hr2
  go_wp2_with (first
    | (refine wpList_load_want rfl 23 _ rfl w1.heap.size rfl 23 L _ (K0.out _ E3.out) Try.underlying23 rfl HLz.out ?_))
  obtain ⟨V, hV⟩ : ∃ y, w2.alloc (.cells #[.int .i64 7856, .int .i64 17088, .int .i64 16224, .int .i64 35664, .int .i64 29792, .int .i64 49856] 3) = y := ⟨_, rfl⟩
  obtain ⟨rv, -, -⟩ := one hV
  have HV := Away.mk hV
  rw [hV] at E3 ⊢
  refine (HRt.out _).mono ?_
  rintro e w4 ⟨rfl, hb⟩
  have cw : w4.cell? ⟨w2.heap.size, 2, none⟩ = some (.int .i64 16224) := cell_at ((hb.block _ (lt_of_row rv)).trans rv) rfl
  have E4 : Away (Below W1.heap.size W1 w4) := ⟨E3.out.trans (hb.mono E3.out.size)⟩
  clear hb hV rv c1 c2 c3 c4 c5
  go_wp2_with fail
  refine (HAw.out _).mono ?_
  rintro e w5 ⟨rfl, hb⟩
  have E5 : Away (Below W1.heap.size W1 w5) := ⟨E4.out.trans (hb.mono E4.out.size)⟩
  clear hb cw
  go_wp2_with fail
  go_ret
  exact ⟨rfl, B1.out.trans (E5.out.mono B1.out.size)⟩
set_option maxRecDepth 100000 in
set_option maxHeartbeats 4000000 in
theorem kind_10 (x : Int) (w : World) (hk : (IntKind.u64.wrap x).tmod 14 = 9) : Calls Try.prog 6 #[.int .i64 x] w fun e w' => e = .returned (.bool true) ∧ Below w.heap.size w w' := by
  obtain ⟨hz, hsize⟩ := zero_of_info infoF
  obtain ⟨Z, HZ⟩ := ex_eq (fo 0 0 0 0 0 0)
  rw [HZ.out] at hz
  have ok1 : okF 1 24 66 22 8 33 := by decide
  obtain ⟨L, HL⟩ := ex_eq (fo 1 24 66 22 8 33)
  have HLz : Away ((Try.prog.info? 23).map (·.size) = some L.size) := ⟨by rw [← HL.out]; exact hsize⟩
  have HLs : Away (Z.size = L.size) := ⟨by rw [← HL.out, ← HZ.out]; rfl⟩
  have HLo : Away (L.all (·.oneCell') = true) := ⟨by rw [← HL.out]; exact fo_one ..⟩
  have HSet := Away.mk (fun w1 => adu.set_10 w1)
  have HLen : Away (∀ w1 : World, Calls Try.prog 8 #[.agg (fo 1 24 66 22 8 33)] w1 fun e w' => e = .returned (.tuple #[.int .i64 48, .int .i64 3, .int .i64 42]) ∧ Below w1.heap.size w1 w') := ⟨fun w1 => adl.lengths_ok 1 24 66 22 8 33 w1 ok1⟩
  have HRt : Away (∀ w1 : World, Calls Try.prog 12 #[.agg (fo 1 24 66 22 8 33)] w1 fun e w' => e = .returned (.bool true) ∧ Below w1.heap.size w1 w') := ⟨fun w1 => by
    have h9 := adr.right_any 1 24 66 22 8 33 w1
    rw [decide_eq_true ok1] at h9
    exact h9⟩
  have HAw := Away.mk (fun w1 => awake_any w1)
  rw [HL.out] at HSet HLen HRt
  clear hsize HZ ok1
  go_enter Try.func6, Try.ntmps6
  go_wp2_with fail
  refine (HSet.out _).mono ?_
  rintro e w1 ⟨rfl, hb1⟩
  obtain ⟨W1, hW1⟩ : ∃ x, w1.alloc (.cells L 23) = x := ⟨_, rfl⟩
  obtain ⟨r1, hs1, b1⟩ := one hW1
  have HW1 := Away.mk hW1
  have B1 : Away (Below w.heap.size w W1) := ⟨hb1.trans (b1.mono hb1.size)⟩
  have K0 : Away (∀ w' : World, Below W1.heap.size W1 w' → w'.heap[w1.heap.size]? = some (.cells L 23 (0, 0))) := ⟨fun w' hb => (hb.block _ (lt_of_row r1)).trans r1⟩
  have E1 : Away (Below W1.heap.size W1 W1) := ⟨Below.refl _ _⟩
  clear hb1 hW1 r1 hs1 b1 hk
  go_wp2_with (first
    | (refine wpList_store_new rfl 23 _ _ rfl _ rfl rfl HLz.out HLs.out HLo.out rfl ?_)
    | (rw [HW1.out])
    | (refine wpList_load_row rfl 23 _ rfl w1.heap.size rfl 23 L (0, 0) _ (K0.out _ E1.out) Try.underlying23 rfl HLz.out ?_))
  refine (HLen.out _).mono ?_
  rintro e w2 ⟨rfl, hb⟩
  have E2 : Away (Below W1.heap.size W1 w2) := ⟨E1.out.trans (hb.mono E1.out.size)⟩
  have hr2 := K0.out _ E2.out
  rw [← HL.out] at hr2
  have c1 : w2.cell? ⟨w1.heap.size, 1, none⟩ = some (.int .i64 24) := cell_at hr2 rfl
  have c2 : w2.cell? ⟨w1.heap.size, 2, none⟩ = some (.int .i64 66) := cell_at hr2 rfl
  have c3 : w2.cell? ⟨w1.heap.size, 3, none⟩ = some (.int .i64 22) := cell_at hr2 rfl
  have c4 : w2.cell? ⟨w1.heap.size, 4, none⟩ = some (.int .i64 8) := cell_at hr2 rfl
  have c5 : w2.cell? ⟨w1.heap.size, 5, none⟩ = some (.int .i64 33) := cell_at hr2 rfl
  have E3 : Away (Below W1.heap.size W1 (w2.alloc (.cells #[.int .i64 7856, .int .i64 17088, .int .i64 16224, .int .i64 35664, .int .i64 29792, .int .i64 49856] 3))) := ⟨E2.out.alloc E2.out.size _⟩
  clear hb hz hr2
  go_wp2_with (first
    | (refine wpList_load_want rfl 23 _ rfl w1.heap.size rfl 23 L _ (K0.out _ E3.out) Try.underlying23 rfl HLz.out ?_))
  obtain ⟨V, hV⟩ : ∃ y, w2.alloc (.cells #[.int .i64 7856, .int .i64 17088, .int .i64 16224, .int .i64 35664, .int .i64 29792, .int .i64 49856] 3) = y := ⟨_, rfl⟩
  obtain ⟨rv, -, -⟩ := one hV
  have HV := Away.mk hV
  rw [hV] at E3 ⊢
  refine (HRt.out _).mono ?_
  rintro e w4 ⟨rfl, hb⟩
  have cw : w4.cell? ⟨w2.heap.size, 3, none⟩ = some (.int .i64 35664) := cell_at ((hb.block _ (lt_of_row rv)).trans rv) rfl
  have E4 : Away (Below W1.heap.size W1 w4) := ⟨E3.out.trans (hb.mono E3.out.size)⟩
  clear hb hV rv c1 c2 c3 c4 c5
  go_wp2_with fail
  refine (HAw.out _).mono ?_
  rintro e w5 ⟨rfl, hb⟩
  have E5 : Away (Below W1.heap.size W1 w5) := ⟨E4.out.trans (hb.mono E4.out.size)⟩
  clear hb cw
  go_wp2_with fail
  go_ret
  exact ⟨rfl, B1.out.trans (E5.out.mono B1.out.size)⟩
set_option maxRecDepth 100000 in
set_option maxHeartbeats 4000000 in
theorem kind_11 (x : Int) (w : World) (hk : (IntKind.u64.wrap x).tmod 14 = 10) : Calls Try.prog 6 #[.int .i64 x] w fun e w' => e = .returned (.bool true) ∧ Below w.heap.size w w' := by
  obtain ⟨hz, hsize⟩ := zero_of_info infoF
  obtain ⟨Z, HZ⟩ := ex_eq (fo 0 0 0 0 0 0)
  rw [HZ.out] at hz
  have ok1 : okF 1 32 64 8 14 22 := by decide
  obtain ⟨L, HL⟩ := ex_eq (fo 1 32 64 8 14 22)
  have HLz : Away ((Try.prog.info? 23).map (·.size) = some L.size) := ⟨by rw [← HL.out]; exact hsize⟩
  have HLs : Away (Z.size = L.size) := ⟨by rw [← HL.out, ← HZ.out]; rfl⟩
  have HLo : Away (L.all (·.oneCell') = true) := ⟨by rw [← HL.out]; exact fo_one ..⟩
  have HSet := Away.mk (fun w1 => adu.set_11 w1)
  have HLen : Away (∀ w1 : World, Calls Try.prog 8 #[.agg (fo 1 32 64 8 14 22)] w1 fun e w' => e = .returned (.tuple #[.int .i64 64, .int .i64 3, .int .i64 47]) ∧ Below w1.heap.size w1 w') := ⟨fun w1 => adl.lengths_ok 1 32 64 8 14 22 w1 ok1⟩
  have HRt : Away (∀ w1 : World, Calls Try.prog 12 #[.agg (fo 1 32 64 8 14 22)] w1 fun e w' => e = .returned (.bool true) ∧ Below w1.heap.size w1 w') := ⟨fun w1 => by
    have h9 := adr.right_any 1 32 64 8 14 22 w1
    rw [decide_eq_true ok1] at h9
    exact h9⟩
  have HAw := Away.mk (fun w1 => awake_any w1)
  rw [HL.out] at HSet HLen HRt
  clear hsize HZ ok1
  go_enter Try.func6, Try.ntmps6
  go_wp2_with fail
  refine (HSet.out _).mono ?_
  rintro e w1 ⟨rfl, hb1⟩
  obtain ⟨W1, hW1⟩ : ∃ x, w1.alloc (.cells L 23) = x := ⟨_, rfl⟩
  obtain ⟨r1, hs1, b1⟩ := one hW1
  have HW1 := Away.mk hW1
  have B1 : Away (Below w.heap.size w W1) := ⟨hb1.trans (b1.mono hb1.size)⟩
  have K0 : Away (∀ w' : World, Below W1.heap.size W1 w' → w'.heap[w1.heap.size]? = some (.cells L 23 (0, 0))) := ⟨fun w' hb => (hb.block _ (lt_of_row r1)).trans r1⟩
  have E1 : Away (Below W1.heap.size W1 W1) := ⟨Below.refl _ _⟩
  clear hb1 hW1 r1 hs1 b1 hk
  go_wp2_with (first
    | (refine wpList_store_new rfl 23 _ _ rfl _ rfl rfl HLz.out HLs.out HLo.out rfl ?_)
    | (rw [HW1.out])
    | (refine wpList_load_row rfl 23 _ rfl w1.heap.size rfl 23 L (0, 0) _ (K0.out _ E1.out) Try.underlying23 rfl HLz.out ?_))
  refine (HLen.out _).mono ?_
  rintro e w2 ⟨rfl, hb⟩
  have E2 : Away (Below W1.heap.size W1 w2) := ⟨E1.out.trans (hb.mono E1.out.size)⟩
  have hr2 := K0.out _ E2.out
  rw [← HL.out] at hr2
  have c1 : w2.cell? ⟨w1.heap.size, 1, none⟩ = some (.int .i64 32) := cell_at hr2 rfl
  have c2 : w2.cell? ⟨w1.heap.size, 2, none⟩ = some (.int .i64 64) := cell_at hr2 rfl
  have c3 : w2.cell? ⟨w1.heap.size, 3, none⟩ = some (.int .i64 8) := cell_at hr2 rfl
  have c4 : w2.cell? ⟨w1.heap.size, 4, none⟩ = some (.int .i64 14) := cell_at hr2 rfl
  have c5 : w2.cell? ⟨w1.heap.size, 5, none⟩ = some (.int .i64 22) := cell_at hr2 rfl
  have E3 : Away (Below W1.heap.size W1 (w2.alloc (.cells #[.int .i64 7856, .int .i64 17088, .int .i64 16224, .int .i64 35664, .int .i64 29792, .int .i64 49856] 3))) := ⟨E2.out.alloc E2.out.size _⟩
  clear hb hz hr2
  go_wp2_with (first
    | (refine wpList_load_want rfl 23 _ rfl w1.heap.size rfl 23 L _ (K0.out _ E3.out) Try.underlying23 rfl HLz.out ?_))
  obtain ⟨V, hV⟩ : ∃ y, w2.alloc (.cells #[.int .i64 7856, .int .i64 17088, .int .i64 16224, .int .i64 35664, .int .i64 29792, .int .i64 49856] 3) = y := ⟨_, rfl⟩
  obtain ⟨rv, -, -⟩ := one hV
  have HV := Away.mk hV
  rw [hV] at E3 ⊢
  refine (HRt.out _).mono ?_
  rintro e w4 ⟨rfl, hb⟩
  have cw : w4.cell? ⟨w2.heap.size, 4, none⟩ = some (.int .i64 29792) := cell_at ((hb.block _ (lt_of_row rv)).trans rv) rfl
  have E4 : Away (Below W1.heap.size W1 w4) := ⟨E3.out.trans (hb.mono E3.out.size)⟩
  clear hb hV rv c1 c2 c3 c4 c5
  go_wp2_with fail
  refine (HAw.out _).mono ?_
  rintro e w5 ⟨rfl, hb⟩
  have E5 : Away (Below W1.heap.size W1 w5) := ⟨E4.out.trans (hb.mono E4.out.size)⟩
  clear hb cw
  go_wp2_with fail
  go_ret
  exact ⟨rfl, B1.out.trans (E5.out.mono B1.out.size)⟩
set_option maxRecDepth 100000 in
set_option maxHeartbeats 4000000 in
theorem kind_12 (x : Int) (w : World) (hk : (IntKind.u64.wrap x).tmod 14 = 11) : Calls Try.prog 6 #[.int .i64 x] w fun e w' => e = .returned (.bool true) ∧ Below w.heap.size w w' := by
  obtain ⟨hz, hsize⟩ := zero_of_info infoF
  obtain ⟨Z, HZ⟩ := ex_eq (fo 0 0 0 0 0 0)
  rw [HZ.out] at hz
  have ok1 : okF 1 32 68 17 9 35 := by decide
  obtain ⟨L, HL⟩ := ex_eq (fo 1 32 68 17 9 35)
  have HLz : Away ((Try.prog.info? 23).map (·.size) = some L.size) := ⟨by rw [← HL.out]; exact hsize⟩
  have HLs : Away (Z.size = L.size) := ⟨by rw [← HL.out, ← HZ.out]; rfl⟩
  have HLo : Away (L.all (·.oneCell') = true) := ⟨by rw [← HL.out]; exact fo_one ..⟩
  have HSet := Away.mk (fun w1 => adu.set_12 w1)
  have HLen : Away (∀ w1 : World, Calls Try.prog 8 #[.agg (fo 1 32 68 17 9 35)] w1 fun e w' => e = .returned (.tuple #[.int .i64 64, .int .i64 3, .int .i64 49]) ∧ Below w1.heap.size w1 w') := ⟨fun w1 => adl.lengths_ok 1 32 68 17 9 35 w1 ok1⟩
  have HRt : Away (∀ w1 : World, Calls Try.prog 12 #[.agg (fo 1 32 68 17 9 35)] w1 fun e w' => e = .returned (.bool true) ∧ Below w1.heap.size w1 w') := ⟨fun w1 => by
    have h9 := adr.right_any 1 32 68 17 9 35 w1
    rw [decide_eq_true ok1] at h9
    exact h9⟩
  have HAw := Away.mk (fun w1 => awake_any w1)
  rw [HL.out] at HSet HLen HRt
  clear hsize HZ ok1
  go_enter Try.func6, Try.ntmps6
  go_wp2_with fail
  refine (HSet.out _).mono ?_
  rintro e w1 ⟨rfl, hb1⟩
  obtain ⟨W1, hW1⟩ : ∃ x, w1.alloc (.cells L 23) = x := ⟨_, rfl⟩
  obtain ⟨r1, hs1, b1⟩ := one hW1
  have HW1 := Away.mk hW1
  have B1 : Away (Below w.heap.size w W1) := ⟨hb1.trans (b1.mono hb1.size)⟩
  have K0 : Away (∀ w' : World, Below W1.heap.size W1 w' → w'.heap[w1.heap.size]? = some (.cells L 23 (0, 0))) := ⟨fun w' hb => (hb.block _ (lt_of_row r1)).trans r1⟩
  have E1 : Away (Below W1.heap.size W1 W1) := ⟨Below.refl _ _⟩
  clear hb1 hW1 r1 hs1 b1 hk
  go_wp2_with (first
    | (refine wpList_store_new rfl 23 _ _ rfl _ rfl rfl HLz.out HLs.out HLo.out rfl ?_)
    | (rw [HW1.out])
    | (refine wpList_load_row rfl 23 _ rfl w1.heap.size rfl 23 L (0, 0) _ (K0.out _ E1.out) Try.underlying23 rfl HLz.out ?_))
  refine (HLen.out _).mono ?_
  rintro e w2 ⟨rfl, hb⟩
  have E2 : Away (Below W1.heap.size W1 w2) := ⟨E1.out.trans (hb.mono E1.out.size)⟩
  have hr2 := K0.out _ E2.out
  rw [← HL.out] at hr2
  have c1 : w2.cell? ⟨w1.heap.size, 1, none⟩ = some (.int .i64 32) := cell_at hr2 rfl
  have c2 : w2.cell? ⟨w1.heap.size, 2, none⟩ = some (.int .i64 68) := cell_at hr2 rfl
  have c3 : w2.cell? ⟨w1.heap.size, 3, none⟩ = some (.int .i64 17) := cell_at hr2 rfl
  have c4 : w2.cell? ⟨w1.heap.size, 4, none⟩ = some (.int .i64 9) := cell_at hr2 rfl
  have c5 : w2.cell? ⟨w1.heap.size, 5, none⟩ = some (.int .i64 35) := cell_at hr2 rfl
  have E3 : Away (Below W1.heap.size W1 (w2.alloc (.cells #[.int .i64 7856, .int .i64 17088, .int .i64 16224, .int .i64 35664, .int .i64 29792, .int .i64 49856] 3))) := ⟨E2.out.alloc E2.out.size _⟩
  clear hb hz hr2
  go_wp2_with (first
    | (refine wpList_load_want rfl 23 _ rfl w1.heap.size rfl 23 L _ (K0.out _ E3.out) Try.underlying23 rfl HLz.out ?_))
  obtain ⟨V, hV⟩ : ∃ y, w2.alloc (.cells #[.int .i64 7856, .int .i64 17088, .int .i64 16224, .int .i64 35664, .int .i64 29792, .int .i64 49856] 3) = y := ⟨_, rfl⟩
  obtain ⟨rv, -, -⟩ := one hV
  have HV := Away.mk hV
  rw [hV] at E3 ⊢
  refine (HRt.out _).mono ?_
  rintro e w4 ⟨rfl, hb⟩
  have cw : w4.cell? ⟨w2.heap.size, 5, none⟩ = some (.int .i64 49856) := cell_at ((hb.block _ (lt_of_row rv)).trans rv) rfl
  have E4 : Away (Below W1.heap.size W1 w4) := ⟨E3.out.trans (hb.mono E3.out.size)⟩
  clear hb hV rv c1 c2 c3 c4 c5
  go_wp2_with fail
  refine (HAw.out _).mono ?_
  rintro e w5 ⟨rfl, hb⟩
  have E5 : Away (Below W1.heap.size W1 w5) := ⟨E4.out.trans (hb.mono E4.out.size)⟩
  clear hb cw
  go_wp2_with fail
  go_ret
  exact ⟨rfl, B1.out.trans (E5.out.mono B1.out.size)⟩
set_option maxRecDepth 100000 in
set_option maxHeartbeats 4000000 in
theorem kind_13 (x : Int) (w : World) (hk : (IntKind.u64.wrap x).tmod 14 = 12) : Calls Try.prog 6 #[.int .i64 x] w fun e w' => e = .returned (.bool true) ∧ Below w.heap.size w w' := by
  obtain ⟨hz, hsize⟩ := zero_of_info infoF
  obtain ⟨Z, HZ⟩ := ex_eq (fo 0 0 0 0 0 0)
  rw [HZ.out] at hz
  have ok1 : okF 1 4 1 1 2 2 := by decide
  obtain ⟨L, HL⟩ := ex_eq (fo 1 4 1 1 2 2)
  have HLz : Away ((Try.prog.info? 23).map (·.size) = some L.size) := ⟨by rw [← HL.out]; exact hsize⟩
  have HLs : Away (Z.size = L.size) := ⟨by rw [← HL.out, ← HZ.out]; rfl⟩
  have HLo : Away (L.all (·.oneCell') = true) := ⟨by rw [← HL.out]; exact fo_one ..⟩
  have HSet := Away.mk (fun w1 => adu.set_13 w1)
  have HLen : Away (∀ w1 : World, Calls Try.prog 8 #[.agg (fo 1 4 1 1 2 2)] w1 fun e w' => e = .returned (.tuple #[.int .i64 8, .int .i64 2, .int .i64 2]) ∧ Below w1.heap.size w1 w') := ⟨fun w1 => adl.lengths_ok 1 4 1 1 2 2 w1 ok1⟩
  have HRt : Away (∀ w1 : World, Calls Try.prog 12 #[.agg (fo 1 4 1 1 2 2)] w1 fun e w' => e = .returned (.bool true) ∧ Below w1.heap.size w1 w') := ⟨fun w1 => by
    have h9 := adr.right_any 1 4 1 1 2 2 w1
    rw [decide_eq_true ok1] at h9
    exact h9⟩
  have HAw := Away.mk (fun w1 => awake_any w1)
  rw [HL.out] at HSet HLen HRt
  clear hsize HZ ok1
  go_enter Try.func6, Try.ntmps6
  go_wp2_with fail
  refine (HSet.out _).mono ?_
  rintro e w1 ⟨rfl, hb1⟩
  obtain ⟨W1, hW1⟩ : ∃ x, w1.alloc (.cells L 23) = x := ⟨_, rfl⟩
  obtain ⟨r1, hs1, b1⟩ := one hW1
  have HW1 := Away.mk hW1
  have B1 : Away (Below w.heap.size w W1) := ⟨hb1.trans (b1.mono hb1.size)⟩
  have K0 : Away (∀ w' : World, Below W1.heap.size W1 w' → w'.heap[w1.heap.size]? = some (.cells L 23 (0, 0))) := ⟨fun w' hb => (hb.block _ (lt_of_row r1)).trans r1⟩
  have E1 : Away (Below W1.heap.size W1 W1) := ⟨Below.refl _ _⟩
  clear hb1 hW1 r1 hs1 b1 hk
  go_wp2_with (first
    | (refine wpList_store_new rfl 23 _ _ rfl _ rfl rfl HLz.out HLs.out HLo.out rfl ?_)
    | (rw [HW1.out])
    | (refine wpList_load_row rfl 23 _ rfl w1.heap.size rfl 23 L (0, 0) _ (K0.out _ E1.out) Try.underlying23 rfl HLz.out ?_))
  refine (HLen.out _).mono ?_
  rintro e w2 ⟨rfl, hb⟩
  have E2 : Away (Below W1.heap.size W1 w2) := ⟨E1.out.trans (hb.mono E1.out.size)⟩
  have hr2 := K0.out _ E2.out
  rw [← HL.out] at hr2
  have c1 : w2.cell? ⟨w1.heap.size, 1, none⟩ = some (.int .i64 4) := cell_at hr2 rfl
  have c2 : w2.cell? ⟨w1.heap.size, 2, none⟩ = some (.int .i64 1) := cell_at hr2 rfl
  have c3 : w2.cell? ⟨w1.heap.size, 3, none⟩ = some (.int .i64 1) := cell_at hr2 rfl
  have c4 : w2.cell? ⟨w1.heap.size, 4, none⟩ = some (.int .i64 2) := cell_at hr2 rfl
  have c5 : w2.cell? ⟨w1.heap.size, 5, none⟩ = some (.int .i64 2) := cell_at hr2 rfl
  have E3 : Away (Below W1.heap.size W1 (w2.alloc (.cells #[.int .i64 7856, .int .i64 17088, .int .i64 16224, .int .i64 35664, .int .i64 29792, .int .i64 49856] 3))) := ⟨E2.out.alloc E2.out.size _⟩
  clear hb hz hr2
  go_wp2_with (first
    | (refine wpList_load_want rfl 23 _ rfl w1.heap.size rfl 23 L _ (K0.out _ E3.out) Try.underlying23 rfl HLz.out ?_))
  obtain ⟨V, hV⟩ : ∃ y, w2.alloc (.cells #[.int .i64 7856, .int .i64 17088, .int .i64 16224, .int .i64 35664, .int .i64 29792, .int .i64 49856] 3) = y := ⟨_, rfl⟩
  obtain ⟨rv, -, -⟩ := one hV
  have HV := Away.mk hV
  rw [hV] at E3 ⊢
  refine (HRt.out _).mono ?_
  rintro e w4 ⟨rfl, hb⟩
  have cw : w4.cell? ⟨w2.heap.size, 0, none⟩ = some (.int .i64 7856) := cell_at ((hb.block _ (lt_of_row rv)).trans rv) rfl
  have E4 : Away (Below W1.heap.size W1 w4) := ⟨E3.out.trans (hb.mono E3.out.size)⟩
  clear hb hV rv c1 c2 c3 c4 c5
  go_wp2_with fail
  refine (HAw.out _).mono ?_
  rintro e w5 ⟨rfl, hb⟩
  have E5 : Away (Below W1.heap.size W1 w5) := ⟨E4.out.trans (hb.mono E4.out.size)⟩
  clear hb cw
  go_wp2_with fail
  go_ret
  exact ⟨rfl, B1.out.trans (E5.out.mono B1.out.size)⟩
set_option maxRecDepth 100000 in
set_option maxHeartbeats 4000000 in
theorem kind_14 (x : Int) (w : World) (hk : (IntKind.u64.wrap x).tmod 14 = 13) : Calls Try.prog 6 #[.int .i64 x] w fun e w' => e = .returned (.bool true) ∧ Below w.heap.size w w' := by
  obtain ⟨hz, hsize⟩ := zero_of_info infoF
  obtain ⟨Z, HZ⟩ := ex_eq (fo 0 0 0 0 0 0)
  rw [HZ.out] at hz
  have ok1 : okF 2 4 1 1 2 2 := by decide
  obtain ⟨L, HL⟩ := ex_eq (fo 2 4 1 1 2 2)
  have HLz : Away ((Try.prog.info? 23).map (·.size) = some L.size) := ⟨by rw [← HL.out]; exact hsize⟩
  have HLs : Away (Z.size = L.size) := ⟨by rw [← HL.out, ← HZ.out]; rfl⟩
  have HLo : Away (L.all (·.oneCell') = true) := ⟨by rw [← HL.out]; exact fo_one ..⟩
  have HSet := Away.mk (fun w1 => adu.set_14 w1)
  have HLen : Away (∀ w1 : World, Calls Try.prog 8 #[.agg (fo 2 4 1 1 2 2)] w1 fun e w' => e = .returned (.tuple #[.int .i64 8, .int .i64 2, .int .i64 2]) ∧ Below w1.heap.size w1 w') := ⟨fun w1 => adl.lengths_ok 2 4 1 1 2 2 w1 ok1⟩
  have HRt : Away (∀ w1 : World, Calls Try.prog 12 #[.agg (fo 2 4 1 1 2 2)] w1 fun e w' => e = .returned (.bool true) ∧ Below w1.heap.size w1 w') := ⟨fun w1 => by
    have h9 := adr.right_any 2 4 1 1 2 2 w1
    rw [decide_eq_true ok1] at h9
    exact h9⟩
  have HAw := Away.mk (fun w1 => awake_any w1)
  rw [HL.out] at HSet HLen HRt
  clear hsize HZ ok1
  go_enter Try.func6, Try.ntmps6
  go_wp2_with fail
  refine (HSet.out _).mono ?_
  rintro e w1 ⟨rfl, hb1⟩
  obtain ⟨W1, hW1⟩ : ∃ x, w1.alloc (.cells L 23) = x := ⟨_, rfl⟩
  obtain ⟨r1, hs1, b1⟩ := one hW1
  have HW1 := Away.mk hW1
  have B1 : Away (Below w.heap.size w W1) := ⟨hb1.trans (b1.mono hb1.size)⟩
  have K0 : Away (∀ w' : World, Below W1.heap.size W1 w' → w'.heap[w1.heap.size]? = some (.cells L 23 (0, 0))) := ⟨fun w' hb => (hb.block _ (lt_of_row r1)).trans r1⟩
  have E1 : Away (Below W1.heap.size W1 W1) := ⟨Below.refl _ _⟩
  clear hb1 hW1 r1 hs1 b1 hk
  go_wp2_with (first
    | (refine wpList_store_new rfl 23 _ _ rfl _ rfl rfl HLz.out HLs.out HLo.out rfl ?_)
    | (rw [HW1.out])
    | (refine wpList_load_row rfl 23 _ rfl w1.heap.size rfl 23 L (0, 0) _ (K0.out _ E1.out) Try.underlying23 rfl HLz.out ?_))
  refine (HLen.out _).mono ?_
  rintro e w2 ⟨rfl, hb⟩
  have E2 : Away (Below W1.heap.size W1 w2) := ⟨E1.out.trans (hb.mono E1.out.size)⟩
  have hr2 := K0.out _ E2.out
  rw [← HL.out] at hr2
  have c1 : w2.cell? ⟨w1.heap.size, 1, none⟩ = some (.int .i64 4) := cell_at hr2 rfl
  have c2 : w2.cell? ⟨w1.heap.size, 2, none⟩ = some (.int .i64 1) := cell_at hr2 rfl
  have c3 : w2.cell? ⟨w1.heap.size, 3, none⟩ = some (.int .i64 1) := cell_at hr2 rfl
  have c4 : w2.cell? ⟨w1.heap.size, 4, none⟩ = some (.int .i64 2) := cell_at hr2 rfl
  have c5 : w2.cell? ⟨w1.heap.size, 5, none⟩ = some (.int .i64 2) := cell_at hr2 rfl
  have E3 : Away (Below W1.heap.size W1 (w2.alloc (.cells #[.int .i64 7856, .int .i64 17088, .int .i64 16224, .int .i64 35664, .int .i64 29792, .int .i64 49856] 3))) := ⟨E2.out.alloc E2.out.size _⟩
  clear hb hz hr2
  go_wp2_with (first
    | (refine wpList_load_want rfl 23 _ rfl w1.heap.size rfl 23 L _ (K0.out _ E3.out) Try.underlying23 rfl HLz.out ?_))
  obtain ⟨V, hV⟩ : ∃ y, w2.alloc (.cells #[.int .i64 7856, .int .i64 17088, .int .i64 16224, .int .i64 35664, .int .i64 29792, .int .i64 49856] 3) = y := ⟨_, rfl⟩
  obtain ⟨rv, -, -⟩ := one hV
  have HV := Away.mk hV
  rw [hV] at E3 ⊢
  refine (HRt.out _).mono ?_
  rintro e w4 ⟨rfl, hb⟩
  have cw : w4.cell? ⟨w2.heap.size, 1, none⟩ = some (.int .i64 17088) := cell_at ((hb.block _ (lt_of_row rv)).trans rv) rfl
  have E4 : Away (Below W1.heap.size W1 w4) := ⟨E3.out.trans (hb.mono E3.out.size)⟩
  clear hb hV rv c1 c2 c3 c4 c5
  go_wp2_with fail
  refine (HAw.out _).mono ?_
  rintro e w5 ⟨rfl, hb⟩
  have E5 : Away (Below W1.heap.size W1 w5) := ⟨E4.out.trans (hb.mono E4.out.size)⟩
  clear hb cw
  go_wp2_with fail
  go_ret
  exact ⟨rfl, B1.out.trans (E5.out.mono B1.out.size)⟩
theorem walk (x : Int) (w : World) : Calls Try.prog 6 #[.int .i64 x] w fun e w' => e = .returned (.bool true) ∧ Below w.heap.size w w' := by
  have h0 : 0 ≤ (IntKind.u64.wrap x).tmod 14 := Int.tmod_nonneg _ (by rw [IntKind.wrap_u64]; omega)
  have h1 : (IntKind.u64.wrap x).tmod 14 < 14 := Int.tmod_lt_of_pos _ (by decide)
  have h : (IntKind.u64.wrap x).tmod 14 = 0 ∨ (IntKind.u64.wrap x).tmod 14 = 1 ∨ (IntKind.u64.wrap x).tmod 14 = 2 ∨ (IntKind.u64.wrap x).tmod 14 = 3 ∨ (IntKind.u64.wrap x).tmod 14 = 4 ∨ (IntKind.u64.wrap x).tmod 14 = 5 ∨ (IntKind.u64.wrap x).tmod 14 = 6 ∨ (IntKind.u64.wrap x).tmod 14 = 7 ∨ (IntKind.u64.wrap x).tmod 14 = 8 ∨ (IntKind.u64.wrap x).tmod 14 = 9 ∨ (IntKind.u64.wrap x).tmod 14 = 10 ∨ (IntKind.u64.wrap x).tmod 14 = 11 ∨ (IntKind.u64.wrap x).tmod 14 = 12 ∨ (IntKind.u64.wrap x).tmod 14 = 13 := by omega
  rcases h with h | h | h | h | h | h | h | h | h | h | h | h | h | h
  · exact kind_1 x w h
  · exact kind_2 x w h
  · exact kind_3 x w h
  · exact kind_4 x w h
  · exact kind_5 x w h
  · exact kind_6 x w h
  · exact kind_7 x w h
  · exact kind_8 x w h
  · exact kind_9 x w h
  · exact kind_10 x w h
  · exact kind_11 x w h
  · exact kind_12 x w h
  · exact kind_13 x w h
  · exact kind_14 x w h
end Go.Proofs.Ythggakbomlgkhaa.l15z
