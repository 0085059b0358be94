/-
  The law package's own look at adrs ('awake') returns true. Conditions: none.
-/
import Derived.Test.YthggakbomlgkhaaAdL
import Derived.Test.YthggakbomlgkhaaAdU
import Derived.Test.YthggakbomlgkhaaAdT
import Derived.Test.YthggakbomlgkhaaAdD
namespace Go.Proofs.Ythggakbomlgkhaa.awake15
open Go Go.RowKit
open Go.Proofs.Ythggakbomlgkhaa.arr Go.Proofs.Ythggakbomlgkhaa.mem Go.Proofs.Ythggakbomlgkhaa.stil Go.Proofs.Ythggakbomlgkhaa.boxt Go.Proofs.Ythggakbomlgkhaa.polys Go.Proofs.Ythggakbomlgkhaa.adm Go.Proofs.Ythggakbomlgkhaa.adp Go.Proofs.Ythggakbomlgkhaa.adt Go.Proofs.Ythggakbomlgkhaa.addg

theorem wpList_load_want {P : Program} {ops : Array Oper} {w : World} {Q : Exit → Act → World → Prop} {rest : List Oper} {o : Oper} {a : Act} (hw : Region.wanted o (yielded ops a.tmps) = true) (ty : TypeId) (x : Operand) (ho : o.op = .load ty x)
    (g : Nat) (hx : a.eval x = .pointer (some ⟨g, 0, none⟩)) (t : TypeId) (cs : Array Value) (d : TypeDesc) (hg : w.heap[g]? = some (.cells cs t (0, 0)))
    (hu : P.underlying ty = some d) (hd : (match d with | .struct _ | .array _ _ => true | _ => false) = true) (hi : (P.info? ty).map (·.size) = some cs.size)
    (h : wpList P ops Q rest (a.put o.dst (.agg cs)) w) : wpList P ops Q (o :: rest) a w :=
  wpList_step fun K hK => by rw [if_pos hw]; exact wp_load_row ty x ho g hx t cs (0, 0) d hg hu hd hi (hK _ _ h)
theorem ok1 : okF 2 16 63 7 12 14 := by decide
theorem lens1 (w : World) : Calls Try.prog 8 #[.agg (fo 2 16 63 7 12 14)] w fun e w' => e = .returned (.tuple #[.int .i64 32, .int .i64 3, .int .i64 30]) ∧ Below w.heap.size w w' := adl.lengths_ok 2 16 63 7 12 14 w ok1
theorem short1 (w : World) : Calls Try.prog 16 #[.agg #[.int .u64 1, .int .u64 2, .int .i64 3, .int .u64 4, .int .u64 5, .int .u64 6]] w fun e w' => e = .returned (.string ⟨#[1, 0, 0, 0, 0, 0, 0, 0, 2, 3, 0, 0, 0, 4, 0, 0, 0, 5, 0, 0, 0, 6]⟩) ∧ Below w.heap.size w w' :=
  short_any 1 2 3 4 5 6 3 w (by decide) (by decide) (by decide) (by decide) (by decide) (by decide) (by decide)
theorem bytes0 (w : World) : Calls Try.prog 14 #[.agg #[.int .u64 0, .int .u64 0, .int .i64 0, .int .u64 0, .int .u64 0, .int .u64 0]] w fun e w' => e = .returned (.string ⟨#[0, 0, 0, 0, 0, 0, 0, 0, 0, 0, 0, 0, 0, 0, 0, 0, 0, 0, 0, 0, 0, 0, 0, 0, 0, 0, 0, 0, 0, 0, 0, 0]⟩) ∧ Below w.heap.size w w' :=
  bytes_any 0 0 0 0 0 0 0 w (by decide) (by decide) (by decide) (by decide) (by decide) (by decide) (by decide)
theorem digit3 : dg (sb ⟨#[18, 52]⟩) 4 2 = 3 := by decide +kernel
set_option maxRecDepth 100000 in
set_option maxHeartbeats 4000000 in
theorem awake_any (w : World) : Calls Try.prog 7 #[] w fun e w' => e = .returned (.bool true) ∧ Below w.heap.size w w' := by
  obtain ⟨hz, hsize⟩ := zero_of_info infoF
  obtain ⟨Z, HZ⟩ := ex_eq (fo 0 0 0 0 0 0)
  rw [HZ.out] at hz
  obtain ⟨L, HL⟩ := ex_eq (fo 2 16 63 7 12 14)
  have HLz : Away ((Try.prog.info? 23).map (·.size) = some L.size) := ⟨by rw [← HL.out]; exact hsize⟩
  have HLs : Away (Z.size = L.size) := ⟨by rw [← HL.out, ← HZ.out]; rfl⟩
  have HLo : Away (L.all (·.oneCell') = true) := ⟨by rw [← HL.out]; exact fo_one ..⟩
  have HSet := Away.mk (fun w1 => adu.set_1 w1)
  have HLen := Away.mk (fun w1 => lens1 w1)
  have HRt : Away (∀ w1 : World, Calls Try.prog 12 #[.agg (fo 2 16 63 7 12 14)] w1 fun e w' => e = .returned (.bool true) ∧ Below w1.heap.size w1 w') := ⟨fun w1 => by
    have h9 := adr.right_any 2 16 63 7 12 14 w1
    rw [decide_eq_true ok1] at h9
    exact h9⟩
  have HDg : Away (∀ w1 : World, Calls Try.prog 19 #[.string ⟨#[18, 52]⟩, .int .i64 4, .int .i64 3] w1 fun e w' => ∃ v, e = .returned v ∧ Ro w' w1.heap.size v 3 (fun j => (dg (sb ⟨#[18, 52]⟩) 4 j : Int)) ∧ Below w1.heap.size w1 w') := ⟨fun w1 => addg.digits_good ⟨#[18, 52]⟩ 4 3 w1 (by decide) (by decide) (by decide) (by decide)⟩
  rw [HL.out] at HSet HLen HRt
  clear hsize HL HZ
  go_enter Try.func7, Try.ntmps7
  go_wp2_with fail
  refine (HSet.out _).mono ?_
  rintro e w1 ⟨rfl, hb1⟩
  obtain ⟨W1, hW1⟩ : ∃ x, w1.alloc (.cells L 23) = x := ⟨_, rfl⟩
  obtain ⟨r1, hs1, b1⟩ := one hW1
  have HW1 := Away.mk hW1
  have B1 : Away (Below w.heap.size w W1) := ⟨hb1.trans (b1.mono hb1.size)⟩
  have K0 : Away (∀ w' : World, Below W1.heap.size W1 w' → w'.heap[w1.heap.size]? = some (.cells L 23 (0, 0))) := ⟨fun w' hb => (hb.block _ (lt_of_row r1)).trans r1⟩
  have E1 : Away (Below W1.heap.size W1 W1) := ⟨Below.refl _ _⟩
  clear hb1 hW1 r1 hs1 b1
  go_wp2_with (first
    | (refine wpList_store_new rfl 23 _ _ rfl _ rfl rfl HLz.out HLs.out HLo.out rfl ?_)
    | (rw [HW1.out])
    | (refine wpList_load_row rfl 23 _ rfl w1.heap.size rfl 23 L (0, 0) _ (K0.out _ E1.out) Try.underlying23 rfl HLz.out ?_))
  refine (HLen.out _).mono ?_
  rintro e w2 ⟨rfl, hb⟩
  have E2 : Away (Below W1.heap.size W1 w2) := ⟨E1.out.trans (hb.mono E1.out.size)⟩
  clear hb hz
  go_wp2_with fail
  refine (HDg.out _).mono ?_
  rintro e w3 ⟨v, rfl, hro, hb⟩
  have E3 : Away (Below W1.heap.size W1 w3) := ⟨E2.out.trans (hb.mono E2.out.size)⟩
  obtain ⟨-, h0⟩ | ⟨g, cap, C, rfl, hg1, hg2, hg3⟩ := hro
  · cases h0
  have hc2 : C[2]? = some (.int .i64 3) := by rw [hg3 2 (by decide)]; show some (Value.int .i64 ((dg (sb ⟨#[18, 52]⟩) 4 2 : Nat) : Int)) = _; rw [digit3]; rfl
  have Hg2 := Away.mk hg2
  have Hc2 := Away.mk hc2
  clear hb hg1 hg2 hg3 hc2
  go_wp2_with fail
  refine (short1 _).mono ?_
  rintro e w4 ⟨rfl, hb⟩
  have E4 : Away (Below W1.heap.size W1 w4) := ⟨E3.out.trans (hb.mono E3.out.size)⟩
  have c2 : w4.cell? ⟨g, 2, none⟩ = some (.int .i64 3) := cell_at ((hb.block _ (lt_of_row Hg2.out)).trans Hg2.out) Hc2.out
  clear hb
  go_wp2_with fail
  refine (bytes0 _).mono ?_
  rintro e w5 ⟨rfl, hb⟩
  have E5 : Away (Below W1.heap.size W1 w5) := ⟨E4.out.trans (hb.mono E4.out.size)⟩
  clear hb c2
  go_wp2_with (first
    | (refine wpList_load_want rfl 23 _ rfl w1.heap.size rfl 23 L _ (K0.out _ E5.out) Try.underlying23 rfl HLz.out ?_))
  refine (HRt.out _).mono ?_
  rintro e w6 ⟨rfl, hb⟩
  have E6 : Away (Below W1.heap.size W1 w6) := ⟨E5.out.trans (hb.mono E5.out.size)⟩
  clear hb
  go_wp2_with fail
  go_ret
  exact ⟨rfl, B1.out.trans (E6.out.mono B1.out.size)⟩
end Go.Proofs.Ythggakbomlgkhaa.awake15
