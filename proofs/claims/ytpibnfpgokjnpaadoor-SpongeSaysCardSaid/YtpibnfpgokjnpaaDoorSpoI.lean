/-
  What Right and New of the sponge return. Conditions: the sponge's state has 25 words.
-/
import Derived.Test.YtpibnfpgokjnpaaDoorSpoE
import Derived.Test.YtpibnfpgokjnpaaDoorRSpB
import Derived.Test.YtpibnfpgokjnpaaDoorRSpE
namespace Go.Proofs.YtpibnfpgokjnpaaDoor.spoi
open Go Go.RowKit
open Go.Proofs.YtpibnfpgokjnpaaDoor.arr Go.Proofs.YtpibnfpgokjnpaaDoor.mem Go.Proofs.YtpibnfpgokjnpaaDoor.kecm Go.Proofs.YtpibnfpgokjnpaaDoor.kecb Go.Proofs.YtpibnfpgokjnpaaDoor.kstep Go.Proofs.YtpibnfpgokjnpaaDoor.kfun Go.Proofs.YtpibnfpgokjnpaaDoor.spgm Go.Proofs.YtpibnfpgokjnpaaDoor.spmx Go.Proofs.YtpibnfpgokjnpaaDoor.rspa Go.Proofs.YtpibnfpgokjnpaaDoor.rspb Go.Proofs.YtpibnfpgokjnpaaDoor.rspc Go.Proofs.YtpibnfpgokjnpaaDoor.rspd Go.Proofs.YtpibnfpgokjnpaaDoor.rspe Go.Proofs.YtpibnfpgokjnpaaDoor.spoa Go.Proofs.YtpibnfpgokjnpaaDoor.spoe

set_option maxRecDepth 100000 in
set_option maxHeartbeats 1000000 in
theorem right_z (k a : Int) (o : Bool) (l : List Nat) (r f z : Nat) (w : World) (hl : l.length = 25) (hr168 : r ≤ 168) (HTr : Away (∀ w1 : World, Calls Tryd.prog 33 #[.int .i64 k] w1 fun e w' => e = .returned (.agg #[.int .i64 (r : Int), .int .u8 (f : Int), .int .i64 (z : Int)]) ∧ Below w1.heap.size w1 w')) (hr : r = 0) :
    Calls Tryd.prog 18 #[.agg (SC k l a o)] w fun e w' => e = .returned (.bool false) ∧ Below w.heap.size w w' := by
  have hfd := field0 (r : Int) (f : Int) (z : Int)
  subst hr
  have HTr : Away (∀ w1 : World, Calls Tryd.prog 33 #[.int .i64 k] w1 fun e w' => e = .returned (.agg #[.int .i64 0, .int .u8 (f : Int), .int .i64 (z : Int)]) ∧ Below w1.heap.size w1 w') := HTr
  have hfd := field0 0 (f : Int) (z : Int)
  obtain ⟨W, hW⟩ : ∃ x, w.alloc (.cells (SC k l a o) 25) = x := ⟨_, rfl⟩
  have HW := Away.mk hW
  have Hb : Away (Below w.heap.size w W) := ⟨by rw [← hW]; exact below_alloc _ _⟩
  have hsz : W.heap.size = w.heap.size + 1 := by rw [← hW]; exact size_alloc _ _
  have hrow : W.heap[w.heap.size]? = some (.cells (SC k l a o) 25 (0, 0)) := by rw [← hW]; exact heap_at _ _ _ rfl
  have c0 := cell_at hrow (sc_kind k l a o)
  have Hrow := Away.mk hrow
  have Hl := Away.mk hl
  clear hrow hW hl
  go_enter Tryd.func18, Tryd.ntmps18
  go_wp2_with (rw [HW.out])
  refine (HTr.out _).mono ?_
  rintro e w1 ⟨rfl, hb1⟩
  have ca : w1.cell? ⟨w.heap.size, 26, none⟩ = some (.int .i64 a) := cell_at ((hb1.block _ (by omega)).trans Hrow.out) (sc_at k a o Hl.out)
  have co : w1.cell? ⟨w.heap.size, 27, none⟩ = some (.bool o) := cell_at ((hb1.block _ (by omega)).trans Hrow.out) (sc_out k a o Hl.out)
  have HB : Away (Below w.heap.size w w1) := ⟨Hb.out.trans (hb1.mono (by omega))⟩
  clear hb1 c0 HTr
  go_wp2_with fail
  go_ret
  exact ⟨rfl, HB.out⟩

set_option maxRecDepth 100000 in
set_option maxHeartbeats 1000000 in
theorem right_negt (k a : Int) (o : Bool) (l : List Nat) (r f z : Nat) (w : World) (hl : l.length = 25) (hr168 : r ≤ 168) (HTr : Away (∀ w1 : World, Calls Tryd.prog 33 #[.int .i64 k] w1 fun e w' => e = .returned (.agg #[.int .i64 (r : Int), .int .u8 (f : Int), .int .i64 (z : Int)]) ∧ Below w1.heap.size w1 w')) (hr : 0 < r) (ha : a < 0) (ho : o = true) :
    Calls Tryd.prog 18 #[.agg (SC k l a o)] w fun e w' => e = .returned (.bool false) ∧ Below w.heap.size w w' := by
  have hfd := field0 (r : Int) (f : Int) (z : Int)
  subst ho
  have h1 : ((r : Int) == 0) = false := beq_eq_false_iff_ne.2 (by omega)
  obtain ⟨W, hW⟩ : ∃ x, w.alloc (.cells (SC k l a true) 25) = x := ⟨_, rfl⟩
  have HW := Away.mk hW
  have Hb : Away (Below w.heap.size w W) := ⟨by rw [← hW]; exact below_alloc _ _⟩
  have hsz : W.heap.size = w.heap.size + 1 := by rw [← hW]; exact size_alloc _ _
  have hrow : W.heap[w.heap.size]? = some (.cells (SC k l a true) 25 (0, 0)) := by rw [← hW]; exact heap_at _ _ _ rfl
  have c0 := cell_at hrow (sc_kind k l a true)
  have Hrow := Away.mk hrow
  have Hl := Away.mk hl
  clear hrow hW hl
  go_enter Tryd.func18, Tryd.ntmps18
  go_wp2_with (rw [HW.out])
  refine (HTr.out _).mono ?_
  rintro e w1 ⟨rfl, hb1⟩
  have ca : w1.cell? ⟨w.heap.size, 26, none⟩ = some (.int .i64 a) := cell_at ((hb1.block _ (by omega)).trans Hrow.out) (sc_at k a true Hl.out)
  have co : w1.cell? ⟨w.heap.size, 27, none⟩ = some (.bool true) := cell_at ((hb1.block _ (by omega)).trans Hrow.out) (sc_out k a true Hl.out)
  have HB : Away (Below w.heap.size w w1) := ⟨Hb.out.trans (hb1.mono (by omega))⟩
  clear hb1 c0 HTr
  go_wp2_with fail
  go_ret
  exact ⟨rfl, HB.out⟩

set_option maxRecDepth 100000 in
set_option maxHeartbeats 1000000 in
theorem right_negf (k a : Int) (o : Bool) (l : List Nat) (r f z : Nat) (w : World) (hl : l.length = 25) (hr168 : r ≤ 168) (HTr : Away (∀ w1 : World, Calls Tryd.prog 33 #[.int .i64 k] w1 fun e w' => e = .returned (.agg #[.int .i64 (r : Int), .int .u8 (f : Int), .int .i64 (z : Int)]) ∧ Below w1.heap.size w1 w')) (hr : 0 < r) (ha : a < 0) (ho : o = false) :
    Calls Tryd.prog 18 #[.agg (SC k l a o)] w fun e w' => e = .returned (.bool false) ∧ Below w.heap.size w w' := by
  have hfd := field0 (r : Int) (f : Int) (z : Int)
  subst ho
  have h1 : ((r : Int) == 0) = false := beq_eq_false_iff_ne.2 (by omega)
  obtain ⟨W, hW⟩ : ∃ x, w.alloc (.cells (SC k l a false) 25) = x := ⟨_, rfl⟩
  have HW := Away.mk hW
  have Hb : Away (Below w.heap.size w W) := ⟨by rw [← hW]; exact below_alloc _ _⟩
  have hsz : W.heap.size = w.heap.size + 1 := by rw [← hW]; exact size_alloc _ _
  have hrow : W.heap[w.heap.size]? = some (.cells (SC k l a false) 25 (0, 0)) := by rw [← hW]; exact heap_at _ _ _ rfl
  have c0 := cell_at hrow (sc_kind k l a false)
  have Hrow := Away.mk hrow
  have Hl := Away.mk hl
  clear hrow hW hl
  go_enter Tryd.func18, Tryd.ntmps18
  go_wp2_with (rw [HW.out])
  refine (HTr.out _).mono ?_
  rintro e w1 ⟨rfl, hb1⟩
  have ca : w1.cell? ⟨w.heap.size, 26, none⟩ = some (.int .i64 a) := cell_at ((hb1.block _ (by omega)).trans Hrow.out) (sc_at k a false Hl.out)
  have co : w1.cell? ⟨w.heap.size, 27, none⟩ = some (.bool false) := cell_at ((hb1.block _ (by omega)).trans Hrow.out) (sc_out k a false Hl.out)
  have HB : Away (Below w.heap.size w w1) := ⟨Hb.out.trans (hb1.mono (by omega))⟩
  clear hb1 c0 HTr
  go_wp2_with fail
  go_ret
  exact ⟨rfl, HB.out⟩

set_option maxRecDepth 100000 in
set_option maxHeartbeats 1000000 in
theorem right_int (k a : Int) (o : Bool) (l : List Nat) (r f z : Nat) (w : World) (hl : l.length = 25) (hr168 : r ≤ 168) (HTr : Away (∀ w1 : World, Calls Tryd.prog 33 #[.int .i64 k] w1 fun e w' => e = .returned (.agg #[.int .i64 (r : Int), .int .u8 (f : Int), .int .i64 (z : Int)]) ∧ Below w1.heap.size w1 w')) (hr : 0 < r) (ha : 0 ≤ a) (hb : a ≤ (r : Int)) (ho : o = true) :
    Calls Tryd.prog 18 #[.agg (SC k l a o)] w fun e w' => e = .returned (.bool true) ∧ Below w.heap.size w w' := by
  have hfd := field0 (r : Int) (f : Int) (z : Int)
  subst ho
  have h1 : ((r : Int) == 0) = false := beq_eq_false_iff_ne.2 (by omega)
  obtain ⟨W, hW⟩ : ∃ x, w.alloc (.cells (SC k l a true) 25) = x := ⟨_, rfl⟩
  have HW := Away.mk hW
  have Hb : Away (Below w.heap.size w W) := ⟨by rw [← hW]; exact below_alloc _ _⟩
  have hsz : W.heap.size = w.heap.size + 1 := by rw [← hW]; exact size_alloc _ _
  have hrow : W.heap[w.heap.size]? = some (.cells (SC k l a true) 25 (0, 0)) := by rw [← hW]; exact heap_at _ _ _ rfl
  have c0 := cell_at hrow (sc_kind k l a true)
  have Hrow := Away.mk hrow
  have Hl := Away.mk hl
  clear hrow hW hl
  go_enter Tryd.func18, Tryd.ntmps18
  go_wp2_with (rw [HW.out])
  refine (HTr.out _).mono ?_
  rintro e w1 ⟨rfl, hb1⟩
  have ca : w1.cell? ⟨w.heap.size, 26, none⟩ = some (.int .i64 a) := cell_at ((hb1.block _ (by omega)).trans Hrow.out) (sc_at k a true Hl.out)
  have co : w1.cell? ⟨w.heap.size, 27, none⟩ = some (.bool true) := cell_at ((hb1.block _ (by omega)).trans Hrow.out) (sc_out k a true Hl.out)
  have HB : Away (Below w.heap.size w w1) := ⟨Hb.out.trans (hb1.mono (by omega))⟩
  clear hb1 c0 HTr
  go_wp2_with fail
  go_ret
  exact ⟨rfl, HB.out⟩

set_option maxRecDepth 100000 in
set_option maxHeartbeats 1000000 in
theorem right_inf (k a : Int) (o : Bool) (l : List Nat) (r f z : Nat) (w : World) (hl : l.length = 25) (hr168 : r ≤ 168) (HTr : Away (∀ w1 : World, Calls Tryd.prog 33 #[.int .i64 k] w1 fun e w' => e = .returned (.agg #[.int .i64 (r : Int), .int .u8 (f : Int), .int .i64 (z : Int)]) ∧ Below w1.heap.size w1 w')) (hr : 0 < r) (ha : 0 ≤ a) (hb : a < (r : Int)) (ho : o = false) :
    Calls Tryd.prog 18 #[.agg (SC k l a o)] w fun e w' => e = .returned (.bool true) ∧ Below w.heap.size w w' := by
  have hfd := field0 (r : Int) (f : Int) (z : Int)
  subst ho
  have h1 : ((r : Int) == 0) = false := beq_eq_false_iff_ne.2 (by omega)
  have h2 : a ≤ (r : Int) - 1 := by omega
  obtain ⟨W, hW⟩ : ∃ x, w.alloc (.cells (SC k l a false) 25) = x := ⟨_, rfl⟩
  have HW := Away.mk hW
  have Hb : Away (Below w.heap.size w W) := ⟨by rw [← hW]; exact below_alloc _ _⟩
  have hsz : W.heap.size = w.heap.size + 1 := by rw [← hW]; exact size_alloc _ _
  have hrow : W.heap[w.heap.size]? = some (.cells (SC k l a false) 25 (0, 0)) := by rw [← hW]; exact heap_at _ _ _ rfl
  have c0 := cell_at hrow (sc_kind k l a false)
  have Hrow := Away.mk hrow
  have Hl := Away.mk hl
  clear hrow hW hl
  go_enter Tryd.func18, Tryd.ntmps18
  go_wp2_with (rw [HW.out])
  refine (HTr.out _).mono ?_
  rintro e w1 ⟨rfl, hb1⟩
  have ca : w1.cell? ⟨w.heap.size, 26, none⟩ = some (.int .i64 a) := cell_at ((hb1.block _ (by omega)).trans Hrow.out) (sc_at k a false Hl.out)
  have co : w1.cell? ⟨w.heap.size, 27, none⟩ = some (.bool false) := cell_at ((hb1.block _ (by omega)).trans Hrow.out) (sc_out k a false Hl.out)
  have HB : Away (Below w.heap.size w w1) := ⟨Hb.out.trans (hb1.mono (by omega))⟩
  clear hb1 c0 HTr
  go_wp2_with fail
  go_ret
  exact ⟨rfl, HB.out⟩

set_option maxRecDepth 100000 in
set_option maxHeartbeats 1000000 in
theorem right_bigt (k a : Int) (o : Bool) (l : List Nat) (r f z : Nat) (w : World) (hl : l.length = 25) (hr168 : r ≤ 168) (HTr : Away (∀ w1 : World, Calls Tryd.prog 33 #[.int .i64 k] w1 fun e w' => e = .returned (.agg #[.int .i64 (r : Int), .int .u8 (f : Int), .int .i64 (z : Int)]) ∧ Below w1.heap.size w1 w')) (hr : 0 < r) (hb : (r : Int) < a) (ho : o = true) :
    Calls Tryd.prog 18 #[.agg (SC k l a o)] w fun e w' => e = .returned (.bool false) ∧ Below w.heap.size w w' := by
  have hfd := field0 (r : Int) (f : Int) (z : Int)
  subst ho
  have h1 : ((r : Int) == 0) = false := beq_eq_false_iff_ne.2 (by omega)
  have ha : 0 ≤ a := by omega
  have h2 : decide (a ≤ (r : Int)) = false := decide_eq_false (by omega)
  obtain ⟨W, hW⟩ : ∃ x, w.alloc (.cells (SC k l a true) 25) = x := ⟨_, rfl⟩
  have HW := Away.mk hW
  have Hb : Away (Below w.heap.size w W) := ⟨by rw [← hW]; exact below_alloc _ _⟩
  have hsz : W.heap.size = w.heap.size + 1 := by rw [← hW]; exact size_alloc _ _
  have hrow : W.heap[w.heap.size]? = some (.cells (SC k l a true) 25 (0, 0)) := by rw [← hW]; exact heap_at _ _ _ rfl
  have c0 := cell_at hrow (sc_kind k l a true)
  have Hrow := Away.mk hrow
  have Hl := Away.mk hl
  clear hrow hW hl
  go_enter Tryd.func18, Tryd.ntmps18
  go_wp2_with (rw [HW.out])
  refine (HTr.out _).mono ?_
  rintro e w1 ⟨rfl, hb1⟩
  have ca : w1.cell? ⟨w.heap.size, 26, none⟩ = some (.int .i64 a) := cell_at ((hb1.block _ (by omega)).trans Hrow.out) (sc_at k a true Hl.out)
  have co : w1.cell? ⟨w.heap.size, 27, none⟩ = some (.bool true) := cell_at ((hb1.block _ (by omega)).trans Hrow.out) (sc_out k a true Hl.out)
  have HB : Away (Below w.heap.size w w1) := ⟨Hb.out.trans (hb1.mono (by omega))⟩
  clear hb1 c0 HTr
  go_wp2_with fail
  go_ret
  exact ⟨rfl, HB.out⟩

set_option maxRecDepth 100000 in
set_option maxHeartbeats 1000000 in
theorem right_bigf (k a : Int) (o : Bool) (l : List Nat) (r f z : Nat) (w : World) (hl : l.length = 25) (hr168 : r ≤ 168) (HTr : Away (∀ w1 : World, Calls Tryd.prog 33 #[.int .i64 k] w1 fun e w' => e = .returned (.agg #[.int .i64 (r : Int), .int .u8 (f : Int), .int .i64 (z : Int)]) ∧ Below w1.heap.size w1 w')) (hr : 0 < r) (hb : (r : Int) ≤ a) (ho : o = false) :
    Calls Tryd.prog 18 #[.agg (SC k l a o)] w fun e w' => e = .returned (.bool false) ∧ Below w.heap.size w w' := by
  have hfd := field0 (r : Int) (f : Int) (z : Int)
  subst ho
  have h1 : ((r : Int) == 0) = false := beq_eq_false_iff_ne.2 (by omega)
  have ha : 0 ≤ a := by omega
  have h2 : decide (a ≤ (r : Int) - 1) = false := decide_eq_false (by omega)
  obtain ⟨W, hW⟩ : ∃ x, w.alloc (.cells (SC k l a false) 25) = x := ⟨_, rfl⟩
  have HW := Away.mk hW
  have Hb : Away (Below w.heap.size w W) := ⟨by rw [← hW]; exact below_alloc _ _⟩
  have hsz : W.heap.size = w.heap.size + 1 := by rw [← hW]; exact size_alloc _ _
  have hrow : W.heap[w.heap.size]? = some (.cells (SC k l a false) 25 (0, 0)) := by rw [← hW]; exact heap_at _ _ _ rfl
  have c0 := cell_at hrow (sc_kind k l a false)
  have Hrow := Away.mk hrow
  have Hl := Away.mk hl
  clear hrow hW hl
  go_enter Tryd.func18, Tryd.ntmps18
  go_wp2_with (rw [HW.out])
  refine (HTr.out _).mono ?_
  rintro e w1 ⟨rfl, hb1⟩
  have ca : w1.cell? ⟨w.heap.size, 26, none⟩ = some (.int .i64 a) := cell_at ((hb1.block _ (by omega)).trans Hrow.out) (sc_at k a false Hl.out)
  have co : w1.cell? ⟨w.heap.size, 27, none⟩ = some (.bool false) := cell_at ((hb1.block _ (by omega)).trans Hrow.out) (sc_out k a false Hl.out)
  have HB : Away (Below w.heap.size w w1) := ⟨Hb.out.trans (hb1.mono (by omega))⟩
  clear hb1 c0 HTr
  go_wp2_with fail
  go_ret
  exact ⟨rfl, HB.out⟩

theorem right_any (k a : Int) (o : Bool) (l : List Nat) (w : World) (hl : l.length = 25) :
    Calls Tryd.prog 18 #[.agg (SC k l a o)] w fun e w' => e = .returned (.bool (ok k a o)) ∧ Below w.heap.size w w' := by
  obtain ⟨r, hr⟩ : ∃ r, rate k = r := ⟨_, rfl⟩
  have hr168 := rate_le k
  obtain ⟨f, z, hTr⟩ := traits_is k r hr
  have HTr := Away.mk hTr
  show Calls Tryd.prog 18 #[.agg (SC k l a o)] w fun e w' => e = .returned (.bool (okr (rate k) a o)) ∧ Below w.heap.size w w'
  rw [hr] at hr168 ⊢
  by_cases h0 : r = 0
  · have e : okr r a o = false := by unfold okr; rw [h0]; rfl
    rw [e]; exact right_z k a o l r f z w hl hr168 HTr h0
  · have h0' : 0 < r := by omega
    cases o with
    | true =>
      by_cases h1 : a < 0
      · have e : okr r a true = false := by unfold okr; rw [decide_eq_false (show ¬ 0 ≤ a by omega)]; simp
        rw [e]; exact right_negt k a true l r f z w hl hr168 HTr h0' h1 rfl
      · by_cases h2 : a ≤ (r : Int)
        · have e : okr r a true = true := by
            unfold okr
            rw [decide_eq_true h0', decide_eq_true (show 0 ≤ a by omega)]
            simp
            omega
          rw [e]; exact right_int k a true l r f z w hl hr168 HTr h0' (by omega) h2 rfl
        · have e : okr r a true = false := by unfold okr; rw [decide_eq_false (show ¬ a < (r : Int) by omega), decide_eq_false (show ¬ a = (r : Int) by omega)]; simp
          rw [e]; exact right_bigt k a true l r f z w hl hr168 HTr h0' (by omega) rfl
    | false =>
      by_cases h1 : a < 0
      · have e : okr r a false = false := by unfold okr; rw [decide_eq_false (show ¬ 0 ≤ a by omega)]; simp
        rw [e]; exact right_negf k a false l r f z w hl hr168 HTr h0' h1 rfl
      · by_cases h2 : a < (r : Int)
        · have e : okr r a false = true := by unfold okr; rw [decide_eq_true h0', decide_eq_true (show 0 ≤ a by omega), decide_eq_true h2]; rfl
          rw [e]; exact right_inf k a false l r f z w hl hr168 HTr h0' (by omega) h2 rfl
        · have e : okr r a false = false := by unfold okr; rw [decide_eq_false h2]; simp
          rw [e]; exact right_bigf k a false l r f z w hl hr168 HTr h0' (by omega) rfl

set_option maxRecDepth 100000 in
set_option maxHeartbeats 2000000 in
theorem new_bad (k : Int) (w : World) (hr : rate k = 0) : Calls Tryd.prog 16 #[.int .i64 k] w fun e w' => e = .returned (.tuple #[.agg (SC 0 Z 0 false), .int .i64 1]) ∧ Below w.heap.size w w' := by
  obtain ⟨r, hre⟩ : ∃ r, rate k = r := ⟨_, rfl⟩
  obtain ⟨f, z, hTr⟩ := traits_is k r hre
  have hr0 := hr
  rw [hre] at hr0
  have HTr := Away.mk hTr
  clear hre hTr hr
  subst hr0
  have HTr : Away (∀ w1 : World, Calls Tryd.prog 33 #[.int .i64 k] w1 fun e w' => e = .returned (.agg #[.int .i64 0, .int .u8 (f : Int), .int .i64 (z : Int)]) ∧ Below w1.heap.size w1 w') := HTr
  have hfd := field0 0 (f : Int) (z : Int)
  obtain ⟨F, HF⟩ := ex_eq (SC 0 Z 0 false)
  have Fi : Away ((Tryd.prog.info? 25).map (·.size) = some F.size) := ⟨by rw [← HF.out]; exact sc_info _ _ _ z_len⟩
  have Fo : Away (F.all (·.oneCell') = true) := ⟨by rw [← HF.out]; exact sc_one _ _ _ _⟩
  have Fb : Away ((#[.int .i64 0, .int .u64 0, .int .u64 0, .int .u64 0, .int .u64 0, .int .u64 0, .int .u64 0, .int .u64 0, .int .u64 0, .int .u64 0, .int .u64 0, .int .u64 0, .int .u64 0, .int .u64 0, .int .u64 0, .int .u64 0, .int .u64 0, .int .u64 0, .int .u64 0, .int .u64 0, .int .u64 0, .int .u64 0, .int .u64 0, .int .u64 0, .int .u64 0, .int .u64 0, .int .i64 0, .bool false] : Array Value) = F) := ⟨by rw [← HF.out]; rfl⟩
  obtain ⟨z0, HZ⟩ := ex_eq (SC 0 Z 0 false)
  have Fz : Away (z0.size = F.size) := ⟨by rw [← HF.out, ← HZ.out]; all_goals exact (sc_size _ _ _ z_len).trans (sc_size _ _ _ z_len).symm⟩
  have Hz0 : Away ((#[.int .i64 0, .int .u64 0, .int .u64 0, .int .u64 0, .int .u64 0, .int .u64 0, .int .u64 0, .int .u64 0, .int .u64 0, .int .u64 0, .int .u64 0, .int .u64 0, .int .u64 0, .int .u64 0, .int .u64 0, .int .u64 0, .int .u64 0, .int .u64 0, .int .u64 0, .int .u64 0, .int .u64 0, .int .u64 0, .int .u64 0, .int .u64 0, .int .u64 0, .int .u64 0, .int .i64 0, .bool false] : Array Value) = z0) := ⟨by rw [← HZ.out]; rfl⟩
  rw [HF.out]
  obtain ⟨W, hW⟩ : ∃ x, w.alloc (.cells z0 25) = x := ⟨_, rfl⟩
  have HW := Away.mk hW
  have Hb : Away (Below w.heap.size w W) := ⟨by rw [← hW]; exact below_alloc _ _⟩
  have hsz : W.heap.size = w.heap.size + 1 := by rw [← hW]; exact size_alloc _ _
  have Hrow : Away (W.heap[w.heap.size]? = some (.cells z0 25 (0, 0))) := ⟨by rw [← hW]; exact heap_at _ _ _ rfl⟩
  clear hW
  go_enter Tryd.func16, Tryd.ntmps16
  go_wp2_with (rw [Hz0.out, HW.out])
  refine (HTr.out _).mono ?_
  rintro e w1 ⟨rfl, hb1⟩
  have Hres : Away (w1.heap[w.heap.size]? = some (.cells z0 25 (0, 0))) := ⟨(hb1.block _ (by omega)).trans Hrow.out⟩
  have HB : Away (Below w.heap.size w w1) := ⟨Hb.out.trans (hb1.mono (by omega))⟩
  clear hb1 HTr
  go_wp2_with (first
    | ((with_reducible refine wpList_buildC rfl _ _ rfl #[.int .i64 0, .int .u64 0, .int .u64 0, .int .u64 0, .int .u64 0, .int .u64 0, .int .u64 0, .int .u64 0, .int .u64 0, .int .u64 0, .int .u64 0, .int .u64 0, .int .u64 0, .int .u64 0, .int .u64 0, .int .u64 0, .int .u64 0, .int .u64 0, .int .u64 0, .int .u64 0, .int .u64 0, .int .u64 0, .int .u64 0, .int .u64 0, .int .u64 0, .int .u64 0, .int .i64 0, .bool false] ?hC ?_); (case hC => kernel_rfl); rw [Fb.out])
    | (refine wpList_store_row rfl 25 _ _ rfl w.heap.size F rfl rfl 25 _ Hres.out Fi.out Fz.out Fo.out ?_))
  refine bodyPost_ret_by (v := .tuple #[.agg F, .int .i64 1]) (rspc.results_cell_tmp rfl _ _ w.heap.size 25 _ (0, 0) _ rfl (setRow_heap _ _ _ _ _ _ Hres.out) Tryd.underlying25 rfl Fi.out _ rfl) rfl ?_
  exact ⟨rfl, HB.out.trans (below_setRow _ _ _ (Nat.le_refl _))⟩

set_option maxRecDepth 100000 in
set_option maxHeartbeats 2000000 in
theorem new_good (k : Int) (w : World) (hr : 0 < rate k) : Calls Tryd.prog 16 #[.int .i64 k] w fun e w' => e = .returned (.tuple #[.agg (SC k Z 0 false), .int .i64 0]) ∧ Below w.heap.size w w' := by
  obtain ⟨r, hre⟩ : ∃ r, rate k = r := ⟨_, rfl⟩
  obtain ⟨f, z, hTr⟩ := traits_is k r hre
  have hr0 := hr
  rw [hre] at hr0
  have HTr := Away.mk hTr
  clear hre hTr hr
  have h1 : ((r : Int) == 0) = false := beq_eq_false_iff_ne.2 (by omega)
  clear hr0
  have hfd := field0 (r : Int) (f : Int) (z : Int)
  obtain ⟨F, HF⟩ := ex_eq (SC k Z 0 false)
  have Fi : Away ((Tryd.prog.info? 25).map (·.size) = some F.size) := ⟨by rw [← HF.out]; exact sc_info _ _ _ z_len⟩
  have Fo : Away (F.all (·.oneCell') = true) := ⟨by rw [← HF.out]; exact sc_one _ _ _ _⟩
  have Fb : Away ((#[.int .i64 k, .int .u64 0, .int .u64 0, .int .u64 0, .int .u64 0, .int .u64 0, .int .u64 0, .int .u64 0, .int .u64 0, .int .u64 0, .int .u64 0, .int .u64 0, .int .u64 0, .int .u64 0, .int .u64 0, .int .u64 0, .int .u64 0, .int .u64 0, .int .u64 0, .int .u64 0, .int .u64 0, .int .u64 0, .int .u64 0, .int .u64 0, .int .u64 0, .int .u64 0, .int .i64 0, .bool false] : Array Value) = F) := ⟨by rw [← HF.out]; rfl⟩
  obtain ⟨z0, HZ⟩ := ex_eq (SC 0 Z 0 false)
  have Fz : Away (z0.size = F.size) := ⟨by rw [← HF.out, ← HZ.out]; all_goals exact (sc_size _ _ _ z_len).trans (sc_size _ _ _ z_len).symm⟩
  have Hz0 : Away ((#[.int .i64 0, .int .u64 0, .int .u64 0, .int .u64 0, .int .u64 0, .int .u64 0, .int .u64 0, .int .u64 0, .int .u64 0, .int .u64 0, .int .u64 0, .int .u64 0, .int .u64 0, .int .u64 0, .int .u64 0, .int .u64 0, .int .u64 0, .int .u64 0, .int .u64 0, .int .u64 0, .int .u64 0, .int .u64 0, .int .u64 0, .int .u64 0, .int .u64 0, .int .u64 0, .int .i64 0, .bool false] : Array Value) = z0) := ⟨by rw [← HZ.out]; rfl⟩
  rw [HF.out]
  obtain ⟨W, hW⟩ : ∃ x, w.alloc (.cells z0 25) = x := ⟨_, rfl⟩
  have HW := Away.mk hW
  have Hb : Away (Below w.heap.size w W) := ⟨by rw [← hW]; exact below_alloc _ _⟩
  have hsz : W.heap.size = w.heap.size + 1 := by rw [← hW]; exact size_alloc _ _
  have Hrow : Away (W.heap[w.heap.size]? = some (.cells z0 25 (0, 0))) := ⟨by rw [← hW]; exact heap_at _ _ _ rfl⟩
  clear hW
  go_enter Tryd.func16, Tryd.ntmps16
  go_wp2_with (rw [Hz0.out, HW.out])
  refine (HTr.out _).mono ?_
  rintro e w1 ⟨rfl, hb1⟩
  have Hres : Away (w1.heap[w.heap.size]? = some (.cells z0 25 (0, 0))) := ⟨(hb1.block _ (by omega)).trans Hrow.out⟩
  have HB : Away (Below w.heap.size w w1) := ⟨Hb.out.trans (hb1.mono (by omega))⟩
  clear hb1 HTr
  go_wp2_with (first
    | ((with_reducible refine wpList_buildC rfl _ _ rfl #[.int .i64 k, .int .u64 0, .int .u64 0, .int .u64 0, .int .u64 0, .int .u64 0, .int .u64 0, .int .u64 0, .int .u64 0, .int .u64 0, .int .u64 0, .int .u64 0, .int .u64 0, .int .u64 0, .int .u64 0, .int .u64 0, .int .u64 0, .int .u64 0, .int .u64 0, .int .u64 0, .int .u64 0, .int .u64 0, .int .u64 0, .int .u64 0, .int .u64 0, .int .u64 0, .int .i64 0, .bool false] ?hC ?_); (case hC => kernel_rfl); rw [Fb.out])
    | (refine wpList_store_row rfl 25 _ _ rfl w.heap.size F rfl rfl 25 _ Hres.out Fi.out Fz.out Fo.out ?_))
  refine bodyPost_ret_by (v := .tuple #[.agg F, .int .i64 0]) (rspc.results_cell_tmp rfl _ _ w.heap.size 25 _ (0, 0) _ rfl (setRow_heap _ _ _ _ _ _ Hres.out) Tryd.underlying25 rfl Fi.out _ rfl) rfl ?_
  exact ⟨rfl, HB.out.trans (below_setRow _ _ _ (Nat.le_refl _))⟩

end Go.Proofs.YtpibnfpgokjnpaaDoor.spoi
