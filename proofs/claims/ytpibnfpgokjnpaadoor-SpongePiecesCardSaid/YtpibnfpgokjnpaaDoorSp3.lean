/-
  What Right and New of the sponge return. Conditions: the sponge's state has 25 words.
  What Absorb and Squeeze of the sponge return. Conditions: the sponge's state has 25 words of 64 bits, the tables have their size, and keccak's variable 'places' holds what the program's text lays there.
  What Shake and Sha3 of the sponge return. Conditions: the tables have their size, and keccak's variable 'places' holds what the program's text lays there.
-/
import Derived.Test.YtpibnfpgokjnpaaDoorSp1
import Derived.Test.YtpibnfpgokjnpaaDoorSp2
import Derived.Test.YtpibnfpgokjnpaaDoorKd
namespace Go.Proofs.YtpibnfpgokjnpaaDoor.spoi
open Go Go.RowKit
open Go.Proofs.YtpibnfpgokjnpaaDoor.arr Go.Proofs.YtpibnfpgokjnpaaDoor.mem Go.Proofs.YtpibnfpgokjnpaaDoor.kecm Go.Proofs.YtpibnfpgokjnpaaDoor.kecb Go.Proofs.YtpibnfpgokjnpaaDoor.kstep Go.Proofs.YtpibnfpgokjnpaaDoor.kfun Go.Proofs.YtpibnfpgokjnpaaDoor.spgm Go.Proofs.YtpibnfpgokjnpaaDoor.spmx Go.Proofs.YtpibnfpgokjnpaaDoor.rspa Go.Proofs.YtpibnfpgokjnpaaDoor.rspb Go.Proofs.YtpibnfpgokjnpaaDoor.rspc Go.Proofs.YtpibnfpgokjnpaaDoor.rspd Go.Proofs.YtpibnfpgokjnpaaDoor.rspe Go.Proofs.YtpibnfpgokjnpaaDoor.spoa Go.Proofs.YtpibnfpgokjnpaaDoor.spoe

set_option maxRecDepth 100000 in
set_option maxHeartbeats 1000000 in
theorem right_z (k a : Int) (o : Bool) (l : List Nat) (r f z : Nat) (w : World) (hl : l.length = 25) (hr168 : r ≤ 168) (HTr : Away (∀ w1 : World, Calls Tryd.prog 33 #[.int .i64 k] w1 fun e w' => e = .returned (.agg #[.int .i64 (r : Int), .int .u8 (f : Int), .int .i64 (z : Int)]) ∧ Below w1.heap.size w1 w')) (hr : r = 0) :
    Calls Tryd.prog 18 #[.agg (SC k l a o)] w fun e w' => e = .returned (.bool false) ∧ Below w.heap.size w w' := by
  have hfd := field0 (r : Int) (f : Int) (z : Int)
  subst hr
  have HTr : Away (∀ w1 : World, Calls Tryd.prog 33 #[.int .i64 k] w1 fun e w' => e = .returned (.agg #[.int .i64 0, .int .u8 (f : Int), .int .i64 (z : Int)]) ∧ Below w1.heap.size w1 w') := HTr
  have hfd := field0 0 (f : Int) (z : Int)
  obtain ⟨W, hW⟩ : ∃ x, w.alloc (.cells (SC k l a o) 25) = x := ⟨_, rfl⟩
  have HW := Away.mk hW
  have Hb : Away (Below w.heap.size w W) := ⟨by rw [← hW]; exact below_alloc _ _⟩
  have hsz : W.heap.size = w.heap.size + 1 := by rw [← hW]; exact size_alloc _ _
  have hrow : W.heap[w.heap.size]? = some (.cells (SC k l a o) 25 (0, 0)) := by rw [← hW]; exact heap_at _ _ _ rfl
  have c0 := cell_at hrow (sc_kind k l a o)
  have Hrow := Away.mk hrow
  have Hl := Away.mk hl
  clear hrow hW hl
  go_enter Tryd.func18, Tryd.ntmps18
  go_wp2_with (rw [HW.out])
  refine (HTr.out _).mono ?_
  rintro e w1 ⟨rfl, hb1⟩
  have ca : w1.cell? ⟨w.heap.size, 26, none⟩ = some (.int .i64 a) := cell_at ((hb1.block _ (by omega)).trans Hrow.out) (sc_at k a o Hl.out)
  have co : w1.cell? ⟨w.heap.size, 27, none⟩ = some (.bool o) := cell_at ((hb1.block _ (by omega)).trans Hrow.out) (sc_out k a o Hl.out)
  have HB : Away (Below w.heap.size w w1) := ⟨Hb.out.trans (hb1.mono (by omega))⟩
  clear hb1 c0 HTr
  go_wp2_with fail
  go_ret
  exact ⟨rfl, HB.out⟩

set_option maxRecDepth 100000 in
set_option maxHeartbeats 1000000 in
theorem right_negt (k a : Int) (o : Bool) (l : List Nat) (r f z : Nat) (w : World) (hl : l.length = 25) (hr168 : r ≤ 168) (HTr : Away (∀ w1 : World, Calls Tryd.prog 33 #[.int .i64 k] w1 fun e w' => e = .returned (.agg #[.int .i64 (r : Int), .int .u8 (f : Int), .int .i64 (z : Int)]) ∧ Below w1.heap.size w1 w')) (hr : 0 < r) (ha : a < 0) (ho : o = true) :
    Calls Tryd.prog 18 #[.agg (SC k l a o)] w fun e w' => e = .returned (.bool false) ∧ Below w.heap.size w w' := by
  have hfd := field0 (r : Int) (f : Int) (z : Int)
  subst ho
  have h1 : ((r : Int) == 0) = false := beq_eq_false_iff_ne.2 (by omega)
  obtain ⟨W, hW⟩ : ∃ x, w.alloc (.cells (SC k l a true) 25) = x := ⟨_, rfl⟩
  have HW := Away.mk hW
  have Hb : Away (Below w.heap.size w W) := ⟨by rw [← hW]; exact below_alloc _ _⟩
  have hsz : W.heap.size = w.heap.size + 1 := by rw [← hW]; exact size_alloc _ _
  have hrow : W.heap[w.heap.size]? = some (.cells (SC k l a true) 25 (0, 0)) := by rw [← hW]; exact heap_at _ _ _ rfl
  have c0 := cell_at hrow (sc_kind k l a true)
  have Hrow := Away.mk hrow
  have Hl := Away.mk hl
  clear hrow hW hl
  go_enter Tryd.func18, Tryd.ntmps18
  go_wp2_with (rw [HW.out])
  refine (HTr.out _).mono ?_
  rintro e w1 ⟨rfl, hb1⟩
  have ca : w1.cell? ⟨w.heap.size, 26, none⟩ = some (.int .i64 a) := cell_at ((hb1.block _ (by omega)).trans Hrow.out) (sc_at k a true Hl.out)
  have co : w1.cell? ⟨w.heap.size, 27, none⟩ = some (.bool true) := cell_at ((hb1.block _ (by omega)).trans Hrow.out) (sc_out k a true Hl.out)
  have HB : Away (Below w.heap.size w w1) := ⟨Hb.out.trans (hb1.mono (by omega))⟩
  clear hb1 c0 HTr
  go_wp2_with fail
  go_ret
  exact ⟨rfl, HB.out⟩

set_option maxRecDepth 100000 in
set_option maxHeartbeats 1000000 in
theorem right_negf (k a : Int) (o : Bool) (l : List Nat) (r f z : Nat) (w : World) (hl : l.length = 25) (hr168 : r ≤ 168) (HTr : Away (∀ w1 : World, Calls Tryd.prog 33 #[.int .i64 k] w1 fun e w' => e = .returned (.agg #[.int .i64 (r : Int), .int .u8 (f : Int), .int .i64 (z : Int)]) ∧ Below w1.heap.size w1 w')) (hr : 0 < r) (ha : a < 0) (ho : o = false) :
    Calls Tryd.prog 18 #[.agg (SC k l a o)] w fun e w' => e = .returned (.bool false) ∧ Below w.heap.size w w' := by
  have hfd := field0 (r : Int) (f : Int) (z : Int)
  subst ho
  have h1 : ((r : Int) == 0) = false := beq_eq_false_iff_ne.2 (by omega)
  obtain ⟨W, hW⟩ : ∃ x, w.alloc (.cells (SC k l a false) 25) = x := ⟨_, rfl⟩
  have HW := Away.mk hW
  have Hb : Away (Below w.heap.size w W) := ⟨by rw [← hW]; exact below_alloc _ _⟩
  have hsz : W.heap.size = w.heap.size + 1 := by rw [← hW]; exact size_alloc _ _
  have hrow : W.heap[w.heap.size]? = some (.cells (SC k l a false) 25 (0, 0)) := by rw [← hW]; exact heap_at _ _ _ rfl
  have c0 := cell_at hrow (sc_kind k l a false)
  have Hrow := Away.mk hrow
  have Hl := Away.mk hl
  clear hrow hW hl
  go_enter Tryd.func18, Tryd.ntmps18
  go_wp2_with (rw [HW.out])
  refine (HTr.out _).mono ?_
  rintro e w1 ⟨rfl, hb1⟩
  have ca : w1.cell? ⟨w.heap.size, 26, none⟩ = some (.int .i64 a) := cell_at ((hb1.block _ (by omega)).trans Hrow.out) (sc_at k a false Hl.out)
  have co : w1.cell? ⟨w.heap.size, 27, none⟩ = some (.bool false) := cell_at ((hb1.block _ (by omega)).trans Hrow.out) (sc_out k a false Hl.out)
  have HB : Away (Below w.heap.size w w1) := ⟨Hb.out.trans (hb1.mono (by omega))⟩
  clear hb1 c0 HTr
  go_wp2_with fail
  go_ret
  exact ⟨rfl, HB.out⟩

set_option maxRecDepth 100000 in
set_option maxHeartbeats 1000000 in
theorem right_int (k a : Int) (o : Bool) (l : List Nat) (r f z : Nat) (w : World) (hl : l.length = 25) (hr168 : r ≤ 168) (HTr : Away (∀ w1 : World, Calls Tryd.prog 33 #[.int .i64 k] w1 fun e w' => e = .returned (.agg #[.int .i64 (r : Int), .int .u8 (f : Int), .int .i64 (z : Int)]) ∧ Below w1.heap.size w1 w')) (hr : 0 < r) (ha : 0 ≤ a) (hb : a ≤ (r : Int)) (ho : o = true) :
    Calls Tryd.prog 18 #[.agg (SC k l a o)] w fun e w' => e = .returned (.bool true) ∧ Below w.heap.size w w' := by
  have hfd := field0 (r : Int) (f : Int) (z : Int)
  subst ho
  have h1 : ((r : Int) == 0) = false := beq_eq_false_iff_ne.2 (by omega)
  obtain ⟨W, hW⟩ : ∃ x, w.alloc (.cells (SC k l a true) 25) = x := ⟨_, rfl⟩
  have HW := Away.mk hW
  have Hb : Away (Below w.heap.size w W) := ⟨by rw [← hW]; exact below_alloc _ _⟩
  have hsz : W.heap.size = w.heap.size + 1 := by rw [← hW]; exact size_alloc _ _
  have hrow : W.heap[w.heap.size]? = some (.cells (SC k l a true) 25 (0, 0)) := by rw [← hW]; exact heap_at _ _ _ rfl
  have c0 := cell_at hrow (sc_kind k l a true)
  have Hrow := Away.mk hrow
  have Hl := Away.mk hl
  clear hrow hW hl
  go_enter Tryd.func18, Tryd.ntmps18
  go_wp2_with (rw [HW.out])
  refine (HTr.out _).mono ?_
  rintro e w1 ⟨rfl, hb1⟩
  have ca : w1.cell? ⟨w.heap.size, 26, none⟩ = some (.int .i64 a) := cell_at ((hb1.block _ (by omega)).trans Hrow.out) (sc_at k a true Hl.out)
  have co : w1.cell? ⟨w.heap.size, 27, none⟩ = some (.bool true) := cell_at ((hb1.block _ (by omega)).trans Hrow.out) (sc_out k a true Hl.out)
  have HB : Away (Below w.heap.size w w1) := ⟨Hb.out.trans (hb1.mono (by omega))⟩
  clear hb1 c0 HTr
  go_wp2_with fail
  go_ret
  exact ⟨rfl, HB.out⟩

set_option maxRecDepth 100000 in
set_option maxHeartbeats 1000000 in
theorem right_inf (k a : Int) (o : Bool) (l : List Nat) (r f z : Nat) (w : World) (hl : l.length = 25) (hr168 : r ≤ 168) (HTr : Away (∀ w1 : World, Calls Tryd.prog 33 #[.int .i64 k] w1 fun e w' => e = .returned (.agg #[.int .i64 (r : Int), .int .u8 (f : Int), .int .i64 (z : Int)]) ∧ Below w1.heap.size w1 w')) (hr : 0 < r) (ha : 0 ≤ a) (hb : a < (r : Int)) (ho : o = false) :
    Calls Tryd.prog 18 #[.agg (SC k l a o)] w fun e w' => e = .returned (.bool true) ∧ Below w.heap.size w w' := by
  have hfd := field0 (r : Int) (f : Int) (z : Int)
  subst ho
  have h1 : ((r : Int) == 0) = false := beq_eq_false_iff_ne.2 (by omega)
  have h2 : a ≤ (r : Int) - 1 := by omega
  obtain ⟨W, hW⟩ : ∃ x, w.alloc (.cells (SC k l a false) 25) = x := ⟨_, rfl⟩
  have HW := Away.mk hW
  have Hb : Away (Below w.heap.size w W) := ⟨by rw [← hW]; exact below_alloc _ _⟩
  have hsz : W.heap.size = w.heap.size + 1 := by rw [← hW]; exact size_alloc _ _
  have hrow : W.heap[w.heap.size]? = some (.cells (SC k l a false) 25 (0, 0)) := by rw [← hW]; exact heap_at _ _ _ rfl
  have c0 := cell_at hrow (sc_kind k l a false)
  have Hrow := Away.mk hrow
  have Hl := Away.mk hl
  clear hrow hW hl
  go_enter Tryd.func18, Tryd.ntmps18
  go_wp2_with (rw [HW.out])
  refine (HTr.out _).mono ?_
  rintro e w1 ⟨rfl, hb1⟩
  have ca : w1.cell? ⟨w.heap.size, 26, none⟩ = some (.int .i64 a) := cell_at ((hb1.block _ (by omega)).trans Hrow.out) (sc_at k a false Hl.out)
  have co : w1.cell? ⟨w.heap.size, 27, none⟩ = some (.bool false) := cell_at ((hb1.block _ (by omega)).trans Hrow.out) (sc_out k a false Hl.out)
  have HB : Away (Below w.heap.size w w1) := ⟨Hb.out.trans (hb1.mono (by omega))⟩
  clear hb1 c0 HTr
  go_wp2_with fail
  go_ret
  exact ⟨rfl, HB.out⟩

set_option maxRecDepth 100000 in
set_option maxHeartbeats 1000000 in
theorem right_bigt (k a : Int) (o : Bool) (l : List Nat) (r f z : Nat) (w : World) (hl : l.length = 25) (hr168 : r ≤ 168) (HTr : Away (∀ w1 : World, Calls Tryd.prog 33 #[.int .i64 k] w1 fun e w' => e = .returned (.agg #[.int .i64 (r : Int), .int .u8 (f : Int), .int .i64 (z : Int)]) ∧ Below w1.heap.size w1 w')) (hr : 0 < r) (hb : (r : Int) < a) (ho : o = true) :
    Calls Tryd.prog 18 #[.agg (SC k l a o)] w fun e w' => e = .returned (.bool false) ∧ Below w.heap.size w w' := by
  have hfd := field0 (r : Int) (f : Int) (z : Int)
  subst ho
  have h1 : ((r : Int) == 0) = false := beq_eq_false_iff_ne.2 (by omega)
  have ha : 0 ≤ a := by omega
  have h2 : decide (a ≤ (r : Int)) = false := decide_eq_false (by omega)
  obtain ⟨W, hW⟩ : ∃ x, w.alloc (.cells (SC k l a true) 25) = x := ⟨_, rfl⟩
  have HW := Away.mk hW
  have Hb : Away (Below w.heap.size w W) := ⟨by rw [← hW]; exact below_alloc _ _⟩
  have hsz : W.heap.size = w.heap.size + 1 := by rw [← hW]; exact size_alloc _ _
  have hrow : W.heap[w.heap.size]? = some (.cells (SC k l a true) 25 (0, 0)) := by rw [← hW]; exact heap_at _ _ _ rfl
  have c0 := cell_at hrow (sc_kind k l a true)
  have Hrow := Away.mk hrow
  have Hl := Away.mk hl
  clear hrow hW hl
  go_enter Tryd.func18, Tryd.ntmps18
  go_wp2_with (rw [HW.out])
  refine (HTr.out _).mono ?_
  rintro e w1 ⟨rfl, hb1⟩
  have ca : w1.cell? ⟨w.heap.size, 26, none⟩ = some (.int .i64 a) := cell_at ((hb1.block _ (by omega)).trans Hrow.out) (sc_at k a true Hl.out)
  have co : w1.cell? ⟨w.heap.size, 27, none⟩ = some (.bool true) := cell_at ((hb1.block _ (by omega)).trans Hrow.out) (sc_out k a true Hl.out)
  have HB : Away (Below w.heap.size w w1) := ⟨Hb.out.trans (hb1.mono (by omega))⟩
  clear hb1 c0 HTr
  go_wp2_with fail
  go_ret
  exact ⟨rfl, HB.out⟩

set_option maxRecDepth 100000 in
set_option maxHeartbeats 1000000 in
theorem right_bigf (k a : Int) (o : Bool) (l : List Nat) (r f z : Nat) (w : World) (hl : l.length = 25) (hr168 : r ≤ 168) (HTr : Away (∀ w1 : World, Calls Tryd.prog 33 #[.int .i64 k] w1 fun e w' => e = .returned (.agg #[.int .i64 (r : Int), .int .u8 (f : Int), .int .i64 (z : Int)]) ∧ Below w1.heap.size w1 w')) (hr : 0 < r) (hb : (r : Int) ≤ a) (ho : o = false) :
    Calls Tryd.prog 18 #[.agg (SC k l a o)] w fun e w' => e = .returned (.bool false) ∧ Below w.heap.size w w' := by
  have hfd := field0 (r : Int) (f : Int) (z : Int)
  subst ho
  have h1 : ((r : Int) == 0) = false := beq_eq_false_iff_ne.2 (by omega)
  have ha : 0 ≤ a := by omega
  have h2 : decide (a ≤ (r : Int) - 1) = false := decide_eq_false (by omega)
  obtain ⟨W, hW⟩ : ∃ x, w.alloc (.cells (SC k l a false) 25) = x := ⟨_, rfl⟩
  have HW := Away.mk hW
  have Hb : Away (Below w.heap.size w W) := ⟨by rw [← hW]; exact below_alloc _ _⟩
  have hsz : W.heap.size = w.heap.size + 1 := by rw [← hW]; exact size_alloc _ _
  have hrow : W.heap[w.heap.size]? = some (.cells (SC k l a false) 25 (0, 0)) := by rw [← hW]; exact heap_at _ _ _ rfl
  have c0 := cell_at hrow (sc_kind k l a false)
  have Hrow := Away.mk hrow
  have Hl := Away.mk hl
  clear hrow hW hl
  go_enter Tryd.func18, Tryd.ntmps18
  go_wp2_with (rw [HW.out])
  refine (HTr.out _).mono ?_
  rintro e w1 ⟨rfl, hb1⟩
  have ca : w1.cell? ⟨w.heap.size, 26, none⟩ = some (.int .i64 a) := cell_at ((hb1.block _ (by omega)).trans Hrow.out) (sc_at k a false Hl.out)
  have co : w1.cell? ⟨w.heap.size, 27, none⟩ = some (.bool false) := cell_at ((hb1.block _ (by omega)).trans Hrow.out) (sc_out k a false Hl.out)
  have HB : Away (Below w.heap.size w w1) := ⟨Hb.out.trans (hb1.mono (by omega))⟩
  clear hb1 c0 HTr
  go_wp2_with fail
  go_ret
  exact ⟨rfl, HB.out⟩

theorem right_any (k a : Int) (o : Bool) (l : List Nat) (w : World) (hl : l.length = 25) :
    Calls Tryd.prog 18 #[.agg (SC k l a o)] w fun e w' => e = .returned (.bool (ok k a o)) ∧ Below w.heap.size w w' := by
  obtain ⟨r, hr⟩ : ∃ r, rate k = r := ⟨_, rfl⟩
  have hr168 := rate_le k
  obtain ⟨f, z, hTr⟩ := traits_is k r hr
  have HTr := Away.mk hTr
  show Calls Tryd.prog 18 #[.agg (SC k l a o)] w fun e w' => e = .returned (.bool (okr (rate k) a o)) ∧ Below w.heap.size w w'
  rw [hr] at hr168 ⊢
  by_cases h0 : r = 0
  · have e : okr r a o = false := by unfold okr; rw [h0]; rfl
    rw [e]; exact right_z k a o l r f z w hl hr168 HTr h0
  · have h0' : 0 < r := by omega
    cases o with
    | true =>
      by_cases h1 : a < 0
      · have e : okr r a true = false := by unfold okr; rw [decide_eq_false (show ¬ 0 ≤ a by omega)]; simp
        rw [e]; exact right_negt k a true l r f z w hl hr168 HTr h0' h1 rfl
      · by_cases h2 : a ≤ (r : Int)
        · have e : okr r a true = true := by
            unfold okr
            rw [decide_eq_true h0', decide_eq_true (show 0 ≤ a by omega)]
            simp
            omega
          rw [e]; exact right_int k a true l r f z w hl hr168 HTr h0' (by omega) h2 rfl
        · have e : okr r a true = false := by unfold okr; rw [decide_eq_false (show ¬ a < (r : Int) by omega), decide_eq_false (show ¬ a = (r : Int) by omega)]; simp
          rw [e]; exact right_bigt k a true l r f z w hl hr168 HTr h0' (by omega) rfl
    | false =>
      by_cases h1 : a < 0
      · have e : okr r a false = false := by unfold okr; rw [decide_eq_false (show ¬ 0 ≤ a by omega)]; simp
        rw [e]; exact right_negf k a false l r f z w hl hr168 HTr h0' h1 rfl
      · by_cases h2 : a < (r : Int)
        · have e : okr r a false = true := by unfold okr; rw [decide_eq_true h0', decide_eq_true (show 0 ≤ a by omega), decide_eq_true h2]; rfl
          rw [e]; exact right_inf k a false l r f z w hl hr168 HTr h0' (by omega) h2 rfl
        · have e : okr r a false = false := by unfold okr; rw [decide_eq_false h2]; simp
          rw [e]; exact right_bigf k a false l r f z w hl hr168 HTr h0' (by omega) rfl

set_option maxRecDepth 100000 in
set_option maxHeartbeats 2000000 in
theorem new_bad (k : Int) (w : World) (hr : rate k = 0) : Calls Tryd.prog 16 #[.int .i64 k] w fun e w' => e = .returned (.tuple #[.agg (SC 0 Z 0 false), .int .i64 1]) ∧ Below w.heap.size w w' := by
  obtain ⟨r, hre⟩ : ∃ r, rate k = r := ⟨_, rfl⟩
  obtain ⟨f, z, hTr⟩ := traits_is k r hre
  have hr0 := hr
  rw [hre] at hr0
  have HTr := Away.mk hTr
  clear hre hTr hr
  subst hr0
  have HTr : Away (∀ w1 : World, Calls Tryd.prog 33 #[.int .i64 k] w1 fun e w' => e = .returned (.agg #[.int .i64 0, .int .u8 (f : Int), .int .i64 (z : Int)]) ∧ Below w1.heap.size w1 w') := HTr
  have hfd := field0 0 (f : Int) (z : Int)
  obtain ⟨F, HF⟩ := ex_eq (SC 0 Z 0 false)
  have Fi : Away ((Tryd.prog.info? 25).map (·.size) = some F.size) := ⟨by rw [← HF.out]; exact sc_info _ _ _ z_len⟩
  have Fo : Away (F.all (·.oneCell') = true) := ⟨by rw [← HF.out]; exact sc_one _ _ _ _⟩
  have Fb : Away ((#[.int .i64 0, .int .u64 0, .int .u64 0, .int .u64 0, .int .u64 0, .int .u64 0, .int .u64 0, .int .u64 0, .int .u64 0, .int .u64 0, .int .u64 0, .int .u64 0, .int .u64 0, .int .u64 0, .int .u64 0, .int .u64 0, .int .u64 0, .int .u64 0, .int .u64 0, .int .u64 0, .int .u64 0, .int .u64 0, .int .u64 0, .int .u64 0, .int .u64 0, .int .u64 0, .int .i64 0, .bool false] : Array Value) = F) := ⟨by rw [← HF.out]; rfl⟩
  obtain ⟨z0, HZ⟩ := ex_eq (SC 0 Z 0 false)
  have Fz : Away (z0.size = F.size) := ⟨by rw [← HF.out, ← HZ.out]; all_goals exact (sc_size _ _ _ z_len).trans (sc_size _ _ _ z_len).symm⟩
  have Hz0 : Away ((#[.int .i64 0, .int .u64 0, .int .u64 0, .int .u64 0, .int .u64 0, .int .u64 0, .int .u64 0, .int .u64 0, .int .u64 0, .int .u64 0, .int .u64 0, .int .u64 0, .int .u64 0, .int .u64 0, .int .u64 0, .int .u64 0, .int .u64 0, .int .u64 0, .int .u64 0, .int .u64 0, .int .u64 0, .int .u64 0, .int .u64 0, .int .u64 0, .int .u64 0, .int .u64 0, .int .i64 0, .bool false] : Array Value) = z0) := ⟨by rw [← HZ.out]; rfl⟩
  rw [HF.out]
  obtain ⟨W, hW⟩ : ∃ x, w.alloc (.cells z0 25) = x := ⟨_, rfl⟩
  have HW := Away.mk hW
  have Hb : Away (Below w.heap.size w W) := ⟨by rw [← hW]; exact below_alloc _ _⟩
  have hsz : W.heap.size = w.heap.size + 1 := by rw [← hW]; exact size_alloc _ _
  have Hrow : Away (W.heap[w.heap.size]? = some (.cells z0 25 (0, 0))) := ⟨by rw [← hW]; exact heap_at _ _ _ rfl⟩
  clear hW
  go_enter Tryd.func16, Tryd.ntmps16
  go_wp2_with (rw [Hz0.out, HW.out])
  refine (HTr.out _).mono ?_
  rintro e w1 ⟨rfl, hb1⟩
  have Hres : Away (w1.heap[w.heap.size]? = some (.cells z0 25 (0, 0))) := ⟨(hb1.block _ (by omega)).trans Hrow.out⟩
  have HB : Away (Below w.heap.size w w1) := ⟨Hb.out.trans (hb1.mono (by omega))⟩
  clear hb1 HTr
  go_wp2_with (first
    | ((with_reducible refine wpList_buildC rfl _ _ rfl #[.int .i64 0, .int .u64 0, .int .u64 0, .int .u64 0, .int .u64 0, .int .u64 0, .int .u64 0, .int .u64 0, .int .u64 0, .int .u64 0, .int .u64 0, .int .u64 0, .int .u64 0, .int .u64 0, .int .u64 0, .int .u64 0, .int .u64 0, .int .u64 0, .int .u64 0, .int .u64 0, .int .u64 0, .int .u64 0, .int .u64 0, .int .u64 0, .int .u64 0, .int .u64 0, .int .i64 0, .bool false] ?hC ?_); (case hC => kernel_rfl); rw [Fb.out])
    | (refine wpList_store_row rfl 25 _ _ rfl w.heap.size F rfl rfl 25 _ Hres.out Fi.out Fz.out Fo.out ?_))
  refine bodyPost_ret_by (v := .tuple #[.agg F, .int .i64 1]) (rspc.results_cell_tmp rfl _ _ w.heap.size 25 _ (0, 0) _ rfl (setRow_heap _ _ _ _ _ _ Hres.out) Tryd.underlying25 rfl Fi.out _ rfl) rfl ?_
  exact ⟨rfl, HB.out.trans (below_setRow _ _ _ (Nat.le_refl _))⟩

set_option maxRecDepth 100000 in
set_option maxHeartbeats 2000000 in
theorem new_good (k : Int) (w : World) (hr : 0 < rate k) : Calls Tryd.prog 16 #[.int .i64 k] w fun e w' => e = .returned (.tuple #[.agg (SC k Z 0 false), .int .i64 0]) ∧ Below w.heap.size w w' := by
  obtain ⟨r, hre⟩ : ∃ r, rate k = r := ⟨_, rfl⟩
  obtain ⟨f, z, hTr⟩ := traits_is k r hre
  have hr0 := hr
  rw [hre] at hr0
  have HTr := Away.mk hTr
  clear hre hTr hr
  have h1 : ((r : Int) == 0) = false := beq_eq_false_iff_ne.2 (by omega)
  clear hr0
  have hfd := field0 (r : Int) (f : Int) (z : Int)
  obtain ⟨F, HF⟩ := ex_eq (SC k Z 0 false)
  have Fi : Away ((Tryd.prog.info? 25).map (·.size) = some F.size) := ⟨by rw [← HF.out]; exact sc_info _ _ _ z_len⟩
  have Fo : Away (F.all (·.oneCell') = true) := ⟨by rw [← HF.out]; exact sc_one _ _ _ _⟩
  have Fb : Away ((#[.int .i64 k, .int .u64 0, .int .u64 0, .int .u64 0, .int .u64 0, .int .u64 0, .int .u64 0, .int .u64 0, .int .u64 0, .int .u64 0, .int .u64 0, .int .u64 0, .int .u64 0, .int .u64 0, .int .u64 0, .int .u64 0, .int .u64 0, .int .u64 0, .int .u64 0, .int .u64 0, .int .u64 0, .int .u64 0, .int .u64 0, .int .u64 0, .int .u64 0, .int .u64 0, .int .i64 0, .bool false] : Array Value) = F) := ⟨by rw [← HF.out]; rfl⟩
  obtain ⟨z0, HZ⟩ := ex_eq (SC 0 Z 0 false)
  have Fz : Away (z0.size = F.size) := ⟨by rw [← HF.out, ← HZ.out]; all_goals exact (sc_size _ _ _ z_len).trans (sc_size _ _ _ z_len).symm⟩
  have Hz0 : Away ((#[.int .i64 0, .int .u64 0, .int .u64 0, .int .u64 0, .int .u64 0, .int .u64 0, .int .u64 0, .int .u64 0, .int .u64 0, .int .u64 0, .int .u64 0, .int .u64 0, .int .u64 0, .int .u64 0, .int .u64 0, .int .u64 0, .int .u64 0, .int .u64 0, .int .u64 0, .int .u64 0, .int .u64 0, .int .u64 0, .int .u64 0, .int .u64 0, .int .u64 0, .int .u64 0, .int .i64 0, .bool false] : Array Value) = z0) := ⟨by rw [← HZ.out]; rfl⟩
  rw [HF.out]
  obtain ⟨W, hW⟩ : ∃ x, w.alloc (.cells z0 25) = x := ⟨_, rfl⟩
  have HW := Away.mk hW
  have Hb : Away (Below w.heap.size w W) := ⟨by rw [← hW]; exact below_alloc _ _⟩
  have hsz : W.heap.size = w.heap.size + 1 := by rw [← hW]; exact size_alloc _ _
  have Hrow : Away (W.heap[w.heap.size]? = some (.cells z0 25 (0, 0))) := ⟨by rw [← hW]; exact heap_at _ _ _ rfl⟩
  clear hW
  go_enter Tryd.func16, Tryd.ntmps16
  go_wp2_with (rw [Hz0.out, HW.out])
  refine (HTr.out _).mono ?_
  rintro e w1 ⟨rfl, hb1⟩
  have Hres : Away (w1.heap[w.heap.size]? = some (.cells z0 25 (0, 0))) := ⟨(hb1.block _ (by omega)).trans Hrow.out⟩
  have HB : Away (Below w.heap.size w w1) := ⟨Hb.out.trans (hb1.mono (by omega))⟩
  clear hb1 HTr
  go_wp2_with (first
    | ((with_reducible refine wpList_buildC rfl _ _ rfl #[.int .i64 k, .int .u64 0, .int .u64 0, .int .u64 0, .int .u64 0, .int .u64 0, .int .u64 0, .int .u64 0, .int .u64 0, .int .u64 0, .int .u64 0, .int .u64 0, .int .u64 0, .int .u64 0, .int .u64 0, .int .u64 0, .int .u64 0, .int .u64 0, .int .u64 0, .int .u64 0, .int .u64 0, .int .u64 0, .int .u64 0, .int .u64 0, .int .u64 0, .int .u64 0, .int .i64 0, .bool false] ?hC ?_); (case hC => kernel_rfl); rw [Fb.out])
    | (refine wpList_store_row rfl 25 _ _ rfl w.heap.size F rfl rfl 25 _ Hres.out Fi.out Fz.out Fo.out ?_))
  refine bodyPost_ret_by (v := .tuple #[.agg F, .int .i64 0]) (rspc.results_cell_tmp rfl _ _ w.heap.size 25 _ (0, 0) _ rfl (setRow_heap _ _ _ _ _ _ Hres.out) Tryd.underlying25 rfl Fi.out _ rfl) rfl ?_
  exact ⟨rfl, HB.out.trans (below_setRow _ _ _ (Nat.le_refl _))⟩

end Go.Proofs.YtpibnfpgokjnpaaDoor.spoi

namespace Go.Proofs.YtpibnfpgokjnpaaDoor.spoj
open Go Go.RowKit
open Go.Proofs.YtpibnfpgokjnpaaDoor.arr Go.Proofs.YtpibnfpgokjnpaaDoor.mem Go.Proofs.YtpibnfpgokjnpaaDoor.kecm Go.Proofs.YtpibnfpgokjnpaaDoor.kecb Go.Proofs.YtpibnfpgokjnpaaDoor.kstep Go.Proofs.YtpibnfpgokjnpaaDoor.kturn Go.Proofs.YtpibnfpgokjnpaaDoor.kfun Go.Proofs.YtpibnfpgokjnpaaDoor.spgm Go.Proofs.YtpibnfpgokjnpaaDoor.spmx Go.Proofs.YtpibnfpgokjnpaaDoor.rspa Go.Proofs.YtpibnfpgokjnpaaDoor.rspb Go.Proofs.YtpibnfpgokjnpaaDoor.rspc Go.Proofs.YtpibnfpgokjnpaaDoor.rspd Go.Proofs.YtpibnfpgokjnpaaDoor.rspe Go.Proofs.YtpibnfpgokjnpaaDoor.spoa Go.Proofs.YtpibnfpgokjnpaaDoor.spob Go.Proofs.YtpibnfpgokjnpaaDoor.spoe Go.Proofs.YtpibnfpgokjnpaaDoor.spof Go.Proofs.YtpibnfpgokjnpaaDoor.spog Go.Proofs.YtpibnfpgokjnpaaDoor.spoh Go.Proofs.YtpibnfpgokjnpaaDoor.spoi

theorem ok_le (k : Int) (a : Nat) (h : ok k (a : Int) true = true) : a ≤ rate k ∧ 0 < rate k := by
  unfold ok at h
  generalize rate k = r at h
  simp at h
  omega
set_option maxRecDepth 100000 in
set_option maxHeartbeats 2000000 in
theorem absorb_bad {T : Array Value} {ts rs : List Nat} (k a : Int) (o : Bool) (l : List Nat) (b : ByteArray) (w : World) (h : St l) (hK : KT T ts rs) (hok : ok k a o = false) :
    Calls Tryd.prog 8 #[.agg T, .agg (SC k l a o), .string b] w fun e w' => e = .returned (.tuple #[.agg (SC k l a o), .int .i64 1]) ∧ Below w.heap.size w w' := by
  have Hrt : Away (∀ w1 : World, Calls Tryd.prog 18 #[.agg (SC k l a o)] w1 fun e w' => e = .returned (.bool false) ∧ Below w1.heap.size w1 w') := ⟨fun w1 => by have h9 := spoi.right_any k a o l w1 h.len; rw [hok] at h9; exact h9⟩
  have H := Away.mk h
  have HK := Away.mk hK
  obtain ⟨z, HZ⟩ := ex_eq Z
  have HZl : Away (z.length = 25) := ⟨by rw [← HZ.out]; rfl⟩
  have Hz : Away ((#[.int .i64 0, .int .u64 0, .int .u64 0, .int .u64 0, .int .u64 0, .int .u64 0, .int .u64 0, .int .u64 0, .int .u64 0, .int .u64 0, .int .u64 0, .int .u64 0, .int .u64 0, .int .u64 0, .int .u64 0, .int .u64 0, .int .u64 0, .int .u64 0, .int .u64 0, .int .u64 0, .int .u64 0, .int .u64 0, .int .u64 0, .int .u64 0, .int .u64 0, .int .u64 0, .int .i64 0, .bool false] : Array Value) = SC 0 z 0 false) := ⟨by rw [← HZ.out]; exact zs_is⟩
  clear h hK HZ
  go_enter Tryd.func8, Tryd.ntmps8
  obtain ⟨W, hW⟩ : ∃ x, ((w.alloc (.cells T 36)).alloc (.cells (SC k l a o) 25)).alloc (.cells (SC 0 z 0 false) 25) = x := ⟨_, rfl⟩
  obtain ⟨b0, b1, b2, hWs, hWb⟩ := three hW
  have B0 := Away.mk b0
  have B1 := Away.mk b1
  have B2 := Away.mk b2
  have HWs := Away.mk hWs
  have HWb := Away.mk hWb
  have HW := Away.mk hW
  have Si := Away.mk (sc_info k a o H.out.len)
  have So := Away.mk (sc_one k l a o)
  have Sz := Away.mk (sc_same k 0 a 0 o false H.out.len HZl.out)
  obtain ⟨S, HS⟩ := ex_eq (SC k l a o)
  rw [HS.out] at B1 Si So Sz HW Hrt
  clear hWs hWb hW b0 b1 b2
  rw [HS.out]
  go_wp2_with (first
    | (rw [Hz.out, HW.out])
    | (refine wpList_load_row rfl 25 _ rfl (w.heap.size + 1) rfl 25 S (0, 0) _ B1.out Tryd.underlying25 rfl Si.out ?_))
  refine (Hrt.out _).mono ?_
  rintro e w1 ⟨rfl, hb1⟩
  have B1' : Away (w1.heap[w.heap.size + 1]? = some (.cells S 25 (0, 0))) := ⟨(hb1.block _ (by have := HWs.out; omega)).trans B1.out⟩
  have B2' : Away (w1.heap[w.heap.size + 2]? = some (.cells (SC 0 z 0 false) 25 (0, 0))) := ⟨(hb1.block _ (by have := HWs.out; omega)).trans B2.out⟩
  have Hb1 : Away (Below w.heap.size w w1) := ⟨HWb.out.trans (hb1.mono (by have := HWs.out; omega))⟩
  clear hb1
  go_wp2_with (first
    | (refine wpList_load_row rfl 25 _ rfl (w.heap.size + 1) rfl 25 S (0, 0) _ B1'.out Tryd.underlying25 rfl Si.out ?_)
    | (refine wpList_store_row rfl 25 _ _ rfl (w.heap.size + 2) S rfl rfl 25 _ B2'.out Si.out Sz.out.symm So.out ?_))
  refine bodyPost_ret_by (v := .tuple #[.agg S, .int .i64 1]) (rspc.results_cell_tmp rfl _ _ (w.heap.size + 2) 25 _ (0, 0) _ rfl (setRow_heap _ _ _ _ _ _ B2'.out) Tryd.underlying25 rfl Si.out _ rfl) rfl ?_
  exact ⟨rfl, Hb1.out.trans (below_setRow _ _ _ (by omega))⟩

set_option maxRecDepth 100000 in
set_option maxHeartbeats 2000000 in
theorem absorb_out {T : Array Value} {ts rs : List Nat} (k a : Int) (l : List Nat) (b : ByteArray) (w : World) (h : St l) (hK : KT T ts rs) (hok : ok k a true = true) :
    Calls Tryd.prog 8 #[.agg T, .agg (SC k l a true), .string b] w fun e w' => e = .returned (.tuple #[.agg (SC k l a true), .int .i64 16]) ∧ Below w.heap.size w w' := by
  have Hrt : Away (∀ w1 : World, Calls Tryd.prog 18 #[.agg (SC k l a true)] w1 fun e w' => e = .returned (.bool true) ∧ Below w1.heap.size w1 w') := ⟨fun w1 => by have h9 := spoi.right_any k a true l w1 h.len; rw [hok] at h9; exact h9⟩
  have H := Away.mk h
  have HK := Away.mk hK
  obtain ⟨z, HZ⟩ := ex_eq Z
  have HZl : Away (z.length = 25) := ⟨by rw [← HZ.out]; rfl⟩
  have Hz : Away ((#[.int .i64 0, .int .u64 0, .int .u64 0, .int .u64 0, .int .u64 0, .int .u64 0, .int .u64 0, .int .u64 0, .int .u64 0, .int .u64 0, .int .u64 0, .int .u64 0, .int .u64 0, .int .u64 0, .int .u64 0, .int .u64 0, .int .u64 0, .int .u64 0, .int .u64 0, .int .u64 0, .int .u64 0, .int .u64 0, .int .u64 0, .int .u64 0, .int .u64 0, .int .u64 0, .int .i64 0, .bool false] : Array Value) = SC 0 z 0 false) := ⟨by rw [← HZ.out]; exact zs_is⟩
  clear h hK HZ
  go_enter Tryd.func8, Tryd.ntmps8
  obtain ⟨W, hW⟩ : ∃ x, ((w.alloc (.cells T 36)).alloc (.cells (SC k l a true) 25)).alloc (.cells (SC 0 z 0 false) 25) = x := ⟨_, rfl⟩
  obtain ⟨b0, b1, b2, hWs, hWb⟩ := three hW
  have B0 := Away.mk b0
  have B1 := Away.mk b1
  have B2 := Away.mk b2
  have HWs := Away.mk hWs
  have HWb := Away.mk hWb
  have HW := Away.mk hW
  have Si := Away.mk (sc_info k a true H.out.len)
  have So := Away.mk (sc_one k l a true)
  have Sz := Away.mk (sc_same k 0 a 0 true false H.out.len HZl.out)
  obtain ⟨S, HS⟩ := ex_eq (SC k l a true)
  rw [HS.out] at B1 Si So Sz HW Hrt
  clear hWs hWb hW b0 b1 b2
  rw [HS.out]
  go_wp2_with (first
    | (rw [Hz.out, HW.out])
    | (refine wpList_load_row rfl 25 _ rfl (w.heap.size + 1) rfl 25 S (0, 0) _ B1.out Tryd.underlying25 rfl Si.out ?_))
  refine (Hrt.out _).mono ?_
  rintro e w1 ⟨rfl, hb1⟩
  have B1' : Away (w1.heap[w.heap.size + 1]? = some (.cells S 25 (0, 0))) := ⟨(hb1.block _ (by have := HWs.out; omega)).trans B1.out⟩
  have B2' : Away (w1.heap[w.heap.size + 2]? = some (.cells (SC 0 z 0 false) 25 (0, 0))) := ⟨(hb1.block _ (by have := HWs.out; omega)).trans B2.out⟩
  have Hb1 : Away (Below w.heap.size w w1) := ⟨HWb.out.trans (hb1.mono (by have := HWs.out; omega))⟩
  have c3 : w1.cell? ⟨w.heap.size + 1, 27, none⟩ = some (.bool true) := cell_at B1'.out (by rw [← HS.out]; exact sc_out k a true H.out.len)
  clear hb1
  go_wp2_with (first
    | (refine wpList_load_row rfl 25 _ rfl (w.heap.size + 1) rfl 25 S (0, 0) _ B1'.out Tryd.underlying25 rfl Si.out ?_)
    | (refine wpList_store_row rfl 25 _ _ rfl (w.heap.size + 2) S rfl rfl 25 _ B2'.out Si.out Sz.out.symm So.out ?_))
  refine bodyPost_ret_by (v := .tuple #[.agg S, .int .i64 16]) (rspc.results_cell_tmp rfl _ _ (w.heap.size + 2) 25 _ (0, 0) _ rfl (setRow_heap _ _ _ _ _ _ B2'.out) Tryd.underlying25 rfl Si.out _ rfl) rfl ?_
  exact ⟨rfl, Hb1.out.trans (below_setRow _ _ _ (by omega))⟩

set_option maxRecDepth 100000 in
set_option maxHeartbeats 2000000 in
theorem absorb_go {T : Array Value} {ts rs : List Nat} (k : Int) (a : Nat) (l : List Nat) (b : ByteArray) (w : World) (h : St l) (hK : KT T ts rs) (hP : Gp w) (hok : ok k (a : Int) false = true) (hb : b.size ≤ 1125899906842624) :
    Calls Tryd.prog 8 #[.agg T, .agg (SC k l (a : Int) false), .string b] w fun e w' => e = .returned (.tuple #[.agg (SC k (abs (PP ts rs) (rate k) ⟨l, a⟩ (bys b)).l ((abs (PP ts rs) (rate k) ⟨l, a⟩ (bys b)).at' : Nat) false), .int .i64 0]) ∧ Below w.heap.size w w' := by
  have Hrt : Away (∀ w1 : World, Calls Tryd.prog 18 #[.agg (SC k l (a : Int) false)] w1 fun e w' => e = .returned (.bool true) ∧ Below w1.heap.size w1 w') := ⟨fun w1 => by have h9 := spoi.right_any k (a : Int) false l w1 h.len; rw [hok] at h9; exact h9⟩
  have hra := ok_lt k a hok
  clear hok
  have H := Away.mk h
  have HK := Away.mk hK
  obtain ⟨z, HZ⟩ := ex_eq Z
  have HZl : Away (z.length = 25) := ⟨by rw [← HZ.out]; rfl⟩
  have Hz : Away ((#[.int .i64 0, .int .u64 0, .int .u64 0, .int .u64 0, .int .u64 0, .int .u64 0, .int .u64 0, .int .u64 0, .int .u64 0, .int .u64 0, .int .u64 0, .int .u64 0, .int .u64 0, .int .u64 0, .int .u64 0, .int .u64 0, .int .u64 0, .int .u64 0, .int .u64 0, .int .u64 0, .int .u64 0, .int .u64 0, .int .u64 0, .int .u64 0, .int .u64 0, .int .u64 0, .int .i64 0, .bool false] : Array Value) = SC 0 z 0 false) := ⟨by rw [← HZ.out]; exact zs_is⟩
  clear h hK HZ
  have HP := Away.mk hP
  have hgl := gp_lt hP
  clear hP
  obtain ⟨E, HE⟩ := ex_eq (abs (PP ts rs) (rate k) ⟨l, a⟩ (bys b))
  have HEs : Away (St E.l) := ⟨by rw [← HE.out]; exact (abs_ok (fun _ h => pp_st HK.out.br h) _ H.out hra).1⟩
  have HC : Away (∀ (gt gs : Nat) (w1 : World), Gp w1 → w1.heap[gt]? = some (.cells T 36 (0, 0)) → gt ≠ gs → gs ≠ 0 → w1.heap[gs]? = some (.cells (SC k l (a : Int) false) 25 (0, 0)) → Calls Tryd.prog 27 #[.pointer (some ⟨gt, 0, none⟩), .pointer (some ⟨gs, 0, none⟩), .string b] w1 fun e w' => e = .returned (.tuple #[]) ∧ At gs (SC k E.l (E.at' : Int) false) 25 w1 w') :=
    ⟨fun gt gs w1 hP hT hne hgp hrow => by rw [← HE.out]; exact spoe.absorb_any gt gs k a l b w1 H.out HK.out hP hT hne hgp hra hb hrow⟩
  rw [HE.out]
  clear hra HE
  go_enter Tryd.func8, Tryd.ntmps8
  obtain ⟨W, hW⟩ : ∃ x, ((w.alloc (.cells T 36)).alloc (.cells (SC k l (a : Int) false) 25)).alloc (.cells (SC 0 z 0 false) 25) = x := ⟨_, rfl⟩
  obtain ⟨b0, b1, b2, hWs, hWb⟩ := three hW
  have B0 := Away.mk b0
  have B1 := Away.mk b1
  have B2 := Away.mk b2
  have HWs := Away.mk hWs
  have HWb := Away.mk hWb
  have HW := Away.mk hW
  have Si := Away.mk (sc_info k (a : Int) false H.out.len)
  have So := Away.mk (sc_one k l (a : Int) false)
  have Sz := Away.mk (sc_same k 0 (a : Int) 0 false false H.out.len HZl.out)
  obtain ⟨S, HS⟩ := ex_eq (SC k l (a : Int) false)
  rw [HS.out] at B1 Si So Sz HW Hrt
  clear hWs hWb hW b0 b1 b2
  rw [HS.out]
  go_wp2_with (first
    | (rw [Hz.out, HW.out])
    | (refine wpList_load_row rfl 25 _ rfl (w.heap.size + 1) rfl 25 S (0, 0) _ B1.out Tryd.underlying25 rfl Si.out ?_))
  refine (Hrt.out _).mono ?_
  rintro e w1 ⟨rfl, hb1⟩
  have B1' : Away (w1.heap[w.heap.size + 1]? = some (.cells S 25 (0, 0))) := ⟨(hb1.block _ (by have := HWs.out; omega)).trans B1.out⟩
  have B2' : Away (w1.heap[w.heap.size + 2]? = some (.cells (SC 0 z 0 false) 25 (0, 0))) := ⟨(hb1.block _ (by have := HWs.out; omega)).trans B2.out⟩
  have Hb1 : Away (Below w.heap.size w w1) := ⟨HWb.out.trans (hb1.mono (by have := HWs.out; omega))⟩
  have c3 : w1.cell? ⟨w.heap.size + 1, 27, none⟩ = some (.bool false) := cell_at B1'.out (by rw [← HS.out]; exact sc_out k (a : Int) false H.out.len)
  have B0' : w1.heap[w.heap.size]? = some (.cells T 36 (0, 0)) := (hb1.block _ (by have := HWs.out; omega)).trans B0.out
  have HC1 := Away.mk (HC.out w.heap.size (w.heap.size + 1) w1 (HP.out.later Hb1.out) B0' (by omega) (by omega) (by rw [HS.out]; exact B1'.out))
  have hs1 : w.heap.size + 2 < w1.heap.size := lt_of_row B2'.out
  clear hb1 B0' HC
  go_wp2_with fail
  refine HC1.out.mono ?_
  rintro e w2 ⟨rfl, h2⟩
  obtain ⟨F, HF⟩ := ex_eq (SC k E.l (E.at' : Int) false)
  have Fi : Away ((Tryd.prog.info? 25).map (·.size) = some F.size) := ⟨by rw [← HF.out]; exact sc_info k _ _ HEs.out.len⟩
  have Fo : Away (F.all (·.oneCell') = true) := ⟨by rw [← HF.out]; exact sc_one k E.l _ _⟩
  have Fz : Away ((SC 0 z 0 false).size = F.size) := ⟨by rw [← HF.out]; exact sc_same _ _ _ _ _ _ HZl.out HEs.out.len⟩
  rw [HF.out] at h2
  have Hrow := Away.mk h2.row
  have Hres : Away (w2.heap[w.heap.size + 2]? = some (.cells (SC 0 z 0 false) 25 (0, 0))) := ⟨h2.other hs1 (by omega) B2'.out⟩
  have Hb5 : Away (Below w.heap.size w w2) := ⟨Hb1.out.trans (h2.below (by omega) (by omega))⟩
  clear h2 c3 HC1
  go_wp2_with (first
    | (refine wpList_load_row rfl 25 _ rfl (w.heap.size + 1) rfl 25 F (0, 0) _ Hrow.out Tryd.underlying25 rfl Fi.out ?_)
    | (refine wpList_store_row rfl 25 _ _ rfl (w.heap.size + 2) F rfl rfl 25 _ Hres.out Fi.out Fz.out Fo.out ?_))
  refine bodyPost_ret_by (v := .tuple #[.agg F, .int .i64 0]) (rspc.results_cell_tmp rfl _ _ (w.heap.size + 2) 25 _ (0, 0) _ rfl (setRow_heap _ _ _ _ _ _ Hres.out) Tryd.underlying25 rfl Fi.out _ rfl) rfl ?_
  exact ⟨by rw [← HF.out], Hb5.out.trans (below_setRow _ _ _ (by omega))⟩

set_option maxRecDepth 100000 in
set_option maxHeartbeats 2000000 in
theorem squeeze_bad {T : Array Value} {ts rs : List Nat} (k a : Int) (o : Bool) (l : List Nat) (n : Int) (w : World) (h : St l) (hK : KT T ts rs) (hok : ok k a o = false) :
    Calls Tryd.prog 10 #[.agg T, .agg (SC k l a o), .int .i64 n] w fun e w' => e = .returned (.tuple #[.agg (SC k l a o), .string ⟨#[]⟩, .int .i64 1]) ∧ Below w.heap.size w w' := by
  have Hrt : Away (∀ w1 : World, Calls Tryd.prog 18 #[.agg (SC k l a o)] w1 fun e w' => e = .returned (.bool false) ∧ Below w1.heap.size w1 w') := ⟨fun w1 => by have h9 := spoi.right_any k a o l w1 h.len; rw [hok] at h9; exact h9⟩
  have H := Away.mk h
  have HK := Away.mk hK
  obtain ⟨z, HZ⟩ := ex_eq Z
  have HZl : Away (z.length = 25) := ⟨by rw [← HZ.out]; rfl⟩
  have Hz : Away ((#[.int .i64 0, .int .u64 0, .int .u64 0, .int .u64 0, .int .u64 0, .int .u64 0, .int .u64 0, .int .u64 0, .int .u64 0, .int .u64 0, .int .u64 0, .int .u64 0, .int .u64 0, .int .u64 0, .int .u64 0, .int .u64 0, .int .u64 0, .int .u64 0, .int .u64 0, .int .u64 0, .int .u64 0, .int .u64 0, .int .u64 0, .int .u64 0, .int .u64 0, .int .u64 0, .int .i64 0, .bool false] : Array Value) = SC 0 z 0 false) := ⟨by rw [← HZ.out]; exact zs_is⟩
  clear h hK HZ
  go_enter Tryd.func10, Tryd.ntmps10
  obtain ⟨W, hW⟩ : ∃ x, ((w.alloc (.cells T 36)).alloc (.cells (SC k l a o) 25)).alloc (.cells (SC 0 z 0 false) 25) = x := ⟨_, rfl⟩
  obtain ⟨b0, b1, b2, hWs, hWb⟩ := three hW
  have B0 := Away.mk b0
  have B1 := Away.mk b1
  have B2 := Away.mk b2
  have HWs := Away.mk hWs
  have HWb := Away.mk hWb
  have HW := Away.mk hW
  have Si := Away.mk (sc_info k a o H.out.len)
  have So := Away.mk (sc_one k l a o)
  have Sz := Away.mk (sc_same k 0 a 0 o false H.out.len HZl.out)
  obtain ⟨S, HS⟩ := ex_eq (SC k l a o)
  rw [HS.out] at B1 Si So Sz HW Hrt
  clear hWs hWb hW b0 b1 b2
  rw [HS.out]
  go_wp2_with (first
    | (rw [Hz.out, HW.out])
    | (refine wpList_load_row rfl 25 _ rfl (w.heap.size + 1) rfl 25 S (0, 0) _ B1.out Tryd.underlying25 rfl Si.out ?_))
  refine (Hrt.out _).mono ?_
  rintro e w1 ⟨rfl, hb1⟩
  have B1' : Away (w1.heap[w.heap.size + 1]? = some (.cells S 25 (0, 0))) := ⟨(hb1.block _ (by have := HWs.out; omega)).trans B1.out⟩
  have B2' : Away (w1.heap[w.heap.size + 2]? = some (.cells (SC 0 z 0 false) 25 (0, 0))) := ⟨(hb1.block _ (by have := HWs.out; omega)).trans B2.out⟩
  have Hb1 : Away (Below w.heap.size w w1) := ⟨HWb.out.trans (hb1.mono (by have := HWs.out; omega))⟩
  clear hb1
  go_wp2_with (first
    | (refine wpList_load_row rfl 25 _ rfl (w.heap.size + 1) rfl 25 S (0, 0) _ B1'.out Tryd.underlying25 rfl Si.out ?_)
    | (refine wpList_store_row rfl 25 _ _ rfl (w.heap.size + 2) S rfl rfl 25 _ B2'.out Si.out Sz.out.symm So.out ?_))
  refine bodyPost_ret_by (v := .tuple #[.agg S, .string ⟨#[]⟩, .int .i64 1]) (rspc.results_cell_tmp2 rfl _ _ (w.heap.size + 2) 25 _ (0, 0) _ rfl (setRow_heap _ _ _ _ _ _ B2'.out) Tryd.underlying25 rfl Si.out _ _ rfl rfl) rfl ?_
  exact ⟨rfl, Hb1.out.trans (below_setRow _ _ _ (by omega))⟩

set_option maxRecDepth 100000 in
set_option maxHeartbeats 2000000 in
theorem squeeze_far {T : Array Value} {ts rs : List Nat} (k a : Int) (o : Bool) (l : List Nat) (n : Int) (w : World) (h : St l) (hK : KT T ts rs) (hok : ok k a o = true) (hn : n < 0 ∨ 50000 < n) :
    Calls Tryd.prog 10 #[.agg T, .agg (SC k l a o), .int .i64 n] w fun e w' => e = .returned (.tuple #[.agg (SC k l a o), .string ⟨#[]⟩, .int .i64 1]) ∧ Below w.heap.size w w' := by
  have Hrt : Away (∀ w1 : World, Calls Tryd.prog 18 #[.agg (SC k l a o)] w1 fun e w' => e = .returned (.bool true) ∧ Below w1.heap.size w1 w') := ⟨fun w1 => by have h9 := spoi.right_any k a o l w1 h.len; rw [hok] at h9; exact h9⟩
  have HF : Away (∀ w1 : World, Calls Tryd.prog 30 #[.int .i64 n] w1 fun e w' => e = .returned (.bool false) ∧ w' = w1) := ⟨fun w1 => by have h9 := fits_any n w1; rw [decide_eq_false (by omega)] at h9; exact h9⟩
  have H := Away.mk h
  have HK := Away.mk hK
  obtain ⟨z, HZ⟩ := ex_eq Z
  have HZl : Away (z.length = 25) := ⟨by rw [← HZ.out]; rfl⟩
  have Hz : Away ((#[.int .i64 0, .int .u64 0, .int .u64 0, .int .u64 0, .int .u64 0, .int .u64 0, .int .u64 0, .int .u64 0, .int .u64 0, .int .u64 0, .int .u64 0, .int .u64 0, .int .u64 0, .int .u64 0, .int .u64 0, .int .u64 0, .int .u64 0, .int .u64 0, .int .u64 0, .int .u64 0, .int .u64 0, .int .u64 0, .int .u64 0, .int .u64 0, .int .u64 0, .int .u64 0, .int .i64 0, .bool false] : Array Value) = SC 0 z 0 false) := ⟨by rw [← HZ.out]; exact zs_is⟩
  clear h hK HZ
  go_enter Tryd.func10, Tryd.ntmps10
  obtain ⟨W, hW⟩ : ∃ x, ((w.alloc (.cells T 36)).alloc (.cells (SC k l a o) 25)).alloc (.cells (SC 0 z 0 false) 25) = x := ⟨_, rfl⟩
  obtain ⟨b0, b1, b2, hWs, hWb⟩ := three hW
  have B0 := Away.mk b0
  have B1 := Away.mk b1
  have B2 := Away.mk b2
  have HWs := Away.mk hWs
  have HWb := Away.mk hWb
  have HW := Away.mk hW
  have Si := Away.mk (sc_info k a o H.out.len)
  have So := Away.mk (sc_one k l a o)
  have Sz := Away.mk (sc_same k 0 a 0 o false H.out.len HZl.out)
  obtain ⟨S, HS⟩ := ex_eq (SC k l a o)
  rw [HS.out] at B1 Si So Sz HW Hrt
  clear hWs hWb hW b0 b1 b2
  rw [HS.out]
  go_wp2_with (first
    | (rw [Hz.out, HW.out])
    | (refine wpList_load_row rfl 25 _ rfl (w.heap.size + 1) rfl 25 S (0, 0) _ B1.out Tryd.underlying25 rfl Si.out ?_))
  refine (Hrt.out _).mono ?_
  rintro e w1 ⟨rfl, hb1⟩
  have B1' : Away (w1.heap[w.heap.size + 1]? = some (.cells S 25 (0, 0))) := ⟨(hb1.block _ (by have := HWs.out; omega)).trans B1.out⟩
  have B2' : Away (w1.heap[w.heap.size + 2]? = some (.cells (SC 0 z 0 false) 25 (0, 0))) := ⟨(hb1.block _ (by have := HWs.out; omega)).trans B2.out⟩
  have Hb1 : Away (Below w.heap.size w w1) := ⟨HWb.out.trans (hb1.mono (by have := HWs.out; omega))⟩
  clear hb1
  go_wp2_with fail
  refine (HF.out _).mono ?_
  rintro e w2 ⟨rfl, rfl⟩
  go_wp2_with (first
    | (refine wpList_load_row rfl 25 _ rfl (w.heap.size + 1) rfl 25 S (0, 0) _ B1'.out Tryd.underlying25 rfl Si.out ?_)
    | (refine wpList_store_row rfl 25 _ _ rfl (w.heap.size + 2) S rfl rfl 25 _ B2'.out Si.out Sz.out.symm So.out ?_))
  refine bodyPost_ret_by (v := .tuple #[.agg S, .string ⟨#[]⟩, .int .i64 1]) (rspc.results_cell_tmp2 rfl _ _ (w.heap.size + 2) 25 _ (0, 0) _ rfl (setRow_heap _ _ _ _ _ _ B2'.out) Tryd.underlying25 rfl Si.out _ _ rfl rfl) rfl ?_
  exact ⟨rfl, Hb1.out.trans (below_setRow _ _ _ (by omega))⟩

set_option maxRecDepth 100000 in
set_option maxHeartbeats 2000000 in
theorem squeeze_go {T : Array Value} {ts rs : List Nat} (k : Int) (a n : Nat) (l : List Nat) (w : World) (h : St l) (hK : KT T ts rs) (hP : Gp w) (hok : ok k (a : Int) true = true) (hn : n ≤ 50000) :
    Calls Tryd.prog 10 #[.agg T, .agg (SC k l (a : Int) true), .int .i64 (n : Int)] w fun e w' => e = .returned (.tuple #[.agg (SC k (sk (PP ts rs) (rate k) ⟨l, a⟩ n).l ((sk (PP ts rs) (rate k) ⟨l, a⟩ n).at' : Nat) true), .string ⟨(u8s (sq (PP ts rs) (rate k) ⟨l, a⟩ n)).toArray⟩, .int .i64 0]) ∧ Below w.heap.size w w' := by
  have Hrt : Away (∀ w1 : World, Calls Tryd.prog 18 #[.agg (SC k l (a : Int) true)] w1 fun e w' => e = .returned (.bool true) ∧ Below w1.heap.size w1 w') := ⟨fun w1 => by have h9 := spoi.right_any k (a : Int) true l w1 h.len; rw [hok] at h9; exact h9⟩
  have hra := ok_le k a hok
  clear hok
  have HFt : Away (∀ w1 : World, Calls Tryd.prog 30 #[.int .i64 (n : Int)] w1 fun e w' => e = .returned (.bool true) ∧ w' = w1) := ⟨fun w1 => by have h9 := fits_any (n : Int) w1; rw [decide_eq_true (by omega)] at h9; exact h9⟩
  have H := Away.mk h
  have HK := Away.mk hK
  obtain ⟨z, HZ⟩ := ex_eq Z
  have HZl : Away (z.length = 25) := ⟨by rw [← HZ.out]; rfl⟩
  have Hz : Away ((#[.int .i64 0, .int .u64 0, .int .u64 0, .int .u64 0, .int .u64 0, .int .u64 0, .int .u64 0, .int .u64 0, .int .u64 0, .int .u64 0, .int .u64 0, .int .u64 0, .int .u64 0, .int .u64 0, .int .u64 0, .int .u64 0, .int .u64 0, .int .u64 0, .int .u64 0, .int .u64 0, .int .u64 0, .int .u64 0, .int .u64 0, .int .u64 0, .int .u64 0, .int .u64 0, .int .i64 0, .bool false] : Array Value) = SC 0 z 0 false) := ⟨by rw [← HZ.out]; exact zs_is⟩
  clear h hK HZ
  have HP := Away.mk hP
  have hgl := gp_lt hP
  clear hP
  obtain ⟨E, HE⟩ := ex_eq (sk (PP ts rs) (rate k) ⟨l, a⟩ n)
  obtain ⟨bs, Hbs⟩ := ex_eq (⟨(u8s (sq (PP ts rs) (rate k) ⟨l, a⟩ n)).toArray⟩ : ByteArray)
  have HEs : Away (St E.l) := ⟨by rw [← HE.out]; exact (sk_ok (fun _ h => pp_st HK.out.br h) (by omega) H.out hra.1 n).1⟩
  have HC : Away (∀ (gt gs : Nat) (w1 : World), Gp w1 → w1.heap[gt]? = some (.cells T 36 (0, 0)) → gt ≠ gs → gs ≠ 0 → w1.heap[gs]? = some (.cells (SC k l (a : Int) true) 25 (0, 0)) → Calls Tryd.prog 31 #[.pointer (some ⟨gt, 0, none⟩), .pointer (some ⟨gs, 0, none⟩), .int .i64 (n : Int)] w1 fun e w' => e = .returned (.string bs) ∧ At gs (SC k E.l (E.at' : Int) true) 25 w1 w') :=
    ⟨fun gt gs w1 hP hT hne hgp hrow => by rw [← HE.out, ← Hbs.out]; exact spog.squeeze_out gt gs k a n l w1 H.out HK.out hP hT hne hgp hra.2 hra.1 hn hrow⟩
  rw [HE.out, Hbs.out]
  clear hra HE Hbs
  go_enter Tryd.func10, Tryd.ntmps10
  obtain ⟨W, hW⟩ : ∃ x, ((w.alloc (.cells T 36)).alloc (.cells (SC k l (a : Int) true) 25)).alloc (.cells (SC 0 z 0 false) 25) = x := ⟨_, rfl⟩
  obtain ⟨b0, b1, b2, hWs, hWb⟩ := three hW
  have B0 := Away.mk b0
  have B1 := Away.mk b1
  have B2 := Away.mk b2
  have HWs := Away.mk hWs
  have HWb := Away.mk hWb
  have HW := Away.mk hW
  have Si := Away.mk (sc_info k (a : Int) true H.out.len)
  have So := Away.mk (sc_one k l (a : Int) true)
  have Sz := Away.mk (sc_same k 0 (a : Int) 0 true false H.out.len HZl.out)
  obtain ⟨S, HS⟩ := ex_eq (SC k l (a : Int) true)
  rw [HS.out] at B1 Si So Sz HW Hrt
  clear hWs hWb hW b0 b1 b2
  rw [HS.out]
  go_wp2_with (first
    | (rw [Hz.out, HW.out])
    | (refine wpList_load_row rfl 25 _ rfl (w.heap.size + 1) rfl 25 S (0, 0) _ B1.out Tryd.underlying25 rfl Si.out ?_))
  refine (Hrt.out _).mono ?_
  rintro e w1 ⟨rfl, hb1⟩
  have B1' : Away (w1.heap[w.heap.size + 1]? = some (.cells S 25 (0, 0))) := ⟨(hb1.block _ (by have := HWs.out; omega)).trans B1.out⟩
  have B2' : Away (w1.heap[w.heap.size + 2]? = some (.cells (SC 0 z 0 false) 25 (0, 0))) := ⟨(hb1.block _ (by have := HWs.out; omega)).trans B2.out⟩
  have Hb1 : Away (Below w.heap.size w w1) := ⟨HWb.out.trans (hb1.mono (by have := HWs.out; omega))⟩
  have B0' : w1.heap[w.heap.size]? = some (.cells T 36 (0, 0)) := (hb1.block _ (by have := HWs.out; omega)).trans B0.out
  have HC1 := Away.mk (HC.out w.heap.size (w.heap.size + 1) w1 (HP.out.later Hb1.out) B0' (by omega) (by omega) (by rw [HS.out]; exact B1'.out))
  have hs1 : w.heap.size + 2 < w1.heap.size := lt_of_row B2'.out
  clear hb1 B0' HC
  go_wp2_with fail
  refine (HFt.out _).mono ?_
  rintro e w2 ⟨rfl, rfl⟩
  go_wp2_with fail
  refine HC1.out.mono ?_
  rintro e w2 ⟨rfl, h2⟩
  obtain ⟨F, HF⟩ := ex_eq (SC k E.l (E.at' : Int) true)
  have Fi : Away ((Tryd.prog.info? 25).map (·.size) = some F.size) := ⟨by rw [← HF.out]; exact sc_info k _ _ HEs.out.len⟩
  have Fo : Away (F.all (·.oneCell') = true) := ⟨by rw [← HF.out]; exact sc_one k E.l _ _⟩
  have Fz : Away ((SC 0 z 0 false).size = F.size) := ⟨by rw [← HF.out]; exact sc_same _ _ _ _ _ _ HZl.out HEs.out.len⟩
  rw [HF.out] at h2
  have Hrow := Away.mk h2.row
  have Hres : Away (w2.heap[w.heap.size + 2]? = some (.cells (SC 0 z 0 false) 25 (0, 0))) := ⟨h2.other hs1 (by omega) B2'.out⟩
  have Hb5 : Away (Below w.heap.size w w2) := ⟨Hb1.out.trans (h2.below (by omega) (by omega))⟩
  clear h2 HC1
  go_wp2_with (first
    | (refine wpList_load_row rfl 25 _ rfl (w.heap.size + 1) rfl 25 F (0, 0) _ Hrow.out Tryd.underlying25 rfl Fi.out ?_)
    | (refine wpList_store_row rfl 25 _ _ rfl (w.heap.size + 2) F rfl rfl 25 _ Hres.out Fi.out Fz.out Fo.out ?_))
  refine bodyPost_ret_by (v := .tuple #[.agg F, .string bs, .int .i64 0]) (rspc.results_cell_tmp2 rfl _ _ (w.heap.size + 2) 25 _ (0, 0) _ rfl (setRow_heap _ _ _ _ _ _ Hres.out) Tryd.underlying25 rfl Fi.out _ _ rfl rfl) rfl ?_
  exact ⟨by rw [← HF.out], Hb5.out.trans (below_setRow _ _ _ (by omega))⟩

set_option maxRecDepth 100000 in
set_option maxHeartbeats 2000000 in
theorem squeeze_pad {T : Array Value} {ts rs : List Nat} (k : Int) (a n : Nat) (l : List Nat) (w : World) (h : St l) (hK : KT T ts rs) (hP : Gp w) (hok : ok k (a : Int) false = true) (hn : n ≤ 50000) :
    Calls Tryd.prog 10 #[.agg T, .agg (SC k l (a : Int) false), .int .i64 (n : Int)] w fun e w' => e = .returned (.tuple #[.agg (SC k (sk (PP ts rs) (rate k) (pad (rate k) (spgm.mark k) ⟨l, a⟩) n).l ((sk (PP ts rs) (rate k) (pad (rate k) (spgm.mark k) ⟨l, a⟩) n).at' : Nat) true), .string ⟨(u8s (sq (PP ts rs) (rate k) (pad (rate k) (spgm.mark k) ⟨l, a⟩) n)).toArray⟩, .int .i64 0]) ∧ Below w.heap.size w w' := by
  have Hrt : Away (∀ w1 : World, Calls Tryd.prog 18 #[.agg (SC k l (a : Int) false)] w1 fun e w' => e = .returned (.bool true) ∧ Below w1.heap.size w1 w') := ⟨fun w1 => by have h9 := spoi.right_any k (a : Int) false l w1 h.len; rw [hok] at h9; exact h9⟩
  have hra := ok_lt k a hok
  clear hok
  have HFt : Away (∀ w1 : World, Calls Tryd.prog 30 #[.int .i64 (n : Int)] w1 fun e w' => e = .returned (.bool true) ∧ w' = w1) := ⟨fun w1 => by have h9 := fits_any (n : Int) w1; rw [decide_eq_true (by omega)] at h9; exact h9⟩
  have H := Away.mk h
  have HK := Away.mk hK
  obtain ⟨z, HZ⟩ := ex_eq Z
  have HZl : Away (z.length = 25) := ⟨by rw [← HZ.out]; rfl⟩
  have Hz : Away ((#[.int .i64 0, .int .u64 0, .int .u64 0, .int .u64 0, .int .u64 0, .int .u64 0, .int .u64 0, .int .u64 0, .int .u64 0, .int .u64 0, .int .u64 0, .int .u64 0, .int .u64 0, .int .u64 0, .int .u64 0, .int .u64 0, .int .u64 0, .int .u64 0, .int .u64 0, .int .u64 0, .int .u64 0, .int .u64 0, .int .u64 0, .int .u64 0, .int .u64 0, .int .u64 0, .int .i64 0, .bool false] : Array Value) = SC 0 z 0 false) := ⟨by rw [← HZ.out]; exact zs_is⟩
  clear h hK HZ
  have HP := Away.mk hP
  have hgl := gp_lt hP
  clear hP
  obtain ⟨E, HE⟩ := ex_eq (sk (PP ts rs) (rate k) (pad (rate k) (spgm.mark k) ⟨l, a⟩) n)
  obtain ⟨bs, Hbs⟩ := ex_eq (⟨(u8s (sq (PP ts rs) (rate k) (pad (rate k) (spgm.mark k) ⟨l, a⟩) n)).toArray⟩ : ByteArray)
  have HEs : Away (St E.l) := ⟨by rw [← HE.out]; exact (sk_ok (fun _ h => pp_st HK.out.br h) (by omega) (pad_ok (s := ⟨l, a⟩) H.out).1 (pad_ok (s := ⟨l, a⟩) H.out).2 n).1⟩
  have HC : Away (∀ (gt gs : Nat) (w1 : World), Gp w1 → w1.heap[gt]? = some (.cells T 36 (0, 0)) → gt ≠ gs → gs ≠ 0 → w1.heap[gs]? = some (.cells (SC k l (a : Int) false) 25 (0, 0)) → Calls Tryd.prog 31 #[.pointer (some ⟨gt, 0, none⟩), .pointer (some ⟨gs, 0, none⟩), .int .i64 (n : Int)] w1 fun e w' => e = .returned (.string bs) ∧ At gs (SC k E.l (E.at' : Int) true) 25 w1 w') :=
    ⟨fun gt gs w1 hP hT hne hgp hrow => by rw [← HE.out, ← Hbs.out]; exact spoh.squeeze_pad gt gs k a n l w1 H.out HK.out hP hT hne hgp (by omega) hra hn hrow⟩
  rw [HE.out, Hbs.out]
  clear hra HE Hbs
  go_enter Tryd.func10, Tryd.ntmps10
  obtain ⟨W, hW⟩ : ∃ x, ((w.alloc (.cells T 36)).alloc (.cells (SC k l (a : Int) false) 25)).alloc (.cells (SC 0 z 0 false) 25) = x := ⟨_, rfl⟩
  obtain ⟨b0, b1, b2, hWs, hWb⟩ := three hW
  have B0 := Away.mk b0
  have B1 := Away.mk b1
  have B2 := Away.mk b2
  have HWs := Away.mk hWs
  have HWb := Away.mk hWb
  have HW := Away.mk hW
  have Si := Away.mk (sc_info k (a : Int) false H.out.len)
  have So := Away.mk (sc_one k l (a : Int) false)
  have Sz := Away.mk (sc_same k 0 (a : Int) 0 false false H.out.len HZl.out)
  obtain ⟨S, HS⟩ := ex_eq (SC k l (a : Int) false)
  rw [HS.out] at B1 Si So Sz HW Hrt
  clear hWs hWb hW b0 b1 b2
  rw [HS.out]
  go_wp2_with (first
    | (rw [Hz.out, HW.out])
    | (refine wpList_load_row rfl 25 _ rfl (w.heap.size + 1) rfl 25 S (0, 0) _ B1.out Tryd.underlying25 rfl Si.out ?_))
  refine (Hrt.out _).mono ?_
  rintro e w1 ⟨rfl, hb1⟩
  have B1' : Away (w1.heap[w.heap.size + 1]? = some (.cells S 25 (0, 0))) := ⟨(hb1.block _ (by have := HWs.out; omega)).trans B1.out⟩
  have B2' : Away (w1.heap[w.heap.size + 2]? = some (.cells (SC 0 z 0 false) 25 (0, 0))) := ⟨(hb1.block _ (by have := HWs.out; omega)).trans B2.out⟩
  have Hb1 : Away (Below w.heap.size w w1) := ⟨HWb.out.trans (hb1.mono (by have := HWs.out; omega))⟩
  have B0' : w1.heap[w.heap.size]? = some (.cells T 36 (0, 0)) := (hb1.block _ (by have := HWs.out; omega)).trans B0.out
  have HC1 := Away.mk (HC.out w.heap.size (w.heap.size + 1) w1 (HP.out.later Hb1.out) B0' (by omega) (by omega) (by rw [HS.out]; exact B1'.out))
  have hs1 : w.heap.size + 2 < w1.heap.size := lt_of_row B2'.out
  clear hb1 B0' HC
  go_wp2_with fail
  refine (HFt.out _).mono ?_
  rintro e w2 ⟨rfl, rfl⟩
  go_wp2_with fail
  refine HC1.out.mono ?_
  rintro e w2 ⟨rfl, h2⟩
  obtain ⟨F, HF⟩ := ex_eq (SC k E.l (E.at' : Int) true)
  have Fi : Away ((Tryd.prog.info? 25).map (·.size) = some F.size) := ⟨by rw [← HF.out]; exact sc_info k _ _ HEs.out.len⟩
  have Fo : Away (F.all (·.oneCell') = true) := ⟨by rw [← HF.out]; exact sc_one k E.l _ _⟩
  have Fz : Away ((SC 0 z 0 false).size = F.size) := ⟨by rw [← HF.out]; exact sc_same _ _ _ _ _ _ HZl.out HEs.out.len⟩
  rw [HF.out] at h2
  have Hrow := Away.mk h2.row
  have Hres : Away (w2.heap[w.heap.size + 2]? = some (.cells (SC 0 z 0 false) 25 (0, 0))) := ⟨h2.other hs1 (by omega) B2'.out⟩
  have Hb5 : Away (Below w.heap.size w w2) := ⟨Hb1.out.trans (h2.below (by omega) (by omega))⟩
  clear h2 HC1
  go_wp2_with (first
    | (refine wpList_load_row rfl 25 _ rfl (w.heap.size + 1) rfl 25 F (0, 0) _ Hrow.out Tryd.underlying25 rfl Fi.out ?_)
    | (refine wpList_store_row rfl 25 _ _ rfl (w.heap.size + 2) F rfl rfl 25 _ Hres.out Fi.out Fz.out Fo.out ?_))
  refine bodyPost_ret_by (v := .tuple #[.agg F, .string bs, .int .i64 0]) (rspc.results_cell_tmp2 rfl _ _ (w.heap.size + 2) 25 _ (0, 0) _ rfl (setRow_heap _ _ _ _ _ _ Hres.out) Tryd.underlying25 rfl Fi.out _ _ rfl rfl) rfl ?_
  exact ⟨by rw [← HF.out], Hb5.out.trans (below_setRow _ _ _ (by omega))⟩

end Go.Proofs.YtpibnfpgokjnpaaDoor.spoj

namespace Go.Proofs.YtpibnfpgokjnpaaDoor.spok
open Go Go.RowKit
open Go.Proofs.YtpibnfpgokjnpaaDoor.arr Go.Proofs.YtpibnfpgokjnpaaDoor.mem Go.Proofs.YtpibnfpgokjnpaaDoor.kecm Go.Proofs.YtpibnfpgokjnpaaDoor.kecb Go.Proofs.YtpibnfpgokjnpaaDoor.kstep Go.Proofs.YtpibnfpgokjnpaaDoor.kturn Go.Proofs.YtpibnfpgokjnpaaDoor.kfun Go.Proofs.YtpibnfpgokjnpaaDoor.spgm Go.Proofs.YtpibnfpgokjnpaaDoor.spmx Go.Proofs.YtpibnfpgokjnpaaDoor.rspa Go.Proofs.YtpibnfpgokjnpaaDoor.rspb Go.Proofs.YtpibnfpgokjnpaaDoor.rspc Go.Proofs.YtpibnfpgokjnpaaDoor.rspd Go.Proofs.YtpibnfpgokjnpaaDoor.rspe Go.Proofs.YtpibnfpgokjnpaaDoor.spoa Go.Proofs.YtpibnfpgokjnpaaDoor.spob Go.Proofs.YtpibnfpgokjnpaaDoor.spoe Go.Proofs.YtpibnfpgokjnpaaDoor.spof Go.Proofs.YtpibnfpgokjnpaaDoor.spog Go.Proofs.YtpibnfpgokjnpaaDoor.spoh

theorem z_st : St Z := kecd.st_of z_len (by decide)
/-- n bytes of the output for the input b -/
def out (ts rs : List Nat) (k : Int) (b : ByteArray) (n : Nat) : ByteArray := ⟨(u8s (sq (PP ts rs) (rate k) (pad (rate k) (spgm.mark k) (abs (PP ts rs) (rate k) ⟨Z, 0⟩ (bys b))) n)).toArray⟩
set_option maxRecDepth 100000 in
set_option maxHeartbeats 2000000 in
theorem whole_any {T : Array Value} {ts rs : List Nat} (gt : Nat) (k : Int) (b : ByteArray) (n : Nat) (w : World) (hK : KT T ts rs) (hP : Gp w) (hT : w.heap[gt]? = some (.cells T 36 (0, 0))) (hr0 : 0 < rate k) (hn : n ≤ 50000) (hb : b.size ≤ 1125899906842624) :
    Calls Tryd.prog 34 #[.pointer (some ⟨gt, 0, none⟩), .int .i64 k, .string b, .int .i64 (n : Int)] w fun e w' => e = .returned (.string (out ts rs k b n)) ∧ Below w.heap.size w w' := by
  obtain ⟨O, HO⟩ := ex_eq (out ts rs k b n)
  rw [HO.out]
  obtain ⟨E, HE⟩ := ex_eq (abs (PP ts rs) (rate k) ⟨Z, 0⟩ (bys b))
  have hEo : St E.l ∧ E.at' < rate k := by rw [← HE.out]; exact abs_ok (fun _ h => pp_st hK.br h) _ z_st hr0
  obtain ⟨F, HF⟩ := ex_eq (SC k Z 0 false)
  have Fi : Away ((Tryd.prog.info? 25).map (·.size) = some F.size) := ⟨by rw [← HF.out]; exact sc_info _ _ _ z_len⟩
  have Fo : Away (F.all (·.oneCell') = true) := ⟨by rw [← HF.out]; exact sc_one _ _ _ _⟩
  have Fz : Away ((#[.int .i64 0, .int .u64 0, .int .u64 0, .int .u64 0, .int .u64 0, .int .u64 0, .int .u64 0, .int .u64 0, .int .u64 0, .int .u64 0, .int .u64 0, .int .u64 0, .int .u64 0, .int .u64 0, .int .u64 0, .int .u64 0, .int .u64 0, .int .u64 0, .int .u64 0, .int .u64 0, .int .u64 0, .int .u64 0, .int .u64 0, .int .u64 0, .int .u64 0, .int .u64 0, .int .i64 0, .bool false] : Array Value).size = F.size) := ⟨by rw [← HF.out, sc_size _ _ _ z_len]; rfl⟩
  have Fb : Away ((#[.int .i64 k, .int .u64 0, .int .u64 0, .int .u64 0, .int .u64 0, .int .u64 0, .int .u64 0, .int .u64 0, .int .u64 0, .int .u64 0, .int .u64 0, .int .u64 0, .int .u64 0, .int .u64 0, .int .u64 0, .int .u64 0, .int .u64 0, .int .u64 0, .int .u64 0, .int .u64 0, .int .u64 0, .int .u64 0, .int .u64 0, .int .u64 0, .int .u64 0, .int .u64 0, .int .i64 0, .bool false] : Array Value) = F) := ⟨by rw [← HF.out]; rfl⟩
  have hgp := gp_lt hP
  have hgt := lt_of_row hT
  obtain ⟨W, hW⟩ : ∃ x, w.alloc (.cells F 25) = x := ⟨_, rfl⟩
  have HW := Away.mk hW
  have hb0 : Below w.heap.size w W := by rw [← hW]; exact below_alloc _ _
  have hrow : W.heap[w.heap.size]? = some (.cells (SC k Z ((0 : Nat) : Int) false) 25 (0, 0)) := by rw [← hW, show SC k Z ((0 : Nat) : Int) false = F from HF.out]; exact heap_at _ _ _ rfl
  have C1 := Away.mk (spoe.absorb_any gt w.heap.size k 0 Z b W z_st hK (hP.later hb0) ((hb0.block _ hgt).trans hT) (by omega) (by omega) hr0 hb hrow)
  rw [HE.out] at C1
  have C2 : Away (∀ w2 : World, At w.heap.size (SC k E.l (E.at' : Nat) false) 25 W w2 → Calls Tryd.prog 31 #[.pointer (some ⟨gt, 0, none⟩), .pointer (some ⟨w.heap.size, 0, none⟩), .int .i64 (n : Int)] w2 fun e w' => e = .returned (.string O) ∧ Below w.heap.size w2 w') := ⟨fun w2 h2 => by
    have hz : W.heap.size = w.heap.size + 1 := by rw [← hW]; exact size_alloc _ _
    refine (spoh.squeeze_pad gt w.heap.size k E.at' n E.l w2 hEo.1 hK (Gp.at (hP.later hb0) h2 (by omega)) (h2.other (by omega) (by omega) ((hb0.block _ hgt).trans hT)) (by omega) (by omega) hr0 hEo.2 hn h2.row).mono ?_
    rintro e w3 ⟨rfl, h3⟩
    refine ⟨?_, h3.below (by have := h2.size; omega) (Nat.le_refl _)⟩
    rw [← HO.out, out, HE.out]⟩
  have HB0 := Away.mk hb0
  clear hrow hb0 hW hEo hK hP hT
  go_enter Tryd.func34, Tryd.ntmps34
  go_wp2_with (first
    | (rw [HW.out])
    | ((with_reducible refine wpList_buildC rfl _ _ rfl #[.int .i64 k, .int .u64 0, .int .u64 0, .int .u64 0, .int .u64 0, .int .u64 0, .int .u64 0, .int .u64 0, .int .u64 0, .int .u64 0, .int .u64 0, .int .u64 0, .int .u64 0, .int .u64 0, .int .u64 0, .int .u64 0, .int .u64 0, .int .u64 0, .int .u64 0, .int .u64 0, .int .u64 0, .int .u64 0, .int .u64 0, .int .u64 0, .int .u64 0, .int .u64 0, .int .i64 0, .bool false] ?hC ?_); (case hC => kernel_rfl); rw [Fb.out])
    | (refine wpList_store_new rfl 25 _ _ rfl F rfl rfl Fi.out (by first | exact Fz.out | rfl) Fo.out rfl ?_))
  refine C1.out.mono ?_
  rintro e w1 ⟨rfl, h1⟩
  have HB1 : Away (Below w.heap.size w w1) := ⟨HB0.out.trans (h1.below (by have := HB0.out.size; omega) (Nat.le_refl _))⟩
  have C3 := Away.mk (C2.out w1 h1)
  clear h1 C1 C2
  go_wp2_with fail
  refine C3.out.mono ?_
  rintro e w2 ⟨rfl, h2⟩
  have HB2 : Away (Below w.heap.size w w2) := ⟨HB1.out.trans h2⟩
  clear h2
  go_wp2_with fail
  go_ret
  exact ⟨rfl, HB2.out⟩

theorem field2 (r f z : Int) (w : World) : (Instr.field 69 (.agg #[.int .i64 r, .int .u8 f, .int .i64 z]) 2).run Tryd.prog w = .ok (.int .i64 z) w := by kernel_rfl
theorem traits_at (k : Int) : ∃ f : Nat, ∀ w1 : World, Calls Tryd.prog 33 #[.int .i64 k] w1 fun e w' => e = .returned (.agg #[.int .i64 ((rate k : Nat) : Int), .int .u8 (f : Int), .int .i64 ((spoa.size k : Nat) : Int)]) ∧ Below w1.heap.size w1 w' := ⟨fin k, traits_any k⟩
set_option maxRecDepth 100000 in
set_option maxHeartbeats 2000000 in
theorem shake_none {T : Array Value} {ts rs : List Nat} (k : Int) (b : ByteArray) (n : Int) (w : World) (hK : KT T ts rs) (h0 : rate k = 0) :
    Calls Tryd.prog 12 #[.agg T, .int .i64 k, .string b, .int .i64 n] w fun e w' => e = .returned (.tuple #[.string ⟨#[]⟩, .int .i64 1]) ∧ Below w.heap.size w w' := by
  obtain ⟨f, hTr⟩ := traits_at k
  obtain ⟨r, hr⟩ : ∃ r, rate k = r := ⟨_, rfl⟩
  obtain ⟨z, hz⟩ : ∃ z, spoa.size k = z := ⟨_, rfl⟩
  rw [hr] at h0 hTr
  rw [hz] at hTr
  subst h0
  have hTr : ∀ w1 : World, Calls Tryd.prog 33 #[.int .i64 k] w1 fun e w' => e = .returned (.agg #[.int .i64 0, .int .u8 (f : Int), .int .i64 (z : Int)]) ∧ Below w1.heap.size w1 w' := hTr
  have HTr := Away.mk hTr
  have HTz : Away ((Tryd.prog.info? 36).map (·.size) = some T.size) := ⟨by rw [hK.size]; exact rspa.sizeT⟩
  clear hTr
  obtain ⟨W, hW⟩ : ∃ x, w.alloc (.cells T 36) = x := ⟨_, rfl⟩
  have HW := Away.mk hW
  have HB0 : Away (Below w.heap.size w W) := ⟨by rw [← hW]; exact below_alloc _ _⟩
  have HT : Away (W.heap[w.heap.size]? = some (.cells T 36 (0, 0))) := ⟨by rw [← hW]; exact heap_at _ _ _ rfl⟩
  have hz1 : W.heap.size = w.heap.size + 1 := by rw [← hW]; exact size_alloc _ _
  clear hW
  go_enter Tryd.func12, Tryd.ntmps12
  go_wp2_with (rw [HW.out])
  refine (HTr.out _).mono ?_
  rintro e w1 ⟨rfl, hb1⟩
  obtain ⟨V, hV⟩ : ∃ x, w1.alloc (.cells #[.int .i64 0, .int .u8 (f : Int), .int .i64 (z : Int)] 69) = x := ⟨_, rfl⟩
  have HV := Away.mk hV
  have HB1 : Away (Below w.heap.size w V) := ⟨(HB0.out.trans (hb1.mono (by omega))).trans ((by rw [← hV]; exact (below_alloc _ _).mono (by have := hb1.size; omega)))⟩
  have HT1 : Away (V.heap[w.heap.size]? = some (.cells T 36 (0, 0))) := ⟨by rw [← hV, heap_past _ _ _ (by have := hb1.size; omega)]; exact (hb1.block _ (by omega)).trans HT.out⟩
  have Hrow : V.heap[w1.heap.size]? = some (.cells #[.int .i64 0, .int .u8 (f : Int), .int .i64 (z : Int)] 69 (0, 0)) := by rw [← hV]; exact heap_at _ _ _ rfl
  have k0 : V.cell? ⟨w1.heap.size, 0, none⟩ = some (.int .i64 0) := cell_at Hrow rfl
  have k2 : V.cell? ⟨w1.heap.size, 2, none⟩ = some (.int .i64 (z : Int)) := cell_at Hrow rfl
  have hz2 : w.heap.size < w1.heap.size := by have := hb1.size; omega
  clear hb1 HTr hV Hrow
  go_wp2_with (rw [HV.out])
  go_ret2
  exact ⟨rfl, HB1.out⟩

set_option maxRecDepth 100000 in
set_option maxHeartbeats 2000000 in
theorem shake_sha {T : Array Value} {ts rs : List Nat} (k : Int) (b : ByteArray) (n : Int) (w : World) (hK : KT T ts rs) (h0 : 0 < rate k) (h1 : 0 < spoa.size k) :
    Calls Tryd.prog 12 #[.agg T, .int .i64 k, .string b, .int .i64 n] w fun e w' => e = .returned (.tuple #[.string ⟨#[]⟩, .int .i64 1]) ∧ Below w.heap.size w w' := by
  obtain ⟨f, hTr⟩ := traits_at k
  obtain ⟨r, hr⟩ : ∃ r, rate k = r := ⟨_, rfl⟩
  obtain ⟨z, hz⟩ : ∃ z, spoa.size k = z := ⟨_, rfl⟩
  rw [hr] at h0 hTr
  rw [hz] at h1 hTr
  have q0 : ((r : Int) == 0) = false := beq_eq_false_iff_ne.2 (by omega)
  have q1 : ((z : Int) == 0) = false := beq_eq_false_iff_ne.2 (by omega)
  have HTr := Away.mk hTr
  have HTz : Away ((Tryd.prog.info? 36).map (·.size) = some T.size) := ⟨by rw [hK.size]; exact rspa.sizeT⟩
  clear hTr
  obtain ⟨W, hW⟩ : ∃ x, w.alloc (.cells T 36) = x := ⟨_, rfl⟩
  have HW := Away.mk hW
  have HB0 : Away (Below w.heap.size w W) := ⟨by rw [← hW]; exact below_alloc _ _⟩
  have HT : Away (W.heap[w.heap.size]? = some (.cells T 36 (0, 0))) := ⟨by rw [← hW]; exact heap_at _ _ _ rfl⟩
  have hz1 : W.heap.size = w.heap.size + 1 := by rw [← hW]; exact size_alloc _ _
  clear hW
  go_enter Tryd.func12, Tryd.ntmps12
  go_wp2_with (rw [HW.out])
  refine (HTr.out _).mono ?_
  rintro e w1 ⟨rfl, hb1⟩
  obtain ⟨V, hV⟩ : ∃ x, w1.alloc (.cells #[.int .i64 (r : Int), .int .u8 (f : Int), .int .i64 (z : Int)] 69) = x := ⟨_, rfl⟩
  have HV := Away.mk hV
  have HB1 : Away (Below w.heap.size w V) := ⟨(HB0.out.trans (hb1.mono (by omega))).trans ((by rw [← hV]; exact (below_alloc _ _).mono (by have := hb1.size; omega)))⟩
  have HT1 : Away (V.heap[w.heap.size]? = some (.cells T 36 (0, 0))) := ⟨by rw [← hV, heap_past _ _ _ (by have := hb1.size; omega)]; exact (hb1.block _ (by omega)).trans HT.out⟩
  have Hrow : V.heap[w1.heap.size]? = some (.cells #[.int .i64 (r : Int), .int .u8 (f : Int), .int .i64 (z : Int)] 69 (0, 0)) := by rw [← hV]; exact heap_at _ _ _ rfl
  have k0 : V.cell? ⟨w1.heap.size, 0, none⟩ = some (.int .i64 (r : Int)) := cell_at Hrow rfl
  have k2 : V.cell? ⟨w1.heap.size, 2, none⟩ = some (.int .i64 (z : Int)) := cell_at Hrow rfl
  have hz2 : w.heap.size < w1.heap.size := by have := hb1.size; omega
  clear hb1 HTr hV Hrow
  go_wp2_with (rw [HV.out])
  go_ret2
  exact ⟨rfl, HB1.out⟩

set_option maxRecDepth 100000 in
set_option maxHeartbeats 2000000 in
theorem shake_far {T : Array Value} {ts rs : List Nat} (k : Int) (b : ByteArray) (n : Int) (w : World) (hK : KT T ts rs) (h0 : 0 < rate k) (h1 : spoa.size k = 0) (hn : n < 0 ∨ 50000 < n) :
    Calls Tryd.prog 12 #[.agg T, .int .i64 k, .string b, .int .i64 n] w fun e w' => e = .returned (.tuple #[.string ⟨#[]⟩, .int .i64 1]) ∧ Below w.heap.size w w' := by
  obtain ⟨f, hTr⟩ := traits_at k
  obtain ⟨r, hr⟩ : ∃ r, rate k = r := ⟨_, rfl⟩
  obtain ⟨z, hz⟩ : ∃ z, spoa.size k = z := ⟨_, rfl⟩
  rw [hr] at h0 hTr
  rw [h1] at hTr
  have q0 : ((r : Int) == 0) = false := beq_eq_false_iff_ne.2 (by omega)
  have hTr : ∀ w1 : World, Calls Tryd.prog 33 #[.int .i64 k] w1 fun e w' => e = .returned (.agg #[.int .i64 (r : Int), .int .u8 (f : Int), .int .i64 0]) ∧ Below w1.heap.size w1 w' := hTr
  have HTr := Away.mk hTr
  have HTz : Away ((Tryd.prog.info? 36).map (·.size) = some T.size) := ⟨by rw [hK.size]; exact rspa.sizeT⟩
  have HF : Away (∀ w1 : World, Calls Tryd.prog 30 #[.int .i64 n] w1 fun e w' => e = .returned (.bool false) ∧ w' = w1) := ⟨fun w1 => by have h9 := fits_any n w1; rw [decide_eq_false (by omega)] at h9; exact h9⟩
  clear hTr
  obtain ⟨W, hW⟩ : ∃ x, w.alloc (.cells T 36) = x := ⟨_, rfl⟩
  have HW := Away.mk hW
  have HB0 : Away (Below w.heap.size w W) := ⟨by rw [← hW]; exact below_alloc _ _⟩
  have HT : Away (W.heap[w.heap.size]? = some (.cells T 36 (0, 0))) := ⟨by rw [← hW]; exact heap_at _ _ _ rfl⟩
  have hz1 : W.heap.size = w.heap.size + 1 := by rw [← hW]; exact size_alloc _ _
  clear hW
  go_enter Tryd.func12, Tryd.ntmps12
  go_wp2_with (rw [HW.out])
  refine (HTr.out _).mono ?_
  rintro e w1 ⟨rfl, hb1⟩
  obtain ⟨V, hV⟩ : ∃ x, w1.alloc (.cells #[.int .i64 (r : Int), .int .u8 (f : Int), .int .i64 0] 69) = x := ⟨_, rfl⟩
  have HV := Away.mk hV
  have HB1 : Away (Below w.heap.size w V) := ⟨(HB0.out.trans (hb1.mono (by omega))).trans ((by rw [← hV]; exact (below_alloc _ _).mono (by have := hb1.size; omega)))⟩
  have HT1 : Away (V.heap[w.heap.size]? = some (.cells T 36 (0, 0))) := ⟨by rw [← hV, heap_past _ _ _ (by have := hb1.size; omega)]; exact (hb1.block _ (by omega)).trans HT.out⟩
  have Hrow : V.heap[w1.heap.size]? = some (.cells #[.int .i64 (r : Int), .int .u8 (f : Int), .int .i64 0] 69 (0, 0)) := by rw [← hV]; exact heap_at _ _ _ rfl
  have k0 : V.cell? ⟨w1.heap.size, 0, none⟩ = some (.int .i64 (r : Int)) := cell_at Hrow rfl
  have k2 : V.cell? ⟨w1.heap.size, 2, none⟩ = some (.int .i64 0) := cell_at Hrow rfl
  have hz2 : w.heap.size < w1.heap.size := by have := hb1.size; omega
  clear hb1 HTr hV Hrow
  go_wp2_with (rw [HV.out])
  refine (HF.out _).mono ?_
  rintro e w2 ⟨rfl, rfl⟩
  go_wp2_with fail
  go_ret2
  exact ⟨rfl, HB1.out⟩

set_option maxRecDepth 100000 in
set_option maxHeartbeats 2000000 in
theorem shake_go {T : Array Value} {ts rs : List Nat} (k : Int) (b : ByteArray) (n : Nat) (w : World) (hK : KT T ts rs) (hP : Gp w) (h0 : 0 < rate k) (h1 : spoa.size k = 0) (hn : n ≤ 50000) (hb : b.size ≤ 1125899906842624) :
    Calls Tryd.prog 12 #[.agg T, .int .i64 k, .string b, .int .i64 (n : Int)] w fun e w' => e = .returned (.tuple #[.string (out ts rs k b n), .int .i64 0]) ∧ Below w.heap.size w w' := by
  obtain ⟨f, hTr⟩ := traits_at k
  obtain ⟨r, hr⟩ : ∃ r, rate k = r := ⟨_, rfl⟩
  obtain ⟨z, hz⟩ : ∃ z, spoa.size k = z := ⟨_, rfl⟩
  rw [hr] at hTr
  rw [h1] at hTr
  have q0 : ((r : Int) == 0) = false := beq_eq_false_iff_ne.2 (by omega)
  have hTr : ∀ w1 : World, Calls Tryd.prog 33 #[.int .i64 k] w1 fun e w' => e = .returned (.agg #[.int .i64 (r : Int), .int .u8 (f : Int), .int .i64 0]) ∧ Below w1.heap.size w1 w' := hTr
  have HTr := Away.mk hTr
  have HTz : Away ((Tryd.prog.info? 36).map (·.size) = some T.size) := ⟨by rw [hK.size]; exact rspa.sizeT⟩
  have HF : Away (∀ w1 : World, Calls Tryd.prog 30 #[.int .i64 (n : Int)] w1 fun e w' => e = .returned (.bool true) ∧ w' = w1) := ⟨fun w1 => by have h9 := fits_any (n : Int) w1; rw [decide_eq_true (by omega)] at h9; exact h9⟩
  have HP := Away.mk hP
  have HK := Away.mk hK
  clear hTr
  obtain ⟨W, hW⟩ : ∃ x, w.alloc (.cells T 36) = x := ⟨_, rfl⟩
  have HW := Away.mk hW
  have HB0 : Away (Below w.heap.size w W) := ⟨by rw [← hW]; exact below_alloc _ _⟩
  have HT : Away (W.heap[w.heap.size]? = some (.cells T 36 (0, 0))) := ⟨by rw [← hW]; exact heap_at _ _ _ rfl⟩
  have hz1 : W.heap.size = w.heap.size + 1 := by rw [← hW]; exact size_alloc _ _
  clear hW
  go_enter Tryd.func12, Tryd.ntmps12
  go_wp2_with (rw [HW.out])
  refine (HTr.out _).mono ?_
  rintro e w1 ⟨rfl, hb1⟩
  obtain ⟨V, hV⟩ : ∃ x, w1.alloc (.cells #[.int .i64 (r : Int), .int .u8 (f : Int), .int .i64 0] 69) = x := ⟨_, rfl⟩
  have HV := Away.mk hV
  have HB1 : Away (Below w.heap.size w V) := ⟨(HB0.out.trans (hb1.mono (by omega))).trans ((by rw [← hV]; exact (below_alloc _ _).mono (by have := hb1.size; omega)))⟩
  have HT1 : Away (V.heap[w.heap.size]? = some (.cells T 36 (0, 0))) := ⟨by rw [← hV, heap_past _ _ _ (by have := hb1.size; omega)]; exact (hb1.block _ (by omega)).trans HT.out⟩
  have Hrow : V.heap[w1.heap.size]? = some (.cells #[.int .i64 (r : Int), .int .u8 (f : Int), .int .i64 0] 69 (0, 0)) := by rw [← hV]; exact heap_at _ _ _ rfl
  have k0 : V.cell? ⟨w1.heap.size, 0, none⟩ = some (.int .i64 (r : Int)) := cell_at Hrow rfl
  have k2 : V.cell? ⟨w1.heap.size, 2, none⟩ = some (.int .i64 0) := cell_at Hrow rfl
  have hz2 : w.heap.size < w1.heap.size := by have := hb1.size; omega
  clear hb1 HTr hV Hrow
  go_wp2_with (rw [HV.out])
  refine (HF.out _).mono ?_
  rintro e w2 ⟨rfl, rfl⟩
  go_wp2_with fail
  refine (whole_any w.heap.size k b n w2 HK.out (HP.out.later HB1.out) HT1.out h0 hn hb).mono ?_
  rintro e w3 ⟨rfl, h3⟩
  have HB3 : Away (Below w.heap.size w w3) := ⟨HB1.out.trans (h3.mono (by have := HB1.out.size; omega))⟩
  clear h3
  go_wp2_with fail
  go_ret2
  exact ⟨rfl, HB3.out⟩

set_option maxRecDepth 100000 in
set_option maxHeartbeats 2000000 in
theorem sha3_none {T : Array Value} {ts rs : List Nat} (k : Int) (b : ByteArray)  (w : World) (hK : KT T ts rs) (h1 : spoa.size k = 0) :
    Calls Tryd.prog 14 #[.agg T, .int .i64 k, .string b] w fun e w' => e = .returned (.tuple #[.string ⟨#[]⟩, .int .i64 1]) ∧ Below w.heap.size w w' := by
  obtain ⟨f, hTr⟩ := traits_at k
  obtain ⟨r, hr⟩ : ∃ r, rate k = r := ⟨_, rfl⟩
  obtain ⟨z, hz⟩ : ∃ z, spoa.size k = z := ⟨_, rfl⟩
  rw [hr, h1] at hTr
  have hTr : ∀ w1 : World, Calls Tryd.prog 33 #[.int .i64 k] w1 fun e w' => e = .returned (.agg #[.int .i64 (r : Int), .int .u8 (f : Int), .int .i64 0]) ∧ Below w1.heap.size w1 w' := hTr
  have HTr := Away.mk hTr
  have HTz : Away ((Tryd.prog.info? 36).map (·.size) = some T.size) := ⟨by rw [hK.size]; exact rspa.sizeT⟩
  clear hTr
  obtain ⟨W, hW⟩ : ∃ x, w.alloc (.cells T 36) = x := ⟨_, rfl⟩
  have HW := Away.mk hW
  have HB0 : Away (Below w.heap.size w W) := ⟨by rw [← hW]; exact below_alloc _ _⟩
  have HT : Away (W.heap[w.heap.size]? = some (.cells T 36 (0, 0))) := ⟨by rw [← hW]; exact heap_at _ _ _ rfl⟩
  have hz1 : W.heap.size = w.heap.size + 1 := by rw [← hW]; exact size_alloc _ _
  clear hW
  go_enter Tryd.func14, Tryd.ntmps14
  go_wp2_with (rw [HW.out])
  refine (HTr.out _).mono ?_
  rintro e w1 ⟨rfl, hb1⟩
  obtain ⟨V, hV⟩ : ∃ x, w1.alloc (.cells #[.int .i64 (r : Int), .int .u8 (f : Int), .int .i64 0] 69) = x := ⟨_, rfl⟩
  have HV := Away.mk hV
  have HB1 : Away (Below w.heap.size w V) := ⟨(HB0.out.trans (hb1.mono (by omega))).trans ((by rw [← hV]; exact (below_alloc _ _).mono (by have := hb1.size; omega)))⟩
  have HT1 : Away (V.heap[w.heap.size]? = some (.cells T 36 (0, 0))) := ⟨by rw [← hV, heap_past _ _ _ (by have := hb1.size; omega)]; exact (hb1.block _ (by omega)).trans HT.out⟩
  have Hrow : V.heap[w1.heap.size]? = some (.cells #[.int .i64 (r : Int), .int .u8 (f : Int), .int .i64 0] 69 (0, 0)) := by rw [← hV]; exact heap_at _ _ _ rfl
  have k0 : V.cell? ⟨w1.heap.size, 0, none⟩ = some (.int .i64 (r : Int)) := cell_at Hrow rfl
  have k2 : V.cell? ⟨w1.heap.size, 2, none⟩ = some (.int .i64 0) := cell_at Hrow rfl
  have hz2 : w.heap.size < w1.heap.size := by have := hb1.size; omega
  clear hb1 HTr hV Hrow
  go_wp2_with (rw [HV.out])
  go_ret2
  exact ⟨rfl, HB1.out⟩

set_option maxRecDepth 100000 in
set_option maxHeartbeats 2000000 in
theorem sha3_go {T : Array Value} {ts rs : List Nat} (k : Int) (b : ByteArray)  (w : World) (hK : KT T ts rs) (hP : Gp w) (h0 : 0 < rate k) (h1 : 0 < spoa.size k) (hn : spoa.size k ≤ 50000) (hb : b.size ≤ 1125899906842624) :
    Calls Tryd.prog 14 #[.agg T, .int .i64 k, .string b] w fun e w' => e = .returned (.tuple #[.string (out ts rs k b (spoa.size k)), .int .i64 0]) ∧ Below w.heap.size w w' := by
  obtain ⟨f, hTr⟩ := traits_at k
  obtain ⟨r, hr⟩ : ∃ r, rate k = r := ⟨_, rfl⟩
  obtain ⟨z, hz⟩ : ∃ z, spoa.size k = z := ⟨_, rfl⟩
  rw [hr, hz] at hTr
  rw [hz] at h1 hn ⊢
  have q1 : ((z : Int) == 0) = false := beq_eq_false_iff_ne.2 (by omega)
  have HTr := Away.mk hTr
  have HTz : Away ((Tryd.prog.info? 36).map (·.size) = some T.size) := ⟨by rw [hK.size]; exact rspa.sizeT⟩
  have HP := Away.mk hP
  have HK := Away.mk hK
  clear hTr
  obtain ⟨W, hW⟩ : ∃ x, w.alloc (.cells T 36) = x := ⟨_, rfl⟩
  have HW := Away.mk hW
  have HB0 : Away (Below w.heap.size w W) := ⟨by rw [← hW]; exact below_alloc _ _⟩
  have HT : Away (W.heap[w.heap.size]? = some (.cells T 36 (0, 0))) := ⟨by rw [← hW]; exact heap_at _ _ _ rfl⟩
  have hz1 : W.heap.size = w.heap.size + 1 := by rw [← hW]; exact size_alloc _ _
  clear hW
  go_enter Tryd.func14, Tryd.ntmps14
  go_wp2_with (rw [HW.out])
  refine (HTr.out _).mono ?_
  rintro e w1 ⟨rfl, hb1⟩
  obtain ⟨V, hV⟩ : ∃ x, w1.alloc (.cells #[.int .i64 (r : Int), .int .u8 (f : Int), .int .i64 (z : Int)] 69) = x := ⟨_, rfl⟩
  have HV := Away.mk hV
  have HB1 : Away (Below w.heap.size w V) := ⟨(HB0.out.trans (hb1.mono (by omega))).trans ((by rw [← hV]; exact (below_alloc _ _).mono (by have := hb1.size; omega)))⟩
  have HT1 : Away (V.heap[w.heap.size]? = some (.cells T 36 (0, 0))) := ⟨by rw [← hV, heap_past _ _ _ (by have := hb1.size; omega)]; exact (hb1.block _ (by omega)).trans HT.out⟩
  have Hrow : V.heap[w1.heap.size]? = some (.cells #[.int .i64 (r : Int), .int .u8 (f : Int), .int .i64 (z : Int)] 69 (0, 0)) := by rw [← hV]; exact heap_at _ _ _ rfl
  have k0 : V.cell? ⟨w1.heap.size, 0, none⟩ = some (.int .i64 (r : Int)) := cell_at Hrow rfl
  have k2 : V.cell? ⟨w1.heap.size, 2, none⟩ = some (.int .i64 (z : Int)) := cell_at Hrow rfl
  have hz2 : w.heap.size < w1.heap.size := by have := hb1.size; omega
  clear hb1 HTr hV Hrow
  go_wp2_with (rw [HV.out])
  refine (whole_any w.heap.size k b z V HK.out (HP.out.later HB1.out) HT1.out h0 hn hb).mono ?_
  rintro e w3 ⟨rfl, h3⟩
  have HB3 : Away (Below w.heap.size w w3) := ⟨HB1.out.trans (h3.mono (by have := HB1.out.size; omega))⟩
  clear h3
  go_wp2_with fail
  go_ret2
  exact ⟨rfl, HB3.out⟩

end Go.Proofs.YtpibnfpgokjnpaaDoor.spok
