/-
  What the document's own Right and New of layer 6 return. Conditions: the sponge's state has 25 words.
-/
import Derived.Test.YtpibnfpgokjnpaaDoorRSpA
namespace Go.Proofs.YtpibnfpgokjnpaaDoor.rspb
open Go.RowKit
open Go.Proofs.YtpibnfpgokjnpaaDoor.arr Go.Proofs.YtpibnfpgokjnpaaDoor.mem Go.Proofs.YtpibnfpgokjnpaaDoor.kecm Go.Proofs.YtpibnfpgokjnpaaDoor.kecb Go.Proofs.YtpibnfpgokjnpaaDoor.spgm Go.Proofs.YtpibnfpgokjnpaaDoor.rspa

/-- is the sponge valid? -/
def ok (k a : Int) (o : Bool) : Bool := decide (0 < rate k) && (decide (0 ≤ a) && (decide (a < (rate k : Int)) || (o && decide (a = (rate k : Int)))))
def okr (r : Nat) (a : Int) (o : Bool) : Bool := decide (0 < r) && (decide (0 ≤ a) && (decide (a < (r : Int)) || (o && decide (a = (r : Int)))))

set_option maxRecDepth 100000 in
set_option maxHeartbeats 1000000 in
theorem right_xz (k a : Int) (o : Bool) (l : List Nat) (r : Nat) (w : World) (hl : l.length = 25) (Hr : Away (∀ w1 : World, Calls Tryd.prog 28 #[.int .i64 k] w1 fun e w' => e = .returned (.int .i64 (r : Int)) ∧ w' = w1)) (hr : r = 0) :
    Calls Tryd.prog 19 #[.agg (SC k l a o)] w fun e w' => e = .returned (.bool false) ∧ Below w.heap.size w w' := by
  obtain ⟨W, hW⟩ : ∃ x, w.alloc (.cells (SC k l a o) 25) = x := ⟨_, rfl⟩
  have HW := Away.mk hW
  have Hb : Away (Below w.heap.size w W) := ⟨by rw [← hW]; exact below_alloc _ _⟩
  have hrow : W.heap[w.heap.size]? = some (.cells (SC k l a o) 25 (0, 0)) := by rw [← hW]; exact heap_at _ _ _ rfl
  have c0 := cell_at hrow (sc_kind k l a o)
  have ca := cell_at hrow (sc_at k a o hl)
  have co := cell_at hrow (sc_out k a o hl)
  clear hrow hW hl
  subst hr
  go_enter Tryd.func19, Tryd.ntmps19
  go_wp2_with (rw [HW.out])
  refine (Hr.out _).mono ?_
  rintro e w1 ⟨rfl, rfl⟩
  go_wp2_with fail
  go_ret
  exact ⟨rfl, Hb.out⟩

set_option maxRecDepth 100000 in
set_option maxHeartbeats 1000000 in
theorem right_xneg (k a : Int) (o : Bool) (l : List Nat) (r : Nat) (w : World) (hl : l.length = 25) (Hr : Away (∀ w1 : World, Calls Tryd.prog 28 #[.int .i64 k] w1 fun e w' => e = .returned (.int .i64 (r : Int)) ∧ w' = w1)) (hr : 0 < r) (ha : a < 0) :
    Calls Tryd.prog 19 #[.agg (SC k l a o)] w fun e w' => e = .returned (.bool false) ∧ Below w.heap.size w w' := by
  obtain ⟨W, hW⟩ : ∃ x, w.alloc (.cells (SC k l a o) 25) = x := ⟨_, rfl⟩
  have HW := Away.mk hW
  have Hb : Away (Below w.heap.size w W) := ⟨by rw [← hW]; exact below_alloc _ _⟩
  have hrow : W.heap[w.heap.size]? = some (.cells (SC k l a o) 25 (0, 0)) := by rw [← hW]; exact heap_at _ _ _ rfl
  have c0 := cell_at hrow (sc_kind k l a o)
  have ca := cell_at hrow (sc_at k a o hl)
  have co := cell_at hrow (sc_out k a o hl)
  clear hrow hW hl
  have h1 : (0 : Int) < (r : Int) := by omega
  clear hr
  go_enter Tryd.func19, Tryd.ntmps19
  go_wp2_with (rw [HW.out])
  refine (Hr.out _).mono ?_
  rintro e w1 ⟨rfl, rfl⟩
  go_wp2_with fail
  go_ret
  exact ⟨rfl, Hb.out⟩

set_option maxRecDepth 100000 in
set_option maxHeartbeats 1000000 in
theorem right_xin (k a : Int) (o : Bool) (l : List Nat) (r : Nat) (w : World) (hl : l.length = 25) (Hr : Away (∀ w1 : World, Calls Tryd.prog 28 #[.int .i64 k] w1 fun e w' => e = .returned (.int .i64 (r : Int)) ∧ w' = w1)) (ha : 0 ≤ a) (hb : a < (r : Int)) :
    Calls Tryd.prog 19 #[.agg (SC k l a o)] w fun e w' => e = .returned (.bool true) ∧ Below w.heap.size w w' := by
  obtain ⟨W, hW⟩ : ∃ x, w.alloc (.cells (SC k l a o) 25) = x := ⟨_, rfl⟩
  have HW := Away.mk hW
  have Hb : Away (Below w.heap.size w W) := ⟨by rw [← hW]; exact below_alloc _ _⟩
  have hrow : W.heap[w.heap.size]? = some (.cells (SC k l a o) 25 (0, 0)) := by rw [← hW]; exact heap_at _ _ _ rfl
  have c0 := cell_at hrow (sc_kind k l a o)
  have ca := cell_at hrow (sc_at k a o hl)
  have co := cell_at hrow (sc_out k a o hl)
  clear hrow hW hl
  have h1 : (0 : Int) < (r : Int) := by omega
  go_enter Tryd.func19, Tryd.ntmps19
  go_wp2_with (rw [HW.out])
  refine (Hr.out _).mono ?_
  rintro e w1 ⟨rfl, rfl⟩
  go_wp2_with fail
  go_ret
  exact ⟨rfl, Hb.out⟩

set_option maxRecDepth 100000 in
set_option maxHeartbeats 1000000 in
theorem right_xbigt (k a : Int) (o : Bool) (l : List Nat) (r : Nat) (w : World) (hl : l.length = 25) (Hr : Away (∀ w1 : World, Calls Tryd.prog 28 #[.int .i64 k] w1 fun e w' => e = .returned (.int .i64 (r : Int)) ∧ w' = w1)) (hb : (r : Int) < a) (hr : 0 < r) (ho : o = true) :
    Calls Tryd.prog 19 #[.agg (SC k l a o)] w fun e w' => e = .returned (.bool false) ∧ Below w.heap.size w w' := by
  obtain ⟨W, hW⟩ : ∃ x, w.alloc (.cells (SC k l a o) 25) = x := ⟨_, rfl⟩
  have HW := Away.mk hW
  have Hb : Away (Below w.heap.size w W) := ⟨by rw [← hW]; exact below_alloc _ _⟩
  have hrow : W.heap[w.heap.size]? = some (.cells (SC k l a o) 25 (0, 0)) := by rw [← hW]; exact heap_at _ _ _ rfl
  have c0 := cell_at hrow (sc_kind k l a o)
  have ca := cell_at hrow (sc_at k a o hl)
  have co := cell_at hrow (sc_out k a o hl)
  clear hrow hW hl
  subst ho
  have h1 : (0 : Int) < (r : Int) := by omega
  have h2 : (0 : Int) ≤ a := by omega
  have h3 : decide (a < (r : Int)) = false := decide_eq_false (by omega)
  have h4 : (a == (r : Int)) = false := beq_eq_false_iff_ne.2 (by omega)
  clear hr hb
  go_enter Tryd.func19, Tryd.ntmps19
  go_wp2_with (rw [HW.out])
  refine (Hr.out _).mono ?_
  rintro e w1 ⟨rfl, rfl⟩
  go_wp2_with fail
  go_ret
  exact ⟨rfl, Hb.out⟩

set_option maxRecDepth 100000 in
set_option maxHeartbeats 1000000 in
theorem right_xbigf (k a : Int) (o : Bool) (l : List Nat) (r : Nat) (w : World) (hl : l.length = 25) (Hr : Away (∀ w1 : World, Calls Tryd.prog 28 #[.int .i64 k] w1 fun e w' => e = .returned (.int .i64 (r : Int)) ∧ w' = w1)) (hb : (r : Int) ≤ a) (hr : 0 < r) (ho : o = false) :
    Calls Tryd.prog 19 #[.agg (SC k l a o)] w fun e w' => e = .returned (.bool false) ∧ Below w.heap.size w w' := by
  obtain ⟨W, hW⟩ : ∃ x, w.alloc (.cells (SC k l a o) 25) = x := ⟨_, rfl⟩
  have HW := Away.mk hW
  have Hb : Away (Below w.heap.size w W) := ⟨by rw [← hW]; exact below_alloc _ _⟩
  have hrow : W.heap[w.heap.size]? = some (.cells (SC k l a o) 25 (0, 0)) := by rw [← hW]; exact heap_at _ _ _ rfl
  have c0 := cell_at hrow (sc_kind k l a o)
  have ca := cell_at hrow (sc_at k a o hl)
  have co := cell_at hrow (sc_out k a o hl)
  clear hrow hW hl
  subst ho
  have h1 : (0 : Int) < (r : Int) := by omega
  have h2 : (0 : Int) ≤ a := by omega
  have h3 : decide (a < (r : Int)) = false := decide_eq_false (by omega)
  clear hr hb
  go_enter Tryd.func19, Tryd.ntmps19
  go_wp2_with (rw [HW.out])
  refine (Hr.out _).mono ?_
  rintro e w1 ⟨rfl, rfl⟩
  go_wp2_with fail
  go_ret
  exact ⟨rfl, Hb.out⟩

set_option maxRecDepth 100000 in
set_option maxHeartbeats 1000000 in
theorem right_xat (k a : Int) (o : Bool) (l : List Nat) (r : Nat) (w : World) (hl : l.length = 25) (Hr : Away (∀ w1 : World, Calls Tryd.prog 28 #[.int .i64 k] w1 fun e w' => e = .returned (.int .i64 (r : Int)) ∧ w' = w1)) (hb : a = (r : Int)) (hr : 0 < r) (ho : o = true) :
    Calls Tryd.prog 19 #[.agg (SC k l a o)] w fun e w' => e = .returned (.bool true) ∧ Below w.heap.size w w' := by
  obtain ⟨W, hW⟩ : ∃ x, w.alloc (.cells (SC k l a o) 25) = x := ⟨_, rfl⟩
  have HW := Away.mk hW
  have Hb : Away (Below w.heap.size w W) := ⟨by rw [← hW]; exact below_alloc _ _⟩
  have hrow : W.heap[w.heap.size]? = some (.cells (SC k l a o) 25 (0, 0)) := by rw [← hW]; exact heap_at _ _ _ rfl
  have c0 := cell_at hrow (sc_kind k l a o)
  have ca := cell_at hrow (sc_at k a o hl)
  have co := cell_at hrow (sc_out k a o hl)
  clear hrow hW hl
  subst ho hb
  have h1 : (0 : Int) < (r : Int) := by omega
  clear hr
  go_enter Tryd.func19, Tryd.ntmps19
  go_wp2_with (rw [HW.out])
  refine (Hr.out _).mono ?_
  rintro e w1 ⟨rfl, rfl⟩
  go_wp2_with fail
  go_ret
  exact ⟨rfl, Hb.out⟩

theorem right_any (k a : Int) (o : Bool) (l : List Nat) (w : World) (hl : l.length = 25) :
    Calls Tryd.prog 19 #[.agg (SC k l a o)] w fun e w' => e = .returned (.bool (ok k a o)) ∧ Below w.heap.size w w' := by
  have Hr : Away (∀ w1 : World, Calls Tryd.prog 28 #[.int .i64 k] w1 fun e w' => e = .returned (.int .i64 ((rate k : Nat) : Int)) ∧ w' = w1) := ⟨rate_any k⟩
  show Calls Tryd.prog 19 #[.agg (SC k l a o)] w fun e w' => e = .returned (.bool (okr (rate k) a o)) ∧ Below w.heap.size w w'
  obtain ⟨r, hr⟩ : ∃ r, rate k = r := ⟨_, rfl⟩
  rw [hr] at Hr ⊢
  clear hr
  by_cases h0 : r = 0
  · have e : okr r a o = false := by unfold okr; rw [h0]; rfl
    rw [e]; exact right_xz k a o l r w hl Hr h0
  · by_cases h1 : a < 0
    · have e : okr r a o = false := by unfold okr; rw [decide_eq_false (show ¬ 0 ≤ a by omega)]; simp
      rw [e]; exact right_xneg k a o l r w hl Hr (by omega) h1
    · by_cases h2 : a < (r : Int)
      · have e : okr r a o = true := by unfold okr; rw [decide_eq_true (show 0 < r by omega), decide_eq_true (show 0 ≤ a by omega), decide_eq_true h2]; rfl
        rw [e]; exact right_xin k a o l r w hl Hr (by omega) h2
      · cases o with
        | false =>
          have e : okr r a false = false := by unfold okr; rw [decide_eq_false h2]; simp
          rw [e]; exact right_xbigf k a false l r w hl Hr (by omega) (by omega) rfl
        | true =>
          by_cases h3 : a = (r : Int)
          · have e : okr r a true = true := by unfold okr; rw [decide_eq_true (show 0 < r by omega), decide_eq_true (show 0 ≤ a by omega), decide_eq_true h3]; simp
            rw [e]; exact right_xat k a true l r w hl Hr h3 (by omega) rfl
          · have e : okr r a true = false := by unfold okr; rw [decide_eq_false h2, decide_eq_false h3]; simp
            rw [e]; exact right_xbigt k a true l r w hl Hr (by omega) (by omega) rfl
end Go.Proofs.YtpibnfpgokjnpaaDoor.rspb
