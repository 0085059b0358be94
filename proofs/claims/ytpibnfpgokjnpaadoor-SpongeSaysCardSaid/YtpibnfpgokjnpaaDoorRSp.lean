/-
  A sponge as cells, and what the document's own rate, mark, Right and New of layer 6 return. Conditions: as each theorem says.
  What the document's own Right and New of layer 6 return. Conditions: the sponge's state has 25 words.
  What the document's own Absorb of layer 6 returns. Conditions: the sponge's state has 25 words of 64 bits, the tables have their size.
  What the document's own New of layer 6 returns. Conditions: none.
-/
import Derived.Test.YtpibnfpgokjnpaaDoorSp0
import Derived.Test.YtpibnfpgokjnpaaDoorRk
namespace Go.Proofs.YtpibnfpgokjnpaaDoor.rspa
open Go.RowKit
open Go.Proofs.YtpibnfpgokjnpaaDoor.arr Go.Proofs.YtpibnfpgokjnpaaDoor.mem Go.Proofs.YtpibnfpgokjnpaaDoor.kecm Go.Proofs.YtpibnfpgokjnpaaDoor.kecb Go.Proofs.YtpibnfpgokjnpaaDoor.spgm

set_option maxRecDepth 100000 in
set_option maxHeartbeats 1000000 in
theorem rate_any (k : Int) (w : World) : Calls Tryd.prog 28 #[.int .i64 k] w fun e w' => e = .returned (.int .i64 ((rate k : Nat) : Int)) ∧ w' = w := by
  unfold rate
  by_cases h1 : k = 1
  · subst h1
    go_enter Tryd.func28, Tryd.ntmps28
    go_wp2_with fail
    go_ret
    exact ⟨rfl, rfl⟩
  · by_cases h2 : k = 2
    · subst h2
      go_enter Tryd.func28, Tryd.ntmps28
      go_wp2_with fail
      go_ret
      exact ⟨rfl, rfl⟩
    · by_cases h3 : k = 3
      · subst h3
        go_enter Tryd.func28, Tryd.ntmps28
        go_wp2_with fail
        go_ret
        exact ⟨rfl, rfl⟩
      · by_cases h4 : k = 4
        · subst h4
          go_enter Tryd.func28, Tryd.ntmps28
          go_wp2_with fail
          go_ret
          exact ⟨rfl, rfl⟩
        · rw [if_neg h1, if_neg h2, if_neg h3, if_neg h4]
          go_enter Tryd.func28, Tryd.ntmps28
          go_wp2_with fail
          go_ret
          exact ⟨rfl, rfl⟩
set_option maxRecDepth 100000 in
set_option maxHeartbeats 1000000 in
theorem mark_any (k : Int) (w : World) : Calls Tryd.prog 32 #[.int .i64 k] w fun e w' => e = .returned (.int .u8 ((spgm.mark k : Nat) : Int)) ∧ w' = w := by
  unfold spgm.mark
  by_cases h1 : k = 1
  · subst h1
    go_enter Tryd.func32, Tryd.ntmps32
    go_wp2_with fail
    go_ret
    exact ⟨rfl, rfl⟩
  · by_cases h2 : k = 2
    · subst h2
      go_enter Tryd.func32, Tryd.ntmps32
      go_wp2_with fail
      go_ret
      exact ⟨rfl, rfl⟩
    · rw [if_neg h1, if_neg h2]
      have e1 : (k == 1) = false := by simpa using h1
      have e2 : (k == 2) = false := by simpa using h2
      go_enter Tryd.func32, Tryd.ntmps32
      go_wp2_with fail
      go_ret
      exact ⟨rfl, rfl⟩
end Go.Proofs.YtpibnfpgokjnpaaDoor.rspa

namespace Go.Proofs.YtpibnfpgokjnpaaDoor.rspb
open Go.RowKit
open Go.Proofs.YtpibnfpgokjnpaaDoor.arr Go.Proofs.YtpibnfpgokjnpaaDoor.mem Go.Proofs.YtpibnfpgokjnpaaDoor.kecm Go.Proofs.YtpibnfpgokjnpaaDoor.kecb Go.Proofs.YtpibnfpgokjnpaaDoor.spgm Go.Proofs.YtpibnfpgokjnpaaDoor.rspa

set_option maxRecDepth 100000 in
set_option maxHeartbeats 1000000 in
theorem right_xz (k a : Int) (o : Bool) (l : List Nat) (r : Nat) (w : World) (hl : l.length = 25) (Hr : Away (∀ w1 : World, Calls Tryd.prog 28 #[.int .i64 k] w1 fun e w' => e = .returned (.int .i64 (r : Int)) ∧ w' = w1)) (hr : r = 0) :
    Calls Tryd.prog 19 #[.agg (SC k l a o)] w fun e w' => e = .returned (.bool false) ∧ Below w.heap.size w w' := by
  obtain ⟨W, hW⟩ : ∃ x, w.alloc (.cells (SC k l a o) 25) = x := ⟨_, rfl⟩
  have HW := Away.mk hW
  have Hb : Away (Below w.heap.size w W) := ⟨by rw [← hW]; exact below_alloc _ _⟩
  have hrow : W.heap[w.heap.size]? = some (.cells (SC k l a o) 25 (0, 0)) := by rw [← hW]; exact heap_at _ _ _ rfl
  have c0 := cell_at hrow (sc_kind k l a o)
  have ca := cell_at hrow (sc_at k a o hl)
  have co := cell_at hrow (sc_out k a o hl)
  clear hrow hW hl
  subst hr
  go_enter Tryd.func19, Tryd.ntmps19
  go_wp2_with (rw [HW.out])
  refine (Hr.out _).mono ?_
  rintro e w1 ⟨rfl, rfl⟩
  go_wp2_with fail
  go_ret
  exact ⟨rfl, Hb.out⟩

set_option maxRecDepth 100000 in
set_option maxHeartbeats 1000000 in
theorem right_xneg (k a : Int) (o : Bool) (l : List Nat) (r : Nat) (w : World) (hl : l.length = 25) (Hr : Away (∀ w1 : World, Calls Tryd.prog 28 #[.int .i64 k] w1 fun e w' => e = .returned (.int .i64 (r : Int)) ∧ w' = w1)) (hr : 0 < r) (ha : a < 0) :
    Calls Tryd.prog 19 #[.agg (SC k l a o)] w fun e w' => e = .returned (.bool false) ∧ Below w.heap.size w w' := by
  obtain ⟨W, hW⟩ : ∃ x, w.alloc (.cells (SC k l a o) 25) = x := ⟨_, rfl⟩
  have HW := Away.mk hW
  have Hb : Away (Below w.heap.size w W) := ⟨by rw [← hW]; exact below_alloc _ _⟩
  have hrow : W.heap[w.heap.size]? = some (.cells (SC k l a o) 25 (0, 0)) := by rw [← hW]; exact heap_at _ _ _ rfl
  have c0 := cell_at hrow (sc_kind k l a o)
  have ca := cell_at hrow (sc_at k a o hl)
  have co := cell_at hrow (sc_out k a o hl)
  clear hrow hW hl
  have h1 : (0 : Int) < (r : Int) := by omega
  clear hr
  go_enter Tryd.func19, Tryd.ntmps19
  go_wp2_with (rw [HW.out])
  refine (Hr.out _).mono ?_
  rintro e w1 ⟨rfl, rfl⟩
  go_wp2_with fail
  go_ret
  exact ⟨rfl, Hb.out⟩

set_option maxRecDepth 100000 in
set_option maxHeartbeats 1000000 in
theorem right_xin (k a : Int) (o : Bool) (l : List Nat) (r : Nat) (w : World) (hl : l.length = 25) (Hr : Away (∀ w1 : World, Calls Tryd.prog 28 #[.int .i64 k] w1 fun e w' => e = .returned (.int .i64 (r : Int)) ∧ w' = w1)) (ha : 0 ≤ a) (hb : a < (r : Int)) :
    Calls Tryd.prog 19 #[.agg (SC k l a o)] w fun e w' => e = .returned (.bool true) ∧ Below w.heap.size w w' := by
  obtain ⟨W, hW⟩ : ∃ x, w.alloc (.cells (SC k l a o) 25) = x := ⟨_, rfl⟩
  have HW := Away.mk hW
  have Hb : Away (Below w.heap.size w W) := ⟨by rw [← hW]; exact below_alloc _ _⟩
  have hrow : W.heap[w.heap.size]? = some (.cells (SC k l a o) 25 (0, 0)) := by rw [← hW]; exact heap_at _ _ _ rfl
  have c0 := cell_at hrow (sc_kind k l a o)
  have ca := cell_at hrow (sc_at k a o hl)
  have co := cell_at hrow (sc_out k a o hl)
  clear hrow hW hl
  have h1 : (0 : Int) < (r : Int) := by omega
  go_enter Tryd.func19, Tryd.ntmps19
  go_wp2_with (rw [HW.out])
  refine (Hr.out _).mono ?_
  rintro e w1 ⟨rfl, rfl⟩
  go_wp2_with fail
  go_ret
  exact ⟨rfl, Hb.out⟩

set_option maxRecDepth 100000 in
set_option maxHeartbeats 1000000 in
theorem right_xbigt (k a : Int) (o : Bool) (l : List Nat) (r : Nat) (w : World) (hl : l.length = 25) (Hr : Away (∀ w1 : World, Calls Tryd.prog 28 #[.int .i64 k] w1 fun e w' => e = .returned (.int .i64 (r : Int)) ∧ w' = w1)) (hb : (r : Int) < a) (hr : 0 < r) (ho : o = true) :
    Calls Tryd.prog 19 #[.agg (SC k l a o)] w fun e w' => e = .returned (.bool false) ∧ Below w.heap.size w w' := by
  obtain ⟨W, hW⟩ : ∃ x, w.alloc (.cells (SC k l a o) 25) = x := ⟨_, rfl⟩
  have HW := Away.mk hW
  have Hb : Away (Below w.heap.size w W) := ⟨by rw [← hW]; exact below_alloc _ _⟩
  have hrow : W.heap[w.heap.size]? = some (.cells (SC k l a o) 25 (0, 0)) := by rw [← hW]; exact heap_at _ _ _ rfl
  have c0 := cell_at hrow (sc_kind k l a o)
  have ca := cell_at hrow (sc_at k a o hl)
  have co := cell_at hrow (sc_out k a o hl)
  clear hrow hW hl
  subst ho
  have h1 : (0 : Int) < (r : Int) := by omega
  have h2 : (0 : Int) ≤ a := by omega
  have h3 : decide (a < (r : Int)) = false := decide_eq_false (by omega)
  have h4 : (a == (r : Int)) = false := beq_eq_false_iff_ne.2 (by omega)
  clear hr hb
  go_enter Tryd.func19, Tryd.ntmps19
  go_wp2_with (rw [HW.out])
  refine (Hr.out _).mono ?_
  rintro e w1 ⟨rfl, rfl⟩
  go_wp2_with fail
  go_ret
  exact ⟨rfl, Hb.out⟩

set_option maxRecDepth 100000 in
set_option maxHeartbeats 1000000 in
theorem right_xbigf (k a : Int) (o : Bool) (l : List Nat) (r : Nat) (w : World) (hl : l.length = 25) (Hr : Away (∀ w1 : World, Calls Tryd.prog 28 #[.int .i64 k] w1 fun e w' => e = .returned (.int .i64 (r : Int)) ∧ w' = w1)) (hb : (r : Int) ≤ a) (hr : 0 < r) (ho : o = false) :
    Calls Tryd.prog 19 #[.agg (SC k l a o)] w fun e w' => e = .returned (.bool false) ∧ Below w.heap.size w w' := by
  obtain ⟨W, hW⟩ : ∃ x, w.alloc (.cells (SC k l a o) 25) = x := ⟨_, rfl⟩
  have HW := Away.mk hW
  have Hb : Away (Below w.heap.size w W) := ⟨by rw [← hW]; exact below_alloc _ _⟩
  have hrow : W.heap[w.heap.size]? = some (.cells (SC k l a o) 25 (0, 0)) := by rw [← hW]; exact heap_at _ _ _ rfl
  have c0 := cell_at hrow (sc_kind k l a o)
  have ca := cell_at hrow (sc_at k a o hl)
  have co := cell_at hrow (sc_out k a o hl)
  clear hrow hW hl
  subst ho
  have h1 : (0 : Int) < (r : Int) := by omega
  have h2 : (0 : Int) ≤ a := by omega
  have h3 : decide (a < (r : Int)) = false := decide_eq_false (by omega)
  clear hr hb
  go_enter Tryd.func19, Tryd.ntmps19
  go_wp2_with (rw [HW.out])
  refine (Hr.out _).mono ?_
  rintro e w1 ⟨rfl, rfl⟩
  go_wp2_with fail
  go_ret
  exact ⟨rfl, Hb.out⟩

set_option maxRecDepth 100000 in
set_option maxHeartbeats 1000000 in
theorem right_xat (k a : Int) (o : Bool) (l : List Nat) (r : Nat) (w : World) (hl : l.length = 25) (Hr : Away (∀ w1 : World, Calls Tryd.prog 28 #[.int .i64 k] w1 fun e w' => e = .returned (.int .i64 (r : Int)) ∧ w' = w1)) (hb : a = (r : Int)) (hr : 0 < r) (ho : o = true) :
    Calls Tryd.prog 19 #[.agg (SC k l a o)] w fun e w' => e = .returned (.bool true) ∧ Below w.heap.size w w' := by
  obtain ⟨W, hW⟩ : ∃ x, w.alloc (.cells (SC k l a o) 25) = x := ⟨_, rfl⟩
  have HW := Away.mk hW
  have Hb : Away (Below w.heap.size w W) := ⟨by rw [← hW]; exact below_alloc _ _⟩
  have hrow : W.heap[w.heap.size]? = some (.cells (SC k l a o) 25 (0, 0)) := by rw [← hW]; exact heap_at _ _ _ rfl
  have c0 := cell_at hrow (sc_kind k l a o)
  have ca := cell_at hrow (sc_at k a o hl)
  have co := cell_at hrow (sc_out k a o hl)
  clear hrow hW hl
  subst ho hb
  have h1 : (0 : Int) < (r : Int) := by omega
  clear hr
  go_enter Tryd.func19, Tryd.ntmps19
  go_wp2_with (rw [HW.out])
  refine (Hr.out _).mono ?_
  rintro e w1 ⟨rfl, rfl⟩
  go_wp2_with fail
  go_ret
  exact ⟨rfl, Hb.out⟩

theorem right_any (k a : Int) (o : Bool) (l : List Nat) (w : World) (hl : l.length = 25) :
    Calls Tryd.prog 19 #[.agg (SC k l a o)] w fun e w' => e = .returned (.bool (ok k a o)) ∧ Below w.heap.size w w' := by
  have Hr : Away (∀ w1 : World, Calls Tryd.prog 28 #[.int .i64 k] w1 fun e w' => e = .returned (.int .i64 ((rate k : Nat) : Int)) ∧ w' = w1) := ⟨rate_any k⟩
  show Calls Tryd.prog 19 #[.agg (SC k l a o)] w fun e w' => e = .returned (.bool (okr (rate k) a o)) ∧ Below w.heap.size w w'
  obtain ⟨r, hr⟩ : ∃ r, rate k = r := ⟨_, rfl⟩
  rw [hr] at Hr ⊢
  clear hr
  by_cases h0 : r = 0
  · have e : okr r a o = false := by unfold okr; rw [h0]; rfl
    rw [e]; exact right_xz k a o l r w hl Hr h0
  · by_cases h1 : a < 0
    · have e : okr r a o = false := by unfold okr; rw [decide_eq_false (show ¬ 0 ≤ a by omega)]; simp
      rw [e]; exact right_xneg k a o l r w hl Hr (by omega) h1
    · by_cases h2 : a < (r : Int)
      · have e : okr r a o = true := by unfold okr; rw [decide_eq_true (show 0 < r by omega), decide_eq_true (show 0 ≤ a by omega), decide_eq_true h2]; rfl
        rw [e]; exact right_xin k a o l r w hl Hr (by omega) h2
      · cases o with
        | false =>
          have e : okr r a false = false := by unfold okr; rw [decide_eq_false h2]; simp
          rw [e]; exact right_xbigf k a false l r w hl Hr (by omega) (by omega) rfl
        | true =>
          by_cases h3 : a = (r : Int)
          · have e : okr r a true = true := by unfold okr; rw [decide_eq_true (show 0 < r by omega), decide_eq_true (show 0 ≤ a by omega), decide_eq_true h3]; simp
            rw [e]; exact right_xat k a true l r w hl Hr h3 (by omega) rfl
          · have e : okr r a true = false := by unfold okr; rw [decide_eq_false h2, decide_eq_false h3]; simp
            rw [e]; exact right_xbigt k a true l r w hl Hr (by omega) (by omega) rfl
end Go.Proofs.YtpibnfpgokjnpaaDoor.rspb

namespace Go.Proofs.YtpibnfpgokjnpaaDoor.rspd
open Go.RowKit
open Go.Proofs.YtpibnfpgokjnpaaDoor.arr Go.Proofs.YtpibnfpgokjnpaaDoor.mem Go.Proofs.YtpibnfpgokjnpaaDoor.kecm Go.Proofs.YtpibnfpgokjnpaaDoor.kecb Go.Proofs.YtpibnfpgokjnpaaDoor.kstep Go.Proofs.YtpibnfpgokjnpaaDoor.kfun Go.Proofs.YtpibnfpgokjnpaaDoor.spgm Go.Proofs.YtpibnfpgokjnpaaDoor.rspa Go.Proofs.YtpibnfpgokjnpaaDoor.rspb Go.Proofs.YtpibnfpgokjnpaaDoor.rspc

set_option maxRecDepth 100000 in
set_option maxHeartbeats 2000000 in
theorem absorb_bad {T : Array Value} {ts rs : List Nat} (k a : Int) (o : Bool) (l : List Nat) (b : ByteArray) (w : World) (h : St l) (hK : KT T ts rs) (hok : ok k a o = false) :
    Calls Tryd.prog 9 #[.agg T, .agg (SC k l a o), .string b] w fun e w' => e = .returned (.tuple #[.agg (SC k l a o), .int .i64 1]) ∧ Below w.heap.size w w' := by
  have Hrt : Away (∀ w1 : World, Calls Tryd.prog 19 #[.agg (SC k l a o)] w1 fun e w' => e = .returned (.bool false) ∧ Below w1.heap.size w1 w') := ⟨fun w1 => by have h9 := right_any k a o l w1 h.len; rw [hok] at h9; exact h9⟩
  have H := Away.mk h
  have HK := Away.mk hK
  have HTz : Away ((Tryd.prog.info? 36).map (·.size) = some T.size) := ⟨by rw [hK.size]; exact rkeb.sizeT⟩
  obtain ⟨z, HZ⟩ := ex_eq Z
  have HZl : Away (z.length = 25) := ⟨by rw [← HZ.out]; rfl⟩
  have Hz : Away ((#[.int .i64 0, .int .u64 0, .int .u64 0, .int .u64 0, .int .u64 0, .int .u64 0, .int .u64 0, .int .u64 0, .int .u64 0, .int .u64 0, .int .u64 0, .int .u64 0, .int .u64 0, .int .u64 0, .int .u64 0, .int .u64 0, .int .u64 0, .int .u64 0, .int .u64 0, .int .u64 0, .int .u64 0, .int .u64 0, .int .u64 0, .int .u64 0, .int .u64 0, .int .u64 0, .int .i64 0, .bool false] : Array Value) = SC 0 z 0 false) := ⟨by rw [← HZ.out]; exact zs_is⟩
  clear h hK HZ
  go_enter Tryd.func9, Tryd.ntmps9
  obtain ⟨W, hW⟩ : ∃ x, ((w.alloc (.cells T 36)).alloc (.cells (SC k l a o) 25)).alloc (.cells (SC 0 z 0 false) 25) = x := ⟨_, rfl⟩
  obtain ⟨b0, b1, b2, hWs, hWb⟩ := three hW
  have B0 := Away.mk b0
  have B1 := Away.mk b1
  have B2 := Away.mk b2
  have HWs := Away.mk hWs
  have HWb := Away.mk hWb
  have HW := Away.mk hW
  have Si := Away.mk (sc_info k a o H.out.len)
  have So := Away.mk (sc_one k l a o)
  have Sz := Away.mk (sc_same k 0 a 0 o false H.out.len HZl.out)
  have c3 := cell_at b1 (sc_out k a o H.out.len)
  have c0 := cell_at b1 (sc_kind k l a o)
  obtain ⟨S, HS⟩ := ex_eq (SC k l a o)
  rw [HS.out] at B1 Si So Sz HW Hrt
  clear hWs hWb hW b0 b1 b2
  rw [HS.out]
  go_wp2_with (first
    | (rw [Hz.out, HW.out])
    | (refine wpList_load_row rfl 25 _ rfl (w.heap.size + 1) rfl 25 S (0, 0) _ B1.out Tryd.underlying25 rfl Si.out ?_))
  refine (Hrt.out _).mono ?_
  rintro e w1 ⟨rfl, hb1⟩
  have B1' : Away (w1.heap[w.heap.size + 1]? = some (.cells S 25 (0, 0))) := ⟨(hb1.block _ (by have := HWs.out; omega)).trans B1.out⟩
  have B2' : Away (w1.heap[w.heap.size + 2]? = some (.cells (SC 0 z 0 false) 25 (0, 0))) := ⟨(hb1.block _ (by have := HWs.out; omega)).trans B2.out⟩
  have Hb1 : Away (Below w.heap.size w w1) := ⟨HWb.out.trans (hb1.mono (by have := HWs.out; omega))⟩
  clear hb1 c0 c3
  go_wp2_with (first
    | (refine wpList_load_row rfl 25 _ rfl (w.heap.size + 1) rfl 25 S (0, 0) _ B1'.out Tryd.underlying25 rfl Si.out ?_)
    | (refine wpList_store_row rfl 25 _ _ rfl (w.heap.size + 2) S rfl rfl 25 _ B2'.out Si.out Sz.out.symm So.out ?_))
  refine bodyPost_ret_by (v := .tuple #[.agg S, .int .i64 1]) (rspc.results_cell_tmp rfl _ _ (w.heap.size + 2) 25 _ (0, 0) _ rfl (setRow_heap _ _ _ _ _ _ B2'.out) Tryd.underlying25 rfl Si.out _ rfl) rfl ?_
  exact ⟨rfl, Hb1.out.trans (below_setRow _ _ _ (by omega))⟩

set_option maxRecDepth 100000 in
set_option maxHeartbeats 2000000 in
theorem absorb_out {T : Array Value} {ts rs : List Nat} (k a : Int) (l : List Nat) (b : ByteArray) (w : World) (h : St l) (hK : KT T ts rs) (hok : ok k a true = true) :
    Calls Tryd.prog 9 #[.agg T, .agg (SC k l a true), .string b] w fun e w' => e = .returned (.tuple #[.agg (SC k l a true), .int .i64 16]) ∧ Below w.heap.size w w' := by
  have Hrt : Away (∀ w1 : World, Calls Tryd.prog 19 #[.agg (SC k l a true)] w1 fun e w' => e = .returned (.bool true) ∧ Below w1.heap.size w1 w') := ⟨fun w1 => by have h9 := right_any k a true l w1 h.len; rw [hok] at h9; exact h9⟩
  have H := Away.mk h
  have HK := Away.mk hK
  have HTz : Away ((Tryd.prog.info? 36).map (·.size) = some T.size) := ⟨by rw [hK.size]; exact rkeb.sizeT⟩
  obtain ⟨z, HZ⟩ := ex_eq Z
  have HZl : Away (z.length = 25) := ⟨by rw [← HZ.out]; rfl⟩
  have Hz : Away ((#[.int .i64 0, .int .u64 0, .int .u64 0, .int .u64 0, .int .u64 0, .int .u64 0, .int .u64 0, .int .u64 0, .int .u64 0, .int .u64 0, .int .u64 0, .int .u64 0, .int .u64 0, .int .u64 0, .int .u64 0, .int .u64 0, .int .u64 0, .int .u64 0, .int .u64 0, .int .u64 0, .int .u64 0, .int .u64 0, .int .u64 0, .int .u64 0, .int .u64 0, .int .u64 0, .int .i64 0, .bool false] : Array Value) = SC 0 z 0 false) := ⟨by rw [← HZ.out]; exact zs_is⟩
  clear h hK HZ
  go_enter Tryd.func9, Tryd.ntmps9
  obtain ⟨W, hW⟩ : ∃ x, ((w.alloc (.cells T 36)).alloc (.cells (SC k l a true) 25)).alloc (.cells (SC 0 z 0 false) 25) = x := ⟨_, rfl⟩
  obtain ⟨b0, b1, b2, hWs, hWb⟩ := three hW
  have B0 := Away.mk b0
  have B1 := Away.mk b1
  have B2 := Away.mk b2
  have HWs := Away.mk hWs
  have HWb := Away.mk hWb
  have HW := Away.mk hW
  have Si := Away.mk (sc_info k a true H.out.len)
  have So := Away.mk (sc_one k l a true)
  have Sz := Away.mk (sc_same k 0 a 0 true false H.out.len HZl.out)
  have c3 := cell_at b1 (sc_out k a true H.out.len)
  have c0 := cell_at b1 (sc_kind k l a true)
  obtain ⟨S, HS⟩ := ex_eq (SC k l a true)
  rw [HS.out] at B1 Si So Sz HW Hrt
  clear hWs hWb hW b0 b1 b2
  rw [HS.out]
  go_wp2_with (first
    | (rw [Hz.out, HW.out])
    | (refine wpList_load_row rfl 25 _ rfl (w.heap.size + 1) rfl 25 S (0, 0) _ B1.out Tryd.underlying25 rfl Si.out ?_))
  refine (Hrt.out _).mono ?_
  rintro e w1 ⟨rfl, hb1⟩
  have B1' : Away (w1.heap[w.heap.size + 1]? = some (.cells S 25 (0, 0))) := ⟨(hb1.block _ (by have := HWs.out; omega)).trans B1.out⟩
  have B2' : Away (w1.heap[w.heap.size + 2]? = some (.cells (SC 0 z 0 false) 25 (0, 0))) := ⟨(hb1.block _ (by have := HWs.out; omega)).trans B2.out⟩
  have Hb1 : Away (Below w.heap.size w w1) := ⟨HWb.out.trans (hb1.mono (by have := HWs.out; omega))⟩
  have c3' : w1.cell? ⟨w.heap.size + 1, 27, none⟩ = some (.bool true) := cell_at B1'.out (by rw [← HS.out]; exact sc_out k a true H.out.len)
  clear hb1 c0 c3
  go_wp2_with (first
    | (refine wpList_load_row rfl 25 _ rfl (w.heap.size + 1) rfl 25 S (0, 0) _ B1'.out Tryd.underlying25 rfl Si.out ?_)
    | (refine wpList_store_row rfl 25 _ _ rfl (w.heap.size + 2) S rfl rfl 25 _ B2'.out Si.out Sz.out.symm So.out ?_))
  refine bodyPost_ret_by (v := .tuple #[.agg S, .int .i64 16]) (rspc.results_cell_tmp rfl _ _ (w.heap.size + 2) 25 _ (0, 0) _ rfl (setRow_heap _ _ _ _ _ _ B2'.out) Tryd.underlying25 rfl Si.out _ rfl) rfl ?_
  exact ⟨rfl, Hb1.out.trans (below_setRow _ _ _ (by omega))⟩

set_option maxRecDepth 100000 in
set_option maxHeartbeats 4000000 in
theorem absorb_go {T : Array Value} {ts rs : List Nat} (k : Int) (a : Nat) (l : List Nat) (b : ByteArray) (w : World) (h : St l) (hK : KT T ts rs) (hok : ok k (a : Int) false = true) (hb : b.size ≤ 1125899906842624) :
    Calls Tryd.prog 9 #[.agg T, .agg (SC k l (a : Int) false), .string b] w fun e w' => e = .returned (.tuple #[.agg (SC k (abs (PP ts rs) (rate k) ⟨l, a⟩ (bys b)).l ((abs (PP ts rs) (rate k) ⟨l, a⟩ (bys b)).at' : Nat) false), .int .i64 0]) ∧ Below w.heap.size w w' := by
  have Hrt : Away (∀ w1 : World, Calls Tryd.prog 19 #[.agg (SC k l (a : Int) false)] w1 fun e w' => e = .returned (.bool true) ∧ Below w1.heap.size w1 w') := ⟨fun w1 => by have h9 := right_any k (a : Int) false l w1 h.len; rw [hok] at h9; exact h9⟩
  have hra : a < rate k ∧ rate k ≤ 168 := ⟨ok_lt k a hok, rate_le k⟩
  have Hrate : Away (∀ w1 : World, Calls Tryd.prog 28 #[.int .i64 k] w1 fun e w' => e = .returned (.int .i64 ((rate k : Nat) : Int)) ∧ w' = w1) := ⟨rate_any k⟩
  obtain ⟨r, hr⟩ : ∃ r, rate k = r := ⟨_, rfl⟩
  rw [hr] at hra Hrate ⊢
  have Hra := Away.mk hra
  clear hr hok hra
  have H := Away.mk h
  have HK := Away.mk hK
  have HTz : Away ((Tryd.prog.info? 36).map (·.size) = some T.size) := ⟨by rw [hK.size]; exact rkeb.sizeT⟩
  obtain ⟨z, HZ⟩ := ex_eq Z
  have HZl : Away (z.length = 25) := ⟨by rw [← HZ.out]; rfl⟩
  have Hz : Away ((#[.int .i64 0, .int .u64 0, .int .u64 0, .int .u64 0, .int .u64 0, .int .u64 0, .int .u64 0, .int .u64 0, .int .u64 0, .int .u64 0, .int .u64 0, .int .u64 0, .int .u64 0, .int .u64 0, .int .u64 0, .int .u64 0, .int .u64 0, .int .u64 0, .int .u64 0, .int .u64 0, .int .u64 0, .int .u64 0, .int .u64 0, .int .u64 0, .int .u64 0, .int .u64 0, .int .i64 0, .bool false] : Array Value) = SC 0 z 0 false) := ⟨by rw [← HZ.out]; exact zs_is⟩
  clear h hK HZ
  have C1 : Away (∀ (l : List Nat) (w1 : World), St l → Calls Tryd.prog 29 #[.agg T, .agg (LK .u64 l)] w1 fun e w' => e = .returned (.agg (LK .u64 (PP ts rs l))) ∧ Below w1.heap.size w1 w') := ⟨fun l w1 hl => rperm.perm_any l w1 hl HK.out⟩
  obtain ⟨E, HE⟩ := ex_eq (abs (PP ts rs) r ⟨l, a⟩ (bys b))
  have HEs : Away (St E.l) := ⟨by rw [← HE.out]; exact (abs_ok (fun _ h => pp_st HK.out.br h) _ H.out Hra.out.1).1⟩
  have HEa : Away (sa ts rs r l a (bys b) b.size = E) := ⟨by rw [← HE.out, sa, List.take_of_length_le (by rw [bys_length]; exact Nat.le_refl _)]⟩
  rw [HE.out]
  clear HE
  go_enter Tryd.func9, Tryd.ntmps9
  obtain ⟨W, hW⟩ : ∃ x, ((w.alloc (.cells T 36)).alloc (.cells (SC k l (a : Int) false) 25)).alloc (.cells (SC 0 z 0 false) 25) = x := ⟨_, rfl⟩
  obtain ⟨b0, b1, b2, hWs, hWb⟩ := three hW
  have B0 := Away.mk b0
  have B1 := Away.mk b1
  have B2 := Away.mk b2
  have HWs := Away.mk hWs
  have HWb := Away.mk hWb
  have HW := Away.mk hW
  have Si := Away.mk (sc_info k (a : Int) false H.out.len)
  have So := Away.mk (sc_one k l (a : Int) false)
  have Sz := Away.mk (sc_same k 0 (a : Int) 0 false false H.out.len HZl.out)
  have c3 := cell_at b1 (sc_out k (a : Int) false H.out.len)
  have c0 := cell_at b1 (sc_kind k l (a : Int) false)
  obtain ⟨S, HS⟩ := ex_eq (SC k l (a : Int) false)
  rw [HS.out] at B1 Si So Sz HW Hrt
  clear hWs hWb hW b0 b1 b2
  rw [HS.out]
  go_wp2_with (first
    | (rw [Hz.out, HW.out])
    | (refine wpList_load_row rfl 25 _ rfl (w.heap.size + 1) rfl 25 S (0, 0) _ B1.out Tryd.underlying25 rfl Si.out ?_))
  refine (Hrt.out _).mono ?_
  rintro e w1 ⟨rfl, hb1⟩
  rw [← HS.out] at B1
  have A1 : Away (At (w.heap.size + 1) (SC k l (a : Int) false) 25 W w1) := ⟨(At.refl B1.out).later hb1⟩
  have c3' : w1.cell? ⟨w.heap.size + 1, 27, none⟩ = some (.bool false) := cell_at A1.out.row (sc_out k (a : Int) false H.out.len)
  have c0' : w1.cell? ⟨w.heap.size + 1, 0, none⟩ = some (.int .i64 k) := cell_at A1.out.row (sc_kind k l (a : Int) false)
  clear hb1 c0 c3 HS Si So Sz Hrt
  go_wp2_with fail
  refine (Hrate.out _).mono ?_
  rintro e w2 ⟨rfl, rfl⟩
  go_wp2_with fail
  clear c3' c0'
  go_loopw [22] (fun i wr => ∃ i' : Nat, i' ≤ b.size ∧ i = .int .i64 (i' : Int) ∧ Away (At (w.heap.size + 1) (SC k (sa ts rs r l a (bys b) i').l ((sa ts rs r l a (bys b) i').at' : Nat) false) 25 W wr)) (fun i _ => b.size - (intOf i).toNat)
  case atStart => exact ⟨0, Nat.zero_le _, rfl, A1⟩
  case round =>
    clear A1
    obtain ⟨i, hi, rfl, A0⟩ := hrel
    by_cases hlt : i < b.size
    · have hiz : (i : Int) < (b.size : Int) := by omega
      obtain ⟨s, Hs⟩ := ex_eq (sa ts rs r l a (bys b) i)
      have Hso : Away (St s.l ∧ s.at' < r) := ⟨by rw [← Hs.out]; exact sa_ok HK.out.br H.out Hra.out.1 _ _⟩
      rw [Hs.out] at A0
      obtain ⟨β, hβ⟩ : ∃ β, (bys b).getD i 0 = β := ⟨_, rfl⟩
      have bβ : β < 256 := hβ ▸ bys_lt b i
      have hidx := byte_of b i β hlt hβ
      have Hn : Away (sa ts rs r l a (bys b) (i + 1) = ab (PP ts rs) r s β) := ⟨by rw [sa_next ts rs r l a (bys b) i β (by rw [bys_length]; exact hlt) hβ, Hs.out]⟩
      obtain ⟨sl, p⟩ := s
      have h168 := Hra.out.2
      have hsl := Hso.out.1
      have hp := Hso.out.2
      simp only at hsl hp A0
      obtain ⟨q, hq⟩ : ∃ q, p / 8 = q := ⟨_, rfl⟩
      obtain ⟨m, hm⟩ : ∃ m, p % 8 = m := ⟨_, rfl⟩
      obtain ⟨c, hc⟩ : ∃ c, c = 8 * m := ⟨_, rfl⟩
      have fq : (p : Int).tdiv 8 = (q : Int) := by rw [Int.tdiv_eq_ediv_of_nonneg (by omega)]; omega
      have fqw : IntKind.i64.wrap ((p : Int).tdiv 8) = (q : Int) := by rw [fq, IntKind.wrap_i64]; omega
      have fm : (p : Int).tmod 8 = (m : Int) := by rw [Int.tmod_eq_emod_of_nonneg (by omega)]; omega
      have fq2 : (p : Int) / 8 = (q : Int) := by omega
      have fq3 : IntKind.i64.wrap (q : Int) = (q : Int) := by rw [IntKind.wrap_i64]; omega
      have fm2 : (p : Int) % 8 = (m : Int) := by omega
      have fc : IntKind.i64.wrap (8 * (m : Int)) = (c : Int) := by rw [IntKind.wrap_i64]; omega
      have fu : IntKind.u64.wrap (c : Int) = (c : Int) := by rw [IntKind.wrap_u64]; omega
      have hc63 : c ≤ 63 := by omega
      have hq25 : q < 25 := by omega
      have hqz : (q : Int) < 25 := by omega
      obtain ⟨x, hx⟩ : ∃ x, g sl q = x := ⟨_, rfl⟩
      have bx : x < 18446744073709551616 := hx ▸ hsl.lt q
      obtain ⟨y, hy⟩ : ∃ y, β * 2 ^ c % 18446744073709551616 = y := ⟨_, rfl⟩
      have by' : y < 18446744073709551616 := hy ▸ Nat.mod_lt _ (by decide)
      have fs := shl_is β c
      rw [hy] at fs
      have fb : IntKind.u64.wrap (β : Int) = (β : Int) := by rw [IntKind.wrap_u64]; omega
      have fy : IntKind.u64.wrap ((β : Int) * 2 ^ c) = (y : Int) := by rw [IntKind.wrap_u64]; exact fs
      obtain ⟨v, hv⟩ : ∃ v, x ^^^ y = v := ⟨_, rfl⟩
      have V := xor2 x y v bx by' hv
      have Hxb : Away (sl.set q v = xb sl p β) := ⟨by unfold xb; rw [hq, hm, ← hc, hx, hy, hv]⟩
      have cp : wr.cell? ⟨w.heap.size + 1, 26, none⟩ = some (.int .i64 (p : Int)) := cell_at A0.out.row (sc_at k _ false hsl.len)
      have cx : wr.cell? ⟨w.heap.size + 1, 1 + q, none⟩ = some (.int .u64 (x : Int)) := by rw [← hx]; exact cell_at A0.out.row (sc_lane k _ false hsl.len q hq25)
      have Hsl := Away.mk hsl
      have Hp := Away.mk hp
      clear hq hm hc hx hy hv hβ hi hsl hp h168
      go_wp2_with fail
      refine still_tail 19 (by kernel_rfl) (by kernel_rfl) ?_
      simp only [List.take_succ_cons, List.take_zero, List.drop_succ_cons, List.drop_zero]
      repeat still_step

      refine wpStill_nil ?_
      have hz28 : ∀ (k a : Int) (o : Bool) {l : List Nat}, l.length = 25 → (SC k l a o).size = 28 := fun k a o l h => sc_size k a o h
      have A1 : Away (At (w.heap.size + 1) (SC k sl (p : Int) false) 25 W wr.drew) := ⟨at_drew A0.out⟩
      clear cp cx fq fqw fm fq2 fq3 fm2 fc fu fs V A0 fb fy
      with_reducible refine wpList_put2 A1 rfl _ _ _ rfl rfl ?_
      refine ⟨_, _, _, rfl, rfl, rfl, by rw [hz28 _ _ _ Hsl.out.len]; omega, ?_⟩
      intro wn HR1
      rw [sc_setl k _ false Hsl.out.len q v hq25, Hxb.out] at HR1
      obtain ⟨xl, Hxl⟩ := ex_eq (xb sl p β)
      have HX : Away (St xl) := ⟨by rw [← Hxl.out]; exact xb_st Hsl.out p β⟩
      rw [Hxl.out] at HR1
      have cp1 : wn.cell? ⟨w.heap.size + 1, 26, none⟩ = some (.int .i64 (p : Int)) := cell_at HR1.out.row (sc_at k _ false HX.out.len)
      have hp8 : p ≤ 168 := by have := Hp.out; have := Hra.out.2; omega
      by_cases he : p + 1 = r
      · have hz : ((p : Int) + 1 == (r : Int)) = true := beq_iff_eq.2 (by omega)
        have Hn2 : Away (sa ts rs r l a (bys b) (i + 1) = ⟨PP ts rs xl, 0⟩) := ⟨by rw [Hn.out, ab, if_pos he, Hxl.out]⟩
        have HQ : Away (St (PP ts rs xl)) := ⟨pp_st HK.out.br HX.out⟩
        obtain ⟨pl, Hpl⟩ := ex_eq (PP ts rs xl)
        rw [Hpl.out] at HQ Hn2
        have C2 : Away (∀ w1 : World, Calls Tryd.prog 29 #[.agg T, .agg (LK .u64 xl)] w1 fun e w' => e = .returned (.agg (LK .u64 pl)) ∧ Below w1.heap.size w1 w') := ⟨fun w1 => by rw [← Hpl.out]; exact C1.out xl w1 HX.out⟩
        have Xz := Away.mk (show (Tryd.prog.info? 23).map (·.size) = some (LK .u64 xl).toList.length by rw [Array.length_toList]; exact size25 HX.out.len)
        clear he Hn Hxb Hsl Hp A1 hidx bβ
        go_wp2_with (first
          | ((with_reducible refine wpList_put2 (by assumption) rfl _ _ _ rfl rfl ?_); refine ⟨_, _, _, rfl, rfl, rfl, (by rw [hz28 _ _ _ HX.out.len]; decide), ?_⟩; intro w5 HR2; rw [sc_seta k _ _ false HX.out.len] at HR2; have cp2 : w5.cell? ⟨w.heap.size + 1, 26, none⟩ = some (.int .i64 ((p : Int) + 1)) := cell_at HR2.out.row (sc_at k _ false HX.out.len); have T5 : Away (w5.heap[w.heap.size]? = some (.cells T 36 (0, 0))) := ⟨HR2.out.other (by have := HWs.out; omega) (by omega) B0.out⟩; have L5 := Away.mk (lanes_at HR2.out.row HX.out.len))
          | (refine wpList_load_row rfl 36 _ rfl w.heap.size rfl 36 T (0, 0) _ T5.out Tryd.underlying36 rfl HTz.out ?_)
          | (refine wpList_load_mid rfl 23 _ rfl (w.heap.size + 1) 1 rfl (LK .u64 xl).toList _ L5.out Tryd.underlying23 rfl Xz.out ?_))
        refine (C2.out _).mono ?_
        rintro e w6 ⟨rfl, hb6⟩
        have HR3 : Away (At (w.heap.size + 1) (SC k xl _ false) 25 W w6) := ⟨HR2.out.later hb6⟩
        clear hb6 cp1 cp2 T5 L5 HR1 HR2
        go_wp2_with (first
          | ((with_reducible refine wpList_putl HR3 HX.out.len HQ.out.len rfl _ _ rfl rfl ?hx ?hy ?_); (case hx => exact rfl); (case hy => exact rfl); intro w7 HR4; clear HR3)
          | ((with_reducible refine wpList_put2 (by assumption) rfl _ _ _ rfl rfl ?_); refine ⟨_, _, _, rfl, rfl, rfl, (by rw [hz28 _ _ _ HQ.out.len]; decide), ?_⟩; intro w8 HR5; rw [sc_seta k _ _ false HQ.out.len] at HR5))
        go_roundw
        case rel => exact ⟨i + 1, by omega, by go_num, by rw [Hn2.out]; exact HR5⟩
        case measure => simp [intOf]; omega
      · have hz : ((p : Int) + 1 == (r : Int)) = false := beq_eq_false_iff_ne.2 (by omega)
        have Hn2 : Away (sa ts rs r l a (bys b) (i + 1) = ⟨xl, p + 1⟩) := ⟨by rw [Hn.out, ab, if_neg he, Hxl.out]⟩
        clear he Hn Hxb Hsl Hp A1 hidx bβ
        go_wp2_with ((with_reducible refine wpList_put2 (by assumption) rfl _ _ _ rfl rfl ?_); refine ⟨_, _, _, rfl, rfl, rfl, (by rw [hz28 _ _ _ HX.out.len]; decide), ?_⟩; intro w5 HR2; rw [sc_seta k _ _ false HX.out.len] at HR2; have cp2 : w5.cell? ⟨w.heap.size + 1, 26, none⟩ = some (.int .i64 ((p : Int) + 1)) := cell_at HR2.out.row (sc_at k _ false HX.out.len))
        go_roundw
        case rel => exact ⟨i + 1, by omega, by go_num, by rw [Hn2.out]; exact HR2⟩
        case measure => simp [intOf]; omega
    · obtain rfl : i = b.size := by omega
      rw [HEa.out] at A0
      obtain ⟨el, ea⟩ := E
      simp only at A0
      have hel := HEs.out.len
      simp only at hel
      obtain ⟨F, HF⟩ := ex_eq (SC k el (ea : Int) false)
      have Fi : Away ((Tryd.prog.info? 25).map (·.size) = some F.size) := ⟨by rw [← HF.out]; exact sc_info k _ _ hel⟩
      have Fo : Away (F.all (·.oneCell') = true) := ⟨by rw [← HF.out]; exact sc_one k el _ _⟩
      have Fz : Away ((SC 0 z 0 false).size = F.size) := ⟨by rw [← HF.out]; exact sc_same _ _ _ _ _ _ HZl.out hel⟩
      rw [HF.out] at A0
      have Hres : Away (wr.heap[w.heap.size + 2]? = some (.cells (SC 0 z 0 false) 25 (0, 0))) := ⟨A0.out.other (by have := HWs.out; omega) (by omega) B2.out⟩
      have Hrow := Away.mk A0.out.row
      have Hb5 : Away (Below w.heap.size w wr) := ⟨HWb.out.trans (A0.out.below (by have := HWs.out; omega) (by omega))⟩
      clear A0 hi hlt hel
      go_wp2_with (first
        | (refine wpList_load_row rfl 25 _ rfl (w.heap.size + 1) rfl 25 F (0, 0) _ Hrow.out Tryd.underlying25 rfl Fi.out ?_)
        | (refine wpList_store_row rfl 25 _ _ rfl (w.heap.size + 2) F rfl rfl 25 _ Hres.out Fi.out Fz.out Fo.out ?_))
      refine bodyPost_ret_by (v := .tuple #[.agg F, .int .i64 0]) (rspc.results_cell_tmp rfl _ _ (w.heap.size + 2) 25 _ (0, 0) _ rfl (setRow_heap _ _ _ _ _ _ Hres.out) Tryd.underlying25 rfl Fi.out _ rfl) rfl ?_
      exact ⟨by rw [← HF.out], Hb5.out.trans (below_setRow _ _ _ (by omega))⟩

end Go.Proofs.YtpibnfpgokjnpaaDoor.rspd

namespace Go.Proofs.YtpibnfpgokjnpaaDoor.rspe
open Go.RowKit
open Go.Proofs.YtpibnfpgokjnpaaDoor.arr Go.Proofs.YtpibnfpgokjnpaaDoor.mem Go.Proofs.YtpibnfpgokjnpaaDoor.kecm Go.Proofs.YtpibnfpgokjnpaaDoor.kecb Go.Proofs.YtpibnfpgokjnpaaDoor.kstep Go.Proofs.YtpibnfpgokjnpaaDoor.kfun Go.Proofs.YtpibnfpgokjnpaaDoor.spgm Go.Proofs.YtpibnfpgokjnpaaDoor.rspa Go.Proofs.YtpibnfpgokjnpaaDoor.rspb Go.Proofs.YtpibnfpgokjnpaaDoor.rspc Go.Proofs.YtpibnfpgokjnpaaDoor.rspd

set_option maxRecDepth 100000 in
set_option maxHeartbeats 2000000 in
theorem new_bad (k : Int) (w : World) (hr : rate k = 0) : Calls Tryd.prog 17 #[.int .i64 k] w fun e w' => e = .returned (.tuple #[.agg (SC 0 Z 0 false), .int .i64 1]) ∧ Below w.heap.size w w' := by
  have Hrate : Away (∀ w1 : World, Calls Tryd.prog 28 #[.int .i64 k] w1 fun e w' => e = .returned (.int .i64 ((rate k : Nat) : Int)) ∧ w' = w1) := ⟨rate_any k⟩
  obtain ⟨r, hre⟩ : ∃ r, rate k = r := ⟨_, rfl⟩
  rw [hre] at hr Hrate
  clear hre
  subst hr
  have Hrate : Away (∀ w1 : World, Calls Tryd.prog 28 #[.int .i64 k] w1 fun e w' => e = .returned (.int .i64 0) ∧ w' = w1) := Hrate
  obtain ⟨F, HF⟩ := ex_eq (SC 0 Z 0 false)
  have Fi : Away ((Tryd.prog.info? 25).map (·.size) = some F.size) := ⟨by rw [← HF.out]; exact sc_info _ _ _ z_len⟩
  have Fo : Away (F.all (·.oneCell') = true) := ⟨by rw [← HF.out]; exact sc_one _ _ _ _⟩
  have Fz : Away ((#[.int .i64 0, .int .u64 0, .int .u64 0, .int .u64 0, .int .u64 0, .int .u64 0, .int .u64 0, .int .u64 0, .int .u64 0, .int .u64 0, .int .u64 0, .int .u64 0, .int .u64 0, .int .u64 0, .int .u64 0, .int .u64 0, .int .u64 0, .int .u64 0, .int .u64 0, .int .u64 0, .int .u64 0, .int .u64 0, .int .u64 0, .int .u64 0, .int .u64 0, .int .u64 0, .int .i64 0, .bool false] : Array Value).size = F.size) := ⟨by rw [← HF.out, sc_size _ _ _ z_len]; rfl⟩
  have Fb : Away ((#[.int .i64 0, .int .u64 0, .int .u64 0, .int .u64 0, .int .u64 0, .int .u64 0, .int .u64 0, .int .u64 0, .int .u64 0, .int .u64 0, .int .u64 0, .int .u64 0, .int .u64 0, .int .u64 0, .int .u64 0, .int .u64 0, .int .u64 0, .int .u64 0, .int .u64 0, .int .u64 0, .int .u64 0, .int .u64 0, .int .u64 0, .int .u64 0, .int .u64 0, .int .u64 0, .int .i64 0, .bool false] : Array Value) = F) := ⟨by rw [← HF.out]; rfl⟩
  rw [HF.out]
  go_enter Tryd.func17, Tryd.ntmps17
  go_wp2_with fail
  refine (Hrate.out _).mono ?_
  rintro e w1 ⟨rfl, rfl⟩
  go_wp2_with (first
    | ((with_reducible refine wpList_buildC rfl _ _ rfl #[.int .i64 0, .int .u64 0, .int .u64 0, .int .u64 0, .int .u64 0, .int .u64 0, .int .u64 0, .int .u64 0, .int .u64 0, .int .u64 0, .int .u64 0, .int .u64 0, .int .u64 0, .int .u64 0, .int .u64 0, .int .u64 0, .int .u64 0, .int .u64 0, .int .u64 0, .int .u64 0, .int .u64 0, .int .u64 0, .int .u64 0, .int .u64 0, .int .u64 0, .int .u64 0, .int .i64 0, .bool false] ?hC ?_); (case hC => kernel_rfl); rw [Fb.out])
    | (refine wpList_store_new rfl 25 _ _ rfl F rfl rfl Fi.out (by first | exact Fz.out | rfl) Fo.out rfl ?_))
  refine bodyPost_ret_by (v := .tuple #[.agg F, .int .i64 1]) (rspc.results_cell_tmp rfl _ _ w.heap.size 25 _ (0, 0) _ rfl (heap_at _ _ _ rfl) Tryd.underlying25 rfl Fi.out _ rfl) rfl ?_
  exact ⟨rfl, below_alloc _ _⟩

set_option maxRecDepth 100000 in
set_option maxHeartbeats 2000000 in
theorem new_good (k : Int) (w : World) (hr : 0 < rate k) : Calls Tryd.prog 17 #[.int .i64 k] w fun e w' => e = .returned (.tuple #[.agg (SC k Z 0 false), .int .i64 0]) ∧ Below w.heap.size w w' := by
  have Hrate : Away (∀ w1 : World, Calls Tryd.prog 28 #[.int .i64 k] w1 fun e w' => e = .returned (.int .i64 ((rate k : Nat) : Int)) ∧ w' = w1) := ⟨rate_any k⟩
  obtain ⟨r, hre⟩ : ∃ r, rate k = r := ⟨_, rfl⟩
  rw [hre] at hr Hrate
  clear hre
  have h0 : ¬ ((r : Int) = 0) := by omega
  have h1 : ((r : Int) == 0) = false := beq_eq_false_iff_ne.2 (by omega)
  clear hr h0
  obtain ⟨F, HF⟩ := ex_eq (SC k Z 0 false)
  have Fi : Away ((Tryd.prog.info? 25).map (·.size) = some F.size) := ⟨by rw [← HF.out]; exact sc_info _ _ _ z_len⟩
  have Fo : Away (F.all (·.oneCell') = true) := ⟨by rw [← HF.out]; exact sc_one _ _ _ _⟩
  have Fz : Away ((#[.int .i64 0, .int .u64 0, .int .u64 0, .int .u64 0, .int .u64 0, .int .u64 0, .int .u64 0, .int .u64 0, .int .u64 0, .int .u64 0, .int .u64 0, .int .u64 0, .int .u64 0, .int .u64 0, .int .u64 0, .int .u64 0, .int .u64 0, .int .u64 0, .int .u64 0, .int .u64 0, .int .u64 0, .int .u64 0, .int .u64 0, .int .u64 0, .int .u64 0, .int .u64 0, .int .i64 0, .bool false] : Array Value).size = F.size) := ⟨by rw [← HF.out, sc_size _ _ _ z_len]; rfl⟩
  have Fb : Away ((#[.int .i64 k, .int .u64 0, .int .u64 0, .int .u64 0, .int .u64 0, .int .u64 0, .int .u64 0, .int .u64 0, .int .u64 0, .int .u64 0, .int .u64 0, .int .u64 0, .int .u64 0, .int .u64 0, .int .u64 0, .int .u64 0, .int .u64 0, .int .u64 0, .int .u64 0, .int .u64 0, .int .u64 0, .int .u64 0, .int .u64 0, .int .u64 0, .int .u64 0, .int .u64 0, .int .i64 0, .bool false] : Array Value) = F) := ⟨by rw [← HF.out]; rfl⟩
  rw [HF.out]
  go_enter Tryd.func17, Tryd.ntmps17
  go_wp2_with fail
  refine (Hrate.out _).mono ?_
  rintro e w1 ⟨rfl, rfl⟩
  go_wp2_with (first
    | ((with_reducible refine wpList_buildC rfl _ _ rfl #[.int .i64 k, .int .u64 0, .int .u64 0, .int .u64 0, .int .u64 0, .int .u64 0, .int .u64 0, .int .u64 0, .int .u64 0, .int .u64 0, .int .u64 0, .int .u64 0, .int .u64 0, .int .u64 0, .int .u64 0, .int .u64 0, .int .u64 0, .int .u64 0, .int .u64 0, .int .u64 0, .int .u64 0, .int .u64 0, .int .u64 0, .int .u64 0, .int .u64 0, .int .u64 0, .int .i64 0, .bool false] ?hC ?_); (case hC => kernel_rfl); rw [Fb.out])
    | (refine wpList_store_new rfl 25 _ _ rfl F rfl rfl Fi.out (by first | exact Fz.out | rfl) Fo.out rfl ?_))
  refine bodyPost_ret_by (v := .tuple #[.agg F, .int .i64 0]) (rspc.results_cell_tmp rfl _ _ w.heap.size 25 _ (0, 0) _ rfl (heap_at _ _ _ rfl) Tryd.underlying25 rfl Fi.out _ rfl) rfl ?_
  exact ⟨rfl, below_alloc _ _⟩

end Go.Proofs.YtpibnfpgokjnpaaDoor.rspe
