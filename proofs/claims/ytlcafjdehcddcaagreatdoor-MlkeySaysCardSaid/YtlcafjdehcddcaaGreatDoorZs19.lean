/-
  A sponge as cells, and what the document's own rate, mark, Right and New of layer 6 return. Conditions: as each theorem says. What the document's own Right and New of layer 6 return. Conditions: the sponge's state has 25 words. What the document's own Absorb of layer 6 returns. Conditions: the sponge's state has 25 words of 64 bits, the tables have their size. What the document's own New of layer 6 returns. Conditions: none. What the document's own Squeeze of layer 6 returns. Conditions: the sponge's state has 25 words of 64 bits, the tables have their size. What the document's own Squeeze of layer 6 returns of a sponge that is not yet squeezed, of one that is not valid, or for a number that does not fit. Conditions: the sponge's state has 25 words of 64 bits, the tables have their size.
-/
import Derived.Test.YtlcafjdehcddcaaGreatDoorZs06
import Derived.Test.YtlcafjdehcddcaaGreatDoorZs18
import Derived.OwnWalk
import Derived.Lib.ConvBytes
namespace Go.Proofs.YtlcafjdehcddcaaGreatDoor
namespace rspa
open Go.RowKit
open arr mem kecm kecb spgm
set_option maxRecDepth 100000 in
set_option maxHeartbeats 1000000 in
theorem rate_any (k : Int) (w : World) : Calls Tryz.prog 128 #[.int .i64 k] w fun e w' => e = .returned (.int .i64 ((rate k : Nat) : Int)) ∧ w' = w := by
 unfold rate
 by_cases h1 : k = 1
 ·subst h1
  go_enter Tryz.func128, Tryz.ntmps128
  go_wp2_with fail
  go_ret
  exact ⟨rfl, rfl⟩
 ·by_cases h2 : k = 2
  ·subst h2
   go_enter Tryz.func128, Tryz.ntmps128
   go_wp2_with fail
   go_ret
   exact ⟨rfl, rfl⟩
  ·by_cases h3 : k = 3
   ·subst h3
    go_enter Tryz.func128, Tryz.ntmps128
    go_wp2_with fail
    go_ret
    exact ⟨rfl, rfl⟩
   ·by_cases h4 : k = 4
    ·subst h4
     go_enter Tryz.func128, Tryz.ntmps128
     go_wp2_with fail
     go_ret
     exact ⟨rfl, rfl⟩
    ·rw [if_neg h1, if_neg h2, if_neg h3, if_neg h4]
     go_enter Tryz.func128, Tryz.ntmps128
     go_wp2_with fail
     go_ret
     exact ⟨rfl, rfl⟩
set_option maxRecDepth 100000 in
set_option maxHeartbeats 1000000 in
theorem mark_any (k : Int) (w : World) : Calls Tryz.prog 131 #[.int .i64 k] w fun e w' => e = .returned (.int .u8 ((spgm.mark k : Nat) : Int)) ∧ w' = w := by
 unfold spgm.mark
 by_cases h1 : k = 1
 ·subst h1
  go_enter Tryz.func131, Tryz.ntmps131
  go_wp2_with fail
  go_ret
  exact ⟨rfl, rfl⟩
 ·by_cases h2 : k = 2
  ·subst h2
   go_enter Tryz.func131, Tryz.ntmps131
   go_wp2_with fail
   go_ret
   exact ⟨rfl, rfl⟩
  ·rw [if_neg h1, if_neg h2]
   have e1 : (k == 1) = false := by simpa using h1
   have e2 : (k == 2) = false := by simpa using h2
   go_enter Tryz.func131, Tryz.ntmps131
   go_wp2_with fail
   go_ret
   exact ⟨rfl, rfl⟩
end rspa
namespace rspb
open Go.RowKit
open arr mem kecm kecb spgm rspa
set_option maxRecDepth 100000 in
set_option maxHeartbeats 1000000 in
theorem right_xz (k a : Int) (o : Bool) (l : List Nat) (r : Nat) (w : World) (hl : l.length = 25) (Hr : Away (∀ w1 : World, Calls Tryz.prog 128 #[.int .i64 k] w1 fun e w' => e = .returned (.int .i64 (r : Int)) ∧ w' = w1)) (hr : r = 0) :
 Calls Tryz.prog 129 #[.agg (SC k l a o)] w fun e w' => e = .returned (.bool false) ∧ Below w.heap.size w w' := by
 obtain ⟨W, hW⟩ : ∃ x, w.alloc (.cells (SC k l a o) 130) = x := ⟨_, rfl⟩
 have HW := Away.mk hW
 have Hb : Away (Below w.heap.size w W) := ⟨by rw [← hW]; exact below_alloc _ _⟩
 have hrow : W.heap[w.heap.size]? = some (.cells (SC k l a o) 130 (0, 0)) := by rw [← hW]; exact heap_at _ _ _ rfl
 have c0 := cell_at hrow (sc_kind k l a o)
 have ca := cell_at hrow (sc_at k a o hl)
 have co := cell_at hrow (sc_out k a o hl)
 clear hrow hW hl
 subst hr
 go_enter Tryz.func129, Tryz.ntmps129
 go_wp2_with (rw [HW.out])
 refine (Hr.out _).mono ?_
 rintro e w1 ⟨rfl, rfl⟩
 go_wp2_with fail
 go_ret
 exact ⟨rfl, Hb.out⟩
set_option maxRecDepth 100000 in
set_option maxHeartbeats 1000000 in
theorem right_xneg (k a : Int) (o : Bool) (l : List Nat) (r : Nat) (w : World) (hl : l.length = 25) (Hr : Away (∀ w1 : World, Calls Tryz.prog 128 #[.int .i64 k] w1 fun e w' => e = .returned (.int .i64 (r : Int)) ∧ w' = w1)) (hr : 0 < r) (ha : a < 0) :
 Calls Tryz.prog 129 #[.agg (SC k l a o)] w fun e w' => e = .returned (.bool false) ∧ Below w.heap.size w w' := by
 obtain ⟨W, hW⟩ : ∃ x, w.alloc (.cells (SC k l a o) 130) = x := ⟨_, rfl⟩
 have HW := Away.mk hW
 have Hb : Away (Below w.heap.size w W) := ⟨by rw [← hW]; exact below_alloc _ _⟩
 have hrow : W.heap[w.heap.size]? = some (.cells (SC k l a o) 130 (0, 0)) := by rw [← hW]; exact heap_at _ _ _ rfl
 have c0 := cell_at hrow (sc_kind k l a o)
 have ca := cell_at hrow (sc_at k a o hl)
 have co := cell_at hrow (sc_out k a o hl)
 clear hrow hW hl
 have h1 : (0 : Int) < (r : Int) := by omega
 clear hr
 go_enter Tryz.func129, Tryz.ntmps129
 go_wp2_with (rw [HW.out])
 refine (Hr.out _).mono ?_
 rintro e w1 ⟨rfl, rfl⟩
 go_wp2_with fail
 go_ret
 exact ⟨rfl, Hb.out⟩
set_option maxRecDepth 100000 in
set_option maxHeartbeats 1000000 in
theorem right_xin (k a : Int) (o : Bool) (l : List Nat) (r : Nat) (w : World) (hl : l.length = 25) (Hr : Away (∀ w1 : World, Calls Tryz.prog 128 #[.int .i64 k] w1 fun e w' => e = .returned (.int .i64 (r : Int)) ∧ w' = w1)) (ha : 0 ≤ a) (hb : a < (r : Int)) :
 Calls Tryz.prog 129 #[.agg (SC k l a o)] w fun e w' => e = .returned (.bool true) ∧ Below w.heap.size w w' := by
 obtain ⟨W, hW⟩ : ∃ x, w.alloc (.cells (SC k l a o) 130) = x := ⟨_, rfl⟩
 have HW := Away.mk hW
 have Hb : Away (Below w.heap.size w W) := ⟨by rw [← hW]; exact below_alloc _ _⟩
 have hrow : W.heap[w.heap.size]? = some (.cells (SC k l a o) 130 (0, 0)) := by rw [← hW]; exact heap_at _ _ _ rfl
 have c0 := cell_at hrow (sc_kind k l a o)
 have ca := cell_at hrow (sc_at k a o hl)
 have co := cell_at hrow (sc_out k a o hl)
 clear hrow hW hl
 have h1 : (0 : Int) < (r : Int) := by omega
 go_enter Tryz.func129, Tryz.ntmps129
 go_wp2_with (rw [HW.out])
 refine (Hr.out _).mono ?_
 rintro e w1 ⟨rfl, rfl⟩
 go_wp2_with fail
 go_ret
 exact ⟨rfl, Hb.out⟩
set_option maxRecDepth 100000 in
set_option maxHeartbeats 1000000 in
theorem right_xbigt (k a : Int) (o : Bool) (l : List Nat) (r : Nat) (w : World) (hl : l.length = 25) (Hr : Away (∀ w1 : World, Calls Tryz.prog 128 #[.int .i64 k] w1 fun e w' => e = .returned (.int .i64 (r : Int)) ∧ w' = w1)) (hb : (r : Int) < a) (hr : 0 < r) (ho : o = true) :
 Calls Tryz.prog 129 #[.agg (SC k l a o)] w fun e w' => e = .returned (.bool false) ∧ Below w.heap.size w w' := by
 obtain ⟨W, hW⟩ : ∃ x, w.alloc (.cells (SC k l a o) 130) = x := ⟨_, rfl⟩
 have HW := Away.mk hW
 have Hb : Away (Below w.heap.size w W) := ⟨by rw [← hW]; exact below_alloc _ _⟩
 have hrow : W.heap[w.heap.size]? = some (.cells (SC k l a o) 130 (0, 0)) := by rw [← hW]; exact heap_at _ _ _ rfl
 have c0 := cell_at hrow (sc_kind k l a o)
 have ca := cell_at hrow (sc_at k a o hl)
 have co := cell_at hrow (sc_out k a o hl)
 clear hrow hW hl
 subst ho
 have h1 : (0 : Int) < (r : Int) := by omega
 have h2 : (0 : Int) ≤ a := by omega
 have h3 : decide (a < (r : Int)) = false := decide_eq_false (by omega)
 have h4 : (a == (r : Int)) = false := beq_eq_false_iff_ne.2 (by omega)
 clear hr hb
 go_enter Tryz.func129, Tryz.ntmps129
 go_wp2_with (rw [HW.out])
 refine (Hr.out _).mono ?_
 rintro e w1 ⟨rfl, rfl⟩
 go_wp2_with fail
 go_ret
 exact ⟨rfl, Hb.out⟩
set_option maxRecDepth 100000 in
set_option maxHeartbeats 1000000 in
theorem right_xbigf (k a : Int) (o : Bool) (l : List Nat) (r : Nat) (w : World) (hl : l.length = 25) (Hr : Away (∀ w1 : World, Calls Tryz.prog 128 #[.int .i64 k] w1 fun e w' => e = .returned (.int .i64 (r : Int)) ∧ w' = w1)) (hb : (r : Int) ≤ a) (hr : 0 < r) (ho : o = false) :
 Calls Tryz.prog 129 #[.agg (SC k l a o)] w fun e w' => e = .returned (.bool false) ∧ Below w.heap.size w w' := by
 obtain ⟨W, hW⟩ : ∃ x, w.alloc (.cells (SC k l a o) 130) = x := ⟨_, rfl⟩
 have HW := Away.mk hW
 have Hb : Away (Below w.heap.size w W) := ⟨by rw [← hW]; exact below_alloc _ _⟩
 have hrow : W.heap[w.heap.size]? = some (.cells (SC k l a o) 130 (0, 0)) := by rw [← hW]; exact heap_at _ _ _ rfl
 have c0 := cell_at hrow (sc_kind k l a o)
 have ca := cell_at hrow (sc_at k a o hl)
 have co := cell_at hrow (sc_out k a o hl)
 clear hrow hW hl
 subst ho
 have h1 : (0 : Int) < (r : Int) := by omega
 have h2 : (0 : Int) ≤ a := by omega
 have h3 : decide (a < (r : Int)) = false := decide_eq_false (by omega)
 clear hr hb
 go_enter Tryz.func129, Tryz.ntmps129
 go_wp2_with (rw [HW.out])
 refine (Hr.out _).mono ?_
 rintro e w1 ⟨rfl, rfl⟩
 go_wp2_with fail
 go_ret
 exact ⟨rfl, Hb.out⟩
set_option maxRecDepth 100000 in
set_option maxHeartbeats 1000000 in
theorem right_xat (k a : Int) (o : Bool) (l : List Nat) (r : Nat) (w : World) (hl : l.length = 25) (Hr : Away (∀ w1 : World, Calls Tryz.prog 128 #[.int .i64 k] w1 fun e w' => e = .returned (.int .i64 (r : Int)) ∧ w' = w1)) (hb : a = (r : Int)) (hr : 0 < r) (ho : o = true) :
 Calls Tryz.prog 129 #[.agg (SC k l a o)] w fun e w' => e = .returned (.bool true) ∧ Below w.heap.size w w' := by
 obtain ⟨W, hW⟩ : ∃ x, w.alloc (.cells (SC k l a o) 130) = x := ⟨_, rfl⟩
 have HW := Away.mk hW
 have Hb : Away (Below w.heap.size w W) := ⟨by rw [← hW]; exact below_alloc _ _⟩
 have hrow : W.heap[w.heap.size]? = some (.cells (SC k l a o) 130 (0, 0)) := by rw [← hW]; exact heap_at _ _ _ rfl
 have c0 := cell_at hrow (sc_kind k l a o)
 have ca := cell_at hrow (sc_at k a o hl)
 have co := cell_at hrow (sc_out k a o hl)
 clear hrow hW hl
 subst ho hb
 have h1 : (0 : Int) < (r : Int) := by omega
 clear hr
 go_enter Tryz.func129, Tryz.ntmps129
 go_wp2_with (rw [HW.out])
 refine (Hr.out _).mono ?_
 rintro e w1 ⟨rfl, rfl⟩
 go_wp2_with fail
 go_ret
 exact ⟨rfl, Hb.out⟩
theorem right_any (k a : Int) (o : Bool) (l : List Nat) (w : World) (hl : l.length = 25) :
 Calls Tryz.prog 129 #[.agg (SC k l a o)] w fun e w' => e = .returned (.bool (ok k a o)) ∧ Below w.heap.size w w' := by
 have Hr : Away (∀ w1 : World, Calls Tryz.prog 128 #[.int .i64 k] w1 fun e w' => e = .returned (.int .i64 ((rate k : Nat) : Int)) ∧ w' = w1) := ⟨rate_any k⟩
 show Calls Tryz.prog 129 #[.agg (SC k l a o)] w fun e w' => e = .returned (.bool (okr (rate k) a o)) ∧ Below w.heap.size w w'
 obtain ⟨r, hr⟩ : ∃ r, rate k = r := ⟨_, rfl⟩
 rw [hr] at Hr ⊢
 clear hr
 by_cases h0 : r = 0
 ·have e : okr r a o = false := by unfold okr; rw [h0]; rfl
  rw [e]; exact right_xz k a o l r w hl Hr h0
 ·by_cases h1 : a < 0
  ·have e : okr r a o = false := by unfold okr; rw [decide_eq_false (show ¬ 0 ≤ a by omega)]; simp
   rw [e]; exact right_xneg k a o l r w hl Hr (by omega) h1
  ·by_cases h2 : a < (r : Int)
   ·have e : okr r a o = true := by unfold okr; rw [decide_eq_true (show 0 < r by omega), decide_eq_true (show 0 ≤ a by omega), decide_eq_true h2]; rfl
    rw [e]; exact right_xin k a o l r w hl Hr (by omega) h2
   ·cases o with
    | false =>
     have e : okr r a false = false := by unfold okr; rw [decide_eq_false h2]; simp
     rw [e]; exact right_xbigf k a false l r w hl Hr (by omega) (by omega) rfl
    | true =>
     by_cases h3 : a = (r : Int)
     ·have e : okr r a true = true := by unfold okr; rw [decide_eq_true (show 0 < r by omega), decide_eq_true (show 0 ≤ a by omega), decide_eq_true h3]; simp
      rw [e]; exact right_xat k a true l r w hl Hr h3 (by omega) rfl
     ·have e : okr r a true = false := by unfold okr; rw [decide_eq_false h2, decide_eq_false h3]; simp
      rw [e]; exact right_xbigt k a true l r w hl Hr (by omega) (by omega) rfl
end rspb
namespace rspd
open Go.RowKit
open arr mem kecm kecb kstep kfun spgm rspa rspb rspc
set_option maxRecDepth 100000 in
set_option maxHeartbeats 4000000 in
theorem absorb_go {T : Array Value} {ts rs : List Nat} (k : Int) (a : Nat) (l : List Nat) (b : ByteArray) (w : World) (h : St l) (hK : KT T ts rs) (hok : ok k (a : Int) false = true) (hb : b.size ≤ 1125899906842624) :
 Calls Tryz.prog 119 #[.agg T, .agg (SC k l (a : Int) false), .string b] w fun e w' => e = .returned (.tuple #[.agg (SC k (abs (PP ts rs) (rate k) ⟨l, a⟩ (bys b)).l ((abs (PP ts rs) (rate k) ⟨l, a⟩ (bys b)).at' : Nat) false), .int .i64 0]) ∧ Below w.heap.size w w' := by
 have Hrt : Away (∀ w1 : World, Calls Tryz.prog 129 #[.agg (SC k l (a : Int) false)] w1 fun e w' => e = .returned (.bool true) ∧ Below w1.heap.size w1 w') := ⟨fun w1 => by have h9 := right_any k (a : Int) false l w1 h.len; rw [hok] at h9; exact h9⟩
 have hra : a < rate k ∧ rate k ≤ 168 := ⟨ok_lt k a hok, rate_le k⟩
 have Hrate : Away (∀ w1 : World, Calls Tryz.prog 128 #[.int .i64 k] w1 fun e w' => e = .returned (.int .i64 ((rate k : Nat) : Int)) ∧ w' = w1) := ⟨rate_any k⟩
 obtain ⟨r, hr⟩ : ∃ r, rate k = r := ⟨_, rfl⟩
 rw [hr] at hra Hrate ⊢
 have Hra := Away.mk hra
 clear hr hok hra
 have H := Away.mk h
 have HK := Away.mk hK
 have HTz : Away ((Tryz.prog.info? 38).map (·.size) = some T.size) := ⟨by rw [hK.size]; exact rkeb.sizeT⟩
 obtain ⟨z, HZ⟩ := ex_eq Z
 have HZl : Away (z.length = 25) := ⟨by rw [← HZ.out]; rfl⟩
 have Hz : Away ((#[.int .i64 0, .int .u64 0, .int .u64 0, .int .u64 0, .int .u64 0, .int .u64 0, .int .u64 0, .int .u64 0, .int .u64 0, .int .u64 0, .int .u64 0, .int .u64 0, .int .u64 0, .int .u64 0, .int .u64 0, .int .u64 0, .int .u64 0, .int .u64 0, .int .u64 0, .int .u64 0, .int .u64 0, .int .u64 0, .int .u64 0, .int .u64 0, .int .u64 0, .int .u64 0, .int .i64 0, .bool false] : Array Value) = SC 0 z 0 false) := ⟨by rw [← HZ.out]; exact zs_is⟩
 clear h hK HZ
 have C1 : Away (∀ (l : List Nat) (w1 : World), St l → Calls Tryz.prog 130 #[.agg T, .agg (LK .u64 l)] w1 fun e w' => e = .returned (.agg (LK .u64 (PP ts rs l))) ∧ Below w1.heap.size w1 w') := ⟨fun l w1 hl => rperm.perm_any l w1 hl HK.out⟩
 obtain ⟨E, HE⟩ := ex_eq (abs (PP ts rs) r ⟨l, a⟩ (bys b))
 have HEs : Away (St E.l) := ⟨by rw [← HE.out]; exact (abs_ok (fun _ h => pp_st HK.out.br h) _ H.out Hra.out.1).1⟩
 have HEa : Away (sa ts rs r l a (bys b) b.size = E) := ⟨by rw [← HE.out, sa, List.take_of_length_le (by rw [bys_length]; exact Nat.le_refl _)]⟩
 rw [HE.out]
 clear HE
 go_enter Tryz.func119, Tryz.ntmps119
 obtain ⟨W, hW⟩ : ∃ x, ((w.alloc (.cells T 38)).alloc (.cells (SC k l (a : Int) false) 130)).alloc (.cells (SC 0 z 0 false) 130) = x := ⟨_, rfl⟩
 obtain ⟨b0, b1, b2, hWs, hWb⟩ := three hW
 have B0 := Away.mk b0
 have B1 := Away.mk b1
 have B2 := Away.mk b2
 have HWs := Away.mk hWs
 have HWb := Away.mk hWb
 have HW := Away.mk hW
 have Si := Away.mk (sc_info k (a : Int) false H.out.len)
 have So := Away.mk (sc_one k l (a : Int) false)
 have Sz := Away.mk (sc_same k 0 (a : Int) 0 false false H.out.len HZl.out)
 have c3 := cell_at b1 (sc_out k (a : Int) false H.out.len)
 have c0 := cell_at b1 (sc_kind k l (a : Int) false)
 obtain ⟨S, HS⟩ := ex_eq (SC k l (a : Int) false)
 rw [HS.out] at B1 Si So Sz HW Hrt
 clear hWs hWb hW b0 b1 b2
 rw [HS.out]
 go_wp2_with (first
  | (rw [Hz.out, HW.out])
  | (refine wpList_load_row rfl 130 _ rfl (w.heap.size + 1) rfl 130 S (0, 0) _ B1.out Tryz.underlying130 rfl Si.out ?_))
 refine (Hrt.out _).mono ?_
 rintro e w1 ⟨rfl, hb1⟩
 rw [← HS.out] at B1
 have A1 : Away (At (w.heap.size + 1) (SC k l (a : Int) false) 130 W w1) := ⟨(At.refl B1.out).later hb1⟩
 have c3' : w1.cell? ⟨w.heap.size + 1, 27, none⟩ = some (.bool false) := cell_at A1.out.row (sc_out k (a : Int) false H.out.len)
 have c0' : w1.cell? ⟨w.heap.size + 1, 0, none⟩ = some (.int .i64 k) := cell_at A1.out.row (sc_kind k l (a : Int) false)
 clear hb1 c0 c3 HS Si So Sz Hrt
 go_wp2_with fail
 refine (Hrate.out _).mono ?_
 rintro e w2 ⟨rfl, rfl⟩
 go_wp2_with fail
 clear c3' c0'
 go_loopw [22] (fun i wr => ∃ i' : Nat, i' ≤ b.size ∧ i = .int .i64 (i' : Int) ∧ Away (At (w.heap.size + 1) (SC k (sa ts rs r l a (bys b) i').l ((sa ts rs r l a (bys b) i').at' : Nat) false) 130 W wr)) (fun i _ => b.size - (intOf i).toNat)
 case atStart => exact ⟨0, Nat.zero_le _, rfl, A1⟩
 case round =>
  clear A1
  obtain ⟨i, hi, rfl, A0⟩ := hrel
  by_cases hlt : i < b.size
  ·have hiz : (i : Int) < (b.size : Int) := by omega
   obtain ⟨s, Hs⟩ := ex_eq (sa ts rs r l a (bys b) i)
   have Hso : Away (St s.l ∧ s.at' < r) := ⟨by rw [← Hs.out]; exact sa_ok HK.out.br H.out Hra.out.1 _ _⟩
   rw [Hs.out] at A0
   obtain ⟨β, hβ⟩ : ∃ β, (bys b).getD i 0 = β := ⟨_, rfl⟩
   have bβ : β < 256 := hβ ▸ bys_lt b i
   have hidx := byte_of b i β hlt hβ
   have Hn : Away (sa ts rs r l a (bys b) (i + 1) = ab (PP ts rs) r s β) := ⟨by rw [sa_next ts rs r l a (bys b) i β (by rw [bys_length]; exact hlt) hβ, Hs.out]⟩
   obtain ⟨sl, p⟩ := s
   have h168 := Hra.out.2
   have hsl := Hso.out.1
   have hp := Hso.out.2
   simp only at hsl hp A0
   obtain ⟨q, hq⟩ : ∃ q, p / 8 = q := ⟨_, rfl⟩
   obtain ⟨m, hm⟩ : ∃ m, p % 8 = m := ⟨_, rfl⟩
   obtain ⟨c, hc⟩ : ∃ c, c = 8 * m := ⟨_, rfl⟩
   have fq : (p : Int).tdiv 8 = (q : Int) := by rw [Int.tdiv_eq_ediv_of_nonneg (by omega)]; omega
   have fqw : IntKind.i64.wrap ((p : Int).tdiv 8) = (q : Int) := by rw [fq, IntKind.wrap_i64]; omega
   have fm : (p : Int).tmod 8 = (m : Int) := by rw [Int.tmod_eq_emod_of_nonneg (by omega)]; omega
   have fq2 : (p : Int) / 8 = (q : Int) := by omega
   have fq3 : IntKind.i64.wrap (q : Int) = (q : Int) := by rw [IntKind.wrap_i64]; omega
   have fm2 : (p : Int) % 8 = (m : Int) := by omega
   have fc : IntKind.i64.wrap (8 * (m : Int)) = (c : Int) := by rw [IntKind.wrap_i64]; omega
   have fu : IntKind.u64.wrap (c : Int) = (c : Int) := by rw [IntKind.wrap_u64]; omega
   have hc63 : c ≤ 63 := by omega
   have hq25 : q < 25 := by omega
   have hqz : (q : Int) < 25 := by omega
   obtain ⟨x, hx⟩ : ∃ x, g sl q = x := ⟨_, rfl⟩
   have bx : x < 18446744073709551616 := hx ▸ hsl.lt q
   obtain ⟨y, hy⟩ : ∃ y, β * 2 ^ c % 18446744073709551616 = y := ⟨_, rfl⟩
   have by' : y < 18446744073709551616 := hy ▸ Nat.mod_lt _ (by decide)
   have fs := shl_is β c
   rw [hy] at fs
   have fb : IntKind.u64.wrap (β : Int) = (β : Int) := by rw [IntKind.wrap_u64]; omega
   have fy : IntKind.u64.wrap ((β : Int) * 2 ^ c) = (y : Int) := by rw [IntKind.wrap_u64]; exact fs
   obtain ⟨v, hv⟩ : ∃ v, x ^^^ y = v := ⟨_, rfl⟩
   have V := xor2 x y v bx by' hv
   have Hxb : Away (sl.set q v = xb sl p β) := ⟨by unfold xb; rw [hq, hm, ← hc, hx, hy, hv]⟩
   have cp : wr.cell? ⟨w.heap.size + 1, 26, none⟩ = some (.int .i64 (p : Int)) := cell_at A0.out.row (sc_at k _ false hsl.len)
   have cx : wr.cell? ⟨w.heap.size + 1, 1 + q, none⟩ = some (.int .u64 (x : Int)) := by rw [← hx]; exact cell_at A0.out.row (sc_lane k _ false hsl.len q hq25)
   have Hsl := Away.mk hsl
   have Hp := Away.mk hp
   clear hq hm hc hx hy hv hβ hi hsl hp h168
   go_wp2_with fail
   refine still_tail 19 (by kernel_rfl) (by kernel_rfl) ?_
   simp only [List.take_succ_cons, List.take_zero, List.drop_succ_cons, List.drop_zero]
   repeat still_step
   refine wpStill_nil ?_
   have hz28 : ∀ (k a : Int) (o : Bool) {l : List Nat}, l.length = 25 → (SC k l a o).size = 28 := fun k a o l h => sc_size k a o h
   have A1 : Away (At (w.heap.size + 1) (SC k sl (p : Int) false) 130 W wr.drew) := ⟨at_drew A0.out⟩
   clear cp cx fq fqw fm fq2 fq3 fm2 fc fu fs V A0 fb fy
   with_reducible refine wpList_put2 A1 rfl _ _ _ rfl rfl ?_
   refine ⟨_, _, _, rfl, rfl, rfl, by rw [hz28 _ _ _ Hsl.out.len]; omega, ?_⟩
   intro wn HR1
   rw [sc_setl k _ false Hsl.out.len q v hq25, Hxb.out] at HR1
   obtain ⟨xl, Hxl⟩ := ex_eq (xb sl p β)
   have HX : Away (St xl) := ⟨by rw [← Hxl.out]; exact xb_st Hsl.out p β⟩
   rw [Hxl.out] at HR1
   have cp1 : wn.cell? ⟨w.heap.size + 1, 26, none⟩ = some (.int .i64 (p : Int)) := cell_at HR1.out.row (sc_at k _ false HX.out.len)
   have hp8 : p ≤ 168 := by have := Hp.out; have := Hra.out.2; omega
   by_cases he : p + 1 = r
   ·have hz : ((p : Int) + 1 == (r : Int)) = true := beq_iff_eq.2 (by omega)
    have Hn2 : Away (sa ts rs r l a (bys b) (i + 1) = ⟨PP ts rs xl, 0⟩) := ⟨by rw [Hn.out, ab, if_pos he, Hxl.out]⟩
    have HQ : Away (St (PP ts rs xl)) := ⟨pp_st HK.out.br HX.out⟩
    obtain ⟨pl, Hpl⟩ := ex_eq (PP ts rs xl)
    rw [Hpl.out] at HQ Hn2
    have C2 : Away (∀ w1 : World, Calls Tryz.prog 130 #[.agg T, .agg (LK .u64 xl)] w1 fun e w' => e = .returned (.agg (LK .u64 pl)) ∧ Below w1.heap.size w1 w') := ⟨fun w1 => by rw [← Hpl.out]; exact C1.out xl w1 HX.out⟩
    have Xz := Away.mk (show (Tryz.prog.info? 128).map (·.size) = some (LK .u64 xl).toList.length by rw [Array.length_toList]; exact size25 HX.out.len)
    clear he Hn Hxb Hsl Hp A1 hidx bβ
    go_wp2_with (first
     | ((with_reducible refine wpList_put2 (by assumption) rfl _ _ _ rfl rfl ?_); refine ⟨_, _, _, rfl, rfl, rfl, (by rw [hz28 _ _ _ HX.out.len]; decide), ?_⟩; intro w5 HR2; rw [sc_seta k _ _ false HX.out.len] at HR2; have cp2 : w5.cell? ⟨w.heap.size + 1, 26, none⟩ = some (.int .i64 ((p : Int) + 1)) := cell_at HR2.out.row (sc_at k _ false HX.out.len); have T5 : Away (w5.heap[w.heap.size]? = some (.cells T 38 (0, 0))) := ⟨HR2.out.other (by have := HWs.out; omega) (by omega) B0.out⟩; have L5 := Away.mk (lanes_at HR2.out.row HX.out.len))
     | (refine wpList_load_row rfl 38 _ rfl w.heap.size rfl 38 T (0, 0) _ T5.out Tryz.underlying38 rfl HTz.out ?_)
     | (refine wpList_load_mid rfl 128 _ rfl (w.heap.size + 1) 1 rfl (LK .u64 xl).toList _ L5.out Tryz.underlying128 rfl Xz.out ?_))
    refine (C2.out _).mono ?_
    rintro e w6 ⟨rfl, hb6⟩
    have HR3 : Away (At (w.heap.size + 1) (SC k xl _ false) 130 W w6) := ⟨HR2.out.later hb6⟩
    clear hb6 cp1 cp2 T5 L5 HR1 HR2
    go_wp2_with (first
     | ((with_reducible refine wpList_putl HR3 HX.out.len HQ.out.len rfl _ _ rfl rfl ?hx ?hy ?_); (case hx => exact rfl); (case hy => exact rfl); intro w7 HR4; clear HR3)
     | ((with_reducible refine wpList_put2 (by assumption) rfl _ _ _ rfl rfl ?_); refine ⟨_, _, _, rfl, rfl, rfl, (by rw [hz28 _ _ _ HQ.out.len]; decide), ?_⟩; intro w8 HR5; rw [sc_seta k _ _ false HQ.out.len] at HR5))
    go_roundw
    case rel => exact ⟨i + 1, by omega, by go_num, by rw [Hn2.out]; exact HR5⟩
    case measure => simp [intOf]; omega
   ·have hz : ((p : Int) + 1 == (r : Int)) = false := beq_eq_false_iff_ne.2 (by omega)
    have Hn2 : Away (sa ts rs r l a (bys b) (i + 1) = ⟨xl, p + 1⟩) := ⟨by rw [Hn.out, ab, if_neg he, Hxl.out]⟩
    clear he Hn Hxb Hsl Hp A1 hidx bβ
    go_wp2_with ((with_reducible refine wpList_put2 (by assumption) rfl _ _ _ rfl rfl ?_); refine ⟨_, _, _, rfl, rfl, rfl, (by rw [hz28 _ _ _ HX.out.len]; decide), ?_⟩; intro w5 HR2; rw [sc_seta k _ _ false HX.out.len] at HR2; have cp2 : w5.cell? ⟨w.heap.size + 1, 26, none⟩ = some (.int .i64 ((p : Int) + 1)) := cell_at HR2.out.row (sc_at k _ false HX.out.len))
    go_roundw
    case rel => exact ⟨i + 1, by omega, by go_num, by rw [Hn2.out]; exact HR2⟩
    case measure => simp [intOf]; omega
  ·obtain rfl : i = b.size := by omega
   rw [HEa.out] at A0
   obtain ⟨el, ea⟩ := E
   simp only at A0
   have hel := HEs.out.len
   simp only at hel
   obtain ⟨F, HF⟩ := ex_eq (SC k el (ea : Int) false)
   have Fi : Away ((Tryz.prog.info? 130).map (·.size) = some F.size) := ⟨by rw [← HF.out]; exact sc_info k _ _ hel⟩
   have Fo : Away (F.all (·.oneCell') = true) := ⟨by rw [← HF.out]; exact sc_one k el _ _⟩
   have Fz : Away ((SC 0 z 0 false).size = F.size) := ⟨by rw [← HF.out]; exact sc_same _ _ _ _ _ _ HZl.out hel⟩
   rw [HF.out] at A0
   have Hres : Away (wr.heap[w.heap.size + 2]? = some (.cells (SC 0 z 0 false) 130 (0, 0))) := ⟨A0.out.other (by have := HWs.out; omega) (by omega) B2.out⟩
   have Hrow := Away.mk A0.out.row
   have Hb5 : Away (Below w.heap.size w wr) := ⟨HWb.out.trans (A0.out.below (by have := HWs.out; omega) (by omega))⟩
   clear A0 hi hlt hel
   go_wp2_with (first
    | (refine wpList_load_row rfl 130 _ rfl (w.heap.size + 1) rfl 130 F (0, 0) _ Hrow.out Tryz.underlying130 rfl Fi.out ?_)
    | (refine wpList_store_row rfl 130 _ _ rfl (w.heap.size + 2) F rfl rfl 130 _ Hres.out Fi.out Fz.out Fo.out ?_))
   refine bodyPost_ret_by (v := .tuple #[.agg F, .int .i64 0]) (rspc.results_cell_tmp rfl _ _ (w.heap.size + 2) 130 _ (0, 0) _ rfl (setRow_heap _ _ _ _ _ _ Hres.out) Tryz.underlying130 rfl Fi.out _ rfl) rfl ?_
   exact ⟨by rw [← HF.out], Hb5.out.trans (below_setRow _ _ _ (by omega))⟩
end rspd
namespace rspe
open Go.RowKit
open arr mem kecm kecb kstep kfun spgm rspa rspb rspc rspd
set_option maxRecDepth 100000 in
set_option maxHeartbeats 2000000 in
theorem new_good (k : Int) (w : World) (hr : 0 < rate k) : Calls Tryz.prog 118 #[.int .i64 k] w fun e w' => e = .returned (.tuple #[.agg (SC k Z 0 false), .int .i64 0]) ∧ Below w.heap.size w w' := by
 have Hrate : Away (∀ w1 : World, Calls Tryz.prog 128 #[.int .i64 k] w1 fun e w' => e = .returned (.int .i64 ((rate k : Nat) : Int)) ∧ w' = w1) := ⟨rate_any k⟩
 obtain ⟨r, hre⟩ : ∃ r, rate k = r := ⟨_, rfl⟩
 rw [hre] at hr Hrate
 clear hre
 have h0 : ¬ ((r : Int) = 0) := by omega
 have h1 : ((r : Int) == 0) = false := beq_eq_false_iff_ne.2 (by omega)
 clear hr h0
 obtain ⟨F, HF⟩ := ex_eq (SC k Z 0 false)
 have Fi : Away ((Tryz.prog.info? 130).map (·.size) = some F.size) := ⟨by rw [← HF.out]; exact sc_info _ _ _ z_len⟩
 have Fo : Away (F.all (·.oneCell') = true) := ⟨by rw [← HF.out]; exact sc_one _ _ _ _⟩
 have Fz : Away ((#[.int .i64 0, .int .u64 0, .int .u64 0, .int .u64 0, .int .u64 0, .int .u64 0, .int .u64 0, .int .u64 0, .int .u64 0, .int .u64 0, .int .u64 0, .int .u64 0, .int .u64 0, .int .u64 0, .int .u64 0, .int .u64 0, .int .u64 0, .int .u64 0, .int .u64 0, .int .u64 0, .int .u64 0, .int .u64 0, .int .u64 0, .int .u64 0, .int .u64 0, .int .u64 0, .int .i64 0, .bool false] : Array Value).size = F.size) := ⟨by rw [← HF.out, sc_size _ _ _ z_len]; rfl⟩
 have Fb : Away ((#[.int .i64 k, .int .u64 0, .int .u64 0, .int .u64 0, .int .u64 0, .int .u64 0, .int .u64 0, .int .u64 0, .int .u64 0, .int .u64 0, .int .u64 0, .int .u64 0, .int .u64 0, .int .u64 0, .int .u64 0, .int .u64 0, .int .u64 0, .int .u64 0, .int .u64 0, .int .u64 0, .int .u64 0, .int .u64 0, .int .u64 0, .int .u64 0, .int .u64 0, .int .u64 0, .int .i64 0, .bool false] : Array Value) = F) := ⟨by rw [← HF.out]; rfl⟩
 rw [HF.out]
 go_enter Tryz.func118, Tryz.ntmps118
 go_wp2_with fail
 refine (Hrate.out _).mono ?_
 rintro e w1 ⟨rfl, rfl⟩
 go_wp2_with (first
  | ((with_reducible refine wpList_buildC rfl _ _ rfl #[.int .i64 k, .int .u64 0, .int .u64 0, .int .u64 0, .int .u64 0, .int .u64 0, .int .u64 0, .int .u64 0, .int .u64 0, .int .u64 0, .int .u64 0, .int .u64 0, .int .u64 0, .int .u64 0, .int .u64 0, .int .u64 0, .int .u64 0, .int .u64 0, .int .u64 0, .int .u64 0, .int .u64 0, .int .u64 0, .int .u64 0, .int .u64 0, .int .u64 0, .int .u64 0, .int .i64 0, .bool false] ?hC ?_); (case hC => kernel_rfl); rw [Fb.out])
  | (refine wpList_store_new rfl 130 _ _ rfl F rfl rfl Fi.out (by first | exact Fz.out | rfl) Fo.out rfl ?_))
 refine bodyPost_ret_by (v := .tuple #[.agg F, .int .i64 0]) (rspc.results_cell_tmp rfl _ _ w.heap.size 130 _ (0, 0) _ rfl (heap_at _ _ _ rfl) Tryz.underlying130 rfl Fi.out _ rfl) rfl ?_
 exact ⟨rfl, below_alloc _ _⟩
end rspe
namespace rspf
open Go.RowKit
open arr mem kecm kecb kstep kfun spgm rspa rspb rspc rspd
theorem infoByte : (Tryz.prog.info? 5).map (fun i => (i.zero, i.size, i.bytes)) = some (some (.int .u8 0), 1, 1) := by kernel_rfl
theorem parts {P : Program} {e : TypeId} {z : Value} {s b : Nat} (h : (P.info? e).map (fun i => (i.zero, i.size, i.bytes)) = some (some z, s, b)) : ∃ i, P.info? e = some i ∧ i.zero = some z ∧ i.size = s ∧ i.bytes = b := by
 cases hi : P.info? e with
 | none => rw [hi] at h; cases h
 | some i =>
  rw [hi] at h
  simp only [Option.map_some, Option.some.injEq, Prod.mk.injEq] at h
  exact ⟨i, rfl, h.1, h.2.1, h.2.2⟩
theorem owns_at {w w' : World} {base : Nat} {e : TypeId} {size : Nat} {v : Value} {n : Nat} {xs : List Value} {g : Nat} {C : Array Value} {t : TypeId} (h : w.ownsRow base e size v n xs) (k : At g C t w w') (hg : g < base) : w'.ownsRow base e size v n xs :=
 ⟨h.1, h.2.imp id fun ⟨g', cap, cur, hv, hb, hgr, rest⟩ => ⟨g', cap, cur, hv, hb, (k.block g' (lt_of_row hgr) (by omega)).trans hgr, rest⟩⟩
theorem at_below {g B : Nat} {C : Array Value} {t : TypeId} {a b c : World} (h : At g C t a b) (k : Below B b c) (hB : a.heap.size ≤ B) (hg : g < B) : At g C t a c :=
 ⟨k.os.trans h.os, k.tape.trans h.tape, k.output.trans h.output, Nat.le_trans h.size k.size, (k.block g hg).trans h.row, fun i hi hig => (k.block i (by omega)).trans (h.block i hi hig)⟩
open spof (u8s)
theorem u8s_cells (l : List Nat) (x : Nat) (hx : x < 256) : Lib.byteCells (u8s (l ++ [x])) = Lib.byteCells (u8s l) ++ [.int .u8 (x : Int)] := by
 unfold u8s
 rw [List.map_append, Lib.byteCells_append]
 congr 1
 simp [Lib.byteCells, Nat.mod_eq_of_lt hx]
theorem news_at {w : World} {v : Value} {T : Nat} : ∀ j u, [v][j]? = some u → (w.alloc (.cells #[v] T)).cell? ((⟨w.heap.size, 0, none⟩ : Addr).add j) = some u := by
 intro j u hj
 match j, hj with
 | 0, hj =>
  simp at hj
  subst hj
  simp [Addr.add]
theorem owns_some {w : World} {base : Nat} {e : TypeId} {size : Nat} {v : Value} {n : Nat} {xs : List Value} (h : w.ownsRow base e size v (n + 1) xs) : ∃ g cap, v = .slice (some ⟨g, 0, none⟩) (n + 1) cap := by
 rcases h.2 with ⟨-, h0⟩ | ⟨g, cap, cur, hv, -⟩
 ·omega
 ·exact ⟨g, cap, hv⟩
theorem conv_own {w : World} {base g cap n : Nat} {l : List UInt8} (hn : l.length = n) (h : w.ownsRow base 5 1 (.slice (some ⟨g, 0, none⟩) n cap) n (Lib.byteCells l)) :
 (convert 78 9 (.slice (some ⟨g, 0, none⟩) n cap)).run Tryz.prog w.drew = .ok (.string ⟨l.toArray⟩) w.drew := by
 subst hn
 have h := World.ownsRow.drew h
 refine run_convert_bytes_back (P := Tryz.prog) w.drew 78 9 5 ⟨g, 0, none⟩ cap l Tryz.underlying78 Tryz.underlying5 Tryz.underlying9 (fun j hj => ?_)
 have := h.cellAt j (by omega)
 rw [Addr.add_mid, Nat.zero_add, this]
 simp [Lib.byteCells, hj]
theorem shr_is (x c : Nat) : IntKind.u8.wrap ((x : Int) / 2 ^ c) = ((x / 2 ^ c % 256 : Nat) : Int) := by
 rw [rols.castd x c, IntKind.wrap_u8]
 omega
theorem any_tail {P : Program} {md : Region.Mode} {l : List Oper} {Q : Exit → Act → World → Prop} {listed : Array Bool} {a : Act} {w : World} (n g : Nat) (hB : Region.seqB md l.toArray g n listed = true) (hg : (l.drop n).length = g)
 (h : wpList P l.toArray Q (l.drop n) a w) : wpAny P md l.toArray Q g listed a w := by
 subst hg
 exact wpAny_of_seq (l.drop n) n listed a w (fun j => by simp [List.getElem?_drop]) hB h
theorem at_rowf {g : Nat} {C C' : Array Value} {t : TypeId} {w w' : World} (h : At g C t w w') : At g C' t w (w'.setRow g C') :=
 ⟨h.os, h.tape, h.output, by simpa [World.setRow] using h.size, setRow_heap _ _ _ _ _ _ h.row, fun k hk hg => (setRow_other w' g k C' hg).trans (h.block k hk hg)⟩
theorem of_pos {c : Prop} [Decidable c] {a b : Prop} (hc : c) (h : a) : if c then a else b := by rw [if_pos hc]; exact h
end rspf
namespace rspg
open Go Go.RowKit
open arr mem kecm kecb kstep kfun spgm rspa rspb rspc rspd rspf
open spof (u8s)
set_option maxRecDepth 100000 in
set_option maxHeartbeats 4000000 in
theorem squeeze_pad {T : Array Value} {ts rs : List Nat} (k : Int) (a n : Nat) (l : List Nat) (w : World) (h : St l) (hK : KT T ts rs) (hok : ok k (a : Int) false = true) (hra : 0 < rate k ∧ a < rate k ∧ rate k ≤ 168) (hn : n ≤ 50000) :
 Calls Tryz.prog 120 #[.agg T, .agg (SC k l (a : Int) false), .int .i64 (n : Int)] w fun e w' => e = .returned (.tuple #[.agg (SC k (sk (PP ts rs) (rate k) (pad (rate k) (spgm.mark k) ⟨l, a⟩) n).l ((sk (PP ts rs) (rate k) (pad (rate k) (spgm.mark k) ⟨l, a⟩) n).at' : Nat) true), .string ⟨(u8s (sq (PP ts rs) (rate k) (pad (rate k) (spgm.mark k) ⟨l, a⟩) n)).toArray⟩, .int .i64 0]) ∧ Below w.heap.size w w' := by
 have Hrt : Away (∀ w1 : World, Calls Tryz.prog 129 #[.agg (SC k l (a : Int) false)] w1 fun e w' => e = .returned (.bool true) ∧ Below w1.heap.size w1 w') := ⟨fun w1 => by have h9 := right_any k (a : Int) false l w1 h.len; rw [hok] at h9; exact h9⟩
 have Hrate : Away (∀ w1 : World, Calls Tryz.prog 128 #[.int .i64 k] w1 fun e w' => e = .returned (.int .i64 ((rate k : Nat) : Int)) ∧ w' = w1) := ⟨rate_any k⟩
 obtain ⟨r, hr⟩ : ∃ r, rate k = r := ⟨_, rfl⟩
 rw [hr] at hra Hrate ⊢
 have hf := mark_lt k
 obtain ⟨f, hf2⟩ : ∃ f, spgm.mark k = f := ⟨_, rfl⟩
 rw [hf2] at hf ⊢
 clear hr hok
 have Hra := Away.mk hra
 have H := Away.mk h
 have HK := Away.mk hK
 have HTz : Away ((Tryz.prog.info? 38).map (·.size) = some T.size) := ⟨by rw [hK.size]; exact rkeb.sizeT⟩
 obtain ⟨z, HZ⟩ := ex_eq Z
 have HZl : Away (z.length = 25) := ⟨by rw [← HZ.out]; rfl⟩
 have Hz : Away ((#[.int .i64 0, .int .u64 0, .int .u64 0, .int .u64 0, .int .u64 0, .int .u64 0, .int .u64 0, .int .u64 0, .int .u64 0, .int .u64 0, .int .u64 0, .int .u64 0, .int .u64 0, .int .u64 0, .int .u64 0, .int .u64 0, .int .u64 0, .int .u64 0, .int .u64 0, .int .u64 0, .int .u64 0, .int .u64 0, .int .u64 0, .int .u64 0, .int .u64 0, .int .u64 0, .int .i64 0, .bool false] : Array Value) = SC 0 z 0 false) := ⟨by rw [← HZ.out]; exact zs_is⟩
 obtain ⟨i0, hi, hz0, hz1, hz2⟩ := parts infoByte
 have HI := Away.mk (And.intro hi (And.intro hz0 (And.intro hz1 hz2)))
 have hz28 : ∀ (k a : Int) (o : Bool) {l : List Nat}, l.length = 25 → (SC k l a o).size = 28 := fun k a o l h => sc_size k a o h
 clear h hK HZ hi hz0 hz1 hz2 hra
 have Hmark : Away (∀ w1 : World, Calls Tryz.prog 131 #[.int .i64 k] w1 fun e w' => e = .returned (.int .u8 (f : Int)) ∧ w' = w1) := ⟨fun w1 => by rw [← hf2]; exact mark_any k w1⟩
 clear hf2
 have hn0 : (0 : Int) ≤ (n : Int) := by omega
 have hn1 : ¬ (50000 : Int) < (n : Int) := by omega
 have C1 : Away (∀ (l : List Nat) (w1 : World), St l → Calls Tryz.prog 130 #[.agg T, .agg (LK .u64 l)] w1 fun e w' => e = .returned (.agg (LK .u64 (PP ts rs l))) ∧ Below w1.heap.size w1 w') := ⟨fun l w1 hl => rperm.perm_any l w1 hl HK.out⟩
 obtain ⟨s0, Hs0⟩ := ex_eq (pad r f ⟨l, a⟩)
 have Hs0k : Away (St s0.l ∧ s0.at' ≤ r) := ⟨by rw [← Hs0.out]; exact pad_ok H.out⟩
 rw [Hs0.out]
 obtain ⟨E, HE⟩ := ex_eq (sk (PP ts rs) r s0 n)
 have Hel : Away (E.l.length = 25) := ⟨by rw [← HE.out]; exact (sk_ok (fun _ h => pp_st HK.out.br h) Hra.out.1 Hs0k.out.1 Hs0k.out.2 n).1.len⟩
 rw [HE.out]
 obtain ⟨F, HF⟩ := ex_eq (SC k E.l (E.at' : Int) true)
 rw [HF.out]
 obtain ⟨bs, Hbs⟩ := ex_eq (u8s (sq (PP ts rs) r s0 n))
 have Hbl : Away (bs.length = n) := ⟨by rw [← Hbs.out, u8s, List.length_map, sq_length]⟩
 rw [Hbs.out]
 go_enter Tryz.func120, Tryz.ntmps120
 obtain ⟨W, hW⟩ : ∃ x, ((w.alloc (.cells T 38)).alloc (.cells (SC k l (a : Int) false) 130)).alloc (.cells (SC 0 z 0 false) 130) = x := ⟨_, rfl⟩
 obtain ⟨b0, b1, b2, hWs, hWb⟩ := three hW
 have B0 := Away.mk b0
 have B2 := Away.mk b2
 have HWs := Away.mk hWs
 have HWb := Away.mk hWb
 have HW := Away.mk hW
 have B1 := Away.mk b1
 have Si := Away.mk (sc_info k (a : Int) false H.out.len)
 obtain ⟨S, HS⟩ := ex_eq (SC k l (a : Int) false)
 rw [HS.out] at B1 Si HW Hrt
 clear hWs hWb hW b0 b1 b2
 rw [HS.out]
 go_wp2_with (first
  | (rw [Hz.out, HW.out])
  | (refine wpList_load_row rfl 130 _ rfl (w.heap.size + 1) rfl 130 S (0, 0) _ B1.out Tryz.underlying130 rfl Si.out ?_))
 refine (Hrt.out _).mono ?_
 rintro e w1 ⟨rfl, hb1⟩
 rw [← HS.out] at B1
 have A1 : Away (At (w.heap.size + 1) (SC k l (a : Int) false) 130 W w1) := ⟨(At.refl B1.out).later hb1⟩
 have c3' : w1.cell? ⟨w.heap.size + 1, 27, none⟩ = some (.bool false) := cell_at A1.out.row (sc_out k (a : Int) false H.out.len)
 have c0' : w1.cell? ⟨w.heap.size + 1, 0, none⟩ = some (.int .i64 k) := cell_at A1.out.row (sc_kind k l (a : Int) false)
 clear hb1 HS Si Hrt
 go_wp2_with fail
 refine (Hrate.out _).mono ?_
 rintro e w2 ⟨rfl, rfl⟩
 have ha8 : a < r := Hra.out.2.1
 have h168 : r ≤ 168 := Hra.out.2.2
 obtain ⟨q, hq⟩ : ∃ q, a / 8 = q := ⟨_, rfl⟩
 obtain ⟨m, hm⟩ : ∃ m, a % 8 = m := ⟨_, rfl⟩
 obtain ⟨c, hc⟩ : ∃ c, c = 8 * m := ⟨_, rfl⟩
 have fq : (a : Int).tdiv 8 = (q : Int) := by rw [Int.tdiv_eq_ediv_of_nonneg (by omega)]; omega
 have fqw : IntKind.i64.wrap ((a : Int).tdiv 8) = (q : Int) := by rw [fq, IntKind.wrap_i64]; omega
 have fm : (a : Int).tmod 8 = (m : Int) := by rw [Int.tmod_eq_emod_of_nonneg (by omega)]; omega
 have fq2 : (a : Int) / 8 = (q : Int) := by omega
 have fq3 : IntKind.i64.wrap (q : Int) = (q : Int) := by rw [IntKind.wrap_i64]; omega
 have fm2 : (a : Int) % 8 = (m : Int) := by omega
 have fc : IntKind.i64.wrap (8 * (m : Int)) = (c : Int) := by rw [IntKind.wrap_i64]; omega
 have fu : IntKind.u64.wrap (c : Int) = (c : Int) := by rw [IntKind.wrap_u64]; omega
 have hc63 : c ≤ 63 := by omega
 have hq25 : q < 25 := by omega
 have hqz : (q : Int) < 25 := by omega
 obtain ⟨x, hx⟩ : ∃ x, g l q = x := ⟨_, rfl⟩
 have bx : x < 18446744073709551616 := hx ▸ H.out.lt q
 obtain ⟨y, hy⟩ : ∃ y, f * 2 ^ c % 18446744073709551616 = y := ⟨_, rfl⟩
 have by' : y < 18446744073709551616 := hy ▸ Nat.mod_lt _ (by decide)
 have fs := shl_is f c
 rw [hy] at fs
 have fb : IntKind.u64.wrap (f : Int) = (f : Int) := by rw [IntKind.wrap_u64]; omega
 have fy : IntKind.u64.wrap ((f : Int) * 2 ^ c) = (y : Int) := by rw [IntKind.wrap_u64]; exact fs
 obtain ⟨v, hv⟩ : ∃ v, x ^^^ y = v := ⟨_, rfl⟩
 have V := xor2 x y v bx by' hv
 have Hxb : Away (l.set q v = xb l a f) := ⟨by unfold xb; rw [hq, hm, ← hc, hx, hy, hv]⟩
 have cp : w2.cell? ⟨w.heap.size + 1, 26, none⟩ = some (.int .i64 (a : Int)) := cell_at A1.out.row (sc_at k _ false H.out.len)
 have cx : w2.cell? ⟨w.heap.size + 1, 1 + q, none⟩ = some (.int .u64 (x : Int)) := by rw [← hx]; exact cell_at A1.out.row (sc_lane k _ false H.out.len q hq25)
 clear hq hm hc hx hy hv
 go_wp2_with fail
 refine still_tail 19 (by kernel_rfl) (by kernel_rfl) ?_
 simp only [List.take_succ_cons, List.take_zero, List.drop_succ_cons, List.drop_zero]
 iterate 8 still_step
 still_call (Hmark.out _)
 repeat still_step
 refine wpStill_nil ?_
 have A2 : Away (At (w.heap.size + 1) (SC k l (a : Int) false) 130 W w2.drew) := ⟨at_drew A1.out⟩
 clear cp cx fq fqw fm fq2 fq3 fm2 fc fu fs V fb fy c3' c0' A1 hqz hc63
 obtain ⟨r1, hr1⟩ : ∃ r1, r - 1 = r1 := ⟨_, rfl⟩
 obtain ⟨q1, hq1⟩ : ∃ q, r1 / 8 = q := ⟨_, rfl⟩
 obtain ⟨m1, hm1⟩ : ∃ m, r1 % 8 = m := ⟨_, rfl⟩
 obtain ⟨c1, hc1⟩ : ∃ c, c = 8 * m1 := ⟨_, rfl⟩
 have fr1 : (r : Int) - 1 = (r1 : Int) := by omega
 have fr1w : IntKind.i64.wrap ((r : Int) - 1) = (r1 : Int) := by rw [IntKind.wrap_i64]; omega
 have fq1 : (r1 : Int).tdiv 8 = (q1 : Int) := by rw [Int.tdiv_eq_ediv_of_nonneg (by omega)]; omega
 have fq1w : IntKind.i64.wrap ((r1 : Int).tdiv 8) = (q1 : Int) := by rw [fq1, IntKind.wrap_i64]; omega
 have fm1 : (r1 : Int).tmod 8 = (m1 : Int) := by rw [Int.tmod_eq_emod_of_nonneg (by omega)]; omega
 have fq12 : (r1 : Int) / 8 = (q1 : Int) := by omega
 have fm12 : (r1 : Int) % 8 = (m1 : Int) := by omega
 have fc1 : (8 : Int) * (m1 : Int) = (c1 : Int) := by omega
 have fc1w : IntKind.i64.wrap (8 * (m1 : Int)) = (c1 : Int) := by rw [IntKind.wrap_i64]; omega
 have fu1 : IntKind.u64.wrap (c1 : Int) = (c1 : Int) := by rw [IntKind.wrap_u64]; omega
 have hc163 : c1 ≤ 63 := by omega
 have hq125 : q1 < 25 := by omega
 have hq1z : (q1 : Int) < 25 := by omega
 have hr1168 : r1 ≤ 168 := by omega
 have HX0 : Away (St (xb l a f)) := ⟨xb_st H.out a f⟩
 obtain ⟨l2, Hl2⟩ := ex_eq (xb l a f)
 rw [Hl2.out] at HX0 Hxb
 obtain ⟨x1, hx1⟩ : ∃ x, g l2 q1 = x := ⟨_, rfl⟩
 have bx1 : x1 < 18446744073709551616 := hx1 ▸ HX0.out.lt q1
 obtain ⟨y1, hy1⟩ : ∃ y, 128 * 2 ^ c1 % 18446744073709551616 = y := ⟨_, rfl⟩
 have by1 : y1 < 18446744073709551616 := hy1 ▸ Nat.mod_lt _ (by decide)
 have fs1 : ((128 : Int) * 2 ^ c1 % 18446744073709551616) = (y1 : Int) := by have h9 := shl_is 128 c1; rw [hy1] at h9; exact h9
 have fy1 : IntKind.u64.wrap ((128 : Int) * 2 ^ c1) = (y1 : Int) := by rw [IntKind.wrap_u64]; exact fs1
 obtain ⟨v1, hv1⟩ : ∃ v, x1 ^^^ y1 = v := ⟨_, rfl⟩
 have V1 := xor2 x1 y1 v1 bx1 by1 hv1
 have Hxb1 : Away (l2.set q1 v1 = xb l2 r1 128) := ⟨by unfold xb; rw [hq1, hm1, ← hc1, hx1, hy1, hv1]⟩
 have HX1 : Away (St (xb l2 r1 128)) := ⟨xb_st HX0.out r1 128⟩
 have Hpad : Away (s0 = ⟨xb l2 r1 128, r⟩) := ⟨by rw [← Hs0.out, pad, Hl2.out, hr1]⟩
 obtain ⟨l3, Hl3⟩ := ex_eq (xb l2 r1 128)
 rw [Hl3.out] at HX1 Hxb1 Hpad
 have Hq25 := Away.mk hq25
 have Hq125 := Away.mk hq125
 have Hx1 := Away.mk hx1
 clear hq1 hm1 hc1 hy1 hv1 hr1 Hl2 Hl3 Hs0 hx1 hq25
 with_reducible refine wpList_put2 A2 rfl _ _ _ rfl rfl ?_
 refine ⟨_, _, _, rfl, rfl, rfl, (by rw [sc_size k _ false H.out.len]; have := Hq25.out; omega), ?_⟩
 intro w5 A5
 rw [sc_setl k _ false H.out.len q v Hq25.out, Hxb.out] at A5
 have cx1 : w5.cell? ⟨w.heap.size + 1, 1 + q1, none⟩ = some (.int .u64 (x1 : Int)) := by (rw [← Hx1.out]; exact cell_at A5.out.row (sc_lane k _ false HX0.out.len q1 Hq125.out))
 clear A2
 go_wp2_with (first
  | ((with_reducible refine wpList_put2 A5 rfl _ _ _ rfl rfl ?_); refine ⟨_, _, _, rfl, rfl, rfl, (by rw [sc_size k _ false HX0.out.len]; have := Hq125.out; omega), ?_⟩; intro w6 A6; rw [sc_setl k _ false HX0.out.len q1 v1 Hq125.out, Hxb1.out] at A6; clear A5)
  | ((with_reducible refine wpList_put A6 rfl _ _ _ rfl 27 (.bool true) rfl rfl ?hi rfl ?hn rfl ?_); (case hi => rfl); (case hn => (rw [sc_size k _ false HX1.out.len]; decide)); intro w7 A7; rw [sc_seto k _ false true HX1.out.len] at A7; clear A6)
  | ((with_reducible refine wpList_put2 A7 rfl _ _ _ rfl rfl ?_); refine ⟨_, _, _, rfl, rfl, rfl, (by rw [sc_size k _ true HX1.out.len]; decide), ?_⟩; intro w8 A8; rw [sc_seta k _ _ true HX1.out.len] at A8; have hbase : W.heap.size ≤ w8.heap.size := A8.out.size; clear A7)
  | (at_make; refine wpList_make_own _ rfl _ _ 78 rfl W.heap.size 5 i0 (.int .u8 0) 1 Tryz.underlying78 HI.out.1 HI.out.2.1 HI.out.2.2.1 .i64 .i64 (n : Int) n rfl rfl rfl (by rw [HI.out.2.2.2]; omega) (by unfold maxLen; omega) hbase ?_))
 intro w3 hown hgr
 have AL : Away (At (w.heap.size + 1) (SC k s0.l (s0.at' : Nat) true) 130 W w8) := ⟨by rw [Hpad.out]; exact A8.out⟩
 have hb3 : Below w8.heap.size w8 w3 := (Below.refl _ _).grown hgr (Nat.le_refl _) (fun k hk => by simp at hk)
 have AM : Away (At (w.heap.size + 1) (SC k s0.l (s0.at' : Nat) true) 130 W w3) := ⟨AL.out.later hb3⟩
 have OW0 := Away.mk hown
 clear hown hgr hb3 AL A8 Hxb Hxb1 fr1 fr1w fq1 fq1w fm1 fq12 fm12 fc1 fc1w fu1 hc163 hq125 hq1z hr1168 fs1 fy1 V1 bx1 by1 bx by' cx1
 go_wp2_with fail
 go_loopw [10] (fun v wr => ∃ j : Nat, j ≤ n ∧ (∃ g cap, v = .slice (some ⟨g, 0, none⟩) j cap) ∧ Away (wr.ownsRow W.heap.size 5 1 v j (Lib.byteCells (u8s (sq (PP ts rs) r s0 j)))) ∧ Away (At (w.heap.size + 1) (SC k (sk (PP ts rs) r s0 j).l ((sk (PP ts rs) r s0 j).at' : Nat) true) 130 W wr)) (fun v _ => n - (match v with | .slice _ m _ => m | _ => 0))
 case atStart => exact ⟨0, Nat.zero_le _, ⟨_, _, rfl⟩, OW0, AM⟩
 case round =>
  clear OW0 AM
  obtain ⟨j, hj, ⟨gv, cap, rfl⟩, OWN, A0⟩ := hrel
  by_cases hlt : j < n
  ·have hjz : (j : Int) < (n : Int) := by omega
   obtain ⟨st, Hst⟩ := ex_eq (sk (PP ts rs) r s0 j)
   have Hso : Away (St st.l ∧ st.at' ≤ r) := ⟨by rw [← Hst.out]; exact sk_ok (fun _ h => pp_st HK.out.br h) Hra.out.1 Hs0k.out.1 Hs0k.out.2 j⟩
   rw [Hst.out] at A0
   have Hnx : Away (sk (PP ts rs) r s0 (j + 1) = nx (PP ts rs) r st ∧ sq (PP ts rs) r s0 (j + 1) = sq (PP ts rs) r s0 j ++ [gb (tn (PP ts rs) r st).l (tn (PP ts rs) r st).at']) := ⟨by rw [sk, Hst.out, sq_succ, sb, Hst.out]; exact ⟨rfl, rfl⟩⟩
   obtain ⟨sl, p⟩ := st
   have hsl := Hso.out.1
   have hp := Hso.out.2
   simp only at hsl hp A0
   have h168 := Hra.out.2.2
   have hp8 : p ≤ 168 := by omega
   have Hsl := Away.mk hsl
   have Hp := Away.mk hp
   have cp0 : wr.cell? ⟨w.heap.size + 1, 26, none⟩ = some (.int .i64 (p : Int)) := cell_at A0.out.row (sc_at k _ true hsl.len)
   have hs1 : w.heap.size + 1 < W.heap.size := by have := HWs.out; omega
   have Hs1 := Away.mk hs1
   clear hsl hp hj hs1
   by_cases he : p = r
   ·have hz : ((p : Int) == (r : Int)) = true := beq_iff_eq.2 (by omega)
    have Htn : Away (tn (PP ts rs) r ⟨sl, p⟩ = ⟨PP ts rs sl, 0⟩) := ⟨by rw [tn, if_pos he]⟩
    have HQ : Away (St (PP ts rs sl)) := ⟨pp_st HK.out.br Hsl.out⟩
    obtain ⟨xl, Hpl⟩ := ex_eq (PP ts rs sl)
    rw [Hpl.out] at HQ Htn
    have C2 : Away (∀ w1 : World, Calls Tryz.prog 130 #[.agg T, .agg (LK .u64 sl)] w1 fun e w' => e = .returned (.agg (LK .u64 xl)) ∧ Below w1.heap.size w1 w') := ⟨fun w1 => by rw [← Hpl.out]; exact C1.out sl w1 Hsl.out⟩
    have Xz := Away.mk (show (Tryz.prog.info? 128).map (·.size) = some (LK .u64 sl).toList.length by rw [Array.length_toList]; exact size25 Hsl.out.len)
    have T5 : Away (wr.heap[w.heap.size]? = some (.cells T 38 (0, 0))) := ⟨A0.out.other (by have := HWs.out; omega) (by omega) B0.out⟩
    have L5 := Away.mk (lanes_at A0.out.row Hsl.out.len)
    clear he Hp
    go_wp2_with (first
     | (refine wpList_load_row rfl 38 _ rfl w.heap.size rfl 38 T (0, 0) _ T5.out Tryz.underlying38 rfl HTz.out ?_)
     | (refine wpList_load_mid rfl 128 _ rfl (w.heap.size + 1) 1 rfl (LK .u64 sl).toList _ L5.out Tryz.underlying128 rfl Xz.out ?_))
    refine (C2.out _).mono ?_
    rintro e w6 ⟨rfl, hb6⟩
    have HR3 : Away (At (w.heap.size + 1) (SC k sl (p : Int) true) 130 wr w6) := ⟨(At.refl A0.out.row).later hb6⟩
    clear hb6 cp0 T5 L5
    go_wp2_with (first
     | ((with_reducible refine wpList_putl HR3 Hsl.out.len HQ.out.len rfl _ _ rfl rfl ?hx ?hy ?_); (case hx => exact rfl); (case hy => exact rfl); intro w7 HR4; clear HR3)
     | ((with_reducible refine wpList_put2 (by assumption) rfl _ _ _ rfl rfl ?_); refine ⟨_, _, _, rfl, rfl, rfl, (by rw [hz28 _ _ _ HQ.out.len]; decide), ?_⟩; intro w8 HR5; rw [sc_seta k _ _ true HQ.out.len] at HR5))
    obtain ⟨y, hy⟩ : ∃ y : Nat, y = 0 := ⟨0, rfl⟩
    have hyr : y < r := by rw [hy]; exact Hra.out.1
    have Htn : Away (tn (PP ts rs) r ⟨sl, p⟩ = ⟨xl, y⟩) := ⟨by rw [hy]; exact Htn.out⟩
    have AZ : Away (At (w.heap.size + 1) (SC k xl (y : Int) true) 130 W w8) := ⟨A0.out.trans (by rw [hy]; exact HR5.out)⟩
    have OZ : Away (w8.ownsRow W.heap.size 5 1 (.slice (some ⟨gv, 0, none⟩) j cap) j (Lib.byteCells (u8s (sq (PP ts rs) r s0 j)))) := ⟨owns_at OWN.out HR5.out Hs1.out⟩
    clear A0 OWN HR4 HR5 hz hy C2 Xz Hpl Hsl
    obtain ⟨q, hq⟩ : ∃ q, y / 8 = q := ⟨_, rfl⟩
    obtain ⟨m, hm⟩ : ∃ m, y % 8 = m := ⟨_, rfl⟩
    obtain ⟨c, hc⟩ : ∃ c, c = 8 * m := ⟨_, rfl⟩
    have fq : (y : Int).tdiv 8 = (q : Int) := by rw [Int.tdiv_eq_ediv_of_nonneg (by omega)]; omega
    have fqw : IntKind.i64.wrap ((y : Int).tdiv 8) = (q : Int) := by rw [fq, IntKind.wrap_i64]; omega
    have fm : (y : Int).tmod 8 = (m : Int) := by rw [Int.tmod_eq_emod_of_nonneg (by omega)]; omega
    have fq2 : (y : Int) / 8 = (q : Int) := by omega
    have fq3 : IntKind.i64.wrap (q : Int) = (q : Int) := by rw [IntKind.wrap_i64]; omega
    have fm2 : (y : Int) % 8 = (m : Int) := by omega
    have fc : IntKind.i64.wrap (8 * (m : Int)) = (c : Int) := by rw [IntKind.wrap_i64]; omega
    have fu : IntKind.u64.wrap (c : Int) = (c : Int) := by rw [IntKind.wrap_u64]; omega
    have hc63 : c ≤ 63 := by omega
    have hq25 : q < 25 := by omega
    have hqz : (q : Int) < 25 := by omega
    have hy8 : y ≤ 168 := by omega
    obtain ⟨x, hx⟩ : ∃ x, g xl q = x := ⟨_, rfl⟩
    obtain ⟨β, hβ⟩ : ∃ β, x / 2 ^ c % 256 = β := ⟨_, rfl⟩
    have bβ : β < 256 := hβ ▸ Nat.mod_lt _ (by decide)
    have fz := shr_is x c
    rw [hβ] at fz
    have Hgb : Away (gb xl y = β) := ⟨by rw [gb, hq, hm, ← hc, hx, hβ]⟩
    have cp1 : w8.cell? ⟨w.heap.size + 1, 26, none⟩ = some (.int .i64 (y : Int)) := cell_at AZ.out.row (sc_at k _ true HQ.out.len)
    have cx : w8.cell? ⟨w.heap.size + 1, 1 + q, none⟩ = some (.int .u64 (x : Int)) := by rw [← hx]; exact cell_at AZ.out.row (sc_lane k _ true HQ.out.len q hq25)
    have hwx : W.heap.size ≤ w8.heap.size := AZ.out.size
    have Hyr := Away.mk hyr
    clear hq hm hc hx hβ hyr h168
    refine wp_region_any (by kernel_rfl) ?_
    change wpAny _ _ _ _ _ _ _ (World.drew _)
    (focus (refine wpAny_take (i := 0) (v := ?_) rfl (by kernel_rfl) (by kernel_rfl) (by kernel_rfl) (fun _ _ _ h => h) (Or.inl ⟨by rfl, ?_⟩) ?_; rotate_left; focus (intro w; go_simp; first | done | with_reducible rfl); all_goals skip))
    (focus (refine wpAny_take (i := 1) (v := ?_) rfl (by kernel_rfl) (by kernel_rfl) (by kernel_rfl) (fun _ _ _ h => h) (Or.inl ⟨by rfl, ?_⟩) ?_; rotate_left; focus (intro w; go_simp; first | done | with_reducible rfl); all_goals skip))
    (focus (refine wpAny_take (i := 4) (v := ?_) rfl (by kernel_rfl) (by kernel_rfl) (by kernel_rfl) (fun _ _ _ h => h) (Or.inl ⟨by rfl, ?_⟩) ?_; rotate_left; focus (intro w; go_simp; first | done | with_reducible rfl); all_goals skip))
    (focus (refine wpAny_take (i := 7) (v := ?_) rfl (by kernel_rfl) (by kernel_rfl) (by kernel_rfl) (fun _ _ _ h => h) (Or.inl ⟨by rfl, ?_⟩) ?_; rotate_left; focus (intro w; go_simp; first | done | with_reducible rfl); all_goals skip))
    refine wpAny_ready (rs := [2, 8]) (by kernel_rfl) (by simp) ?_
    refine AllReady.cons rfl (fun K hK => ?_) (AllReady.cons rfl (fun K hK => ?_) AllReady.nil)
    ·(go_simp; refine hK _ _ ?_; clear hK K)
     (focus (refine wpAny_take (i := 3) (v := ?_) rfl (by kernel_rfl) (by kernel_rfl) (by kernel_rfl) (fun _ _ _ h => h) (Or.inl ⟨by rfl, ?_⟩) ?_; rotate_left; focus (intro w; go_simp; first | done | with_reducible rfl); all_goals skip))
     (focus (refine wpAny_take (i := 5) (v := ?_) rfl (by kernel_rfl) (by kernel_rfl) (by kernel_rfl) (fun _ _ _ h => h) (Or.inl ⟨by rfl, ?_⟩) ?_; rotate_left; focus (intro w; go_simp; first | done | with_reducible rfl); all_goals skip))
     refine wpAny_ready (rs := [6, 8]) (by kernel_rfl) (by simp) ?_
     refine AllReady.cons rfl (fun K hK => ?_) (AllReady.cons rfl (fun K hK => ?_) AllReady.nil)
     ·(go_simp; refine hK _ _ ?_; clear hK K)
      (refine wpAny_ready (rs := [8]) (by kernel_rfl) (by simp) ?_; refine AllReady.cons rfl (fun K hK => ?_) AllReady.nil; go_simp; refine hK _ _ ?_; clear hK K)
      (focus (refine wpAny_take (i := 9) (v := ?_) rfl (by kernel_rfl) (by kernel_rfl) (by kernel_rfl) (fun _ _ _ h => h) (Or.inl ⟨by rfl, ?_⟩) ?_; rotate_left; focus (intro w; go_simp; first | done | with_reducible rfl); all_goals skip))
      (focus (refine wpAny_take (i := 10) (v := ?_) rfl (by kernel_rfl) (by kernel_rfl) (by kernel_rfl) (fun _ _ _ h => h) (Or.inl ⟨by rfl, ?_⟩) ?_; rotate_left; focus (intro w; go_simp; first | done | with_reducible rfl); all_goals skip))
      (focus (refine wpAny_take (i := 11) (v := ?_) rfl (by kernel_rfl) (by kernel_rfl) (by kernel_rfl) (fun _ _ _ h => h) (Or.inl ⟨by rfl, ?_⟩) ?_; rotate_left; focus (intro w; go_simp; first | done | with_reducible rfl); all_goals skip))
      (focus (refine wpAny_take (i := 12) (v := ?_) rfl (by kernel_rfl) (by kernel_rfl) (by kernel_rfl) (fun _ _ _ h => h) (Or.inl ⟨by rfl, ?_⟩) ?_; rotate_left; focus (intro w; go_simp; first | done | with_reducible rfl); all_goals skip))
      (focus (refine wpAny_take (i := 13) (v := ?_) rfl (by kernel_rfl) (by kernel_rfl) (by kernel_rfl) (fun _ _ _ h => h) (Or.inl ⟨by rfl, ?_⟩) ?_; rotate_left; focus (intro w; go_simp; first | done | with_reducible rfl); all_goals skip))
      refine any_tail 14 3 (by kernel_rfl) (by kernel_rfl) ?_
      simp only [List.drop_succ_cons, List.drop_zero]
      clear cp1 cx fq fqw fm fq2 fq3 fm2 fc fu fz
      go_wp2_with (at_builtin; refine wpList_append_own _ rfl _ _ 78 rfl W.heap.size 5 i0 (.int .u8 0) 1 1 Tryz.underlying78 HI.out.1 HI.out.2.1 HI.out.2.2.1 HI.out.2.2.2 rfl (by decide) _ _ _ rfl (OZ.out.drew.alloc _) ⟨w8.heap.size, 0, none⟩ 1 1 [.int .u8 (β : Int)] rfl rfl news_at (fun u hu => by simp at hu; subst hu; rfl) (by unfold maxLen; omega) (by omega) (by simp; omega) ?_)
      intro v' w4 hown' hgrow _
      have hb4 : Below W.heap.size w8 w4 := ((Below.refl W.heap.size w8).drew.alloc hwx _).grown hgrow (by rw [size_alloc]; show W.heap.size ≤ w8.heap.size + 1; omega) (fun k hk => (OZ.out.lt k hk).1)
      have AY : Away (At (w.heap.size + 1) (SC k xl (y : Int) true) 130 W w4) := ⟨at_below AZ.out hb4 (Nat.le_refl _) Hs1.out⟩
      have OY : Away (w4.ownsRow W.heap.size 5 1 v' (j + 1) (Lib.byteCells (u8s (sq (PP ts rs) r s0 (j + 1))))) := ⟨by
       rw [Hnx.out.2, Htn.out, Hgb.out, u8s_cells _ _ bβ]; exact hown'⟩
      obtain ⟨gv', cap', hv'⟩ := owns_some OY.out
      have AR : Away (At (w.heap.size + 1) (SC k xl (y : Int) true) 130 w4 w4) := ⟨At.refl AY.out.row⟩
      have cp2 : w4.cell? ⟨w.heap.size + 1, 26, none⟩ = some (.int .i64 (y : Int)) := cell_at AY.out.row (sc_at k _ true HQ.out.len)
      clear hown' hgrow hb4
      subst hv'
      go_wp2_with ((with_reducible refine wpList_put2 AR rfl _ _ _ rfl rfl ?_); refine ⟨_, _, _, rfl, rfl, rfl, (by rw [hz28 _ _ _ HQ.out.len]; decide), ?_⟩; intro w9 HR9; rw [sc_seta k _ _ true HQ.out.len] at HR9)
      have AN : Away (At (w.heap.size + 1) (SC k (sk (PP ts rs) r s0 (j + 1)).l ((sk (PP ts rs) r s0 (j + 1)).at' : Nat) true) 130 W w9) := ⟨by rw [Hnx.out.1, nx, Htn.out]; exact AY.out.trans HR9.out⟩
      have ON := Away.mk (owns_at OY.out HR9.out Hs1.out)
      clear HR9 AR cp2 AY OY
      go_roundw
      case rel => exact ⟨j + 1, by omega, ⟨_, _, rfl⟩, ON, AN⟩
      case measure => simp; omega
     ·(go_simp; refine hK _ _ ?_; clear hK K)
      (focus (refine wpAny_take (i := 9) (v := ?_) rfl (by kernel_rfl) (by kernel_rfl) (by kernel_rfl) (fun _ _ _ h => h) (Or.inl ⟨by rfl, ?_⟩) ?_; rotate_left; focus (intro w; go_simp; first | done | with_reducible rfl); all_goals skip))
      (focus (refine wpAny_take (i := 10) (v := ?_) rfl (by kernel_rfl) (by kernel_rfl) (by kernel_rfl) (fun _ _ _ h => h) (Or.inl ⟨by rfl, ?_⟩) ?_; rotate_left; focus (intro w; go_simp; first | done | with_reducible rfl); all_goals skip))
      (focus (refine wpAny_take (i := 11) (v := ?_) rfl (by kernel_rfl) (by kernel_rfl) (by kernel_rfl) (fun _ _ _ h => h) (Or.inl ⟨by rfl, ?_⟩) ?_; rotate_left; focus (intro w; go_simp; first | done | with_reducible rfl); all_goals skip))
      (refine wpAny_ready (rs := [6]) (by kernel_rfl) (by simp) ?_; refine AllReady.cons rfl (fun K hK => ?_) AllReady.nil; go_simp; refine hK _ _ ?_; clear hK K)
      (focus (refine wpAny_take (i := 12) (v := ?_) rfl (by kernel_rfl) (by kernel_rfl) (by kernel_rfl) (fun _ _ _ h => h) (Or.inl ⟨by rfl, ?_⟩) ?_; rotate_left; focus (intro w; go_simp; first | done | with_reducible rfl); all_goals skip))
      (focus (refine wpAny_take (i := 13) (v := ?_) rfl (by kernel_rfl) (by kernel_rfl) (by kernel_rfl) (fun _ _ _ h => h) (Or.inl ⟨by rfl, ?_⟩) ?_; rotate_left; focus (intro w; go_simp; first | done | with_reducible rfl); all_goals skip))
      refine any_tail 14 3 (by kernel_rfl) (by kernel_rfl) ?_
      simp only [List.drop_succ_cons, List.drop_zero]
      clear cp1 cx fq fqw fm fq2 fq3 fm2 fc fu fz
      go_wp2_with (at_builtin; refine wpList_append_own _ rfl _ _ 78 rfl W.heap.size 5 i0 (.int .u8 0) 1 1 Tryz.underlying78 HI.out.1 HI.out.2.1 HI.out.2.2.1 HI.out.2.2.2 rfl (by decide) _ _ _ rfl (OZ.out.drew.alloc _) ⟨w8.heap.size, 0, none⟩ 1 1 [.int .u8 (β : Int)] rfl rfl news_at (fun u hu => by simp at hu; subst hu; rfl) (by unfold maxLen; omega) (by omega) (by simp; omega) ?_)
      intro v' w4 hown' hgrow _
      have hb4 : Below W.heap.size w8 w4 := ((Below.refl W.heap.size w8).drew.alloc hwx _).grown hgrow (by rw [size_alloc]; show W.heap.size ≤ w8.heap.size + 1; omega) (fun k hk => (OZ.out.lt k hk).1)
      have AY : Away (At (w.heap.size + 1) (SC k xl (y : Int) true) 130 W w4) := ⟨at_below AZ.out hb4 (Nat.le_refl _) Hs1.out⟩
      have OY : Away (w4.ownsRow W.heap.size 5 1 v' (j + 1) (Lib.byteCells (u8s (sq (PP ts rs) r s0 (j + 1))))) := ⟨by
       rw [Hnx.out.2, Htn.out, Hgb.out, u8s_cells _ _ bβ]; exact hown'⟩
      obtain ⟨gv', cap', hv'⟩ := owns_some OY.out
      have AR : Away (At (w.heap.size + 1) (SC k xl (y : Int) true) 130 w4 w4) := ⟨At.refl AY.out.row⟩
      have cp2 : w4.cell? ⟨w.heap.size + 1, 26, none⟩ = some (.int .i64 (y : Int)) := cell_at AY.out.row (sc_at k _ true HQ.out.len)
      clear hown' hgrow hb4
      subst hv'
      go_wp2_with ((with_reducible refine wpList_put2 AR rfl _ _ _ rfl rfl ?_); refine ⟨_, _, _, rfl, rfl, rfl, (by rw [hz28 _ _ _ HQ.out.len]; decide), ?_⟩; intro w9 HR9; rw [sc_seta k _ _ true HQ.out.len] at HR9)
      have AN : Away (At (w.heap.size + 1) (SC k (sk (PP ts rs) r s0 (j + 1)).l ((sk (PP ts rs) r s0 (j + 1)).at' : Nat) true) 130 W w9) := ⟨by rw [Hnx.out.1, nx, Htn.out]; exact AY.out.trans HR9.out⟩
      have ON := Away.mk (owns_at OY.out HR9.out Hs1.out)
      clear HR9 AR cp2 AY OY
      go_roundw
      case rel => exact ⟨j + 1, by omega, ⟨_, _, rfl⟩, ON, AN⟩
      case measure => simp; omega
    ·(go_simp; refine hK _ _ ?_; clear hK K)
     (focus (refine wpAny_take (i := 9) (v := ?_) rfl (by kernel_rfl) (by kernel_rfl) (by kernel_rfl) (fun _ _ _ h => h) (Or.inl ⟨by rfl, ?_⟩) ?_; rotate_left; focus (intro w; go_simp; first | done | with_reducible rfl); all_goals skip))
     (focus (refine wpAny_take (i := 10) (v := ?_) rfl (by kernel_rfl) (by kernel_rfl) (by kernel_rfl) (fun _ _ _ h => h) (Or.inl ⟨by rfl, ?_⟩) ?_; rotate_left; focus (intro w; go_simp; first | done | with_reducible rfl); all_goals skip))
     (focus (refine wpAny_take (i := 11) (v := ?_) rfl (by kernel_rfl) (by kernel_rfl) (by kernel_rfl) (fun _ _ _ h => h) (Or.inl ⟨by rfl, ?_⟩) ?_; rotate_left; focus (intro w; go_simp; first | done | with_reducible rfl); all_goals skip))
     (refine wpAny_ready (rs := [2]) (by kernel_rfl) (by simp) ?_; refine AllReady.cons rfl (fun K hK => ?_) AllReady.nil; go_simp; refine hK _ _ ?_; clear hK K)
     (focus (refine wpAny_take (i := 3) (v := ?_) rfl (by kernel_rfl) (by kernel_rfl) (by kernel_rfl) (fun _ _ _ h => h) (Or.inl ⟨by rfl, ?_⟩) ?_; rotate_left; focus (intro w; go_simp; first | done | with_reducible rfl); all_goals skip))
     (focus (refine wpAny_take (i := 5) (v := ?_) rfl (by kernel_rfl) (by kernel_rfl) (by kernel_rfl) (fun _ _ _ h => h) (Or.inl ⟨by rfl, ?_⟩) ?_; rotate_left; focus (intro w; go_simp; first | done | with_reducible rfl); all_goals skip))
     (refine wpAny_ready (rs := [6]) (by kernel_rfl) (by simp) ?_; refine AllReady.cons rfl (fun K hK => ?_) AllReady.nil; go_simp; refine hK _ _ ?_; clear hK K)
     (focus (refine wpAny_take (i := 12) (v := ?_) rfl (by kernel_rfl) (by kernel_rfl) (by kernel_rfl) (fun _ _ _ h => h) (Or.inl ⟨by rfl, ?_⟩) ?_; rotate_left; focus (intro w; go_simp; first | done | with_reducible rfl); all_goals skip))
     (focus (refine wpAny_take (i := 13) (v := ?_) rfl (by kernel_rfl) (by kernel_rfl) (by kernel_rfl) (fun _ _ _ h => h) (Or.inl ⟨by rfl, ?_⟩) ?_; rotate_left; focus (intro w; go_simp; first | done | with_reducible rfl); all_goals skip))
     refine any_tail 14 3 (by kernel_rfl) (by kernel_rfl) ?_
     simp only [List.drop_succ_cons, List.drop_zero]
     clear cp1 cx fq fqw fm fq2 fq3 fm2 fc fu fz
     go_wp2_with (at_builtin; refine wpList_append_own _ rfl _ _ 78 rfl W.heap.size 5 i0 (.int .u8 0) 1 1 Tryz.underlying78 HI.out.1 HI.out.2.1 HI.out.2.2.1 HI.out.2.2.2 rfl (by decide) _ _ _ rfl (OZ.out.drew.alloc _) ⟨w8.heap.size, 0, none⟩ 1 1 [.int .u8 (β : Int)] rfl rfl news_at (fun u hu => by simp at hu; subst hu; rfl) (by unfold maxLen; omega) (by omega) (by simp; omega) ?_)
     intro v' w4 hown' hgrow _
     have hb4 : Below W.heap.size w8 w4 := ((Below.refl W.heap.size w8).drew.alloc hwx _).grown hgrow (by rw [size_alloc]; show W.heap.size ≤ w8.heap.size + 1; omega) (fun k hk => (OZ.out.lt k hk).1)
     have AY : Away (At (w.heap.size + 1) (SC k xl (y : Int) true) 130 W w4) := ⟨at_below AZ.out hb4 (Nat.le_refl _) Hs1.out⟩
     have OY : Away (w4.ownsRow W.heap.size 5 1 v' (j + 1) (Lib.byteCells (u8s (sq (PP ts rs) r s0 (j + 1))))) := ⟨by
      rw [Hnx.out.2, Htn.out, Hgb.out, u8s_cells _ _ bβ]; exact hown'⟩
     obtain ⟨gv', cap', hv'⟩ := owns_some OY.out
     have AR : Away (At (w.heap.size + 1) (SC k xl (y : Int) true) 130 w4 w4) := ⟨At.refl AY.out.row⟩
     have cp2 : w4.cell? ⟨w.heap.size + 1, 26, none⟩ = some (.int .i64 (y : Int)) := cell_at AY.out.row (sc_at k _ true HQ.out.len)
     clear hown' hgrow hb4
     subst hv'
     go_wp2_with ((with_reducible refine wpList_put2 AR rfl _ _ _ rfl rfl ?_); refine ⟨_, _, _, rfl, rfl, rfl, (by rw [hz28 _ _ _ HQ.out.len]; decide), ?_⟩; intro w9 HR9; rw [sc_seta k _ _ true HQ.out.len] at HR9)
     have AN : Away (At (w.heap.size + 1) (SC k (sk (PP ts rs) r s0 (j + 1)).l ((sk (PP ts rs) r s0 (j + 1)).at' : Nat) true) 130 W w9) := ⟨by rw [Hnx.out.1, nx, Htn.out]; exact AY.out.trans HR9.out⟩
     have ON := Away.mk (owns_at OY.out HR9.out Hs1.out)
     clear HR9 AR cp2 AY OY
     go_roundw
     case rel => exact ⟨j + 1, by omega, ⟨_, _, rfl⟩, ON, AN⟩
     case measure => simp; omega
   ·have hz : ((p : Int) == (r : Int)) = false := beq_eq_false_iff_ne.2 (by omega)
    have Htn : Away (tn (PP ts rs) r ⟨sl, p⟩ = ⟨sl, p⟩) := ⟨by rw [tn, if_neg he]⟩
    have hyr : p < r := by have := Hp.out; omega
    have HQ := Hsl
    go_wp2_with fail
    have AZ := A0
    have OZ := OWN
    clear A0 OWN hz cp0 he Hp Hsl
    obtain ⟨q, hq⟩ : ∃ q, p / 8 = q := ⟨_, rfl⟩
    obtain ⟨m, hm⟩ : ∃ m, p % 8 = m := ⟨_, rfl⟩
    obtain ⟨c, hc⟩ : ∃ c, c = 8 * m := ⟨_, rfl⟩
    have fq : (p : Int).tdiv 8 = (q : Int) := by rw [Int.tdiv_eq_ediv_of_nonneg (by omega)]; omega
    have fqw : IntKind.i64.wrap ((p : Int).tdiv 8) = (q : Int) := by rw [fq, IntKind.wrap_i64]; omega
    have fm : (p : Int).tmod 8 = (m : Int) := by rw [Int.tmod_eq_emod_of_nonneg (by omega)]; omega
    have fq2 : (p : Int) / 8 = (q : Int) := by omega
    have fq3 : IntKind.i64.wrap (q : Int) = (q : Int) := by rw [IntKind.wrap_i64]; omega
    have fm2 : (p : Int) % 8 = (m : Int) := by omega
    have fc : IntKind.i64.wrap (8 * (m : Int)) = (c : Int) := by rw [IntKind.wrap_i64]; omega
    have fu : IntKind.u64.wrap (c : Int) = (c : Int) := by rw [IntKind.wrap_u64]; omega
    have hc63 : c ≤ 63 := by omega
    have hq25 : q < 25 := by omega
    have hqz : (q : Int) < 25 := by omega
    have hy8 : p ≤ 168 := by omega
    obtain ⟨x, hx⟩ : ∃ x, g sl q = x := ⟨_, rfl⟩
    obtain ⟨β, hβ⟩ : ∃ β, x / 2 ^ c % 256 = β := ⟨_, rfl⟩
    have bβ : β < 256 := hβ ▸ Nat.mod_lt _ (by decide)
    have fz := shr_is x c
    rw [hβ] at fz
    have Hgb : Away (gb sl p = β) := ⟨by rw [gb, hq, hm, ← hc, hx, hβ]⟩
    have cp1 : wr.cell? ⟨w.heap.size + 1, 26, none⟩ = some (.int .i64 (p : Int)) := cell_at AZ.out.row (sc_at k _ true HQ.out.len)
    have cx : wr.cell? ⟨w.heap.size + 1, 1 + q, none⟩ = some (.int .u64 (x : Int)) := by rw [← hx]; exact cell_at AZ.out.row (sc_lane k _ true HQ.out.len q hq25)
    have hwx : W.heap.size ≤ wr.heap.size := AZ.out.size
    have Hyr := Away.mk hyr
    clear hq hm hc hx hβ hyr h168
    refine wp_region_any (by kernel_rfl) ?_
    change wpAny _ _ _ _ _ _ _ (World.drew _)
    (focus (refine wpAny_take (i := 0) (v := ?_) rfl (by kernel_rfl) (by kernel_rfl) (by kernel_rfl) (fun _ _ _ h => h) (Or.inl ⟨by rfl, ?_⟩) ?_; rotate_left; focus (intro w; go_simp; first | done | with_reducible rfl); all_goals skip))
    (focus (refine wpAny_take (i := 1) (v := ?_) rfl (by kernel_rfl) (by kernel_rfl) (by kernel_rfl) (fun _ _ _ h => h) (Or.inl ⟨by rfl, ?_⟩) ?_; rotate_left; focus (intro w; go_simp; first | done | with_reducible rfl); all_goals skip))
    (focus (refine wpAny_take (i := 4) (v := ?_) rfl (by kernel_rfl) (by kernel_rfl) (by kernel_rfl) (fun _ _ _ h => h) (Or.inl ⟨by rfl, ?_⟩) ?_; rotate_left; focus (intro w; go_simp; first | done | with_reducible rfl); all_goals skip))
    (focus (refine wpAny_take (i := 7) (v := ?_) rfl (by kernel_rfl) (by kernel_rfl) (by kernel_rfl) (fun _ _ _ h => h) (Or.inl ⟨by rfl, ?_⟩) ?_; rotate_left; focus (intro w; go_simp; first | done | with_reducible rfl); all_goals skip))
    refine wpAny_ready (rs := [2, 8]) (by kernel_rfl) (by simp) ?_
    refine AllReady.cons rfl (fun K hK => ?_) (AllReady.cons rfl (fun K hK => ?_) AllReady.nil)
    ·(go_simp; refine hK _ _ ?_; clear hK K)
     (focus (refine wpAny_take (i := 3) (v := ?_) rfl (by kernel_rfl) (by kernel_rfl) (by kernel_rfl) (fun _ _ _ h => h) (Or.inl ⟨by rfl, ?_⟩) ?_; rotate_left; focus (intro w; go_simp; first | done | with_reducible rfl); all_goals skip))
     (focus (refine wpAny_take (i := 5) (v := ?_) rfl (by kernel_rfl) (by kernel_rfl) (by kernel_rfl) (fun _ _ _ h => h) (Or.inl ⟨by rfl, ?_⟩) ?_; rotate_left; focus (intro w; go_simp; first | done | with_reducible rfl); all_goals skip))
     refine wpAny_ready (rs := [6, 8]) (by kernel_rfl) (by simp) ?_
     refine AllReady.cons rfl (fun K hK => ?_) (AllReady.cons rfl (fun K hK => ?_) AllReady.nil)
     ·(go_simp; refine hK _ _ ?_; clear hK K)
      (refine wpAny_ready (rs := [8]) (by kernel_rfl) (by simp) ?_; refine AllReady.cons rfl (fun K hK => ?_) AllReady.nil; go_simp; refine hK _ _ ?_; clear hK K)
      (focus (refine wpAny_take (i := 9) (v := ?_) rfl (by kernel_rfl) (by kernel_rfl) (by kernel_rfl) (fun _ _ _ h => h) (Or.inl ⟨by rfl, ?_⟩) ?_; rotate_left; focus (intro w; go_simp; first | done | with_reducible rfl); all_goals skip))
      (focus (refine wpAny_take (i := 10) (v := ?_) rfl (by kernel_rfl) (by kernel_rfl) (by kernel_rfl) (fun _ _ _ h => h) (Or.inl ⟨by rfl, ?_⟩) ?_; rotate_left; focus (intro w; go_simp; first | done | with_reducible rfl); all_goals skip))
      (focus (refine wpAny_take (i := 11) (v := ?_) rfl (by kernel_rfl) (by kernel_rfl) (by kernel_rfl) (fun _ _ _ h => h) (Or.inl ⟨by rfl, ?_⟩) ?_; rotate_left; focus (intro w; go_simp; first | done | with_reducible rfl); all_goals skip))
      (focus (refine wpAny_take (i := 12) (v := ?_) rfl (by kernel_rfl) (by kernel_rfl) (by kernel_rfl) (fun _ _ _ h => h) (Or.inl ⟨by rfl, ?_⟩) ?_; rotate_left; focus (intro w; go_simp; first | done | with_reducible rfl); all_goals skip))
      (focus (refine wpAny_take (i := 13) (v := ?_) rfl (by kernel_rfl) (by kernel_rfl) (by kernel_rfl) (fun _ _ _ h => h) (Or.inl ⟨by rfl, ?_⟩) ?_; rotate_left; focus (intro w; go_simp; first | done | with_reducible rfl); all_goals skip))
      refine any_tail 14 3 (by kernel_rfl) (by kernel_rfl) ?_
      simp only [List.drop_succ_cons, List.drop_zero]
      clear cp1 cx fq fqw fm fq2 fq3 fm2 fc fu fz
      go_wp2_with (at_builtin; refine wpList_append_own _ rfl _ _ 78 rfl W.heap.size 5 i0 (.int .u8 0) 1 1 Tryz.underlying78 HI.out.1 HI.out.2.1 HI.out.2.2.1 HI.out.2.2.2 rfl (by decide) _ _ _ rfl (OZ.out.drew.alloc _) ⟨wr.heap.size, 0, none⟩ 1 1 [.int .u8 (β : Int)] rfl rfl news_at (fun u hu => by simp at hu; subst hu; rfl) (by unfold maxLen; omega) (by omega) (by simp; omega) ?_)
      intro v' w4 hown' hgrow _
      have hb4 : Below W.heap.size wr w4 := ((Below.refl W.heap.size wr).drew.alloc hwx _).grown hgrow (by rw [size_alloc]; show W.heap.size ≤ wr.heap.size + 1; omega) (fun k hk => (OZ.out.lt k hk).1)
      have AY : Away (At (w.heap.size + 1) (SC k sl (p : Int) true) 130 W w4) := ⟨at_below AZ.out hb4 (Nat.le_refl _) Hs1.out⟩
      have OY : Away (w4.ownsRow W.heap.size 5 1 v' (j + 1) (Lib.byteCells (u8s (sq (PP ts rs) r s0 (j + 1))))) := ⟨by
       rw [Hnx.out.2, Htn.out, Hgb.out, u8s_cells _ _ bβ]; exact hown'⟩
      obtain ⟨gv', cap', hv'⟩ := owns_some OY.out
      have AR : Away (At (w.heap.size + 1) (SC k sl (p : Int) true) 130 w4 w4) := ⟨At.refl AY.out.row⟩
      have cp2 : w4.cell? ⟨w.heap.size + 1, 26, none⟩ = some (.int .i64 (p : Int)) := cell_at AY.out.row (sc_at k _ true HQ.out.len)
      clear hown' hgrow hb4
      subst hv'
      go_wp2_with ((with_reducible refine wpList_put2 AR rfl _ _ _ rfl rfl ?_); refine ⟨_, _, _, rfl, rfl, rfl, (by rw [hz28 _ _ _ HQ.out.len]; decide), ?_⟩; intro w9 HR9; rw [sc_seta k _ _ true HQ.out.len] at HR9)
      have AN : Away (At (w.heap.size + 1) (SC k (sk (PP ts rs) r s0 (j + 1)).l ((sk (PP ts rs) r s0 (j + 1)).at' : Nat) true) 130 W w9) := ⟨by rw [Hnx.out.1, nx, Htn.out]; exact AY.out.trans HR9.out⟩
      have ON := Away.mk (owns_at OY.out HR9.out Hs1.out)
      clear HR9 AR cp2 AY OY
      go_roundw
      case rel => exact ⟨j + 1, by omega, ⟨_, _, rfl⟩, ON, AN⟩
      case measure => simp; omega
     ·(go_simp; refine hK _ _ ?_; clear hK K)
      (focus (refine wpAny_take (i := 9) (v := ?_) rfl (by kernel_rfl) (by kernel_rfl) (by kernel_rfl) (fun _ _ _ h => h) (Or.inl ⟨by rfl, ?_⟩) ?_; rotate_left; focus (intro w; go_simp; first | done | with_reducible rfl); all_goals skip))
      (focus (refine wpAny_take (i := 10) (v := ?_) rfl (by kernel_rfl) (by kernel_rfl) (by kernel_rfl) (fun _ _ _ h => h) (Or.inl ⟨by rfl, ?_⟩) ?_; rotate_left; focus (intro w; go_simp; first | done | with_reducible rfl); all_goals skip))
      (focus (refine wpAny_take (i := 11) (v := ?_) rfl (by kernel_rfl) (by kernel_rfl) (by kernel_rfl) (fun _ _ _ h => h) (Or.inl ⟨by rfl, ?_⟩) ?_; rotate_left; focus (intro w; go_simp; first | done | with_reducible rfl); all_goals skip))
      (refine wpAny_ready (rs := [6]) (by kernel_rfl) (by simp) ?_; refine AllReady.cons rfl (fun K hK => ?_) AllReady.nil; go_simp; refine hK _ _ ?_; clear hK K)
      (focus (refine wpAny_take (i := 12) (v := ?_) rfl (by kernel_rfl) (by kernel_rfl) (by kernel_rfl) (fun _ _ _ h => h) (Or.inl ⟨by rfl, ?_⟩) ?_; rotate_left; focus (intro w; go_simp; first | done | with_reducible rfl); all_goals skip))
      (focus (refine wpAny_take (i := 13) (v := ?_) rfl (by kernel_rfl) (by kernel_rfl) (by kernel_rfl) (fun _ _ _ h => h) (Or.inl ⟨by rfl, ?_⟩) ?_; rotate_left; focus (intro w; go_simp; first | done | with_reducible rfl); all_goals skip))
      refine any_tail 14 3 (by kernel_rfl) (by kernel_rfl) ?_
      simp only [List.drop_succ_cons, List.drop_zero]
      clear cp1 cx fq fqw fm fq2 fq3 fm2 fc fu fz
      go_wp2_with (at_builtin; refine wpList_append_own _ rfl _ _ 78 rfl W.heap.size 5 i0 (.int .u8 0) 1 1 Tryz.underlying78 HI.out.1 HI.out.2.1 HI.out.2.2.1 HI.out.2.2.2 rfl (by decide) _ _ _ rfl (OZ.out.drew.alloc _) ⟨wr.heap.size, 0, none⟩ 1 1 [.int .u8 (β : Int)] rfl rfl news_at (fun u hu => by simp at hu; subst hu; rfl) (by unfold maxLen; omega) (by omega) (by simp; omega) ?_)
      intro v' w4 hown' hgrow _
      have hb4 : Below W.heap.size wr w4 := ((Below.refl W.heap.size wr).drew.alloc hwx _).grown hgrow (by rw [size_alloc]; show W.heap.size ≤ wr.heap.size + 1; omega) (fun k hk => (OZ.out.lt k hk).1)
      have AY : Away (At (w.heap.size + 1) (SC k sl (p : Int) true) 130 W w4) := ⟨at_below AZ.out hb4 (Nat.le_refl _) Hs1.out⟩
      have OY : Away (w4.ownsRow W.heap.size 5 1 v' (j + 1) (Lib.byteCells (u8s (sq (PP ts rs) r s0 (j + 1))))) := ⟨by
       rw [Hnx.out.2, Htn.out, Hgb.out, u8s_cells _ _ bβ]; exact hown'⟩
      obtain ⟨gv', cap', hv'⟩ := owns_some OY.out
      have AR : Away (At (w.heap.size + 1) (SC k sl (p : Int) true) 130 w4 w4) := ⟨At.refl AY.out.row⟩
      have cp2 : w4.cell? ⟨w.heap.size + 1, 26, none⟩ = some (.int .i64 (p : Int)) := cell_at AY.out.row (sc_at k _ true HQ.out.len)
      clear hown' hgrow hb4
      subst hv'
      go_wp2_with ((with_reducible refine wpList_put2 AR rfl _ _ _ rfl rfl ?_); refine ⟨_, _, _, rfl, rfl, rfl, (by rw [hz28 _ _ _ HQ.out.len]; decide), ?_⟩; intro w9 HR9; rw [sc_seta k _ _ true HQ.out.len] at HR9)
      have AN : Away (At (w.heap.size + 1) (SC k (sk (PP ts rs) r s0 (j + 1)).l ((sk (PP ts rs) r s0 (j + 1)).at' : Nat) true) 130 W w9) := ⟨by rw [Hnx.out.1, nx, Htn.out]; exact AY.out.trans HR9.out⟩
      have ON := Away.mk (owns_at OY.out HR9.out Hs1.out)
      clear HR9 AR cp2 AY OY
      go_roundw
      case rel => exact ⟨j + 1, by omega, ⟨_, _, rfl⟩, ON, AN⟩
      case measure => simp; omega
    ·(go_simp; refine hK _ _ ?_; clear hK K)
     (focus (refine wpAny_take (i := 9) (v := ?_) rfl (by kernel_rfl) (by kernel_rfl) (by kernel_rfl) (fun _ _ _ h => h) (Or.inl ⟨by rfl, ?_⟩) ?_; rotate_left; focus (intro w; go_simp; first | done | with_reducible rfl); all_goals skip))
     (focus (refine wpAny_take (i := 10) (v := ?_) rfl (by kernel_rfl) (by kernel_rfl) (by kernel_rfl) (fun _ _ _ h => h) (Or.inl ⟨by rfl, ?_⟩) ?_; rotate_left; focus (intro w; go_simp; first | done | with_reducible rfl); all_goals skip))
     (focus (refine wpAny_take (i := 11) (v := ?_) rfl (by kernel_rfl) (by kernel_rfl) (by kernel_rfl) (fun _ _ _ h => h) (Or.inl ⟨by rfl, ?_⟩) ?_; rotate_left; focus (intro w; go_simp; first | done | with_reducible rfl); all_goals skip))
     (refine wpAny_ready (rs := [2]) (by kernel_rfl) (by simp) ?_; refine AllReady.cons rfl (fun K hK => ?_) AllReady.nil; go_simp; refine hK _ _ ?_; clear hK K)
     (focus (refine wpAny_take (i := 3) (v := ?_) rfl (by kernel_rfl) (by kernel_rfl) (by kernel_rfl) (fun _ _ _ h => h) (Or.inl ⟨by rfl, ?_⟩) ?_; rotate_left; focus (intro w; go_simp; first | done | with_reducible rfl); all_goals skip))
     (focus (refine wpAny_take (i := 5) (v := ?_) rfl (by kernel_rfl) (by kernel_rfl) (by kernel_rfl) (fun _ _ _ h => h) (Or.inl ⟨by rfl, ?_⟩) ?_; rotate_left; focus (intro w; go_simp; first | done | with_reducible rfl); all_goals skip))
     (refine wpAny_ready (rs := [6]) (by kernel_rfl) (by simp) ?_; refine AllReady.cons rfl (fun K hK => ?_) AllReady.nil; go_simp; refine hK _ _ ?_; clear hK K)
     (focus (refine wpAny_take (i := 12) (v := ?_) rfl (by kernel_rfl) (by kernel_rfl) (by kernel_rfl) (fun _ _ _ h => h) (Or.inl ⟨by rfl, ?_⟩) ?_; rotate_left; focus (intro w; go_simp; first | done | with_reducible rfl); all_goals skip))
     (focus (refine wpAny_take (i := 13) (v := ?_) rfl (by kernel_rfl) (by kernel_rfl) (by kernel_rfl) (fun _ _ _ h => h) (Or.inl ⟨by rfl, ?_⟩) ?_; rotate_left; focus (intro w; go_simp; first | done | with_reducible rfl); all_goals skip))
     refine any_tail 14 3 (by kernel_rfl) (by kernel_rfl) ?_
     simp only [List.drop_succ_cons, List.drop_zero]
     clear cp1 cx fq fqw fm fq2 fq3 fm2 fc fu fz
     go_wp2_with (at_builtin; refine wpList_append_own _ rfl _ _ 78 rfl W.heap.size 5 i0 (.int .u8 0) 1 1 Tryz.underlying78 HI.out.1 HI.out.2.1 HI.out.2.2.1 HI.out.2.2.2 rfl (by decide) _ _ _ rfl (OZ.out.drew.alloc _) ⟨wr.heap.size, 0, none⟩ 1 1 [.int .u8 (β : Int)] rfl rfl news_at (fun u hu => by simp at hu; subst hu; rfl) (by unfold maxLen; omega) (by omega) (by simp; omega) ?_)
     intro v' w4 hown' hgrow _
     have hb4 : Below W.heap.size wr w4 := ((Below.refl W.heap.size wr).drew.alloc hwx _).grown hgrow (by rw [size_alloc]; show W.heap.size ≤ wr.heap.size + 1; omega) (fun k hk => (OZ.out.lt k hk).1)
     have AY : Away (At (w.heap.size + 1) (SC k sl (p : Int) true) 130 W w4) := ⟨at_below AZ.out hb4 (Nat.le_refl _) Hs1.out⟩
     have OY : Away (w4.ownsRow W.heap.size 5 1 v' (j + 1) (Lib.byteCells (u8s (sq (PP ts rs) r s0 (j + 1))))) := ⟨by
      rw [Hnx.out.2, Htn.out, Hgb.out, u8s_cells _ _ bβ]; exact hown'⟩
     obtain ⟨gv', cap', hv'⟩ := owns_some OY.out
     have AR : Away (At (w.heap.size + 1) (SC k sl (p : Int) true) 130 w4 w4) := ⟨At.refl AY.out.row⟩
     have cp2 : w4.cell? ⟨w.heap.size + 1, 26, none⟩ = some (.int .i64 (p : Int)) := cell_at AY.out.row (sc_at k _ true HQ.out.len)
     clear hown' hgrow hb4
     subst hv'
     go_wp2_with ((with_reducible refine wpList_put2 AR rfl _ _ _ rfl rfl ?_); refine ⟨_, _, _, rfl, rfl, rfl, (by rw [hz28 _ _ _ HQ.out.len]; decide), ?_⟩; intro w9 HR9; rw [sc_seta k _ _ true HQ.out.len] at HR9)
     have AN : Away (At (w.heap.size + 1) (SC k (sk (PP ts rs) r s0 (j + 1)).l ((sk (PP ts rs) r s0 (j + 1)).at' : Nat) true) 130 W w9) := ⟨by rw [Hnx.out.1, nx, Htn.out]; exact AY.out.trans HR9.out⟩
     have ON := Away.mk (owns_at OY.out HR9.out Hs1.out)
     clear HR9 AR cp2 AY OY
     go_roundw
     case rel => exact ⟨j + 1, by omega, ⟨_, _, rfl⟩, ON, AN⟩
     case measure => simp; omega
  ·obtain rfl : j = n := by omega
   have hel := Hel.out
   rw [HE.out, HF.out] at A0
   have Fi : Away ((Tryz.prog.info? 130).map (·.size) = some F.size) := ⟨by rw [← HF.out]; exact sc_info k _ _ hel⟩
   have Fo : Away (F.all (·.oneCell') = true) := ⟨by rw [← HF.out]; exact sc_one k E.l _ _⟩
   have Fz : Away ((SC 0 z 0 false).size = F.size) := ⟨by rw [← HF.out]; exact sc_same _ _ _ _ _ _ HZl.out hel⟩
   have hbl := Hbl.out
   rw [Hbs.out] at OWN
   have Hcv := Away.mk (conv_own hbl OWN.out)
   have Hres : Away (wr.heap[w.heap.size + 2]? = some (.cells (SC 0 z 0 false) 130 (0, 0))) := ⟨A0.out.other (by have := HWs.out; omega) (by omega) B2.out⟩
   have Hrow := Away.mk A0.out.row
   have Hb5 : Away (Below w.heap.size w wr) := ⟨HWb.out.trans (A0.out.below (by have := HWs.out; omega) (by omega))⟩
   have Hcv2 : Away ((convert 78 9 (.slice (some ⟨gv, 0, none⟩) j cap)).run Tryz.prog (wr.drew.setRow (w.heap.size + 2) F) = .ok (.string ⟨bs.toArray⟩) (wr.drew.setRow (w.heap.size + 2) F)) :=
    ⟨conv_own hbl (owns_at OWN.out (at_rowf (C' := F) (At.refl Hres.out)) (by have := HWs.out; omega))⟩
   clear A0 OWN hj hlt hel hbl
   go_wp2_with fail
   have hcv := Hcv.out
   refine wp_region_any (by kernel_rfl) ?_
   change wpAny _ _ _ _ _ _ _ (World.drew _)
   (focus (refine wpAny_take (i := 1) (v := ?_) rfl (by kernel_rfl) (by kernel_rfl) (by kernel_rfl) (fun _ _ _ h => h) (Or.inl ⟨by rfl, ?_⟩) ?_; rotate_left; focus (intro w; go_simp; first | done | with_reducible rfl); all_goals skip))
   refine wpAny_ready (rs := [0, 2]) (by kernel_rfl) (by simp) ?_
   refine AllReady.cons rfl (fun K hK => ?_) (AllReady.cons rfl (fun K hK => ?_) AllReady.nil)
   ·(refine of_pos (by rfl) ?_; refine wp_load_row 130 _ rfl (w.heap.size + 1) rfl 130 F (0, 0) _ Hrow.out Tryz.underlying130 rfl Fi.out (hK _ _ ?_); clear hK K)
    refine wpAny_ready (rs := [2, 3]) (by kernel_rfl) (by simp) ?_
    refine AllReady.cons rfl (fun K hK => ?_) (AllReady.cons rfl (fun K hK => ?_) AllReady.nil)
    ·(go_simp; refine hK _ _ ?_; clear hK K)
     refine any_tail 3 3 (by kernel_rfl) (by kernel_rfl) ?_
     simp only [List.drop_succ_cons, List.drop_zero]
     refine wpList_store_row rfl 130 _ _ rfl (w.heap.size + 2) F rfl rfl 130 _ Hres.out Fi.out Fz.out Fo.out ?_
     go_wp2_with fail
     refine bodyPost_ret_by (v := .tuple #[.agg F, .string ⟨bs.toArray⟩, .int .i64 0]) (rspc.results_cell_tmp2 rfl _ _ (w.heap.size + 2) 130 _ (0, 0) _ rfl (setRow_heap wr.drew _ _ _ _ _ Hres.out) Tryz.underlying130 rfl Fi.out _ _ rfl rfl) rfl ?_
     exact ⟨rfl, Hb5.out.drew.trans (below_setRow _ _ _ (by omega))⟩
    ·(refine of_pos (by rfl) ?_; refine wp_store_row 130 _ _ rfl (w.heap.size + 2) F rfl rfl 130 _ Hres.out Fi.out Fz.out Fo.out (hK _ _ ?_); clear hK K)
     have hcv2 := Hcv2.out
     refine wpAny_ready (rs := [2]) (by kernel_rfl) (by simp) ?_
     refine AllReady.cons rfl (fun K hK => ?_) AllReady.nil
     (go_simp; refine hK _ _ ?_; clear hK K)
     refine any_tail 4 2 (by kernel_rfl) (by kernel_rfl) ?_
     simp only [List.drop_succ_cons, List.drop_zero]
     go_wp2_with fail
     refine bodyPost_ret_by (v := .tuple #[.agg F, .string ⟨bs.toArray⟩, .int .i64 0]) (rspc.results_cell_tmp2 rfl _ _ (w.heap.size + 2) 130 _ (0, 0) _ rfl (setRow_heap wr.drew _ _ _ _ _ Hres.out) Tryz.underlying130 rfl Fi.out _ _ rfl rfl) rfl ?_
     exact ⟨rfl, Hb5.out.drew.trans (below_setRow _ _ _ (by omega))⟩
   ·(go_simp; refine hK _ _ ?_; clear hK K)
    refine wpAny_ready (rs := [0]) (by kernel_rfl) (by simp) ?_
    refine AllReady.cons rfl (fun K hK => ?_) AllReady.nil
    (refine of_pos (by rfl) ?_; refine wp_load_row 130 _ rfl (w.heap.size + 1) rfl 130 F (0, 0) _ Hrow.out Tryz.underlying130 rfl Fi.out (hK _ _ ?_); clear hK K)
    refine any_tail 3 3 (by kernel_rfl) (by kernel_rfl) ?_
    simp only [List.drop_succ_cons, List.drop_zero]
    refine wpList_store_row rfl 130 _ _ rfl (w.heap.size + 2) F rfl rfl 130 _ Hres.out Fi.out Fz.out Fo.out ?_
    go_wp2_with fail
    refine bodyPost_ret_by (v := .tuple #[.agg F, .string ⟨bs.toArray⟩, .int .i64 0]) (rspc.results_cell_tmp2 rfl _ _ (w.heap.size + 2) 130 _ (0, 0) _ rfl (setRow_heap wr.drew _ _ _ _ _ Hres.out) Tryz.underlying130 rfl Fi.out _ _ rfl rfl) rfl ?_
    exact ⟨rfl, Hb5.out.drew.trans (below_setRow _ _ _ (by omega))⟩
end rspg
end Go.Proofs.YtlcafjdehcddcaaGreatDoor
