/-
  What tables.times returns for any two long numbers: the parts of their product modulo 2 to the power 256; memory that was there before stays as it was. Conditions: each argument has eight parts of 32 bits.
  What tables.raised returns for a long number and an exponent from 1 to 3: the parts of its power modulo 2 to the power 256; memory that was there before stays as it was. Conditions: the number has eight parts of 32 bits.
  What tables.above and the reference's above return for any two long numbers: whether the first is greater; memory that was there before stays as it was. Conditions: each argument has eight parts of 32 bits.
  What tables.Root returns for any two numbers: 64 bits of the fraction of p's root, or 0 out of range; memory that was there before stays as it was. Conditions: none but that the numbers are ints.
  What tables.divided returns for a number and a slice of primes: whether one of them divides it. Conditions: the slice's elements are from 2 to 541, and at most 100.
  What tables.Primes and the reference's Primes return for any number: a slice of their own that holds the first primes, at most 100, none below 1; memory that was there before stays as it was. Conditions: none but that the number is an int.
-/
import Derived.Test.YtbbealdamampaaaProg
import Derived.Test.YtbbealdamampaaaBase
import Derived.Test.YtbbealdamampaaaTabP
import Derived.RegionTactic
import Derived.BigRegion
namespace Go.Proofs.Ytbbealdamampaaa.times
open Go.RowKit
open Go.Proofs.Ytbbealdamampaaa.tabd Go.Proofs.Ytbbealdamampaaa.arr

theorem zlong : (Try.prog.info? 56).map (·.size) = some 8 := by kernel_rfl
set_option maxHeartbeats 400000 in
theorem times_any (us vs : List Nat) (w : World) (hu : us.length = 8) (hv : vs.length = 8) (su : Small us) (sv : Small vs) :
    Calls Try.prog 29 #[.agg (LK .u32 us), .agg (LK .u32 vs)] w fun e w' => e = .returned (.agg (LK .u32 (dg 8 (val us * val vs)))) ∧ Below w.heap.size w w' := by
  have Hu := Lib.hid hu
  have Hv := Lib.hid hv
  have Su := Lib.hid su
  have Sv := Lib.hid sv
  clear hu hv su sv
  go_enter Try.func29, Try.ntmps29
  go_wp2
  obtain ⟨Z, hZ⟩ : ∃ Z, (#[.int .u32 0, .int .u32 0, .int .u32 0, .int .u32 0, .int .u32 0, .int .u32 0, .int .u32 0, .int .u32 0] : Array Value) = Z := ⟨_, rfl⟩
  rw [hZ]
  have HZ := Lib.hid hZ
  clear hZ
  have t0 := top_start us vs
  go_loopw [10] (fun i wr => ∃ (k n : Nat) (ds : List Nat), k ≤ 8 ∧ i = .int .i64 k ∧ Top us vs k ds ∧ wr = ((((w.alloc (.cells (LK .u32 us) 56)).alloc (.cells (LK .u32 vs) 56)).alloc (.cells Z 56)).alloc (.cells (LK .u32 ds) 56)).drewN n) (fun i _ => 8 - (intOf i).toNat)
  case atStart => exact ⟨0, 0, List.replicate 8 0, by decide, rfl, t0, by rw [← HZ.out]; rfl⟩
  case round =>
    obtain ⟨k, n, ds, hk, rfl, ht, rfl⟩ := hrel
    clear t0
    by_cases hlt : k < 8
    · obtain ⟨N, hN⟩ : ∃ N, val ds = N := ⟨_, rfl⟩
      obtain ⟨x, hx⟩ : ∃ x, us.getD k 0 = x := ⟨_, rfl⟩
      have hm0 := mid_start vs ds x k ht.1 ht.2.1
      have hxl := getD_small Su.out k
      rw [hx] at hxl
      rw [hN] at hm0
      have Ht := Lib.hid ht
      have HN := Lib.hid hN
      have hgu := lk_get .u32 us k (by rw [Hu.out]; exact hlt)
      rw [hx] at hgu
      have HX := Lib.hid hx
      clear ht hN hx
      go_wp2
      go_loopw [15, 7] (fun j c wr => ∃ (m n : Nat) (d : List Nat) (cc : Nat), m ≤ 8 - k ∧ j = .int .i64 m ∧ c = .int .u64 cc ∧ Mid vs N x k m d cc ∧ wr = ((((w.alloc (.cells (LK .u32 us) 56)).alloc (.cells (LK .u32 vs) 56)).alloc (.cells Z 56)).alloc (.cells (LK .u32 d) 56)).drewN n) (fun j _ _ => 8 - (intOf j).toNat)
      case atStart => exact ⟨0, n, ds, 0, by omega, rfl, rfl, hm0, rfl⟩
      case round =>
        obtain ⟨m, n, d, c, hm, rfl, rfl, hmid, rfl⟩ := hrel
        by_cases hlm : m < 8 - k
        · have hs := mid_step hmid hxl Sv.out (by rw [Hv.out]; omega) (by omega)
          have hb := mid_bd (j := m) (k := k + m) (c := c) hxl Sv.out hmid.2.1 hmid.2.2.1
          have hgv := lk_get .u32 vs m (by rw [Hv.out]; omega)
          have hgd := lk_get .u32 d (k + m) (by rw [hmid.1]; omega)
          have hlv := getD_small Sv.out m
          have hld := getD_small hmid.2.1 (k + m)
          obtain ⟨y, hy⟩ : ∃ y, vs.getD m 0 = y := ⟨_, rfl⟩
          obtain ⟨z, hz⟩ : ∃ z, d.getD (k + m) 0 = z := ⟨_, rfl⟩
          rw [hy] at hs hb hgv hlv
          rw [hz] at hs hb hgd hld
          have hc := hmid.2.2.1
          have hset := lk_setI .u32 d (k + m) ((x * y + z + c) % 4294967296) (((x : Int) * (y : Int) + (z : Int) + (c : Int)) % 4294967296) (cast_mod x y z c)
          clear hy hz hmid hm0
          have w1 : IntKind.i64.wrap ((k : Int) + (m : Int)) = (k : Int) + (m : Int) := IntWalk.i64_in _ (by omega)
          have w2 : ((k : Int) + (m : Int)).toNat = k + m := by omega
          go_wp2_with fail
          go_quiet (fail)
          go_wp2_with fail
          go_roundw
          case rel =>
            exact ⟨m + 1, n + nq, d.set (k + m) ((x * y + z + c) % 4294967296), (x * y + z + c) / 4294967296, by omega, by go_num, val_int (cast_div x y z c), hs, rfl⟩
          case measure => simp [intOf]; omega
        · obtain rfl : m = 8 - k := by omega
          have htop := top_step (us := us) (c := c) (HN.out ▸ Ht.out.2.2) (by rw [Hu.out]; exact hlt) hk Hv.out (by rw [HX.out]; exact hmid)
          clear hm0 hmid hgu
          go_wp2_with fail
          go_roundw
          case rel => exact ⟨k + 1, n, d, by omega, by go_num, htop, rfl⟩
          case measure => simp [intOf]; omega
    · obtain rfl : k = 8 := by omega
      have hend := top_end Hu.out ht
      have hsz : (LK .u32 ds).size = 8 := by rw [lk_size]; exact ht.1
      have hzs : Z.size = 8 := by rw [← HZ.out]; rfl
      obtain ⟨X, hX⟩ : ∃ X, ((((w.alloc (.cells (LK .u32 us) 56)).alloc (.cells (LK .u32 vs) 56)).alloc (.cells Z 56)).alloc (.cells (LK .u32 ds) 56)).drewN n = X := ⟨_, rfl⟩
      have hb : Below w.heap.size w X := by
        rw [← hX]
        exact below_drewN (((((Below.refl _ _).alloc (Nat.le_refl _) _).alloc (by simp) _).alloc (by simp; omega) _).alloc (by simp; omega) _) n
      have g5 : X.heap[w.heap.size + 1 + 1 + 1]? = some (.cells (LK .u32 ds) 56 (0, 0)) := by
        rw [← hX, heap_drewN', heap_at _ _ _ (by simp)]
      have g4 : X.heap[w.heap.size + 1 + 1]? = some (.cells Z 56 (0, 0)) := by
        rw [← hX, heap_drewN', heap_past _ _ _ (by simp), heap_at _ _ _ (by simp)]
      rw [hX]
      clear hX ht
      go_wp2_with (first | (refine wpList_load_row rfl 56 _ rfl _ rfl 56 _ (0, 0) _ g5 Try.underlying56 rfl (by rw [hsz]; exact zlong) ?_) | (refine wpList_store_row rfl 56 _ _ rfl _ _ rfl rfl 56 _ g4 (by rw [hsz]; exact zlong) (by rw [hsz]; exact hzs) (lk_one _ _) ?_))
      refine bodyPost_ret_by (v := .agg (LK .u32 ds)) (results_cell_row rfl _ _ (w.heap.size + 1 + 1) 56 _ (0, 0) _ rfl (setRow_heap _ _ _ _ _ _ g4) Try.underlying56 rfl (by rw [hsz]; exact zlong)) rfl ?_
      exact ⟨by rw [hend], hb.trans (below_setRow _ _ _ (by omega))⟩
end Go.Proofs.Ytbbealdamampaaa.times

namespace Go.Proofs.Ytbbealdamampaaa.raised
open Go.RowKit
open Go.Proofs.Ytbbealdamampaaa.tabd Go.Proofs.Ytbbealdamampaaa.arr Go.Proofs.Ytbbealdamampaaa.times

theorem dg_mulmod (v x : Nat) : dg 8 (val (dg 8 v) * x) = dg 8 (v * x) := by
  rw [val_dg, ← dg_mod 8 (v % bp 8 * x), ← dg_mod 8 (v * x), Nat.mod_mul_mod]
theorem dg_self (us : List Nat) (h : us.length = 8) (s : Small us) : dg 8 (val us) = us := by
  have := dg_val us s
  rwa [h] at this

theorem pow_three {p : Nat} : 1 ≤ p → p ≤ 3 → p = 1 ∨ p = 2 ∨ p = 3 := by omega
/-- what the loop keeps: the three blocks, and that nothing below has changed -/
def St (us : List Nat) (w : World) (e : Nat) (wr : World) : Prop :=
  wr.heap[w.heap.size]? = some (.cells (LK .u32 us) 56 (0, 0)) ∧ (∃ Z : Array Value, Z.size = 8 ∧ wr.heap[w.heap.size + 1]? = some (.cells Z 56 (0, 0))) ∧
  wr.heap[w.heap.size + 1 + 1]? = some (.cells (LK .u32 (dg 8 (val us ^ e))) 56 (0, 0)) ∧ Below w.heap.size w wr ∧ w.heap.size + 3 ≤ wr.heap.size
theorem st_call {us : List Nat} {w wr w1 : World} {e : Nat} (h : St us w e wr) (hb : Below wr.heap.size wr w1) : St us w e w1 := by
  obtain ⟨h1, ⟨Z, hz, h2⟩, h3, h4, h5⟩ := h
  have hs := hb.size
  exact ⟨(hb.block _ (by omega)).trans h1, ⟨Z, hz, (hb.block _ (by omega)).trans h2⟩, (hb.block _ (by omega)).trans h3, h4.trans (hb.mono (by omega)), by omega⟩
theorem st_store {us : List Nat} {w wr : World} {e f : Nat} (h : St us w e wr) : St us w f (wr.setRow (w.heap.size + 1 + 1) (LK .u32 (dg 8 (val us ^ f)))) := by
  obtain ⟨h1, ⟨Z, hz, h2⟩, h3, h4, h5⟩ := h
  exact ⟨by rw [setRow_other _ _ _ _ (by omega)]; exact h1, ⟨Z, hz, by rw [setRow_other _ _ _ _ (by omega)]; exact h2⟩, setRow_heap _ _ _ _ _ _ h3, h4.trans (below_setRow _ _ _ (by omega)), by simpa using h5⟩

set_option maxHeartbeats 400000 in
theorem raised_any (us : List Nat) (p : Nat) (w : World) (hu : us.length = 8) (su : Small us) (h1 : 1 ≤ p) (h3 : p ≤ 3) :
    Calls Try.prog 27 #[.agg (LK .u32 us), .int .i64 p] w fun e w' => e = .returned (.agg (LK .u32 (dg 8 (val us ^ p)))) ∧ Below w.heap.size w w' := by
  have hsz : (LK .u32 us).size = 8 := by rw [lk_size]; exact hu
  have hsd : ∀ v, (LK .u32 (dg 8 v)).size = 8 := fun v => by rw [lk_size, dg_length]
  have Hsz := Lib.hid hsz
  have Hsd := Lib.hid hsd
  have Hu := Lib.hid hu
  have Su := Lib.hid su
  clear hu su hsz hsd
  go_enter Try.func27, Try.ntmps27
  go_wp2_with (first | (refine wpList_load_row rfl 56 _ rfl _ rfl 56 (LK .u32 us) (0, 0) _ ?_ Try.underlying56 rfl (by rw [Hsz.out]; exact zlong) ?_; · (rw [heap_past _ _ _ (by simp <;> omega), heap_at _ _ _ (by simp <;> omega)])) | (refine wpList_store_row rfl 56 _ _ rfl _ _ rfl rfl 56 _ (heap_at _ _ _ (by simp <;> omega)) (by rw [Hsz.out]; exact zlong) (by rw [Hsz.out]; rfl) (lk_one _ _) ?_))
  go_loopw [9] (fun i wr => ∃ k : Nat, k ≤ p - 1 ∧ i = .int .i64 k ∧ St us w (k + 1) wr) (fun i _ => p - (intOf i).toNat)
  case atStart =>
    refine ⟨0, by omega, rfl, ?_, ⟨LK .u32 [0, 0, 0, 0, 0, 0, 0, 0], rfl, ?_⟩, ?_, ?_, ?_⟩
    · rw [setRow_other _ _ _ _ (by omega), heap_past _ _ _ (by simp <;> omega), heap_past _ _ _ (by simp <;> omega), heap_at _ _ _ rfl]
    · rw [setRow_other _ _ _ _ (by omega), heap_past _ _ _ (by simp <;> omega), heap_at _ _ _ (by simp <;> omega)]; rfl
    · rw [Nat.zero_add, Nat.pow_one, dg_self us Hu.out Su.out, setRow_heap _ _ _ _ _ _ (heap_at _ _ _ (by simp <;> omega))]
    · exact ((((Below.refl _ _).alloc (Nat.le_refl _) _).alloc (by simp <;> omega) _).alloc (by simp <;> omega) _).trans (below_setRow _ _ _ (by omega))
    · simp
  case round =>
    obtain ⟨k, hk, rfl, hst⟩ := hrel
    have g0 := hst.1
    have g2 := hst.2.2.1
    by_cases hlt : k < p - 1
    · have Hst := Lib.hid hst
      clear hst
      go_wp2_with (first | (refine wpList_load_row rfl 56 _ rfl _ rfl 56 _ (0, 0) _ g2 Try.underlying56 rfl (by rw [Hsd.out]; exact zlong) ?_) | (refine wpList_load_row rfl 56 _ rfl _ rfl 56 _ (0, 0) _ g0 Try.underlying56 rfl (by rw [Hsz.out]; exact zlong) ?_))
      refine (times_any _ _ _ (dg_length _ _) Hu.out (dg_small _ _) Su.out).mono ?_
      rintro e w1 ⟨rfl, hb⟩
      rw [dg_mulmod, ← Nat.pow_succ]
      have Hs1 := Lib.hid (st_call Hst.out hb)
      have g2' := Hs1.out.2.2.1
      have Hb := Lib.hid hb
      clear hb g0 g2
      go_wp2_with (refine wpList_store_row rfl 56 _ _ rfl _ _ rfl rfl 56 _ g2' (by rw [Hsd.out]; exact zlong) (by rw [Hsd.out, Hsd.out]) (lk_one _ _) ?_)
      go_roundw
      case rel => exact ⟨k + 1, by omega, by go_num, st_store Hs1.out⟩
      case measure => simp [intOf]; omega
    · obtain rfl : p = k + 1 := by omega
      obtain ⟨-, ⟨Z, hz, g1⟩, -, hb, hs⟩ := hst
      have Hz := Lib.hid hz
      clear hz
      go_wp2_with (first | (refine wpList_load_row rfl 56 _ rfl _ rfl 56 _ (0, 0) _ g2 Try.underlying56 rfl (by rw [Hsd.out]; exact zlong) ?_) | (refine wpList_store_row rfl 56 _ _ rfl _ _ rfl rfl 56 _ g1 (by rw [Hsd.out]; exact zlong) (by rw [Hsd.out]; exact Hz.out) (lk_one _ _) ?_))
      refine bodyPost_ret_by (v := .agg (LK .u32 (dg 8 (val us ^ (k + 1))))) (results_cell_row rfl _ _ (w.heap.size + 1) 56 _ (0, 0) _ rfl (setRow_heap _ _ _ _ _ _ g1) Try.underlying56 rfl (by rw [Hsd.out]; exact zlong)) rfl ?_
      exact ⟨rfl, hb.trans (below_setRow _ _ _ (by omega))⟩
end Go.Proofs.Ytbbealdamampaaa.raised

namespace Go.Proofs.Ytbbealdamampaaa.above
open Go.RowKit
open Go.Proofs.Ytbbealdamampaaa.tabd Go.Proofs.Ytbbealdamampaaa.arr

theorem ret_bool {a b : Bool} (h : a = b) : Ending.returned (.bool a) = .returned (.bool b) := by rw [h]
theorem gt_of (us vs : List Nat) (k : Nat) (h : Same us vs (k + 1)) (hu : us.length = 8) (hv : vs.length = 8) (su : Small us) (sv : Small vs) (hk : k < 8) (hne : us.getD k 0 ≠ vs.getD k 0) :
    decide (vs.getD k 0 < us.getD k 0) = decide (val vs < val us) := by
  rcases Nat.lt_or_gt_of_ne hne with h1 | h1
  · have := same_lt h (by omega) (by omega) su h1
    rw [decide_eq_false (by omega), decide_eq_false (by omega)]
  · have := same_lt (a := vs) (b := us) (k := k) h.symm (by omega) (by omega) sv h1
    rw [decide_eq_true (by omega), decide_eq_true (by omega)]

set_option maxHeartbeats 400000 in
theorem above_any (us vs : List Nat) (w : World) (hu : us.length = 8) (hv : vs.length = 8) (su : Small us) (sv : Small vs) :
    Calls Try.prog 26 #[.agg (LK .u32 us), .agg (LK .u32 vs)] w fun e w' => e = .returned (.bool (decide (val vs < val us))) ∧ Below w.heap.size w w' := by
  have Hu := Lib.hid hu
  have Hv := Lib.hid hv
  have Su := Lib.hid su
  have Sv := Lib.hid sv
  have HS := Lib.hid (show Same us vs (8 - 0) from by unfold Same; rw [List.drop_of_length_le (by omega), List.drop_of_length_le (by omega)])
  clear hu hv su sv
  go_enter Try.func26, Try.ntmps26
  go_wp2
  go_loopw [7] (fun i wr => ∃ (k n : Nat), k ≤ 8 ∧ i = .int .i64 k ∧ Hid (Same us vs (8 - k)) ∧ wr = ((w.alloc (.cells (LK .u32 us) 56)).alloc (.cells (LK .u32 vs) 56)).drewN n) (fun i _ => 8 - (intOf i).toNat)
  case atStart => exact ⟨0, 0, by decide, rfl, HS, rfl⟩
  case round =>
    obtain ⟨k, n, hk, rfl, hs, rfl⟩ := hrel
    clear HS
    have hbel : ∀ n, Below w.heap.size w (((w.alloc (.cells (LK .u32 us) 56)).alloc (.cells (LK .u32 vs) 56)).drewN n) := fun n => below_drewN (((Below.refl _ _).alloc (Nat.le_refl _) _).alloc (by simp) _) n
    have Hbel := Lib.hid hbel
    clear hbel
    by_cases hlt : k < 8
    · have hgu := lk_get .u32 us (7 - k) (by rw [Hu.out]; omega)
      have hgv := lk_get .u32 vs (7 - k) (by rw [Hv.out]; omega)
      have e1 : (7 - (k : Int)).toNat = 7 - k := by omega
      have hs' : Same us vs (7 - k + 1) := by rw [show 7 - k + 1 = 8 - k by omega]; exact hs.out
      by_cases he : us.getD (7 - k) 0 = vs.getD (7 - k) 0
      · have hn := Lib.hid (same_step hs' (by rw [Hu.out]; omega) (by rw [Hv.out]; omega) he)
        rw [he] at hgu
        obtain ⟨x, hx⟩ : ∃ x, vs.getD (7 - k) 0 = x := ⟨_, rfl⟩
        rw [hx] at hgu hgv
        clear he hx hs' hs
        go_wp2_with fail
        go_quiet (fail)
        go_wp2_with fail
        go_roundw
        case rel => exact ⟨k + 1, _, by omega, by go_num, by rw [show 8 - (k + 1) = 7 - k by omega]; exact hn, rfl⟩
        case measure => simp [intOf]; omega
      · have hg := Lib.hid (gt_of us vs (7 - k) hs' Hu.out Hv.out Su.out Sv.out (by omega) he)
        obtain ⟨x, hx⟩ : ∃ x, us.getD (7 - k) 0 = x := ⟨_, rfl⟩
        obtain ⟨y, hy⟩ : ∃ y, vs.getD (7 - k) 0 = y := ⟨_, rfl⟩
        rw [hx, hy] at hg
        rw [hx] at hgu
        rw [hy] at hgv
        rw [hx, hy] at he
        have b1 : ((x : Int) == (y : Int)) = false := beq_eq_false_iff_ne.2 (by omega)
        have b2 : ((x : Int) != (y : Int)) = true := by rw [bne_iff_ne]; omega
        clear he hx hy hs' hs
        go_wp2_with fail
        go_quiet (fail)
        go_wp2_with fail
        go_quiet (fail)
        go_wp2_with fail
        go_ret
        exact ⟨ret_bool hg.out, below_drewN (below_drewN (Hbel.out _) _) _⟩
    · obtain rfl : k = 8 := by omega
      have hz := Lib.hid (same_zero hs.out)
      go_wp2_with fail
      go_ret
      exact ⟨ret_bool (by rw [hz.out]; simp), Hbel.out _⟩

/-! ### The reference -/
theorem above_b (c : Bool) (us vs : List Nat) (w : World) (hu : us.length = 8) (hv : vs.length = 8) (su : Small us) (sv : Small vs) (hc : decide (val vs < val us) = c) :
    Calls Try.prog 26 #[.agg (LK .u32 us), .agg (LK .u32 vs)] w fun e w' => e = .returned (.bool c) ∧ Below w.heap.size w w' := by
  subst hc; exact above_any us vs w hu hv su sv
end Go.Proofs.Ytbbealdamampaaa.above

namespace Go.Proofs.Ytbbealdamampaaa.root
open Go.RowKit
open Go.Proofs.Ytbbealdamampaaa.tabd Go.Proofs.Ytbbealdamampaaa.arr Go.Proofs.Ytbbealdamampaaa.times Go.Proofs.Ytbbealdamampaaa.raised Go.Proofs.Ytbbealdamampaaa.above

/-- what the loop keeps: the two blocks, and that nothing below has changed -/
def St (p k : Nat) (w : World) (y : Nat) (wr : World) : Prop :=
  wr.heap[w.heap.size]? = some (.cells (LK .u32 (top p k)) 56 (0, 0)) ∧
  wr.heap[w.heap.size + 1]? = some (.cells (LK .u32 (dg 8 y)) 56 (0, 0)) ∧ Below w.heap.size w wr ∧ w.heap.size + 2 ≤ wr.heap.size
theorem st_call {p k : Nat} {w wr w1 : World} {n : Nat} (h : St p k w n wr) (hb : Below wr.heap.size wr w1) : St p k w n w1 := by
  obtain ⟨h1, h2, h4, h5⟩ := h
  have hs := hb.size
  exact ⟨(hb.block _ (by omega)).trans h1, (hb.block _ (by omega)).trans h2, h4.trans (hb.mono (by omega)), by omega⟩
theorem st_store {p k : Nat} {w wr : World} {n t : Nat} (h : St p k w n wr) : St p k w t (wr.setRow (w.heap.size + 1) (LK .u32 (dg 8 t))) := by
  obtain ⟨h1, h2, h4, h5⟩ := h
  exact ⟨by rw [setRow_other _ _ _ _ (by omega)]; exact h1, setRow_heap _ _ _ _ _ _ h2, h4.trans (below_setRow _ _ _ (by omega)), by simpa using h5⟩
theorem top_size (p k : Nat) : (LK .u32 (top p k)).size = 8 := by rw [lk_size, top_length]
/-- the result's two parts together -/
theorem join_parts (y : Nat) : bits .or .u64 ((((dg 8 y).getD 1 0 : Nat) : Int) * 4294967296) (((dg 8 y).getD 0 0 : Nat) : Int) = ((y % 18446744073709551616 : Nat) : Int) := by
  have h1 := getD_small (dg_small 8 y) 1
  have h0 := getD_small (dg_small 8 y) 0
  rw [← low_parts y]
  generalize (dg 8 y).getD 1 0 = a at *
  generalize (dg 8 y).getD 0 0 = b at *
  rw [show (a : Int) * 4294967296 = ((a * 4294967296 : Nat) : Int) by omega, u64_or_nat _ _ (by omega) (by omega)]
  have h := Nat.shiftLeft_add_eq_or_of_lt (i := 32) (b := b) (by omega) a
  rw [Nat.shiftLeft_eq] at h
  exact congrArg Nat.cast h.symm

set_option maxRecDepth 100000 in
set_option maxHeartbeats 2000000 in
theorem root_in2 (p : Nat) (w : World) (hp : p ≤ 1000) :
    Calls Try.prog 16 #[.int .i64 p, .int .i64 2] w fun e w' => e = .returned (.int .u64 ((rootN p 2 % 18446744073709551616 : Nat) : Int)) ∧ Below w.heap.size w w' := by
  have hsd : ∀ v, (LK .u32 (dg 8 v)).size = 8 := fun v => by rw [lk_size, dg_length]
  have Hsd := Away.mk hsd
  clear hsd
  go_enter Try.func16, Try.ntmps16
  go_wp2_with fail
  go_loopw [29] (fun i wr => ∃ n y : Nat, n ≤ 69 ∧ i = .int .i64 n ∧ Away (rt 69 (p * bp (2 * 2)) 2 n = y) ∧ St p 2 w y wr) (fun i _ => 69 - (intOf i).toNat)
  case atStart =>
    refine ⟨0, 0, by decide, rfl, ⟨rfl⟩, ?_, ?_, ?_, ?_⟩
    · rw [heap_past _ _ _ (by simp <;> omega), heap_at _ _ _ rfl]; rfl
    · rw [heap_at _ _ _ (by simp <;> omega)]; rfl
    · exact ((Below.refl _ _).alloc (Nat.le_refl _) _).alloc (by simp <;> omega) _
    · simp
  case round =>
    obtain ⟨n, y, hn, rfl, Hy, hst⟩ := hrel
    have g1 := hst.2.1
    have Hst := Away.mk hst
    clear hst
    by_cases hlt : n < 69
    · obtain ⟨k1, k2, k3, k4, k5⟩ := rt_round (k := 2) (by decide) hp (Nat.le_refl 69) (by decide) hlt Hy.out
      have HR := Away.mk k5
      obtain ⟨d, hd⟩ : ∃ d, (dg 8 y).getD ((68 - n) / 32) 0 = d := ⟨_, rfl⟩
      have hget := lk_get .u32 (dg 8 y) ((68 - n) / 32) (by rw [dg_length]; omega)
      have hdl := getD_small (dg_small 8 y) ((68 - n) / 32)
      rw [hd] at hget hdl
      have hbit := dg_bit y (68 - n) (by omega) k1 k2
      rw [hd] at hbit
      have Hbit := Away.mk hbit
      have hq8 : (68 - n) / 32 < 8 := by omega
      have hr32 : (68 - n) % 32 < 32 := by omega
      have w36 : IntKind.i64.wrap ((68 - (n : Int)).tdiv 32) = (((68 - n) / 32 : Nat) : Int) := by
        rw [Int.tdiv_eq_ediv_of_nonneg (by omega), IntWalk.i64_in _ (by omega)]; omega
      have w40 : (68 - (n : Int)).tmod 32 = (((68 - n) % 32 : Nat) : Int) := by
        rw [Int.tmod_eq_emod_of_nonneg (by omega)]; omega
      obtain ⟨q, hq⟩ : ∃ q, (68 - n) / 32 = q := ⟨_, rfl⟩
      obtain ⟨r, hr⟩ : ∃ r, (68 - n) % 32 = r := ⟨_, rfl⟩
      rw [hq] at w36 hget Hbit hq8
      rw [hr] at w40 Hbit hr32
      obtain ⟨t, ht⟩ : ∃ t, y + 2 ^ (69 - 1 - n) = t := ⟨_, rfl⟩
      rw [ht] at k3 k4 HR
      have hset : (LK .u32 (dg 8 y)).setIfInBounds q (.int .u32 (bits .or .u32 (d : Int) (2 ^ r % 4294967296))) = LK .u32 (dg 8 t) := by
        rw [lk_setI .u32 (dg 8 y) q (d ||| 2 ^ r) _ (or_bit32 d r hdl hr32), ← ht]
        exact congrArg (LK .u32) Hbit.out.1
      have K3 := Away.mk k3
      have K4 := Away.mk k4
      clear hd hbit hq hr ht k1 k2 k3 k4 k5
      go_wp2_with (first | (refine wpList_load_row rfl 56 _ rfl _ rfl 56 _ (0, 0) _ g1 Try.underlying56 rfl (by rw [Hsd.out]; exact zlong) ?_) | (refine wpList_store_new rfl 56 _ _ rfl _ rfl rfl (by rw [Hsd.out]; exact zlong) (by rw [Hsd.out]; rfl) (lk_one _ _) rfl ?_))
      go_region
      go_wp2_with fail
      obtain ⟨W, hW⟩ : ∃ W, (wr.alloc (.cells (LK .u32 (dg 8 t)) 56)).drew = W := ⟨_, rfl⟩
      have gt : W.heap[wr.heap.size]? = some (.cells (LK .u32 (dg 8 t)) 56 (0, 0)) := by
        rw [← hW]; exact heap_at _ _ _ rfl
      have hbW : Below wr.heap.size wr W := by rw [← hW]; exact ((Below.refl _ _).alloc (Nat.le_refl _) _).drew
      have Hst2 := Away.mk (st_call Hst.out hbW)
      have g02 := Hst2.out.1
      rw [hW]
      clear hW hbW g1
      obtain ⟨c, Hc⟩ := ex_eq (decide (val (top p 2) < val (dg 8 (val (dg 8 t) ^ 2))))
      refine wp_region_quiet_below (by kernel_rfl) (by kernel_rfl) ?_
      refine wpQuiet_load rfl 56 _ rfl _ rfl 56 _ _ (fun w' hC => heap_regrown gt hC) Try.underlying56 rfl (by rw [Hsd.out]; exact zlong) ?_
      quiet_step (skip)
      quiet_step (exact Calls.regrown_of (raised_any _ 2 _ (dg_length _ _) (dg_small _ _) (by decide) (by decide)))
      refine wpQuiet_load rfl 56 _ rfl _ rfl 56 _ _ (fun w' hC => heap_regrown g02 hC) Try.underlying56 rfl (by rw [top_size]; exact zlong) ?_
      quiet_step (exact Calls.regrown_of (above_b c _ _ _ (dg_length _ _) (top_length _ _) (dg_small _ _) (top_small _ _ hp) Hc.out))
      quiet_step (skip)
      refine wpQuiet_nil ?_
      intro w3 hC
      have hb3 : Below W.heap.size W w3 := by
        obtain ⟨pp, rfl⟩ := hC
        exact below_regrown _ _ _
      have Hst3 := Away.mk (st_call Hst2.out hb3)
      have gt3 := heap_regrown gt hC
      have g13 := Hst3.out.2.1
      clear hb3 hC gt g02
      rw [K3.out, K4.out, val_top p 2 (by decide)] at Hc
      cases c
      · have hle : t ^ 2 ≤ p * bp (2 * 2) := Nat.not_lt.1 (of_decide_eq_false Hc.out)
        have HR2 := Away.mk (HR.out.trans (if_pos hle))
        clear hle
        go_wp2_with (first | (refine wpList_load_row rfl 56 _ rfl _ rfl 56 _ (0, 0) _ gt3 Try.underlying56 rfl (by rw [Hsd.out]; exact zlong) ?_) | (refine wpList_store_row rfl 56 _ _ rfl _ _ rfl rfl 56 _ g13 (by rw [Hsd.out]; exact zlong) (by rw [Hsd.out, Hsd.out]) (lk_one _ _) ?_))
        go_roundw
        case rel => exact ⟨n + 1, t, by omega, by go_num, HR2, st_store Hst3.out⟩
        case measure => simp [intOf]; omega
      · have hle : ¬ t ^ 2 ≤ p * bp (2 * 2) := Nat.not_le.2 (of_decide_eq_true Hc.out)
        have HR2 := Away.mk (HR.out.trans (if_neg hle))
        clear hle
        go_wp2_with fail
        go_roundw
        case rel => exact ⟨n + 1, y, by omega, by go_num, HR2, Hst3.out⟩
        case measure => simp [intOf]; omega
    · obtain rfl : n = 69 := by omega
      have b1 := getD_small (dg_small 8 y) 1
      have b0 := getD_small (dg_small 8 y) 0
      have c1 := cell_at g1 (lk_get .u32 (dg 8 y) 1 (by rw [dg_length]; decide))
      have c0 := cell_at g1 (lk_get .u32 (dg 8 y) 0 (by rw [dg_length]; decide))
      have hj := join_parts y
      generalize (dg 8 y).getD 1 0 = a at *
      generalize (dg 8 y).getD 0 0 = b at *
      have Hj := Away.mk hj
      clear hj g1
      go_wp2_with fail
      go_ret
      exact ⟨ret_int (by rw [Hj.out, ← Hy.out]; rfl), Hst.out.2.2.1⟩

set_option maxRecDepth 100000 in
set_option maxHeartbeats 2000000 in
theorem root_in3 (p : Nat) (w : World) (hp : p ≤ 1000) :
    Calls Try.prog 16 #[.int .i64 p, .int .i64 3] w fun e w' => e = .returned (.int .u64 ((rootN p 3 % 18446744073709551616 : Nat) : Int)) ∧ Below w.heap.size w w' := by
  have hsd : ∀ v, (LK .u32 (dg 8 v)).size = 8 := fun v => by rw [lk_size, dg_length]
  have Hsd := Away.mk hsd
  clear hsd
  go_enter Try.func16, Try.ntmps16
  go_wp2_with fail
  go_loopw [29] (fun i wr => ∃ n y : Nat, n ≤ 69 ∧ i = .int .i64 n ∧ Away (rt 69 (p * bp (2 * 3)) 3 n = y) ∧ St p 3 w y wr) (fun i _ => 69 - (intOf i).toNat)
  case atStart =>
    refine ⟨0, 0, by decide, rfl, ⟨rfl⟩, ?_, ?_, ?_, ?_⟩
    · rw [heap_past _ _ _ (by simp <;> omega), heap_at _ _ _ rfl]; rfl
    · rw [heap_at _ _ _ (by simp <;> omega)]; rfl
    · exact ((Below.refl _ _).alloc (Nat.le_refl _) _).alloc (by simp <;> omega) _
    · simp
  case round =>
    obtain ⟨n, y, hn, rfl, Hy, hst⟩ := hrel
    have g1 := hst.2.1
    have Hst := Away.mk hst
    clear hst
    by_cases hlt : n < 69
    · obtain ⟨k1, k2, k3, k4, k5⟩ := rt_round (k := 3) (by decide) hp (Nat.le_refl 69) (by decide) hlt Hy.out
      have HR := Away.mk k5
      obtain ⟨d, hd⟩ : ∃ d, (dg 8 y).getD ((68 - n) / 32) 0 = d := ⟨_, rfl⟩
      have hget := lk_get .u32 (dg 8 y) ((68 - n) / 32) (by rw [dg_length]; omega)
      have hdl := getD_small (dg_small 8 y) ((68 - n) / 32)
      rw [hd] at hget hdl
      have hbit := dg_bit y (68 - n) (by omega) k1 k2
      rw [hd] at hbit
      have Hbit := Away.mk hbit
      have hq8 : (68 - n) / 32 < 8 := by omega
      have hr32 : (68 - n) % 32 < 32 := by omega
      have w36 : IntKind.i64.wrap ((68 - (n : Int)).tdiv 32) = (((68 - n) / 32 : Nat) : Int) := by
        rw [Int.tdiv_eq_ediv_of_nonneg (by omega), IntWalk.i64_in _ (by omega)]; omega
      have w40 : (68 - (n : Int)).tmod 32 = (((68 - n) % 32 : Nat) : Int) := by
        rw [Int.tmod_eq_emod_of_nonneg (by omega)]; omega
      obtain ⟨q, hq⟩ : ∃ q, (68 - n) / 32 = q := ⟨_, rfl⟩
      obtain ⟨r, hr⟩ : ∃ r, (68 - n) % 32 = r := ⟨_, rfl⟩
      rw [hq] at w36 hget Hbit hq8
      rw [hr] at w40 Hbit hr32
      obtain ⟨t, ht⟩ : ∃ t, y + 2 ^ (69 - 1 - n) = t := ⟨_, rfl⟩
      rw [ht] at k3 k4 HR
      have hset : (LK .u32 (dg 8 y)).setIfInBounds q (.int .u32 (bits .or .u32 (d : Int) (2 ^ r % 4294967296))) = LK .u32 (dg 8 t) := by
        rw [lk_setI .u32 (dg 8 y) q (d ||| 2 ^ r) _ (or_bit32 d r hdl hr32), ← ht]
        exact congrArg (LK .u32) Hbit.out.1
      have K3 := Away.mk k3
      have K4 := Away.mk k4
      clear hd hbit hq hr ht k1 k2 k3 k4 k5
      go_wp2_with (first | (refine wpList_load_row rfl 56 _ rfl _ rfl 56 _ (0, 0) _ g1 Try.underlying56 rfl (by rw [Hsd.out]; exact zlong) ?_) | (refine wpList_store_new rfl 56 _ _ rfl _ rfl rfl (by rw [Hsd.out]; exact zlong) (by rw [Hsd.out]; rfl) (lk_one _ _) rfl ?_))
      go_region
      go_wp2_with fail
      obtain ⟨W, hW⟩ : ∃ W, (wr.alloc (.cells (LK .u32 (dg 8 t)) 56)).drew = W := ⟨_, rfl⟩
      have gt : W.heap[wr.heap.size]? = some (.cells (LK .u32 (dg 8 t)) 56 (0, 0)) := by
        rw [← hW]; exact heap_at _ _ _ rfl
      have hbW : Below wr.heap.size wr W := by rw [← hW]; exact ((Below.refl _ _).alloc (Nat.le_refl _) _).drew
      have Hst2 := Away.mk (st_call Hst.out hbW)
      have g02 := Hst2.out.1
      rw [hW]
      clear hW hbW g1
      obtain ⟨c, Hc⟩ := ex_eq (decide (val (top p 3) < val (dg 8 (val (dg 8 t) ^ 3))))
      refine wp_region_quiet_below (by kernel_rfl) (by kernel_rfl) ?_
      refine wpQuiet_load rfl 56 _ rfl _ rfl 56 _ _ (fun w' hC => heap_regrown gt hC) Try.underlying56 rfl (by rw [Hsd.out]; exact zlong) ?_
      quiet_step (skip)
      quiet_step (exact Calls.regrown_of (raised_any _ 3 _ (dg_length _ _) (dg_small _ _) (by decide) (by decide)))
      refine wpQuiet_load rfl 56 _ rfl _ rfl 56 _ _ (fun w' hC => heap_regrown g02 hC) Try.underlying56 rfl (by rw [top_size]; exact zlong) ?_
      quiet_step (exact Calls.regrown_of (above_b c _ _ _ (dg_length _ _) (top_length _ _) (dg_small _ _) (top_small _ _ hp) Hc.out))
      quiet_step (skip)
      refine wpQuiet_nil ?_
      intro w3 hC
      have hb3 : Below W.heap.size W w3 := by
        obtain ⟨pp, rfl⟩ := hC
        exact below_regrown _ _ _
      have Hst3 := Away.mk (st_call Hst2.out hb3)
      have gt3 := heap_regrown gt hC
      have g13 := Hst3.out.2.1
      clear hb3 hC gt g02
      rw [K3.out, K4.out, val_top p 3 (by decide)] at Hc
      cases c
      · have hle : t ^ 3 ≤ p * bp (2 * 3) := Nat.not_lt.1 (of_decide_eq_false Hc.out)
        have HR2 := Away.mk (HR.out.trans (if_pos hle))
        clear hle
        go_wp2_with (first | (refine wpList_load_row rfl 56 _ rfl _ rfl 56 _ (0, 0) _ gt3 Try.underlying56 rfl (by rw [Hsd.out]; exact zlong) ?_) | (refine wpList_store_row rfl 56 _ _ rfl _ _ rfl rfl 56 _ g13 (by rw [Hsd.out]; exact zlong) (by rw [Hsd.out, Hsd.out]) (lk_one _ _) ?_))
        go_roundw
        case rel => exact ⟨n + 1, t, by omega, by go_num, HR2, st_store Hst3.out⟩
        case measure => simp [intOf]; omega
      · have hle : ¬ t ^ 3 ≤ p * bp (2 * 3) := Nat.not_le.2 (of_decide_eq_true Hc.out)
        have HR2 := Away.mk (HR.out.trans (if_neg hle))
        clear hle
        go_wp2_with fail
        go_roundw
        case rel => exact ⟨n + 1, y, by omega, by go_num, HR2, Hst3.out⟩
        case measure => simp [intOf]; omega
    · obtain rfl : n = 69 := by omega
      have b1 := getD_small (dg_small 8 y) 1
      have b0 := getD_small (dg_small 8 y) 0
      have c1 := cell_at g1 (lk_get .u32 (dg 8 y) 1 (by rw [dg_length]; decide))
      have c0 := cell_at g1 (lk_get .u32 (dg 8 y) 0 (by rw [dg_length]; decide))
      have hj := join_parts y
      generalize (dg 8 y).getD 1 0 = a at *
      generalize (dg 8 y).getD 0 0 = b at *
      have Hj := Away.mk hj
      clear hj g1
      go_wp2_with fail
      go_ret
      exact ⟨ret_int (by rw [Hj.out, ← Hy.out]; rfl), Hst.out.2.2.1⟩

/-- the numbers that Root returns -/
def rootV (p k : Int) : Nat := if p < 0 ∨ 1000 < p ∨ (k ≠ 2 ∧ k ≠ 3) then 0 else rootN p.toNat k.toNat % 18446744073709551616
theorem root_out (p k : Int) (w : World) (h : p < 0 ∨ 1000 < p ∨ (k ≠ 2 ∧ k ≠ 3)) :
    Calls Try.prog 16 #[.int .i64 p, .int .i64 k] w fun e w' => e = .returned (.int .u64 0) ∧ Below w.heap.size w w' := by
  by_cases h1 : p < 0
  · clear h
    go_enter Try.func16, Try.ntmps16
    go_wp2_with fail
    go_ret
    exact ⟨rfl, Below.refl _ _⟩
  by_cases h2 : 1000 < p
  · clear h
    go_enter Try.func16, Try.ntmps16
    go_wp2_with fail
    go_ret
    exact ⟨rfl, Below.refl _ _⟩
  obtain ⟨h3, h4⟩ : k ≠ 2 ∧ k ≠ 3 := by omega
  have b3 : (k != 2) = true := by rw [bne_iff_ne]; exact h3
  have b4 : (k != 3) = true := by rw [bne_iff_ne]; exact h4
  clear h h3 h4
  go_enter Try.func16, Try.ntmps16
  go_wp2_with fail
  go_ret
  exact ⟨rfl, Below.refl _ _⟩
theorem root_any (p k : Int) (w : World) :
    Calls Try.prog 16 #[.int .i64 p, .int .i64 k] w fun e w' => e = .returned (.int .u64 (rootV p k : Nat)) ∧ Below w.heap.size w w' := by
  unfold rootV
  by_cases h : p < 0 ∨ 1000 < p ∨ (k ≠ 2 ∧ k ≠ 3)
  · rw [if_pos h]
    exact root_out p k w h
  · rw [if_neg h]
    obtain ⟨a, rfl⟩ := Int.eq_ofNat_of_zero_le (show 0 ≤ p by omega)
    rw [Int.toNat_natCast]
    have hk : k = 2 ∨ k = 3 := by omega
    rcases hk with rfl | rfl
    · exact root_in2 a w (by omega)
    · exact root_in3 a w (by omega)
end Go.Proofs.Ytbbealdamampaaa.root

namespace Go.Proofs.Ytbbealdamampaaa.divided
open Go.RowKit
open Go.Proofs.Ytbbealdamampaaa.primm Go.Proofs.Ytbbealdamampaaa.arr

set_option maxHeartbeats 400000 in
theorem divided_nil (x : Nat) (w : World) :
    Calls Try.prog 25 #[.int .i64 x, .slice none 0 0] w fun e w' => e = .returned (.bool false) ∧ w = w' := by
  go_enter Try.func25, Try.ntmps25
  go_wp2_with fail
  refine wp_loop_rounds 1 ?_
  rw [rounds_succ]
  go_wp2_with fail
  go_ret
  exact ⟨rfl, rfl⟩
set_option maxHeartbeats 400000 in
theorem divided_some (x g cap : Nat) (xs : List Nat) (w : World) (hx : x ≤ 1000) (hl : xs.length ≤ 100) (hp : ∀ p ∈ xs, 2 ≤ p ∧ p ≤ 541)
    (hc : ∀ j, j < xs.length → w.cell? ⟨g, j, none⟩ = some (.int .i64 (xs.getD j 0 : Nat))) :
    Calls Try.prog 25 #[.int .i64 x, .slice (some ⟨g, 0, none⟩) xs.length cap] w fun e w' => e = .returned (.bool (dvd xs x)) ∧ w = w' := by
  have Hp := Away.mk hp
  have Hc := Away.mk hc
  clear hp hc
  obtain ⟨n, Hn⟩ := ex_eq xs.length
  rw [Hn.out] at hl ⊢
  go_enter Try.func25, Try.ntmps25
  go_wp2_with fail
  go_loop [9] (fun i => ∃ k : Nat, k ≤ n ∧ i = .int .i64 k ∧ Away (dvd (xs.take k) x = false)) (fun i => n - (intOf i).toNat)
  case atStart => exact ⟨0, Nat.zero_le _, rfl, ⟨rfl⟩⟩
  case round =>
    obtain ⟨k, hk, rfl, Hd⟩ := hrel
    by_cases hlt : k < n
    · have hcell := Hc.out k (by rw [Hn.out]; exact hlt)
      have hb : 2 ≤ xs.getD k 0 ∧ xs.getD k 0 ≤ 541 := Hp.out _ (by
        rw [List.getD_eq_getElem?_getD, List.getElem?_eq_getElem (by rw [Hn.out]; exact hlt)]; exact List.getElem_mem _)
      have Hs := Away.mk (take_snoc (l := xs) (k := k) (by rw [Hn.out]; exact hlt))
      have hit := dvd_hit (l := xs) (k := k) (x := x) (by rw [Hn.out]; exact hlt)
      obtain ⟨p, hpp⟩ : ∃ p, xs.getD k 0 = p := ⟨_, rfl⟩
      rw [hpp] at hcell hb Hs hit
      clear hpp
      by_cases hm : x % p = 0
      · have Hh := Away.mk (hit hm)
        have b1 : ((x : Int) % (p : Int) == 0) = true := beq_iff_eq.2 (by exact_mod_cast hm)
        clear hit hm
        go_wp2_with fail
        go_ret
        exact ⟨ret_b Hh.out.symm, rfl⟩
      · have b1 : ((x : Int) % (p : Int) == 0) = false := beq_eq_false_iff_ne.2 (by exact_mod_cast hm)
        have Hn2 : Away (dvd (xs.take (k + 1)) x = false) := ⟨by rw [Hs.out, dvd_snoc, Hd.out]; simpa using hm⟩
        clear hit hm
        go_wp2_with fail
        go_round
        case rel => exact ⟨k + 1, by omega, by go_num, Hn2⟩
        case measure => simp [intOf]; omega
    · obtain rfl : k = n := by omega
      have Hh : Away (dvd xs x = false) := ⟨by rw [← Hd.out, List.take_of_length_le (by rw [Hn.out]; exact Nat.le_refl _)]⟩
      go_wp2_with fail
      go_ret
      exact ⟨ret_b Hh.out.symm, rfl⟩
end Go.Proofs.Ytbbealdamampaaa.divided

namespace Go.Proofs.Ytbbealdamampaaa.primes
open Go.RowKit
open Go.Proofs.Ytbbealdamampaaa.primm Go.Proofs.Ytbbealdamampaaa.arr Go.Proofs.Ytbbealdamampaaa.divided

def pv (p : Nat) : Value := .int .i64 (p : Int)
/-- v holds the numbers xs in memory of the call's own -/
def Holds (w : World) (xs : List Nat) (v : Value) (wr : World) : Prop :=
  wr.ownsRow w.heap.size 3 1 v xs.length (xs.map pv) ∧ Below w.heap.size w wr
theorem holds_start (w : World) : Holds w [] (.slice none 0 0) w := ⟨World.ownsRow_nil _ _ _ _, Below.refl _ _⟩
theorem holds_open {w wr : World} {xs : List Nat} {v : Value} (h : Holds w xs v wr) :
    (v = .slice none 0 0 ∧ xs = []) ∨ ∃ g cap, v = .slice (some ⟨g, 0, none⟩) xs.length cap ∧ w.heap.size ≤ g ∧ g < wr.heap.size ∧ xs.length ≤ cap ∧ ∀ j, j < xs.length → wr.cell? ⟨g, j, none⟩ = some (.int .i64 (xs.getD j 0 : Nat)) := by
  obtain ⟨⟨h1, h2⟩, h3⟩ := h
  rcases h2 with ⟨rfl, h0⟩ | ⟨g, cap, cur, rfl, hb, hg, hn, hm, hs, ht⟩
  · exact .inl ⟨rfl, List.length_eq_zero_iff.1 h0⟩
  · refine .inr ⟨g, cap, rfl, hb, ?_, hn, fun j hj => ?_⟩
    · by_cases hlt : g < wr.heap.size
      · exact hlt
      · rw [Array.getElem?_eq_none (by omega)] at hg; cases hg
    · rw [cell_of_row wr g j cur _ (0, 0) hg]
      have e : cur[j]? = (cur.toList.take (xs.length * 1))[j]? := by
        rw [List.getElem?_take_of_lt (by omega)]; simp
      rw [e, ht, List.getElem?_map, List.getElem?_eq_getElem hj, List.getD_eq_getElem?_getD, List.getElem?_eq_getElem hj]
      rfl
theorem holds_new {w wr w1 : World} {xs : List Nat} {v v' : Value} {x : Nat} {o : Obj} (h : Holds w xs v wr) (hown : w1.ownsRow w.heap.size 3 1 v' (xs.length + 1) (xs.map pv ++ [.int .i64 (x : Int)])) (hg : (wr.alloc o).grownBy w1 v.ownBlock) :
    Holds w (xs ++ [x]) v' w1 := by
  refine ⟨?_, ?_⟩
  · rw [List.length_append, List.map_append]; exact hown
  · have hs := h.2.size
    exact (h.2.alloc hs o).grown hg (by rw [size_alloc]; omega) (fun k hk => (h.1.lt k hk).1)
theorem holds_lt {w wr : World} {xs : List Nat} {v : Value} (h : Holds w xs v wr) : w.heap.size ≤ wr.heap.size := h.2.size
theorem infoInt : (Try.prog.info? 3).map (fun i => (i.zero, i.size, i.bytes)) = some (some (.int .i64 0), 1, 8) := by kernel_rfl
theorem news_at {w : World} {v : Value} {T : Nat} : ∀ j u, [v][j]? = some u → (w.alloc (.cells #[v] T)).cell? ((⟨w.heap.size, 0, none⟩ : Addr).add j) = some u := by
  intro j u hj
  match j, hj with
  | 0, hj =>
    simp at hj
    subst hj
    simp [Addr.add]

set_option maxRecDepth 100000 in
set_option maxHeartbeats 1000000 in
theorem primes_in (n : Nat) (h1 : 1 ≤ n) (h2 : n ≤ 100) (w : World) :
    Calls Try.prog 15 #[.int .i64 (n : Int)] w fun e w' => ∃ v, e = .returned v ∧ Holds w (pr (n : Int)) v w' := by
  obtain ⟨i0, hi, hz0, hz1, hz2⟩ := info_parts infoInt
  have HI := Away.mk (And.intro hi (And.intro hz0 (And.intro hz1 hz2)))
  clear hi hz0 hz1 hz2
  have hst := holds_start w
  rw [← pl_two] at hst
  have Hst := Away.mk hst
  clear hst
  go_enter Try.func15, Try.ntmps15
  go_wp2_with fail
  go_loopw [3, 4] (fun v i wr => ∃ x : Nat, 2 ≤ x ∧ x ≤ 542 ∧ i = .int .i64 x ∧ Away (Holds w (pl x) v wr) ∧ (pl x).length ≤ n) (fun _ i _ => 542 - (intOf i).toNat)
  case atStart => exact ⟨2, by decide, by decide, rfl, Hst, by rw [pl_two]; exact Nat.zero_le _⟩
  case round =>
    obtain ⟨x, hx2, hx5, rfl, hf, hle⟩ := hrel
    clear Hst
    obtain ⟨L, HL⟩ := ex_eq (pl x).length
    rw [HL.out] at hle
    by_cases hlt : L < n
    · have hx : x < 542 := pl_room hx5 (by rw [HL.out]; omega)
      obtain ⟨xs, Hxs⟩ := ex_eq (pl x)
      have Hpos : Away (∀ p ∈ xs, 2 ≤ p ∧ p ≤ 541) := ⟨fun p hp => pl_pos (x := x) (by rw [Hxs.out]; exact hp)⟩
      rw [Hxs.out] at hf HL
      cases hd : dvd xs x
      · have Hnew : Away (pl (x + 1) = xs ++ [x]) := ⟨by rw [pl_new hx2 hx (by rw [Hxs.out]; exact hd), Hxs.out]⟩
        have HD := Away.mk hd
        clear hd
        have hsz := holds_lt hf.out
        rcases holds_open hf.out with ⟨rfl, rfl⟩ | ⟨g, cap, rfl, hg1, hg2, hcap, hcell⟩
        · obtain rfl : L = 0 := HL.out.symm
          go_wp2_with fail
          refine (divided_nil _ _).mono ?_
          rintro e w0 ⟨rfl, rfl⟩
          go_wp2_with (at_builtin; refine wpList_append_own _ rfl _ _ 44 rfl w.heap.size 3 i0 (.int .i64 0) 1 8 Try.underlying44 HI.out.1 HI.out.2.1 HI.out.2.2.1 HI.out.2.2.2 rfl (by decide) _ _ _ rfl (hf.out.1.alloc _) ⟨wr.heap.size, 0, none⟩ 1 1 [.int .i64 (x : Int)] rfl rfl news_at (fun u hu => by simp at hu; subst hu; rfl) (by simp [maxLen]) (by simp) (by simp; omega) ?_)
          intro v' w1 hown' hgrow _
          have R := holds_new hf.out hown' hgrow
          rw [← Hnew.out] at R
          have HR := Away.mk R
          clear hown' hgrow R
          go_wp2_with fail
          go_roundw
          case rel => exact ⟨x + 1, by omega, by omega, by go_num, HR, by rw [Hnew.out]; exact hlt⟩
          case measure => simp [intOf]; omega
        · rw [HL.out] at hcap hcell ⊢
          have Hown := Away.mk hf.out.1
          rw [HL.out] at Hown
          have HC := Away.mk hcell
          clear hcell
          have hL := pl_le x
          rw [Hxs.out, HL.out] at hL
          go_wp2_with fail
          rw [← HL.out]
          refine (divided_some x g cap xs _ (by omega) (by rw [HL.out]; exact hL) Hpos.out (by rw [HL.out]; exact HC.out)).mono ?_
          rintro e w0 ⟨rfl, rfl⟩
          rw [HD.out, HL.out]
          go_wp2_with (at_builtin; refine wpList_append_own _ rfl _ _ 44 rfl w.heap.size 3 i0 (.int .i64 0) 1 8 Try.underlying44 HI.out.1 HI.out.2.1 HI.out.2.2.1 HI.out.2.2.2 rfl (by decide) _ _ _ rfl (Hown.out.alloc _) ⟨wr.heap.size, 0, none⟩ 1 1 [.int .i64 (x : Int)] rfl rfl news_at (fun u hu => by simp at hu; subst hu; rfl) (by unfold maxLen; omega) (by omega) (by simp; omega) ?_)
          intro v' w1 hown' hgrow _
          rw [← HL.out] at hown' hgrow
          have R := holds_new hf.out hown' hgrow
          rw [← Hnew.out] at R
          have HR := Away.mk R
          clear hown' hgrow R
          go_wp2_with fail
          go_roundw
          case rel => exact ⟨x + 1, by omega, by omega, by go_num, HR, by rw [Hnew.out, List.length_append, HL.out]; exact hlt⟩
          case measure => simp [intOf]; omega
      · have Hnew : Away (pl (x + 1) = xs) := ⟨by rw [pl_hit hx2 hx (by rw [Hxs.out]; exact hd), Hxs.out]⟩
        have HD := Away.mk hd
        clear hd
        rcases holds_open hf.out with ⟨rfl, rfl⟩ | ⟨g, cap, rfl, hg1, hg2, hcap, hcell⟩
        · exact absurd HD.out (by simp [dvd])
        · rw [HL.out] at hcap hcell hf ⊢
          have HC := Away.mk hcell
          clear hcell
          have hL := pl_le x
          rw [Hxs.out, HL.out] at hL
          go_wp2_with fail
          rw [← HL.out]
          refine (divided_some x g cap xs _ (by omega) (by rw [HL.out]; exact hL) Hpos.out (by rw [HL.out]; exact HC.out)).mono ?_
          rintro e w0 ⟨rfl, rfl⟩
          rw [HD.out, HL.out]
          have R := hf.out
          rw [← Hnew.out] at R
          have HR := Away.mk R
          clear R
          go_wp2_with fail
          go_roundw
          case rel => exact ⟨x + 1, by omega, by omega, by go_num, HR, by rw [Hnew.out, HL.out]; exact hle⟩
          case measure => simp [intOf]; omega
    · obtain rfl : n = L := by omega
      have Hpr : Away (pl x = pr (n : Int)) := ⟨pr_of hx2 hx5 (by intro _; rw [HL.out]; simp) (by intro h; rw [HL.out]; omega)⟩
      rw [Hpr.out] at hf HL
      rcases holds_open hf.out with ⟨rfl, hnil⟩ | ⟨g, cap, rfl, hg1, hg2, hcap, hcell⟩
      · have h0 := HL.out
        rw [hnil] at h0
        simp at h0
        omega
      · rw [HL.out] at hf ⊢
        clear hcell hcap
        go_wp2_with fail
        go_ret
        exact ⟨_, rfl, hf.out⟩

set_option maxRecDepth 100000 in
set_option maxHeartbeats 1000000 in
theorem primes_over (n : Int) (h1 : 100 < n) (w : World) :
    Calls Try.prog 15 #[.int .i64 n] w fun e w' => ∃ v, e = .returned v ∧ Holds w (pr n) v w' := by
  obtain ⟨i0, hi, hz0, hz1, hz2⟩ := info_parts infoInt
  have HI := Away.mk (And.intro hi (And.intro hz0 (And.intro hz1 hz2)))
  clear hi hz0 hz1 hz2
  have hst := holds_start w
  rw [← pl_two] at hst
  have Hst := Away.mk hst
  clear hst
  go_enter Try.func15, Try.ntmps15
  go_wp2_with fail
  go_loopw [3, 4] (fun v i wr => ∃ x : Nat, 2 ≤ x ∧ x ≤ 542 ∧ i = .int .i64 x ∧ Away (Holds w (pl x) v wr) ∧ (pl x).length ≤ 100) (fun _ i _ => 542 - (intOf i).toNat)
  case atStart => exact ⟨2, by decide, by decide, rfl, Hst, by rw [pl_two]; exact Nat.zero_le _⟩
  case round =>
    obtain ⟨x, hx2, hx5, rfl, hf, hle⟩ := hrel
    clear Hst
    obtain ⟨L, HL⟩ := ex_eq (pl x).length
    rw [HL.out] at hle
    by_cases hlt : L < 100
    · have hx : x < 542 := pl_room hx5 (by rw [HL.out]; omega)
      obtain ⟨xs, Hxs⟩ := ex_eq (pl x)
      have Hpos : Away (∀ p ∈ xs, 2 ≤ p ∧ p ≤ 541) := ⟨fun p hp => pl_pos (x := x) (by rw [Hxs.out]; exact hp)⟩
      rw [Hxs.out] at hf HL
      cases hd : dvd xs x
      · have Hnew : Away (pl (x + 1) = xs ++ [x]) := ⟨by rw [pl_new hx2 hx (by rw [Hxs.out]; exact hd), Hxs.out]⟩
        have HD := Away.mk hd
        clear hd
        have hsz := holds_lt hf.out
        rcases holds_open hf.out with ⟨rfl, rfl⟩ | ⟨g, cap, rfl, hg1, hg2, hcap, hcell⟩
        · obtain rfl : L = 0 := HL.out.symm
          go_wp2_with fail
          refine (divided_nil _ _).mono ?_
          rintro e w0 ⟨rfl, rfl⟩
          go_wp2_with (at_builtin; refine wpList_append_own _ rfl _ _ 44 rfl w.heap.size 3 i0 (.int .i64 0) 1 8 Try.underlying44 HI.out.1 HI.out.2.1 HI.out.2.2.1 HI.out.2.2.2 rfl (by decide) _ _ _ rfl (hf.out.1.alloc _) ⟨wr.heap.size, 0, none⟩ 1 1 [.int .i64 (x : Int)] rfl rfl news_at (fun u hu => by simp at hu; subst hu; rfl) (by simp [maxLen]) (by simp) (by simp; omega) ?_)
          intro v' w1 hown' hgrow _
          have R := holds_new hf.out hown' hgrow
          rw [← Hnew.out] at R
          have HR := Away.mk R
          clear hown' hgrow R
          go_wp2_with fail
          go_roundw
          case rel => exact ⟨x + 1, by omega, by omega, by go_num, HR, by rw [Hnew.out]; exact hlt⟩
          case measure => simp [intOf]; omega
        · rw [HL.out] at hcap hcell ⊢
          have Hown := Away.mk hf.out.1
          rw [HL.out] at Hown
          have HC := Away.mk hcell
          clear hcell
          have hL := pl_le x
          rw [Hxs.out, HL.out] at hL
          go_wp2_with fail
          rw [← HL.out]
          refine (divided_some x g cap xs _ (by omega) (by rw [HL.out]; exact hL) Hpos.out (by rw [HL.out]; exact HC.out)).mono ?_
          rintro e w0 ⟨rfl, rfl⟩
          rw [HD.out, HL.out]
          go_wp2_with (at_builtin; refine wpList_append_own _ rfl _ _ 44 rfl w.heap.size 3 i0 (.int .i64 0) 1 8 Try.underlying44 HI.out.1 HI.out.2.1 HI.out.2.2.1 HI.out.2.2.2 rfl (by decide) _ _ _ rfl (Hown.out.alloc _) ⟨wr.heap.size, 0, none⟩ 1 1 [.int .i64 (x : Int)] rfl rfl news_at (fun u hu => by simp at hu; subst hu; rfl) (by unfold maxLen; omega) (by omega) (by simp; omega) ?_)
          intro v' w1 hown' hgrow _
          rw [← HL.out] at hown' hgrow
          have R := holds_new hf.out hown' hgrow
          rw [← Hnew.out] at R
          have HR := Away.mk R
          clear hown' hgrow R
          go_wp2_with fail
          go_roundw
          case rel => exact ⟨x + 1, by omega, by omega, by go_num, HR, by rw [Hnew.out, List.length_append, HL.out]; exact hlt⟩
          case measure => simp [intOf]; omega
      · have Hnew : Away (pl (x + 1) = xs) := ⟨by rw [pl_hit hx2 hx (by rw [Hxs.out]; exact hd), Hxs.out]⟩
        have HD := Away.mk hd
        clear hd
        rcases holds_open hf.out with ⟨rfl, rfl⟩ | ⟨g, cap, rfl, hg1, hg2, hcap, hcell⟩
        · exact absurd HD.out (by simp [dvd])
        · rw [HL.out] at hcap hcell hf ⊢
          have HC := Away.mk hcell
          clear hcell
          have hL := pl_le x
          rw [Hxs.out, HL.out] at hL
          go_wp2_with fail
          rw [← HL.out]
          refine (divided_some x g cap xs _ (by omega) (by rw [HL.out]; exact hL) Hpos.out (by rw [HL.out]; exact HC.out)).mono ?_
          rintro e w0 ⟨rfl, rfl⟩
          rw [HD.out, HL.out]
          have R := hf.out
          rw [← Hnew.out] at R
          have HR := Away.mk R
          clear R
          go_wp2_with fail
          go_roundw
          case rel => exact ⟨x + 1, by omega, by omega, by go_num, HR, by rw [Hnew.out, HL.out]; exact hle⟩
          case measure => simp [intOf]; omega
    · obtain rfl : L = 100 := by omega
      have Hpr : Away (pl x = pr n) := ⟨pr_of hx2 hx5 (by intro _; rw [HL.out]; omega) (by intro h; rw [HL.out])⟩
      rw [Hpr.out] at hf HL
      rcases holds_open hf.out with ⟨rfl, hnil⟩ | ⟨g, cap, rfl, hg1, hg2, hcap, hcell⟩
      · have h0 := HL.out
        rw [hnil] at h0
        simp at h0
      · rw [HL.out] at hf ⊢
        clear hcell hcap
        go_wp2_with fail
        go_ret
        exact ⟨_, rfl, hf.out⟩

set_option maxRecDepth 100000 in
set_option maxHeartbeats 400000 in
theorem primes_low (n : Int) (w : World) (h : n ≤ 0) :
    Calls Try.prog 15 #[.int .i64 n] w fun e w' => ∃ v, e = .returned v ∧ Holds w (pr n) v w' := by
  have hp : pr n = [] := by unfold pr; rw [show n.toNat = 0 by omega]; rfl
  have hst := holds_start w
  rw [← hp] at hst
  have Hst := Away.mk hst
  clear hst hp
  go_enter Try.func15, Try.ntmps15
  go_wp2_with fail
  refine wp_loop_rounds 1 ?_
  rw [rounds_succ]
  go_wp2_with fail
  go_ret
  exact ⟨_, rfl, Hst.out⟩

theorem primes_any (n : Int) (w : World) :
    Calls Try.prog 15 #[.int .i64 n] w fun e w' => ∃ v, e = .returned v ∧ Holds w (pr n) v w' := by
  by_cases h : n ≤ 0
  · exact primes_low n w h
  by_cases h1 : 100 < n
  · exact primes_over n h1 w
  obtain ⟨m, rfl⟩ := Int.eq_ofNat_of_zero_le (show 0 ≤ n by omega)
  exact primes_in m (by omega) (by omega) w

end Go.Proofs.Ytbbealdamampaaa.primes
