/-
  What the reference's times returns for any two long numbers: the parts of their product modulo 2 to the power 256; memory that was there before stays as it was. Conditions: each argument has eight parts of 32 bits.
  When one long number is above another (the reference's). Conditions: as each theorem says.
  What the reference's Root returns for any two numbers: 64 bits of the fraction of p's root, or 0 out of range; memory that was there before stays as it was. Conditions: none but that the numbers are ints.
  What the reference's Primes returns for any number: a slice of its own that holds the first primes, at most 100, none below 1; memory that was there before stays as it was. Conditions: none but that the number is an int.
  Powers modulo the prime (the reference's). Conditions: as each theorem says.
  The round constants (the reference's). Conditions: as each theorem says.
  The turns (the reference's). Conditions: as each theorem says.
  The bits of a number in reverse order (the reference's). Conditions: as each theorem says.
  What the reference's Make returns: all tables as the document asks; memory that was there before stays as it was. Conditions: none.
-/
import Derived.Test.YtjdcmnmnjkkpiaaDoorProg
import Derived.Test.YtjdcmnmnjkkpiaaDoorBas
import Derived.Test.YtjdcmnmnjkkpiaaDoorTab
namespace Go.Proofs.YtjdcmnmnjkkpiaaDoor.rtimes
open Go.RowKit
open Go.Proofs.YtjdcmnmnjkkpiaaDoor.tabd Go.Proofs.YtjdcmnmnjkkpiaaDoor.arr

theorem zrlong : (Tryd.prog.info? 79).map (·.size) = some 8 := by kernel_rfl
set_option maxHeartbeats 400000 in
theorem times_any (us vs : List Nat) (w : World) (hu : us.length = 8) (hv : vs.length = 8) (su : Small us) (sv : Small vs) :
    Calls Tryd.prog 52 #[.agg (LK .u64 us), .agg (LK .u64 vs)] w fun e w' => e = .returned (.agg (LK .u64 (dg 8 (val us * val vs)))) ∧ Below w.heap.size w w' := by
  have Hu := Lib.hid hu
  have Hv := Lib.hid hv
  have Su := Lib.hid su
  have Sv := Lib.hid sv
  clear hu hv su sv
  go_enter Tryd.func52, Tryd.ntmps52
  go_wp2
  obtain ⟨Z, hZ⟩ : ∃ Z, (#[.int .u64 0, .int .u64 0, .int .u64 0, .int .u64 0, .int .u64 0, .int .u64 0, .int .u64 0, .int .u64 0] : Array Value) = Z := ⟨_, rfl⟩
  rw [hZ]
  have HZ := Lib.hid hZ
  clear hZ
  have t0 := top_start us vs
  go_loopw [10] (fun i wr => ∃ (k n : Nat) (ds : List Nat), k ≤ 8 ∧ i = .int .i64 k ∧ Top us vs k ds ∧ wr = ((((w.alloc (.cells (LK .u64 us) 79)).alloc (.cells (LK .u64 vs) 79)).alloc (.cells Z 79)).alloc (.cells (LK .u64 ds) 79)).drewN n) (fun i _ => 8 - (intOf i).toNat)
  case atStart => exact ⟨0, 0, List.replicate 8 0, by decide, rfl, t0, by rw [← HZ.out]; rfl⟩
  case round =>
    obtain ⟨k, n, ds, hk, rfl, ht, rfl⟩ := hrel
    clear t0
    by_cases hlt : k < 8
    · obtain ⟨N, hN⟩ : ∃ N, val ds = N := ⟨_, rfl⟩
      obtain ⟨x, hx⟩ : ∃ x, us.getD k 0 = x := ⟨_, rfl⟩
      have hm0 := mid_start vs ds x k ht.1 ht.2.1
      have hxl := getD_small Su.out k
      rw [hx] at hxl
      rw [hN] at hm0
      have Ht := Lib.hid ht
      have HN := Lib.hid hN
      have hgu := lk_get .u64 us k (by rw [Hu.out]; exact hlt)
      rw [hx] at hgu
      have HX := Lib.hid hx
      clear ht hN hx
      go_wp2
      go_loopw [8, 7] (fun j c wr => ∃ (m n : Nat) (d : List Nat) (cc : Nat), m ≤ 8 - k ∧ j = .int .i64 m ∧ c = .int .u64 cc ∧ Mid vs N x k m d cc ∧ wr = ((((w.alloc (.cells (LK .u64 us) 79)).alloc (.cells (LK .u64 vs) 79)).alloc (.cells Z 79)).alloc (.cells (LK .u64 d) 79)).drewN n) (fun j _ _ => 8 - (intOf j).toNat)
      case atStart => exact ⟨0, n, ds, 0, by omega, rfl, rfl, hm0, rfl⟩
      case round =>
        obtain ⟨m, n, d, c, hm, rfl, rfl, hmid, rfl⟩ := hrel
        by_cases hlm : m < 8 - k
        · have hs := mid_step hmid hxl Sv.out (by rw [Hv.out]; omega) (by omega)
          have hb := mid_bd (j := m) (k := k + m) (c := c) hxl Sv.out hmid.2.1 hmid.2.2.1
          have hgv := lk_get .u64 vs m (by rw [Hv.out]; omega)
          have hgd := lk_get .u64 d (k + m) (by rw [hmid.1]; omega)
          have hlv := getD_small Sv.out m
          have hld := getD_small hmid.2.1 (k + m)
          obtain ⟨y, hy⟩ : ∃ y, vs.getD m 0 = y := ⟨_, rfl⟩
          obtain ⟨z, hz⟩ : ∃ z, d.getD (k + m) 0 = z := ⟨_, rfl⟩
          rw [hy] at hs hb hgv hlv
          rw [hz] at hs hb hgd hld
          have hc := hmid.2.2.1
          have hset := lk_setI .u64 d (k + m) ((x * y + z + c) % 4294967296) (bits .and .u64 ((z : Int) + (x : Int) * (y : Int) + (c : Int)) 4294967295) (cast_mask x y z c hb.2.2)
          clear hy hz hmid hm0
          have w1 : IntKind.i64.wrap ((k : Int) + (m : Int)) = (k : Int) + (m : Int) := IntWalk.i64_in _ (by omega)
          have w2 : ((k : Int) + (m : Int)).toNat = k + m := by omega
          go_wp2_with fail
          go_quiet (fail)
          go_wp2_with fail
          go_roundw
          case rel =>
            exact ⟨m + 1, n + nq, d.set (k + m) ((x * y + z + c) % 4294967296), (x * y + z + c) / 4294967296, by omega, by go_num, val_int (cast_zdiv x y z c), hs, rfl⟩
          case measure => simp [intOf]; omega
        · obtain rfl : m = 8 - k := by omega
          have htop := top_step (us := us) (c := c) (HN.out ▸ Ht.out.2.2) (by rw [Hu.out]; exact hlt) hk Hv.out (by rw [HX.out]; exact hmid)
          clear hm0 hmid hgu
          go_wp2_with fail
          go_roundw
          case rel => exact ⟨k + 1, n, d, by omega, by go_num, htop, rfl⟩
          case measure => simp [intOf]; omega
    · obtain rfl : k = 8 := by omega
      have hend := top_end Hu.out ht
      have hsz : (LK .u64 ds).size = 8 := by rw [lk_size]; exact ht.1
      have hzs : Z.size = 8 := by rw [← HZ.out]; rfl
      obtain ⟨X, hX⟩ : ∃ X, ((((w.alloc (.cells (LK .u64 us) 79)).alloc (.cells (LK .u64 vs) 79)).alloc (.cells Z 79)).alloc (.cells (LK .u64 ds) 79)).drewN n = X := ⟨_, rfl⟩
      have hb : Below w.heap.size w X := by
        rw [← hX]
        exact below_drewN (((((Below.refl _ _).alloc (Nat.le_refl _) _).alloc (by simp) _).alloc (by simp; omega) _).alloc (by simp; omega) _) n
      have g5 : X.heap[w.heap.size + 1 + 1 + 1]? = some (.cells (LK .u64 ds) 79 (0, 0)) := by
        rw [← hX, heap_drewN', heap_at _ _ _ (by simp)]
      have g4 : X.heap[w.heap.size + 1 + 1]? = some (.cells Z 79 (0, 0)) := by
        rw [← hX, heap_drewN', heap_past _ _ _ (by simp), heap_at _ _ _ (by simp)]
      rw [hX]
      clear hX ht
      go_wp2_with (first | (refine wpList_load_row rfl 79 _ rfl _ rfl 79 _ (0, 0) _ g5 Tryd.underlying79 rfl (by rw [hsz]; exact zrlong) ?_) | (refine wpList_store_row rfl 79 _ _ rfl _ _ rfl rfl 79 _ g4 (by rw [hsz]; exact zrlong) (by rw [hsz]; exact hzs) (lk_one _ _) ?_))
      refine bodyPost_ret_by (v := .agg (LK .u64 ds)) (results_cell_row rfl _ _ (w.heap.size + 1 + 1) 79 _ (0, 0) _ rfl (setRow_heap _ _ _ _ _ _ g4) Tryd.underlying79 rfl (by rw [hsz]; exact zrlong)) rfl ?_
      exact ⟨by rw [hend], hb.trans (below_setRow _ _ _ (by omega))⟩
end Go.Proofs.YtjdcmnmnjkkpiaaDoor.rtimes

namespace Go.Proofs.YtjdcmnmnjkkpiaaDoor.above
open Go.RowKit
open Go.Proofs.YtjdcmnmnjkkpiaaDoor.tabd Go.Proofs.YtjdcmnmnjkkpiaaDoor.arr

set_option maxHeartbeats 400000 in
theorem rabove_any (us vs : List Nat) (w : World) (hu : us.length = 8) (hv : vs.length = 8) (su : Small us) (sv : Small vs) :
    Calls Tryd.prog 53 #[.agg (LK .u64 us), .agg (LK .u64 vs)] w fun e w' => e = .returned (.bool (decide (val vs < val us))) ∧ Below w.heap.size w w' := by
  have Hu := Lib.hid hu
  have Hv := Lib.hid hv
  have Su := Lib.hid su
  have Sv := Lib.hid sv
  have HS := Lib.hid (show Same us vs (8 - 0) from by unfold Same; rw [List.drop_of_length_le (by omega), List.drop_of_length_le (by omega)])
  clear hu hv su sv
  go_enter Tryd.func53, Tryd.ntmps53
  go_wp2
  go_loopw [5] (fun i wr => ∃ (k n : Nat), k ≤ 8 ∧ i = .int .i64 (7 - (k : Int)) ∧ Hid (Same us vs (8 - k)) ∧ wr = ((w.alloc (.cells (LK .u64 us) 79)).alloc (.cells (LK .u64 vs) 79)).drewN n) (fun i _ => (intOf i + 1).toNat)
  case atStart => exact ⟨0, 0, by decide, rfl, HS, rfl⟩
  case round =>
    obtain ⟨k, n, hk, rfl, hs, rfl⟩ := hrel
    clear HS
    have hbel : ∀ n, Below w.heap.size w (((w.alloc (.cells (LK .u64 us) 79)).alloc (.cells (LK .u64 vs) 79)).drewN n) := fun n => below_drewN (((Below.refl _ _).alloc (Nat.le_refl _) _).alloc (by simp) _) n
    have Hbel := Lib.hid hbel
    clear hbel
    by_cases hlt : k < 8
    · have hgu := lk_get .u64 us (7 - k) (by rw [Hu.out]; omega)
      have hgv := lk_get .u64 vs (7 - k) (by rw [Hv.out]; omega)
      have e1 : (7 - (k : Int)).toNat = 7 - k := by omega
      have hs' : Same us vs (7 - k + 1) := by rw [show 7 - k + 1 = 8 - k by omega]; exact hs.out
      by_cases he : us.getD (7 - k) 0 = vs.getD (7 - k) 0
      · have hn := Lib.hid (same_step hs' (by rw [Hu.out]; omega) (by rw [Hv.out]; omega) he)
        rw [he] at hgu
        obtain ⟨x, hx⟩ : ∃ x, vs.getD (7 - k) 0 = x := ⟨_, rfl⟩
        rw [hx] at hgu hgv
        clear he hx hs' hs
        go_wp2_with fail
        go_quiet (fail)
        go_wp2_with fail
        go_roundw
        case rel => exact ⟨k + 1, _, by omega, val_int (by omega), by rw [show 8 - (k + 1) = 7 - k by omega]; exact hn, rfl⟩
        case measure => simp [intOf]; omega
      · have hg := Lib.hid (gt_of us vs (7 - k) hs' Hu.out Hv.out Su.out Sv.out (by omega) he)
        obtain ⟨x, hx⟩ : ∃ x, us.getD (7 - k) 0 = x := ⟨_, rfl⟩
        obtain ⟨y, hy⟩ : ∃ y, vs.getD (7 - k) 0 = y := ⟨_, rfl⟩
        rw [hx, hy] at hg
        rw [hx] at hgu
        rw [hy] at hgv
        rw [hx, hy] at he
        have b1 : ((x : Int) == (y : Int)) = false := beq_eq_false_iff_ne.2 (by omega)
        have b2 : ((x : Int) != (y : Int)) = true := by rw [bne_iff_ne]; omega
        clear he hx hy hs' hs
        go_wp2_with fail
        go_quiet (fail)
        go_wp2_with fail
        go_quiet (fail)
        go_wp2_with fail
        go_ret
        exact ⟨ret_bool hg.out, below_drewN (below_drewN (Hbel.out _) _) _⟩
    · obtain rfl : k = 8 := by omega
      have hz := Lib.hid (same_zero hs.out)
      go_wp2_with fail
      go_ret
      exact ⟨ret_bool (by rw [hz.out]; simp), Hbel.out _⟩
theorem rabove_b (c : Bool) (us vs : List Nat) (w : World) (hu : us.length = 8) (hv : vs.length = 8) (su : Small us) (sv : Small vs) (hc : decide (val vs < val us) = c) :
    Calls Tryd.prog 53 #[.agg (LK .u64 us), .agg (LK .u64 vs)] w fun e w' => e = .returned (.bool c) ∧ Below w.heap.size w w' := by
  subst hc; exact rabove_any us vs w hu hv su sv
end Go.Proofs.YtjdcmnmnjkkpiaaDoor.above

namespace Go.Proofs.YtjdcmnmnjkkpiaaDoor.rroot
open Go.RowKit
open Go.Proofs.YtjdcmnmnjkkpiaaDoor.tabd Go.Proofs.YtjdcmnmnjkkpiaaDoor.arr Go.Proofs.YtjdcmnmnjkkpiaaDoor.rtimes Go.Proofs.YtjdcmnmnjkkpiaaDoor.above
open Go.Proofs.YtjdcmnmnjkkpiaaDoor.raised (dg_mulmod)
open Go.Proofs.YtjdcmnmnjkkpiaaDoor.root (join_parts rootV)

def St (p k : Nat) (w : World) (y : Nat) (wr : World) : Prop :=
  wr.heap[w.heap.size]? = some (.cells (LK .u64 (top p k)) 79 (0, 0)) ∧
  wr.heap[w.heap.size + 1]? = some (.cells (LK .u64 (dg 8 y)) 79 (0, 0)) ∧ Below w.heap.size w wr ∧ w.heap.size + 2 ≤ wr.heap.size
theorem st_call {p k : Nat} {w wr w1 : World} {n : Nat} (h : St p k w n wr) (hb : Below wr.heap.size wr w1) : St p k w n w1 := by
  obtain ⟨h1, h2, h4, h5⟩ := h
  have hs := hb.size
  exact ⟨(hb.block _ (by omega)).trans h1, (hb.block _ (by omega)).trans h2, h4.trans (hb.mono (by omega)), by omega⟩
theorem st_store {p k : Nat} {w wr : World} {n t : Nat} (h : St p k w n wr) : St p k w t (wr.setRow (w.heap.size + 1) (LK .u64 (dg 8 t))) := by
  obtain ⟨h1, h2, h4, h5⟩ := h
  exact ⟨by rw [setRow_other _ _ _ _ (by omega)]; exact h1, setRow_heap _ _ _ _ _ _ h2, h4.trans (below_setRow _ _ _ (by omega)), by simpa using h5⟩
theorem top_size (p k : Nat) : (LK .u64 (top p k)).size = 8 := by rw [lk_size, top_length]
theorem heap_lt {w : World} {g : Nat} {o : Obj} (h : w.heap[g]? = some o) : g < w.heap.size := by
  by_cases hlt : g < w.heap.size
  · exact hlt
  · rw [Array.getElem?_eq_none (by omega)] at h; cases h

set_option maxRecDepth 100000 in
set_option maxHeartbeats 2000000 in
theorem root_in2 (p : Nat) (w : World) (hp : p ≤ 1000) :
    Calls Tryd.prog 27 #[.int .i64 p, .int .i64 2] w fun e w' => e = .returned (.int .u64 ((rootN p 2 % 18446744073709551616 : Nat) : Int)) ∧ Below w.heap.size w w' := by
  have hsd : ∀ v, (LK .u64 (dg 8 v)).size = 8 := fun v => by rw [lk_size, dg_length]
  have Hsd := Away.mk hsd
  clear hsd
  go_enter Tryd.func27, Tryd.ntmps27
  go_wp2_with fail
  go_loopw [7] (fun i wr => ∃ n y : Nat, n ≤ 70 ∧ i = .int .i64 (69 - (n : Int)) ∧ Away (rt 70 (p * bp (2 * 2)) 2 n = y) ∧ St p 2 w y wr) (fun i _ => (intOf i + 1).toNat)
  case atStart =>
    refine ⟨0, 0, by decide, rfl, ⟨rfl⟩, ?_, ?_, ?_, ?_⟩
    · rw [heap_past _ _ _ (by simp <;> omega), heap_at _ _ _ rfl]; rfl
    · rw [heap_at _ _ _ (by simp <;> omega)]; rfl
    · exact ((Below.refl _ _).alloc (Nat.le_refl _) _).alloc (by simp <;> omega) _
    · simp
  case round =>
    obtain ⟨n, y, hn, rfl, Hy, hst⟩ := hrel
    have g1 := hst.2.1
    have Hst := Away.mk hst
    clear hst
    by_cases hlt : n < 70
    · obtain ⟨k1, k2, k3, k4, k5⟩ := rt_round (k := 2) (by decide) hp (by decide : 69 ≤ 70) (Nat.le_refl 70) hlt Hy.out
      have HR := Away.mk k5
      obtain ⟨d, hd⟩ : ∃ d, (dg 8 y).getD ((69 - n) / 32) 0 = d := ⟨_, rfl⟩
      have hget := lk_get .u64 (dg 8 y) ((69 - n) / 32) (by rw [dg_length]; omega)
      have hdl := getD_small (dg_small 8 y) ((69 - n) / 32)
      rw [hd] at hget hdl
      have hbit := dg_bit y (69 - n) (by omega) k1 k2
      rw [hd] at hbit
      have Hbit := Away.mk hbit
      have hq8 : (69 - n) / 32 < 8 := by omega
      have hr32 : (69 - n) % 32 < 32 := by omega
      have w36 : (69 - (n : Int)) / 32 = (((69 - n) / 32 : Nat) : Int) := by omega
      have w40 : (69 - (n : Int)) % 32 = (((69 - n) % 32 : Nat) : Int) := by omega
      obtain ⟨q, hq⟩ : ∃ q, (69 - n) / 32 = q := ⟨_, rfl⟩
      obtain ⟨r, hr⟩ : ∃ r, (69 - n) % 32 = r := ⟨_, rfl⟩
      rw [hq] at w36 hget Hbit hq8
      rw [hr] at w40 Hbit hr32
      obtain ⟨t, ht⟩ : ∃ t, y + 2 ^ (70 - 1 - n) = t := ⟨_, rfl⟩
      rw [ht] at k3 k4 HR
      have hset : (LK .u64 (dg 8 y)).setIfInBounds q (.int .u64 (bits .or .u64 (d : Int) (IntKind.u64.wrap (2 ^ r)))) = LK .u64 (dg 8 t) := by
        rw [lk_setI .u64 (dg 8 y) q (d ||| 2 ^ r) _ (or_bit64w d r hdl hr32), ← ht]
        exact congrArg (LK .u64) Hbit.out.1
      have K3 := Away.mk k3
      have K4 := Away.mk k4
      clear hd hbit hq hr ht k1 k2 k3 k4 k5
      go_wp2_with (first | (refine wpList_load_row rfl 79 _ rfl _ rfl 79 _ (0, 0) _ g1 Tryd.underlying79 rfl (by rw [Hsd.out]; exact zrlong) ?_) | (refine wpList_store_new rfl 79 _ _ rfl _ rfl rfl (by rw [Hsd.out]; exact zrlong) (by rw [Hsd.out]; rfl) (lk_one _ _) rfl ?_) | (refine wpList_load_row rfl 79 _ rfl _ rfl 79 _ (0, 0) _ (heap_at _ _ _ rfl) Tryd.underlying79 rfl (by rw [Hsd.out]; exact zrlong) ?_))
      refine (times_any _ _ _ (dg_length _ _) (dg_length _ _) (dg_small _ _) (dg_small _ _)).mono ?_
      rintro e w1 ⟨rfl, hb1⟩
      rw [K3.out]
      have hbA : Below wr.heap.size wr w1 := ((Below.refl _ _).alloc (Nat.le_refl _) _).trans (hb1.mono (by simp))
      have g8 := (hb1.block wr.heap.size (by simp)).trans (heap_at wr _ _ rfl)
      have Hst1 := Away.mk (st_call Hst.out hbA)
      have g5 := Hst1.out.1
      have s8 := heap_lt g8
      have s5 := heap_lt g5
      clear hb1 hbA g1
      have KX : Away (t * t = t ^ 2) := ⟨(Nat.pow_two t).symm⟩
      obtain ⟨c, Hc⟩ := ex_eq (decide (val (top p 2) < val (dg 8 (t * t))))
      go_wp2_with (first | (refine wpList_store_new rfl 79 _ _ rfl _ rfl rfl (by rw [Hsd.out]; exact zrlong) (by rw [Hsd.out]; rfl) (lk_one _ _) rfl ?_) | (refine wpList_load_row rfl 79 _ rfl _ rfl 79 _ (0, 0) _ (heap_at _ _ _ rfl) Tryd.underlying79 rfl (by rw [Hsd.out]; exact zrlong) ?_) | (refine wpList_load_row rfl 79 _ rfl _ rfl 79 _ (0, 0) _ ((heap_past _ _ _ s5).trans g5) Tryd.underlying79 rfl (by rw [top_size]; exact zrlong) ?_))
      have HstX := Away.mk (st_call Hst1.out ((Below.refl _ _).alloc (Nat.le_refl _) (.cells (LK .u64 (dg 8 (t * t))) 79)))
      have gX8 := (heap_past w1 (.cells (LK .u64 (dg 8 (t * t))) 79) _ s8).trans g8
      refine (rabove_b c _ _ _ (dg_length _ _) (top_length _ _) (dg_small _ _) (top_small _ _ hp) Hc.out).mono ?_
      rintro e w3 ⟨rfl, hb3⟩
      have Hst3 := Away.mk (st_call HstX.out hb3)
      have g83 := (hb3.block _ (heap_lt gX8)).trans gX8
      have g13 := Hst3.out.2.1
      clear hb3
      rw [KX.out, K4.out, val_top p 2 (by decide)] at Hc
      cases c
      · have hle : t ^ 2 ≤ p * bp (2 * 2) := Nat.not_lt.1 (of_decide_eq_false Hc.out)
        have HR2 := Away.mk (HR.out.trans (if_pos hle))
        clear hle
        go_wp2_with (first | (refine wpList_load_row rfl 79 _ rfl _ rfl 79 _ (0, 0) _ g83 Tryd.underlying79 rfl (by rw [Hsd.out]; exact zrlong) ?_) | (refine wpList_store_row rfl 79 _ _ rfl _ _ rfl rfl 79 _ g13 (by rw [Hsd.out]; exact zrlong) (by rw [Hsd.out, Hsd.out]) (lk_one _ _) ?_))
        go_roundw
        case rel => exact ⟨n + 1, t, by omega, val_int (by omega), HR2, st_store Hst3.out⟩
        case measure => simp [intOf]; omega
      · have hle : ¬ t ^ 2 ≤ p * bp (2 * 2) := Nat.not_le.2 (of_decide_eq_true Hc.out)
        have HR2 := Away.mk (HR.out.trans (if_neg hle))
        clear hle
        go_wp2_with fail
        go_roundw
        case rel => exact ⟨n + 1, y, by omega, val_int (by omega), HR2, Hst3.out⟩
        case measure => simp [intOf]; omega
    · obtain rfl : n = 70 := by omega
      have b1 := getD_small (dg_small 8 y) 1
      have b0 := getD_small (dg_small 8 y) 0
      have c1 := cell_at g1 (lk_get .u64 (dg 8 y) 1 (by rw [dg_length]; decide))
      have c0 := cell_at g1 (lk_get .u64 (dg 8 y) 0 (by rw [dg_length]; decide))
      have hj := join_parts y
      generalize (dg 8 y).getD 1 0 = a at *
      generalize (dg 8 y).getD 0 0 = b at *
      have Hj := Away.mk hj
      clear hj g1
      go_wp2_with fail
      go_ret
      exact ⟨ret_int (by rw [Hj.out, ← Hy.out, rootN_of p 2 70 hp (by decide) (by decide)]), Hst.out.2.2.1⟩

set_option maxRecDepth 100000 in
set_option maxHeartbeats 2000000 in
theorem root_in3 (p : Nat) (w : World) (hp : p ≤ 1000) :
    Calls Tryd.prog 27 #[.int .i64 p, .int .i64 3] w fun e w' => e = .returned (.int .u64 ((rootN p 3 % 18446744073709551616 : Nat) : Int)) ∧ Below w.heap.size w w' := by
  have hsd : ∀ v, (LK .u64 (dg 8 v)).size = 8 := fun v => by rw [lk_size, dg_length]
  have Hsd := Away.mk hsd
  clear hsd
  go_enter Tryd.func27, Tryd.ntmps27
  go_wp2_with fail
  go_loopw [7] (fun i wr => ∃ n y : Nat, n ≤ 70 ∧ i = .int .i64 (69 - (n : Int)) ∧ Away (rt 70 (p * bp (2 * 3)) 3 n = y) ∧ St p 3 w y wr) (fun i _ => (intOf i + 1).toNat)
  case atStart =>
    refine ⟨0, 0, by decide, rfl, ⟨rfl⟩, ?_, ?_, ?_, ?_⟩
    · rw [heap_past _ _ _ (by simp <;> omega), heap_at _ _ _ rfl]; rfl
    · rw [heap_at _ _ _ (by simp <;> omega)]; rfl
    · exact ((Below.refl _ _).alloc (Nat.le_refl _) _).alloc (by simp <;> omega) _
    · simp
  case round =>
    obtain ⟨n, y, hn, rfl, Hy, hst⟩ := hrel
    have g1 := hst.2.1
    have Hst := Away.mk hst
    clear hst
    by_cases hlt : n < 70
    · obtain ⟨k1, k2, k3, k4, k5⟩ := rt_round (k := 3) (by decide) hp (by decide : 69 ≤ 70) (Nat.le_refl 70) hlt Hy.out
      have HR := Away.mk k5
      obtain ⟨d, hd⟩ : ∃ d, (dg 8 y).getD ((69 - n) / 32) 0 = d := ⟨_, rfl⟩
      have hget := lk_get .u64 (dg 8 y) ((69 - n) / 32) (by rw [dg_length]; omega)
      have hdl := getD_small (dg_small 8 y) ((69 - n) / 32)
      rw [hd] at hget hdl
      have hbit := dg_bit y (69 - n) (by omega) k1 k2
      rw [hd] at hbit
      have Hbit := Away.mk hbit
      have hq8 : (69 - n) / 32 < 8 := by omega
      have hr32 : (69 - n) % 32 < 32 := by omega
      have w36 : (69 - (n : Int)) / 32 = (((69 - n) / 32 : Nat) : Int) := by omega
      have w40 : (69 - (n : Int)) % 32 = (((69 - n) % 32 : Nat) : Int) := by omega
      obtain ⟨q, hq⟩ : ∃ q, (69 - n) / 32 = q := ⟨_, rfl⟩
      obtain ⟨r, hr⟩ : ∃ r, (69 - n) % 32 = r := ⟨_, rfl⟩
      rw [hq] at w36 hget Hbit hq8
      rw [hr] at w40 Hbit hr32
      obtain ⟨t, ht⟩ : ∃ t, y + 2 ^ (70 - 1 - n) = t := ⟨_, rfl⟩
      rw [ht] at k3 k4 HR
      have hset : (LK .u64 (dg 8 y)).setIfInBounds q (.int .u64 (bits .or .u64 (d : Int) (IntKind.u64.wrap (2 ^ r)))) = LK .u64 (dg 8 t) := by
        rw [lk_setI .u64 (dg 8 y) q (d ||| 2 ^ r) _ (or_bit64w d r hdl hr32), ← ht]
        exact congrArg (LK .u64) Hbit.out.1
      have K3 := Away.mk k3
      have K4 := Away.mk k4
      clear hd hbit hq hr ht k1 k2 k3 k4 k5
      go_wp2_with (first | (refine wpList_load_row rfl 79 _ rfl _ rfl 79 _ (0, 0) _ g1 Tryd.underlying79 rfl (by rw [Hsd.out]; exact zrlong) ?_) | (refine wpList_store_new rfl 79 _ _ rfl _ rfl rfl (by rw [Hsd.out]; exact zrlong) (by rw [Hsd.out]; rfl) (lk_one _ _) rfl ?_) | (refine wpList_load_row rfl 79 _ rfl _ rfl 79 _ (0, 0) _ (heap_at _ _ _ rfl) Tryd.underlying79 rfl (by rw [Hsd.out]; exact zrlong) ?_))
      refine (times_any _ _ _ (dg_length _ _) (dg_length _ _) (dg_small _ _) (dg_small _ _)).mono ?_
      rintro e w1 ⟨rfl, hb1⟩
      rw [K3.out]
      have hbA : Below wr.heap.size wr w1 := ((Below.refl _ _).alloc (Nat.le_refl _) _).trans (hb1.mono (by simp))
      have g8 := (hb1.block wr.heap.size (by simp)).trans (heap_at wr _ _ rfl)
      have Hst1 := Away.mk (st_call Hst.out hbA)
      have g5 := Hst1.out.1
      have s8 := heap_lt g8
      have s5 := heap_lt g5
      clear hb1 hbA g1
      have KX : Away (t * t * t = t ^ 3) := ⟨by rw [Nat.pow_succ, Nat.pow_two]⟩
      obtain ⟨c, Hc⟩ := ex_eq (decide (val (top p 3) < val (dg 8 (t * t * t))))
      go_wp2_with (first | (refine wpList_store_new rfl 79 _ _ rfl _ rfl rfl (by rw [Hsd.out]; exact zrlong) (by rw [Hsd.out]; rfl) (lk_one _ _) rfl ?_) | (refine wpList_load_row rfl 79 _ rfl _ rfl 79 _ (0, 0) _ (heap_at _ _ _ rfl) Tryd.underlying79 rfl (by rw [Hsd.out]; exact zrlong) ?_) | (refine wpList_load_row rfl 79 _ rfl _ rfl 79 _ (0, 0) _ ((heap_past _ _ _ s8).trans g8) Tryd.underlying79 rfl (by rw [Hsd.out]; exact zrlong) ?_))
      refine (times_any _ _ _ (dg_length _ _) (dg_length _ _) (dg_small _ _) (dg_small _ _)).mono ?_
      rintro e w2 ⟨rfl, hb2⟩
      rw [dg_mulmod, K3.out]
      have hbB : Below w1.heap.size w1 w2 := ((Below.refl _ _).alloc (Nat.le_refl _) _).trans (hb2.mono (by simp))
      have g9 := (hb2.block w1.heap.size (by simp)).trans (heap_at w1 _ _ rfl)
      have g82 := (hbB.block _ s8).trans g8
      have Hst2 := Away.mk (st_call Hst1.out hbB)
      have g52 := Hst2.out.1
      have e8 : wr.heap.size ≠ w1.heap.size := by omega
      have e5 : w.heap.size ≠ w1.heap.size := by omega
      have hb4 := below_setRow (B := w1.heap.size) w2 w1.heap.size (LK .u64 (dg 8 (t * t * t))) (Nat.le_refl _)
      have HstX := Away.mk (st_call Hst1.out (hbB.trans hb4))
      have gX8 := (setRow_other w2 w1.heap.size _ (LK .u64 (dg 8 (t * t * t))) e8).trans g82
      have gX5 := (setRow_other w2 w1.heap.size _ (LK .u64 (dg 8 (t * t * t))) e5).trans g52
      have gX9 := setRow_heap w2 w1.heap.size _ (LK .u64 (dg 8 (t * t * t))) _ _ g9
      clear hb2 hbB g8 g5 g82 g52 e8 e5 hb4
      go_wp2_with (first | (refine wpList_store_row rfl 79 _ _ rfl _ _ rfl rfl 79 _ g9 (by rw [Hsd.out]; exact zrlong) (by rw [Hsd.out, Hsd.out]) (lk_one _ _) ?_) | (refine wpList_load_row rfl 79 _ rfl _ rfl 79 _ (0, 0) _ gX9 Tryd.underlying79 rfl (by rw [Hsd.out]; exact zrlong) ?_) | (refine wpList_load_row rfl 79 _ rfl _ rfl 79 _ (0, 0) _ gX5 Tryd.underlying79 rfl (by rw [top_size]; exact zrlong) ?_))
      refine (rabove_b c _ _ _ (dg_length _ _) (top_length _ _) (dg_small _ _) (top_small _ _ hp) Hc.out).mono ?_
      rintro e w3 ⟨rfl, hb3⟩
      have Hst3 := Away.mk (st_call HstX.out hb3)
      have g83 := (hb3.block _ (heap_lt gX8)).trans gX8
      have g13 := Hst3.out.2.1
      clear hb3
      rw [KX.out, K4.out, val_top p 3 (by decide)] at Hc
      cases c
      · have hle : t ^ 3 ≤ p * bp (2 * 3) := Nat.not_lt.1 (of_decide_eq_false Hc.out)
        have HR2 := Away.mk (HR.out.trans (if_pos hle))
        clear hle
        go_wp2_with (first | (refine wpList_load_row rfl 79 _ rfl _ rfl 79 _ (0, 0) _ g83 Tryd.underlying79 rfl (by rw [Hsd.out]; exact zrlong) ?_) | (refine wpList_store_row rfl 79 _ _ rfl _ _ rfl rfl 79 _ g13 (by rw [Hsd.out]; exact zrlong) (by rw [Hsd.out, Hsd.out]) (lk_one _ _) ?_))
        go_roundw
        case rel => exact ⟨n + 1, t, by omega, val_int (by omega), HR2, st_store Hst3.out⟩
        case measure => simp [intOf]; omega
      · have hle : ¬ t ^ 3 ≤ p * bp (2 * 3) := Nat.not_le.2 (of_decide_eq_true Hc.out)
        have HR2 := Away.mk (HR.out.trans (if_neg hle))
        clear hle
        go_wp2_with fail
        go_roundw
        case rel => exact ⟨n + 1, y, by omega, val_int (by omega), HR2, Hst3.out⟩
        case measure => simp [intOf]; omega
    · obtain rfl : n = 70 := by omega
      have b1 := getD_small (dg_small 8 y) 1
      have b0 := getD_small (dg_small 8 y) 0
      have c1 := cell_at g1 (lk_get .u64 (dg 8 y) 1 (by rw [dg_length]; decide))
      have c0 := cell_at g1 (lk_get .u64 (dg 8 y) 0 (by rw [dg_length]; decide))
      have hj := join_parts y
      generalize (dg 8 y).getD 1 0 = a at *
      generalize (dg 8 y).getD 0 0 = b at *
      have Hj := Away.mk hj
      clear hj g1
      go_wp2_with fail
      go_ret
      exact ⟨ret_int (by rw [Hj.out, ← Hy.out, rootN_of p 3 70 hp (by decide) (by decide)]), Hst.out.2.2.1⟩

theorem root_out (p k : Int) (w : World) (h : p < 0 ∨ 1000 < p ∨ (k ≠ 2 ∧ k ≠ 3)) :
    Calls Tryd.prog 27 #[.int .i64 p, .int .i64 k] w fun e w' => e = .returned (.int .u64 0) ∧ Below w.heap.size w w' := by
  by_cases h1 : p < 0
  · clear h
    go_enter Tryd.func27, Tryd.ntmps27
    go_wp2_with fail
    go_ret
    exact ⟨rfl, Below.refl _ _⟩
  by_cases h2 : 1000 < p
  · clear h
    go_enter Tryd.func27, Tryd.ntmps27
    go_wp2_with fail
    go_ret
    exact ⟨rfl, Below.refl _ _⟩
  obtain ⟨h3, h4⟩ : k ≠ 2 ∧ k ≠ 3 := by omega
  have b3 : (k != 2) = true := by rw [bne_iff_ne]; exact h3
  have b4 : (k != 3) = true := by rw [bne_iff_ne]; exact h4
  clear h h3 h4
  go_enter Tryd.func27, Tryd.ntmps27
  go_wp2_with fail
  go_ret
  exact ⟨rfl, Below.refl _ _⟩
theorem root_any (p k : Int) (w : World) :
    Calls Tryd.prog 27 #[.int .i64 p, .int .i64 k] w fun e w' => e = .returned (.int .u64 (rootV p k : Nat)) ∧ Below w.heap.size w w' := by
  unfold rootV
  by_cases h : p < 0 ∨ 1000 < p ∨ (k ≠ 2 ∧ k ≠ 3)
  · rw [if_pos h]
    exact root_out p k w h
  · rw [if_neg h]
    obtain ⟨a, rfl⟩ := Int.eq_ofNat_of_zero_le (show 0 ≤ p by omega)
    rw [Int.toNat_natCast]
    have hk : k = 2 ∨ k = 3 := by omega
    rcases hk with rfl | rfl
    · exact root_in2 a w (by omega)
    · exact root_in3 a w (by omega)
end Go.Proofs.YtjdcmnmnjkkpiaaDoor.rroot

namespace Go.Proofs.YtjdcmnmnjkkpiaaDoor.primes
open Go.RowKit
open Go.Proofs.YtjdcmnmnjkkpiaaDoor.primm Go.Proofs.YtjdcmnmnjkkpiaaDoor.arr

set_option maxRecDepth 100000 in
set_option maxHeartbeats 1000000 in
theorem rprimes_in (n : Nat) (h1 : 1 ≤ n) (h2 : n ≤ 100) (w : World) :
    Calls Tryd.prog 26 #[.int .i64 (n : Int)] w fun e w' => ∃ v, e = .returned v ∧ Holds w (pr (n : Int)) v w' := by
  obtain ⟨i0, hi, hz0, hz1, hz2⟩ := info_parts infoInt
  have HI := Away.mk (And.intro hi (And.intro hz0 (And.intro hz1 hz2)))
  clear hi hz0 hz1 hz2
  have hst := holds_start w
  rw [← pl_two] at hst
  have Hst := Away.mk hst
  clear hst
  go_enter Tryd.func26, Tryd.ntmps26
  go_wp2_with fail
  go_loopw [3, 4] (fun v i wr => ∃ x : Nat, 2 ≤ x ∧ x ≤ 542 ∧ i = .int .i64 x ∧ Away (Holds w (pl x) v wr) ∧ (pl x).length ≤ n) (fun _ i _ => 542 - (intOf i).toNat)
  case atStart => exact ⟨2, by decide, by decide, rfl, Hst, by rw [pl_two]; exact Nat.zero_le _⟩
  case round =>
    obtain ⟨x, hx2, hx5, rfl, hf, hle⟩ := hrel
    clear Hst
    obtain ⟨L, HL⟩ := ex_eq (pl x).length
    rw [HL.out] at hle
    by_cases hlt : L < n
    · have hx : x < 542 := pl_room hx5 (by rw [HL.out]; omega)
      obtain ⟨xs, Hxs⟩ := ex_eq (pl x)
      have Hpos : Away (∀ p ∈ xs, 2 ≤ p ∧ p ≤ 541) := ⟨fun p hp => pl_pos (x := x) (by rw [Hxs.out]; exact hp)⟩
      rw [Hxs.out] at hf HL
      have hL := pl_le x
      rw [Hxs.out, HL.out] at hL
      have hsz := holds_lt hf.out
      rcases holds_open hf.out with ⟨rfl, rfl⟩ | ⟨g, cap, rfl, hg1, hg2, hcap, hcell⟩
      · have Hnew : Away (pl (x + 1) = [] ++ [x]) := ⟨by rw [pl_new hx2 hx (by rw [Hxs.out]; rfl), Hxs.out]⟩
        obtain rfl : L = 0 := HL.out.symm
        go_wp2_with fail
        refine wp_loop_rounds 1 ?_
        rw [rounds_succ]
        go_wp2_with (at_builtin; refine wpList_append_own _ rfl _ _ 57 rfl w.heap.size 3 i0 (.int .i64 0) 1 8 Tryd.underlying57 HI.out.1 HI.out.2.1 HI.out.2.2.1 HI.out.2.2.2 rfl (by decide) _ _ _ rfl (hf.out.1.alloc _) ⟨wr.heap.size, 0, none⟩ 1 1 [.int .i64 (x : Int)] rfl rfl news_at (fun u hu => by simp at hu; subst hu; rfl) (by simp [maxLen]) (by simp) (by simp; omega) ?_)
        intro v' w1 hown' hgrow _
        have R := holds_new hf.out hown' hgrow
        rw [← Hnew.out] at R
        have HR := Away.mk R
        clear hown' hgrow R
        go_wp2_with fail
        go_roundw
        case rel => exact ⟨x + 1, by omega, by omega, by go_num, HR, by rw [Hnew.out]; exact hlt⟩
        case measure => simp [intOf]; omega
      · rw [HL.out] at hcap hcell ⊢
        have Hown := Away.mk hf.out.1
        rw [HL.out] at Hown
        have HC := Away.mk hcell
        clear hcell
        go_wp2_with fail
        go_loop [5, 17] (fun b i => ∃ (k : Nat) (c : Bool), k ≤ L ∧ i = .int .i64 k ∧ b = .bool c ∧ Away (c = !(dvd (xs.take k) x))) (fun _ i => L - (intOf i).toNat)
        case atStart => exact ⟨0, true, Nat.zero_le _, rfl, rfl, ⟨rfl⟩⟩
        case round =>
          obtain ⟨k, c, hk, rfl, rfl, Hc⟩ := hrel
          by_cases hkl : k < L
          · have hcell := HC.out k hkl
            have hb : 2 ≤ xs.getD k 0 ∧ xs.getD k 0 ≤ 541 := Hpos.out _ (by
              rw [List.getD_eq_getElem?_getD, List.getElem?_eq_getElem (by rw [HL.out]; exact hkl)]; exact List.getElem_mem _)
            have Hs := Away.mk (take_snoc (l := xs) (k := k) (by rw [HL.out]; exact hkl))
            obtain ⟨p, hpp⟩ : ∃ p, xs.getD k 0 = p := ⟨_, rfl⟩
            rw [hpp] at hcell hb Hs
            clear hpp
            cases c
            · have Hn2 : Away (false = !(dvd (xs.take (k + 1)) x)) := ⟨by
                have h := Hc.out
                rw [Hs.out, dvd_snoc]
                revert h
                cases dvd (xs.take k) x <;> simp⟩
              go_wp2_with fail
              go_round
              case rel => exact ⟨k + 1, false, by omega, by go_num, rfl, Hn2⟩
              case measure => simp [intOf]; omega
            · by_cases hm : x % p = 0
              · have b1 : ((x : Int) % (p : Int) != 0) = false := bne_eq_false_iff_eq.2 (by exact_mod_cast hm)
                have Hn2 : Away (false = !(dvd (xs.take (k + 1)) x)) := ⟨by rw [Hs.out, dvd_snoc, hm]; simp⟩
                clear hm
                go_wp2_with fail
                go_round
                case rel => exact ⟨k + 1, false, by omega, by go_num, rfl, Hn2⟩
                case measure => simp [intOf]; omega
              · have b1 : ((x : Int) % (p : Int) != 0) = true := bne_iff_ne.2 (by exact_mod_cast hm)
                have Hn2 : Away (true = !(dvd (xs.take (k + 1)) x)) := ⟨by
                  have h := Hc.out
                  rw [Hs.out, dvd_snoc, beq_false_of_ne hm, Bool.or_false]
                  exact h⟩
                clear hm
                go_wp2_with fail
                go_round
                case rel => exact ⟨k + 1, true, by omega, by go_num, rfl, Hn2⟩
                case measure => simp [intOf]; omega
          · obtain rfl : k = L := by omega
            have Hd : Away (c = !(dvd xs x)) := ⟨by rw [Hc.out, List.take_of_length_le (by rw [HL.out]; exact Nat.le_refl _)]⟩
            cases c
            · have Hnew : Away (pl (x + 1) = xs) := ⟨by rw [pl_hit hx2 hx (by rw [Hxs.out]; have := Hd.out; revert this; cases dvd xs x <;> simp), Hxs.out]⟩
              rw [HL.out] at hf
              have R := hf.out
              rw [← Hnew.out] at R
              have HR := Away.mk R
              clear R
              go_wp2_with fail
              go_roundw
              case rel => exact ⟨x + 1, by omega, by omega, by go_num, HR, by rw [Hnew.out, HL.out]; exact hle⟩
              case measure => simp [intOf]; omega
            · have Hnew : Away (pl (x + 1) = xs ++ [x]) := ⟨by rw [pl_new hx2 hx (by rw [Hxs.out]; have := Hd.out; revert this; cases dvd xs x <;> simp), Hxs.out]⟩
              go_wp2_with (at_builtin; refine wpList_append_own _ rfl _ _ 57 rfl w.heap.size 3 i0 (.int .i64 0) 1 8 Tryd.underlying57 HI.out.1 HI.out.2.1 HI.out.2.2.1 HI.out.2.2.2 rfl (by decide) _ _ _ rfl (Hown.out.alloc _) ⟨wr.heap.size, 0, none⟩ 1 1 [.int .i64 (x : Int)] rfl rfl news_at (fun u hu => by simp at hu; subst hu; rfl) (by unfold maxLen; omega) (by omega) (by simp; omega) ?_)
              intro v' w1 hown' hgrow _
              rw [← HL.out] at hown' hgrow
              have R := holds_new hf.out hown' hgrow
              rw [← Hnew.out] at R
              have HR := Away.mk R
              clear hown' hgrow R
              go_wp2_with fail
              go_roundw
              case rel => exact ⟨x + 1, by omega, by omega, by go_num, HR, by rw [Hnew.out, List.length_append, HL.out]; exact hlt⟩
              case measure => simp [intOf]; omega
    · obtain rfl : n = L := by omega
      have Hpr : Away (pl x = pr (n : Int)) := ⟨pr_of hx2 hx5 (by intro _; rw [HL.out]; simp) (by intro h; rw [HL.out]; omega)⟩
      rw [Hpr.out] at hf HL
      rcases holds_open hf.out with ⟨rfl, hnil⟩ | ⟨g, cap, rfl, hg1, hg2, hcap, hcell⟩
      · have h0 := HL.out
        rw [hnil] at h0
        simp at h0
        omega
      · rw [HL.out] at hf ⊢
        clear hcell hcap
        go_wp2_with fail
        go_ret
        exact ⟨_, rfl, hf.out⟩

set_option maxRecDepth 100000 in
set_option maxHeartbeats 1000000 in
theorem rprimes_over (n : Int) (h1 : 100 < n) (w : World) :
    Calls Tryd.prog 26 #[.int .i64 n] w fun e w' => ∃ v, e = .returned v ∧ Holds w (pr n) v w' := by
  obtain ⟨i0, hi, hz0, hz1, hz2⟩ := info_parts infoInt
  have HI := Away.mk (And.intro hi (And.intro hz0 (And.intro hz1 hz2)))
  clear hi hz0 hz1 hz2
  have hst := holds_start w
  rw [← pl_two] at hst
  have Hst := Away.mk hst
  clear hst
  go_enter Tryd.func26, Tryd.ntmps26
  go_wp2_with fail
  go_loopw [3, 4] (fun v i wr => ∃ x : Nat, 2 ≤ x ∧ x ≤ 542 ∧ i = .int .i64 x ∧ Away (Holds w (pl x) v wr) ∧ (pl x).length ≤ 100) (fun _ i _ => 542 - (intOf i).toNat)
  case atStart => exact ⟨2, by decide, by decide, rfl, Hst, by rw [pl_two]; exact Nat.zero_le _⟩
  case round =>
    obtain ⟨x, hx2, hx5, rfl, hf, hle⟩ := hrel
    clear Hst
    obtain ⟨L, HL⟩ := ex_eq (pl x).length
    rw [HL.out] at hle
    by_cases hlt : L < 100
    · have hx : x < 542 := pl_room hx5 (by rw [HL.out]; omega)
      obtain ⟨xs, Hxs⟩ := ex_eq (pl x)
      have Hpos : Away (∀ p ∈ xs, 2 ≤ p ∧ p ≤ 541) := ⟨fun p hp => pl_pos (x := x) (by rw [Hxs.out]; exact hp)⟩
      rw [Hxs.out] at hf HL
      have hL := pl_le x
      rw [Hxs.out, HL.out] at hL
      have hsz := holds_lt hf.out
      rcases holds_open hf.out with ⟨rfl, rfl⟩ | ⟨g, cap, rfl, hg1, hg2, hcap, hcell⟩
      · have Hnew : Away (pl (x + 1) = [] ++ [x]) := ⟨by rw [pl_new hx2 hx (by rw [Hxs.out]; rfl), Hxs.out]⟩
        obtain rfl : L = 0 := HL.out.symm
        go_wp2_with fail
        refine wp_loop_rounds 1 ?_
        rw [rounds_succ]
        go_wp2_with (at_builtin; refine wpList_append_own _ rfl _ _ 57 rfl w.heap.size 3 i0 (.int .i64 0) 1 8 Tryd.underlying57 HI.out.1 HI.out.2.1 HI.out.2.2.1 HI.out.2.2.2 rfl (by decide) _ _ _ rfl (hf.out.1.alloc _) ⟨wr.heap.size, 0, none⟩ 1 1 [.int .i64 (x : Int)] rfl rfl news_at (fun u hu => by simp at hu; subst hu; rfl) (by simp [maxLen]) (by simp) (by simp; omega) ?_)
        intro v' w1 hown' hgrow _
        have R := holds_new hf.out hown' hgrow
        rw [← Hnew.out] at R
        have HR := Away.mk R
        clear hown' hgrow R
        go_wp2_with fail
        go_roundw
        case rel => exact ⟨x + 1, by omega, by omega, by go_num, HR, by rw [Hnew.out]; exact hlt⟩
        case measure => simp [intOf]; omega
      · rw [HL.out] at hcap hcell ⊢
        have Hown := Away.mk hf.out.1
        rw [HL.out] at Hown
        have HC := Away.mk hcell
        clear hcell
        go_wp2_with fail
        go_loop [5, 17] (fun b i => ∃ (k : Nat) (c : Bool), k ≤ L ∧ i = .int .i64 k ∧ b = .bool c ∧ Away (c = !(dvd (xs.take k) x))) (fun _ i => L - (intOf i).toNat)
        case atStart => exact ⟨0, true, Nat.zero_le _, rfl, rfl, ⟨rfl⟩⟩
        case round =>
          obtain ⟨k, c, hk, rfl, rfl, Hc⟩ := hrel
          by_cases hkl : k < L
          · have hcell := HC.out k hkl
            have hb : 2 ≤ xs.getD k 0 ∧ xs.getD k 0 ≤ 541 := Hpos.out _ (by
              rw [List.getD_eq_getElem?_getD, List.getElem?_eq_getElem (by rw [HL.out]; exact hkl)]; exact List.getElem_mem _)
            have Hs := Away.mk (take_snoc (l := xs) (k := k) (by rw [HL.out]; exact hkl))
            obtain ⟨p, hpp⟩ : ∃ p, xs.getD k 0 = p := ⟨_, rfl⟩
            rw [hpp] at hcell hb Hs
            clear hpp
            cases c
            · have Hn2 : Away (false = !(dvd (xs.take (k + 1)) x)) := ⟨by
                have h := Hc.out
                rw [Hs.out, dvd_snoc]
                revert h
                cases dvd (xs.take k) x <;> simp⟩
              go_wp2_with fail
              go_round
              case rel => exact ⟨k + 1, false, by omega, by go_num, rfl, Hn2⟩
              case measure => simp [intOf]; omega
            · by_cases hm : x % p = 0
              · have b1 : ((x : Int) % (p : Int) != 0) = false := bne_eq_false_iff_eq.2 (by exact_mod_cast hm)
                have Hn2 : Away (false = !(dvd (xs.take (k + 1)) x)) := ⟨by rw [Hs.out, dvd_snoc, hm]; simp⟩
                clear hm
                go_wp2_with fail
                go_round
                case rel => exact ⟨k + 1, false, by omega, by go_num, rfl, Hn2⟩
                case measure => simp [intOf]; omega
              · have b1 : ((x : Int) % (p : Int) != 0) = true := bne_iff_ne.2 (by exact_mod_cast hm)
                have Hn2 : Away (true = !(dvd (xs.take (k + 1)) x)) := ⟨by
                  have h := Hc.out
                  rw [Hs.out, dvd_snoc, beq_false_of_ne hm, Bool.or_false]
                  exact h⟩
                clear hm
                go_wp2_with fail
                go_round
                case rel => exact ⟨k + 1, true, by omega, by go_num, rfl, Hn2⟩
                case measure => simp [intOf]; omega
          · obtain rfl : k = L := by omega
            have Hd : Away (c = !(dvd xs x)) := ⟨by rw [Hc.out, List.take_of_length_le (by rw [HL.out]; exact Nat.le_refl _)]⟩
            cases c
            · have Hnew : Away (pl (x + 1) = xs) := ⟨by rw [pl_hit hx2 hx (by rw [Hxs.out]; have := Hd.out; revert this; cases dvd xs x <;> simp), Hxs.out]⟩
              rw [HL.out] at hf
              have R := hf.out
              rw [← Hnew.out] at R
              have HR := Away.mk R
              clear R
              go_wp2_with fail
              go_roundw
              case rel => exact ⟨x + 1, by omega, by omega, by go_num, HR, by rw [Hnew.out, HL.out]; exact hle⟩
              case measure => simp [intOf]; omega
            · have Hnew : Away (pl (x + 1) = xs ++ [x]) := ⟨by rw [pl_new hx2 hx (by rw [Hxs.out]; have := Hd.out; revert this; cases dvd xs x <;> simp), Hxs.out]⟩
              go_wp2_with (at_builtin; refine wpList_append_own _ rfl _ _ 57 rfl w.heap.size 3 i0 (.int .i64 0) 1 8 Tryd.underlying57 HI.out.1 HI.out.2.1 HI.out.2.2.1 HI.out.2.2.2 rfl (by decide) _ _ _ rfl (Hown.out.alloc _) ⟨wr.heap.size, 0, none⟩ 1 1 [.int .i64 (x : Int)] rfl rfl news_at (fun u hu => by simp at hu; subst hu; rfl) (by unfold maxLen; omega) (by omega) (by simp; omega) ?_)
              intro v' w1 hown' hgrow _
              rw [← HL.out] at hown' hgrow
              have R := holds_new hf.out hown' hgrow
              rw [← Hnew.out] at R
              have HR := Away.mk R
              clear hown' hgrow R
              go_wp2_with fail
              go_roundw
              case rel => exact ⟨x + 1, by omega, by omega, by go_num, HR, by rw [Hnew.out, List.length_append, HL.out]; exact hlt⟩
              case measure => simp [intOf]; omega
    · obtain rfl : L = 100 := by omega
      have Hpr : Away (pl x = pr n) := ⟨pr_of hx2 hx5 (by intro _; rw [HL.out]; omega) (by intro h; rw [HL.out])⟩
      rw [Hpr.out] at hf HL
      rcases holds_open hf.out with ⟨rfl, hnil⟩ | ⟨g, cap, rfl, hg1, hg2, hcap, hcell⟩
      · have h0 := HL.out
        rw [hnil] at h0
        simp at h0
      · rw [HL.out] at hf ⊢
        clear hcell hcap
        go_wp2_with fail
        go_ret
        exact ⟨_, rfl, hf.out⟩

set_option maxRecDepth 100000 in
set_option maxHeartbeats 400000 in
theorem rprimes_low (n : Int) (w : World) (h : n ≤ 0) :
    Calls Tryd.prog 26 #[.int .i64 n] w fun e w' => ∃ v, e = .returned v ∧ Holds w (pr n) v w' := by
  have hp : pr n = [] := by unfold pr; rw [show n.toNat = 0 by omega]; rfl
  have hst := holds_start w
  rw [← hp] at hst
  have Hst := Away.mk hst
  clear hst hp
  go_enter Tryd.func26, Tryd.ntmps26
  go_wp2_with fail
  refine wp_loop_rounds 1 ?_
  rw [rounds_succ]
  go_wp2_with fail
  go_ret
  exact ⟨_, rfl, Hst.out⟩

theorem rprimes_any (n : Int) (w : World) :
    Calls Tryd.prog 26 #[.int .i64 n] w fun e w' => ∃ v, e = .returned v ∧ Holds w (pr n) v w' := by
  by_cases h : n ≤ 0
  · exact rprimes_low n w h
  by_cases h1 : 100 < n
  · exact rprimes_over n h1 w
  obtain ⟨m, rfl⟩ := Int.eq_ofNat_of_zero_le (show 0 ≤ n by omega)
  exact rprimes_in m (by omega) (by omega) w

end Go.Proofs.YtjdcmnmnjkkpiaaDoor.primes

namespace Go.Proofs.YtjdcmnmnjkkpiaaDoor.power
open Go.RowKit
open Go.Proofs.YtjdcmnmnjkkpiaaDoor.tabm

/-! ### The reference -/
set_option maxHeartbeats 400000 in
theorem rpower_nn (x n : Nat) (w : World) (hx : x ≤ 9223372036854775807) (hn : n ≤ 9223372036854775807) :
    Calls Tryd.prog 30 #[.int .i64 x, .int .i64 n] w fun e w' => e = .returned (.int .i64 (pw x n)) ∧ w = w' := by
  have hst := pwk_start x n
  go_enter Tryd.func30, Tryd.ntmps30
  go_wp2
  go_loop [1, 5, 0] (fun n' r s => Keeps x n n' r s) (fun n' _ _ => (intOf n').toNat)
  case atStart => exact ⟨n, 1, x % 8380417, hn, by decide, Nat.mod_lt _ (by decide), rfl, rfl, by first | rfl | exact congrArg (Value.int .i64) (by norm_cast), hst⟩
  case round =>
    obtain ⟨m, R, S, hm, hR, hS, rfl, rfl, rfl, hk⟩ := hrel
    have hRS := mul_bd R S hR hS
    have hSS := mul_bd S S hS hS
    by_cases h0 : m = 0
    · subst h0
      go_wp2
      go_ret
      exact ⟨ret_int (congrArg Nat.cast (pwk_end x n R S hk hR)), rfl⟩
    · by_cases h1 : m % 2 = 1
      · have ho := pwk_odd x n R S m hk h1
        have hb : (bits .and .i64 (m : Int) 1 == 1) = true := by rw [and_one_i64 m hm]; exact beq_iff_eq.2 (by omega)
        clear h1 hk hst
        go_wp2
        go_round
        case rel => exact ⟨m / 2, R * S % 8380417, S * S % 8380417, by omega, Nat.mod_lt _ (by decide), Nat.mod_lt _ (by decide), cast_half m, cast_mm R S, cast_mm S S, ho⟩
        case measure => simp [intOf]; omega
      · have ho := pwk_even x n R S m hk (by omega)
        have hb : (bits .and .i64 (m : Int) 1 == 1) = false := by rw [and_one_i64 m hm]; exact beq_eq_false_iff_ne.2 (by omega)
        clear h1 hk hst
        go_wp2
        go_round
        case rel => exact ⟨m / 2, R, S * S % 8380417, by omega, hR, Nat.mod_lt _ (by decide), cast_half m, rfl, cast_mm S S, ho⟩
        case measure => simp [intOf]; omega
theorem rpower_neg (x n : Int) (w : World) (h : x < 0 ∨ n < 0) :
    Calls Tryd.prog 30 #[.int .i64 x, .int .i64 n] w fun e w' => e = .returned (.int .i64 0) ∧ w = w' := by
  by_cases h1 : x < 0
  · clear h
    go_enter Tryd.func30, Tryd.ntmps30
    go_wp2
    go_ret
    exact ⟨rfl, rfl⟩
  · have h2 : n < 0 := by omega
    clear h
    go_enter Tryd.func30, Tryd.ntmps30
    go_wp2
    go_ret
    exact ⟨rfl, rfl⟩
theorem rpower_any (x n : Int) (w : World) (hx : x ≤ 9223372036854775807) (hn : n ≤ 9223372036854775807) :
    Calls Tryd.prog 30 #[.int .i64 x, .int .i64 n] w fun e w' => e = .returned (.int .i64 (pwI x n)) ∧ w = w' := by
  unfold pwI
  by_cases h : x < 0 ∨ n < 0
  · rw [if_pos h]
    exact rpower_neg x n w h
  · rw [if_neg h]
    obtain ⟨a, rfl⟩ := Int.eq_ofNat_of_zero_le (show 0 ≤ x by omega)
    obtain ⟨b, rfl⟩ := Int.eq_ofNat_of_zero_le (show 0 ≤ n by omega)
    rw [Int.toNat_natCast, Int.toNat_natCast]
    exact rpower_nn a b w (by omega) (by omega)
end Go.Proofs.YtjdcmnmnjkkpiaaDoor.power

namespace Go.Proofs.YtjdcmnmnjkkpiaaDoor.rounds
open Go.RowKit
open Go.Proofs.YtjdcmnmnjkkpiaaDoor.tabt Go.Proofs.YtjdcmnmnjkkpiaaDoor.arr
open Go.Proofs.YtjdcmnmnjkkpiaaDoor.power (and_one_i64)

set_option maxHeartbeats 1000000 in
theorem rrounds_any (w : World) :
    Calls Tryd.prog 28 #[] w fun e w' => e = .returned (.agg (LK .u64 (rl 168))) ∧ Below w.heap.size w w' := by
  go_enter Tryd.func28, Tryd.ntmps28
  go_wp2_with fail
  obtain ⟨Z, HZ⟩ := ex_eq (#[.int .u64 0, .int .u64 0, .int .u64 0, .int .u64 0, .int .u64 0, .int .u64 0, .int .u64 0, .int .u64 0, .int .u64 0, .int .u64 0, .int .u64 0, .int .u64 0, .int .u64 0, .int .u64 0, .int .u64 0, .int .u64 0, .int .u64 0, .int .u64 0, .int .u64 0, .int .u64 0, .int .u64 0, .int .u64 0, .int .u64 0, .int .u64 0] : Array Value)
  rw [HZ.out]
  have HZ2 : Away (Z = LK .u64 (rl 0)) := ⟨HZ.out.symm⟩
  clear HZ
  go_loopw [2, 5] (fun r i wr => ∃ (k n R : Nat) (ds : List Nat), k ≤ 24 ∧ i = .int .i64 k ∧ r = .int .i64 R ∧ Away (lf (7 * k) = R) ∧ Away (rl (7 * k) = ds) ∧ wr = ((w.alloc (.cells Z 30)).alloc (.cells (LK .u64 ds) 30)).drewN n) (fun _ i _ => 24 - (intOf i).toNat)
  case atStart => exact ⟨0, 0, 1, rl 0, by decide, rfl, rfl, ⟨rfl⟩, ⟨rfl⟩, by rw [← HZ2.out]; rfl⟩
  case round =>
    obtain ⟨k, n, R, ds, hk, rfl, rfl, Hr, Hds, rfl⟩ := hrel
    by_cases hlt : k < 24
    · go_wp2_with fail
      go_loopw [2, 8] (fun r i wr => ∃ (m n R : Nat) (ds : List Nat), m ≤ 7 ∧ i = .int .i64 m ∧ r = .int .i64 R ∧ Away (lf (7 * k + m) = R) ∧ Away (rl (7 * k + m) = ds) ∧ wr = ((w.alloc (.cells Z 30)).alloc (.cells (LK .u64 ds) 30)).drewN n) (fun _ i _ => 7 - (intOf i).toNat)
      case atStart => exact ⟨0, n, R, ds, by decide, rfl, rfl, Hr, Hds, rfl⟩
      case round =>
        clear Hr Hds
        obtain ⟨m, n, R, ds, hm, rfl, rfl, Hr, Hds, rfl⟩ := hrel
        by_cases hlm : m < 7
        · have hR := lf_le (7 * k + m)
          have hd := rl_getD_lt (7 * k + m) k
          have hlen := rl_length (7 * k + m)
          have ho := rl_odd (i := k) hlm
          have he := rl_even (t := 7 * k + m)
          have hov := lf_over (t := 7 * k + m)
          have hin := lf_in (t := 7 * k + m)
          rw [Hr.out] at hR ho he hov hin
          rw [Hds.out] at hd hlen ho he
          have hxor := xor_tab R hR
          have hget := lk_get .u64 ds k (by rw [hlen]; exact hlt)
          obtain ⟨d, hdd⟩ : ∃ d, ds.getD k 0 = d := ⟨_, rfl⟩
          rw [hdd] at hd hget ho
          have HO := Away.mk ho
          have HE := Away.mk he
          have HV := Away.mk hov
          have HN := Away.mk hin
          have Hlen := Away.mk hlen
          clear ho he hov hin hdd hlen
          have hset := lk_setI .u64 ds k (d ||| 2 ^ (2 ^ m - 1)) _ (or_shift d m hd hlm)
          by_cases h1 : R % 2 = 1
          · have hb : (bits .and .i64 (R : Int) 1 == 1) = true := by rw [and_one_i64 R (by omega)]; exact beq_iff_eq.2 (by omega)
            have Hn := Away.mk (HO.out h1)
            clear h1
            by_cases h2 : 255 < R * 2
            · have Hv := Away.mk (HV.out h2)
              have hov : (bits .and .i64 ((R : Int) * 2) 256 != 0) = true := by rw [and_tab R hR]; exact decide_eq_true h2
              go_wp2_with fail
              go_wp2_with fail
              go_roundw
              case rel => exact ⟨m + 1, n, _, _, by omega, by go_num, rfl, Hv, Hn, rfl⟩
              case measure => simp [intOf]; omega
            · have Hv := Away.mk (HN.out h2)
              have hov : (bits .and .i64 ((R : Int) * 2) 256 != 0) = false := by rw [and_tab R hR]; exact decide_eq_false h2
              go_wp2_with fail
              go_wp2_with fail
              go_roundw
              case rel => exact ⟨m + 1, n, _, _, by omega, by go_num, val_int (by omega), Hv, Hn, rfl⟩
              case measure => simp [intOf]; omega
          · have hb : (bits .and .i64 (R : Int) 1 == 1) = false := by rw [and_one_i64 R (by omega)]; exact beq_eq_false_iff_ne.2 (by omega)
            have Hn := Away.mk (HE.out h1)
            clear h1
            by_cases h2 : 255 < R * 2
            · have Hv := Away.mk (HV.out h2)
              have hov : (bits .and .i64 ((R : Int) * 2) 256 != 0) = true := by rw [and_tab R hR]; exact decide_eq_true h2
              go_wp2_with fail
              go_roundw
              case rel => exact ⟨m + 1, n, _, _, by omega, by go_num, rfl, Hv, Hn, rfl⟩
              case measure => simp [intOf]; omega
            · have Hv := Away.mk (HN.out h2)
              have hov : (bits .and .i64 ((R : Int) * 2) 256 != 0) = false := by rw [and_tab R hR]; exact decide_eq_false h2
              go_wp2_with fail
              go_roundw
              case rel => exact ⟨m + 1, n, _, _, by omega, by go_num, val_int (by omega), Hv, Hn, rfl⟩
              case measure => simp [intOf]; omega
        · obtain rfl : m = 7 := by omega
          have Hr2 : Away (lf (7 * (k + 1)) = R) := ⟨Hr.out⟩
          have Hd2 : Away (rl (7 * (k + 1)) = ds) := ⟨Hds.out⟩
          go_wp2_with fail
          go_roundw
          case rel => exact ⟨k + 1, n, R, ds, by omega, by go_num, rfl, Hr2, Hd2, rfl⟩
          case measure => simp [intOf]; omega
    · obtain rfl : k = 24 := by omega
      have Hd2 : Away (ds = rl 168) := ⟨Hds.out.symm⟩
      have hsz : (LK .u64 ds).size = 24 := by rw [lk_size, Hd2.out, rl_length]
      have hzs : Z.size = 24 := by rw [HZ2.out, lk_size, rl_length]
      obtain ⟨W, hW⟩ : ∃ W, ((w.alloc (.cells Z 30)).alloc (.cells (LK .u64 ds) 30)).drewN n = W := ⟨_, rfl⟩
      have hb : Below w.heap.size w W := by rw [← hW]; exact below_drewN (((Below.refl _ _).alloc (Nat.le_refl _) _).alloc (by simp) _) n
      have g1 : W.heap[w.heap.size + 1]? = some (.cells (LK .u64 ds) 30 (0, 0)) := by rw [← hW, heap_drewN', heap_at _ _ _ (by simp)]
      have g0 : W.heap[w.heap.size]? = some (.cells Z 30 (0, 0)) := by rw [← hW, heap_drewN', heap_past _ _ _ (by simp), heap_at _ _ _ rfl]
      rw [hW]
      have Hsz := Away.mk hsz
      have Hzs := Away.mk hzs
      clear hW hsz hzs
      go_wp2_with (first | (refine wpList_load_row rfl 30 _ rfl _ rfl 30 _ (0, 0) _ g1 Tryd.underlying30 rfl (by rw [Hsz.out]; exact zrounds) ?_) | (refine wpList_store_row rfl 30 _ _ rfl _ _ rfl rfl 30 _ g0 (by rw [Hsz.out]; exact zrounds) (by rw [Hsz.out]; exact Hzs.out) (lk_one _ _) ?_))
      refine bodyPost_ret_by (v := .agg (LK .u64 ds)) (results_cell_row rfl _ _ w.heap.size 30 _ (0, 0) _ rfl (setRow_heap _ _ _ _ _ _ g0) Tryd.underlying30 rfl (by rw [Hsz.out]; exact zrounds)) rfl ?_
      exact ⟨by rw [Hd2.out], hb.trans (below_setRow _ _ _ (Nat.le_refl _))⟩
end Go.Proofs.YtjdcmnmnjkkpiaaDoor.rounds

namespace Go.Proofs.YtjdcmnmnjkkpiaaDoor.turns
open Go.RowKit
open Go.Proofs.YtjdcmnmnjkkpiaaDoor.tabt Go.Proofs.YtjdcmnmnjkkpiaaDoor.arr

set_option maxRecDepth 100000 in
set_option maxHeartbeats 1000000 in
theorem rturns_any (w : World) :
    Calls Tryd.prog 29 #[] w fun e w' => e = .returned (.agg (LK .i64 (tl 24))) ∧ Below w.heap.size w w' := by
  go_enter Tryd.func29, Tryd.ntmps29
  go_wp2_with fail
  obtain ⟨Z, HZ⟩ := ex_eq (#[.int .i64 0, .int .i64 0, .int .i64 0, .int .i64 0, .int .i64 0, .int .i64 0, .int .i64 0, .int .i64 0, .int .i64 0, .int .i64 0, .int .i64 0, .int .i64 0, .int .i64 0, .int .i64 0, .int .i64 0, .int .i64 0, .int .i64 0, .int .i64 0, .int .i64 0, .int .i64 0, .int .i64 0, .int .i64 0, .int .i64 0, .int .i64 0, .int .i64 0] : Array Value)
  rw [HZ.out]
  have HZ2 : Away (Z = LK .i64 (tl 0)) := ⟨HZ.out.symm⟩
  clear HZ
  go_loopw [2, 3, 5] (fun x y i wr => ∃ (k X Y : Nat), k ≤ 24 ∧ i = .int .i64 k ∧ x = .int .i64 X ∧ y = .int .i64 Y ∧ Away (xy k = (X, Y)) ∧ wr = (w.alloc (.cells Z 31)).alloc (.cells (LK .i64 (tl k)) 31)) (fun _ _ i _ => 24 - (intOf i).toNat)
  case atStart => exact ⟨0, 1, 0, by decide, rfl, rfl, rfl, ⟨rfl⟩, by rw [← HZ2.out]⟩
  case round =>
    obtain ⟨k, X, Y, hk, rfl, rfl, rfl, Hxy, rfl⟩ := hrel
    by_cases hlt : k < 24
    · have hb := xy_lt k
      rw [Hxy.out] at hb
      have hX : X < 5 := hb.1
      have hY : Y < 5 := hb.2
      have hm := mul_bd k hlt
      have e1 : ((X : Int) + 5 * (Y : Int)).toNat = X + 5 * Y := by omega
      have hget := lk_get .i64 (tl k) (X + 5 * Y) (by rw [tl_length]; omega)
      have hset := lk_setI .i64 (tl k) (X + 5 * Y) ((k + 1) * (k + 2) / 2 % 64) _ (mul_val k)
      rw [show (tl k).set (X + 5 * Y) ((k + 1) * (k + 2) / 2 % 64) = tl (k + 1) by rw [tl, Hxy.out]] at hset
      have Hn : Away (xy (k + 1) = (Y, (2 * X + 3 * Y) % 5)) := ⟨by rw [xy, Hxy.out]⟩
      clear hb
      go_wp2_with fail
      go_roundw
      case rel => exact ⟨k + 1, Y, (2 * X + 3 * Y) % 5, by omega, by go_num, rfl, val_int (by omega), Hn, rfl⟩
      case measure => simp [intOf]; omega
    · obtain rfl : k = 24 := by omega
      have hsz : (LK .i64 (tl 24)).size = 25 := by rw [lk_size, tl_length]
      have hzs : Z.size = 25 := by rw [HZ2.out, lk_size, tl_length]
      obtain ⟨W, hW⟩ : ∃ W, (w.alloc (.cells Z 31)).alloc (.cells (LK .i64 (tl 24)) 31) = W := ⟨_, rfl⟩
      have hb : Below w.heap.size w W := by rw [← hW]; exact ((Below.refl _ _).alloc (Nat.le_refl _) _).alloc (by simp) _
      have g1 : W.heap[w.heap.size + 1]? = some (.cells (LK .i64 (tl 24)) 31 (0, 0)) := by rw [← hW, heap_at _ _ _ (by simp)]
      have g0 : W.heap[w.heap.size]? = some (.cells Z 31 (0, 0)) := by rw [← hW, heap_past _ _ _ (by simp), heap_at _ _ _ rfl]
      rw [hW]
      clear hW
      have Hsz := Away.mk hsz
      have Hzs := Away.mk hzs
      clear hsz hzs
      go_wp2_with (first | (refine wpList_load_row rfl 31 _ rfl _ rfl 31 _ (0, 0) _ g1 Tryd.underlying31 rfl (by rw [Hsz.out]; exact zturns) ?_) | (refine wpList_store_row rfl 31 _ _ rfl _ _ rfl rfl 31 _ g0 (by rw [Hsz.out]; exact zturns) (by rw [Hsz.out]; exact Hzs.out) (lk_one _ _) ?_))
      refine bodyPost_ret_by (v := .agg (LK .i64 (tl 24))) (results_cell_row rfl _ _ w.heap.size 31 _ (0, 0) _ rfl (setRow_heap _ _ _ _ _ _ g0) Tryd.underlying31 rfl (by rw [Hsz.out]; exact zturns)) rfl ?_
      exact ⟨rfl, hb.trans (below_setRow _ _ _ (Nat.le_refl _))⟩
end Go.Proofs.YtjdcmnmnjkkpiaaDoor.turns

namespace Go.Proofs.YtjdcmnmnjkkpiaaDoor.zetas
open Go.RowKit
open Go.Proofs.YtjdcmnmnjkkpiaaDoor.tabm Go.Proofs.YtjdcmnmnjkkpiaaDoor.tabt Go.Proofs.YtjdcmnmnjkkpiaaDoor.arr

set_option maxRecDepth 1000000 in
theorem mir_tab : ∀ n : Nat, n < 256 → ∀ k : Nat, k < 8 → bits .or .i64 ((rvTo n k : Nat) : Int) (wrap64 (bits .and .i64 ((n : Int) / 2 ^ k) 1 * 2 ^ (7 - k))) = ((rvTo n (k + 1) : Nat) : Int) := by decide +kernel
set_option maxRecDepth 100000 in
set_option maxHeartbeats 1000000 in
theorem mirrored_any (n : Nat) (w : World) (h : n < 256) :
    Calls Tryd.prog 31 #[.int .i64 n] w fun e w' => e = .returned (.int .i64 (rv n : Nat)) ∧ w = w' := by
  go_enter Tryd.func31, Tryd.ntmps31
  go_wp2_with fail
  go_loop [3, 5] (fun r i => ∃ (k R : Nat), k ≤ 8 ∧ i = .int .i64 k ∧ r = .int .i64 R ∧ Away (rvTo n k = R)) (fun _ i => 8 - (intOf i).toNat)
  case atStart => exact ⟨0, 0, by decide, rfl, rfl, ⟨rfl⟩⟩
  case round =>
    obtain ⟨k, R, hk, rfl, rfl, Hr⟩ := hrel
    by_cases hlt : k < 8
    · have ht := mir_tab n h k hlt
      rw [Hr.out] at ht
      have Hn : Away (rvTo n (k + 1) = rvTo n (k + 1)) := ⟨rfl⟩
      go_wp2_with fail
      go_round
      case rel => exact ⟨k + 1, rvTo n (k + 1), by omega, by go_num, rfl, Hn⟩
      case measure => simp [intOf]; omega
    · obtain rfl : k = 8 := by omega
      go_wp2_with fail
      go_ret
      exact ⟨ret_int (congrArg Nat.cast Hr.out.symm), rfl⟩
end Go.Proofs.YtjdcmnmnjkkpiaaDoor.zetas

namespace Go.Proofs.YtjdcmnmnjkkpiaaDoor.rmake
open Go.RowKit
open Go.Proofs.YtjdcmnmnjkkpiaaDoor.tabm Go.Proofs.YtjdcmnmnjkkpiaaDoor.tabd Go.Proofs.YtjdcmnmnjkkpiaaDoor.primm Go.Proofs.YtjdcmnmnjkkpiaaDoor.tabt Go.Proofs.YtjdcmnmnjkkpiaaDoor.arr Go.Proofs.YtjdcmnmnjkkpiaaDoor.tabv Go.Proofs.YtjdcmnmnjkkpiaaDoor.built Go.Proofs.YtjdcmnmnjkkpiaaDoor.primes
open Go.Proofs.YtjdcmnmnjkkpiaaDoor.make (Pc pc_of rootV_2 rootV_3)
open Go.Proofs.YtjdcmnmnjkkpiaaDoor.root (rootV)

/-- the tables' block as it is laid: nothing is written yet -/
theorem ms_zero {w : World} {Z : Array Value} (hZ : Z.size = 465) : Ms 34 w (w.heap.size + 1) (fun _ => False) ((w.alloc (.cells Z 34)).alloc (.cells Z 34)) := by
  have hg := heap_at (w.alloc (.cells Z 34)) (.cells Z 34) (w.heap.size + 1) (by simp)
  have hc : ∀ i, i < 465 → ((w.alloc (.cells Z 34)).alloc (.cells Z 34)).cell? ⟨w.heap.size + 1, i, none⟩ = Z[i]? := fun i _ => cell_of_row _ _ i Z _ (0, 0) hg
  exact ⟨⟨Z, hZ, by rw [heap_past _ _ _ (by simp), heap_at _ _ _ rfl]⟩, fun i hi => ⟨⟨Z[i], by rw [hc i hi, Array.getElem?_eq_getElem (by omega)]⟩, frozen_of_row _ _ i Z _ hg⟩, fun i hi hS => hS.elim, ⟨by omega, by simp⟩, ((Below.refl _ _).alloc (Nat.le_refl _) _).alloc (by simp) _⟩
theorem ms_there {T : TypeId} {w wr : World} {g : Nat} {S : Nat → Prop} (h : Ms T w g S wr) (o n : Nat) (ho : o + n ≤ 465) : wr.there g o n := fun j hj => by
  obtain ⟨⟨v, hv⟩, hf⟩ := h.th (o + j) (by omega)
  exact ⟨by rw [hv]; rfl, hf⟩
theorem rv_all : ∀ j (hj : j < (LK .u64 (rl 168)).toList.length), (LK .u64 (rl 168)).toList[j] = tv (160 + j) := by
  intro j hj
  have hj2 : j < 24 := by rw [Array.length_toList, lk_size, rl_length] at hj; exact hj
  rw [lk_list, tv_rounds j hj2]
theorem uv_all : ∀ j (hj : j < (LK .i64 (tl 24)).toList.length), (LK .i64 (tl 24)).toList[j] = tv (184 + j) := by
  intro j hj
  have hj2 : j < 25 := by rw [Array.length_toList, lk_size, tl_length] at hj; exact hj
  rw [lk_list, tv_turns j hj2]
def Q1 (k i : Nat) : Prop := (72 ≤ i ∧ i < 72 + k) ∨ (i < 64 ∧ i < k) ∨ (152 ≤ i ∧ i < 160 ∧ i < 152 + k) ∨ (64 ≤ i ∧ i < 72 ∧ i < 64 + k)
def Q2 (k i : Nat) : Prop := i < 209 + k

set_option maxRecDepth 100000 in
set_option maxHeartbeats 4000000 in
theorem make_any (w : World) :
    Calls Tryd.prog 7 #[] w fun e w' => e = .returned (.agg TA) ∧ Below w.heap.size w w' := by
  obtain ⟨hz, hsize⟩ := zero_of_info infoT
  obtain ⟨Z, HZ⟩ := ex_eq TZ
  rw [HZ.out] at hz
  have HZs : Away (Z.size = 465) := ⟨by rw [← HZ.out]; exact tz_size⟩
  have Hsize := Away.mk hsize
  clear hsize
  obtain ⟨R, HR⟩ := ex_eq (LK .u64 (rl 168))
  obtain ⟨U, HU⟩ := ex_eq (LK .i64 (tl 24))
  have Rs : Away (R.size = 24) := ⟨by rw [← HR.out, lk_size, rl_length]⟩
  have Us : Away (U.size = 25) := ⟨by rw [← HU.out, lk_size, tl_length]⟩
  have Ro : Away (R.all (·.oneCell') = true) := ⟨by rw [← HR.out]; exact lk_one _ _⟩
  have Uo : Away (U.all (·.oneCell') = true) := ⟨by rw [← HU.out]; exact lk_one _ _⟩
  have Rv : Away (∀ j (hj : j < R.toList.length), R.toList[j] = tv (160 + j)) := ⟨by rw [← HR.out]; exact rv_all⟩
  have Uv : Away (∀ j (hj : j < U.toList.length), U.toList[j] = tv (184 + j)) := ⟨by rw [← HU.out]; exact uv_all⟩
  have hms := ms_zero (w := w) HZs.out
  have Hms := Away.mk hms
  clear hms
  go_enter Tryd.func7, Tryd.ntmps7
  go_wp2_with fail
  clear hz
  refine (rprimes_any 80 _).mono ?_
  rintro e w5 ⟨v, rfl, hh⟩
  obtain ⟨gp, cap, rfl, hpc, hcap⟩ := pc_of (n := 80) (g := w.heap.size + 1) (by decide) (by decide) hh (by simp)
  have Hms5 : Away (Ms 34 w (w.heap.size + 1) (Q1 0) w5) := ⟨(Hms.out.call hh.2).mono (by unfold Q1; omega)⟩
  have Hpc := Away.mk hpc
  obtain ⟨g, Hg⟩ := ex_eq (w.heap.size + 1)
  rw [Hg.out] at Hms5 Hpc ⊢
  clear hh hpc Hms
  go_wp2_with fail
  go_loopw [7] (fun i wr => ∃ k : Nat, k ≤ 80 ∧ i = .int .i64 k ∧ Away (Ms 34 w g (Q1 k) wr) ∧ Away (Pc gp 80 g wr)) (fun i _ => 80 - (intOf i).toNat)
  case atStart => exact ⟨0, by decide, rfl, Hms5, Hpc⟩
  case round =>
    obtain ⟨k, hk, rfl, Hm, Hp⟩ := hrel
    clear Hms5 Hpc
    by_cases hlt : k < 80
    · skip
      have hpk := Hp.out.cs k hlt
      have Hr := Away.mk (rootV_3 k)
      have Hr2 := Away.mk (rootV_2 k)
      have V72 := Away.mk (tv_large k hlt)
      have V0 := Away.mk (tv_small k)
      have V152 := Away.mk (tv_lstart k)
      have V64 := Away.mk (tv_sstart k)
      have hra := r3_lt k
      have hrb := r2_lt k
      obtain ⟨q, hq⟩ : ∃ q, ph.getD k 0 = q := ⟨_, rfl⟩
      rw [hq] at hpk Hr Hr2
      obtain ⟨a, ha⟩ : ∃ a, r3 k = a := ⟨_, rfl⟩
      obtain ⟨b, hb⟩ : ∃ b, r2 k = b := ⟨_, rfl⟩
      rw [ha] at Hr V72 V0 hra
      rw [hb] at Hr2 V152 V64 hrb
      clear hq ha hb
      go_wp2_with fail
      refine (rroot.root_any q 3 _).mono ?_
      rintro e w6 ⟨rfl, hb6⟩
      rw [Hr.out]
      have Hm6 := Away.mk (Hm.out.call hb6)
      have Hp6 := Away.mk ((Hp.out.call hb6).set (72 + k) (.int .u64 (a : Int)))
      obtain ⟨⟨old, hold⟩, hfz⟩ := Hm6.out.th (72 + k) (by omega)
      have Hs1 := Away.mk (Hm6.out.set (72 + k) (by omega) V72.out.symm)
      have hn1 := World.cell?_setCell_same w6 ⟨g, 72 + k, none⟩ (.int .u64 (a : Int)) hold
      clear hb6 hpk hlt
      by_cases h64 : k < 64
      · obtain ⟨⟨old2, hold2⟩, hfz2⟩ := Hm6.out.th k (by omega)
        have hn2 : (w6.setCell ⟨g, 72 + k, none⟩ (.int .u64 (a : Int))).cell? ⟨g, k, none⟩ = some old2 := by
          rw [World.cell?_setCell_other _ _ _ _ (by intro e2; injection e2; omega)]; exact hold2
        have Hs2 := Away.mk (Hs1.out.set k (by omega) (v := .int .u32 ((a : Int) / 4294967296)) (by rw [V0.out h64]; exact val_int (by omega)))
        have Hp7 := Away.mk (Hp6.out.set k (.int .u32 ((a : Int) / 4294967296)))
        by_cases h8 : k < 8
        · go_wp2_with fail
          refine (rroot.root_any q 2 _).mono ?_
          rintro e w7 ⟨rfl, hb7⟩
          rw [Hr2.out]
          have Hm7 := Away.mk (Hs2.out.call hb7)
          have Hp8 := Away.mk (((Hp7.out.call hb7).set (152 + k) (.int .u64 (b : Int))).set (64 + k) (.int .u32 ((b : Int) / 4294967296)))
          clear hold hfz hn1 hold2 hfz2 hn2 hb7
          obtain ⟨⟨old3, hold3⟩, hfz3⟩ := Hm7.out.th (152 + k) (by omega)
          obtain ⟨⟨old4, hold4⟩, hfz4⟩ := Hm7.out.th (64 + k) (by omega)
          have hn3 := World.cell?_setCell_same w7 ⟨g, 152 + k, none⟩ (.int .u64 (b : Int)) hold3
          have hn4 : (w7.setCell ⟨g, 152 + k, none⟩ (.int .u64 (b : Int))).cell? ⟨g, 64 + k, none⟩ = some old4 := by
            rw [World.cell?_setCell_other _ _ _ _ (by intro e2; injection e2; omega)]; exact hold4
          have Hs4 := Away.mk ((Hm7.out.set (152 + k) (by omega) (V152.out h8).symm).set (64 + k) (by omega) (v := .int .u32 ((b : Int) / 4294967296)) (by rw [V64.out h8]; exact val_int (by omega)))
          go_wp2_with fail
          go_roundw
          case rel => exact ⟨k + 1, by omega, by go_num, ⟨Hs4.out.mono (by unfold Q1; omega)⟩, Hp8⟩
          case measure => simp [intOf]; omega
        · go_wp2_with fail
          go_roundw
          case rel => exact ⟨k + 1, by omega, by go_num, ⟨Hs2.out.mono (by unfold Q1; omega)⟩, Hp7⟩
          case measure => simp [intOf]; omega
      · have h8 : ¬ k < 8 := by omega
        go_wp2_with fail
        go_roundw
        case rel => exact ⟨k + 1, by omega, by go_num, ⟨Hs1.out.mono (by unfold Q1; omega)⟩, Hp6⟩
        case measure => simp [intOf]; omega
    · obtain rfl : k = 80 := by omega
      have Hm2 := Hm
      clear Hm Hp
      go_wp2_with fail
      refine (rounds.rrounds_any _).mono ?_
      rintro e w6 ⟨rfl, hb6⟩
      rw [HR.out]
      have Hm6 := Away.mk (Hm2.out.call hb6)
      have Hs6 := Away.mk (Hm6.out.sets 160 R.toList (by rw [Array.length_toList, Rs.out]; decide) Rv.out)
      have ht6 := ms_there Hm6.out 160 24 (by decide)
      clear hb6 Hm2
      go_wp2_with (refine wpList_store_mid rfl 30 _ _ rfl g 160 R rfl rfl (by rw [Rs.out]; exact ht6) (by rw [Rs.out]; exact rounds.zrounds) Ro.out ?_)
      refine (turns.rturns_any _).mono ?_
      rintro e w7 ⟨rfl, hb7⟩
      rw [HU.out]
      have Hm7 := Away.mk (Hs6.out.call hb7)
      have Hs7 := Away.mk (Hm7.out.sets 184 U.toList (by rw [Array.length_toList, Us.out]; decide) Uv.out)
      have ht7 := ms_there Hm7.out 184 25 (by decide)
      rw [show U.toList.length = 25 by rw [Array.length_toList, Us.out], show R.toList.length = 24 by rw [Array.length_toList, Rs.out]] at Hs7
      clear hb7 Hm6 ht6
      go_wp2_with (refine wpList_store_mid rfl 31 _ _ rfl g 184 U rfl rfl (by rw [Us.out]; exact ht7) (by rw [Us.out]; exact turns.zturns) Uo.out ?_)
      have Hm8 : Away (Ms 34 w g (Q2 0) (w7.setCells g 184 U.toList)) := ⟨Hs7.out.mono (by unfold Q1 Q2; omega)⟩
      clear Hm7 Hs6 Hs7 ht7
      go_loopw [49] (fun i wr => ∃ k : Nat, k ≤ 256 ∧ i = .int .i64 k ∧ Away (Ms 34 w g (Q2 k) wr)) (fun i _ => 256 - (intOf i).toNat)
      case atStart => exact ⟨0, by decide, rfl, Hm8⟩
      case round =>
        clear Hm8
        obtain ⟨k, hk, rfl, Hm⟩ := hrel
        by_cases hlt : k < 256
        · have hrl := rv_lt k hlt
          have hzt : Away (pw 1753 (rv k) = zt k) := ⟨rfl⟩
          have hvz : Away (tv (209 + k) = .int .i64 ((zt k : Nat) : Int)) := ⟨by rw [tv_zetas k hlt, zl_get 256 k hlt (by decide)]⟩
          obtain ⟨⟨old, hold⟩, hfz⟩ := Hm.out.th (209 + k) (by omega)
          have Hs := Away.mk (Hm.out.set (209 + k) (by omega) hvz.out.symm)
          obtain ⟨r, Hr⟩ := ex_eq (rv k)
          rw [Hr.out] at hrl hzt
          go_wp2_with fail
          refine (zetas.mirrored_any k _ hlt).mono ?_
          rintro e w9 ⟨rfl, rfl⟩
          rw [Hr.out]
          go_wp2_with fail
          refine (power.rpower_nn 1753 r _ (by decide) (by omega)).mono ?_
          rintro e w9 ⟨rfl, rfl⟩
          rw [hzt.out]
          go_wp2_with fail
          go_roundw
          case rel => exact ⟨k + 1, by omega, by go_num, ⟨Hs.out.mono (by unfold Q2; omega)⟩⟩
          case measure => simp [intOf]; omega
        · obtain rfl : k = 256 := by omega
          have hall : ∀ i, i < 465 → Q2 256 i := by unfold Q2; omega
          have hrg := Hm.out.range hall
          obtain ⟨Z0, hZ0, hz0⟩ := Hm.out.z
          have HZ0 := Away.mk hZ0
          have Hb := Away.mk Hm.out.be
          obtain ⟨T, HT⟩ := ex_eq TA
          have Hts : Away (T.size = 465) := ⟨by rw [← HT.out]; exact ta_size⟩
          have Hto : Away (T.all (·.oneCell') = true) := ⟨by rw [← HT.out]; exact ta_one⟩
          rw [HT.out] at hrg
          clear hall Hm hZ0
          go_wp2_with (first | (refine wpList_load_mid rfl 34 _ rfl g 0 rfl T.toList _ hrg Tryd.underlying34 rfl (by rw [Array.length_toList, Hts.out]; exact Hsize.out) ?_) | (refine wpList_store_row rfl 34 _ _ rfl _ T rfl (by simp [go_sem]) 34 _ hz0 (by rw [Hts.out]; exact Hsize.out) (by rw [Hts.out]; exact HZ0.out) Hto.out ?_))
          refine bodyPost_ret_by (v := .agg T) (results_cell_row rfl _ _ w.heap.size 34 _ (0, 0) _ rfl (setRow_heap _ _ _ _ _ _ hz0) Tryd.underlying34 rfl (by rw [Hts.out]; exact Hsize.out)) rfl ?_
          exact ⟨by rw [HT.out], Hb.out.trans (below_setRow _ _ _ (Nat.le_refl _))⟩
end Go.Proofs.YtjdcmnmnjkkpiaaDoor.rmake
