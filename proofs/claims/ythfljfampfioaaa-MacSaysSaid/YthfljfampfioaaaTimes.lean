/-
  What tables.times returns for any two long numbers: the parts of their product modulo 2 to the power 256; memory that was there before stays as it was. Conditions: each argument has eight parts of 32 bits.
-/
import Derived.Test.YthfljfampfioaaaProg
import Derived.Test.YthfljfampfioaaaArr
namespace Go.Proofs.Ythfljfampfioaaa.times
open Go.RowKit
open Go.Proofs.Ythfljfampfioaaa.tabd Go.Proofs.Ythfljfampfioaaa.arr

theorem zlong : (Try.prog.info? 93).map (·.size) = some 8 := by kernel_rfl
set_option maxHeartbeats 400000 in
theorem times_any (us vs : List Nat) (w : World) (hu : us.length = 8) (hv : vs.length = 8) (su : Small us) (sv : Small vs) :
    Calls Try.prog 73 #[.agg (LK .u32 us), .agg (LK .u32 vs)] w fun e w' => e = .returned (.agg (LK .u32 (dg 8 (val us * val vs)))) ∧ Below w.heap.size w w' := by
  have Hu := Lib.hid hu
  have Hv := Lib.hid hv
  have Su := Lib.hid su
  have Sv := Lib.hid sv
  clear hu hv su sv
  go_enter Try.func73, Try.ntmps73
  go_wp2
  obtain ⟨Z, hZ⟩ : ∃ Z, (#[.int .u32 0, .int .u32 0, .int .u32 0, .int .u32 0, .int .u32 0, .int .u32 0, .int .u32 0, .int .u32 0] : Array Value) = Z := ⟨_, rfl⟩
  rw [hZ]
  have HZ := Lib.hid hZ
  clear hZ
  have t0 := top_start us vs
  go_loopw [10] (fun i wr => ∃ (k n : Nat) (ds : List Nat), k ≤ 8 ∧ i = .int .i64 k ∧ Top us vs k ds ∧ wr = ((((w.alloc (.cells (LK .u32 us) 93)).alloc (.cells (LK .u32 vs) 93)).alloc (.cells Z 93)).alloc (.cells (LK .u32 ds) 93)).drewN n) (fun i _ => 8 - (intOf i).toNat)
  case atStart => exact ⟨0, 0, List.replicate 8 0, by decide, rfl, t0, by rw [← HZ.out]; rfl⟩
  case round =>
    obtain ⟨k, n, ds, hk, rfl, ht, rfl⟩ := hrel
    clear t0
    by_cases hlt : k < 8
    · obtain ⟨N, hN⟩ : ∃ N, val ds = N := ⟨_, rfl⟩
      obtain ⟨x, hx⟩ : ∃ x, us.getD k 0 = x := ⟨_, rfl⟩
      have hm0 := mid_start vs ds x k ht.1 ht.2.1
      have hxl := getD_small Su.out k
      rw [hx] at hxl
      rw [hN] at hm0
      have Ht := Lib.hid ht
      have HN := Lib.hid hN
      have hgu := lk_get .u32 us k (by rw [Hu.out]; exact hlt)
      rw [hx] at hgu
      have HX := Lib.hid hx
      clear ht hN hx
      go_wp2
      go_loopw [15, 7] (fun j c wr => ∃ (m n : Nat) (d : List Nat) (cc : Nat), m ≤ 8 - k ∧ j = .int .i64 m ∧ c = .int .u64 cc ∧ Mid vs N x k m d cc ∧ wr = ((((w.alloc (.cells (LK .u32 us) 93)).alloc (.cells (LK .u32 vs) 93)).alloc (.cells Z 93)).alloc (.cells (LK .u32 d) 93)).drewN n) (fun j _ _ => 8 - (intOf j).toNat)
      case atStart => exact ⟨0, n, ds, 0, by omega, rfl, rfl, hm0, rfl⟩
      case round =>
        obtain ⟨m, n, d, c, hm, rfl, rfl, hmid, rfl⟩ := hrel
        by_cases hlm : m < 8 - k
        · have hs := mid_step hmid hxl Sv.out (by rw [Hv.out]; omega) (by omega)
          have hb := mid_bd (j := m) (k := k + m) (c := c) hxl Sv.out hmid.2.1 hmid.2.2.1
          have hgv := lk_get .u32 vs m (by rw [Hv.out]; omega)
          have hgd := lk_get .u32 d (k + m) (by rw [hmid.1]; omega)
          have hlv := getD_small Sv.out m
          have hld := getD_small hmid.2.1 (k + m)
          obtain ⟨y, hy⟩ : ∃ y, vs.getD m 0 = y := ⟨_, rfl⟩
          obtain ⟨z, hz⟩ : ∃ z, d.getD (k + m) 0 = z := ⟨_, rfl⟩
          rw [hy] at hs hb hgv hlv
          rw [hz] at hs hb hgd hld
          have hc := hmid.2.2.1
          have hset := lk_setI .u32 d (k + m) ((x * y + z + c) % 4294967296) (((x : Int) * (y : Int) + (z : Int) + (c : Int)) % 4294967296) (cast_mod x y z c)
          clear hy hz hmid hm0
          have w1 : IntKind.i64.wrap ((k : Int) + (m : Int)) = (k : Int) + (m : Int) := IntWalk.i64_in _ (by omega)
          have w2 : ((k : Int) + (m : Int)).toNat = k + m := by omega
          go_wp2_with fail
          go_quiet (fail)
          go_wp2_with fail
          go_roundw
          case rel =>
            exact ⟨m + 1, n + nq, d.set (k + m) ((x * y + z + c) % 4294967296), (x * y + z + c) / 4294967296, by omega, by go_num, val_int (cast_div x y z c), hs, rfl⟩
          case measure => simp [intOf]; omega
        · obtain rfl : m = 8 - k := by omega
          have htop := top_step (us := us) (c := c) (HN.out ▸ Ht.out.2.2) (by rw [Hu.out]; exact hlt) hk Hv.out (by rw [HX.out]; exact hmid)
          clear hm0 hmid hgu
          go_wp2_with fail
          go_roundw
          case rel => exact ⟨k + 1, n, d, by omega, by go_num, htop, rfl⟩
          case measure => simp [intOf]; omega
    · obtain rfl : k = 8 := by omega
      have hend := top_end Hu.out ht
      have hsz : (LK .u32 ds).size = 8 := by rw [lk_size]; exact ht.1
      have hzs : Z.size = 8 := by rw [← HZ.out]; rfl
      obtain ⟨X, hX⟩ : ∃ X, ((((w.alloc (.cells (LK .u32 us) 93)).alloc (.cells (LK .u32 vs) 93)).alloc (.cells Z 93)).alloc (.cells (LK .u32 ds) 93)).drewN n = X := ⟨_, rfl⟩
      have hb : Below w.heap.size w X := by
        rw [← hX]
        exact below_drewN (((((Below.refl _ _).alloc (Nat.le_refl _) _).alloc (by simp) _).alloc (by simp; omega) _).alloc (by simp; omega) _) n
      have g5 : X.heap[w.heap.size + 1 + 1 + 1]? = some (.cells (LK .u32 ds) 93 (0, 0)) := by
        rw [← hX, heap_drewN', heap_at _ _ _ (by simp)]
      have g4 : X.heap[w.heap.size + 1 + 1]? = some (.cells Z 93 (0, 0)) := by
        rw [← hX, heap_drewN', heap_past _ _ _ (by simp), heap_at _ _ _ (by simp)]
      rw [hX]
      clear hX ht
      go_wp2_with (first | (refine wpList_load_row rfl 93 _ rfl _ rfl 93 _ (0, 0) _ g5 Try.underlying93 rfl (by rw [hsz]; exact zlong) ?_) | (refine wpList_store_row rfl 93 _ _ rfl _ _ rfl rfl 93 _ g4 (by rw [hsz]; exact zlong) (by rw [hsz]; exact hzs) (lk_one _ _) ?_))
      refine bodyPost_ret_by (v := .agg (LK .u32 ds)) (results_cell_row rfl _ _ (w.heap.size + 1 + 1) 93 _ (0, 0) _ rfl (setRow_heap _ _ _ _ _ _ g4) Try.underlying93 rfl (by rw [hsz]; exact zlong)) rfl ?_
      exact ⟨by rw [hend], hb.trans (below_setRow _ _ _ (by omega))⟩
end Go.Proofs.Ythfljfampfioaaa.times
