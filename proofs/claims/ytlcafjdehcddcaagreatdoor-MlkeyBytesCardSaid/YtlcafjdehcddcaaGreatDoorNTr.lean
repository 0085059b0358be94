/-
  What ntt.There returns: the layers of the transform there, all reduced. Conditions: the tables are of their type (their last 256 cells are the ring's roots, whatever they are). What ntt.Back returns: the layers of the transform back, all reduced, times the inverse of 256. Conditions: the tables are of their type (their last 256 cells are the ring's roots, whatever they are).
-/
import Derived.Test.YtlcafjdehcddcaaGreatDoorNRe
import Derived.Test.YtlcafjdehcddcaaGreatDoorNSp
namespace Go.Proofs.YtlcafjdehcddcaaGreatDoor
namespace nthere
open Go Go.RowKit
open arr mem stil polys polt nttm nttp nttl
structure ZT (T : Array Value) (Z : Nat → Int) : Prop where
 z : ∀ k, k < 256 → T[209 + k]? = some (.int .i64 (Z k))
 size : T.size = 465
 one : T.all (·.oneCell') = true
theorem infoT : (Tryz.prog.info? 38).map (·.size) = some 465 := by kernel_rfl
theorem pows (m : Nat) (h : m < 8) : 0 < 2 ^ m ∧ (128 : Int) / 2 ^ m = ((2 ^ (7 - m) : Nat) : Int) ∧ IntKind.i64.wrap ((2 : Int) ^ m) = ((2 ^ m : Nat) : Int) ∧ 2 ^ m ≤ 128 ∧ 0 < 2 ^ (7 - m) := by
 have key : ∀ m : Fin 8, 0 < 2 ^ m.val ∧ (128 : Int) / 2 ^ m.val = ((2 ^ (7 - m.val) : Nat) : Int) ∧ IntKind.i64.wrap ((2 : Int) ^ m.val) = ((2 ^ m.val : Nat) : Int) ∧ 2 ^ m.val ≤ 128 ∧ 0 < 2 ^ (7 - m.val) := by decide +kernel
 exact key ⟨m, h⟩
set_option maxRecDepth 100000 in
set_option maxHeartbeats 4000000 in
theorem there_any (T : Array Value) (Z : Nat → Int) (f : Nat → Int) (w : World) (hT : ZT T Z) :
 Calls Tryz.prog 47 #[.agg T, .agg (FL .i64 256 f)] w fun e w' => e = .returned (.agg (FL .i64 256 (thereR (fun k => Z k % 8380417) 8 f))) ∧ Below w.heap.size w w' := by
 obtain ⟨ζ, hζ⟩ := ex_eq (fun k => Z k % 8380417)
 have Hζ : Away (∀ k, Z k % 8380417 = ζ k) := ⟨fun k => by rw [← hζ.out]⟩
 rw [hζ.out]
 clear hζ
 obtain ⟨hz, hsize⟩ := zero_of_info infoP
 obtain ⟨z, HZ⟩ := ex_eq (FL .i64 256 fun _ => 0)
 rw [HZ.out] at hz
 have Hzs : Away (z.size = 256) := ⟨by rw [← HZ.out]; exact fl_size _ _ _⟩
 obtain ⟨F, HF⟩ := ex_eq (FL .i64 256 f)
 obtain ⟨R, HR⟩ := ex_eq (FL .i64 256 (thereR ζ 8 f))
 obtain ⟨F0, HF0⟩ := ex_eq (FL .i64 256 (red f))
 have Fi : Away ((Tryz.prog.info? 25).map (·.size) = some F.size) := ⟨by rw [← HF.out, fl_size]; exact hsize⟩
 have Gi : Away ((Tryz.prog.info? 25).map (·.size) = some F0.size) := ⟨by rw [← HF0.out, fl_size]; exact hsize⟩
 have Go' : Away (F0.all (·.oneCell') = true) := ⟨by rw [← HF0.out]; exact fl_one _ _ _⟩
 have Gz : Away (z.size = F0.size) := ⟨by rw [Hzs.out, ← HF0.out, fl_size]⟩
 have Ri : Away ((Tryz.prog.info? 25).map (·.size) = some R.size) := ⟨by rw [← HR.out, fl_size]; exact hsize⟩
 have Ro : Away (R.all (·.oneCell') = true) := ⟨by rw [← HR.out]; exact fl_one _ _ _⟩
 have Rz : Away (z.size = R.size) := ⟨by rw [Hzs.out, ← HR.out, fl_size]⟩
 have H : Away (∀ w1 : World, Calls Tryz.prog 91 #[.agg F] w1 fun e w' => e = .returned (.agg F0) ∧ Below w1.heap.size w1 w') := ⟨fun w1 => by
  have h := nred.reduced_any f w1
  rw [HF.out, HF0.out] at h
  exact h⟩
 have HT := Away.mk hT
 have Hred := Away.mk fld1.reduce_any
 rw [HF.out, HR.out]
 clear HF HZ hsize hT
 go_enter Tryz.func47, Tryz.ntmps47
 go_wp2_with fail
 obtain ⟨W, hW⟩ : ∃ x, ((w.alloc (.cells T 38)).alloc (.cells F 25)).alloc (.cells z 25) = x := ⟨_, rfl⟩
 obtain ⟨b0, b1, b2, hWs, hWb⟩ := three hW
 rw [hW]
 clear hW
 have B0 := Away.mk b0
 have B1 := Away.mk b1
 have B2 := Away.mk b2
 have HWb := Away.mk hWb
 have HWs := Away.mk hWs
 clear hWs hWb b0 b1 b2
 refine wp_load_row 25 _ rfl (w.heap.size + 1) rfl 25 F (0, 0) _ B1.out Tryz.underlying25 rfl Fi.out ?_
 go_wp2_with fail
 refine (H.out _).mono ?_
 rintro e w1 ⟨rfl, hb⟩
 have C0 : Away (w1.heap[w.heap.size]? = some (.cells T 38 (0, 0))) := ⟨(hb.block _ (lt_of_row B0.out)).trans B0.out⟩
 have C2 : Away (w1.heap[w.heap.size + 2]? = some (.cells z 25 (0, 0))) := ⟨(hb.block _ (lt_of_row B2.out)).trans B2.out⟩
 have HB : Away (Below w.heap.size w w1) := ⟨HWb.out.trans (hb.mono HWb.out.size)⟩
 have HW1 : Away (w.heap.size + 3 ≤ w1.heap.size) := ⟨by have := hb.size; have := HWs.out; omega⟩
 clear hb B0 B1 B2 HWb HWs
 go_wp2_with (refine wpList_store_new rfl 25 _ _ rfl _ rfl rfl Gi.out Gz.out Go'.out rfl ?_)
 obtain ⟨V, hV⟩ : ∃ x, w1.alloc (.cells F0 25) = x := ⟨_, rfl⟩
 obtain ⟨b0, hVs, hVb⟩ := one hV
 rw [hV]
 clear hV
 obtain ⟨g, hg⟩ := ex_eq w1.heap.size
 rw [hg.out] at b0 hVb
 rw [hg.out]
 have D0 : Away (V.heap[w.heap.size]? = some (.cells T 38 (0, 0))) := ⟨(hVb.block _ (by rw [← hg.out]; exact lt_of_row C0.out)).trans C0.out⟩
 have D2 : Away (V.heap[w.heap.size + 2]? = some (.cells z 25 (0, 0))) := ⟨(hVb.block _ (by rw [← hg.out]; exact lt_of_row C2.out)).trans C2.out⟩
 have HgV : Away (g < V.heap.size ∧ w.heap.size + 3 ≤ g) := ⟨by have := HW1.out; have := hg.out; omega⟩
 have HVB : Away (Below w.heap.size w V) := ⟨HB.out.trans (by rw [← hg.out] at hVb; exact hVb.mono HB.out.size)⟩
 have A0' : Away (At g (FL .i64 256 (thereR ζ 0 f)) 25 V V) := ⟨At.refl (by show V.heap[g]? = some (.cells (FL .i64 256 (red f)) 25 (0, 0)); rw [HF0.out]; exact b0)⟩
 clear b0 hVs hVb hg C0 C2 HB HW1 hz
 go_loopw [12, 6] (fun lv k wr => ∃ m : Nat, m ≤ 8 ∧ lv = .int .i64 (m : Int) ∧ k = .int .i64 ((2 ^ m - 1 : Nat) : Int) ∧ Away (At g (FL .i64 256 (thereR ζ m f)) 25 V wr)) (fun lv _ _ => 8 - (intOf lv).toNat)
 case atStart => exact ⟨0, Nat.zero_le _, rfl, rfl, A0'⟩
 case round =>
  obtain ⟨m, hm, rfl, rfl, A0⟩ := hrel
  by_cases hlt : m < 8
  ·have hmz : (m : Int) < 8 := by omega
   obtain ⟨K, hK⟩ : ∃ K, 2 ^ m = K := ⟨_, rfl⟩
   obtain ⟨s, hs⟩ : ∃ s, 2 ^ (7 - m) = s := ⟨_, rfl⟩
   have h256 := (nttp.size_m m (by omega)).1
   rw [hK, hs] at h256
   have hp := pows m hlt
   rw [hK, hs] at hp
   obtain ⟨hp1, hp2, hp3, hp4, hp5⟩ := hp
   have Hp1 := Away.mk hp1
   have hnext : Away (∀ j, j < 256 → dn (ly ζ K s) s (thereR ζ m f) (K * s) j = thereR ζ (m + 1) f j) := ⟨fun j hj => by
    rw [dn_all (ly ζ K s) K s (by omega) _ j (by omega), ← hK, ← hs]
    rfl⟩
   have hKn : Away (2 ^ (m + 1) - 1 = K - 1 + K) := ⟨by rw [Nat.pow_succ, hK]; omega⟩
   have H256 := Away.mk h256
   obtain ⟨h, hh⟩ := ex_eq (thereR ζ m f)
   have Hh : Away (∀ j, 0 ≤ h j ∧ h j < 8380417) := ⟨fun j => by rw [← hh.out]; exact thereR_red ζ m f j⟩
   rw [hh.out] at hnext A0
   rw [hK]
   have f1 : (128 : Int) / 2 ^ m = (s : Int) := hp2
   have f2 : IntKind.i64.wrap ((2 : Int) ^ m) = (K : Int) := hp3
   clear hp1 hp2 hp3 h256 hK hs hh
   have hK128 : (K : Int) ≤ 128 := by omega
   obtain ⟨q, hq⟩ : ∃ q, K - 1 = q := ⟨_, rfl⟩
   have Hq : Away (q + 1 = K) := ⟨by have := Hp1.out; omega⟩
   rw [hq] at hKn
   rw [hq]
   clear hq hp4 hp5
   go_wp2_with fail
   rename World => wo
   go_loopw [19, 6] (fun j k wr => ∃ t : Nat, t ≤ K ∧ j = .int .i64 (t : Int) ∧ k = .int .i64 ((q + t : Nat) : Int) ∧ Away (At g (FL .i64 256 (dn (ly ζ K s) s h (t * s))) 25 V wr)) (fun j _ _ => K - (intOf j).toNat)
   case atStart => exact ⟨0, Nat.zero_le _, rfl, rfl, ⟨by rw [Nat.zero_mul, dn_zero]; exact A0.out⟩⟩
   case round =>
    obtain ⟨t, ht, rfl, rfl, A1⟩ := hrel
    by_cases hlt2 : t < K
    ·have htz : (t : Int) < (K : Int) := by omega
     obtain ⟨c, hc⟩ : ∃ c, q + t = c := ⟨_, rfl⟩
     obtain ⟨k, hk⟩ : ∃ k, K + t = k := ⟨_, rfl⟩
     obtain ⟨d, hd⟩ : ∃ d, 2 * s = d := ⟨_, rfl⟩
     obtain ⟨b, hb⟩ : ∃ b, d * t = b := ⟨_, rfl⟩
     have h256 := H256.out
     rw [hd] at h256
     have hbd : b + d ≤ 256 := by
      have h1 : d * (t + 1) ≤ d * K := Nat.mul_le_mul_left _ hlt2
      rw [Nat.mul_succ, hb] at h1
      omega
     have hk256 : Away (k < 256) := ⟨by omega⟩
     have hkz : (k : Int) < 256 := by omega
     have hck : c + 1 = k := by have := Hq.out; omega
     have f3 : IntKind.i64.wrap ((c : Int) + 1) = (k : Int) := by rw [IntKind.wrap_i64]; omega
     have f4 : IntKind.i64.wrap (2 * (s : Int)) = (d : Int) := by rw [IntKind.wrap_i64]; omega
     have hbz : (d : Int) * (t : Int) = (b : Int) := by rw [← hb]; exact (Int.natCast_mul d t).symm
     have f5 : IntKind.i64.wrap ((d : Int) * (t : Int)) = (b : Int) := by rw [hbz, IntKind.wrap_i64]; omega
     have E0 : wr.heap[w.heap.size]? = some (.cells T 38 (0, 0)) := A1.out.other (by have := HgV.out; omega) (by have := HgV.out; omega) D0.out
     obtain ⟨x, hx⟩ := ex_eq (Z k)
     have cz : wr.cell? ⟨w.heap.size, 209 + k, none⟩ = some (.int .i64 x) := by rw [← hx.out]; exact cell_at E0 (HT.out.z k hk256.out)
     have Hx : Away (∀ w1 : World, Calls Tryz.prog 54 #[.int .i64 x] w1 fun e w' => e = .returned (.int .i64 (ζ k)) ∧ w1 = w') := ⟨fun w1 => by rw [← Hζ.out k, hx.out]; exact (Hred.out x w1).mono fun _ _ h => ⟨h.1, h.2.symm⟩⟩
     have Hζb : Away (0 ≤ ζ k ∧ ζ k < 8380417) := ⟨by rw [← Hζ.out k]; exact ⟨Int.emod_nonneg _ (by decide), Int.emod_lt_of_pos _ (by decide)⟩⟩
     have Hsp : Away (∀ w1 : World, w1.heap[g]? = some (.cells (FL .i64 256 (dn (ly ζ K s) s h (t * s))) 25 (0, 0)) → Calls Tryz.prog 92 #[.pointer (some ⟨g, 0, none⟩), .int .i64 (b : Int), .int .i64 (s : Int), .int .i64 (ζ k)] w1 fun e w' => e = .returned (.tuple #[]) ∧ At g (FL .i64 256 (dn (ly ζ K s) s h ((t + 1) * s))) 25 w1 w') := ⟨fun w1 hA => nsplit.split_any (ly ζ K s) g s t b (ζ k) h w1 (by rw [hd]; exact hb.symm) (by omega) Hζb.out Hh.out (fun r hr => by rw [← hk]; exact ly_pair ζ K hr h) hA⟩
     have Hck := Away.mk hck
     have Hc := Away.mk hc
     rw [hc]
     obtain ⟨y, hy⟩ := ex_eq (ζ k)
     rw [hy.out] at Hx Hsp
     clear hc hck hk hd hb hbz h256 hbd E0 hx hy
     go_wp2_with fail
     refine (Hx.out _).mono ?_
     rintro e w3 ⟨rfl, rfl⟩
     go_wp2_with fail
     refine (Hsp.out _ A1.out.row).mono ?_
     rintro e w3 ⟨rfl, hA2⟩
     have A2 : Away (At g (FL .i64 256 (dn (ly ζ K s) s h ((t + 1) * s))) 25 V w3) := ⟨A1.out.trans hA2⟩
     clear hA2 A1 cz
     go_wp2_with fail
     go_roundw
     case rel => exact ⟨t + 1, by omega, by go_num, by rw [show q + (t + 1) = k by have := Hck.out; have := Hc.out; omega], A2⟩
     case measure => simp [intOf]; omega
    ·obtain rfl : t = K := by omega
     rw [show FL .i64 256 (dn (ly ζ t s) s h (t * s)) = FL .i64 256 (thereR ζ (m + 1) f) from fl_congr .i64 256 hnext.out] at A1
     go_wp2_with fail
     go_roundw
     case rel => exact ⟨m + 1, by omega, by go_num, by rw [hKn.out], A1⟩
     case measure => simp [intOf]; omega
  ·obtain rfl : m = 8 := by omega
   simp only [Int.cast_ofNat_Int]
   rw [HR.out] at A0
   have Hrow := Away.mk A0.out.row
   have Hres : Away (wr.heap[w.heap.size + 2]? = some (.cells z 25 (0, 0))) := ⟨A0.out.other (by have := HgV.out; omega) (by have := HgV.out; omega) D2.out⟩
   have HB : Away (Below w.heap.size w wr) := ⟨HVB.out.trans (A0.out.below HVB.out.size (by have := HgV.out; omega))⟩
   clear A0
   go_wp2_with (first
    | (refine wpList_load_row rfl 25 _ rfl g rfl 25 R (0, 0) _ Hrow.out Tryz.underlying25 rfl Ri.out ?_)
    | (refine wpList_store_row rfl 25 _ _ rfl (w.heap.size + 2) R rfl rfl 25 _ Hres.out Ri.out Rz.out Ro.out ?_))
   refine bodyPost_ret_by (v := .agg R) (results_cell_row rfl _ _ (w.heap.size + 2) 25 _ (0, 0) _ rfl (setRow_heap _ _ _ _ _ _ Hres.out) Tryz.underlying25 rfl Ri.out) rfl ?_
   exact ⟨rfl, HB.out.trans (below_setRow _ _ _ (by omega))⟩
end nthere
namespace nback
open Go Go.RowKit
open arr mem stil polys polt nttm nttp nttl nthere
set_option maxRecDepth 100000 in
set_option maxHeartbeats 4000000 in
theorem back_any (T : Array Value) (Z : Nat → Int) (f : Nat → Int) (w : World) (hT : ZT T Z) :
 Calls Tryz.prog 50 #[.agg T, .agg (FL .i64 256 f)] w fun e w' => e = .returned (.agg (FL .i64 256 (fun i => (backR (fun k => Z k % 8380417) 8 f i * 8347681) % 8380417))) ∧ Below w.heap.size w w' := by
 obtain ⟨ζ, hζ⟩ := ex_eq (fun k => Z k % 8380417)
 have Hζ : Away (∀ k, Z k % 8380417 = ζ k) := ⟨fun k => by rw [← hζ.out]⟩
 rw [hζ.out]
 clear hζ
 obtain ⟨hz, hsize⟩ := zero_of_info infoP
 obtain ⟨z, HZ⟩ := ex_eq (FL .i64 256 fun _ => 0)
 rw [HZ.out] at hz
 have Hzs : Away (z.size = 256) := ⟨by rw [← HZ.out]; exact fl_size _ _ _⟩
 obtain ⟨F, HF⟩ := ex_eq (FL .i64 256 f)
 obtain ⟨R, HR⟩ := ex_eq (FL .i64 256 (fun i => (backR ζ 8 f i * 8347681) % 8380417))
 obtain ⟨F0, HF0⟩ := ex_eq (FL .i64 256 (red f))
 have Fi : Away ((Tryz.prog.info? 25).map (·.size) = some F.size) := ⟨by rw [← HF.out, fl_size]; exact hsize⟩
 have Gi : Away ((Tryz.prog.info? 25).map (·.size) = some F0.size) := ⟨by rw [← HF0.out, fl_size]; exact hsize⟩
 have Go' : Away (F0.all (·.oneCell') = true) := ⟨by rw [← HF0.out]; exact fl_one _ _ _⟩
 have Gz : Away (z.size = F0.size) := ⟨by rw [Hzs.out, ← HF0.out, fl_size]⟩
 have Ri : Away ((Tryz.prog.info? 25).map (·.size) = some R.size) := ⟨by rw [← HR.out, fl_size]; exact hsize⟩
 have Ro : Away (R.all (·.oneCell') = true) := ⟨by rw [← HR.out]; exact fl_one _ _ _⟩
 have Rz : Away (z.size = R.size) := ⟨by rw [Hzs.out, ← HR.out, fl_size]⟩
 have H : Away (∀ w1 : World, Calls Tryz.prog 91 #[.agg F] w1 fun e w' => e = .returned (.agg F0) ∧ Below w1.heap.size w1 w') := ⟨fun w1 => by
  have h := nred.reduced_any f w1
  rw [HF.out, HF0.out] at h
  exact h⟩
 have HT := Away.mk hT
 have Hred := Away.mk fld1.reduce_any
 rw [HF.out, HR.out]
 clear HF HZ hsize hT
 go_enter Tryz.func50, Tryz.ntmps50
 go_wp2_with fail
 obtain ⟨W, hW⟩ : ∃ x, ((w.alloc (.cells T 38)).alloc (.cells F 25)).alloc (.cells z 25) = x := ⟨_, rfl⟩
 obtain ⟨b0, b1, b2, hWs, hWb⟩ := three hW
 rw [hW]
 clear hW
 have B0 := Away.mk b0
 have B1 := Away.mk b1
 have B2 := Away.mk b2
 have HWb := Away.mk hWb
 have HWs := Away.mk hWs
 clear hWs hWb b0 b1 b2
 refine wp_load_row 25 _ rfl (w.heap.size + 1) rfl 25 F (0, 0) _ B1.out Tryz.underlying25 rfl Fi.out ?_
 go_wp2_with fail
 refine (H.out _).mono ?_
 rintro e w1 ⟨rfl, hb⟩
 have C0 : Away (w1.heap[w.heap.size]? = some (.cells T 38 (0, 0))) := ⟨(hb.block _ (lt_of_row B0.out)).trans B0.out⟩
 have C2 : Away (w1.heap[w.heap.size + 2]? = some (.cells z 25 (0, 0))) := ⟨(hb.block _ (lt_of_row B2.out)).trans B2.out⟩
 have HB : Away (Below w.heap.size w w1) := ⟨HWb.out.trans (hb.mono HWb.out.size)⟩
 have HW1 : Away (w.heap.size + 3 ≤ w1.heap.size) := ⟨by have := hb.size; have := HWs.out; omega⟩
 clear hb B0 B1 B2 HWb HWs
 go_wp2_with (refine wpList_store_new rfl 25 _ _ rfl _ rfl rfl Gi.out Gz.out Go'.out rfl ?_)
 obtain ⟨V, hV⟩ : ∃ x, w1.alloc (.cells F0 25) = x := ⟨_, rfl⟩
 obtain ⟨b0, hVs, hVb⟩ := one hV
 rw [hV]
 clear hV
 obtain ⟨g, hg⟩ := ex_eq w1.heap.size
 rw [hg.out] at b0 hVb
 rw [hg.out]
 have D0 : Away (V.heap[w.heap.size]? = some (.cells T 38 (0, 0))) := ⟨(hVb.block _ (by rw [← hg.out]; exact lt_of_row C0.out)).trans C0.out⟩
 have D2 : Away (V.heap[w.heap.size + 2]? = some (.cells z 25 (0, 0))) := ⟨(hVb.block _ (by rw [← hg.out]; exact lt_of_row C2.out)).trans C2.out⟩
 have HgV : Away (g < V.heap.size ∧ w.heap.size + 3 ≤ g) := ⟨by have := HW1.out; have := hg.out; omega⟩
 have HVB : Away (Below w.heap.size w V) := ⟨HB.out.trans (by rw [← hg.out] at hVb; exact hVb.mono HB.out.size)⟩
 have A0' : Away (At g (FL .i64 256 (backR ζ 0 f)) 25 V V) := ⟨At.refl (by show V.heap[g]? = some (.cells (FL .i64 256 (red f)) 25 (0, 0)); rw [HF0.out]; exact b0)⟩
 clear b0 hVs hVb hg C0 C2 HB HW1 hz
 go_loopw [12, 6] (fun lv k wr => ∃ m : Nat, m ≤ 8 ∧ lv = .int .i64 (m : Int) ∧ k = .int .i64 ((2 ^ (8 - m) : Nat) : Int) ∧ Away (At g (FL .i64 256 (backR ζ m f)) 25 V wr)) (fun lv _ _ => 8 - (intOf lv).toNat)
 case atStart => exact ⟨0, Nat.zero_le _, rfl, rfl, A0'⟩
 case round =>
  obtain ⟨m, hm, rfl, rfl, A0⟩ := hrel
  by_cases hlt : m < 8
  ·have hmz : (m : Int) < 8 := by omega
   obtain ⟨K, hK⟩ : ∃ K, 2 ^ (7 - m) = K := ⟨_, rfl⟩
   obtain ⟨s, hs⟩ : ∃ s, 2 ^ m = s := ⟨_, rfl⟩
   have h256 := (nttp.size_m m (by omega)).2
   rw [hK, hs] at h256
   have hp := pows m hlt
   rw [hK, hs] at hp
   obtain ⟨hp1, hp2, hp3, hp4, hp5⟩ := hp
   have Hp1 := Away.mk hp1
   have hnext : Away (∀ j, j < 256 → dn (bk ζ K s) s (backR ζ m f) (K * s) j = backR ζ (m + 1) f j) := ⟨fun j hj => by
    rw [dn_all (bk ζ K s) K s (by omega) _ j (by omega), ← hK, ← hs]
    rfl⟩
   have hKn : Away (2 ^ (8 - (m + 1)) = K) := ⟨by rw [show 8 - (m + 1) = 7 - m by omega, hK]⟩
   have hK2 : 2 ^ (8 - m) = 2 * K := by rw [← hK, show 8 - m = 7 - m + 1 by omega, Nat.pow_succ, Nat.mul_comm]
   have H256 := Away.mk h256
   obtain ⟨h, hh⟩ := ex_eq (backR ζ m f)
   have Hh : Away (∀ j, 0 ≤ h j ∧ h j < 8380417) := ⟨fun j => by rw [← hh.out]; exact backR_red ζ m f j⟩
   rw [hh.out] at hnext A0
   rw [hK2]
   have f1 : (128 : Int) / 2 ^ m = (K : Int) := hp2
   have f2 : IntKind.i64.wrap ((2 : Int) ^ m) = (s : Int) := hp3
   have hK128 : (K : Int) ≤ 128 := by
    have h1 : 1 * K ≤ s * K := Nat.mul_le_mul_right _ hp1
    rw [Nat.mul_assoc] at h256
    omega
   clear hp1 hp2 hp3 h256 hK hs hh hK2
   have hs128 : (s : Int) ≤ 128 := by omega
   obtain ⟨q, hq⟩ : ∃ q, 2 * K = q := ⟨_, rfl⟩
   have Hq : Away (2 * K = q) := ⟨hq⟩
   rw [hq]
   clear hq hp4 hp5
   go_wp2_with fail
   rename World => wo
   go_loopw [19, 6] (fun j k wr => ∃ t : Nat, t ≤ K ∧ j = .int .i64 (t : Int) ∧ k = .int .i64 ((q - t : Nat) : Int) ∧ Away (At g (FL .i64 256 (dn (bk ζ K s) s h (t * s))) 25 V wr)) (fun j _ _ => K - (intOf j).toNat)
   case atStart => exact ⟨0, Nat.zero_le _, rfl, rfl, ⟨by rw [Nat.zero_mul, dn_zero]; exact A0.out⟩⟩
   case round =>
    obtain ⟨t, ht, rfl, rfl, A1⟩ := hrel
    by_cases hlt2 : t < K
    ·have hqq := Hq.out
     have htz : (t : Int) < (K : Int) := by omega
     obtain ⟨c, hc⟩ : ∃ c, q - t = c := ⟨_, rfl⟩
     obtain ⟨k, hk⟩ : ∃ k, 2 * K - 1 - t = k := ⟨_, rfl⟩
     obtain ⟨d, hd⟩ : ∃ d, 2 * s = d := ⟨_, rfl⟩
     obtain ⟨b, hb⟩ : ∃ b, d * t = b := ⟨_, rfl⟩
     have h256 := H256.out
     rw [hd] at h256
     have hbd : b + d ≤ 256 := by
      have h1 : d * (t + 1) ≤ d * K := Nat.mul_le_mul_left _ hlt2
      rw [Nat.mul_succ, hb] at h1
      omega
     have hk256 : Away (k < 256) := ⟨by omega⟩
     have hkz : (k : Int) < 256 := by omega
     have hck : k + 1 = c := by have := Hq.out; omega
     have f3 : IntKind.i64.wrap ((c : Int) - 1) = (k : Int) := by rw [IntKind.wrap_i64]; omega
     have f4 : IntKind.i64.wrap (2 * (s : Int)) = (d : Int) := by rw [IntKind.wrap_i64]; omega
     have hbz : (d : Int) * (t : Int) = (b : Int) := by rw [← hb]; exact (Int.natCast_mul d t).symm
     have f5 : IntKind.i64.wrap ((d : Int) * (t : Int)) = (b : Int) := by rw [hbz, IntKind.wrap_i64]; omega
     have E0 : wr.heap[w.heap.size]? = some (.cells T 38 (0, 0)) := A1.out.other (by have := HgV.out; omega) (by have := HgV.out; omega) D0.out
     obtain ⟨x, hx⟩ := ex_eq (Z k)
     have cz : wr.cell? ⟨w.heap.size, 209 + k, none⟩ = some (.int .i64 x) := by rw [← hx.out]; exact cell_at E0 (HT.out.z k hk256.out)
     have Hx : Away (∀ w1 : World, Calls Tryz.prog 54 #[.int .i64 x] w1 fun e w' => e = .returned (.int .i64 (ζ k)) ∧ w1 = w') := ⟨fun w1 => by rw [← Hζ.out k, hx.out]; exact (Hred.out x w1).mono fun _ _ h => ⟨h.1, h.2.symm⟩⟩
     have Hζb : Away (0 ≤ ζ k ∧ ζ k < 8380417) := ⟨by rw [← Hζ.out k]; exact ⟨Int.emod_nonneg _ (by decide), Int.emod_lt_of_pos _ (by decide)⟩⟩
     have Hsp : Away (∀ w1 : World, w1.heap[g]? = some (.cells (FL .i64 256 (dn (bk ζ K s) s h (t * s))) 25 (0, 0)) → Calls Tryz.prog 93 #[.pointer (some ⟨g, 0, none⟩), .int .i64 (b : Int), .int .i64 (s : Int), .int .i64 (ζ k)] w1 fun e w' => e = .returned (.tuple #[]) ∧ At g (FL .i64 256 (dn (bk ζ K s) s h ((t + 1) * s))) 25 w1 w') := ⟨fun w1 hA => njoin.join_any (bk ζ K s) g s t b (ζ k) h w1 (by rw [hd]; exact hb.symm) (by omega) Hζb.out Hh.out (fun r hr => by rw [← hk]; exact bk_pair ζ K hr h) hA⟩
     have Hck := Away.mk hck
     have Hc := Away.mk hc
     rw [hc]
     obtain ⟨y, hy⟩ := ex_eq (ζ k)
     rw [hy.out] at Hx Hsp
     clear hc hck hk hd hb hbz h256 hbd E0 hx hy hqq
     go_wp2_with fail
     refine (Hx.out _).mono ?_
     rintro e w3 ⟨rfl, rfl⟩
     go_wp2_with fail
     refine (Hsp.out _ A1.out.row).mono ?_
     rintro e w3 ⟨rfl, hA2⟩
     have A2 : Away (At g (FL .i64 256 (dn (bk ζ K s) s h ((t + 1) * s))) 25 V w3) := ⟨A1.out.trans hA2⟩
     clear hA2 A1 cz
     go_wp2_with fail
     go_roundw
     case rel => exact ⟨t + 1, by omega, by go_num, by rw [show q - (t + 1) = k by have := Hck.out; have := Hc.out; omega], A2⟩
     case measure => simp [intOf]; omega
    ·obtain rfl : t = K := by omega
     rw [show FL .i64 256 (dn (bk ζ t s) s h (t * s)) = FL .i64 256 (backR ζ (m + 1) f) from fl_congr .i64 256 hnext.out] at A1
     go_wp2_with fail
     go_roundw
     case rel => exact ⟨m + 1, by omega, by go_num, by rw [hKn.out, show q - t = t by have := Hq.out; omega], A1⟩
     case measure => simp [intOf]; omega
  ·obtain rfl : m = 8 := by omega
   simp only [Int.cast_ofNat_Int]
   obtain ⟨C, hC⟩ := ex_eq (FL .i64 256 (backR ζ 8 f))
   rw [hC.out] at A0
   have Ci : Away ((Tryz.prog.info? 25).map (·.size) = some C.size) := ⟨by rw [← hC.out, fl_size]; have h1 := Ri.out; rw [← HR.out, fl_size] at h1; exact h1⟩
   have Hsc : Away (∀ w1 : World, Calls Tryz.prog 14 #[.agg C, .int .i64 8347681] w1 fun e w' => e = .returned (.agg R) ∧ Below w1.heap.size w1 w') := ⟨fun w1 => by
    have h := fscale.scale_any (backR ζ 8 f) 8347681 w1
    rw [hC.out, HR.out] at h
    exact h⟩
   have Hrow := Away.mk A0.out.row
   have Hres : Away (wr.heap[w.heap.size + 2]? = some (.cells z 25 (0, 0))) := ⟨A0.out.other (by have := HgV.out; omega) (by have := HgV.out; omega) D2.out⟩
   have HB : Away (Below w.heap.size w wr) := ⟨HVB.out.trans (A0.out.below HVB.out.size (by have := HgV.out; omega))⟩
   clear A0 hC
   go_wp2_with fail
   refine wp_load_row 25 _ rfl g rfl 25 C (0, 0) _ Hrow.out Tryz.underlying25 rfl Ci.out ?_
   go_wp2_with fail
   refine (Hsc.out _).mono ?_
   rintro e w5 ⟨rfl, hb5⟩
   have Hres5 : Away (w5.heap[w.heap.size + 2]? = some (.cells z 25 (0, 0))) := ⟨(hb5.block _ (lt_of_row Hres.out)).trans Hres.out⟩
   have HB5 : Away (Below w.heap.size w w5) := ⟨HB.out.trans (hb5.mono HB.out.size)⟩
   clear hb5 Hres Hrow HB
   go_wp2_with (refine wpList_store_row rfl 25 _ _ rfl (w.heap.size + 2) R rfl rfl 25 _ Hres5.out Ri.out Rz.out Ro.out ?_)
   refine bodyPost_ret_by (v := .agg R) (results_cell_row rfl _ _ (w.heap.size + 2) 25 _ (0, 0) _ rfl (setRow_heap _ _ _ _ _ _ Hres5.out) Tryz.underlying25 rfl Ri.out) rfl ?_
   exact ⟨rfl, HB5.out.trans (below_setRow _ _ _ (by omega))⟩
end nback
end Go.Proofs.YtlcafjdehcddcaaGreatDoor
