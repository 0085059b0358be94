/-
  What package bits' load returns: 256 numbers of a fixed width out of bytes. Conditions: the width is from 1 to 23, the string has the bytes. What package bits' Unpack returns. Conditions: none. What package bits' Unsigned returns. Conditions: none.
-/
import Derived.Test.YtlcafjdehcddcaaGreatDoorPuA
import Derived.Test.YtlcafjdehcddcaaGreatDoorPB1
import Derived.Test.YtlcafjdehcddcaaGreatDoorFlA
namespace Go.Proofs.YtlcafjdehcddcaaGreatDoor
namespace pload
open Go Go.RowKit
open arr mem stil bitm bitn polys rbitb rbitc rbitd rbitf
theorem and_mask (h wd k : Nat) (hh : h < 4294967296) (hk : 2 ^ wd - 1 = k) (hk2 : k < 4294967296) : bits .and .i64 (h : Int) (k : Int) = ((h % 2 ^ wd : Nat) : Int) := by
 have h0 : h % 2 ^ wd ≤ h := Nat.mod_le _ _
 show IntKind.i64.wrap ((BitVec.ofInt 64 (h : Int) &&& BitVec.ofInt 64 (k : Int)).toNat : Int) = _
 rw [BitVec.ofInt_natCast, BitVec.ofInt_natCast, BitVec.toNat_and, BitVec.toNat_ofNat, BitVec.toNat_ofNat, Nat.mod_eq_of_lt (by omega), Nat.mod_eq_of_lt (by omega), ← hk, Nat.and_two_pow_sub_one_eq_mod, IntKind.wrap_i64]
 omega
set_option maxRecDepth 100000 in
set_option maxHeartbeats 4000000 in
theorem load_any (s : ByteArray) (wd : Nat) (w : World) (hw0 : 1 ≤ wd) (hw : wd ≤ 23) (hs : s.size = 32 * wd) :
 Calls Tryz.prog 104 #[.string s, .int .i64 (wd : Int)] w fun e w' => e = .returned (.agg (FL .i64 256 (up s wd))) ∧ Below w.heap.size w w' := by
 unfold up
 obtain ⟨hz, hsize⟩ := zero_of_info infoP
 obtain ⟨z, HZ⟩ := ex_eq (FL .i64 256 fun _ => 0)
 rw [HZ.out] at hz
 have Hzs : Away (z.size = 256) := ⟨by rw [← HZ.out]; exact fl_size _ _ _⟩
 obtain ⟨N, HN⟩ := ex_eq (pk 8 (bys s))
 rw [HN.out]
 obtain ⟨R, HR⟩ := ex_eq (FL .i64 256 fun i => ((bt N wd i wd : Nat) : Int))
 have Ri : Away ((Tryz.prog.info? 25).map (·.size) = some R.size) := ⟨by rw [← HR.out, fl_size]; exact hsize⟩
 have Ro : Away (R.all (·.oneCell') = true) := ⟨by rw [← HR.out]; exact fl_one _ _ _⟩
 have Rz : Away (z.size = R.size) := ⟨by rw [Hzs.out, ← HR.out, fl_size]⟩
 rw [HR.out]
 obtain ⟨W, hW⟩ : ∃ x, (w.alloc (.cells z 25)).alloc (.cells z 25) = x := ⟨_, rfl⟩
 have HW := Away.mk hW
 have hWs : W.heap.size = w.heap.size + 2 := by rw [← hW, size_alloc, size_alloc]
 have BW : Away (Below w.heap.size w W) := ⟨by rw [← hW]; exact ((Below.refl _ _).alloc (Nat.le_refl _) _).alloc (by rw [size_alloc]; omega) _⟩
 have R0 : Away (W.heap[w.heap.size]? = some (.cells z 25 (0, 0))) := ⟨by rw [← hW, heap_past _ _ _ (by rw [size_alloc]; omega)]; exact heap_at _ _ _ rfl⟩
 have R1 : Away (W.heap[w.heap.size + 1]? = some (.cells (FL .i64 256 (pt (fun i => ((bt N wd i wd : Nat) : Int)) (fun _ => 0) 0)) 25 (0, 0))) := ⟨by rw [← hW, pt_zero, HZ.out]; exact heap_at _ _ _ (by rw [size_alloc])⟩
 have Hby : Away (∀ a, a < 32 * wd → (bys s).getD a 0 = N / 2 ^ (8 * a) % 2 ^ 8) := ⟨fun a ha => by
  rw [← HN.out, pk_at 8 (bys s) (bys_lt s) a (by rw [bys_length]; omega), List.getD_eq_getElem?_getD, List.getElem?_eq_getElem (by rw [bys_length]; omega)]; rfl⟩
 have pw := pow_small wd 23 hw
 obtain ⟨q, hq⟩ : ∃ q, 2 ^ wd = q := ⟨_, rfl⟩
 have hq0 : 0 < q := by rw [← hq]; exact Nat.two_pow_pos _
 rw [hq] at pw
 obtain ⟨q1, hq1⟩ : ∃ q1, q - 1 = q1 := ⟨_, rfl⟩
 have Hq := Away.mk hq
 have Hq1 : Away (2 ^ wd - 1 = q1) := ⟨by rw [hq, hq1]⟩
 have fq : (2 : Int) ^ wd = (q : Int) := by rw [← hq, Int.natCast_pow]; rfl
 have fqw : IntKind.i64.wrap ((2 : Int) ^ wd) = (q : Int) := by rw [fq, IntKind.wrap_i64]; omega
 have fqw2 : IntKind.i64.wrap (1 * (2 : Int) ^ wd) = (q : Int) := by rw [Int.one_mul]; exact fqw
 have fq1 : IntKind.i64.wrap ((q : Int) - 1) = (q1 : Int) := by rw [IntKind.wrap_i64]; omega
 have Hq1b : Away (q1 < 8388608) := ⟨by omega⟩
 have Hfq := Away.mk fq
 clear hW hsize hq hq1 pw hq0 fq
 go_enter Tryz.func104, Tryz.ntmps104
 go_wp2_with (rw [HW.out])
 clear hz
 go_loopw [6, 7, 8, 10] (fun v k c d wr => ∃ i a h j : Nat, i ≤ 256 ∧ wd * i ≤ 8 * a ∧ a ≤ 32 * wd ∧ N % 2 ^ (8 * a) / 2 ^ (wd * i) = h ∧ j + wd * i = 8 * a ∧ j < 8 ∧ v = .int .i64 (h : Int) ∧ k = .int .i64 (j : Int) ∧ c = .int .i64 (a : Int) ∧ d = .int .i64 (i : Int) ∧ Away (At (w.heap.size + 1) (FL .i64 256 (pt (fun i => ((bt N wd i wd : Nat) : Int)) (fun _ => 0) i)) 25 W wr)) (fun _ _ _ d _ => 256 - (intOf d).toNat)
 case atStart => exact ⟨0, 0, 0, 0, Nat.zero_le _, by omega, by omega, by simp [Nat.mod_one], by omega, by omega, rfl, rfl, rfl, rfl, ⟨At.refl R1.out⟩⟩
 case round =>
  obtain ⟨i, a, h, j, hi, hb1, ha, hh, hj, hj8, rfl, rfl, rfl, rfl, A0⟩ := hrel
  by_cases hlt : i < 256
  ·have hiz : (i : Int) < 256 := by omega
   obtain ⟨m, hm⟩ : ∃ m, wd * i = m := ⟨_, rfl⟩
   have hmM : m + wd ≤ 256 * wd := by
    have h1 : wd * (i + 1) ≤ wd * 256 := Nat.mul_le_mul_left _ hlt
    rw [Nat.mul_succ] at h1
    omega
   rw [hm] at hb1 hh hj
   have Hm := Away.mk (And.intro hm hmM)
   have hjb : j < wd + 8 := by omega
   clear hm hmM hj8
   go_wp2_with fail
   go_loopw [6, 7, 8] (fun v k c wr => ∃ a h j : Nat, m ≤ 8 * a ∧ a ≤ 32 * wd ∧ N % 2 ^ (8 * a) / 2 ^ m = h ∧ j + m = 8 * a ∧ j < wd + 8 ∧ v = .int .i64 (h : Int) ∧ k = .int .i64 (j : Int) ∧ c = .int .i64 (a : Int) ∧ Away (At (w.heap.size + 1) (FL .i64 256 (pt (fun i => ((bt N wd i wd : Nat) : Int)) (fun _ => 0) i)) 25 W wr)) (fun _ k _ _ => wd + 8 - (intOf k).toNat)
   case atStart => exact ⟨a, h, j, hb1, ha, hh, hj, hjb, rfl, rfl, rfl, A0⟩
   case round =>
    clear A0 hb1 ha hh hj hjb
    obtain ⟨a, h, j, hb1, ha, hh, hj, hjb, rfl, rfl, rfl, A0⟩ := hrel
    have hhl : h < 2 ^ j := by rw [← hh, show j = 8 * a - m by omega]; exact held_lt N (8 * a) m hb1
    have p31 := pow_small j 31 (by omega)
    have hh31 : h < 4294967296 := by omega
    by_cases hlt2 : j < wd
    ·have hjz : (j : Int) < (wd : Int) := by omega
     have haM : a < 32 * wd := by have := Hm.out.2; omega
     obtain ⟨β, hβ⟩ : ∃ β, (bys s).getD a 0 = β := ⟨_, rfl⟩
     have hβN := Hby.out a haM
     rw [hβ] at hβN
     have hβ8 : β < 256 := by rw [hβN]; exact Nat.mod_lt _ (by decide)
     have hidx := byte_of s a β (by omega) hβ
     obtain ⟨d, hd⟩ : ∃ d, β * 2 ^ j = d := ⟨_, rfl⟩
     have hor := or_next N (8 * a) m 8 hb1
     rw [hh, ← hβN, show 8 * a - m = j by omega, hd] at hor
     obtain ⟨h', hh'⟩ : ∃ h', N % 2 ^ (8 * a + 8) / 2 ^ m = h' := ⟨_, rfl⟩
     rw [hh'] at hor
     have p22 := pow_small j 22 (by omega)
     have hd31 : d < 4294967296 := by
      rw [← hd]
      have h1 : β * 2 ^ j ≤ 255 * 2 ^ j := Nat.mul_le_mul_right _ (by omega)
      omega
     have fd : (β : Int) * 2 ^ j = (d : Int) := by rw [← hd, Int.natCast_mul, Int.natCast_pow]; rfl
     have fdw : IntKind.i64.wrap ((β : Int) * 2 ^ j) = (d : Int) := by rw [fd, IntKind.wrap_i64]; omega
     have V := or_i64 h d (by omega) (by omega)
     rw [hor] at V
     have Hh' : Away (N % 2 ^ (8 * (a + 1)) / 2 ^ m = h') := ⟨by rw [Nat.mul_succ]; exact hh'⟩
     have hj64 : j < 64 := by omega
     have fj8 : IntKind.i64.wrap ((j : Int) + 8) = ((j + 8 : Nat) : Int) := by rw [IntKind.wrap_i64]; omega
     clear hβ hβN hd hor hh' hhl p31 p22 fd hh hh31 hd31
     go_wp2_with fail
     go_roundw
     case rel => exact ⟨a + 1, h', j + 8, by omega, by omega, Hh'.out, by omega, by omega, by go_num, by go_num, by go_num, A0⟩
     case measure => simp [intOf]; omega
    ·have hjz : ¬ (j : Int) < (wd : Int) := by omega
     obtain ⟨u, hu⟩ : ∃ u, h % 2 ^ wd = u := ⟨_, rfl⟩
     have V := and_mask h wd q1 hh31 Hq1.out (by have := Hq1b.out; omega)
     rw [hu] at V
     have Hu : Away ((u : Int) = ((bt N wd i wd : Nat) : Int)) := ⟨by
      have e := mod_div_mod N (8 * a) m wd (by omega)
      unfold bt
      rw [Hm.out.1, ← e, hh, hu]⟩
     obtain ⟨h2, hh2⟩ : ∃ h2, h / 2 ^ wd = h2 := ⟨_, rfl⟩
     have Hh2 : Away (N % 2 ^ (8 * a) / 2 ^ (wd * (i + 1)) = h2) := ⟨by rw [Nat.mul_succ, Hm.out.1, Nat.pow_add, ← Nat.div_div_eq_div_mul, hh, hh2]⟩
     have fh2 : (h : Int) / 2 ^ wd = (h2 : Int) := by rw [← hh2]; simp
     have fh3 : (h : Int) / (q : Int) = (h2 : Int) := by rw [← Hfq.out]; exact fh2
     have fjw : IntKind.i64.wrap ((j : Int) - (wd : Int)) = ((j - wd : Nat) : Int) := by rw [IntKind.wrap_i64]; omega
     have hwd64 : wd < 64 := by omega
     clear hu hh2 hh hhl p31
     go_wp2_with ((with_reducible refine wpList_put2 A0 rfl _ _ _ rfl rfl ?_); refine ⟨_, _, _, rfl, rfl, rfl, (by rw [fl_size]; exact hlt), ?_⟩; intro wn HRn; rw [fl_set, pt_upd (fun i => ((bt N wd i wd : Nat) : Int)) _ _ _ Hu.out] at HRn)
     go_roundw
     case rel => exact ⟨i + 1, a, h2, j - wd, by omega, by rw [Nat.mul_succ, Hm.out.1]; omega, ha, Hh2.out, by rw [Nat.mul_succ, Hm.out.1]; omega, by omega, by go_num, by go_num, rfl, by go_num, HRn⟩
     case measure => simp [intOf]; omega
  ·obtain rfl : i = 256 := by omega
   simp only [Int.cast_ofNat_Int]
   rw [fl_all, HR.out] at A0
   have Hrow := Away.mk A0.out.row
   have Hres : Away (wr.heap[w.heap.size]? = some (.cells z 25 (0, 0))) := ⟨A0.out.other (by omega) (by omega) R0.out⟩
   have HB : Away (Below w.heap.size w wr) := ⟨BW.out.trans (A0.out.below (by omega) (by omega))⟩
   clear A0 hh
   go_wp2_with (first
    | (refine wpList_load_row rfl 25 _ rfl (w.heap.size + 1) rfl 25 R (0, 0) _ Hrow.out Tryz.underlying25 rfl Ri.out ?_)
    | (refine wpList_store_row rfl 25 _ _ rfl w.heap.size R rfl rfl 25 _ Hres.out Ri.out Rz.out Ro.out ?_))
   refine bodyPost_ret_by (v := .agg R) (results_cell_row rfl _ _ w.heap.size 25 _ (0, 0) _ rfl (setRow_heap _ _ _ _ _ _ Hres.out) Tryz.underlying25 rfl Ri.out) rfl ?_
   exact ⟨rfl, HB.out.trans (below_setRow _ _ _ (Nat.le_refl _))⟩
end pload
namespace punp
open Go Go.RowKit
open arr mem stil bitm polys fldm rbita rbitb rbitc rbitd rbite rbitf
set_option maxRecDepth 100000 in
set_option maxHeartbeats 4000000 in
theorem unpack_bad (s : ByteArray) (most : Int) (w : World) (hm : most < 1 ∨ 8380417 ≤ most ∨ s.size ≠ 32 * lb most.toNat) :
 Calls Tryz.prog 65 #[.string s, .int .i64 most] w fun e w' => e = .returned (.tuple #[.agg (FL .i64 256 fun _ => 0), .int .i64 1]) ∧ Below w.heap.size w w' := by
 obtain ⟨hz, hsize⟩ := zero_of_info infoP
 obtain ⟨z, HZ⟩ := ex_eq (FL .i64 256 fun _ => 0)
 rw [HZ.out] at hz ⊢
 have Hzs : Away (z.size = 256) := ⟨by rw [← HZ.out]; exact fl_size _ _ _⟩
 have Zi : Away ((Tryz.prog.info? 25).map (·.size) = some z.size) := ⟨by rw [Hzs.out]; exact hsize⟩
 have Zo : Away (z.all (·.oneCell') = true) := ⟨by rw [← HZ.out]; exact fl_one _ _ _⟩
 obtain ⟨W, hW⟩ : ∃ x, w.alloc (.cells z 25) = x := ⟨_, rfl⟩
 have HW := Away.mk hW
 have BW : Away (Below w.heap.size w W) := ⟨by rw [← hW]; exact below_alloc _ _⟩
 have hrow : Away (W.heap[w.heap.size]? = some (.cells z 25 (0, 0))) := ⟨by rw [← hW]; exact heap_at _ _ _ rfl⟩
 clear hW hsize
 by_cases h1 : 1 ≤ most ∧ most < 8380417
 ·have HM : ∀ w1 : World, Calls Tryz.prog 97 #[.int .i64 most] w1 fun e w' => e = .returned (.bool true) ∧ w' = w1 := fun w1 => by
   have h := psmall.most_any most w1
   rw [decide_eq_true h1] at h
   exact h
  have hl := Away.mk (fun w1 => plong.long_any most (by omega) w1)
  have hl23 := lb_small most (by omega)
  obtain ⟨wd, hwd⟩ : ∃ x, lb most.toNat = x := ⟨_, rfl⟩
  rw [hwd] at hm hl hl23
  have HS := Away.mk (fun w1 => psmall.size_any wd (by omega) w1)
  obtain ⟨n, hn⟩ : ∃ n, 32 * wd = n := ⟨_, rfl⟩
  rw [hn] at hm HS
  have fne : ((s.size : Int) != (n : Int)) = true := by simp only [bne_iff_ne, ne_eq]; omega
  clear hwd hm hn h1
  go_enter Tryz.func65, Tryz.ntmps65
  go_wp2_with (rw [HW.out])
  refine (HM _).mono ?_
  rintro e W ⟨rfl, rfl⟩
  go_wp2_with fail
  refine (hl.out _).mono ?_
  rintro e W ⟨rfl, rfl⟩
  go_wp2_with fail
  refine (HS.out _).mono ?_
  rintro e W ⟨rfl, rfl⟩
  go_wp2_with (first | (rw [HW.out]) | (refine wpList_store_row rfl 25 _ _ rfl w.heap.size z rfl rfl 25 _ hrow.out Zi.out rfl Zo.out ?_))
  refine bodyPost_ret_by (v := .tuple #[.agg z, .int .i64 1]) (rbite.results_cell_tmp rfl _ _ w.heap.size 25 _ (0, 0) _ rfl (setRow_heap _ _ _ _ _ _ hrow.out) Tryz.underlying25 rfl Zi.out _ rfl) rfl ?_
  exact ⟨rfl, BW.out.trans (below_setRow _ _ _ (Nat.le_refl _))⟩
 ·have HM : ∀ w1 : World, Calls Tryz.prog 97 #[.int .i64 most] w1 fun e w' => e = .returned (.bool false) ∧ w' = w1 := fun w1 => by
   have h := psmall.most_any most w1
   rw [decide_eq_false h1] at h
   exact h
  clear hm h1
  go_enter Tryz.func65, Tryz.ntmps65
  go_wp2_with (rw [HW.out])
  refine (HM _).mono ?_
  rintro e W ⟨rfl, rfl⟩
  go_wp2_with (first | (rw [HW.out]) | (refine wpList_store_row rfl 25 _ _ rfl w.heap.size z rfl rfl 25 _ hrow.out Zi.out rfl Zo.out ?_))
  refine bodyPost_ret_by (v := .tuple #[.agg z, .int .i64 1]) (rbite.results_cell_tmp rfl _ _ w.heap.size 25 _ (0, 0) _ rfl (setRow_heap _ _ _ _ _ _ hrow.out) Tryz.underlying25 rfl Zi.out _ rfl) rfl ?_
  exact ⟨rfl, BW.out.trans (below_setRow _ _ _ (Nat.le_refl _))⟩
set_option maxRecDepth 100000 in
set_option maxHeartbeats 4000000 in
theorem unpack_any (s : ByteArray) (most : Int) (w : World) (h1 : 1 ≤ most) (h2 : most < 8380417) (hs : s.size = 32 * lb most.toNat) :
 Calls Tryz.prog 65 #[.string s, .int .i64 most] w fun e w' => e = .returned (if inb (up s (lb most.toNat)) most then .tuple #[.agg (FL .i64 256 (up s (lb most.toNat))), .int .i64 0] else .tuple #[.agg (FL .i64 256 fun _ => 0), .int .i64 3]) ∧ Below w.heap.size w w' := by
 obtain ⟨hz, hsize⟩ := zero_of_info infoP
 have HM : ∀ w1 : World, Calls Tryz.prog 97 #[.int .i64 most] w1 fun e w' => e = .returned (.bool true) ∧ w' = w1 := fun w1 => by
  have h := psmall.most_any most w1
  rw [decide_eq_true ⟨h1, h2⟩] at h
  exact h
 have hl := Away.mk (fun w1 => plong.long_any most (by omega) w1)
 have hl1 := bitp.lb_pos most h1 h2
 have hl23 := lb_small most (by omega)
 obtain ⟨wd, hwd⟩ : ∃ x, lb most.toNat = x := ⟨_, rfl⟩
 rw [hwd] at hs hl hl1 hl23 ⊢
 have HN := Away.mk (fun w1 => pload.load_any s wd w1 hl1 hl23 hs)
 have HS := Away.mk (fun w1 => psmall.size_any wd (by omega) w1)
 obtain ⟨f, Hf⟩ := ex_eq (up s wd)
 rw [Hf.out] at HN
 rw [Hf.out]
 have Hpos : Away (∀ i, 0 ≤ f i) := ⟨fun i => by rw [← Hf.out]; exact Int.natCast_nonneg _⟩
 have Hidx : Away (∀ i : Nat, i < 256 → ∀ w1, (Instr.index 25 (.agg (FL .i64 256 f)) (.int .i64 (i : Int))).run Tryz.prog w1 = .ok (.int .i64 (f i)) w1) := ⟨fun i hi w1 => index_row (P := Tryz.prog) Tryz.underlying25 (by kernel_rfl) (by kernel_rfl) (by kernel_rfl) _ _ i hi (fl_get .i64 256 f i hi) w1⟩
 obtain ⟨z, HZ⟩ := ex_eq (FL .i64 256 fun _ => 0)
 rw [HZ.out] at hz ⊢
 have Hzs : Away (z.size = 256) := ⟨by rw [← HZ.out]; exact fl_size _ _ _⟩
 have Zi : Away ((Tryz.prog.info? 25).map (·.size) = some z.size) := ⟨by rw [Hzs.out]; exact hsize⟩
 have Zo : Away (z.all (·.oneCell') = true) := ⟨by rw [← HZ.out]; exact fl_one _ _ _⟩
 have Gs : Away ((FL .i64 256 f).size = 256) := ⟨fl_size _ _ _⟩
 have Go : Away ((FL .i64 256 f).all (·.oneCell') = true) := ⟨fl_one _ _ _⟩
 obtain ⟨G, HG⟩ := ex_eq (FL .i64 256 f)
 rw [HG.out] at HN Hidx Gs Go ⊢
 have Gi : Away ((Tryz.prog.info? 25).map (·.size) = some G.size) := ⟨by rw [Gs.out]; exact hsize⟩
 obtain ⟨V, HV⟩ := ex_eq (if inb f most then Value.tuple #[.agg G, .int .i64 0] else .tuple #[.agg z, .int .i64 3])
 rw [HV.out]
 obtain ⟨W, hW⟩ : ∃ x, w.alloc (.cells z 25) = x := ⟨_, rfl⟩
 have HW := Away.mk hW
 have BW : Away (Below w.heap.size w W) := ⟨by rw [← hW]; exact below_alloc _ _⟩
 have hrow : Away (W.heap[w.heap.size]? = some (.cells z 25 (0, 0))) := ⟨by rw [← hW]; exact heap_at _ _ _ rfl⟩
 have hWs : Away (W.heap.size = w.heap.size + 1) := ⟨by rw [← hW, size_alloc]⟩
 obtain ⟨n, hn⟩ : ∃ n, 32 * wd = n := ⟨_, rfl⟩
 rw [hn] at HS
 have fne : ((s.size : Int) != (n : Int)) = false := by rw [show (s.size : Int) = (n : Int) by omega]; simp
 clear hW hsize hwd hs hn Hf HZ HG h1 h2 hl1
 go_enter Tryz.func65, Tryz.ntmps65
 go_wp2_with (rw [HW.out])
 refine (HM _).mono ?_
 rintro e W ⟨rfl, rfl⟩
 go_wp2_with fail
 refine (hl.out _).mono ?_
 rintro e W ⟨rfl, rfl⟩
 go_wp2_with fail
 refine (HS.out _).mono ?_
 rintro e W ⟨rfl, rfl⟩
 go_wp2_with fail
 refine (hl.out _).mono ?_
 rintro e W ⟨rfl, rfl⟩
 go_wp2_with fail
 refine (HN.out _).mono ?_
 rintro e w2 ⟨rfl, hb2⟩
 have hrow2 : Away (w2.heap[w.heap.size]? = some (.cells z 25 (0, 0))) := ⟨(hb2.block w.heap.size (by rw [hWs.out]; omega)).trans hrow.out⟩
 have B2 : Away (Below w.heap.size w w2) := ⟨BW.out.trans (hb2.mono (by rw [hWs.out]; omega))⟩
 have hlt2 : w.heap.size < w2.heap.size := by have := hb2.size; rw [hWs.out] at this; omega
 obtain ⟨W3, hW3⟩ : ∃ x, w2.alloc (.cells G 25) = x := ⟨_, rfl⟩
 have HW3 := Away.mk hW3
 have r3 : Away (W3.heap[w2.heap.size]? = some (.cells G 25 (0, 0))) := ⟨by rw [← hW3]; exact heap_at _ _ _ rfl⟩
 have r0 : Away (W3.heap[w.heap.size]? = some (.cells z 25 (0, 0))) := ⟨by rw [← hW3, heap_past _ _ _ hlt2]; exact hrow2.out⟩
 have B3 : Away (Below w.heap.size w W3) := ⟨by rw [← hW3]; exact B2.out.alloc (by omega) _⟩
 clear hb2 hW3 hlt2
 go_wp2_with (first
  | ((with_reducible refine wpList_store_new rfl 25 _ _ rfl G ?hx ?hy ?hi ?ho ?h1 ?hn ?_); (case hx => rfl); (case hy => rfl); (case hi => exact Gi.out); (case ho => rw [Hzs.out, Gs.out]); (case h1 => exact Go.out); (case hn => rfl); rw [HW3.out])
  | (refine wpList_load_row rfl 25 _ rfl w2.heap.size rfl 25 G (0, 0) _ r3.out Tryz.underlying25 rfl Gi.out ?_))
 go_loopw [26] (fun c wr => ∃ j : Nat, j ≤ 256 ∧ c = .int .i64 (j : Int) ∧ Away (∀ i, i < j → f i ≤ most) ∧ W3 = wr) (fun c _ => 256 - (intOf c).toNat)
 case atStart => exact ⟨0, Nat.zero_le _, rfl, ⟨fun i hi => by omega⟩, rfl⟩
 case round =>
  obtain ⟨j, hj, rfl, Hin, rfl⟩ := hrel
  by_cases hlt : j < 256
  ·have hjz : (j : Int) < 256 := by omega
   have hidx := Hidx.out j hlt
   obtain ⟨x, hx⟩ : ∃ x, f j = x := ⟨_, rfl⟩
   rw [hx] at hidx
   by_cases hbad : most < x
   ·have hV : Away (V = .tuple #[.agg z, .int .i64 3]) := ⟨by rw [← HV.out, if_neg]; intro hall; have := hall j hlt; rw [hx] at this; omega⟩
    clear hx
    go_wp2_with (refine wpList_store_row rfl 25 _ _ rfl w.heap.size z rfl rfl 25 _ r0.out Zi.out rfl Zo.out ?_)
    refine bodyPost_ret_by (v := .tuple #[.agg z, .int .i64 3]) (rbite.results_cell_tmp rfl _ _ w.heap.size 25 _ (0, 0) _ rfl (setRow_heap _ _ _ _ _ _ r0.out) Tryz.underlying25 rfl Zi.out _ rfl) rfl ?_
    exact ⟨by rw [hV.out], B3.out.trans (below_setRow _ _ _ (Nat.le_refl _))⟩
   ·have Hin2 : Away (∀ i, i < j + 1 → f i ≤ most) := ⟨fun i hi => by
     by_cases e : i = j
     ·subst e; rw [hx]; omega
     ·exact Hin.out i (by omega)⟩
    clear hx
    go_wp2_with fail
    go_roundw
    case rel => exact ⟨j + 1, by omega, by go_num, Hin2, trivial⟩
    case measure => simp [intOf]; omega
  ·obtain rfl : j = 256 := by omega
   simp only [Int.cast_ofNat_Int]
   have hV : Away (V = .tuple #[.agg G, .int .i64 0]) := ⟨by rw [← HV.out, if_pos]; exact fun i hi => ⟨Hpos.out i, Hin.out i hi⟩⟩
   clear hj hlt
   go_wp2_with (first
    | (refine wpList_load_row rfl 25 _ rfl w2.heap.size rfl 25 G (0, 0) _ r3.out Tryz.underlying25 rfl Gi.out ?_)
    | (refine wpList_store_row rfl 25 _ _ rfl w.heap.size G rfl rfl 25 _ r0.out Gi.out (by rw [Hzs.out, Gs.out]) Go.out ?_))
   refine bodyPost_ret_by (v := .tuple #[.agg G, .int .i64 0]) (rbite.results_cell_tmp rfl _ _ w.heap.size 25 _ (0, 0) _ rfl (setRow_heap _ _ _ _ _ _ r0.out) Tryz.underlying25 rfl Gi.out _ rfl) rfl ?_
   exact ⟨by rw [hV.out], B3.out.trans (below_setRow _ _ _ (Nat.le_refl _))⟩
end punp
namespace puns
open Go Go.RowKit
open arr mem stil bitm polys fldm rbita rbitb rbitc rbitd rbite rbitf fld1 rbitg
set_option maxRecDepth 100000 in
set_option maxHeartbeats 2000000 in
theorem unsigned_bad (s : ByteArray) (low high : Int) (w : World) (hm : ¬ (0 ≤ low ∧ low < 4190208 ∧ 1 ≤ high ∧ high < 4190208)) :
 Calls Tryz.prog 68 #[.string s, .int .i64 low, .int .i64 high] w fun e w' => e = .returned (.tuple #[.agg (FL .i64 256 fun _ => 0), .int .i64 1]) ∧ Below w.heap.size w w' := by
 obtain ⟨hz, hsize⟩ := zero_of_info infoP
 obtain ⟨z, HZ⟩ := ex_eq (FL .i64 256 fun _ => 0)
 rw [HZ.out] at hz ⊢
 have Hzs : Away (z.size = 256) := ⟨by rw [← HZ.out]; exact fl_size _ _ _⟩
 have Zi : Away ((Tryz.prog.info? 25).map (·.size) = some z.size) := ⟨by rw [Hzs.out]; exact hsize⟩
 have Zo : Away (z.all (·.oneCell') = true) := ⟨by rw [← HZ.out]; exact fl_one _ _ _⟩
 obtain ⟨W, hW⟩ : ∃ x, w.alloc (.cells z 25) = x := ⟨_, rfl⟩
 have HW := Away.mk hW
 have BW : Away (Below w.heap.size w W) := ⟨by rw [← hW]; exact below_alloc _ _⟩
 have hrow : Away (W.heap[w.heap.size]? = some (.cells z 25 (0, 0))) := ⟨by rw [← hW]; exact heap_at _ _ _ rfl⟩
 clear hW hsize
 have HM : ∀ w1 : World, Calls Tryz.prog 100 #[.int .i64 low, .int .i64 high] w1 fun e w' => e = .returned (.bool false) ∧ w' = w1 := fun w1 => by
  have h := psmall.ends_any low high w1
  rw [decide_eq_false hm] at h
  exact h
 clear hm
 go_enter Tryz.func68, Tryz.ntmps68
 go_wp2_with (rw [HW.out])
 refine (HM _).mono ?_
 rintro e W ⟨rfl, rfl⟩
 go_wp2_with (refine wpList_store_row rfl 25 _ _ rfl w.heap.size z rfl rfl 25 _ hrow.out Zi.out rfl Zo.out ?_)
 refine bodyPost_ret_by (v := .tuple #[.agg z, .int .i64 1]) (rbite.results_cell_tmp rfl _ _ w.heap.size 25 _ (0, 0) _ rfl (setRow_heap _ _ _ _ _ _ hrow.out) Tryz.underlying25 rfl Zi.out _ rfl) rfl ?_
 exact ⟨rfl, BW.out.trans (below_setRow _ _ _ (Nat.le_refl _))⟩
set_option maxRecDepth 100000 in
set_option maxHeartbeats 4000000 in
theorem unsigned_err (s : ByteArray) (low high : Int) (w : World) (c : Int) (h1 : 0 ≤ low) (h2 : 1 ≤ high) (h3 : low < 4190208) (h4 : high < 4190208) (hc : c ≠ 0)
 (hu : ∀ w1 : World, Calls Tryz.prog 65 #[.string s, .int .i64 (low + high)] w1 fun e w' => e = .returned (.tuple #[.agg (FL .i64 256 fun _ => 0), .int .i64 c]) ∧ Below w1.heap.size w1 w') :
 Calls Tryz.prog 68 #[.string s, .int .i64 low, .int .i64 high] w fun e w' => e = .returned (.tuple #[.agg (FL .i64 256 fun _ => 0), .int .i64 c]) ∧ Below w.heap.size w w' := by
 have HU := Away.mk hu
 clear hu
 obtain ⟨hz, hsize⟩ := zero_of_info infoP
 obtain ⟨z, HZ⟩ := ex_eq (FL .i64 256 fun _ => 0)
 rw [HZ.out] at hz HU ⊢
 have Hzs : Away (z.size = 256) := ⟨by rw [← HZ.out]; exact fl_size _ _ _⟩
 have Zi : Away ((Tryz.prog.info? 25).map (·.size) = some z.size) := ⟨by rw [Hzs.out]; exact hsize⟩
 have Zo : Away (z.all (·.oneCell') = true) := ⟨by rw [← HZ.out]; exact fl_one _ _ _⟩
 obtain ⟨W, hW⟩ : ∃ x, w.alloc (.cells z 25) = x := ⟨_, rfl⟩
 have HW := Away.mk hW
 have BW : Away (Below w.heap.size w W) := ⟨by rw [← hW]; exact below_alloc _ _⟩
 have hrow : Away (W.heap[w.heap.size]? = some (.cells z 25 (0, 0))) := ⟨by rw [← hW]; exact heap_at _ _ _ rfl⟩
 have hWs : Away (W.heap.size = w.heap.size + 1) := ⟨by rw [← hW, size_alloc]⟩
 have HM : ∀ w1 : World, Calls Tryz.prog 100 #[.int .i64 low, .int .i64 high] w1 fun e w' => e = .returned (.bool true) ∧ w' = w1 := fun w1 => by
  have h := psmall.ends_any low high w1
  rw [decide_eq_true ⟨h1, h3, h2, h4⟩] at h
  exact h
 have fl2 : IntKind.i64.wrap (low + high) = low + high := by rw [IntKind.wrap_i64]; omega
 have fc : (c != 0) = true := by simpa using hc
 clear hW hsize HZ h1 h2 h3 h4 hc
 go_enter Tryz.func68, Tryz.ntmps68
 go_wp2_with (rw [HW.out])
 refine (HM _).mono ?_
 rintro e W ⟨rfl, rfl⟩
 go_wp2_with fail
 refine (HU.out _).mono ?_
 rintro e w2 ⟨rfl, hb2⟩
 have hrow2 : Away (w2.heap[w.heap.size]? = some (.cells z 25 (0, 0))) := ⟨(hb2.block w.heap.size (by rw [hWs.out]; omega)).trans hrow.out⟩
 have B2 : Away (Below w.heap.size w w2) := ⟨BW.out.trans (hb2.mono (by rw [hWs.out]; omega))⟩
 have hlt2 : w.heap.size < w2.heap.size := by have := hb2.size; rw [hWs.out] at this; omega
 obtain ⟨W3, hW3⟩ : ∃ x, w2.alloc (.cells z 25) = x := ⟨_, rfl⟩
 have HW3 := Away.mk hW3
 have r3 : Away (W3.heap[w2.heap.size]? = some (.cells z 25 (0, 0))) := ⟨by rw [← hW3]; exact heap_at _ _ _ rfl⟩
 have r0 : Away (W3.heap[w.heap.size]? = some (.cells z 25 (0, 0))) := ⟨by rw [← hW3, heap_past _ _ _ hlt2]; exact hrow2.out⟩
 have B3 : Away (Below w.heap.size w W3) := ⟨by rw [← hW3]; exact B2.out.alloc (by omega) _⟩
 clear hb2 hW3 hlt2
 go_wp2_with (first
  | ((with_reducible refine wpList_store_new rfl 25 _ _ rfl z ?hx ?hy ?hi ?ho ?h1 ?hn ?_); (case hx => rfl); (case hy => rfl); (case hi => exact Zi.out); (case ho => rfl); (case h1 => exact Zo.out); (case hn => rfl); rw [HW3.out])
  | (refine wpList_load_row rfl 25 _ rfl w2.heap.size rfl 25 z (0, 0) _ r3.out Tryz.underlying25 rfl Zi.out ?_)
  | (refine wpList_store_row rfl 25 _ _ rfl w.heap.size z rfl rfl 25 _ r0.out Zi.out rfl Zo.out ?_))
 refine bodyPost_ret_by (v := .tuple #[.agg z, .int .i64 c]) (rbite.results_cell_tmp rfl _ _ w.heap.size 25 _ (0, 0) _ rfl (setRow_heap _ _ _ _ _ _ r0.out) Tryz.underlying25 rfl Zi.out _ rfl) rfl ?_
 exact ⟨rfl, B3.out.trans (below_setRow _ _ _ (Nat.le_refl _))⟩
set_option maxRecDepth 100000 in
set_option maxHeartbeats 4000000 in
theorem unsigned_good (s : ByteArray) (low high : Int) (w : World) (f : Nat → Int) (h1 : 0 ≤ low) (h2 : 1 ≤ high) (h3 : low < 4190208) (h4 : high < 4190208) (hf : ∀ i, i < 256 → 0 ≤ f i ∧ f i ≤ low + high)
 (hu : ∀ w1 : World, Calls Tryz.prog 65 #[.string s, .int .i64 (low + high)] w1 fun e w' => e = .returned (.tuple #[.agg (FL .i64 256 f), .int .i64 0]) ∧ Below w1.heap.size w1 w') :
 Calls Tryz.prog 68 #[.string s, .int .i64 low, .int .i64 high] w fun e w' => e = .returned (.tuple #[.agg (FL .i64 256 (un f high)), .int .i64 0]) ∧ Below w.heap.size w w' := by
 have HU := Away.mk hu
 have Hf := Away.mk hf
 clear hu hf
 have Hidx : Away (∀ i : Nat, i < 256 → ∀ w1, (Instr.index 25 (.agg (FL .i64 256 f)) (.int .i64 (i : Int))).run Tryz.prog w1 = .ok (.int .i64 (f i)) w1) := ⟨fun i hi w1 => index_row (P := Tryz.prog) Tryz.underlying25 (by kernel_rfl) (by kernel_rfl) (by kernel_rfl) _ _ i hi (fl_get .i64 256 f i hi) w1⟩
 obtain ⟨hz, hsize⟩ := zero_of_info infoP
 obtain ⟨z, HZ⟩ := ex_eq (FL .i64 256 fun _ => 0)
 rw [HZ.out] at hz
 have Hzs : Away (z.size = 256) := ⟨by rw [← HZ.out]; exact fl_size _ _ _⟩
 have Fs : Away ((FL .i64 256 f).size = 256) := ⟨fl_size _ _ _⟩
 have Fo : Away ((FL .i64 256 f).all (·.oneCell') = true) := ⟨fl_one _ _ _⟩
 have Hpz : Away (FL .i64 256 (pt (un f high) f 0) = FL .i64 256 f) := ⟨by rw [pt_zero]⟩
 obtain ⟨F, HF⟩ := ex_eq (FL .i64 256 f)
 rw [HF.out] at HU Hidx Fs Fo Hpz
 have Fi : Away ((Tryz.prog.info? 25).map (·.size) = some F.size) := ⟨by rw [Fs.out]; exact hsize⟩
 have Gs : Away ((FL .i64 256 (un f high)).size = 256) := ⟨fl_size _ _ _⟩
 have Go : Away ((FL .i64 256 (un f high)).all (·.oneCell') = true) := ⟨fl_one _ _ _⟩
 have Hall : Away (FL .i64 256 (pt (un f high) f 256) = FL .i64 256 (un f high)) := ⟨fl_all _ _ _ _⟩
 obtain ⟨G, HG⟩ := ex_eq (FL .i64 256 (un f high))
 rw [HG.out] at Gs Go Hall ⊢
 have Gi : Away ((Tryz.prog.info? 25).map (·.size) = some G.size) := ⟨by rw [Gs.out]; exact hsize⟩
 obtain ⟨W, hW⟩ : ∃ x, w.alloc (.cells z 25) = x := ⟨_, rfl⟩
 have HW := Away.mk hW
 have BW : Away (Below w.heap.size w W) := ⟨by rw [← hW]; exact below_alloc _ _⟩
 have hrow : Away (W.heap[w.heap.size]? = some (.cells z 25 (0, 0))) := ⟨by rw [← hW]; exact heap_at _ _ _ rfl⟩
 have hWs : Away (W.heap.size = w.heap.size + 1) := ⟨by rw [← hW, size_alloc]⟩
 have HM : ∀ w1 : World, Calls Tryz.prog 100 #[.int .i64 low, .int .i64 high] w1 fun e w' => e = .returned (.bool true) ∧ w' = w1 := fun w1 => by
  have h := psmall.ends_any low high w1
  rw [decide_eq_true ⟨h1, h3, h2, h4⟩] at h
  exact h
 have fl2 : IntKind.i64.wrap (low + high) = low + high := by rw [IntKind.wrap_i64]; omega
 have HL := Away.mk (And.intro h1 (And.intro h2 (And.intro h3 h4)))
 clear hW hsize HZ HG HF h1 h2 h3 h4
 go_enter Tryz.func68, Tryz.ntmps68
 go_wp2_with (rw [HW.out])
 refine (HM _).mono ?_
 rintro e W ⟨rfl, rfl⟩
 go_wp2_with fail
 refine (HU.out _).mono ?_
 rintro e w2 ⟨rfl, hb2⟩
 have hrow2 : Away (w2.heap[w.heap.size]? = some (.cells z 25 (0, 0))) := ⟨(hb2.block w.heap.size (by rw [hWs.out]; omega)).trans hrow.out⟩
 have B2 : Away (Below w.heap.size w w2) := ⟨BW.out.trans (hb2.mono (by rw [hWs.out]; omega))⟩
 have hlt2 : w.heap.size < w2.heap.size := by have := hb2.size; rw [hWs.out] at this; omega
 obtain ⟨W3, hW3⟩ : ∃ x, w2.alloc (.cells F 25) = x := ⟨_, rfl⟩
 have HW3 := Away.mk hW3
 have r3 : Away (W3.heap[w2.heap.size]? = some (.cells F 25 (0, 0))) := ⟨by rw [← hW3]; exact heap_at _ _ _ rfl⟩
 have r0 : Away (W3.heap[w.heap.size]? = some (.cells z 25 (0, 0))) := ⟨by rw [← hW3, heap_past _ _ _ hlt2]; exact hrow2.out⟩
 have B3 : Away (Below w.heap.size w W3) := ⟨by rw [← hW3]; exact B2.out.alloc (by omega) _⟩
 have A0 : Away (At w2.heap.size (FL .i64 256 (pt (un f high) f 0)) 25 W3 W3) := ⟨by rw [Hpz.out]; exact At.refl r3.out⟩
 have Hlt2 := Away.mk hlt2
 clear hb2 hW3 hlt2
 go_wp2_with (first
  | ((with_reducible refine wpList_store_new rfl 25 _ _ rfl F ?hx ?hy ?hi ?ho ?h1 ?hn ?_); (case hx => rfl); (case hy => rfl); (case hi => exact Fi.out); (case ho => rw [Hzs.out, Fs.out]); (case h1 => exact Fo.out); (case hn => rfl); rw [HW3.out])
  | (refine wpList_load_row rfl 25 _ rfl w2.heap.size rfl 25 F (0, 0) _ r3.out Tryz.underlying25 rfl Fi.out ?_))
 go_loopw [30] (fun c wr => ∃ j : Nat, j ≤ 256 ∧ c = .int .i64 (j : Int) ∧ Away (At w2.heap.size (FL .i64 256 (pt (un f high) f j)) 25 W3 wr)) (fun c _ => 256 - (intOf c).toNat)
 case atStart => exact ⟨0, Nat.zero_le _, rfl, A0⟩
 case round =>
  clear A0
  obtain ⟨j, hj, rfl, A0⟩ := hrel
  by_cases hlt : j < 256
  ·have hjz : (j : Int) < 256 := by omega
   have hidx := Hidx.out j hlt
   have hfj := Hf.out j hlt
   obtain ⟨x, hx⟩ : ∃ x, f j = x := ⟨_, rfl⟩
   rw [hx] at hidx hfj
   have fs : IntKind.i64.wrap (high - x) = high - x := by rw [IntKind.wrap_i64]; have := HL.out; omega
   have hun : Away ((high - x) % 8380417 = un f high j) := ⟨by unfold un; rw [hx]⟩
   have Hre := Away.mk (fun w1 => reduce_any (high - x) w1)
   obtain ⟨y, hy⟩ : ∃ y, (high - x) % 8380417 = y := ⟨_, rfl⟩
   rw [hy] at hun Hre
   clear hx hy hfj
   go_wp2_with fail
   refine (Hre.out _).mono ?_
   rintro e w5 ⟨rfl, rfl⟩
   clear hidx
   go_wp2_with ((with_reducible refine wpList_put2 A0 rfl _ _ _ rfl rfl ?_); refine ⟨_, _, _, rfl, rfl, rfl, (by rw [fl_size]; exact hlt), ?_⟩; intro wn HR; rw [fl_set, pt_upd _ _ _ _ hun.out] at HR)
   go_roundw
   case rel => exact ⟨j + 1, by omega, by go_num, HR⟩
   case measure => simp [intOf]; omega
  ·obtain rfl : j = 256 := by omega
   simp only [Int.cast_ofNat_Int]
   rw [Hall.out] at A0
   have rg := Away.mk A0.out.row
   have rz : Away (wr.heap[w.heap.size]? = some (.cells z 25 (0, 0))) := ⟨A0.out.other (Array.getElem?_eq_some_iff.1 r0.out).1 (by have := Hlt2.out; omega) r0.out⟩
   have BE : Away (Below w.heap.size w wr) := ⟨B3.out.trans (A0.out.below (by exact B3.out.size) (by have := Hlt2.out; omega))⟩
   clear A0 hj hlt
   go_wp2_with (first
    | (refine wpList_load_row rfl 25 _ rfl w2.heap.size rfl 25 G (0, 0) _ rg.out Tryz.underlying25 rfl Gi.out ?_)
    | (refine wpList_store_row rfl 25 _ _ rfl w.heap.size G rfl rfl 25 _ rz.out Gi.out (by rw [Hzs.out, Gs.out]) Go.out ?_))
   refine bodyPost_ret_by (v := .tuple #[.agg G, .int .i64 0]) (rbite.results_cell_tmp rfl _ _ w.heap.size 25 _ (0, 0) _ rfl (setRow_heap _ _ _ _ _ _ rz.out) Tryz.underlying25 rfl Gi.out _ rfl) rfl ?_
   exact ⟨rfl, BE.out.trans (below_setRow _ _ _ (Nat.le_refl _))⟩
end puns
end Go.Proofs.YtlcafjdehcddcaaGreatDoor
