/-
  What package bits' load returns: 256 numbers of a fixed width out of bytes. Conditions: the width is from 1 to 23, the string has the bytes.
-/
import Derived.Test.YtdlolhilmhlklaaDoorBiD
import Derived.Test.YtdlolhilmhlklaaDoorBitN
namespace Go.Proofs.YtdlolhilmhlklaaDoor.pload
open Go Go.RowKit
open Go.Proofs.YtdlolhilmhlklaaDoor.arr Go.Proofs.YtdlolhilmhlklaaDoor.mem Go.Proofs.YtdlolhilmhlklaaDoor.stil Go.Proofs.YtdlolhilmhlklaaDoor.bitm Go.Proofs.YtdlolhilmhlklaaDoor.bitn Go.Proofs.YtdlolhilmhlklaaDoor.polys Go.Proofs.YtdlolhilmhlklaaDoor.rbitb Go.Proofs.YtdlolhilmhlklaaDoor.rbitc Go.Proofs.YtdlolhilmhlklaaDoor.rbitd Go.Proofs.YtdlolhilmhlklaaDoor.rbitf

theorem and_mask (h wd k : Nat) (hh : h < 4294967296) (hk : 2 ^ wd - 1 = k) (hk2 : k < 4294967296) : bits .and .i64 (h : Int) (k : Int) = ((h % 2 ^ wd : Nat) : Int) := by
  have h0 : h % 2 ^ wd ≤ h := Nat.mod_le _ _
  show IntKind.i64.wrap ((BitVec.ofInt 64 (h : Int) &&& BitVec.ofInt 64 (k : Int)).toNat : Int) = _
  rw [BitVec.ofInt_natCast, BitVec.ofInt_natCast, BitVec.toNat_and, BitVec.toNat_ofNat, BitVec.toNat_ofNat, Nat.mod_eq_of_lt (by omega), Nat.mod_eq_of_lt (by omega), ← hk, Nat.and_two_pow_sub_one_eq_mod, IntKind.wrap_i64]
  omega
set_option maxRecDepth 100000 in
set_option maxHeartbeats 4000000 in
theorem load_any (s : ByteArray) (wd : Nat) (w : World) (hw0 : 1 ≤ wd) (hw : wd ≤ 23) (hs : s.size = 32 * wd) :
    Calls Tryd.prog 19 #[.string s, .int .i64 (wd : Int)] w fun e w' => e = .returned (.agg (FL .i64 256 (up s wd))) ∧ Below w.heap.size w w' := by
  unfold up
  obtain ⟨hz, hsize⟩ := zero_of_info infoP
  obtain ⟨z, HZ⟩ := ex_eq (FL .i64 256 fun _ => 0)
  rw [HZ.out] at hz
  have Hzs : Away (z.size = 256) := ⟨by rw [← HZ.out]; exact fl_size _ _ _⟩
  obtain ⟨N, HN⟩ := ex_eq (pk 8 (bys s))
  rw [HN.out]
  obtain ⟨R, HR⟩ := ex_eq (FL .i64 256 fun i => ((bt N wd i wd : Nat) : Int))
  have Ri : Away ((Tryd.prog.info? 25).map (·.size) = some R.size) := ⟨by rw [← HR.out, fl_size]; exact hsize⟩
  have Ro : Away (R.all (·.oneCell') = true) := ⟨by rw [← HR.out]; exact fl_one _ _ _⟩
  have Rz : Away (z.size = R.size) := ⟨by rw [Hzs.out, ← HR.out, fl_size]⟩
  rw [HR.out]
  obtain ⟨W, hW⟩ : ∃ x, (w.alloc (.cells z 25)).alloc (.cells z 25) = x := ⟨_, rfl⟩
  have HW := Away.mk hW
  have hWs : W.heap.size = w.heap.size + 2 := by rw [← hW, size_alloc, size_alloc]
  have BW : Away (Below w.heap.size w W) := ⟨by rw [← hW]; exact ((Below.refl _ _).alloc (Nat.le_refl _) _).alloc (by rw [size_alloc]; omega) _⟩
  have R0 : Away (W.heap[w.heap.size]? = some (.cells z 25 (0, 0))) := ⟨by rw [← hW, heap_past _ _ _ (by rw [size_alloc]; omega)]; exact heap_at _ _ _ rfl⟩
  have R1 : Away (W.heap[w.heap.size + 1]? = some (.cells (FL .i64 256 (pt (fun i => ((bt N wd i wd : Nat) : Int)) (fun _ => 0) 0)) 25 (0, 0))) := ⟨by rw [← hW, pt_zero, HZ.out]; exact heap_at _ _ _ (by rw [size_alloc])⟩
  have Hby : Away (∀ a, a < 32 * wd → (bys s).getD a 0 = N / 2 ^ (8 * a) % 2 ^ 8) := ⟨fun a ha => by
    rw [← HN.out, pk_at 8 (bys s) (bys_lt s) a (by rw [bys_length]; omega), List.getD_eq_getElem?_getD, List.getElem?_eq_getElem (by rw [bys_length]; omega)]; rfl⟩
  have pw := pow_small wd 23 hw
  obtain ⟨q, hq⟩ : ∃ q, 2 ^ wd = q := ⟨_, rfl⟩
  have hq0 : 0 < q := by rw [← hq]; exact Nat.two_pow_pos _
  rw [hq] at pw
  obtain ⟨q1, hq1⟩ : ∃ q1, q - 1 = q1 := ⟨_, rfl⟩
  have Hq := Away.mk hq
  have Hq1 : Away (2 ^ wd - 1 = q1) := ⟨by rw [hq, hq1]⟩
  have fq : (2 : Int) ^ wd = (q : Int) := by rw [← hq, Int.natCast_pow]; rfl
  have fqw : IntKind.i64.wrap ((2 : Int) ^ wd) = (q : Int) := by rw [fq, IntKind.wrap_i64]; omega
  have fqw2 : IntKind.i64.wrap (1 * (2 : Int) ^ wd) = (q : Int) := by rw [Int.one_mul]; exact fqw
  have fq1 : IntKind.i64.wrap ((q : Int) - 1) = (q1 : Int) := by rw [IntKind.wrap_i64]; omega
  have Hq1b : Away (q1 < 8388608) := ⟨by omega⟩
  have Hfq := Away.mk fq
  clear hW hsize hq hq1 pw hq0 fq
  go_enter Tryd.func19, Tryd.ntmps19
  go_wp2_with (rw [HW.out])
  clear hz
  go_loopw [6, 7, 8, 10] (fun v k c d wr => ∃ i a h j : Nat, i ≤ 256 ∧ wd * i ≤ 8 * a ∧ a ≤ 32 * wd ∧ N % 2 ^ (8 * a) / 2 ^ (wd * i) = h ∧ j + wd * i = 8 * a ∧ j < 8 ∧ v = .int .i64 (h : Int) ∧ k = .int .i64 (j : Int) ∧ c = .int .i64 (a : Int) ∧ d = .int .i64 (i : Int) ∧ Away (At (w.heap.size + 1) (FL .i64 256 (pt (fun i => ((bt N wd i wd : Nat) : Int)) (fun _ => 0) i)) 25 W wr)) (fun _ _ _ d _ => 256 - (intOf d).toNat)
  case atStart => exact ⟨0, 0, 0, 0, Nat.zero_le _, by omega, by omega, by simp [Nat.mod_one], by omega, by omega, rfl, rfl, rfl, rfl, ⟨At.refl R1.out⟩⟩
  case round =>
    obtain ⟨i, a, h, j, hi, hb1, ha, hh, hj, hj8, rfl, rfl, rfl, rfl, A0⟩ := hrel
    by_cases hlt : i < 256
    · have hiz : (i : Int) < 256 := by omega
      obtain ⟨m, hm⟩ : ∃ m, wd * i = m := ⟨_, rfl⟩
      have hmM : m + wd ≤ 256 * wd := by
        have h1 : wd * (i + 1) ≤ wd * 256 := Nat.mul_le_mul_left _ hlt
        rw [Nat.mul_succ] at h1
        omega
      rw [hm] at hb1 hh hj
      have Hm := Away.mk (And.intro hm hmM)
      have hjb : j < wd + 8 := by omega
      clear hm hmM hj8
      go_wp2_with fail
      go_loopw [6, 7, 8] (fun v k c wr => ∃ a h j : Nat, m ≤ 8 * a ∧ a ≤ 32 * wd ∧ N % 2 ^ (8 * a) / 2 ^ m = h ∧ j + m = 8 * a ∧ j < wd + 8 ∧ v = .int .i64 (h : Int) ∧ k = .int .i64 (j : Int) ∧ c = .int .i64 (a : Int) ∧ Away (At (w.heap.size + 1) (FL .i64 256 (pt (fun i => ((bt N wd i wd : Nat) : Int)) (fun _ => 0) i)) 25 W wr)) (fun _ k _ _ => wd + 8 - (intOf k).toNat)
      case atStart => exact ⟨a, h, j, hb1, ha, hh, hj, hjb, rfl, rfl, rfl, A0⟩
      case round =>
        clear A0 hb1 ha hh hj hjb
        obtain ⟨a, h, j, hb1, ha, hh, hj, hjb, rfl, rfl, rfl, A0⟩ := hrel
        have hhl : h < 2 ^ j := by rw [← hh, show j = 8 * a - m by omega]; exact held_lt N (8 * a) m hb1
        have p31 := pow_small j 31 (by omega)
        have hh31 : h < 4294967296 := by omega
        by_cases hlt2 : j < wd
        · have hjz : (j : Int) < (wd : Int) := by omega
          have haM : a < 32 * wd := by have := Hm.out.2; omega
          obtain ⟨β, hβ⟩ : ∃ β, (bys s).getD a 0 = β := ⟨_, rfl⟩
          have hβN := Hby.out a haM
          rw [hβ] at hβN
          have hβ8 : β < 256 := by rw [hβN]; exact Nat.mod_lt _ (by decide)
          have hidx := byte_of s a β (by omega) hβ
          obtain ⟨d, hd⟩ : ∃ d, β * 2 ^ j = d := ⟨_, rfl⟩
          have hor := or_next N (8 * a) m 8 hb1
          rw [hh, ← hβN, show 8 * a - m = j by omega, hd] at hor
          obtain ⟨h', hh'⟩ : ∃ h', N % 2 ^ (8 * a + 8) / 2 ^ m = h' := ⟨_, rfl⟩
          rw [hh'] at hor
          have p22 := pow_small j 22 (by omega)
          have hd31 : d < 4294967296 := by
            rw [← hd]
            have h1 : β * 2 ^ j ≤ 255 * 2 ^ j := Nat.mul_le_mul_right _ (by omega)
            omega
          have fd : (β : Int) * 2 ^ j = (d : Int) := by rw [← hd, Int.natCast_mul, Int.natCast_pow]; rfl
          have fdw : IntKind.i64.wrap ((β : Int) * 2 ^ j) = (d : Int) := by rw [fd, IntKind.wrap_i64]; omega
          have V := or_i64 h d (by omega) (by omega)
          rw [hor] at V
          have Hh' : Away (N % 2 ^ (8 * (a + 1)) / 2 ^ m = h') := ⟨by rw [Nat.mul_succ]; exact hh'⟩
          have hj64 : j < 64 := by omega
          have fj8 : IntKind.i64.wrap ((j : Int) + 8) = ((j + 8 : Nat) : Int) := by rw [IntKind.wrap_i64]; omega
          clear hβ hβN hd hor hh' hhl p31 p22 fd hh hh31 hd31
          go_wp2_with fail
          go_roundw
          case rel => exact ⟨a + 1, h', j + 8, by omega, by omega, Hh'.out, by omega, by omega, by go_num, by go_num, by go_num, A0⟩
          case measure => simp [intOf]; omega
        · have hjz : ¬ (j : Int) < (wd : Int) := by omega
          obtain ⟨u, hu⟩ : ∃ u, h % 2 ^ wd = u := ⟨_, rfl⟩
          have V := and_mask h wd q1 hh31 Hq1.out (by have := Hq1b.out; omega)
          rw [hu] at V
          have Hu : Away ((u : Int) = ((bt N wd i wd : Nat) : Int)) := ⟨by
            have e := mod_div_mod N (8 * a) m wd (by omega)
            unfold bt
            rw [Hm.out.1, ← e, hh, hu]⟩
          obtain ⟨h2, hh2⟩ : ∃ h2, h / 2 ^ wd = h2 := ⟨_, rfl⟩
          have Hh2 : Away (N % 2 ^ (8 * a) / 2 ^ (wd * (i + 1)) = h2) := ⟨by rw [Nat.mul_succ, Hm.out.1, Nat.pow_add, ← Nat.div_div_eq_div_mul, hh, hh2]⟩
          have fh2 : (h : Int) / 2 ^ wd = (h2 : Int) := by rw [← hh2]; simp
          have fh3 : (h : Int) / (q : Int) = (h2 : Int) := by rw [← Hfq.out]; exact fh2
          have fjw : IntKind.i64.wrap ((j : Int) - (wd : Int)) = ((j - wd : Nat) : Int) := by rw [IntKind.wrap_i64]; omega
          have hwd64 : wd < 64 := by omega
          clear hu hh2 hh hhl p31
          go_wp2_with ((with_reducible refine wpList_put2 A0 rfl _ _ _ rfl rfl ?_); refine ⟨_, _, _, rfl, rfl, rfl, (by rw [fl_size]; exact hlt), ?_⟩; intro wn HRn; rw [fl_set, pt_upd (fun i => ((bt N wd i wd : Nat) : Int)) _ _ _ Hu.out] at HRn)
          go_roundw
          case rel => exact ⟨i + 1, a, h2, j - wd, by omega, by rw [Nat.mul_succ, Hm.out.1]; omega, ha, Hh2.out, by rw [Nat.mul_succ, Hm.out.1]; omega, by omega, by go_num, by go_num, rfl, by go_num, HRn⟩
          case measure => simp [intOf]; omega
    · obtain rfl : i = 256 := by omega
      simp only [Int.cast_ofNat_Int]
      rw [fl_all, HR.out] at A0
      have Hrow := Away.mk A0.out.row
      have Hres : Away (wr.heap[w.heap.size]? = some (.cells z 25 (0, 0))) := ⟨A0.out.other (by omega) (by omega) R0.out⟩
      have HB : Away (Below w.heap.size w wr) := ⟨BW.out.trans (A0.out.below (by omega) (by omega))⟩
      clear A0 hh
      go_wp2_with (first
        | (refine wpList_load_row rfl 25 _ rfl (w.heap.size + 1) rfl 25 R (0, 0) _ Hrow.out Tryd.underlying25 rfl Ri.out ?_)
        | (refine wpList_store_row rfl 25 _ _ rfl w.heap.size R rfl rfl 25 _ Hres.out Ri.out Rz.out Ro.out ?_))
      refine bodyPost_ret_by (v := .agg R) (results_cell_row rfl _ _ w.heap.size 25 _ (0, 0) _ rfl (setRow_heap _ _ _ _ _ _ Hres.out) Tryd.underlying25 rfl Ri.out) rfl ?_
      exact ⟨rfl, HB.out.trans (below_setRow _ _ _ (Nat.le_refl _))⟩
end Go.Proofs.YtdlolhilmhlklaaDoor.pload
