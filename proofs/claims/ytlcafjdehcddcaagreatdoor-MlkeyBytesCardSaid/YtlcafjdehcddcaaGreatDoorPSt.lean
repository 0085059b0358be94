/-
  What package bits' store returns: numbers of a fixed width as bytes. Conditions: the width is from 1 to 23, each number fits into it.
-/
import Derived.Test.YtlcafjdehcddcaaGreatDoorPuA
import Derived.Test.YtlcafjdehcddcaaGreatDoorPB1
namespace Go.Proofs.YtlcafjdehcddcaaGreatDoor
namespace pstore
open Go Go.RowKit
open arr mem stil bitm bitn polys rbitb rbitc rbitd
def us (l : List Nat) : List Value := l.map fun (x : Nat) => Value.int .u8 (x : Int)
theorem us_snoc (l : List Nat) (x : Nat) : us (l ++ [x]) = us l ++ [.int .u8 (x : Int)] := by simp [us]
theorem us_length (l : List Nat) : (us l).length = l.length := by simp [us]
theorem conv_own {w : World} {base g cap n : Nat} {l : List Nat} (hn : l.length = n) (hl : ∀ x ∈ l, x < 256) (h : w.ownsRow base 5 1 (.slice (some ⟨g, 0, none⟩) n cap) n (us l)) :
 (convert 78 9 (.slice (some ⟨g, 0, none⟩) n cap)).run Tryz.prog w = .ok (.string ⟨(u8s l).toArray⟩) w := by
 subst hn
 have hz : (u8s l).length = l.length := by simp [u8s]
 have := run_convert_bytes_back (P := Tryz.prog) w 78 9 5 ⟨g, 0, none⟩ cap (u8s l) Tryz.underlying78 Tryz.underlying5 Tryz.underlying9 (fun j hj => by
  rw [hz] at hj
  rw [Addr.add_mid, Nat.zero_add, h.cellAt j (by rw [Nat.mul_one]; exact hj)]
  have hx := hl l[j] (List.getElem_mem hj)
  simp [us, u8s, List.getElem?_eq_getElem hj, Nat.mod_eq_of_lt hx])
 rw [hz] at this
 exact this
set_option maxRecDepth 100000 in
set_option maxHeartbeats 4000000 in
theorem store_any (g wd : Nat) (L : List Nat) (w : World) (hl : L.length = 256) (hw0 : 1 ≤ wd) (hw : wd ≤ 23) (hL : ∀ x ∈ L, x < 2 ^ wd) (hg : g < w.heap.size) (hcell : ∀ i, i < 256 → w.cell? ⟨g, i, none⟩ = some (.int .i64 ((L.getD i 0 : Nat) : Int))) :
 Calls Tryz.prog 98 #[.pointer (some ⟨g, 0, none⟩), .int .i64 (wd : Int)] w fun e w' => e = .returned (.string ⟨(u8s (nb 8 (32 * wd) (pk wd L))).toArray⟩) ∧ Below w.heap.size w w' := by
 obtain ⟨i0, hi, hz0, hz1, hz2⟩ := parts infoByte
 have HI := Away.mk (And.intro hi (And.intro hz0 (And.intro hz1 hz2)))
 obtain ⟨M, hM⟩ := ex_eq (32 * wd)
 have HS : ∀ w1 : World, Calls Tryz.prog 103 #[.int .i64 (wd : Int)] w1 fun e w' => e = .returned (.int .i64 (M : Int)) ∧ w' = w1 := fun w1 => by rw [← hM.out]; exact psmall.size_any wd (by omega) w1
 have hMb : M ≤ 736 := by rw [← hM.out]; omega
 obtain ⟨N, hN⟩ := ex_eq (pk wd L)
 have HNi : Away (∀ i, i < 256 → L.getD i 0 = N / 2 ^ (wd * i) % 2 ^ wd) := ⟨fun i hi => by
  rw [← hN.out, pk_at wd L hL i (by rw [hl]; exact hi), List.getD_eq_getElem?_getD, List.getElem?_eq_getElem (by rw [hl]; exact hi)]; rfl⟩
 have Hcell := Away.mk hcell
 obtain ⟨R, HR⟩ := ex_eq (u8s (nb 8 M N))
 rw [hM.out, hN.out, HR.out]
 clear hi hz0 hz1 hz2 hcell hL hl
 go_enter Tryz.func98, Tryz.ntmps98
 go_wp2_with fail
 refine (HS _).mono ?_
 rintro e w ⟨rfl, rfl⟩
 go_wp2_with (at_make; refine wpList_make_own _ rfl _ _ 78 rfl w.heap.size 5 i0 (.int .u8 0) 1 Tryz.underlying78 HI.out.1 HI.out.2.1 HI.out.2.2.1 .i64 .i64 _ M rfl rfl rfl (by rw [HI.out.2.2.2]; omega) (by unfold maxLen; omega) (Nat.le_refl _) ?_)
 intro w3 hown hgr
 have B3 : Away (Below w.heap.size w w3) := ⟨(Below.refl _ _).grown hgr (Nat.le_refl _) (fun k hk => by simp at hk)⟩
 have O3 : Away (w3.ownsRow w.heap.size 5 1 (.slice (some ⟨w.heap.size, 0, none⟩) 0 M) 0 (us (nb 8 0 N))) := ⟨hown⟩
 clear hown hgr
 go_wp2_with fail
 go_loopw [5, 6, 7, 14] (fun v a k c wr => ∃ i b h j : Nat, i ≤ 256 ∧ 8 * b ≤ wd * i ∧ wd * i < 8 * b + 8 ∧ N % 2 ^ (wd * i) / 2 ^ (8 * b) = h ∧ j + 8 * b = wd * i ∧ v = .slice (some ⟨w.heap.size, 0, none⟩) b M ∧ a = .int .i64 (h : Int) ∧ k = .int .i64 (j : Int) ∧ c = .int .i64 (i : Int) ∧ Away (wr.ownsRow w.heap.size 5 1 (.slice (some ⟨w.heap.size, 0, none⟩) b M) b (us (nb 8 b N))) ∧ Away (Below w.heap.size w wr)) (fun _ _ _ c _ => 256 - (intOf c).toNat)
 case atStart => exact ⟨0, 0, 0, 0, Nat.zero_le _, by omega, by omega, by simp [Nat.mod_one], by omega, rfl, rfl, rfl, rfl, O3, B3⟩
 case round =>
  clear O3 B3
  obtain ⟨i, b, h, j, hi, hb1, hb2, hh, hj, rfl, rfl, rfl, rfl, Ow, Bw⟩ := hrel
  by_cases hlt : i < 256
  ·have hiz : (i : Int) < 256 := by omega
   have cx := (Bw.out.cell (p := ⟨g, i, none⟩) hg).trans (Hcell.out i hlt)
   obtain ⟨x, hx⟩ : ∃ x, L.getD i 0 = x := ⟨_, rfl⟩
   have hxN := HNi.out i hlt
   rw [hx] at hxN cx
   have hxl : x < 2 ^ wd := by rw [hxN]; exact Nat.mod_lt _ (Nat.two_pow_pos _)
   obtain ⟨m, hm⟩ : ∃ m, wd * i = m := ⟨_, rfl⟩
   have hm2 : wd * (i + 1) = m + wd := by rw [Nat.mul_succ, hm]
   have hmM : m + wd ≤ 8 * M := by
    have h1 : wd * (i + 1) ≤ wd * 256 := Nat.mul_le_mul_left _ hlt
    have := hM.out
    omega
   rw [hm] at hb1 hb2 hh hj hxN
   obtain ⟨d, hd⟩ : ∃ d, x * 2 ^ j = d := ⟨_, rfl⟩
   have hj7 : j ≤ 7 := by omega
   have hor := or_next N m (8 * b) wd hb1
   rw [hh, ← hxN, show m - 8 * b = j by omega, hd] at hor
   obtain ⟨h', hh'⟩ : ∃ h', N % 2 ^ (m + wd) / 2 ^ (8 * b) = h' := ⟨_, rfl⟩
   rw [hh'] at hor
   have hhl : h < 2 ^ j := by rw [← hh, show j = m - 8 * b by omega]; exact held_lt N m (8 * b) hb1
   have hj30 : j + wd ≤ 30 := by omega
   have hh'l : h' < 2 ^ (j + wd) := by rw [← hh', show j + wd = m + wd - 8 * b by omega]; exact held_lt N (m + wd) (8 * b) (by omega)
   have p7 := pow_small j 7 hj7
   have p23 := pow_small wd 23 hw
   have p30 := pow_small (j + wd) 30 hj30
   have hd30 : d < 2 ^ 30 := by
    rw [← hd]
    have h1 : x * 2 ^ j < 2 ^ wd * 2 ^ j := Nat.mul_lt_mul_of_lt_of_le hxl (Nat.le_refl _) (Nat.two_pow_pos _)
    rw [← Nat.pow_add, Nat.add_comm wd] at h1
    omega
   have hh30 : h' < 2 ^ 30 := by omega
   have hh7 : h < 2 ^ 30 := by omega
   have fd : (x : Int) * 2 ^ j = (d : Int) := by rw [← hd, Int.natCast_mul, Int.natCast_pow]; rfl
   have fdw : IntKind.i64.wrap ((x : Int) * 2 ^ j) = (d : Int) := by rw [fd, IntKind.wrap_i64]; omega
   have V := or_i64 h d (by omega) (by omega)
   rw [hor] at V
   have fjw : IntKind.i64.wrap ((j : Int) + (wd : Int)) = ((j + wd : Nat) : Int) := by rw [IntKind.wrap_i64]; omega
   have hxi : x < 8388608 := by omega
   have Hh := Away.mk hh'
   have Hm := Away.mk (And.intro hm2 hmM)
   clear hx hxN hxl hm hm2 hb2 hh hd hor hh' hhl hh'l p7 p23 p30 hmM fd
   have hb8 : 8 * b ≤ m + wd := by omega
   have hj64 : j < 64 := by omega
   clear hb1 hj30 hd30 hxi
   go_wp2_with fail
   clear V fdw fjw cx hj7 hj64
   obtain ⟨m', hm'⟩ : ∃ m', m + wd = m' := ⟨_, rfl⟩
   rw [hm'] at hb8 Hh Hm
   go_loopw [5, 6, 7] (fun v a k wr => ∃ b h j : Nat, 8 * b ≤ m' ∧ h < 2 ^ 30 ∧ N % 2 ^ m' / 2 ^ (8 * b) = h ∧ j + 8 * b = m' ∧ v = .slice (some ⟨w.heap.size, 0, none⟩) b M ∧ a = .int .i64 (h : Int) ∧ k = .int .i64 (j : Int) ∧ Away (wr.ownsRow w.heap.size 5 1 (.slice (some ⟨w.heap.size, 0, none⟩) b M) b (us (nb 8 b N))) ∧ Away (Below w.heap.size w wr)) (fun _ _ k _ => (intOf k).toNat)
   case atStart => exact ⟨b, h', j + wd, hb8, hh30, Hh.out, by omega, rfl, rfl, by go_num, Ow, Bw⟩
   case round =>
    clear Ow Bw Hh hb8 hh30 hh7 hj hm'
    obtain ⟨b, h, j, hb8, hh30, hh, hj, rfl, rfl, rfl, Ow, Bw⟩ := hrel
    by_cases h8 : 8 ≤ j
    ·have hj8 : (8 : Int) ≤ (j : Int) := by omega
     obtain ⟨β, hβ⟩ : ∃ β, h % 256 = β := ⟨_, rfl⟩
     obtain ⟨h2, hh2⟩ : ∃ h2, h / 256 = h2 := ⟨_, rfl⟩
     have Hn : Away (us (nb 8 (b + 1) N) = us (nb 8 b N) ++ [.int .u8 (β : Int)]) := ⟨by
      have e := mod_div_mod N m' (8 * b) 8 (by omega)
      rw [hh] at e
      rw [nb_snoc, us_snoc, ← e, ← hβ]⟩
     have Hh2 : Away (N % 2 ^ m' / 2 ^ (8 * (b + 1)) = h2) := ⟨by rw [← hh2, ← hh, Nat.mul_succ, Nat.pow_add, Nat.div_div_eq_div_mul]⟩
     have fβ : (h : Int) % 256 = (β : Int) := by omega
     have fβw : IntKind.u8.wrap (h : Int) = (β : Int) := by rw [IntKind.wrap_u8]; omega
     have fh2 : (h : Int) / 256 = (h2 : Int) := by omega
     have hh23 : h2 < 2 ^ 30 := by omega
     have fj8 : IntKind.i64.wrap ((j : Int) - 8) = ((j - 8 : Nat) : Int) := by have := Hm.out.2; rw [IntKind.wrap_i64]; omega
     have hbM : b + 1 ≤ M := by have := Hm.out.2; omega
     have hbM' : b ≤ M := by omega
     have hwx := Bw.out.size
     clear hβ hh2 hh
     go_wp2_with (at_builtin; refine wpList_append_fits _ rfl _ _ 78 rfl w.heap.size 5 i0 1 Tryz.underlying78 HI.out.1 HI.out.2.2.1 w.heap.size b M _ rfl (Ow.out.alloc _) ⟨wr.heap.size, 0, none⟩ 1 1 [.int .u8 (β : Int)] rfl rfl news_at (fun u hu => by simp at hu; subst hu; rfl) hbM ?_)
     intro w4 hown' hgrow
     have hb4 : Below w.heap.size wr w4 := ((Below.refl w.heap.size wr).alloc hwx _).grown hgrow (by rw [size_alloc]; omega) (fun k hk => by simp at hk; omega)
     have HB4 : Away (Below w.heap.size w w4) := ⟨Bw.out.trans hb4⟩
     have OY : Away (w4.ownsRow w.heap.size 5 1 (.slice (some ⟨w.heap.size, 0, none⟩) (b + 1) M) (b + 1) (us (nb 8 (b + 1) N))) := ⟨by rw [Hn.out]; exact hown'⟩
     clear hown' hgrow hb4 Ow Bw
     go_wp2_with fail
     go_roundw
     case rel => exact ⟨b + 1, h2, j - 8, by omega, hh23, Hh2.out, by omega, rfl, by go_num, by go_num, OY, HB4⟩
     case measure => simp [intOf]; omega
    ·have hj8 : ¬ (8 : Int) ≤ (j : Int) := by omega
     go_wp2_with fail
     go_roundw
     case rel => exact ⟨i + 1, b, h, j, by omega, by rw [Hm.out.1]; exact hb8, by rw [Hm.out.1]; omega, by rw [Hm.out.1]; exact hh, by rw [Hm.out.1]; exact hj, rfl, rfl, rfl, by go_num, Ow, Bw⟩
     case measure => simp [intOf]; omega
  ·obtain rfl : i = 256 := by omega
   simp only [Int.cast_ofNat_Int]
   obtain rfl : b = M := by have := hM.out; omega
   have hcv := conv_own (nb_length 8 b N) (fun x hx => nb_lt 8 b N x hx) Ow.out
   rw [HR.out] at hcv
   clear hh
   go_wp2_with fail
   go_ret
   exact ⟨rfl, Bw.out⟩
end pstore
end Go.Proofs.YtlcafjdehcddcaaGreatDoor
