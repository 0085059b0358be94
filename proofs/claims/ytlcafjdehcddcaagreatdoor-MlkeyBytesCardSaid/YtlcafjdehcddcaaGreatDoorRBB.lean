/-
  What the document's own bytes of layer 10 returns: numbers of a fixed width laid bit by bit. Conditions: each number fits into the width, the slice holds them.
-/
import Derived.Test.YtlcafjdehcddcaaGreatDoorPuA
namespace Go.Proofs.YtlcafjdehcddcaaGreatDoor
namespace rbitb
open Go Go.RowKit
open arr mem stil bitm rbita
set_option maxRecDepth 100000 in
set_option maxHeartbeats 4000000 in
theorem bytes_any (g cap n wd M : Nat) (L : List Nat) (w : World) (hl : L.length = n) (hn : n ≤ 256) (hw : wd ≤ 23) (hM0 : 0 < M) (hM : (n * wd + 7) / 8 = M) (hL : ∀ x ∈ L, x < 2 ^ wd) (hg : g < w.heap.size) (hcell : ∀ i, i < n → w.cell? ⟨g, i, none⟩ = some (.int .i64 ((L.getD i 0 : Nat) : Int))) :
 Calls Tryz.prog 99 #[.slice (some ⟨g, 0, none⟩) n cap, .int .i64 (wd : Int)] w fun e w' => e = .returned (.string ⟨(u8s (nb 8 M (pk wd L))).toArray⟩) ∧ Below w.heap.size w w' := by
 obtain ⟨i0, hi, hz0, hz1, hz2⟩ := parts infoByte
 have HI := Away.mk (And.intro hi (And.intro hz0 (And.intro hz1 hz2)))
 have hnw : n * wd ≤ 256 * 23 := Nat.mul_le_mul hn hw
 obtain ⟨nw, hnw2⟩ : ∃ x, n * wd = x := ⟨_, rfl⟩
 have fnw : (n : Int) * (wd : Int) = (nw : Int) := by rw [← hnw2, Int.natCast_mul]
 have fnww : IntKind.i64.wrap ((n : Int) * (wd : Int)) = (nw : Int) := by rw [fnw, IntKind.wrap_i64]; omega
 rw [hnw2] at hM hnw
 have HnwM : Away (wd * n ≤ 8 * M) := ⟨by rw [Nat.mul_comm, hnw2]; omega⟩
 have fM : ((nw : Int) + 7).tdiv 8 = (M : Int) := by rw [Int.tdiv_eq_ediv_of_nonneg (by omega)]; omega
 have fM2 : ((nw : Int) + 7) / 8 = (M : Int) := by omega
 have Hcell := Away.mk hcell
 have HL := Away.mk hL
 have Hl := Away.mk hl
 obtain ⟨R, HR⟩ := ex_eq (u8s (nb 8 M (pk wd L)))
 have HRn : Away (pk wd L % 2 ^ (wd * n) = pk wd L) := ⟨Nat.mod_eq_of_lt (by rw [← hl]; exact pk_lt wd L hL)⟩
 rw [HR.out]
 clear hi hz0 hz1 hz2 hcell hL hl hnw2
 go_enter Tryz.func99, Tryz.ntmps99
 go_wp2_with (at_make; refine wpList_make_full _ rfl (.tmp 15) (.tmp 15) 78 rfl w.heap.size 5 i0 (.int .u8 0) 1 Tryz.underlying78 HI.out.1 HI.out.2.1 HI.out.2.2.1 .i64 .i64 M M M rfl rfl rfl rfl (by rw [HI.out.2.2.2]; omega) (by unfold maxLen; omega) (Nat.le_refl _) ?_)
 intro w3 hown hgr
 have hb3 : Below w.heap.size w w3 := (Below.refl _ _).grown hgr (Nat.le_refl _) (fun k hk => by simp at hk)
 obtain ⟨cur, hcur, hcl⟩ := own_row hown
 have e0 : cur = LK .u8 (nb 8 M (pk wd L % 2 ^ (wd * 0))) := by
  apply Array.ext'
  rw [hcl, Nat.mul_zero, Nat.pow_zero, Nat.mod_one, nb_zero]
  simp only [toList_madeCells_one]
  simp [LK]
 rw [e0] at hcur
 have A3 : Away (At w.heap.size (LK .u8 (nb 8 M (pk wd L % 2 ^ (wd * 0)))) 5 w3 w3) := ⟨At.refl hcur⟩
 have HB3 := Away.mk hb3
 have h38 := lt_of_row hcur
 clear hown hgr hb3 hcl e0 hcur fM fM2 fnw fnww
 go_wp2_with fail
 go_loopw [19] (fun v wr => ∃ i : Nat, i ≤ n ∧ v = .int .i64 (i : Int) ∧ Away (At w.heap.size (LK .u8 (nb 8 M (pk wd L % 2 ^ (wd * i)))) 5 w3 wr)) (fun v _ => n - (intOf v).toNat)
 case atStart => exact ⟨0, Nat.zero_le _, rfl, A3⟩
 case round =>
  clear A3
  obtain ⟨i, hi, rfl, A0⟩ := hrel
  by_cases hlt : i < n
  ·have hiz : (i : Int) < (n : Int) := by omega
   have BW : Away (Below w.heap.size w wr) := ⟨HB3.out.trans (A0.out.below (by omega) (Nat.le_refl _))⟩
   obtain ⟨x, hx⟩ : ∃ x, L.getD i 0 = x := ⟨_, rfl⟩
   have hxl : x < 2 ^ wd := by
    rw [← hx, List.getD_eq_getElem?_getD, List.getElem?_eq_getElem (by rw [Hl.out]; exact hlt)]
    exact HL.out _ (List.getElem_mem _)
   have hx23 : x < 8388608 := Nat.lt_of_lt_of_le hxl (Nat.pow_le_pow_right (by decide) hw)
   have cx : wr.cell? ⟨g, i, none⟩ = some (.int .i64 (x : Int)) := by
    rw [← hx, BW.out.cell (p := ⟨g, i, none⟩) hg]; exact Hcell.out i hlt
   have Hx := Away.mk hx
   have hiw : wd * i ≤ 23 * 256 := Nat.mul_le_mul hw (by omega)
   obtain ⟨iw, hiw2⟩ : ∃ y, wd * i = y := ⟨_, rfl⟩
   have fi : (i : Int) * (wd : Int) = (iw : Int) := by rw [← hiw2, Int.natCast_mul, Int.mul_comm]
   have fiw : IntKind.i64.wrap ((i : Int) * (wd : Int)) = (iw : Int) := by rw [fi, IntKind.wrap_i64]; omega
   have Hiw := Away.mk hiw2
   have hiwM : iw + wd ≤ 8 * M := by
    have h1 : wd * (i + 1) ≤ wd * n := Nat.mul_le_mul_left _ hlt
    rw [Nat.mul_succ, hiw2] at h1
    have := HnwM.out
    omega
   rw [hiw2] at hiw
   clear hx hxl hiw2
   go_wp2_with fail
   clear cx
   go_loopw [25] (fun v wr => ∃ k : Nat, k ≤ wd ∧ v = .int .i64 (k : Int) ∧ Away (At w.heap.size (LK .u8 (nb 8 M (pk wd L % 2 ^ (wd * i + k)))) 5 w3 wr)) (fun v _ => wd - (intOf v).toNat)
   case atStart => exact ⟨0, Nat.zero_le _, rfl, A0⟩
   case round =>
    clear A0
    obtain ⟨k, hk, rfl, A0⟩ := hrel
    by_cases hklt : k < wd
    ·have hkz : (k : Int) < (wd : Int) := by omega
     obtain ⟨m, hm⟩ : ∃ m, iw + k = m := ⟨_, rfl⟩
     obtain ⟨j, hj⟩ : ∃ j, m / 8 = j := ⟨_, rfl⟩
     obtain ⟨r, hr⟩ : ∃ r, m % 8 = r := ⟨_, rfl⟩
     obtain ⟨y, hy⟩ : ∃ y, x / 2 ^ k = y := ⟨_, rfl⟩
     have hyx : y ≤ x := by rw [← hy]; exact Nat.div_le_self _ _
     obtain ⟨b, hb⟩ : ∃ b, y % 2 = b := ⟨_, rfl⟩
     obtain ⟨β, hβ⟩ : ∃ β, pk wd L % 2 ^ m / 2 ^ (8 * j) % 2 ^ 8 = β := ⟨_, rfl⟩
     have hβ8 : β < 256 := by rw [← hβ]; exact Nat.mod_lt _ (by decide)
     obtain ⟨c, hc⟩ : ∃ c, b * 2 ^ r = c := ⟨_, rfl⟩
     have hr7 : r ≤ 7 := by omega
     have hc8 : c < 256 := by
      rw [← hc]
      have h1 : 2 ^ r ≤ 2 ^ 7 := Nat.pow_le_pow_right (by decide) hr7
      have h2 : b * 2 ^ r ≤ 1 * 2 ^ r := Nat.mul_le_mul_right _ (by omega)
      omega
     obtain ⟨v, hv⟩ : ∃ v, β ||| c = v := ⟨_, rfl⟩
     have V := or_u8 β c hβ8 hc8
     rw [hv] at V
     have HS : Away ((nb 8 M (pk wd L % 2 ^ (wd * i + k))).set j v = nb 8 M (pk wd L % 2 ^ (wd * i + (k + 1)))) := ⟨by
      have h9 := low_step wd n M L Hl.out HL.out i k hlt hklt v (by rw [Hiw.out, hm, hj, hr, hβ, Hx.out, hy, hb, hc, hv])
      rw [Hiw.out, hm, hj] at h9
      rw [Hiw.out, hm]; exact h9⟩
     have fk : (x : Int) / 2 ^ k = (y : Int) := by rw [← hy]; simp
     have fm : (iw : Int) + (k : Int) = (m : Int) := by omega
     have fmw : IntKind.i64.wrap ((iw : Int) + (k : Int)) = (m : Int) := by rw [fm, IntKind.wrap_i64]; omega
     have fj : (m : Int).tdiv 8 = (j : Int) := by rw [Int.tdiv_eq_ediv_of_nonneg (by omega)]; omega
     have fj2 : (m : Int) / 8 = (j : Int) := by omega
     have fr : (m : Int).tmod 8 = (r : Int) := by rw [Int.tmod_eq_emod_of_nonneg (by omega)]; omega
     have fr2 : (m : Int) % 8 = (r : Int) := by omega
     have fku : IntKind.u64.wrap (k : Int) = (k : Int) := by rw [IntKind.wrap_u64]; omega
     have fru : IntKind.u64.wrap (r : Int) = (r : Int) := by rw [IntKind.wrap_u64]; omega
     have fand := and_one y (by omega)
     rw [hb] at fand
     have fb8 : IntKind.u8.wrap (b : Int) = (b : Int) := by rw [IntKind.wrap_u8]; omega
     have fb82 : (b : Int) % 256 = (b : Int) := by omega
     have fc : (b : Int) * 2 ^ r = (c : Int) := by rw [← hc, Int.natCast_mul, Int.natCast_pow]; rfl
     have fc2 : (c : Int) % 256 = (c : Int) := by omega
     have fcw : IntKind.u8.wrap (c : Int) = (c : Int) := by rw [IntKind.wrap_u8]; omega
     have hjM : j < M := by omega
     have cb : wr.cell? ⟨w.heap.size, j, none⟩ = some (.int .u8 (β : Int)) := by
      rw [A0.out.cell, lk_get .u8 _ j (by rw [nb_length]; exact hjM), List.getD_eq_getElem?_getD, nb_get 8 M _ j hjM, Hiw.out, hm, hβ]
      rfl
     have HjM := Away.mk hjM
     have hk63 : k < 64 := by omega
     clear hm hj hr hy hb hβ hc hv
     go_wp2_with ((with_reducible refine wpList_put2 A0 rfl _ _ _ rfl rfl ?_); refine ⟨_, _, _, rfl, rfl, rfl, (by rw [lk_size, nb_length]; exact HjM.out), ?_⟩; intro wn HR; rw [lk_set, HS.out] at HR)
     go_roundw
     case rel => exact ⟨k + 1, by omega, by go_num, HR⟩
     case measure => simp [intOf]; omega
    ·obtain rfl : k = wd := by omega
     have A1 : Away (At w.heap.size (LK .u8 (nb 8 M (pk k L % 2 ^ (k * (i + 1))))) 5 w3 wr) := ⟨by rw [Nat.mul_succ]; exact A0.out⟩
     clear A0
     go_wp2_with fail
     go_roundw
     case rel => exact ⟨i + 1, by omega, by go_num, A1⟩
     case measure => simp [intOf]; omega
  ·obtain rfl : i = n := by omega
   rw [HRn.out] at A0
   have hcv := conv_lk (cap := M) (nb_length 8 M _) (fun x hx => nb_lt 8 M _ x hx) A0.out.row
   rw [HR.out] at hcv
   have BW : Away (Below w.heap.size w wr) := ⟨HB3.out.trans (A0.out.below (by omega) (Nat.le_refl _))⟩
   clear A0
   go_wp2_with fail
   go_ret
   exact ⟨rfl, BW.out⟩
end rbitb
end Go.Proofs.YtlcafjdehcddcaaGreatDoor
