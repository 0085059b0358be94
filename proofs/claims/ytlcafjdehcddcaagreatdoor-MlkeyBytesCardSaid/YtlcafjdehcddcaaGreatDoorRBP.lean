/-
  What the document's own Pack of layer 10 returns. Conditions: none.
-/
import Derived.Test.YtlcafjdehcddcaaGreatDoorPuA
import Derived.Test.YtlcafjdehcddcaaGreatDoorRBa
import Derived.Test.YtlcafjdehcddcaaGreatDoorRBB
namespace Go.Proofs.YtlcafjdehcddcaaGreatDoor
namespace rbitd
open Go Go.RowKit
open arr mem stil bitm polys rbita rbitb rbitc
set_option maxRecDepth 100000 in
set_option maxHeartbeats 2000000 in
theorem pack_bad (f : Nat → Int) (most : Int) (w : World) (hm : most < 1 ∨ 8380417 ≤ most) :
 Calls Tryz.prog 59 #[.agg (FL .i64 256 f), .int .i64 most] w fun e w' => e = .returned (.tuple #[.string ⟨#[]⟩, .int .i64 1]) ∧ Below w.heap.size w w' := by
 obtain ⟨F, HF⟩ := ex_eq (FL .i64 256 f)
 rw [HF.out]
 obtain ⟨W, hW⟩ : ∃ x, w.alloc (.cells F 25) = x := ⟨_, rfl⟩
 have HW := Away.mk hW
 have BW : Away (Below w.heap.size w W) := ⟨by rw [← hW]; exact below_alloc _ _⟩
 clear hW
 rcases hm with hm | hm
 ·go_enter Tryz.func59, Tryz.ntmps59
  go_wp2_with (rw [HW.out])
  go_ret2
  exact ⟨rfl, BW.out⟩
 ·have h1 : ¬ most < 1 := by omega
  go_enter Tryz.func59, Tryz.ntmps59
  go_wp2_with (rw [HW.out])
  go_ret2
  exact ⟨rfl, BW.out⟩
set_option maxRecDepth 100000 in
set_option maxHeartbeats 4000000 in
theorem pack_any (f : Nat → Int) (most : Int) (w : World) (h1 : 1 ≤ most) (h2 : most < 8380417) :
 Calls Tryz.prog 59 #[.agg (FL .i64 256 f), .int .i64 most] w fun e w' => e = .returned (if inb f most then .tuple #[.string (packed f most), .int .i64 0] else .tuple #[.string ⟨#[]⟩, .int .i64 6]) ∧ Below w.heap.size w w' := by
 obtain ⟨i0, hi, hz0, hz1, hz2⟩ := parts infoInt
 have HI := Away.mk (And.intro hi (And.intro hz0 (And.intro hz1 hz2)))
 obtain ⟨wd, hwd⟩ : ∃ x, lb most.toNat = x := ⟨_, rfl⟩
 have hsp := lbf_spec 64 most.toNat (by omega)
 have hw23 : wd ≤ 23 := by
  have h3 : most.toNat < 2 ^ 23 := by omega
  have h4 : lb most.toNat = lbf 23 most.toNat := lbf_more 23 64 _ h3 (by decide)
  rw [← hwd, h4]
  exact (lbf_spec 23 _ h3).2.2
 have hlt2 : most.toNat < 2 ^ wd := by rw [← hwd]; exact hsp.1
 have hpos : 0 < wd := by rw [← hwd]; exact (hsp.2.1 (by omega)).1
 obtain ⟨O, HO⟩ := ex_eq (packed f most)
 have HB : Away (∀ (g cap : Nat) (w1 : World), inb f most → g < w1.heap.size → (∀ i, i < 256 → w1.cell? ⟨g, i, none⟩ = some (.int .i64 (f i))) → Calls Tryz.prog 99 #[.slice (some ⟨g, 0, none⟩) 256 cap, .int .i64 (wd : Int)] w1 fun e w' => e = .returned (.string O) ∧ Below w1.heap.size w1 w') := ⟨fun g cap w1 hin hg hc => by
  rw [← HO.out, packed, hwd]
  have hM : (256 * wd + 7) / 8 = 32 * wd := by omega
  refine rbitb.bytes_any g cap 256 wd (32 * wd) (ns f) w1 (by simp [ns]) (by decide) hw23 (by omega) hM (fun x hx => ?_) hg (fun i hi => ?_)
  ·obtain ⟨i, hi, rfl⟩ := List.mem_map.1 hx
   have := hin i (List.mem_range.1 hi)
   omega
  ·have h9 := (hin i hi).1
   have e : (ns f).getD i 0 = (f i).toNat := by
    unfold ns
    rw [List.getD_eq_getElem?_getD, List.getElem?_map, List.getElem?_range hi]
    rfl
   rw [e, Int.toNat_of_nonneg h9]
   exact hc i hi⟩
 have HLg : Away (∀ w1 : World, Calls Tryz.prog 36 #[.int .i64 most] w1 fun e w' => e = .returned (.int .i64 (wd : Int)) ∧ w' = w1) := ⟨fun w1 => by rw [← hwd]; exact long_any most (by omega) w1⟩
 rw [HO.out]
 have Hidx : Away (∀ i : Nat, i < 256 → ∀ w1, (Instr.index 25 (.agg (FL .i64 256 f)) (.int .i64 (i : Int))).run Tryz.prog w1 = .ok (.int .i64 (f i)) w1) := ⟨fun i hi w1 => index_row (P := Tryz.prog) Tryz.underlying25 (by kernel_rfl) (by kernel_rfl) (by kernel_rfl) _ _ i hi (fl_get .i64 256 f i hi) w1⟩
 have Fi : Away ((Tryz.prog.info? 25).map (·.size) = some (FL .i64 256 f).size) := ⟨by rw [fl_size]; exact sizeP⟩
 obtain ⟨F, HF⟩ := ex_eq (FL .i64 256 f)
 rw [HF.out] at Hidx Fi ⊢
 obtain ⟨W, hW⟩ : ∃ x, w.alloc (.cells F 25) = x := ⟨_, rfl⟩
 have HW := Away.mk hW
 have BW : Away (Below w.heap.size w W) := ⟨by rw [← hW]; exact below_alloc _ _⟩
 have hrow : Away (W.heap[w.heap.size]? = some (.cells F 25 (0, 0))) := ⟨by rw [← hW]; exact heap_at _ _ _ rfl⟩
 have h1' : ¬ most < 1 := by omega
 have h2' : ¬ 8380417 ≤ most := by omega
 obtain ⟨V, HV⟩ := ex_eq (if inb f most then Value.tuple #[.string O, .int .i64 0] else .tuple #[.string ⟨#[]⟩, .int .i64 6])
 rw [HV.out]
 have H12 := Away.mk (And.intro h1 h2)
 clear hW hi hz0 hz1 hz2 hwd hsp hlt2 HF HO h1 h2
 go_enter Tryz.func59, Tryz.ntmps59
 go_wp2_with (first
  | (rw [HW.out])
  | (refine wpList_load_row rfl 25 _ rfl w.heap.size rfl 25 F (0, 0) _ hrow.out Tryz.underlying25 rfl Fi.out ?_))
 go_loopw [6, 16] (fun v c wr => ∃ j : Nat, j ≤ 256 ∧ c = .int .i64 (j : Int) ∧ Away (∀ i, i < j → 0 ≤ f i ∧ f i ≤ most) ∧ Away (wr.ownsRow W.heap.size 3 1 v j (cs f j)) ∧ Away (Below W.heap.size W wr)) (fun _ c _ => 256 - (intOf c).toNat)
 case atStart => exact ⟨0, Nat.zero_le _, rfl, ⟨fun i hi => by omega⟩, ⟨⟨rfl, Or.inl ⟨rfl, rfl⟩⟩⟩, ⟨Below.refl _ _⟩⟩
 case round =>
  obtain ⟨j, hj, rfl, Hin, Ho, Hb⟩ := hrel
  by_cases hlt : j < 256
  ·have hjz : (j : Int) < 256 := by omega
   have hidx := Hidx.out j hlt
   obtain ⟨x, hx⟩ : ∃ x, f j = x := ⟨_, rfl⟩
   rw [hx] at hidx
   by_cases hbad : x < 0 ∨ most < x
   ·have hV : Away (V = .tuple #[.string ⟨#[]⟩, .int .i64 6]) := ⟨by rw [← HV.out, if_neg]; intro hall; have := hall j hlt; rw [hx] at this; omega⟩
    have BE : Away (Below w.heap.size w wr) := ⟨BW.out.trans (Hb.out.mono BW.out.size)⟩
    clear hx
    rcases hbad with hb1 | hb1
    ·go_wp2_with fail
     go_ret2
     exact ⟨by rw [hV.out]; rfl, BE.out⟩
    ·by_cases hb0 : x < 0
     ·go_wp2_with fail
      go_ret2
      exact ⟨by rw [hV.out]; rfl, BE.out⟩
     ·go_wp2_with fail
      go_ret2
      exact ⟨by rw [hV.out]; rfl, BE.out⟩
   ·have hb0 : ¬ x < 0 := by omega
    have hb1 : ¬ most < x := by omega
    have Hin2 : Away (∀ i, i < j + 1 → 0 ≤ f i ∧ f i ≤ most) := ⟨fun i hi => by
     by_cases e : i = j
     ·subst e; rw [hx]; omega
     ·exact Hin.out i (by omega)⟩
    have Hc : Away (cs f (j + 1) = cs f j ++ [.int .i64 x]) := ⟨by rw [cs_succ, hx]⟩
    have hwx := Hb.out.size
    clear hx hbad
    go_wp2_with (at_builtin; refine wpList_append_own _ rfl _ _ 63 rfl W.heap.size 3 i0 (.int .i64 0) 1 8 Tryz.underlying63 HI.out.1 HI.out.2.1 HI.out.2.2.1 HI.out.2.2.2 rfl (by decide) _ _ _ rfl (Ho.out.alloc _) ⟨wr.heap.size, 0, none⟩ 1 1 [.int .i64 x] rfl rfl news_at (fun u hu => by simp at hu; subst hu; rfl) (by unfold maxLen; omega) (by omega) (by rw [size_alloc]; omega) ?_)
    intro v' w4 hown' hgrow _
    have hb4 : Below W.heap.size wr w4 := ((Below.refl W.heap.size wr).alloc hwx _).grown hgrow (by rw [size_alloc]; omega) (fun k hk => (Ho.out.lt k hk).1)
    have HB4 : Away (Below W.heap.size W w4) := ⟨Hb.out.trans hb4⟩
    have OY : Away (w4.ownsRow W.heap.size 3 1 v' (j + 1) (cs f (j + 1))) := ⟨by rw [Hc.out]; exact hown'⟩
    clear hown' hgrow hb4 hidx
    go_wp2_with fail
    go_roundw
    case rel => exact ⟨j + 1, by omega, by go_num, Hin2, OY, HB4⟩
    case measure => simp [intOf]; omega
  ·obtain rfl : j = 256 := by omega
   simp only [Int.cast_ofNat_Int]
   obtain ⟨g', cap', rfl⟩ := owns_some (by decide) Ho.out
   have hall : inb f most := Hin.out
   have hV : Away (V = .tuple #[.string O, .int .i64 0]) := ⟨by rw [← HV.out, if_pos hall]⟩
   have C1 := Away.mk (HB.out g' cap' wr hall (Ho.out.lt g' rfl).2 (fun i hi => by
    have h9 := Ho.out.cellAt i (by omega)
    rw [h9]
    unfold cs
    rw [List.getElem?_map, List.getElem?_range hi]
    rfl))
   have BE : Away (Below w.heap.size w wr) := ⟨BW.out.trans (Hb.out.mono BW.out.size)⟩
   clear hall hj hlt
   go_wp2_with fail
   refine (HLg.out _).mono ?_
   rintro e w5 ⟨rfl, rfl⟩
   go_wp2_with fail
   refine C1.out.mono ?_
   rintro e w6 ⟨rfl, h6⟩
   have BF : Away (Below w.heap.size w w6) := ⟨BE.out.trans (h6.mono BE.out.size)⟩
   clear h6
   go_wp2_with fail
   go_ret2
   exact ⟨by rw [hV.out]; rfl, BF.out⟩
end rbitd
end Go.Proofs.YtlcafjdehcddcaaGreatDoor
