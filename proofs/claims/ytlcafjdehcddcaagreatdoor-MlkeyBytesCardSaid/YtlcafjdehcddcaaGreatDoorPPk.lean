/-
  What package bits' Pack returns. Conditions: none.
-/
import Derived.Test.YtlcafjdehcddcaaGreatDoorPSt
import Derived.Test.YtlcafjdehcddcaaGreatDoorPB1
namespace Go.Proofs.YtlcafjdehcddcaaGreatDoor
namespace ppack
open Go Go.RowKit
open arr mem stil bitm bitn polys rbita rbitb rbitc rbitd rbitf
theorem ns_get (f : Nat → Int) (h : ∀ i, i < 256 → 0 ≤ f i) (i : Nat) (hi : i < 256) : (((ns f).getD i 0 : Nat) : Int) = f i := by
 unfold ns
 rw [List.getD_eq_getElem?_getD, List.getElem?_map, List.getElem?_range hi]
 exact Int.toNat_of_nonneg (h i hi)
theorem ns_length (f : Nat → Int) : (ns f).length = 256 := by simp [ns]
theorem lb_pos (most : Int) (h1 : 1 ≤ most) (h2 : most < 8380417) : 1 ≤ lb most.toNat :=
 ((lbf_spec 64 most.toNat (by omega)).2.1 (by omega)).1
theorem ns_lt (f : Nat → Int) (most : Int) (h1 : 1 ≤ most) (h2 : most < 8380417) (h : inb f most) : ∀ x ∈ ns f, x < 2 ^ lb most.toNat := by
 intro x hx
 obtain ⟨i, hi, rfl⟩ := List.mem_map.1 hx
 have h3 := h i (List.mem_range.1 hi)
 have h4 := (lbf_spec 64 most.toNat (by omega)).1
 exact Nat.lt_of_le_of_lt (by omega) h4
set_option maxRecDepth 100000 in
set_option maxHeartbeats 2000000 in
theorem pack_bad (f : Nat → Int) (most : Int) (w : World) (hm : ¬ (1 ≤ most ∧ most < 8380417)) :
 Calls Tryz.prog 58 #[.agg (FL .i64 256 f), .int .i64 most] w fun e w' => e = .returned (.tuple #[.string ⟨#[]⟩, .int .i64 1]) ∧ Below w.heap.size w w' := by
 have HM : ∀ w1 : World, Calls Tryz.prog 97 #[.int .i64 most] w1 fun e w' => e = .returned (.bool false) ∧ w' = w1 := fun w1 => by
  have h := psmall.most_any most w1
  rw [decide_eq_false hm] at h
  exact h
 obtain ⟨F, HF⟩ := ex_eq (FL .i64 256 f)
 rw [HF.out]
 obtain ⟨W, hW⟩ : ∃ x, w.alloc (.cells F 25) = x := ⟨_, rfl⟩
 have HW := Away.mk hW
 have BW : Away (Below w.heap.size w W) := ⟨by rw [← hW]; exact below_alloc _ _⟩
 clear hW hm
 go_enter Tryz.func58, Tryz.ntmps58
 go_wp2_with (rw [HW.out])
 refine (HM _).mono ?_
 rintro e w1 ⟨rfl, rfl⟩
 go_wp2_with fail
 go_ret2
 exact ⟨rfl, BW.out⟩
set_option maxRecDepth 100000 in
set_option maxHeartbeats 4000000 in
theorem pack_any (f : Nat → Int) (most : Int) (w : World) (h1 : 1 ≤ most) (h2 : most < 8380417) :
 Calls Tryz.prog 58 #[.agg (FL .i64 256 f), .int .i64 most] w fun e w' => e = .returned (if inb f most then .tuple #[.string (packed f most), .int .i64 0] else .tuple #[.string ⟨#[]⟩, .int .i64 6]) ∧ Below w.heap.size w w' := by
 have HM : ∀ w1 : World, Calls Tryz.prog 97 #[.int .i64 most] w1 fun e w' => e = .returned (.bool true) ∧ w' = w1 := fun w1 => by
  have h := psmall.most_any most w1
  rw [decide_eq_true ⟨h1, h2⟩] at h
  exact h
 have HLg : Away (∀ w1 : World, Calls Tryz.prog 79 #[.int .i64 most] w1 fun e w' => e = .returned (.int .i64 ((lb most.toNat : Nat) : Int)) ∧ w' = w1) := ⟨fun w1 => plong.long_any most (by omega) w1⟩
 have HSt : Away (∀ (g : Nat) (w1 : World), inb f most → g < w1.heap.size → (∀ i, i < 256 → w1.cell? ⟨g, i, none⟩ = some (.int .i64 (f i))) → Calls Tryz.prog 98 #[.pointer (some ⟨g, 0, none⟩), .int .i64 ((lb most.toNat : Nat) : Int)] w1 fun e w' => e = .returned (.string (packed f most)) ∧ Below w1.heap.size w1 w') := ⟨fun g w1 hin hg hc => by
  unfold packed
  exact pstore.store_any g (lb most.toNat) (ns f) w1 (ns_length f) (lb_pos most h1 h2) (lb_small most h2) (ns_lt f most h1 h2 hin) hg (fun i hi => by rw [ns_get f (fun k hk => (hin k hk).1) i hi]; exact hc i hi)⟩
 obtain ⟨O, HO⟩ := ex_eq (packed f most)
 obtain ⟨wd, hwd⟩ := ex_eq (lb most.toNat)
 rw [HO.out, hwd.out] at HSt
 rw [hwd.out] at HLg
 rw [HO.out]
 have Hidx : Away (∀ i : Nat, i < 256 → ∀ w1, (Instr.index 25 (.agg (FL .i64 256 f)) (.int .i64 (i : Int))).run Tryz.prog w1 = .ok (.int .i64 (f i)) w1) := ⟨fun i hi w1 => index_row (P := Tryz.prog) Tryz.underlying25 (by kernel_rfl) (by kernel_rfl) (by kernel_rfl) _ _ i hi (fl_get .i64 256 f i hi) w1⟩
 have Fi : Away ((Tryz.prog.info? 25).map (·.size) = some (FL .i64 256 f).size) := ⟨by rw [fl_size]; exact sizeP⟩
 obtain ⟨V, HV⟩ := ex_eq (if inb f most then Value.tuple #[.string O, .int .i64 0] else .tuple #[.string ⟨#[]⟩, .int .i64 6])
 rw [HV.out]
 have Hcells : Away (∀ (w1 : World) (g : Nat), w1.heap[g]? = some (.cells (FL .i64 256 f) 25 (0, 0)) → ∀ i, i < 256 → w1.cell? ⟨g, i, none⟩ = some (.int .i64 (f i))) := ⟨fun w1 g h i hi => fl_at h i hi⟩
 obtain ⟨F, HF⟩ := ex_eq (FL .i64 256 f)
 rw [HF.out] at Hidx Fi Hcells ⊢
 obtain ⟨W, hW⟩ : ∃ x, w.alloc (.cells F 25) = x := ⟨_, rfl⟩
 have HW := Away.mk hW
 have BW : Away (Below w.heap.size w W) := ⟨by rw [← hW]; exact below_alloc _ _⟩
 have hrow : Away (W.heap[w.heap.size]? = some (.cells F 25 (0, 0))) := ⟨by rw [← hW]; exact heap_at _ _ _ rfl⟩
 have H12 := Away.mk (And.intro h1 h2)
 clear hW HF HO h1 h2
 go_enter Tryz.func58, Tryz.ntmps58
 go_wp2_with (rw [HW.out])
 refine (HM _).mono ?_
 rintro e W ⟨rfl, rfl⟩
 go_wp2_with (refine wpList_load_row rfl 25 _ rfl w.heap.size rfl 25 F (0, 0) _ hrow.out Tryz.underlying25 rfl Fi.out ?_)
 go_loopw [12] (fun c wr => ∃ j : Nat, j ≤ 256 ∧ c = .int .i64 (j : Int) ∧ Away (∀ i, i < j → 0 ≤ f i ∧ f i ≤ most) ∧ W = wr) (fun c _ => 256 - (intOf c).toNat)
 case atStart => exact ⟨0, Nat.zero_le _, rfl, ⟨fun i hi => by omega⟩, rfl⟩
 case round =>
  obtain ⟨j, hj, rfl, Hin, rfl⟩ := hrel
  by_cases hlt : j < 256
  ·have hjz : (j : Int) < 256 := by omega
   have hidx := Hidx.out j hlt
   obtain ⟨x, hx⟩ : ∃ x, f j = x := ⟨_, rfl⟩
   rw [hx] at hidx
   by_cases hbad : x < 0 ∨ most < x
   ·have hV : Away (V = .tuple #[.string ⟨#[]⟩, .int .i64 6]) := ⟨by rw [← HV.out, if_neg]; intro hall; have := hall j hlt; rw [hx] at this; omega⟩
    clear hx
    rcases hbad with hb1 | hb1
    ·go_wp2_with fail
     go_ret2
     exact ⟨by rw [hV.out]; rfl, BW.out⟩
    ·by_cases hb0 : x < 0
     ·go_wp2_with fail
      go_ret2
      exact ⟨by rw [hV.out]; rfl, BW.out⟩
     ·go_wp2_with fail
      go_ret2
      exact ⟨by rw [hV.out]; rfl, BW.out⟩
   ·have hb0 : ¬ x < 0 := by omega
    have hb1 : ¬ most < x := by omega
    have Hin2 : Away (∀ i, i < j + 1 → 0 ≤ f i ∧ f i ≤ most) := ⟨fun i hi => by
     by_cases e : i = j
     ·subst e; rw [hx]; omega
     ·exact Hin.out i (by omega)⟩
    clear hx hbad
    go_wp2_with fail
    go_roundw
    case rel => exact ⟨j + 1, by omega, by go_num, Hin2, trivial⟩
    case measure => simp [intOf]; omega
  ·obtain rfl : j = 256 := by omega
   simp only [Int.cast_ofNat_Int]
   have hall : inb f most := Hin.out
   have hV : Away (V = .tuple #[.string O, .int .i64 0]) := ⟨by rw [← HV.out, if_pos hall]⟩
   have C1 := Away.mk (HSt.out w.heap.size W hall (lt_of_row hrow.out) (Hcells.out W w.heap.size hrow.out))
   clear hall hj hlt
   go_wp2_with fail
   refine (HLg.out _).mono ?_
   rintro e w5 ⟨rfl, rfl⟩
   go_wp2_with fail
   refine C1.out.mono ?_
   rintro e w6 ⟨rfl, h6⟩
   have BF : Away (Below w.heap.size w w6) := ⟨BW.out.trans (h6.mono BW.out.size)⟩
   clear h6
   go_wp2_with fail
   go_ret2
   exact ⟨by rw [hV.out]; rfl, BF.out⟩
end ppack
end Go.Proofs.YtlcafjdehcddcaaGreatDoor
