/-
  What package bits' Signed returns. Conditions: none.
-/
import Derived.Test.YtlcafjdehcddcaaGreatDoorPB1
import Derived.Test.YtlcafjdehcddcaaGreatDoorPPk
import Derived.Test.YtlcafjdehcddcaaGreatDoorFlA
namespace Go.Proofs.YtlcafjdehcddcaaGreatDoor
namespace psig
open Go Go.RowKit
open arr mem stil bitm bitn polys fldm fld1 rbita rbitb rbitc rbitd rbite
theorem ins_inb (f : Nat → Int) (low high : Int) : inb (sg f high) (low + high) ↔ ins f low high := by
 unfold inb ins sg
 constructor
 ·intro h i hi; have := h i hi; omega
 ·intro h i hi; have := h i hi; omega
set_option maxRecDepth 100000 in
set_option maxHeartbeats 2000000 in
theorem signed_bad (f : Nat → Int) (low high : Int) (w : World) (hm : ¬ (0 ≤ low ∧ low < 4190208 ∧ 1 ≤ high ∧ high < 4190208)) :
 Calls Tryz.prog 61 #[.agg (FL .i64 256 f), .int .i64 low, .int .i64 high] w fun e w' => e = .returned (.tuple #[.string ⟨#[]⟩, .int .i64 1]) ∧ Below w.heap.size w w' := by
 have HM : ∀ w1 : World, Calls Tryz.prog 100 #[.int .i64 low, .int .i64 high] w1 fun e w' => e = .returned (.bool false) ∧ w' = w1 := fun w1 => by
  have h := psmall.ends_any low high w1
  rw [decide_eq_false hm] at h
  exact h
 obtain ⟨F, HF⟩ := ex_eq (FL .i64 256 f)
 rw [HF.out]
 obtain ⟨W, hW⟩ : ∃ x, w.alloc (.cells F 25) = x := ⟨_, rfl⟩
 have HW := Away.mk hW
 have BW : Away (Below w.heap.size w W) := ⟨by rw [← hW]; exact below_alloc _ _⟩
 clear hW hm
 go_enter Tryz.func61, Tryz.ntmps61
 go_wp2_with (rw [HW.out])
 refine (HM _).mono ?_
 rintro e w1 ⟨rfl, rfl⟩
 go_wp2_with fail
 go_ret2
 exact ⟨rfl, BW.out⟩
set_option maxRecDepth 100000 in
set_option maxHeartbeats 4000000 in
theorem signed_any (f : Nat → Int) (low high : Int) (w : World) (h1 : 0 ≤ low) (h3 : low < 4190208) (h2 : 1 ≤ high) (h4 : high < 4190208) :
 Calls Tryz.prog 61 #[.agg (FL .i64 256 f), .int .i64 low, .int .i64 high] w fun e w' => e = .returned (if ins f low high then .tuple #[.string (packed (sg f high) (low + high)), .int .i64 0] else .tuple #[.string ⟨#[]⟩, .int .i64 6]) ∧ Below w.heap.size w w' := by
 have HM : ∀ w1 : World, Calls Tryz.prog 100 #[.int .i64 low, .int .i64 high] w1 fun e w' => e = .returned (.bool true) ∧ w' = w1 := fun w1 => by
  have h := psmall.ends_any low high w1
  rw [decide_eq_true ⟨h1, h3, h2, h4⟩] at h
  exact h
 obtain ⟨V, HV⟩ := ex_eq (if ins f low high then Value.tuple #[.string (packed (sg f high) (low + high)), .int .i64 0] else .tuple #[.string ⟨#[]⟩, .int .i64 6])
 obtain ⟨v0, v1, hv⟩ : ∃ v0 v1, V = .tuple #[v0, v1] := by
  rw [← HV.out]
  by_cases h : ins f low high
  ·rw [if_pos h]; exact ⟨_, _, rfl⟩
  ·rw [if_neg h]; exact ⟨_, _, rfl⟩
 have HPk : Away (∀ w1 : World, Calls Tryz.prog 58 #[.agg (FL .i64 256 (sg f high)), .int .i64 (low + high)] w1 fun e w' => e = .returned (.tuple #[v0, v1]) ∧ Below w1.heap.size w1 w') := ⟨fun w1 => by
  have h9 := ppack.pack_any (sg f high) (low + high) w1 (by omega) (by omega)
  rw [show (if inb (sg f high) (low + high) then Value.tuple #[.string (packed (sg f high) (low + high)), .int .i64 0] else .tuple #[.string ⟨#[]⟩, .int .i64 6]) = V by
   rw [← HV.out]
   by_cases h : ins f low high
   ·rw [if_pos h, if_pos ((ins_inb f low high).2 h)]
   ·rw [if_neg h, if_neg (fun k => h ((ins_inb f low high).1 k))], hv] at h9
  exact h9⟩
 rw [HV.out, hv]
 clear HV hv
 obtain ⟨G, HG⟩ := ex_eq (FL .i64 256 (sg f high))
 rw [HG.out] at HPk
 have Hidx : Away (∀ i : Nat, i < 256 → ∀ w1, (Instr.index 25 (.agg (FL .i64 256 f)) (.int .i64 (i : Int))).run Tryz.prog w1 = .ok (.int .i64 (f i)) w1) := ⟨fun i hi w1 => index_row (P := Tryz.prog) Tryz.underlying25 (by kernel_rfl) (by kernel_rfl) (by kernel_rfl) _ _ i hi (fl_get .i64 256 f i hi) w1⟩
 have Fi : Away ((Tryz.prog.info? 25).map (·.size) = some (FL .i64 256 f).size) := ⟨by rw [fl_size]; exact sizeP⟩
 have Gi : Away ((Tryz.prog.info? 25).map (·.size) = some G.size) := ⟨by rw [← HG.out, fl_size]; exact sizeP⟩
 obtain ⟨F, HF⟩ := ex_eq (FL .i64 256 f)
 rw [HF.out] at Hidx Fi ⊢
 obtain ⟨W, hW⟩ : ∃ x, w.alloc (.cells F 25) = x := ⟨_, rfl⟩
 have HW := Away.mk hW
 have BW : Away (Below w.heap.size w W) := ⟨by rw [← hW]; exact below_alloc _ _⟩
 have hrow : Away (W.heap[w.heap.size]? = some (.cells F 25 (0, 0))) := ⟨by rw [← hW]; exact heap_at _ _ _ rfl⟩
 have A0 : Away (At w.heap.size (FL .i64 256 (pt (sg f high) f 0)) 25 W W) := ⟨by rw [pt_zero, HF.out]; exact At.refl hrow.out⟩
 have fl2 : IntKind.i64.wrap (low + high) = low + high := by rw [IntKind.wrap_i64]; omega
 have HL := Away.mk (And.intro h1 (And.intro h2 (And.intro h3 h4)))
 clear hW HF h1 h2 h3 h4
 go_enter Tryz.func61, Tryz.ntmps61
 go_wp2_with (rw [HW.out])
 refine (HM _).mono ?_
 rintro e W ⟨rfl, rfl⟩
 go_wp2_with (refine wpList_load_row rfl 25 _ rfl w.heap.size rfl 25 F (0, 0) _ hrow.out Tryz.underlying25 rfl Fi.out ?_)
 go_loopw [15] (fun c wr => ∃ j : Nat, j ≤ 256 ∧ c = .int .i64 (j : Int) ∧ Away (At w.heap.size (FL .i64 256 (pt (sg f high) f j)) 25 W wr)) (fun c _ => 256 - (intOf c).toNat)
 case atStart => exact ⟨0, Nat.zero_le _, rfl, A0⟩
 case round =>
  clear A0
  obtain ⟨j, hj, rfl, A0⟩ := hrel
  have BE : Away (Below w.heap.size w wr) := ⟨BW.out.trans (A0.out.below (by have := BW.out.size; omega) (Nat.le_refl _))⟩
  by_cases hlt : j < 256
  ·have hjz : (j : Int) < 256 := by omega
   have hidx := Hidx.out j hlt
   have Hce := Away.mk (fun w1 => centre_any (f j) 8380417 w1)
   obtain ⟨c, hc⟩ : ∃ c, ce 8380417 (f j) = c := ⟨_, rfl⟩
   have hcs := ce_small (f j)
   rw [hc] at Hce hcs
   have fs : IntKind.i64.wrap (high - c) = high - c := by rw [IntKind.wrap_i64]; have := HL.out; omega
   have hsg : Away (high - c = sg f high j) := ⟨by unfold sg; rw [hc]⟩
   clear hc hcs
   go_wp2_with fail
   refine (Hce.out _).mono ?_
   rintro e w2 ⟨rfl, rfl⟩
   clear hidx
   go_wp2_with ((with_reducible refine wpList_put2 A0 rfl _ _ _ rfl rfl ?_); refine ⟨_, _, _, rfl, rfl, rfl, (by rw [fl_size]; exact hlt), ?_⟩; intro wn HR; rw [fl_set, pt_upd _ _ _ _ hsg.out] at HR)
   go_roundw
   case rel => exact ⟨j + 1, by omega, by go_num, HR⟩
   case measure => simp [intOf]; omega
  ·obtain rfl : j = 256 := by omega
   simp only [Int.cast_ofNat_Int]
   rw [fl_all, HG.out] at A0
   have Hrow := Away.mk A0.out.row
   clear A0
   go_wp2_with (refine wpList_load_row rfl 25 _ rfl w.heap.size rfl 25 G (0, 0) _ Hrow.out Tryz.underlying25 rfl Gi.out ?_)
   refine (HPk.out _).mono ?_
   rintro e w6 ⟨rfl, h6⟩
   have BF : Away (Below w.heap.size w w6) := ⟨BE.out.trans (h6.mono BE.out.size)⟩
   clear h6
   go_wp2_with fail
   go_ret2
   exact ⟨rfl, BF.out⟩
end psig
end Go.Proofs.YtlcafjdehcddcaaGreatDoor
