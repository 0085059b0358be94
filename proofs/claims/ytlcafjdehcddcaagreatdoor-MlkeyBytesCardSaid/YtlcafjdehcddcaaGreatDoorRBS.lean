/-
  What the document's own Signed and Unpack of layer 10 return. Conditions: none.
-/
import Derived.Test.YtlcafjdehcddcaaGreatDoorPuA
import Derived.Test.YtlcafjdehcddcaaGreatDoorRFC
import Derived.Test.YtlcafjdehcddcaaGreatDoorRBP
namespace Go.Proofs.YtlcafjdehcddcaaGreatDoor
namespace rbite
open Go Go.RowKit
open arr mem stil bitm polys fldm rbita rbitb rbitc rbitd rfld
set_option maxRecDepth 100000 in
set_option maxHeartbeats 2000000 in
theorem signed_bad (f : Nat → Int) (low high : Int) (w : World) (hm : low < 0 ∨ high < 1 ∨ 4190208 ≤ low ∨ 4190208 ≤ high) :
 Calls Tryz.prog 102 #[.agg (FL .i64 256 f), .int .i64 low, .int .i64 high] w fun e w' => e = .returned (.tuple #[.string ⟨#[]⟩, .int .i64 1]) ∧ Below w.heap.size w w' := by
 obtain ⟨F, HF⟩ := ex_eq (FL .i64 256 f)
 rw [HF.out]
 obtain ⟨W, hW⟩ : ∃ x, w.alloc (.cells F 25) = x := ⟨_, rfl⟩
 have HW := Away.mk hW
 have BW : Away (Below w.heap.size w W) := ⟨by rw [← hW]; exact below_alloc _ _⟩
 clear hW
 have hm : low < 0 ∨ (¬ low < 0 ∧ high < 1) ∨ (¬ low < 0 ∧ ¬ high < 1 ∧ 4190208 ≤ low) ∨ (¬ low < 0 ∧ ¬ high < 1 ∧ ¬ 4190208 ≤ low ∧ 4190208 ≤ high) := by omega
 rcases hm with hm | ⟨h1, hm⟩ | ⟨h1, h2, hm⟩ | ⟨h1, h2, h3, hm⟩
 ·go_enter Tryz.func102, Tryz.ntmps102
  go_wp2_with (rw [HW.out])
  go_ret2
  exact ⟨rfl, BW.out⟩
 ·go_enter Tryz.func102, Tryz.ntmps102
  go_wp2_with (rw [HW.out])
  go_ret2
  exact ⟨rfl, BW.out⟩
 ·go_enter Tryz.func102, Tryz.ntmps102
  go_wp2_with (rw [HW.out])
  go_ret2
  exact ⟨rfl, BW.out⟩
 ·go_enter Tryz.func102, Tryz.ntmps102
  go_wp2_with (rw [HW.out])
  go_ret2
  exact ⟨rfl, BW.out⟩
set_option maxRecDepth 100000 in
set_option maxHeartbeats 4000000 in
theorem signed_any (f : Nat → Int) (low high : Int) (w : World) (h1 : 0 ≤ low) (h2 : 1 ≤ high) (h3 : low < 4190208) (h4 : high < 4190208) :
 Calls Tryz.prog 102 #[.agg (FL .i64 256 f), .int .i64 low, .int .i64 high] w fun e w' => e = .returned (if ins f low high then .tuple #[.string (packed (sg f high) (low + high)), .int .i64 0] else .tuple #[.string ⟨#[]⟩, .int .i64 6]) ∧ Below w.heap.size w w' := by
 have HPk : Away (ins f low high → ∀ w1 : World, Calls Tryz.prog 59 #[.agg (FL .i64 256 (sg f high)), .int .i64 (low + high)] w1 fun e w' => e = .returned (.tuple #[.string (packed (sg f high) (low + high)), .int .i64 0]) ∧ Below w1.heap.size w1 w') := ⟨fun hin w1 => by
  have h9 := pack_any (sg f high) (low + high) w1 (by omega) (by omega)
  rw [if_pos (show inb (sg f high) (low + high) from fun i hi => by have := hin i hi; unfold sg; omega)] at h9
  exact h9⟩
 obtain ⟨O, HO⟩ := ex_eq (packed (sg f high) (low + high))
 obtain ⟨G, HG⟩ := ex_eq (FL .i64 256 (sg f high))
 rw [HO.out, HG.out] at HPk
 rw [HO.out]
 obtain ⟨V, HV⟩ := ex_eq (if ins f low high then Value.tuple #[.string O, .int .i64 0] else .tuple #[.string ⟨#[]⟩, .int .i64 6])
 rw [HV.out]
 have Hidx : Away (∀ i : Nat, i < 256 → ∀ w1, (Instr.index 25 (.agg (FL .i64 256 f)) (.int .i64 (i : Int))).run Tryz.prog w1 = .ok (.int .i64 (f i)) w1) := ⟨fun i hi w1 => index_row (P := Tryz.prog) Tryz.underlying25 (by kernel_rfl) (by kernel_rfl) (by kernel_rfl) _ _ i hi (fl_get .i64 256 f i hi) w1⟩
 have Fi : Away ((Tryz.prog.info? 25).map (·.size) = some (FL .i64 256 f).size) := ⟨by rw [fl_size]; exact sizeP⟩
 have Gi : Away ((Tryz.prog.info? 25).map (·.size) = some G.size) := ⟨by rw [← HG.out, fl_size]; exact sizeP⟩
 obtain ⟨F, HF⟩ := ex_eq (FL .i64 256 f)
 rw [HF.out] at Hidx Fi ⊢
 obtain ⟨W, hW⟩ : ∃ x, w.alloc (.cells F 25) = x := ⟨_, rfl⟩
 have HW := Away.mk hW
 have BW : Away (Below w.heap.size w W) := ⟨by rw [← hW]; exact below_alloc _ _⟩
 have hrow : Away (W.heap[w.heap.size]? = some (.cells F 25 (0, 0))) := ⟨by rw [← hW]; exact heap_at _ _ _ rfl⟩
 have A0 : Away (At w.heap.size (FL .i64 256 (pt (sg f high) f 0)) 25 W W) := ⟨by rw [pt_zero, HF.out]; exact At.refl hrow.out⟩
 have g1 : ¬ low < 0 := by omega
 have g2 : ¬ high < 1 := by omega
 have g3 : ¬ 4190208 ≤ low := by omega
 have g4 : ¬ 4190208 ≤ high := by omega
 have fl1 : IntKind.i64.wrap (-low) = -low := by rw [IntKind.wrap_i64]; omega
 have fl2 : IntKind.i64.wrap (low + high) = low + high := by rw [IntKind.wrap_i64]; omega
 have HL := Away.mk (And.intro h1 (And.intro h2 (And.intro h3 h4)))
 clear hW HF HO h1 h2 h3 h4
 go_enter Tryz.func102, Tryz.ntmps102
 go_wp2_with (first
  | (rw [HW.out])
  | (refine wpList_load_row rfl 25 _ rfl w.heap.size rfl 25 F (0, 0) _ hrow.out Tryz.underlying25 rfl Fi.out ?_))
 go_loopw [26] (fun c wr => ∃ j : Nat, j ≤ 256 ∧ c = .int .i64 (j : Int) ∧ Away (∀ i, i < j → -low ≤ ce 8380417 (f i) ∧ ce 8380417 (f i) ≤ high) ∧ Away (At w.heap.size (FL .i64 256 (pt (sg f high) f j)) 25 W wr)) (fun c _ => 256 - (intOf c).toNat)
 case atStart => exact ⟨0, Nat.zero_le _, rfl, ⟨fun i hi => by omega⟩, A0⟩
 case round =>
  clear A0
  obtain ⟨j, hj, rfl, Hin, A0⟩ := hrel
  have BE : Away (Below w.heap.size w wr) := ⟨BW.out.trans (A0.out.below (by have := BW.out.size; omega) (Nat.le_refl _))⟩
  by_cases hlt : j < 256
  ·have hjz : (j : Int) < 256 := by omega
   have hidx := Hidx.out j hlt
   have Hce := Away.mk (fun w1 => centre_any (f j) 8380417 w1)
   obtain ⟨c, hc⟩ : ∃ c, ce 8380417 (f j) = c := ⟨_, rfl⟩
   have hcs := ce_small (f j)
   rw [hc] at Hce hcs
   have Hc := Away.mk hc
   have Hcs := Away.mk hcs
   clear hc hcs
   go_wp2_with fail
   refine (Hce.out _).mono ?_
   rintro e w2 ⟨rfl, rfl⟩
   clear hidx
   by_cases hbad : c < -low ∨ high < c
   ·have hV : Away (V = .tuple #[.string ⟨#[]⟩, .int .i64 6]) := ⟨by rw [← HV.out, if_neg]; intro hall; have := hall j hlt; rw [Hc.out] at this; omega⟩
    rcases hbad with hb1 | hb1
    ·go_wp2_with fail
     go_ret2
     exact ⟨by rw [hV.out]; rfl, BE.out⟩
    ·by_cases hb0 : c < -low
     ·go_wp2_with fail
      go_ret2
      exact ⟨by rw [hV.out]; rfl, BE.out⟩
     ·go_wp2_with fail
      go_ret2
      exact ⟨by rw [hV.out]; rfl, BE.out⟩
   ·have hb0 : ¬ c < -low := by omega
    have hb1 : ¬ high < c := by omega
    have Hin2 : Away (∀ i, i < j + 1 → -low ≤ ce 8380417 (f i) ∧ ce 8380417 (f i) ≤ high) := ⟨fun i hi => by
     by_cases e : i = j
     ·subst e; rw [Hc.out]; omega
     ·exact Hin.out i (by omega)⟩
    have fs : IntKind.i64.wrap (high - c) = high - c := by rw [IntKind.wrap_i64]; have := Hcs.out; have := HL.out; omega
    have hsg : Away (high - c = sg f high j) := ⟨by unfold sg; rw [Hc.out]⟩
    clear hbad
    go_wp2_with ((with_reducible refine wpList_put2 A0 rfl _ _ _ rfl rfl ?_); refine ⟨_, _, _, rfl, rfl, rfl, (by rw [fl_size]; exact hlt), ?_⟩; intro wn HR; rw [fl_set, pt_upd _ _ _ _ hsg.out] at HR)
    go_roundw
    case rel => exact ⟨j + 1, by omega, by go_num, Hin2, HR⟩
    case measure => simp [intOf]; omega
  ·obtain rfl : j = 256 := by omega
   simp only [Int.cast_ofNat_Int]
   have hall : ins f low high := Hin.out
   have hV : Away (V = .tuple #[.string O, .int .i64 0]) := ⟨by rw [← HV.out, if_pos hall]⟩
   have C1 := Away.mk (HPk.out hall wr)
   rw [fl_all, HG.out] at A0
   have Hrow := Away.mk A0.out.row
   clear hall A0
   go_wp2_with (refine wpList_load_row rfl 25 _ rfl w.heap.size rfl 25 G (0, 0) _ Hrow.out Tryz.underlying25 rfl Gi.out ?_)
   refine C1.out.mono ?_
   rintro e w6 ⟨rfl, h6⟩
   have BF : Away (Below w.heap.size w w6) := ⟨BE.out.trans (h6.mono BE.out.size)⟩
   clear h6
   go_wp2_with fail
   go_ret2
   exact ⟨by rw [hV.out]; rfl, BF.out⟩
end rbite
end Go.Proofs.YtlcafjdehcddcaaGreatDoor
