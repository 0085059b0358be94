/-
  What the law package's own comparison of two slices of polynomials returns where both hold the same, or are nil. Conditions: as each theorem says.
-/
import Derived.Test.YtlcafjdehcddcaaGreatDoorPuA
import Derived.Test.YtlcafjdehcddcaaGreatDoorBas
namespace Go.Proofs.YtlcafjdehcddcaaGreatDoor
namespace lpolf
open Go Go.RowKit
open arr mem stil polys polt pols
theorem wpQuiet_load_mid {P : Program} {ops : Array Oper} {C : World → Prop} {Q : Act → Prop} {rest : List Oper} {o : Oper} {a : Act} (hw : Region.wanted o (yielded ops a.tmps) = true) (ty : TypeId) (x : Operand) (ho : o.op = .load ty x)
 (b n : Nat) (hx : a.eval x = .pointer (some ⟨b, n, none⟩)) (cs : List Value) (d : TypeDesc) (hS : ∀ w, C w → w.rangeAt b n cs)
 (hu : P.underlying ty = some d) (hd : d.isRow = true) (hi : (P.info? ty).map (·.size) = some cs.length)
 (h : wpQuiet P ops C Q rest (a.put o.dst (.agg cs.toArray))) : wpQuiet P ops C Q (o :: rest) a := by
 refine wpQuiet_step fun K hK => ?_
 rw [if_pos hw]
 refine ⟨.agg cs.toArray, fun w hC => ?_, hK _ h⟩
 unfold Oper.quietAt execOp
 simp only [ho, hx, Instr.loadAt, Instr.sureAddr, Sem.run_bind, Sem.run_pure, Result.andThen_ok, run_loadVar_mid w b n ty cs d (hS w hC) hu hd hi]
 exact ⟨rfl, rfl⟩
theorem nil_any (w : World) : Calls Tryz.prog 11 #[.slice none 0 0, .slice none 0 0] w fun e w' => e = .returned (.bool true) ∧ Below w.heap.size w w' := by
 go_enter Tryz.func11, Tryz.ntmps11
 go_wp2_with fail
 go_loopw [13] (fun v wr => v = .int .i64 0 ∧ w = wr) (fun _ _ => 0)
 case atStart => exact ⟨rfl, rfl⟩
 case round =>
  obtain ⟨rfl, rfl⟩ := hrel
  go_wp2_with fail
  go_ret
  exact ⟨rfl, Below.refl _ _⟩
theorem range_later {w w' : World} {g o : Nat} {L : List Value} (h : w.rangeAt g o L) (hg : g < w.heap.size) (hC : ∃ p : Regrown, w' = Sort.grow (redrawn w p.d) p.os) : w'.rangeAt g o L := by
 obtain ⟨pp, rfl⟩ := hC
 exact fun j v hv => ((below_regrown w pp.d pp.os).cell (p := ⟨g, o + j, none⟩) hg).trans (h j v hv)
set_option maxRecDepth 100000 in
set_option maxHeartbeats 4000000 in
theorem same_any (v1 v2 : Value) (m B1 B2 : Nat) (p : Nat → Nat → Int) (w : World) (hm : m ≤ 1000) (H1 : Holds w B1 v1 m p) (H2 : Holds w B2 v2 m p) :
 Calls Tryz.prog 11 #[v1, v2] w fun e w' => e = .returned (.bool true) ∧ Below w.heap.size w w' := by
 obtain ⟨g1, c1, rfl, -, hg1, hc1⟩ := H1
 obtain ⟨g2, c2, rfl, -, hg2, hc2⟩ := H2
 obtain ⟨hz, hsize⟩ := zero_of_info infoP
 have Hsize := Away.mk hsize
 have HC1 := Away.mk hc1
 have HC2 := Away.mk hc2
 clear hc1 hc2 hz hsize
 go_enter Tryz.func11, Tryz.ntmps11
 go_wp2_with fail
 go_loopw [13] (fun v wr => ∃ j : Nat, j ≤ m ∧ v = .int .i64 (j : Int) ∧ Away (Below w.heap.size w wr)) (fun v _ => m - (intOf v).toNat)
 case atStart => exact ⟨0, Nat.zero_le _, rfl, ⟨Below.refl _ _⟩⟩
 case round =>
  obtain ⟨j, hj, rfl, BE⟩ := hrel
  by_cases hlt : j < m
  ·have hjz : (j : Int) < (m : Int) := by omega
   have R1 : Away (wr.rangeAt g1 (256 * j) (FL .i64 256 (p j)).toList) := ⟨Holds.range fun k hk => (BE.out.cell (p := ⟨g1, 256 * j + k, none⟩) hg1).trans (HC1.out j hlt k hk)⟩
   have R2 : Away (wr.rangeAt g2 (256 * j) (FL .i64 256 (p j)).toList) := ⟨Holds.range fun k hk => (BE.out.cell (p := ⟨g2, 256 * j + k, none⟩) hg2).trans (HC2.out j hlt k hk)⟩
   have heq := fun w1 => equal_poly (p j) (p j) w1
   rw [(same_iff 256 _ _).2 fun _ _ => rfl] at heq
   have Fi : Away ((Tryz.prog.info? 25).map (·.size) = some (FL .i64 256 (p j)).toList.length) := ⟨by rw [Array.length_toList, fl_size]; exact Hsize.out⟩
   obtain ⟨F, HF⟩ := ex_eq (FL .i64 256 (p j))
   rw [HF.out] at R1 R2 heq Fi
   obtain ⟨o, ho⟩ : ∃ o, 256 * j = o := ⟨_, rfl⟩
   rw [ho] at R1 R2
   have fo : j * 256 = o := by omega
   have hjlt : j < m := hlt
   clear HF ho
   have L1 : g1 < wr.heap.size := Nat.lt_of_lt_of_le hg1 BE.out.size
   have L2 : g2 < wr.heap.size := Nat.lt_of_lt_of_le hg2 BE.out.size
   have HL := Away.mk (And.intro L1 L2)
   clear L1 L2
   go_wp2_with fail
   refine wp_region_quiet_below (by kernel_rfl) (by kernel_rfl) ?_
   quiet_step (skip)
   quiet_step (skip)
   quiet_step (skip)
   refine wpQuiet_load_mid rfl 25 _ rfl g1 o rfl F.toList _ (fun w' hC => range_later R1.out HL.out.1 hC) Tryz.underlying25 rfl Fi.out ?_
   quiet_step (skip)
   quiet_step (skip)
   quiet_step (skip)
   refine wpQuiet_load_mid rfl 25 _ rfl g2 o rfl F.toList _ (fun w' hC => range_later R2.out HL.out.2 hC) Tryz.underlying25 rfl Fi.out ?_
   quiet_step (skip)
   refine wpQuiet_nil ?_
   intro w7 hC
   have B7 : Away (Below w.heap.size w w7) := ⟨BE.out.trans (by obtain ⟨pp, rfl⟩ := hC; exact (below_regrown _ _ _).mono BE.out.size)⟩
   clear hC
   go_wp2_with fail
   go_roundw
   case rel => exact ⟨j + 1, by omega, by go_num, B7⟩
   case measure => simp [intOf]; omega
  ·obtain rfl : j = m := by omega
   have hjz : ¬ (j : Int) < (j : Int) := by omega
   go_wp2_with fail
   go_ret
   exact ⟨rfl, BE.out⟩
end lpolf
end Go.Proofs.YtlcafjdehcddcaaGreatDoor
