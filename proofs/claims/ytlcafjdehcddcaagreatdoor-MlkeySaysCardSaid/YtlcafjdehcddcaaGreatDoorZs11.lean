/-
  A region that draws its order: two operations in a chain (one that makes memory, a call) and a third that may come ahead of, between or behind them. No program is named here. Conditions: as each theorem says. What the law package's own comparison of two slices of polynomials returns where both hold the same, or are nil. Conditions: as each theorem says. What the reference's times returns for any two long numbers: the parts of their product modulo 2 to the power 256; memory that was there before stays as it was. Conditions: each argument has eight parts of 32 bits. When one long number is above another (the reference's). Conditions: as each theorem says. What the reference's Root returns for any two numbers: 64 bits of the fraction of p's root, or 0 out of range; memory that was there before stays as it was. Conditions: none but that the numbers are ints. What the reference's Primes returns for any number: a slice of its own that holds the first primes, at most 100, none below 1; memory that was there before stays as it was. Conditions: none but that the number is an int. Powers modulo the prime (the reference's). Conditions: as each theorem says. The round constants (the reference's). Conditions: as each theorem says. The turns (the reference's). Conditions: as each theorem says. The bits of a number in reverse order (the reference's). Conditions: as each theorem says. What the reference's Make returns: all tables as the document asks; memory that was there before stays as it was. Conditions: none.
-/
import Derived.Test.YtlcafjdehcddcaaGreatDoorZs03
import Derived.Test.YtlcafjdehcddcaaGreatDoorZs01
import Derived.Test.YtlcafjdehcddcaaGreatDoorProg
import Derived.Test.YtlcafjdehcddcaaGreatDoorZs02
import Derived.Great.BuildSlice
namespace Go.Proofs.YtlcafjdehcddcaaGreatDoor
namespace fork
set_option linter.unusedVariables false
open Go Go.RowKit
open arr mem polys polt pols polb helda
section
variable {P : Program} {ops : Array Oper} {Q : Exit → Act → World → Prop} {S : World → Prop}
theorem fk_two {b : Array Bool} {k1 k2 : Nat} {ks : List Nat} {o1 o2 : Oper} {rest : List Oper} {a : Act} {w : World} (hw1 : Region.wanted o1 (yielded ops a.tmps) = true) (hw2 : Region.wanted o2 (yielded ops a.tmps) = true) (hr : Region.ready .any ops b = [k1, k2])
 (h1 : ∀ K : Act → World → Prop, (∀ a' w', S w' → HK P ops Q S (b.setIfInBounds k1 true) (o2 :: rest) (k2 :: ks) a' w' → K a' w') → o1.wp P a w K Q)
 (h2 : ∀ K : Act → World → Prop, (∀ a' w', S w' → HK P ops Q S (b.setIfInBounds k2 true) (o1 :: rest) (k1 :: ks) a' w' → K a' w') → o2.wp P a w K Q) : HK P ops Q S b (o1 :: o2 :: rest) (k1 :: k2 :: ks) a w := fun hl => by
 simp only [List.map_cons, List.cons.injEq] at hl
 obtain ⟨e1, e2, e3⟩ := hl
 refine wpAnyH_all hr (by simp) fun j hj => ?_
 simp only [List.mem_cons, List.not_mem_nil, or_false] at hj
 rcases hj with rfl | rfl
 ·unfold Go.wpOp
  simp only [e1, hw1, if_true]
  exact Or.inl (h1 _ fun a' w' hs hh => ⟨hs, hh (by simp only [List.map_cons, e2, e3])⟩)
 ·unfold Go.wpOp
  simp only [e2, hw2, if_true]
  exact Or.inl (h2 _ fun a' w' hs hh => ⟨hs, hh (by simp only [List.map_cons, e1, e3])⟩)
theorem fk_perm {b : Array Bool} {ks ks' : List Nat} {l l' : List Oper} {a : Act} {w : World} (hl : l'.length = l.length) (hh : ks.map (fun k => ops[k]?) = l.map some → ks'.map (fun k => ops[k]?) = l'.map some) (h : HK P ops Q S b l' ks' a w) : HK P ops Q S b l ks a w := fun e => by
 have h1 := h (hh e)
 rw [hl] at h1
 exact h1
theorem fk_act {b : Array Bool} {ks : List Nat} {l : List Oper} {a : Act} {w : World} (h : ∀ A0, Away (a = A0) → HK P ops Q S b l ks A0 w) : HK P ops Q S b l ks a w := h a ⟨rfl⟩
theorem hk_fork {b : Array Bool} {k1 k2 k3 : Nat} {ks : List Nat} {o1 o2 o3 : Oper} {rest : List Oper} {a : Act} {w : World} (d1 d2 d3 : Nat) (n23 : d2 ≠ d3) (n13 : d1 ≠ d3)
 (I1 I3 : Value → World → Prop) (I12 I13 : Value → Value → World → Prop) (F : Value → Value → Value → World → Prop)
 (r0 : Region.ready .any ops b = [k1, k3]) (r1 : Region.ready .any ops (b.setIfInBounds k1 true) = [k2, k3]) (r3 : Region.ready .any ops (b.setIfInBounds k3 true) = [k1])
 (r13 : Region.ready .any ops ((b.setIfInBounds k1 true).setIfInBounds k3 true) = [k2]) (r12 : Region.ready .any ops ((b.setIfInBounds k1 true).setIfInBounds k2 true) = [k3]) (m23 : k2 ≠ k3) (m13 : k1 ≠ k3)
 (W1 : Region.wanted o1 (yielded ops a.tmps) = true) (W3 : Region.wanted o3 (yielded ops a.tmps) = true) (W2 : ∀ v1, Region.wanted o2 (yielded ops (a.put (some d1) v1).tmps) = true) (W13 : ∀ v1, Region.wanted o3 (yielded ops (a.put (some d1) v1).tmps) = true)
 (W31 : ∀ v3, Region.wanted o1 (yielded ops (a.put (some d3) v3).tmps) = true) (W123 : ∀ v1 v2, Region.wanted o3 (yielded ops ((a.put (some d1) v1).put (some d2) v2).tmps) = true) (W132 : ∀ v1 v3, Region.wanted o2 (yielded ops ((a.put (some d1) v1).put (some d3) v3).tmps) = true)
 (p1 : ∀ K : Act → World → Prop, (∀ v1 w1, S w1 → I1 v1 w1 → K (a.put (some d1) v1) w1) → o1.wp P a w K Q)
 (p2 : ∀ v1 w1, S w1 → I1 v1 w1 → ∀ K : Act → World → Prop, (∀ v2 w2, S w2 → I12 v1 v2 w2 → K ((a.put (some d1) v1).put (some d2) v2) w2) → o2.wp P (a.put (some d1) v1) w1 K Q)
 (p3 : ∀ v1 v2 w1, S w1 → I12 v1 v2 w1 → ∀ K : Act → World → Prop, (∀ v3 w2, S w2 → F v1 v2 v3 w2 → K (((a.put (some d1) v1).put (some d2) v2).put (some d3) v3) w2) → o3.wp P ((a.put (some d1) v1).put (some d2) v2) w1 K Q)
 (p13 : ∀ v1 w1, S w1 → I1 v1 w1 → ∀ K : Act → World → Prop, (∀ v3 w2, S w2 → I13 v1 v3 w2 → K ((a.put (some d1) v1).put (some d3) v3) w2) → o3.wp P (a.put (some d1) v1) w1 K Q)
 (p132 : ∀ v1 v3 w1, S w1 → I13 v1 v3 w1 → ∀ K : Act → World → Prop, (∀ v2 w2, S w2 → F v1 v2 v3 w2 → K (((a.put (some d1) v1).put (some d3) v3).put (some d2) v2) w2) → o2.wp P ((a.put (some d1) v1).put (some d3) v3) w1 K Q)
 (p0 : ∀ K : Act → World → Prop, (∀ v3 w1, S w1 → I3 v3 w1 → K (a.put (some d3) v3) w1) → o3.wp P a w K Q)
 (p31 : ∀ v3 w1, S w1 → I3 v3 w1 → ∀ K : Act → World → Prop, (∀ v1 w2, S w2 → I13 v1 v3 w2 → K ((a.put (some d3) v3).put (some d1) v1) w2) → o1.wp P (a.put (some d3) v3) w1 K Q)
 (CONT : ∀ v1 v2 v3 w', S w' → F v1 v2 v3 w' → HK P ops Q S (((b.setIfInBounds k1 true).setIfInBounds k2 true).setIfInBounds k3 true) rest ks (((a.put (some d1) v1).put (some d2) v2).put (some d3) v3) w') :
 HK P ops Q S b (o1 :: o2 :: o3 :: rest) (k1 :: k2 :: k3 :: ks) a w := by
 refine fk_perm (l' := o1 :: o3 :: o2 :: rest) (ks' := k1 :: k3 :: k2 :: ks) rfl (fun e => by
  simp only [List.map_cons, List.cons.injEq] at e ⊢
  exact ⟨e.1, e.2.2.1, e.2.1, e.2.2.2⟩) ?_
 have J : ∀ v1 v3 w', S w' → I13 v1 v3 w' → HK P ops Q S ((b.setIfInBounds k1 true).setIfInBounds k3 true) (o2 :: rest) (k2 :: ks) ((a.put (some d1) v1).put (some d3) v3) w' := fun v1 v3 w' hs hi => by
  refine hk_step (W132 v1 v3) r13 (fun K hK => p132 v1 v3 w' hs hi _ fun v2 w2 hs2 hf => hK _ _ hs2 ?_)
  rw [Array.setIfInBounds_comm _ _ m23.symm, ← Act.put_comm _ v2 v3 (fun d e1 e2 => by injection e1 with e1; injection e2 with e2; exact n23 (e1.trans e2.symm))]
  exact CONT v1 v2 v3 w2 hs2 hf
 refine fk_two W1 W3 r0 (fun K hK => p1 _ fun v1 w1 hs hi => hK _ _ hs ?_) (fun K hK => p0 _ fun v3 w1 hs hi => hK _ _ hs ?_)
 ·refine fk_perm (l' := o2 :: o3 :: rest) (ks' := k2 :: k3 :: ks) rfl (fun e => by
   simp only [List.map_cons, List.cons.injEq] at e ⊢
   exact ⟨e.2.1, e.1, e.2.2⟩) ?_
  refine fk_two (W2 v1) (W13 v1) r1 (fun K hK => p2 v1 w1 hs hi _ fun v2 w2 hs2 hi2 => hK _ _ hs2 ?_) (fun K hK => p13 v1 w1 hs hi _ fun v3 w2 hs2 hi2 => hK _ _ hs2 (J v1 v3 w2 hs2 hi2))
  exact hk_step (W123 v1 v2) r12 (fun K hK => p3 v1 v2 w2 hs2 hi2 _ fun v3 w3 hs3 hf => hK _ _ hs3 (CONT v1 v2 v3 w3 hs3 hf))
 ·refine hk_step (W31 v3) r3 (fun K hK => p31 v3 w1 hs hi _ fun v1 w2 hs2 hi2 => hK _ _ hs2 ?_)
  rw [Array.setIfInBounds_comm _ _ m13.symm, ← Act.put_comm _ v1 v3 (fun d e1 e2 => by injection e1 with e1; injection e2 with e2; exact n13 (e1.trans e2.symm))]
  exact J v1 v3 w2 hs2 hi2
end
theorem wp_call3 {P : Program} {o : Oper} {a : Act} {w : World} {K : Act → World → Prop} {Q : Exit → Act → World → Prop} (f : Nat) (x y z : Operand) (ts : Array TypeId) (ho : o.op = .call { callee := .value (.func f), args := #[x, y, z], argTypes := ts })
 (hf : ∀ (args : Array Value) (w : World), (callFunc f args).run P w = .ok (.enter f args) w) (vx vy vz : Value) (hx : a.eval x = vx) (hy : a.eval y = vy) (hz : a.eval z = vz) (h : Calls P f #[vx, vy, vz] w fun e w' => ∃ v, e = .returned v ∧ K (a.put o.dst v) w') : o.wp P a w K Q := by
 unfold Oper.wp execOp
 simp only [ho, resolve, List.map_toArray, List.map_cons, List.map_nil, hx, hy, hz]
 go_simp
 show Calls P f #[vx, vy, vz] w _
 refine h.mono ?_
 rintro e w' ⟨v, rfl, hk⟩
 exact hk
theorem hk_mid {P : Program} {ops : Array Oper} {Q : Exit → Act → World → Prop} {S : World → Prop} {b : Array Bool} {k : Nat} {ks : List Nat} {o : Oper} {rest : List Oper} {a : Act} {w : World} (hw : Region.wanted o (yielded ops a.tmps) = true) (hs : Region.noSelect ops = true) (hf : Region.free .any ops b k = true) (hr : (Region.ready .any ops b).contains k = true)
 (hQ : ∀ v c a w, Q (.panic c) (a.put o.dst v) w → Q (.panic c) a w) (ty : TypeId) (x : Operand) (ho : o.op = .load ty x)
 (g n : Nat) (hx : a.eval x = .pointer (some ⟨g, n, none⟩)) (cs : List Value) (d : TypeDesc) (hC : ∀ w, S w → w.rangeAt g n cs)
 (hu : P.underlying ty = some d) (hd : d.isRow = true) (hz : (P.info? ty).map (·.size) = some cs.length) (hS : S w)
 (h : HK P ops Q S (b.setIfInBounds k true) rest ks (a.put o.dst (.agg cs.toArray)) w) : HK P ops Q S b (o :: rest) (k :: ks) a w :=
 hk_take hw hs hf hr (hQ _) (fun w hw2 => by
  unfold execOp
  simp only [ho, hx, Instr.loadAt, Instr.sureAddr, Sem.run_bind, Sem.run_pure, Result.andThen_ok, run_loadVar_mid w g n ty cs d (hC w hw2) hu hd hz]) hS h
theorem wpList_buildOne {P : Program} {ops : Array Oper} {rest : List Oper} {o : Oper} {a : Act} {w : World} {Q : Exit → Act → World → Prop} (hg : o.guard = none) (t e : TypeId) (x : Operand) (ho : o.op = .buildSlice t 1 #[(0, x)])
 (F : Array Value) (hF : F.size = 256) (ie : TypeInfo) (z : Array Value)
 (hu : P.underlying t = some (.slice e)) (hie : P.info? e = some ie) (hz : ie.zero = some (.agg z)) (hsz : ie.size = 256) (hx : a.eval x = .agg F)
 (h : wpList P ops Q rest (a.put o.dst (.slice (some ⟨w.heap.size, 0, none⟩) 1 1)) (w.alloc (.cells F e))) : wpList P ops Q (o :: rest) a w := by
 refine wpList_buildSlice hg t e 1 _ ho F ie (.agg z) hu hie hz (by rw [hsz]; decide) (by rw [hsz]; decide) ?_ h
 have hc : ((#[(0, x)] : Array (Nat × Operand)).map fun (i, x) => (i, a.eval x)).toList = [(0, Value.agg F)] := by simp [hx]
 rw [hc, hsz]
 exact fill_one F _ hF (by rw [Array.size_map, Array.size_range])
theorem wp_buildTwo {P : Program} {o : Oper} {a : Act} {w : World} {K : Act → World → Prop} {Q : Exit → Act → World → Prop} (t e : TypeId) (x y : Operand) (ho : o.op = .buildSlice t 2 #[(0, x), (1, y)])
 (f g : Nat → Int) (F G : Array Value) (hF : FL .i64 256 f = F) (hG : FL .i64 256 g = G) (ie : TypeInfo) (z : Array Value)
 (hu : P.underlying t = some (.slice e)) (hie : P.info? e = some ie) (hz : ie.zero = some (.agg z)) (hsz : ie.size = 256) (hx : a.eval x = .agg F) (hy : a.eval y = .agg G)
 (h : K (a.put o.dst (.slice (some ⟨w.heap.size, 0, none⟩) 2 2)) (w.alloc (.cells (RW 2 (pair f g)) e))) : o.wp P a w K Q := by
 refine wp_buildSlice t e 2 _ ho (RW 2 (pair f g)) ie (.agg z) hu hie hz (by rw [hsz]; decide) (by rw [hsz]; decide) ?_ h
 have hc : ((#[(0, x), (1, y)] : Array (Nat × Operand)).map fun (i, x) => (i, a.eval x)).toList = [(0, Value.agg F), (1, Value.agg G)] := by simp [hx, hy]
 have sF : F.size = 256 := by rw [← hF, fl_size]
 have sG : G.size = 256 := by rw [← hG, fl_size]
 rw [hc, ← rw_pair f g, hF, hG, hsz]
 exact fill_two F G _ sF sG (by rw [Array.size_map, Array.size_range])
theorem built_two {w : World} (p : Nat → Nat → Int) (e : TypeId) : Holds (w.alloc (.cells (RW 2 p) e)) 0 (.slice (some ⟨w.heap.size, 0, none⟩) 2 2) 2 p :=
 ⟨w.heap.size, 2, rfl, Nat.zero_le _, by rw [size_alloc]; omega, fun i hi k hk => rw_cell (t := e) (heap_at _ _ _ rfl) i k hi hk⟩
end fork
end Go.Proofs.YtlcafjdehcddcaaGreatDoor
namespace Go.Proofs.YtlcafjdehcddcaaGreatDoor
namespace lpolf
open Go Go.RowKit
open arr mem stil polys polt pols
theorem wpQuiet_load_mid {P : Program} {ops : Array Oper} {C : World → Prop} {Q : Act → Prop} {rest : List Oper} {o : Oper} {a : Act} (hw : Region.wanted o (yielded ops a.tmps) = true) (ty : TypeId) (x : Operand) (ho : o.op = .load ty x)
 (b n : Nat) (hx : a.eval x = .pointer (some ⟨b, n, none⟩)) (cs : List Value) (d : TypeDesc) (hS : ∀ w, C w → w.rangeAt b n cs)
 (hu : P.underlying ty = some d) (hd : d.isRow = true) (hi : (P.info? ty).map (·.size) = some cs.length)
 (h : wpQuiet P ops C Q rest (a.put o.dst (.agg cs.toArray))) : wpQuiet P ops C Q (o :: rest) a := by
 refine wpQuiet_step fun K hK => ?_
 rw [if_pos hw]
 refine ⟨.agg cs.toArray, fun w hC => ?_, hK _ h⟩
 unfold Oper.quietAt execOp
 simp only [ho, hx, Instr.loadAt, Instr.sureAddr, Sem.run_bind, Sem.run_pure, Result.andThen_ok, run_loadVar_mid w b n ty cs d (hS w hC) hu hd hi]
 exact ⟨rfl, rfl⟩
theorem range_later {w w' : World} {g o : Nat} {L : List Value} (h : w.rangeAt g o L) (hg : g < w.heap.size) (hC : ∃ p : Regrown, w' = Sort.grow (redrawn w p.d) p.os) : w'.rangeAt g o L := by
 obtain ⟨pp, rfl⟩ := hC
 exact fun j v hv => ((below_regrown w pp.d pp.os).cell (p := ⟨g, o + j, none⟩) hg).trans (h j v hv)
set_option maxRecDepth 100000 in
set_option maxHeartbeats 4000000 in
theorem same_any (v1 v2 : Value) (m B1 B2 : Nat) (p : Nat → Nat → Int) (w : World) (hm : m ≤ 1000) (H1 : Holds w B1 v1 m p) (H2 : Holds w B2 v2 m p) :
 Calls Tryz.prog 11 #[v1, v2] w fun e w' => e = .returned (.bool true) ∧ Below w.heap.size w w' := by
 obtain ⟨g1, c1, rfl, -, hg1, hc1⟩ := H1
 obtain ⟨g2, c2, rfl, -, hg2, hc2⟩ := H2
 obtain ⟨hz, hsize⟩ := zero_of_info infoP
 have Hsize := Away.mk hsize
 have HC1 := Away.mk hc1
 have HC2 := Away.mk hc2
 clear hc1 hc2 hz hsize
 go_enter Tryz.func11, Tryz.ntmps11
 go_wp2_with fail
 go_loopw [13] (fun v wr => ∃ j : Nat, j ≤ m ∧ v = .int .i64 (j : Int) ∧ Away (Below w.heap.size w wr)) (fun v _ => m - (intOf v).toNat)
 case atStart => exact ⟨0, Nat.zero_le _, rfl, ⟨Below.refl _ _⟩⟩
 case round =>
  obtain ⟨j, hj, rfl, BE⟩ := hrel
  by_cases hlt : j < m
  ·have hjz : (j : Int) < (m : Int) := by omega
   have R1 : Away (wr.rangeAt g1 (256 * j) (FL .i64 256 (p j)).toList) := ⟨Holds.range fun k hk => (BE.out.cell (p := ⟨g1, 256 * j + k, none⟩) hg1).trans (HC1.out j hlt k hk)⟩
   have R2 : Away (wr.rangeAt g2 (256 * j) (FL .i64 256 (p j)).toList) := ⟨Holds.range fun k hk => (BE.out.cell (p := ⟨g2, 256 * j + k, none⟩) hg2).trans (HC2.out j hlt k hk)⟩
   have heq := fun w1 => equal_poly (p j) (p j) w1
   rw [(same_iff 256 _ _).2 fun _ _ => rfl] at heq
   have Fi : Away ((Tryz.prog.info? 25).map (·.size) = some (FL .i64 256 (p j)).toList.length) := ⟨by rw [Array.length_toList, fl_size]; exact Hsize.out⟩
   obtain ⟨F, HF⟩ := ex_eq (FL .i64 256 (p j))
   rw [HF.out] at R1 R2 heq Fi
   obtain ⟨o, ho⟩ : ∃ o, 256 * j = o := ⟨_, rfl⟩
   rw [ho] at R1 R2
   have fo : j * 256 = o := by omega
   have hjlt : j < m := hlt
   clear HF ho
   have L1 : g1 < wr.heap.size := Nat.lt_of_lt_of_le hg1 BE.out.size
   have L2 : g2 < wr.heap.size := Nat.lt_of_lt_of_le hg2 BE.out.size
   have HL := Away.mk (And.intro L1 L2)
   clear L1 L2
   go_wp2_with fail
   refine wp_region_quiet_below (by kernel_rfl) (by kernel_rfl) ?_
   quiet_step (skip)
   quiet_step (skip)
   quiet_step (skip)
   refine wpQuiet_load_mid rfl 25 _ rfl g1 o rfl F.toList _ (fun w' hC => range_later R1.out HL.out.1 hC) Tryz.underlying25 rfl Fi.out ?_
   quiet_step (skip)
   quiet_step (skip)
   quiet_step (skip)
   refine wpQuiet_load_mid rfl 25 _ rfl g2 o rfl F.toList _ (fun w' hC => range_later R2.out HL.out.2 hC) Tryz.underlying25 rfl Fi.out ?_
   quiet_step (skip)
   refine wpQuiet_nil ?_
   intro w7 hC
   have B7 : Away (Below w.heap.size w w7) := ⟨BE.out.trans (by obtain ⟨pp, rfl⟩ := hC; exact (below_regrown _ _ _).mono BE.out.size)⟩
   clear hC
   go_wp2_with fail
   go_roundw
   case rel => exact ⟨j + 1, by omega, by go_num, B7⟩
   case measure => simp [intOf]; omega
  ·obtain rfl : j = m := by omega
   have hjz : ¬ (j : Int) < (j : Int) := by omega
   go_wp2_with fail
   go_ret
   exact ⟨rfl, BE.out⟩
end lpolf
end Go.Proofs.YtlcafjdehcddcaaGreatDoor
namespace Go.Proofs.YtlcafjdehcddcaaGreatDoor
namespace rtimes
open Go.RowKit
open tabd arr
theorem zrlong : (Tryz.prog.info? 103).map (·.size) = some 8 := by kernel_rfl
set_option maxHeartbeats 400000 in
theorem times_any (us vs : List Nat) (w : World) (hu : us.length = 8) (hv : vs.length = 8) (su : Small us) (sv : Small vs) :
 Calls Tryz.prog 75 #[.agg (LK .u64 us), .agg (LK .u64 vs)] w fun e w' => e = .returned (.agg (LK .u64 (dg 8 (val us * val vs)))) ∧ Below w.heap.size w w' := by
 have Hu := Lib.hid hu
 have Hv := Lib.hid hv
 have Su := Lib.hid su
 have Sv := Lib.hid sv
 clear hu hv su sv
 go_enter Tryz.func75, Tryz.ntmps75
 go_wp2
 obtain ⟨Z, hZ⟩ : ∃ Z, (#[.int .u64 0, .int .u64 0, .int .u64 0, .int .u64 0, .int .u64 0, .int .u64 0, .int .u64 0, .int .u64 0] : Array Value) = Z := ⟨_, rfl⟩
 rw [hZ]
 have HZ := Lib.hid hZ
 clear hZ
 have t0 := top_start us vs
 go_loopw [10] (fun i wr => ∃ (k n : Nat) (ds : List Nat), k ≤ 8 ∧ i = .int .i64 k ∧ Top us vs k ds ∧ wr = ((((w.alloc (.cells (LK .u64 us) 103)).alloc (.cells (LK .u64 vs) 103)).alloc (.cells Z 103)).alloc (.cells (LK .u64 ds) 103)).drewN n) (fun i _ => 8 - (intOf i).toNat)
 case atStart => exact ⟨0, 0, List.replicate 8 0, by decide, rfl, t0, by rw [← HZ.out]; rfl⟩
 case round =>
  obtain ⟨k, n, ds, hk, rfl, ht, rfl⟩ := hrel
  clear t0
  by_cases hlt : k < 8
  ·obtain ⟨N, hN⟩ : ∃ N, val ds = N := ⟨_, rfl⟩
   obtain ⟨x, hx⟩ : ∃ x, us.getD k 0 = x := ⟨_, rfl⟩
   have hm0 := mid_start vs ds x k ht.1 ht.2.1
   have hxl := getD_small Su.out k
   rw [hx] at hxl
   rw [hN] at hm0
   have Ht := Lib.hid ht
   have HN := Lib.hid hN
   have hgu := lk_get .u64 us k (by rw [Hu.out]; exact hlt)
   rw [hx] at hgu
   have HX := Lib.hid hx
   clear ht hN hx
   go_wp2
   go_loopw [8, 7] (fun j c wr => ∃ (m n : Nat) (d : List Nat) (cc : Nat), m ≤ 8 - k ∧ j = .int .i64 m ∧ c = .int .u64 cc ∧ Mid vs N x k m d cc ∧ wr = ((((w.alloc (.cells (LK .u64 us) 103)).alloc (.cells (LK .u64 vs) 103)).alloc (.cells Z 103)).alloc (.cells (LK .u64 d) 103)).drewN n) (fun j _ _ => 8 - (intOf j).toNat)
   case atStart => exact ⟨0, n, ds, 0, by omega, rfl, rfl, hm0, rfl⟩
   case round =>
    obtain ⟨m, n, d, c, hm, rfl, rfl, hmid, rfl⟩ := hrel
    by_cases hlm : m < 8 - k
    ·have hs := mid_step hmid hxl Sv.out (by rw [Hv.out]; omega) (by omega)
     have hb := mid_bd (j := m) (k := k + m) (c := c) hxl Sv.out hmid.2.1 hmid.2.2.1
     have hgv := lk_get .u64 vs m (by rw [Hv.out]; omega)
     have hgd := lk_get .u64 d (k + m) (by rw [hmid.1]; omega)
     have hlv := getD_small Sv.out m
     have hld := getD_small hmid.2.1 (k + m)
     obtain ⟨y, hy⟩ : ∃ y, vs.getD m 0 = y := ⟨_, rfl⟩
     obtain ⟨z, hz⟩ : ∃ z, d.getD (k + m) 0 = z := ⟨_, rfl⟩
     rw [hy] at hs hb hgv hlv
     rw [hz] at hs hb hgd hld
     have hc := hmid.2.2.1
     have hset := lk_setI .u64 d (k + m) ((x * y + z + c) % 4294967296) (bits .and .u64 ((z : Int) + (x : Int) * (y : Int) + (c : Int)) 4294967295) (cast_mask x y z c hb.2.2)
     clear hy hz hmid hm0
     have w1 : IntKind.i64.wrap ((k : Int) + (m : Int)) = (k : Int) + (m : Int) := IntWalk.i64_in _ (by omega)
     have w2 : ((k : Int) + (m : Int)).toNat = k + m := by omega
     go_wp2_with fail
     go_quiet (fail)
     go_wp2_with fail
     go_roundw
     case rel =>
      exact ⟨m + 1, n + nq, d.set (k + m) ((x * y + z + c) % 4294967296), (x * y + z + c) / 4294967296, by omega, by go_num, val_int (cast_zdiv x y z c), hs, rfl⟩
     case measure => simp [intOf]; omega
    ·obtain rfl : m = 8 - k := by omega
     have htop := top_step (us := us) (c := c) (HN.out ▸ Ht.out.2.2) (by rw [Hu.out]; exact hlt) hk Hv.out (by rw [HX.out]; exact hmid)
     clear hm0 hmid hgu
     go_wp2_with fail
     go_roundw
     case rel => exact ⟨k + 1, n, d, by omega, by go_num, htop, rfl⟩
     case measure => simp [intOf]; omega
  ·obtain rfl : k = 8 := by omega
   have hend := top_end Hu.out ht
   have hsz : (LK .u64 ds).size = 8 := by rw [lk_size]; exact ht.1
   have hzs : Z.size = 8 := by rw [← HZ.out]; rfl
   obtain ⟨X, hX⟩ : ∃ X, ((((w.alloc (.cells (LK .u64 us) 103)).alloc (.cells (LK .u64 vs) 103)).alloc (.cells Z 103)).alloc (.cells (LK .u64 ds) 103)).drewN n = X := ⟨_, rfl⟩
   have hb : Below w.heap.size w X := by
    rw [← hX]
    exact below_drewN (((((Below.refl _ _).alloc (Nat.le_refl _) _).alloc (by simp) _).alloc (by simp; omega) _).alloc (by simp; omega) _) n
   have g5 : X.heap[w.heap.size + 1 + 1 + 1]? = some (.cells (LK .u64 ds) 103 (0, 0)) := by
    rw [← hX, heap_drewN', heap_at _ _ _ (by simp)]
   have g4 : X.heap[w.heap.size + 1 + 1]? = some (.cells Z 103 (0, 0)) := by
    rw [← hX, heap_drewN', heap_past _ _ _ (by simp), heap_at _ _ _ (by simp)]
   rw [hX]
   clear hX ht
   go_wp2_with (first | (refine wpList_load_row rfl 103 _ rfl _ rfl 103 _ (0, 0) _ g5 Tryz.underlying103 rfl (by rw [hsz]; exact zrlong) ?_) | (refine wpList_store_row rfl 103 _ _ rfl _ _ rfl rfl 103 _ g4 (by rw [hsz]; exact zrlong) (by rw [hsz]; exact hzs) (lk_one _ _) ?_))
   refine bodyPost_ret_by (v := .agg (LK .u64 ds)) (results_cell_row rfl _ _ (w.heap.size + 1 + 1) 103 _ (0, 0) _ rfl (setRow_heap _ _ _ _ _ _ g4) Tryz.underlying103 rfl (by rw [hsz]; exact zrlong)) rfl ?_
   exact ⟨by rw [hend], hb.trans (below_setRow _ _ _ (by omega))⟩
end rtimes
namespace above
open Go.RowKit
open tabd arr
set_option maxHeartbeats 400000 in
theorem rabove_any (us vs : List Nat) (w : World) (hu : us.length = 8) (hv : vs.length = 8) (su : Small us) (sv : Small vs) :
 Calls Tryz.prog 76 #[.agg (LK .u64 us), .agg (LK .u64 vs)] w fun e w' => e = .returned (.bool (decide (val vs < val us))) ∧ Below w.heap.size w w' := by
 have Hu := Lib.hid hu
 have Hv := Lib.hid hv
 have Su := Lib.hid su
 have Sv := Lib.hid sv
 have HS := Lib.hid (show Same us vs (8 - 0) from by unfold Same; rw [List.drop_of_length_le (by omega), List.drop_of_length_le (by omega)])
 clear hu hv su sv
 go_enter Tryz.func76, Tryz.ntmps76
 go_wp2
 go_loopw [5] (fun i wr => ∃ (k n : Nat), k ≤ 8 ∧ i = .int .i64 (7 - (k : Int)) ∧ Hid (Same us vs (8 - k)) ∧ wr = ((w.alloc (.cells (LK .u64 us) 103)).alloc (.cells (LK .u64 vs) 103)).drewN n) (fun i _ => (intOf i + 1).toNat)
 case atStart => exact ⟨0, 0, by decide, rfl, HS, rfl⟩
 case round =>
  obtain ⟨k, n, hk, rfl, hs, rfl⟩ := hrel
  clear HS
  have hbel : ∀ n, Below w.heap.size w (((w.alloc (.cells (LK .u64 us) 103)).alloc (.cells (LK .u64 vs) 103)).drewN n) := fun n => below_drewN (((Below.refl _ _).alloc (Nat.le_refl _) _).alloc (by simp) _) n
  have Hbel := Lib.hid hbel
  clear hbel
  by_cases hlt : k < 8
  ·have hgu := lk_get .u64 us (7 - k) (by rw [Hu.out]; omega)
   have hgv := lk_get .u64 vs (7 - k) (by rw [Hv.out]; omega)
   have e1 : (7 - (k : Int)).toNat = 7 - k := by omega
   have hs' : Same us vs (7 - k + 1) := by rw [show 7 - k + 1 = 8 - k by omega]; exact hs.out
   by_cases he : us.getD (7 - k) 0 = vs.getD (7 - k) 0
   ·have hn := Lib.hid (same_step hs' (by rw [Hu.out]; omega) (by rw [Hv.out]; omega) he)
    rw [he] at hgu
    obtain ⟨x, hx⟩ : ∃ x, vs.getD (7 - k) 0 = x := ⟨_, rfl⟩
    rw [hx] at hgu hgv
    clear he hx hs' hs
    go_wp2_with fail
    go_quiet (fail)
    go_wp2_with fail
    go_roundw
    case rel => exact ⟨k + 1, _, by omega, val_int (by omega), by rw [show 8 - (k + 1) = 7 - k by omega]; exact hn, rfl⟩
    case measure => simp [intOf]; omega
   ·have hg := Lib.hid (gt_of us vs (7 - k) hs' Hu.out Hv.out Su.out Sv.out (by omega) he)
    obtain ⟨x, hx⟩ : ∃ x, us.getD (7 - k) 0 = x := ⟨_, rfl⟩
    obtain ⟨y, hy⟩ : ∃ y, vs.getD (7 - k) 0 = y := ⟨_, rfl⟩
    rw [hx, hy] at hg
    rw [hx] at hgu
    rw [hy] at hgv
    rw [hx, hy] at he
    have b1 : ((x : Int) == (y : Int)) = false := beq_eq_false_iff_ne.2 (by omega)
    have b2 : ((x : Int) != (y : Int)) = true := by rw [bne_iff_ne]; omega
    clear he hx hy hs' hs
    go_wp2_with fail
    go_quiet (fail)
    go_wp2_with fail
    go_quiet (fail)
    go_wp2_with fail
    go_ret
    exact ⟨ret_bool hg.out, below_drewN (below_drewN (Hbel.out _) _) _⟩
  ·obtain rfl : k = 8 := by omega
   have hz := Lib.hid (same_zero hs.out)
   go_wp2_with fail
   go_ret
   exact ⟨ret_bool (by rw [hz.out]; simp), Hbel.out _⟩
theorem rabove_b (c : Bool) (us vs : List Nat) (w : World) (hu : us.length = 8) (hv : vs.length = 8) (su : Small us) (sv : Small vs) (hc : decide (val vs < val us) = c) :
 Calls Tryz.prog 76 #[.agg (LK .u64 us), .agg (LK .u64 vs)] w fun e w' => e = .returned (.bool c) ∧ Below w.heap.size w w' := by
 subst hc; exact rabove_any us vs w hu hv su sv
end above
namespace rroot
open Go.RowKit
open tabd arr rtimes above
open Go.Proofs.YtlcafjdehcddcaaGreatDoor.raised (dg_mulmod)
open root (join_parts rootV)
def St (p k : Nat) (w : World) (y : Nat) (wr : World) : Prop :=
 wr.heap[w.heap.size]? = some (.cells (LK .u64 (top p k)) 103 (0, 0)) ∧
 wr.heap[w.heap.size + 1]? = some (.cells (LK .u64 (dg 8 y)) 103 (0, 0)) ∧ Below w.heap.size w wr ∧ w.heap.size + 2 ≤ wr.heap.size
theorem st_call {p k : Nat} {w wr w1 : World} {n : Nat} (h : St p k w n wr) (hb : Below wr.heap.size wr w1) : St p k w n w1 := by
 obtain ⟨h1, h2, h4, h5⟩ := h
 have hs := hb.size
 exact ⟨(hb.block _ (by omega)).trans h1, (hb.block _ (by omega)).trans h2, h4.trans (hb.mono (by omega)), by omega⟩
theorem st_store {p k : Nat} {w wr : World} {n t : Nat} (h : St p k w n wr) : St p k w t (wr.setRow (w.heap.size + 1) (LK .u64 (dg 8 t))) := by
 obtain ⟨h1, h2, h4, h5⟩ := h
 exact ⟨by rw [setRow_other _ _ _ _ (by omega)]; exact h1, setRow_heap _ _ _ _ _ _ h2, h4.trans (below_setRow _ _ _ (by omega)), by simpa using h5⟩
theorem top_size (p k : Nat) : (LK .u64 (top p k)).size = 8 := by rw [lk_size, top_length]
theorem heap_lt {w : World} {g : Nat} {o : Obj} (h : w.heap[g]? = some o) : g < w.heap.size := by
 by_cases hlt : g < w.heap.size
 ·exact hlt
 ·rw [Array.getElem?_eq_none (by omega)] at h; cases h
set_option maxRecDepth 100000 in
set_option maxHeartbeats 2000000 in
theorem root_in2 (p : Nat) (w : World) (hp : p ≤ 1000) :
 Calls Tryz.prog 27 #[.int .i64 p, .int .i64 2] w fun e w' => e = .returned (.int .u64 ((rootN p 2 % 18446744073709551616 : Nat) : Int)) ∧ Below w.heap.size w w' := by
 have hsd : ∀ v, (LK .u64 (dg 8 v)).size = 8 := fun v => by rw [lk_size, dg_length]
 have Hsd := Away.mk hsd
 clear hsd
 go_enter Tryz.func27, Tryz.ntmps27
 go_wp2_with fail
 go_loopw [7] (fun i wr => ∃ n y : Nat, n ≤ 70 ∧ i = .int .i64 (69 - (n : Int)) ∧ Away (rt 70 (p * bp (2 * 2)) 2 n = y) ∧ St p 2 w y wr) (fun i _ => (intOf i + 1).toNat)
 case atStart =>
  refine ⟨0, 0, by decide, rfl, ⟨rfl⟩, ?_, ?_, ?_, ?_⟩
  ·rw [heap_past _ _ _ (by simp <;> omega), heap_at _ _ _ rfl]; rfl
  ·rw [heap_at _ _ _ (by simp <;> omega)]; rfl
  ·exact ((Below.refl _ _).alloc (Nat.le_refl _) _).alloc (by simp <;> omega) _
  ·simp
 case round =>
  obtain ⟨n, y, hn, rfl, Hy, hst⟩ := hrel
  have g1 := hst.2.1
  have Hst := Away.mk hst
  clear hst
  by_cases hlt : n < 70
  ·obtain ⟨k1, k2, k3, k4, k5⟩ := rt_round (k := 2) (by decide) hp (by decide : 69 ≤ 70) (Nat.le_refl 70) hlt Hy.out
   have HR := Away.mk k5
   obtain ⟨d, hd⟩ : ∃ d, (dg 8 y).getD ((69 - n) / 32) 0 = d := ⟨_, rfl⟩
   have hget := lk_get .u64 (dg 8 y) ((69 - n) / 32) (by rw [dg_length]; omega)
   have hdl := getD_small (dg_small 8 y) ((69 - n) / 32)
   rw [hd] at hget hdl
   have hbit := dg_bit y (69 - n) (by omega) k1 k2
   rw [hd] at hbit
   have Hbit := Away.mk hbit
   have hq8 : (69 - n) / 32 < 8 := by omega
   have hr32 : (69 - n) % 32 < 32 := by omega
   have w36 : (69 - (n : Int)) / 32 = (((69 - n) / 32 : Nat) : Int) := by omega
   have w40 : (69 - (n : Int)) % 32 = (((69 - n) % 32 : Nat) : Int) := by omega
   obtain ⟨q, hq⟩ : ∃ q, (69 - n) / 32 = q := ⟨_, rfl⟩
   obtain ⟨r, hr⟩ : ∃ r, (69 - n) % 32 = r := ⟨_, rfl⟩
   rw [hq] at w36 hget Hbit hq8
   rw [hr] at w40 Hbit hr32
   obtain ⟨t, ht⟩ : ∃ t, y + 2 ^ (70 - 1 - n) = t := ⟨_, rfl⟩
   rw [ht] at k3 k4 HR
   have hset : (LK .u64 (dg 8 y)).setIfInBounds q (.int .u64 (bits .or .u64 (d : Int) (IntKind.u64.wrap (2 ^ r)))) = LK .u64 (dg 8 t) := by
    rw [lk_setI .u64 (dg 8 y) q (d ||| 2 ^ r) _ (or_bit64w d r hdl hr32), ← ht]
    exact congrArg (LK .u64) Hbit.out.1
   have K3 := Away.mk k3
   have K4 := Away.mk k4
   clear hd hbit hq hr ht k1 k2 k3 k4 k5
   go_wp2_with (first | (refine wpList_load_row rfl 103 _ rfl _ rfl 103 _ (0, 0) _ g1 Tryz.underlying103 rfl (by rw [Hsd.out]; exact zrlong) ?_) | (refine wpList_store_new rfl 103 _ _ rfl _ rfl rfl (by rw [Hsd.out]; exact zrlong) (by rw [Hsd.out]; rfl) (lk_one _ _) rfl ?_) | (refine wpList_load_row rfl 103 _ rfl _ rfl 103 _ (0, 0) _ (heap_at _ _ _ rfl) Tryz.underlying103 rfl (by rw [Hsd.out]; exact zrlong) ?_))
   refine (times_any _ _ _ (dg_length _ _) (dg_length _ _) (dg_small _ _) (dg_small _ _)).mono ?_
   rintro e w1 ⟨rfl, hb1⟩
   rw [K3.out]
   have hbA : Below wr.heap.size wr w1 := ((Below.refl _ _).alloc (Nat.le_refl _) _).trans (hb1.mono (by simp))
   have g8 := (hb1.block wr.heap.size (by simp)).trans (heap_at wr _ _ rfl)
   have Hst1 := Away.mk (st_call Hst.out hbA)
   have g5 := Hst1.out.1
   have s8 := heap_lt g8
   have s5 := heap_lt g5
   clear hb1 hbA g1
   have KX : Away (t * t = t ^ 2) := ⟨(Nat.pow_two t).symm⟩
   obtain ⟨c, Hc⟩ := ex_eq (decide (val (top p 2) < val (dg 8 (t * t))))
   go_wp2_with (first | (refine wpList_store_new rfl 103 _ _ rfl _ rfl rfl (by rw [Hsd.out]; exact zrlong) (by rw [Hsd.out]; rfl) (lk_one _ _) rfl ?_) | (refine wpList_load_row rfl 103 _ rfl _ rfl 103 _ (0, 0) _ (heap_at _ _ _ rfl) Tryz.underlying103 rfl (by rw [Hsd.out]; exact zrlong) ?_) | (refine wpList_load_row rfl 103 _ rfl _ rfl 103 _ (0, 0) _ ((heap_past _ _ _ s5).trans g5) Tryz.underlying103 rfl (by rw [top_size]; exact zrlong) ?_))
   have HstX := Away.mk (st_call Hst1.out ((Below.refl _ _).alloc (Nat.le_refl _) (.cells (LK .u64 (dg 8 (t * t))) 103)))
   have gX8 := (heap_past w1 (.cells (LK .u64 (dg 8 (t * t))) 103) _ s8).trans g8
   refine (rabove_b c _ _ _ (dg_length _ _) (top_length _ _) (dg_small _ _) (top_small _ _ hp) Hc.out).mono ?_
   rintro e w3 ⟨rfl, hb3⟩
   have Hst3 := Away.mk (st_call HstX.out hb3)
   have g83 := (hb3.block _ (heap_lt gX8)).trans gX8
   have g13 := Hst3.out.2.1
   clear hb3
   rw [KX.out, K4.out, val_top p 2 (by decide)] at Hc
   cases c
   ·have hle : t ^ 2 ≤ p * bp (2 * 2) := Nat.not_lt.1 (of_decide_eq_false Hc.out)
    have HR2 := Away.mk (HR.out.trans (if_pos hle))
    clear hle
    go_wp2_with (first | (refine wpList_load_row rfl 103 _ rfl _ rfl 103 _ (0, 0) _ g83 Tryz.underlying103 rfl (by rw [Hsd.out]; exact zrlong) ?_) | (refine wpList_store_row rfl 103 _ _ rfl _ _ rfl rfl 103 _ g13 (by rw [Hsd.out]; exact zrlong) (by rw [Hsd.out, Hsd.out]) (lk_one _ _) ?_))
    go_roundw
    case rel => exact ⟨n + 1, t, by omega, val_int (by omega), HR2, st_store Hst3.out⟩
    case measure => simp [intOf]; omega
   ·have hle : ¬ t ^ 2 ≤ p * bp (2 * 2) := Nat.not_le.2 (of_decide_eq_true Hc.out)
    have HR2 := Away.mk (HR.out.trans (if_neg hle))
    clear hle
    go_wp2_with fail
    go_roundw
    case rel => exact ⟨n + 1, y, by omega, val_int (by omega), HR2, Hst3.out⟩
    case measure => simp [intOf]; omega
  ·obtain rfl : n = 70 := by omega
   have b1 := getD_small (dg_small 8 y) 1
   have b0 := getD_small (dg_small 8 y) 0
   have c1 := cell_at g1 (lk_get .u64 (dg 8 y) 1 (by rw [dg_length]; decide))
   have c0 := cell_at g1 (lk_get .u64 (dg 8 y) 0 (by rw [dg_length]; decide))
   have hj := join_parts y
   generalize (dg 8 y).getD 1 0 = a at *
   generalize (dg 8 y).getD 0 0 = b at *
   have Hj := Away.mk hj
   clear hj g1
   go_wp2_with fail
   go_ret
   exact ⟨ret_int (by rw [Hj.out, ← Hy.out, rootN_of p 2 70 hp (by decide) (by decide)]), Hst.out.2.2.1⟩
set_option maxRecDepth 100000 in
set_option maxHeartbeats 2000000 in
theorem root_in3 (p : Nat) (w : World) (hp : p ≤ 1000) :
 Calls Tryz.prog 27 #[.int .i64 p, .int .i64 3] w fun e w' => e = .returned (.int .u64 ((rootN p 3 % 18446744073709551616 : Nat) : Int)) ∧ Below w.heap.size w w' := by
 have hsd : ∀ v, (LK .u64 (dg 8 v)).size = 8 := fun v => by rw [lk_size, dg_length]
 have Hsd := Away.mk hsd
 clear hsd
 go_enter Tryz.func27, Tryz.ntmps27
 go_wp2_with fail
 go_loopw [7] (fun i wr => ∃ n y : Nat, n ≤ 70 ∧ i = .int .i64 (69 - (n : Int)) ∧ Away (rt 70 (p * bp (2 * 3)) 3 n = y) ∧ St p 3 w y wr) (fun i _ => (intOf i + 1).toNat)
 case atStart =>
  refine ⟨0, 0, by decide, rfl, ⟨rfl⟩, ?_, ?_, ?_, ?_⟩
  ·rw [heap_past _ _ _ (by simp <;> omega), heap_at _ _ _ rfl]; rfl
  ·rw [heap_at _ _ _ (by simp <;> omega)]; rfl
  ·exact ((Below.refl _ _).alloc (Nat.le_refl _) _).alloc (by simp <;> omega) _
  ·simp
 case round =>
  obtain ⟨n, y, hn, rfl, Hy, hst⟩ := hrel
  have g1 := hst.2.1
  have Hst := Away.mk hst
  clear hst
  by_cases hlt : n < 70
  ·obtain ⟨k1, k2, k3, k4, k5⟩ := rt_round (k := 3) (by decide) hp (by decide : 69 ≤ 70) (Nat.le_refl 70) hlt Hy.out
   have HR := Away.mk k5
   obtain ⟨d, hd⟩ : ∃ d, (dg 8 y).getD ((69 - n) / 32) 0 = d := ⟨_, rfl⟩
   have hget := lk_get .u64 (dg 8 y) ((69 - n) / 32) (by rw [dg_length]; omega)
   have hdl := getD_small (dg_small 8 y) ((69 - n) / 32)
   rw [hd] at hget hdl
   have hbit := dg_bit y (69 - n) (by omega) k1 k2
   rw [hd] at hbit
   have Hbit := Away.mk hbit
   have hq8 : (69 - n) / 32 < 8 := by omega
   have hr32 : (69 - n) % 32 < 32 := by omega
   have w36 : (69 - (n : Int)) / 32 = (((69 - n) / 32 : Nat) : Int) := by omega
   have w40 : (69 - (n : Int)) % 32 = (((69 - n) % 32 : Nat) : Int) := by omega
   obtain ⟨q, hq⟩ : ∃ q, (69 - n) / 32 = q := ⟨_, rfl⟩
   obtain ⟨r, hr⟩ : ∃ r, (69 - n) % 32 = r := ⟨_, rfl⟩
   rw [hq] at w36 hget Hbit hq8
   rw [hr] at w40 Hbit hr32
   obtain ⟨t, ht⟩ : ∃ t, y + 2 ^ (70 - 1 - n) = t := ⟨_, rfl⟩
   rw [ht] at k3 k4 HR
   have hset : (LK .u64 (dg 8 y)).setIfInBounds q (.int .u64 (bits .or .u64 (d : Int) (IntKind.u64.wrap (2 ^ r)))) = LK .u64 (dg 8 t) := by
    rw [lk_setI .u64 (dg 8 y) q (d ||| 2 ^ r) _ (or_bit64w d r hdl hr32), ← ht]
    exact congrArg (LK .u64) Hbit.out.1
   have K3 := Away.mk k3
   have K4 := Away.mk k4
   clear hd hbit hq hr ht k1 k2 k3 k4 k5
   go_wp2_with (first | (refine wpList_load_row rfl 103 _ rfl _ rfl 103 _ (0, 0) _ g1 Tryz.underlying103 rfl (by rw [Hsd.out]; exact zrlong) ?_) | (refine wpList_store_new rfl 103 _ _ rfl _ rfl rfl (by rw [Hsd.out]; exact zrlong) (by rw [Hsd.out]; rfl) (lk_one _ _) rfl ?_) | (refine wpList_load_row rfl 103 _ rfl _ rfl 103 _ (0, 0) _ (heap_at _ _ _ rfl) Tryz.underlying103 rfl (by rw [Hsd.out]; exact zrlong) ?_))
   refine (times_any _ _ _ (dg_length _ _) (dg_length _ _) (dg_small _ _) (dg_small _ _)).mono ?_
   rintro e w1 ⟨rfl, hb1⟩
   rw [K3.out]
   have hbA : Below wr.heap.size wr w1 := ((Below.refl _ _).alloc (Nat.le_refl _) _).trans (hb1.mono (by simp))
   have g8 := (hb1.block wr.heap.size (by simp)).trans (heap_at wr _ _ rfl)
   have Hst1 := Away.mk (st_call Hst.out hbA)
   have g5 := Hst1.out.1
   have s8 := heap_lt g8
   have s5 := heap_lt g5
   clear hb1 hbA g1
   have KX : Away (t * t * t = t ^ 3) := ⟨by rw [Nat.pow_succ, Nat.pow_two]⟩
   obtain ⟨c, Hc⟩ := ex_eq (decide (val (top p 3) < val (dg 8 (t * t * t))))
   go_wp2_with (first | (refine wpList_store_new rfl 103 _ _ rfl _ rfl rfl (by rw [Hsd.out]; exact zrlong) (by rw [Hsd.out]; rfl) (lk_one _ _) rfl ?_) | (refine wpList_load_row rfl 103 _ rfl _ rfl 103 _ (0, 0) _ (heap_at _ _ _ rfl) Tryz.underlying103 rfl (by rw [Hsd.out]; exact zrlong) ?_) | (refine wpList_load_row rfl 103 _ rfl _ rfl 103 _ (0, 0) _ ((heap_past _ _ _ s8).trans g8) Tryz.underlying103 rfl (by rw [Hsd.out]; exact zrlong) ?_))
   refine (times_any _ _ _ (dg_length _ _) (dg_length _ _) (dg_small _ _) (dg_small _ _)).mono ?_
   rintro e w2 ⟨rfl, hb2⟩
   rw [dg_mulmod, K3.out]
   have hbB : Below w1.heap.size w1 w2 := ((Below.refl _ _).alloc (Nat.le_refl _) _).trans (hb2.mono (by simp))
   have g9 := (hb2.block w1.heap.size (by simp)).trans (heap_at w1 _ _ rfl)
   have g82 := (hbB.block _ s8).trans g8
   have Hst2 := Away.mk (st_call Hst1.out hbB)
   have g52 := Hst2.out.1
   have e8 : wr.heap.size ≠ w1.heap.size := by omega
   have e5 : w.heap.size ≠ w1.heap.size := by omega
   have hb4 := below_setRow (B := w1.heap.size) w2 w1.heap.size (LK .u64 (dg 8 (t * t * t))) (Nat.le_refl _)
   have HstX := Away.mk (st_call Hst1.out (hbB.trans hb4))
   have gX8 := (setRow_other w2 w1.heap.size _ (LK .u64 (dg 8 (t * t * t))) e8).trans g82
   have gX5 := (setRow_other w2 w1.heap.size _ (LK .u64 (dg 8 (t * t * t))) e5).trans g52
   have gX9 := setRow_heap w2 w1.heap.size _ (LK .u64 (dg 8 (t * t * t))) _ _ g9
   clear hb2 hbB g8 g5 g82 g52 e8 e5 hb4
   go_wp2_with (first | (refine wpList_store_row rfl 103 _ _ rfl _ _ rfl rfl 103 _ g9 (by rw [Hsd.out]; exact zrlong) (by rw [Hsd.out, Hsd.out]) (lk_one _ _) ?_) | (refine wpList_load_row rfl 103 _ rfl _ rfl 103 _ (0, 0) _ gX9 Tryz.underlying103 rfl (by rw [Hsd.out]; exact zrlong) ?_) | (refine wpList_load_row rfl 103 _ rfl _ rfl 103 _ (0, 0) _ gX5 Tryz.underlying103 rfl (by rw [top_size]; exact zrlong) ?_))
   refine (rabove_b c _ _ _ (dg_length _ _) (top_length _ _) (dg_small _ _) (top_small _ _ hp) Hc.out).mono ?_
   rintro e w3 ⟨rfl, hb3⟩
   have Hst3 := Away.mk (st_call HstX.out hb3)
   have g83 := (hb3.block _ (heap_lt gX8)).trans gX8
   have g13 := Hst3.out.2.1
   clear hb3
   rw [KX.out, K4.out, val_top p 3 (by decide)] at Hc
   cases c
   ·have hle : t ^ 3 ≤ p * bp (2 * 3) := Nat.not_lt.1 (of_decide_eq_false Hc.out)
    have HR2 := Away.mk (HR.out.trans (if_pos hle))
    clear hle
    go_wp2_with (first | (refine wpList_load_row rfl 103 _ rfl _ rfl 103 _ (0, 0) _ g83 Tryz.underlying103 rfl (by rw [Hsd.out]; exact zrlong) ?_) | (refine wpList_store_row rfl 103 _ _ rfl _ _ rfl rfl 103 _ g13 (by rw [Hsd.out]; exact zrlong) (by rw [Hsd.out, Hsd.out]) (lk_one _ _) ?_))
    go_roundw
    case rel => exact ⟨n + 1, t, by omega, val_int (by omega), HR2, st_store Hst3.out⟩
    case measure => simp [intOf]; omega
   ·have hle : ¬ t ^ 3 ≤ p * bp (2 * 3) := Nat.not_le.2 (of_decide_eq_true Hc.out)
    have HR2 := Away.mk (HR.out.trans (if_neg hle))
    clear hle
    go_wp2_with fail
    go_roundw
    case rel => exact ⟨n + 1, y, by omega, val_int (by omega), HR2, Hst3.out⟩
    case measure => simp [intOf]; omega
  ·obtain rfl : n = 70 := by omega
   have b1 := getD_small (dg_small 8 y) 1
   have b0 := getD_small (dg_small 8 y) 0
   have c1 := cell_at g1 (lk_get .u64 (dg 8 y) 1 (by rw [dg_length]; decide))
   have c0 := cell_at g1 (lk_get .u64 (dg 8 y) 0 (by rw [dg_length]; decide))
   have hj := join_parts y
   generalize (dg 8 y).getD 1 0 = a at *
   generalize (dg 8 y).getD 0 0 = b at *
   have Hj := Away.mk hj
   clear hj g1
   go_wp2_with fail
   go_ret
   exact ⟨ret_int (by rw [Hj.out, ← Hy.out, rootN_of p 3 70 hp (by decide) (by decide)]), Hst.out.2.2.1⟩
theorem root_out (p k : Int) (w : World) (h : p < 0 ∨ 1000 < p ∨ (k ≠ 2 ∧ k ≠ 3)) :
 Calls Tryz.prog 27 #[.int .i64 p, .int .i64 k] w fun e w' => e = .returned (.int .u64 0) ∧ Below w.heap.size w w' := by
 by_cases h1 : p < 0
 ·clear h
  go_enter Tryz.func27, Tryz.ntmps27
  go_wp2_with fail
  go_ret
  exact ⟨rfl, Below.refl _ _⟩
 by_cases h2 : 1000 < p
 ·clear h
  go_enter Tryz.func27, Tryz.ntmps27
  go_wp2_with fail
  go_ret
  exact ⟨rfl, Below.refl _ _⟩
 obtain ⟨h3, h4⟩ : k ≠ 2 ∧ k ≠ 3 := by omega
 have b3 : (k != 2) = true := by rw [bne_iff_ne]; exact h3
 have b4 : (k != 3) = true := by rw [bne_iff_ne]; exact h4
 clear h h3 h4
 go_enter Tryz.func27, Tryz.ntmps27
 go_wp2_with fail
 go_ret
 exact ⟨rfl, Below.refl _ _⟩
theorem root_any (p k : Int) (w : World) :
 Calls Tryz.prog 27 #[.int .i64 p, .int .i64 k] w fun e w' => e = .returned (.int .u64 (rootV p k : Nat)) ∧ Below w.heap.size w w' := by
 unfold rootV
 by_cases h : p < 0 ∨ 1000 < p ∨ (k ≠ 2 ∧ k ≠ 3)
 ·rw [if_pos h]
  exact root_out p k w h
 ·rw [if_neg h]
  obtain ⟨a, rfl⟩ := Int.eq_ofNat_of_zero_le (show 0 ≤ p by omega)
  rw [Int.toNat_natCast]
  have hk : k = 2 ∨ k = 3 := by omega
  rcases hk with rfl | rfl
  ·exact root_in2 a w (by omega)
  ·exact root_in3 a w (by omega)
end rroot
namespace primes
open Go.RowKit
open primm arr
set_option maxRecDepth 100000 in
set_option maxHeartbeats 1000000 in
theorem rprimes_in (n : Nat) (h1 : 1 ≤ n) (h2 : n ≤ 100) (w : World) :
 Calls Tryz.prog 26 #[.int .i64 (n : Int)] w fun e w' => ∃ v, e = .returned v ∧ Holds w (pr (n : Int)) v w' := by
 obtain ⟨i0, hi, hz0, hz1, hz2⟩ := info_parts infoInt
 have HI := Away.mk (And.intro hi (And.intro hz0 (And.intro hz1 hz2)))
 clear hi hz0 hz1 hz2
 have hst := holds_start w
 rw [← pl_two] at hst
 have Hst := Away.mk hst
 clear hst
 go_enter Tryz.func26, Tryz.ntmps26
 go_wp2_with fail
 go_loopw [3, 4] (fun v i wr => ∃ x : Nat, 2 ≤ x ∧ x ≤ 542 ∧ i = .int .i64 x ∧ Away (Holds w (pl x) v wr) ∧ (pl x).length ≤ n) (fun _ i _ => 542 - (intOf i).toNat)
 case atStart => exact ⟨2, by decide, by decide, rfl, Hst, by rw [pl_two]; exact Nat.zero_le _⟩
 case round =>
  obtain ⟨x, hx2, hx5, rfl, hf, hle⟩ := hrel
  clear Hst
  obtain ⟨L, HL⟩ := ex_eq (pl x).length
  rw [HL.out] at hle
  by_cases hlt : L < n
  ·have hx : x < 542 := pl_room hx5 (by rw [HL.out]; omega)
   obtain ⟨xs, Hxs⟩ := ex_eq (pl x)
   have Hpos : Away (∀ p ∈ xs, 2 ≤ p ∧ p ≤ 541) := ⟨fun p hp => pl_pos (x := x) (by rw [Hxs.out]; exact hp)⟩
   rw [Hxs.out] at hf HL
   have hL := pl_le x
   rw [Hxs.out, HL.out] at hL
   have hsz := holds_lt hf.out
   rcases holds_open hf.out with ⟨rfl, rfl⟩ | ⟨g, cap, rfl, hg1, hg2, hcap, hcell⟩
   ·have Hnew : Away (pl (x + 1) = [] ++ [x]) := ⟨by rw [pl_new hx2 hx (by rw [Hxs.out]; rfl), Hxs.out]⟩
    obtain rfl : L = 0 := HL.out.symm
    go_wp2_with fail
    refine wp_loop_rounds 1 ?_
    rw [rounds_succ]
    go_wp2_with (at_builtin; refine wpList_append_own _ rfl _ _ 63 rfl w.heap.size 3 i0 (.int .i64 0) 1 8 Tryz.underlying63 HI.out.1 HI.out.2.1 HI.out.2.2.1 HI.out.2.2.2 rfl (by decide) _ _ _ rfl (hf.out.1.alloc _) ⟨wr.heap.size, 0, none⟩ 1 1 [.int .i64 (x : Int)] rfl rfl news_at (fun u hu => by simp at hu; subst hu; rfl) (by simp [maxLen]) (by simp) (by simp; omega) ?_)
    intro v' w1 hown' hgrow _
    have R := holds_new hf.out hown' hgrow
    rw [← Hnew.out] at R
    have HR := Away.mk R
    clear hown' hgrow R
    go_wp2_with fail
    go_roundw
    case rel => exact ⟨x + 1, by omega, by omega, by go_num, HR, by rw [Hnew.out]; exact hlt⟩
    case measure => simp [intOf]; omega
   ·rw [HL.out] at hcap hcell ⊢
    have Hown := Away.mk hf.out.1
    rw [HL.out] at Hown
    have HC := Away.mk hcell
    clear hcell
    go_wp2_with fail
    go_loop [5, 17] (fun b i => ∃ (k : Nat) (c : Bool), k ≤ L ∧ i = .int .i64 k ∧ b = .bool c ∧ Away (c = !(dvd (xs.take k) x))) (fun _ i => L - (intOf i).toNat)
    case atStart => exact ⟨0, true, Nat.zero_le _, rfl, rfl, ⟨rfl⟩⟩
    case round =>
     obtain ⟨k, c, hk, rfl, rfl, Hc⟩ := hrel
     by_cases hkl : k < L
     ·have hcell := HC.out k hkl
      have hb : 2 ≤ xs.getD k 0 ∧ xs.getD k 0 ≤ 541 := Hpos.out _ (by
       rw [List.getD_eq_getElem?_getD, List.getElem?_eq_getElem (by rw [HL.out]; exact hkl)]; exact List.getElem_mem _)
      have Hs := Away.mk (take_snoc (l := xs) (k := k) (by rw [HL.out]; exact hkl))
      obtain ⟨p, hpp⟩ : ∃ p, xs.getD k 0 = p := ⟨_, rfl⟩
      rw [hpp] at hcell hb Hs
      clear hpp
      cases c
      ·have Hn2 : Away (false = !(dvd (xs.take (k + 1)) x)) := ⟨by
        have h := Hc.out
        rw [Hs.out, dvd_snoc]
        revert h
        cases dvd (xs.take k) x <;> simp⟩
       go_wp2_with fail
       go_round
       case rel => exact ⟨k + 1, false, by omega, by go_num, rfl, Hn2⟩
       case measure => simp [intOf]; omega
      ·by_cases hm : x % p = 0
       ·have b1 : ((x : Int) % (p : Int) != 0) = false := bne_eq_false_iff_eq.2 (by exact_mod_cast hm)
        have Hn2 : Away (false = !(dvd (xs.take (k + 1)) x)) := ⟨by rw [Hs.out, dvd_snoc, hm]; simp⟩
        clear hm
        go_wp2_with fail
        go_round
        case rel => exact ⟨k + 1, false, by omega, by go_num, rfl, Hn2⟩
        case measure => simp [intOf]; omega
       ·have b1 : ((x : Int) % (p : Int) != 0) = true := bne_iff_ne.2 (by exact_mod_cast hm)
        have Hn2 : Away (true = !(dvd (xs.take (k + 1)) x)) := ⟨by
         have h := Hc.out
         rw [Hs.out, dvd_snoc, beq_false_of_ne hm, Bool.or_false]
         exact h⟩
        clear hm
        go_wp2_with fail
        go_round
        case rel => exact ⟨k + 1, true, by omega, by go_num, rfl, Hn2⟩
        case measure => simp [intOf]; omega
     ·obtain rfl : k = L := by omega
      have Hd : Away (c = !(dvd xs x)) := ⟨by rw [Hc.out, List.take_of_length_le (by rw [HL.out]; exact Nat.le_refl _)]⟩
      cases c
      ·have Hnew : Away (pl (x + 1) = xs) := ⟨by rw [pl_hit hx2 hx (by rw [Hxs.out]; have := Hd.out; revert this; cases dvd xs x <;> simp), Hxs.out]⟩
       rw [HL.out] at hf
       have R := hf.out
       rw [← Hnew.out] at R
       have HR := Away.mk R
       clear R
       go_wp2_with fail
       go_roundw
       case rel => exact ⟨x + 1, by omega, by omega, by go_num, HR, by rw [Hnew.out, HL.out]; exact hle⟩
       case measure => simp [intOf]; omega
      ·have Hnew : Away (pl (x + 1) = xs ++ [x]) := ⟨by rw [pl_new hx2 hx (by rw [Hxs.out]; have := Hd.out; revert this; cases dvd xs x <;> simp), Hxs.out]⟩
       go_wp2_with (at_builtin; refine wpList_append_own _ rfl _ _ 63 rfl w.heap.size 3 i0 (.int .i64 0) 1 8 Tryz.underlying63 HI.out.1 HI.out.2.1 HI.out.2.2.1 HI.out.2.2.2 rfl (by decide) _ _ _ rfl (Hown.out.alloc _) ⟨wr.heap.size, 0, none⟩ 1 1 [.int .i64 (x : Int)] rfl rfl news_at (fun u hu => by simp at hu; subst hu; rfl) (by unfold maxLen; omega) (by omega) (by simp; omega) ?_)
       intro v' w1 hown' hgrow _
       rw [← HL.out] at hown' hgrow
       have R := holds_new hf.out hown' hgrow
       rw [← Hnew.out] at R
       have HR := Away.mk R
       clear hown' hgrow R
       go_wp2_with fail
       go_roundw
       case rel => exact ⟨x + 1, by omega, by omega, by go_num, HR, by rw [Hnew.out, List.length_append, HL.out]; exact hlt⟩
       case measure => simp [intOf]; omega
  ·obtain rfl : n = L := by omega
   have Hpr : Away (pl x = pr (n : Int)) := ⟨pr_of hx2 hx5 (by intro _; rw [HL.out]; simp) (by intro h; rw [HL.out]; omega)⟩
   rw [Hpr.out] at hf HL
   rcases holds_open hf.out with ⟨rfl, hnil⟩ | ⟨g, cap, rfl, hg1, hg2, hcap, hcell⟩
   ·have h0 := HL.out
    rw [hnil] at h0
    simp at h0
    omega
   ·rw [HL.out] at hf ⊢
    clear hcell hcap
    go_wp2_with fail
    go_ret
    exact ⟨_, rfl, hf.out⟩
set_option maxRecDepth 100000 in
set_option maxHeartbeats 1000000 in
theorem rprimes_over (n : Int) (h1 : 100 < n) (w : World) :
 Calls Tryz.prog 26 #[.int .i64 n] w fun e w' => ∃ v, e = .returned v ∧ Holds w (pr n) v w' := by
 obtain ⟨i0, hi, hz0, hz1, hz2⟩ := info_parts infoInt
 have HI := Away.mk (And.intro hi (And.intro hz0 (And.intro hz1 hz2)))
 clear hi hz0 hz1 hz2
 have hst := holds_start w
 rw [← pl_two] at hst
 have Hst := Away.mk hst
 clear hst
 go_enter Tryz.func26, Tryz.ntmps26
 go_wp2_with fail
 go_loopw [3, 4] (fun v i wr => ∃ x : Nat, 2 ≤ x ∧ x ≤ 542 ∧ i = .int .i64 x ∧ Away (Holds w (pl x) v wr) ∧ (pl x).length ≤ 100) (fun _ i _ => 542 - (intOf i).toNat)
 case atStart => exact ⟨2, by decide, by decide, rfl, Hst, by rw [pl_two]; exact Nat.zero_le _⟩
 case round =>
  obtain ⟨x, hx2, hx5, rfl, hf, hle⟩ := hrel
  clear Hst
  obtain ⟨L, HL⟩ := ex_eq (pl x).length
  rw [HL.out] at hle
  by_cases hlt : L < 100
  ·have hx : x < 542 := pl_room hx5 (by rw [HL.out]; omega)
   obtain ⟨xs, Hxs⟩ := ex_eq (pl x)
   have Hpos : Away (∀ p ∈ xs, 2 ≤ p ∧ p ≤ 541) := ⟨fun p hp => pl_pos (x := x) (by rw [Hxs.out]; exact hp)⟩
   rw [Hxs.out] at hf HL
   have hL := pl_le x
   rw [Hxs.out, HL.out] at hL
   have hsz := holds_lt hf.out
   rcases holds_open hf.out with ⟨rfl, rfl⟩ | ⟨g, cap, rfl, hg1, hg2, hcap, hcell⟩
   ·have Hnew : Away (pl (x + 1) = [] ++ [x]) := ⟨by rw [pl_new hx2 hx (by rw [Hxs.out]; rfl), Hxs.out]⟩
    obtain rfl : L = 0 := HL.out.symm
    go_wp2_with fail
    refine wp_loop_rounds 1 ?_
    rw [rounds_succ]
    go_wp2_with (at_builtin; refine wpList_append_own _ rfl _ _ 63 rfl w.heap.size 3 i0 (.int .i64 0) 1 8 Tryz.underlying63 HI.out.1 HI.out.2.1 HI.out.2.2.1 HI.out.2.2.2 rfl (by decide) _ _ _ rfl (hf.out.1.alloc _) ⟨wr.heap.size, 0, none⟩ 1 1 [.int .i64 (x : Int)] rfl rfl news_at (fun u hu => by simp at hu; subst hu; rfl) (by simp [maxLen]) (by simp) (by simp; omega) ?_)
    intro v' w1 hown' hgrow _
    have R := holds_new hf.out hown' hgrow
    rw [← Hnew.out] at R
    have HR := Away.mk R
    clear hown' hgrow R
    go_wp2_with fail
    go_roundw
    case rel => exact ⟨x + 1, by omega, by omega, by go_num, HR, by rw [Hnew.out]; exact hlt⟩
    case measure => simp [intOf]; omega
   ·rw [HL.out] at hcap hcell ⊢
    have Hown := Away.mk hf.out.1
    rw [HL.out] at Hown
    have HC := Away.mk hcell
    clear hcell
    go_wp2_with fail
    go_loop [5, 17] (fun b i => ∃ (k : Nat) (c : Bool), k ≤ L ∧ i = .int .i64 k ∧ b = .bool c ∧ Away (c = !(dvd (xs.take k) x))) (fun _ i => L - (intOf i).toNat)
    case atStart => exact ⟨0, true, Nat.zero_le _, rfl, rfl, ⟨rfl⟩⟩
    case round =>
     obtain ⟨k, c, hk, rfl, rfl, Hc⟩ := hrel
     by_cases hkl : k < L
     ·have hcell := HC.out k hkl
      have hb : 2 ≤ xs.getD k 0 ∧ xs.getD k 0 ≤ 541 := Hpos.out _ (by
       rw [List.getD_eq_getElem?_getD, List.getElem?_eq_getElem (by rw [HL.out]; exact hkl)]; exact List.getElem_mem _)
      have Hs := Away.mk (take_snoc (l := xs) (k := k) (by rw [HL.out]; exact hkl))
      obtain ⟨p, hpp⟩ : ∃ p, xs.getD k 0 = p := ⟨_, rfl⟩
      rw [hpp] at hcell hb Hs
      clear hpp
      cases c
      ·have Hn2 : Away (false = !(dvd (xs.take (k + 1)) x)) := ⟨by
        have h := Hc.out
        rw [Hs.out, dvd_snoc]
        revert h
        cases dvd (xs.take k) x <;> simp⟩
       go_wp2_with fail
       go_round
       case rel => exact ⟨k + 1, false, by omega, by go_num, rfl, Hn2⟩
       case measure => simp [intOf]; omega
      ·by_cases hm : x % p = 0
       ·have b1 : ((x : Int) % (p : Int) != 0) = false := bne_eq_false_iff_eq.2 (by exact_mod_cast hm)
        have Hn2 : Away (false = !(dvd (xs.take (k + 1)) x)) := ⟨by rw [Hs.out, dvd_snoc, hm]; simp⟩
        clear hm
        go_wp2_with fail
        go_round
        case rel => exact ⟨k + 1, false, by omega, by go_num, rfl, Hn2⟩
        case measure => simp [intOf]; omega
       ·have b1 : ((x : Int) % (p : Int) != 0) = true := bne_iff_ne.2 (by exact_mod_cast hm)
        have Hn2 : Away (true = !(dvd (xs.take (k + 1)) x)) := ⟨by
         have h := Hc.out
         rw [Hs.out, dvd_snoc, beq_false_of_ne hm, Bool.or_false]
         exact h⟩
        clear hm
        go_wp2_with fail
        go_round
        case rel => exact ⟨k + 1, true, by omega, by go_num, rfl, Hn2⟩
        case measure => simp [intOf]; omega
     ·obtain rfl : k = L := by omega
      have Hd : Away (c = !(dvd xs x)) := ⟨by rw [Hc.out, List.take_of_length_le (by rw [HL.out]; exact Nat.le_refl _)]⟩
      cases c
      ·have Hnew : Away (pl (x + 1) = xs) := ⟨by rw [pl_hit hx2 hx (by rw [Hxs.out]; have := Hd.out; revert this; cases dvd xs x <;> simp), Hxs.out]⟩
       rw [HL.out] at hf
       have R := hf.out
       rw [← Hnew.out] at R
       have HR := Away.mk R
       clear R
       go_wp2_with fail
       go_roundw
       case rel => exact ⟨x + 1, by omega, by omega, by go_num, HR, by rw [Hnew.out, HL.out]; exact hle⟩
       case measure => simp [intOf]; omega
      ·have Hnew : Away (pl (x + 1) = xs ++ [x]) := ⟨by rw [pl_new hx2 hx (by rw [Hxs.out]; have := Hd.out; revert this; cases dvd xs x <;> simp), Hxs.out]⟩
       go_wp2_with (at_builtin; refine wpList_append_own _ rfl _ _ 63 rfl w.heap.size 3 i0 (.int .i64 0) 1 8 Tryz.underlying63 HI.out.1 HI.out.2.1 HI.out.2.2.1 HI.out.2.2.2 rfl (by decide) _ _ _ rfl (Hown.out.alloc _) ⟨wr.heap.size, 0, none⟩ 1 1 [.int .i64 (x : Int)] rfl rfl news_at (fun u hu => by simp at hu; subst hu; rfl) (by unfold maxLen; omega) (by omega) (by simp; omega) ?_)
       intro v' w1 hown' hgrow _
       rw [← HL.out] at hown' hgrow
       have R := holds_new hf.out hown' hgrow
       rw [← Hnew.out] at R
       have HR := Away.mk R
       clear hown' hgrow R
       go_wp2_with fail
       go_roundw
       case rel => exact ⟨x + 1, by omega, by omega, by go_num, HR, by rw [Hnew.out, List.length_append, HL.out]; exact hlt⟩
       case measure => simp [intOf]; omega
  ·obtain rfl : L = 100 := by omega
   have Hpr : Away (pl x = pr n) := ⟨pr_of hx2 hx5 (by intro _; rw [HL.out]; omega) (by intro h; rw [HL.out])⟩
   rw [Hpr.out] at hf HL
   rcases holds_open hf.out with ⟨rfl, hnil⟩ | ⟨g, cap, rfl, hg1, hg2, hcap, hcell⟩
   ·have h0 := HL.out
    rw [hnil] at h0
    simp at h0
   ·rw [HL.out] at hf ⊢
    clear hcell hcap
    go_wp2_with fail
    go_ret
    exact ⟨_, rfl, hf.out⟩
set_option maxRecDepth 100000 in
set_option maxHeartbeats 400000 in
theorem rprimes_low (n : Int) (w : World) (h : n ≤ 0) :
 Calls Tryz.prog 26 #[.int .i64 n] w fun e w' => ∃ v, e = .returned v ∧ Holds w (pr n) v w' := by
 have hp : pr n = [] := by unfold pr; rw [show n.toNat = 0 by omega]; rfl
 have hst := holds_start w
 rw [← hp] at hst
 have Hst := Away.mk hst
 clear hst hp
 go_enter Tryz.func26, Tryz.ntmps26
 go_wp2_with fail
 refine wp_loop_rounds 1 ?_
 rw [rounds_succ]
 go_wp2_with fail
 go_ret
 exact ⟨_, rfl, Hst.out⟩
theorem rprimes_any (n : Int) (w : World) :
 Calls Tryz.prog 26 #[.int .i64 n] w fun e w' => ∃ v, e = .returned v ∧ Holds w (pr n) v w' := by
 by_cases h : n ≤ 0
 ·exact rprimes_low n w h
 by_cases h1 : 100 < n
 ·exact rprimes_over n h1 w
 obtain ⟨m, rfl⟩ := Int.eq_ofNat_of_zero_le (show 0 ≤ n by omega)
 exact rprimes_in m (by omega) (by omega) w
end primes
namespace power
open Go.RowKit
open tabm
set_option maxHeartbeats 400000 in
theorem rpower_nn (x n : Nat) (w : World) (hx : x ≤ 9223372036854775807) (hn : n ≤ 9223372036854775807) :
 Calls Tryz.prog 30 #[.int .i64 x, .int .i64 n] w fun e w' => e = .returned (.int .i64 (pw x n)) ∧ w = w' := by
 have hst := pwk_start x n
 go_enter Tryz.func30, Tryz.ntmps30
 go_wp2
 go_loop [1, 5, 0] (fun n' r s => Keeps x n n' r s) (fun n' _ _ => (intOf n').toNat)
 case atStart => exact ⟨n, 1, x % 8380417, hn, by decide, Nat.mod_lt _ (by decide), rfl, rfl, by first | rfl | exact congrArg (Value.int .i64) (by norm_cast), hst⟩
 case round =>
  obtain ⟨m, R, S, hm, hR, hS, rfl, rfl, rfl, hk⟩ := hrel
  have hRS := mul_bd R S hR hS
  have hSS := mul_bd S S hS hS
  by_cases h0 : m = 0
  ·subst h0
   go_wp2
   go_ret
   exact ⟨ret_int (congrArg Nat.cast (pwk_end x n R S hk hR)), rfl⟩
  ·by_cases h1 : m % 2 = 1
   ·have ho := pwk_odd x n R S m hk h1
    have hb : (bits .and .i64 (m : Int) 1 == 1) = true := by rw [and_one_i64 m hm]; exact beq_iff_eq.2 (by omega)
    clear h1 hk hst
    go_wp2
    go_round
    case rel => exact ⟨m / 2, R * S % 8380417, S * S % 8380417, by omega, Nat.mod_lt _ (by decide), Nat.mod_lt _ (by decide), cast_half m, cast_mm R S, cast_mm S S, ho⟩
    case measure => simp [intOf]; omega
   ·have ho := pwk_even x n R S m hk (by omega)
    have hb : (bits .and .i64 (m : Int) 1 == 1) = false := by rw [and_one_i64 m hm]; exact beq_eq_false_iff_ne.2 (by omega)
    clear h1 hk hst
    go_wp2
    go_round
    case rel => exact ⟨m / 2, R, S * S % 8380417, by omega, hR, Nat.mod_lt _ (by decide), cast_half m, rfl, cast_mm S S, ho⟩
    case measure => simp [intOf]; omega
end power
namespace rounds
open Go.RowKit
open tabt arr
open power (and_one_i64)
set_option maxHeartbeats 1000000 in
theorem rrounds_any (w : World) :
 Calls Tryz.prog 28 #[] w fun e w' => e = .returned (.agg (LK .u64 (rl 168))) ∧ Below w.heap.size w w' := by
 go_enter Tryz.func28, Tryz.ntmps28
 go_wp2_with fail
 obtain ⟨Z, HZ⟩ := ex_eq (#[.int .u64 0, .int .u64 0, .int .u64 0, .int .u64 0, .int .u64 0, .int .u64 0, .int .u64 0, .int .u64 0, .int .u64 0, .int .u64 0, .int .u64 0, .int .u64 0, .int .u64 0, .int .u64 0, .int .u64 0, .int .u64 0, .int .u64 0, .int .u64 0, .int .u64 0, .int .u64 0, .int .u64 0, .int .u64 0, .int .u64 0, .int .u64 0] : Array Value)
 rw [HZ.out]
 have HZ2 : Away (Z = LK .u64 (rl 0)) := ⟨HZ.out.symm⟩
 clear HZ
 go_loopw [2, 5] (fun r i wr => ∃ (k n R : Nat) (ds : List Nat), k ≤ 24 ∧ i = .int .i64 k ∧ r = .int .i64 R ∧ Away (lf (7 * k) = R) ∧ Away (rl (7 * k) = ds) ∧ wr = ((w.alloc (.cells Z 35)).alloc (.cells (LK .u64 ds) 35)).drewN n) (fun _ i _ => 24 - (intOf i).toNat)
 case atStart => exact ⟨0, 0, 1, rl 0, by decide, rfl, rfl, ⟨rfl⟩, ⟨rfl⟩, by rw [← HZ2.out]; rfl⟩
 case round =>
  obtain ⟨k, n, R, ds, hk, rfl, rfl, Hr, Hds, rfl⟩ := hrel
  by_cases hlt : k < 24
  ·go_wp2_with fail
   go_loopw [2, 8] (fun r i wr => ∃ (m n R : Nat) (ds : List Nat), m ≤ 7 ∧ i = .int .i64 m ∧ r = .int .i64 R ∧ Away (lf (7 * k + m) = R) ∧ Away (rl (7 * k + m) = ds) ∧ wr = ((w.alloc (.cells Z 35)).alloc (.cells (LK .u64 ds) 35)).drewN n) (fun _ i _ => 7 - (intOf i).toNat)
   case atStart => exact ⟨0, n, R, ds, by decide, rfl, rfl, Hr, Hds, rfl⟩
   case round =>
    clear Hr Hds
    obtain ⟨m, n, R, ds, hm, rfl, rfl, Hr, Hds, rfl⟩ := hrel
    by_cases hlm : m < 7
    ·have hR := lf_le (7 * k + m)
     have hd := rl_getD_lt (7 * k + m) k
     have hlen := rl_length (7 * k + m)
     have ho := rl_odd (i := k) hlm
     have he := rl_even (t := 7 * k + m)
     have hov := lf_over (t := 7 * k + m)
     have hin := lf_in (t := 7 * k + m)
     rw [Hr.out] at hR ho he hov hin
     rw [Hds.out] at hd hlen ho he
     have hxor := xor_tab R hR
     have hget := lk_get .u64 ds k (by rw [hlen]; exact hlt)
     obtain ⟨d, hdd⟩ : ∃ d, ds.getD k 0 = d := ⟨_, rfl⟩
     rw [hdd] at hd hget ho
     have HO := Away.mk ho
     have HE := Away.mk he
     have HV := Away.mk hov
     have HN := Away.mk hin
     have Hlen := Away.mk hlen
     clear ho he hov hin hdd hlen
     have hset := lk_setI .u64 ds k (d ||| 2 ^ (2 ^ m - 1)) _ (or_shift d m hd hlm)
     by_cases h1 : R % 2 = 1
     ·have hb : (bits .and .i64 (R : Int) 1 == 1) = true := by rw [and_one_i64 R (by omega)]; exact beq_iff_eq.2 (by omega)
      have Hn := Away.mk (HO.out h1)
      clear h1
      by_cases h2 : 255 < R * 2
      ·have Hv := Away.mk (HV.out h2)
       have hov : (bits .and .i64 ((R : Int) * 2) 256 != 0) = true := by rw [and_tab R hR]; exact decide_eq_true h2
       go_wp2_with fail
       go_wp2_with fail
       go_roundw
       case rel => exact ⟨m + 1, n, _, _, by omega, by go_num, rfl, Hv, Hn, rfl⟩
       case measure => simp [intOf]; omega
      ·have Hv := Away.mk (HN.out h2)
       have hov : (bits .and .i64 ((R : Int) * 2) 256 != 0) = false := by rw [and_tab R hR]; exact decide_eq_false h2
       go_wp2_with fail
       go_wp2_with fail
       go_roundw
       case rel => exact ⟨m + 1, n, _, _, by omega, by go_num, val_int (by omega), Hv, Hn, rfl⟩
       case measure => simp [intOf]; omega
     ·have hb : (bits .and .i64 (R : Int) 1 == 1) = false := by rw [and_one_i64 R (by omega)]; exact beq_eq_false_iff_ne.2 (by omega)
      have Hn := Away.mk (HE.out h1)
      clear h1
      by_cases h2 : 255 < R * 2
      ·have Hv := Away.mk (HV.out h2)
       have hov : (bits .and .i64 ((R : Int) * 2) 256 != 0) = true := by rw [and_tab R hR]; exact decide_eq_true h2
       go_wp2_with fail
       go_roundw
       case rel => exact ⟨m + 1, n, _, _, by omega, by go_num, rfl, Hv, Hn, rfl⟩
       case measure => simp [intOf]; omega
      ·have Hv := Away.mk (HN.out h2)
       have hov : (bits .and .i64 ((R : Int) * 2) 256 != 0) = false := by rw [and_tab R hR]; exact decide_eq_false h2
       go_wp2_with fail
       go_roundw
       case rel => exact ⟨m + 1, n, _, _, by omega, by go_num, val_int (by omega), Hv, Hn, rfl⟩
       case measure => simp [intOf]; omega
    ·obtain rfl : m = 7 := by omega
     have Hr2 : Away (lf (7 * (k + 1)) = R) := ⟨Hr.out⟩
     have Hd2 : Away (rl (7 * (k + 1)) = ds) := ⟨Hds.out⟩
     go_wp2_with fail
     go_roundw
     case rel => exact ⟨k + 1, n, R, ds, by omega, by go_num, rfl, Hr2, Hd2, rfl⟩
     case measure => simp [intOf]; omega
  ·obtain rfl : k = 24 := by omega
   have Hd2 : Away (ds = rl 168) := ⟨Hds.out.symm⟩
   have hsz : (LK .u64 ds).size = 24 := by rw [lk_size, Hd2.out, rl_length]
   have hzs : Z.size = 24 := by rw [HZ2.out, lk_size, rl_length]
   obtain ⟨W, hW⟩ : ∃ W, ((w.alloc (.cells Z 35)).alloc (.cells (LK .u64 ds) 35)).drewN n = W := ⟨_, rfl⟩
   have hb : Below w.heap.size w W := by rw [← hW]; exact below_drewN (((Below.refl _ _).alloc (Nat.le_refl _) _).alloc (by simp) _) n
   have g1 : W.heap[w.heap.size + 1]? = some (.cells (LK .u64 ds) 35 (0, 0)) := by rw [← hW, heap_drewN', heap_at _ _ _ (by simp)]
   have g0 : W.heap[w.heap.size]? = some (.cells Z 35 (0, 0)) := by rw [← hW, heap_drewN', heap_past _ _ _ (by simp), heap_at _ _ _ rfl]
   rw [hW]
   have Hsz := Away.mk hsz
   have Hzs := Away.mk hzs
   clear hW hsz hzs
   go_wp2_with (first | (refine wpList_load_row rfl 35 _ rfl _ rfl 35 _ (0, 0) _ g1 Tryz.underlying35 rfl (by rw [Hsz.out]; exact zrounds) ?_) | (refine wpList_store_row rfl 35 _ _ rfl _ _ rfl rfl 35 _ g0 (by rw [Hsz.out]; exact zrounds) (by rw [Hsz.out]; exact Hzs.out) (lk_one _ _) ?_))
   refine bodyPost_ret_by (v := .agg (LK .u64 ds)) (results_cell_row rfl _ _ w.heap.size 35 _ (0, 0) _ rfl (setRow_heap _ _ _ _ _ _ g0) Tryz.underlying35 rfl (by rw [Hsz.out]; exact zrounds)) rfl ?_
   exact ⟨by rw [Hd2.out], hb.trans (below_setRow _ _ _ (Nat.le_refl _))⟩
end rounds
namespace turns
open Go.RowKit
open tabt arr
set_option maxRecDepth 100000 in
set_option maxHeartbeats 1000000 in
theorem rturns_any (w : World) :
 Calls Tryz.prog 29 #[] w fun e w' => e = .returned (.agg (LK .i64 (tl 24))) ∧ Below w.heap.size w w' := by
 go_enter Tryz.func29, Tryz.ntmps29
 go_wp2_with fail
 obtain ⟨Z, HZ⟩ := ex_eq (#[.int .i64 0, .int .i64 0, .int .i64 0, .int .i64 0, .int .i64 0, .int .i64 0, .int .i64 0, .int .i64 0, .int .i64 0, .int .i64 0, .int .i64 0, .int .i64 0, .int .i64 0, .int .i64 0, .int .i64 0, .int .i64 0, .int .i64 0, .int .i64 0, .int .i64 0, .int .i64 0, .int .i64 0, .int .i64 0, .int .i64 0, .int .i64 0, .int .i64 0] : Array Value)
 rw [HZ.out]
 have HZ2 : Away (Z = LK .i64 (tl 0)) := ⟨HZ.out.symm⟩
 clear HZ
 go_loopw [2, 3, 5] (fun x y i wr => ∃ (k X Y : Nat), k ≤ 24 ∧ i = .int .i64 k ∧ x = .int .i64 X ∧ y = .int .i64 Y ∧ Away (xy k = (X, Y)) ∧ wr = (w.alloc (.cells Z 36)).alloc (.cells (LK .i64 (tl k)) 36)) (fun _ _ i _ => 24 - (intOf i).toNat)
 case atStart => exact ⟨0, 1, 0, by decide, rfl, rfl, rfl, ⟨rfl⟩, by rw [← HZ2.out]⟩
 case round =>
  obtain ⟨k, X, Y, hk, rfl, rfl, rfl, Hxy, rfl⟩ := hrel
  by_cases hlt : k < 24
  ·have hb := xy_lt k
   rw [Hxy.out] at hb
   have hX : X < 5 := hb.1
   have hY : Y < 5 := hb.2
   have hm := mul_bd k hlt
   have e1 : ((X : Int) + 5 * (Y : Int)).toNat = X + 5 * Y := by omega
   have hget := lk_get .i64 (tl k) (X + 5 * Y) (by rw [tl_length]; omega)
   have hset := lk_setI .i64 (tl k) (X + 5 * Y) ((k + 1) * (k + 2) / 2 % 64) _ (mul_val k)
   rw [show (tl k).set (X + 5 * Y) ((k + 1) * (k + 2) / 2 % 64) = tl (k + 1) by rw [tl, Hxy.out]] at hset
   have Hn : Away (xy (k + 1) = (Y, (2 * X + 3 * Y) % 5)) := ⟨by rw [xy, Hxy.out]⟩
   clear hb
   go_wp2_with fail
   go_roundw
   case rel => exact ⟨k + 1, Y, (2 * X + 3 * Y) % 5, by omega, by go_num, rfl, val_int (by omega), Hn, rfl⟩
   case measure => simp [intOf]; omega
  ·obtain rfl : k = 24 := by omega
   have hsz : (LK .i64 (tl 24)).size = 25 := by rw [lk_size, tl_length]
   have hzs : Z.size = 25 := by rw [HZ2.out, lk_size, tl_length]
   obtain ⟨W, hW⟩ : ∃ W, (w.alloc (.cells Z 36)).alloc (.cells (LK .i64 (tl 24)) 36) = W := ⟨_, rfl⟩
   have hb : Below w.heap.size w W := by rw [← hW]; exact ((Below.refl _ _).alloc (Nat.le_refl _) _).alloc (by simp) _
   have g1 : W.heap[w.heap.size + 1]? = some (.cells (LK .i64 (tl 24)) 36 (0, 0)) := by rw [← hW, heap_at _ _ _ (by simp)]
   have g0 : W.heap[w.heap.size]? = some (.cells Z 36 (0, 0)) := by rw [← hW, heap_past _ _ _ (by simp), heap_at _ _ _ rfl]
   rw [hW]
   clear hW
   have Hsz := Away.mk hsz
   have Hzs := Away.mk hzs
   clear hsz hzs
   go_wp2_with (first | (refine wpList_load_row rfl 36 _ rfl _ rfl 36 _ (0, 0) _ g1 Tryz.underlying36 rfl (by rw [Hsz.out]; exact zturns) ?_) | (refine wpList_store_row rfl 36 _ _ rfl _ _ rfl rfl 36 _ g0 (by rw [Hsz.out]; exact zturns) (by rw [Hsz.out]; exact Hzs.out) (lk_one _ _) ?_))
   refine bodyPost_ret_by (v := .agg (LK .i64 (tl 24))) (results_cell_row rfl _ _ w.heap.size 36 _ (0, 0) _ rfl (setRow_heap _ _ _ _ _ _ g0) Tryz.underlying36 rfl (by rw [Hsz.out]; exact zturns)) rfl ?_
   exact ⟨rfl, hb.trans (below_setRow _ _ _ (Nat.le_refl _))⟩
end turns
namespace zetas
open Go.RowKit
open tabm tabt arr
set_option maxRecDepth 1000000 in
theorem mir_tab : ∀ n : Nat, n < 256 → ∀ k : Nat, k < 8 → bits .or .i64 ((rvTo n k : Nat) : Int) (wrap64 (bits .and .i64 ((n : Int) / 2 ^ k) 1 * 2 ^ (7 - k))) = ((rvTo n (k + 1) : Nat) : Int) := by decide +kernel
set_option maxRecDepth 100000 in
set_option maxHeartbeats 1000000 in
theorem mirrored_any (n : Nat) (w : World) (h : n < 256) :
 Calls Tryz.prog 31 #[.int .i64 n] w fun e w' => e = .returned (.int .i64 (rv n : Nat)) ∧ w = w' := by
 go_enter Tryz.func31, Tryz.ntmps31
 go_wp2_with fail
 go_loop [3, 5] (fun r i => ∃ (k R : Nat), k ≤ 8 ∧ i = .int .i64 k ∧ r = .int .i64 R ∧ Away (rvTo n k = R)) (fun _ i => 8 - (intOf i).toNat)
 case atStart => exact ⟨0, 0, by decide, rfl, rfl, ⟨rfl⟩⟩
 case round =>
  obtain ⟨k, R, hk, rfl, rfl, Hr⟩ := hrel
  by_cases hlt : k < 8
  ·have ht := mir_tab n h k hlt
   rw [Hr.out] at ht
   have Hn : Away (rvTo n (k + 1) = rvTo n (k + 1)) := ⟨rfl⟩
   go_wp2_with fail
   go_round
   case rel => exact ⟨k + 1, rvTo n (k + 1), by omega, by go_num, rfl, Hn⟩
   case measure => simp [intOf]; omega
  ·obtain rfl : k = 8 := by omega
   go_wp2_with fail
   go_ret
   exact ⟨ret_int (congrArg Nat.cast Hr.out.symm), rfl⟩
end zetas
namespace rmake
open Go.RowKit
open tabm tabd primm tabt arr tabv built primes
open make (Pc pc_of rootV_2 rootV_3)
open root (rootV)
theorem ms_zero {w : World} {Z : Array Value} (hZ : Z.size = 465) : Ms 38 w (w.heap.size + 1) (fun _ => False) ((w.alloc (.cells Z 38)).alloc (.cells Z 38)) := by
 have hg := heap_at (w.alloc (.cells Z 38)) (.cells Z 38) (w.heap.size + 1) (by simp)
 have hc : ∀ i, i < 465 → ((w.alloc (.cells Z 38)).alloc (.cells Z 38)).cell? ⟨w.heap.size + 1, i, none⟩ = Z[i]? := fun i _ => cell_of_row _ _ i Z _ (0, 0) hg
 exact ⟨⟨Z, hZ, by rw [heap_past _ _ _ (by simp), heap_at _ _ _ rfl]⟩, fun i hi => ⟨⟨Z[i], by rw [hc i hi, Array.getElem?_eq_getElem (by omega)]⟩, frozen_of_row _ _ i Z _ hg⟩, fun i hi hS => hS.elim, ⟨by omega, by simp⟩, ((Below.refl _ _).alloc (Nat.le_refl _) _).alloc (by simp) _⟩
theorem ms_there {T : TypeId} {w wr : World} {g : Nat} {S : Nat → Prop} (h : Ms T w g S wr) (o n : Nat) (ho : o + n ≤ 465) : wr.there g o n := fun j hj => by
 obtain ⟨⟨v, hv⟩, hf⟩ := h.th (o + j) (by omega)
 exact ⟨by rw [hv]; rfl, hf⟩
theorem rv_all : ∀ j (hj : j < (LK .u64 (rl 168)).toList.length), (LK .u64 (rl 168)).toList[j] = tv (160 + j) := by
 intro j hj
 have hj2 : j < 24 := by rw [Array.length_toList, lk_size, rl_length] at hj; exact hj
 rw [lk_list, tv_rounds j hj2]
theorem uv_all : ∀ j (hj : j < (LK .i64 (tl 24)).toList.length), (LK .i64 (tl 24)).toList[j] = tv (184 + j) := by
 intro j hj
 have hj2 : j < 25 := by rw [Array.length_toList, lk_size, tl_length] at hj; exact hj
 rw [lk_list, tv_turns j hj2]
def Q1 (k i : Nat) : Prop := (72 ≤ i ∧ i < 72 + k) ∨ (i < 64 ∧ i < k) ∨ (152 ≤ i ∧ i < 160 ∧ i < 152 + k) ∨ (64 ≤ i ∧ i < 72 ∧ i < 64 + k)
def Q2 (k i : Nat) : Prop := i < 209 + k
set_option maxRecDepth 100000 in
set_option maxHeartbeats 4000000 in
theorem make_any (w : World) :
 Calls Tryz.prog 6 #[] w fun e w' => e = .returned (.agg TA) ∧ Below w.heap.size w w' := by
 obtain ⟨hz, hsize⟩ := zero_of_info infoT
 obtain ⟨Z, HZ⟩ := ex_eq TZ
 rw [HZ.out] at hz
 have HZs : Away (Z.size = 465) := ⟨by rw [← HZ.out]; exact tz_size⟩
 have Hsize := Away.mk hsize
 clear hsize
 obtain ⟨R, HR⟩ := ex_eq (LK .u64 (rl 168))
 obtain ⟨U, HU⟩ := ex_eq (LK .i64 (tl 24))
 have Rs : Away (R.size = 24) := ⟨by rw [← HR.out, lk_size, rl_length]⟩
 have Us : Away (U.size = 25) := ⟨by rw [← HU.out, lk_size, tl_length]⟩
 have Ro : Away (R.all (·.oneCell') = true) := ⟨by rw [← HR.out]; exact lk_one _ _⟩
 have Uo : Away (U.all (·.oneCell') = true) := ⟨by rw [← HU.out]; exact lk_one _ _⟩
 have Rv : Away (∀ j (hj : j < R.toList.length), R.toList[j] = tv (160 + j)) := ⟨by rw [← HR.out]; exact rv_all⟩
 have Uv : Away (∀ j (hj : j < U.toList.length), U.toList[j] = tv (184 + j)) := ⟨by rw [← HU.out]; exact uv_all⟩
 have hms := ms_zero (w := w) HZs.out
 have Hms := Away.mk hms
 clear hms
 go_enter Tryz.func6, Tryz.ntmps6
 go_wp2_with fail
 clear hz
 refine (rprimes_any 80 _).mono ?_
 rintro e w5 ⟨v, rfl, hh⟩
 obtain ⟨gp, cap, rfl, hpc, hcap⟩ := pc_of (n := 80) (g := w.heap.size + 1) (by decide) (by decide) hh (by simp)
 have Hms5 : Away (Ms 38 w (w.heap.size + 1) (Q1 0) w5) := ⟨(Hms.out.call hh.2).mono (by unfold Q1; omega)⟩
 have Hpc := Away.mk hpc
 obtain ⟨g, Hg⟩ := ex_eq (w.heap.size + 1)
 rw [Hg.out] at Hms5 Hpc ⊢
 clear hh hpc Hms
 go_wp2_with fail
 go_loopw [7] (fun i wr => ∃ k : Nat, k ≤ 80 ∧ i = .int .i64 k ∧ Away (Ms 38 w g (Q1 k) wr) ∧ Away (Pc gp 80 g wr)) (fun i _ => 80 - (intOf i).toNat)
 case atStart => exact ⟨0, by decide, rfl, Hms5, Hpc⟩
 case round =>
  obtain ⟨k, hk, rfl, Hm, Hp⟩ := hrel
  clear Hms5 Hpc
  by_cases hlt : k < 80
  ·skip
   have hpk := Hp.out.cs k hlt
   have Hr := Away.mk (rootV_3 k)
   have Hr2 := Away.mk (rootV_2 k)
   have V72 := Away.mk (tv_large k hlt)
   have V0 := Away.mk (tv_small k)
   have V152 := Away.mk (tv_lstart k)
   have V64 := Away.mk (tv_sstart k)
   have hra := r3_lt k
   have hrb := r2_lt k
   obtain ⟨q, hq⟩ : ∃ q, ph.getD k 0 = q := ⟨_, rfl⟩
   rw [hq] at hpk Hr Hr2
   obtain ⟨a, ha⟩ : ∃ a, r3 k = a := ⟨_, rfl⟩
   obtain ⟨b, hb⟩ : ∃ b, r2 k = b := ⟨_, rfl⟩
   rw [ha] at Hr V72 V0 hra
   rw [hb] at Hr2 V152 V64 hrb
   clear hq ha hb
   go_wp2_with fail
   refine (rroot.root_any q 3 _).mono ?_
   rintro e w6 ⟨rfl, hb6⟩
   rw [Hr.out]
   have Hm6 := Away.mk (Hm.out.call hb6)
   have Hp6 := Away.mk ((Hp.out.call hb6).set (72 + k) (.int .u64 (a : Int)))
   obtain ⟨⟨old, hold⟩, hfz⟩ := Hm6.out.th (72 + k) (by omega)
   have Hs1 := Away.mk (Hm6.out.set (72 + k) (by omega) V72.out.symm)
   have hn1 := World.cell?_setCell_same w6 ⟨g, 72 + k, none⟩ (.int .u64 (a : Int)) hold
   clear hb6 hpk hlt
   by_cases h64 : k < 64
   ·obtain ⟨⟨old2, hold2⟩, hfz2⟩ := Hm6.out.th k (by omega)
    have hn2 : (w6.setCell ⟨g, 72 + k, none⟩ (.int .u64 (a : Int))).cell? ⟨g, k, none⟩ = some old2 := by
     rw [World.cell?_setCell_other _ _ _ _ (by intro e2; injection e2; omega)]; exact hold2
    have Hs2 := Away.mk (Hs1.out.set k (by omega) (v := .int .u32 ((a : Int) / 4294967296)) (by rw [V0.out h64]; exact val_int (by omega)))
    have Hp7 := Away.mk (Hp6.out.set k (.int .u32 ((a : Int) / 4294967296)))
    by_cases h8 : k < 8
    ·go_wp2_with fail
     refine (rroot.root_any q 2 _).mono ?_
     rintro e w7 ⟨rfl, hb7⟩
     rw [Hr2.out]
     have Hm7 := Away.mk (Hs2.out.call hb7)
     have Hp8 := Away.mk (((Hp7.out.call hb7).set (152 + k) (.int .u64 (b : Int))).set (64 + k) (.int .u32 ((b : Int) / 4294967296)))
     clear hold hfz hn1 hold2 hfz2 hn2 hb7
     obtain ⟨⟨old3, hold3⟩, hfz3⟩ := Hm7.out.th (152 + k) (by omega)
     obtain ⟨⟨old4, hold4⟩, hfz4⟩ := Hm7.out.th (64 + k) (by omega)
     have hn3 := World.cell?_setCell_same w7 ⟨g, 152 + k, none⟩ (.int .u64 (b : Int)) hold3
     have hn4 : (w7.setCell ⟨g, 152 + k, none⟩ (.int .u64 (b : Int))).cell? ⟨g, 64 + k, none⟩ = some old4 := by
      rw [World.cell?_setCell_other _ _ _ _ (by intro e2; injection e2; omega)]; exact hold4
     have Hs4 := Away.mk ((Hm7.out.set (152 + k) (by omega) (V152.out h8).symm).set (64 + k) (by omega) (v := .int .u32 ((b : Int) / 4294967296)) (by rw [V64.out h8]; exact val_int (by omega)))
     go_wp2_with fail
     go_roundw
     case rel => exact ⟨k + 1, by omega, by go_num, ⟨Hs4.out.mono (by unfold Q1; omega)⟩, Hp8⟩
     case measure => simp [intOf]; omega
    ·go_wp2_with fail
     go_roundw
     case rel => exact ⟨k + 1, by omega, by go_num, ⟨Hs2.out.mono (by unfold Q1; omega)⟩, Hp7⟩
     case measure => simp [intOf]; omega
   ·have h8 : ¬ k < 8 := by omega
    go_wp2_with fail
    go_roundw
    case rel => exact ⟨k + 1, by omega, by go_num, ⟨Hs1.out.mono (by unfold Q1; omega)⟩, Hp6⟩
    case measure => simp [intOf]; omega
  ·obtain rfl : k = 80 := by omega
   have Hm2 := Hm
   clear Hm Hp
   go_wp2_with fail
   refine (rounds.rrounds_any _).mono ?_
   rintro e w6 ⟨rfl, hb6⟩
   rw [HR.out]
   have Hm6 := Away.mk (Hm2.out.call hb6)
   have Hs6 := Away.mk (Hm6.out.sets 160 R.toList (by rw [Array.length_toList, Rs.out]; decide) Rv.out)
   have ht6 := ms_there Hm6.out 160 24 (by decide)
   clear hb6 Hm2
   go_wp2_with (refine wpList_store_mid rfl 35 _ _ rfl g 160 R rfl rfl (by rw [Rs.out]; exact ht6) (by rw [Rs.out]; exact rounds.zrounds) Ro.out ?_)
   refine (turns.rturns_any _).mono ?_
   rintro e w7 ⟨rfl, hb7⟩
   rw [HU.out]
   have Hm7 := Away.mk (Hs6.out.call hb7)
   have Hs7 := Away.mk (Hm7.out.sets 184 U.toList (by rw [Array.length_toList, Us.out]; decide) Uv.out)
   have ht7 := ms_there Hm7.out 184 25 (by decide)
   rw [show U.toList.length = 25 by rw [Array.length_toList, Us.out], show R.toList.length = 24 by rw [Array.length_toList, Rs.out]] at Hs7
   clear hb7 Hm6 ht6
   go_wp2_with (refine wpList_store_mid rfl 36 _ _ rfl g 184 U rfl rfl (by rw [Us.out]; exact ht7) (by rw [Us.out]; exact turns.zturns) Uo.out ?_)
   have Hm8 : Away (Ms 38 w g (Q2 0) (w7.setCells g 184 U.toList)) := ⟨Hs7.out.mono (by unfold Q1 Q2; omega)⟩
   clear Hm7 Hs6 Hs7 ht7
   go_loopw [49] (fun i wr => ∃ k : Nat, k ≤ 256 ∧ i = .int .i64 k ∧ Away (Ms 38 w g (Q2 k) wr)) (fun i _ => 256 - (intOf i).toNat)
   case atStart => exact ⟨0, by decide, rfl, Hm8⟩
   case round =>
    clear Hm8
    obtain ⟨k, hk, rfl, Hm⟩ := hrel
    by_cases hlt : k < 256
    ·have hrl := rv_lt k hlt
     have hzt : Away (pw 1753 (rv k) = zt k) := ⟨rfl⟩
     have hvz : Away (tv (209 + k) = .int .i64 ((zt k : Nat) : Int)) := ⟨by rw [tv_zetas k hlt, zl_get 256 k hlt (by decide)]⟩
     obtain ⟨⟨old, hold⟩, hfz⟩ := Hm.out.th (209 + k) (by omega)
     have Hs := Away.mk (Hm.out.set (209 + k) (by omega) hvz.out.symm)
     obtain ⟨r, Hr⟩ := ex_eq (rv k)
     rw [Hr.out] at hrl hzt
     go_wp2_with fail
     refine (zetas.mirrored_any k _ hlt).mono ?_
     rintro e w9 ⟨rfl, rfl⟩
     rw [Hr.out]
     go_wp2_with fail
     refine (power.rpower_nn 1753 r _ (by decide) (by omega)).mono ?_
     rintro e w9 ⟨rfl, rfl⟩
     rw [hzt.out]
     go_wp2_with fail
     go_roundw
     case rel => exact ⟨k + 1, by omega, by go_num, ⟨Hs.out.mono (by unfold Q2; omega)⟩⟩
     case measure => simp [intOf]; omega
    ·obtain rfl : k = 256 := by omega
     have hall : ∀ i, i < 465 → Q2 256 i := by unfold Q2; omega
     have hrg := Hm.out.range hall
     obtain ⟨Z0, hZ0, hz0⟩ := Hm.out.z
     have HZ0 := Away.mk hZ0
     have Hb := Away.mk Hm.out.be
     obtain ⟨T, HT⟩ := ex_eq TA
     have Hts : Away (T.size = 465) := ⟨by rw [← HT.out]; exact ta_size⟩
     have Hto : Away (T.all (·.oneCell') = true) := ⟨by rw [← HT.out]; exact ta_one⟩
     rw [HT.out] at hrg
     clear hall Hm hZ0
     go_wp2_with (first | (refine wpList_load_mid rfl 38 _ rfl g 0 rfl T.toList _ hrg Tryz.underlying38 rfl (by rw [Array.length_toList, Hts.out]; exact Hsize.out) ?_) | (refine wpList_store_row rfl 38 _ _ rfl _ T rfl (by simp [go_sem]) 38 _ hz0 (by rw [Hts.out]; exact Hsize.out) (by rw [Hts.out]; exact HZ0.out) Hto.out ?_))
     refine bodyPost_ret_by (v := .agg T) (results_cell_row rfl _ _ w.heap.size 38 _ (0, 0) _ rfl (setRow_heap _ _ _ _ _ _ hz0) Tryz.underlying38 rfl (by rw [Hts.out]; exact Hsize.out)) rfl ?_
     exact ⟨by rw [HT.out], Hb.out.trans (below_setRow _ _ _ (Nat.le_refl _))⟩
end rmake
end Go.Proofs.YtlcafjdehcddcaaGreatDoor
