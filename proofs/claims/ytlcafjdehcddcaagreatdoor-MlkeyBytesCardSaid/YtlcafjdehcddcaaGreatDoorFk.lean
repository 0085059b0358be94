/-
  A region that draws its order: two operations in a chain (one that makes memory, a call) and a third that may come ahead of, between or behind them. No program is named here. Conditions: as each theorem says.
-/
import Derived.Test.YtlcafjdehcddcaaGreatDoorPuA
import Derived.Great.BuildSlice
namespace Go.Proofs.YtlcafjdehcddcaaGreatDoor
namespace fork
set_option linter.unusedVariables false
open Go Go.RowKit
open arr mem polys polt pols polb helda
section
variable {P : Program} {ops : Array Oper} {Q : Exit → Act → World → Prop} {S : World → Prop}
theorem fk_two {b : Array Bool} {k1 k2 : Nat} {ks : List Nat} {o1 o2 : Oper} {rest : List Oper} {a : Act} {w : World} (hw1 : Region.wanted o1 (yielded ops a.tmps) = true) (hw2 : Region.wanted o2 (yielded ops a.tmps) = true) (hr : Region.ready .any ops b = [k1, k2])
 (h1 : ∀ K : Act → World → Prop, (∀ a' w', S w' → HK P ops Q S (b.setIfInBounds k1 true) (o2 :: rest) (k2 :: ks) a' w' → K a' w') → o1.wp P a w K Q)
 (h2 : ∀ K : Act → World → Prop, (∀ a' w', S w' → HK P ops Q S (b.setIfInBounds k2 true) (o1 :: rest) (k1 :: ks) a' w' → K a' w') → o2.wp P a w K Q) : HK P ops Q S b (o1 :: o2 :: rest) (k1 :: k2 :: ks) a w := fun hl => by
 simp only [List.map_cons, List.cons.injEq] at hl
 obtain ⟨e1, e2, e3⟩ := hl
 refine wpAnyH_all hr (by simp) fun j hj => ?_
 simp only [List.mem_cons, List.not_mem_nil, or_false] at hj
 rcases hj with rfl | rfl
 ·unfold Go.wpOp
  simp only [e1, hw1, if_true]
  exact Or.inl (h1 _ fun a' w' hs hh => ⟨hs, hh (by simp only [List.map_cons, e2, e3])⟩)
 ·unfold Go.wpOp
  simp only [e2, hw2, if_true]
  exact Or.inl (h2 _ fun a' w' hs hh => ⟨hs, hh (by simp only [List.map_cons, e1, e3])⟩)
theorem fk_perm {b : Array Bool} {ks ks' : List Nat} {l l' : List Oper} {a : Act} {w : World} (hl : l'.length = l.length) (hh : ks.map (fun k => ops[k]?) = l.map some → ks'.map (fun k => ops[k]?) = l'.map some) (h : HK P ops Q S b l' ks' a w) : HK P ops Q S b l ks a w := fun e => by
 have h1 := h (hh e)
 rw [hl] at h1
 exact h1
theorem fk_act {b : Array Bool} {ks : List Nat} {l : List Oper} {a : Act} {w : World} (h : ∀ A0, Away (a = A0) → HK P ops Q S b l ks A0 w) : HK P ops Q S b l ks a w := h a ⟨rfl⟩
theorem hk_fork {b : Array Bool} {k1 k2 k3 : Nat} {ks : List Nat} {o1 o2 o3 : Oper} {rest : List Oper} {a : Act} {w : World} (d1 d2 d3 : Nat) (n23 : d2 ≠ d3) (n13 : d1 ≠ d3)
 (I1 I3 : Value → World → Prop) (I12 I13 : Value → Value → World → Prop) (F : Value → Value → Value → World → Prop)
 (r0 : Region.ready .any ops b = [k1, k3]) (r1 : Region.ready .any ops (b.setIfInBounds k1 true) = [k2, k3]) (r3 : Region.ready .any ops (b.setIfInBounds k3 true) = [k1])
 (r13 : Region.ready .any ops ((b.setIfInBounds k1 true).setIfInBounds k3 true) = [k2]) (r12 : Region.ready .any ops ((b.setIfInBounds k1 true).setIfInBounds k2 true) = [k3]) (m23 : k2 ≠ k3) (m13 : k1 ≠ k3)
 (W1 : Region.wanted o1 (yielded ops a.tmps) = true) (W3 : Region.wanted o3 (yielded ops a.tmps) = true) (W2 : ∀ v1, Region.wanted o2 (yielded ops (a.put (some d1) v1).tmps) = true) (W13 : ∀ v1, Region.wanted o3 (yielded ops (a.put (some d1) v1).tmps) = true)
 (W31 : ∀ v3, Region.wanted o1 (yielded ops (a.put (some d3) v3).tmps) = true) (W123 : ∀ v1 v2, Region.wanted o3 (yielded ops ((a.put (some d1) v1).put (some d2) v2).tmps) = true) (W132 : ∀ v1 v3, Region.wanted o2 (yielded ops ((a.put (some d1) v1).put (some d3) v3).tmps) = true)
 (p1 : ∀ K : Act → World → Prop, (∀ v1 w1, S w1 → I1 v1 w1 → K (a.put (some d1) v1) w1) → o1.wp P a w K Q)
 (p2 : ∀ v1 w1, S w1 → I1 v1 w1 → ∀ K : Act → World → Prop, (∀ v2 w2, S w2 → I12 v1 v2 w2 → K ((a.put (some d1) v1).put (some d2) v2) w2) → o2.wp P (a.put (some d1) v1) w1 K Q)
 (p3 : ∀ v1 v2 w1, S w1 → I12 v1 v2 w1 → ∀ K : Act → World → Prop, (∀ v3 w2, S w2 → F v1 v2 v3 w2 → K (((a.put (some d1) v1).put (some d2) v2).put (some d3) v3) w2) → o3.wp P ((a.put (some d1) v1).put (some d2) v2) w1 K Q)
 (p13 : ∀ v1 w1, S w1 → I1 v1 w1 → ∀ K : Act → World → Prop, (∀ v3 w2, S w2 → I13 v1 v3 w2 → K ((a.put (some d1) v1).put (some d3) v3) w2) → o3.wp P (a.put (some d1) v1) w1 K Q)
 (p132 : ∀ v1 v3 w1, S w1 → I13 v1 v3 w1 → ∀ K : Act → World → Prop, (∀ v2 w2, S w2 → F v1 v2 v3 w2 → K (((a.put (some d1) v1).put (some d3) v3).put (some d2) v2) w2) → o2.wp P ((a.put (some d1) v1).put (some d3) v3) w1 K Q)
 (p0 : ∀ K : Act → World → Prop, (∀ v3 w1, S w1 → I3 v3 w1 → K (a.put (some d3) v3) w1) → o3.wp P a w K Q)
 (p31 : ∀ v3 w1, S w1 → I3 v3 w1 → ∀ K : Act → World → Prop, (∀ v1 w2, S w2 → I13 v1 v3 w2 → K ((a.put (some d3) v3).put (some d1) v1) w2) → o1.wp P (a.put (some d3) v3) w1 K Q)
 (CONT : ∀ v1 v2 v3 w', S w' → F v1 v2 v3 w' → HK P ops Q S (((b.setIfInBounds k1 true).setIfInBounds k2 true).setIfInBounds k3 true) rest ks (((a.put (some d1) v1).put (some d2) v2).put (some d3) v3) w') :
 HK P ops Q S b (o1 :: o2 :: o3 :: rest) (k1 :: k2 :: k3 :: ks) a w := by
 refine fk_perm (l' := o1 :: o3 :: o2 :: rest) (ks' := k1 :: k3 :: k2 :: ks) rfl (fun e => by
  simp only [List.map_cons, List.cons.injEq] at e ⊢
  exact ⟨e.1, e.2.2.1, e.2.1, e.2.2.2⟩) ?_
 have J : ∀ v1 v3 w', S w' → I13 v1 v3 w' → HK P ops Q S ((b.setIfInBounds k1 true).setIfInBounds k3 true) (o2 :: rest) (k2 :: ks) ((a.put (some d1) v1).put (some d3) v3) w' := fun v1 v3 w' hs hi => by
  refine hk_step (W132 v1 v3) r13 (fun K hK => p132 v1 v3 w' hs hi _ fun v2 w2 hs2 hf => hK _ _ hs2 ?_)
  rw [Array.setIfInBounds_comm _ _ m23.symm, ← Act.put_comm _ v2 v3 (fun d e1 e2 => by injection e1 with e1; injection e2 with e2; exact n23 (e1.trans e2.symm))]
  exact CONT v1 v2 v3 w2 hs2 hf
 refine fk_two W1 W3 r0 (fun K hK => p1 _ fun v1 w1 hs hi => hK _ _ hs ?_) (fun K hK => p0 _ fun v3 w1 hs hi => hK _ _ hs ?_)
 ·refine fk_perm (l' := o2 :: o3 :: rest) (ks' := k2 :: k3 :: ks) rfl (fun e => by
   simp only [List.map_cons, List.cons.injEq] at e ⊢
   exact ⟨e.2.1, e.1, e.2.2⟩) ?_
  refine fk_two (W2 v1) (W13 v1) r1 (fun K hK => p2 v1 w1 hs hi _ fun v2 w2 hs2 hi2 => hK _ _ hs2 ?_) (fun K hK => p13 v1 w1 hs hi _ fun v3 w2 hs2 hi2 => hK _ _ hs2 (J v1 v3 w2 hs2 hi2))
  exact hk_step (W123 v1 v2) r12 (fun K hK => p3 v1 v2 w2 hs2 hi2 _ fun v3 w3 hs3 hf => hK _ _ hs3 (CONT v1 v2 v3 w3 hs3 hf))
 ·refine hk_step (W31 v3) r3 (fun K hK => p31 v3 w1 hs hi _ fun v1 w2 hs2 hi2 => hK _ _ hs2 ?_)
  rw [Array.setIfInBounds_comm _ _ m13.symm, ← Act.put_comm _ v1 v3 (fun d e1 e2 => by injection e1 with e1; injection e2 with e2; exact n13 (e1.trans e2.symm))]
  exact J v1 v3 w2 hs2 hi2
end
theorem wp_call3 {P : Program} {o : Oper} {a : Act} {w : World} {K : Act → World → Prop} {Q : Exit → Act → World → Prop} (f : Nat) (x y z : Operand) (ts : Array TypeId) (ho : o.op = .call { callee := .value (.func f), args := #[x, y, z], argTypes := ts })
 (hf : ∀ (args : Array Value) (w : World), (callFunc f args).run P w = .ok (.enter f args) w) (vx vy vz : Value) (hx : a.eval x = vx) (hy : a.eval y = vy) (hz : a.eval z = vz) (h : Calls P f #[vx, vy, vz] w fun e w' => ∃ v, e = .returned v ∧ K (a.put o.dst v) w') : o.wp P a w K Q := by
 unfold Oper.wp execOp
 simp only [ho, resolve, List.map_toArray, List.map_cons, List.map_nil, hx, hy, hz]
 go_simp
 show Calls P f #[vx, vy, vz] w _
 refine h.mono ?_
 rintro e w' ⟨v, rfl, hk⟩
 exact hk
theorem hk_mid {P : Program} {ops : Array Oper} {Q : Exit → Act → World → Prop} {S : World → Prop} {b : Array Bool} {k : Nat} {ks : List Nat} {o : Oper} {rest : List Oper} {a : Act} {w : World} (hw : Region.wanted o (yielded ops a.tmps) = true) (hs : Region.noSelect ops = true) (hf : Region.free .any ops b k = true) (hr : (Region.ready .any ops b).contains k = true)
 (hQ : ∀ v c a w, Q (.panic c) (a.put o.dst v) w → Q (.panic c) a w) (ty : TypeId) (x : Operand) (ho : o.op = .load ty x)
 (g n : Nat) (hx : a.eval x = .pointer (some ⟨g, n, none⟩)) (cs : List Value) (d : TypeDesc) (hC : ∀ w, S w → w.rangeAt g n cs)
 (hu : P.underlying ty = some d) (hd : d.isRow = true) (hz : (P.info? ty).map (·.size) = some cs.length) (hS : S w)
 (h : HK P ops Q S (b.setIfInBounds k true) rest ks (a.put o.dst (.agg cs.toArray)) w) : HK P ops Q S b (o :: rest) (k :: ks) a w :=
 hk_take hw hs hf hr (hQ _) (fun w hw2 => by
  unfold execOp
  simp only [ho, hx, Instr.loadAt, Instr.sureAddr, Sem.run_bind, Sem.run_pure, Result.andThen_ok, run_loadVar_mid w g n ty cs d (hC w hw2) hu hd hz]) hS h
theorem wpList_buildOne {P : Program} {ops : Array Oper} {rest : List Oper} {o : Oper} {a : Act} {w : World} {Q : Exit → Act → World → Prop} (hg : o.guard = none) (t e : TypeId) (x : Operand) (ho : o.op = .buildSlice t 1 #[(0, x)])
 (F : Array Value) (hF : F.size = 256) (ie : TypeInfo) (z : Array Value)
 (hu : P.underlying t = some (.slice e)) (hie : P.info? e = some ie) (hz : ie.zero = some (.agg z)) (hsz : ie.size = 256) (hx : a.eval x = .agg F)
 (h : wpList P ops Q rest (a.put o.dst (.slice (some ⟨w.heap.size, 0, none⟩) 1 1)) (w.alloc (.cells F e))) : wpList P ops Q (o :: rest) a w := by
 refine wpList_buildSlice hg t e 1 _ ho F ie (.agg z) hu hie hz (by rw [hsz]; decide) (by rw [hsz]; decide) ?_ h
 have hc : ((#[(0, x)] : Array (Nat × Operand)).map fun (i, x) => (i, a.eval x)).toList = [(0, Value.agg F)] := by simp [hx]
 rw [hc, hsz]
 exact fill_one F _ hF (by rw [Array.size_map, Array.size_range])
theorem wp_buildTwo {P : Program} {o : Oper} {a : Act} {w : World} {K : Act → World → Prop} {Q : Exit → Act → World → Prop} (t e : TypeId) (x y : Operand) (ho : o.op = .buildSlice t 2 #[(0, x), (1, y)])
 (f g : Nat → Int) (F G : Array Value) (hF : FL .i64 256 f = F) (hG : FL .i64 256 g = G) (ie : TypeInfo) (z : Array Value)
 (hu : P.underlying t = some (.slice e)) (hie : P.info? e = some ie) (hz : ie.zero = some (.agg z)) (hsz : ie.size = 256) (hx : a.eval x = .agg F) (hy : a.eval y = .agg G)
 (h : K (a.put o.dst (.slice (some ⟨w.heap.size, 0, none⟩) 2 2)) (w.alloc (.cells (RW 2 (pair f g)) e))) : o.wp P a w K Q := by
 refine wp_buildSlice t e 2 _ ho (RW 2 (pair f g)) ie (.agg z) hu hie hz (by rw [hsz]; decide) (by rw [hsz]; decide) ?_ h
 have hc : ((#[(0, x), (1, y)] : Array (Nat × Operand)).map fun (i, x) => (i, a.eval x)).toList = [(0, Value.agg F), (1, Value.agg G)] := by simp [hx, hy]
 have sF : F.size = 256 := by rw [← hF, fl_size]
 have sG : G.size = 256 := by rw [← hG, fl_size]
 rw [hc, ← rw_pair f g, hF, hG, hsz]
 exact fill_two F G _ sF sG (by rw [Array.size_map, Array.size_range])
theorem built_two {w : World} (p : Nat → Nat → Int) (e : TypeId) : Holds (w.alloc (.cells (RW 2 p) e)) 0 (.slice (some ⟨w.heap.size, 0, none⟩) 2 2) 2 p :=
 ⟨w.heap.size, 2, rfl, Nat.zero_le _, by rw [size_alloc]; omega, fun i hi k hk => rw_cell (t := e) (heap_at _ _ _ rfl) i k hi hk⟩
end fork
end Go.Proofs.YtlcafjdehcddcaaGreatDoor
