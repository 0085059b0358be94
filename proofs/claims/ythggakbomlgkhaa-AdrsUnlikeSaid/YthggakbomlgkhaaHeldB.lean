/-
  HeldA's steps with their looks in one. No program is named here. Conditions: as each theorem says.
-/
import Derived.Test.YthggakbomlgkhaaHeldA
namespace Go.Proofs.Ythggakbomlgkhaa.heldb
open Go Go.RowKit
open Go.Proofs.Ythggakbomlgkhaa.helda
/-- may be taken first -/
def tk (ops : Array Oper) (b : Array Bool) (k : Nat) (o : Oper) (a : Act) : Bool := Region.wanted o (yielded ops a.tmps) && (Region.noSelect ops && (Region.free .any ops b k && (Region.ready .any ops b).contains k))
/-- alone may come up -/
def st (ops : Array Oper) (b : Array Bool) (k : Nat) (o : Oper) (a : Act) : Bool := Region.wanted o (yielded ops a.tmps) && (Region.ready .any ops b == [k])
section
variable {P : Program} {ops : Array Oper} {Q : Exit → Act → World → Prop} {S : World → Prop}
theorem tk_is {b : Array Bool} {k : Nat} {o : Oper} {a : Act} (h : tk ops b k o a = true) : Region.wanted o (yielded ops a.tmps) = true ∧ Region.noSelect ops = true ∧ Region.free .any ops b k = true ∧ (Region.ready .any ops b).contains k = true := by
  unfold tk at h
  rw [Bool.and_eq_true, Bool.and_eq_true, Bool.and_eq_true] at h
  exact h
theorem hk_t {b : Array Bool} {k : Nat} {ks : List Nat} {o : Oper} {rest : List Oper} {a : Act} {w : World} {v : Value} (hc : tk ops b k o a = true)
    (hQ : ∀ c a w, Q (.panic c) (a.put o.dst v) w → Q (.panic c) a w) (hy : ∀ w, S w → (execOp a.eval o).run P w = .ok (.value v) w) (hS : S w) (h : HK P ops Q S (b.setIfInBounds k true) rest ks (a.put o.dst v) w) : HK P ops Q S b (o :: rest) (k :: ks) a w := by
  obtain ⟨h1, h2, h3, h4⟩ := tk_is hc
  exact hk_take h1 h2 h3 h4 hQ hy hS h
theorem hk_l {b : Array Bool} {k : Nat} {ks : List Nat} {o : Oper} {rest : List Oper} {a : Act} {w : World} (hc : tk ops b k o a = true)
    (hQ : ∀ v c a w, Q (.panic c) (a.put o.dst v) w → Q (.panic c) a w) (ty : TypeId) (x : Operand) (ho : o.op = .load ty x)
    (g : Nat) (hx : a.eval x = .pointer (some ⟨g, 0, none⟩)) (t : TypeId) (cs : Array Value) (d : TypeDesc) (hC : ∀ w, S w → w.heap[g]? = some (.cells cs t (0, 0)))
    (hu : P.underlying ty = some d) (hd : (match d with | .struct _ | .array _ _ => true | _ => false) = true) (hz : (P.info? ty).map (·.size) = some cs.size) (hS : S w)
    (h : HK P ops Q S (b.setIfInBounds k true) rest ks (a.put o.dst (.agg cs)) w) : HK P ops Q S b (o :: rest) (k :: ks) a w := by
  obtain ⟨h1, h2, h3, h4⟩ := tk_is hc
  exact hk_load h1 h2 h3 h4 hQ ty x ho g hx t cs d hC hu hd hz hS h
theorem hk_m {b : Array Bool} {k : Nat} {ks : List Nat} {o : Oper} {rest : List Oper} {a : Act} {w : World} (hc : tk ops b k o a = true)
    (hQ : ∀ v c a w, Q (.panic c) (a.put o.dst v) w → Q (.panic c) a w) (ty : TypeId) (x : Operand) (ho : o.op = .load ty x)
    (g n : Nat) (hx : a.eval x = .pointer (some ⟨g, n, none⟩)) (cs : Array Value) (d : TypeDesc) (hC : ∀ w, S w → w.rangeAt g n cs.toList)
    (hu : P.underlying ty = some d) (hd : d.isRow = true) (hz : (P.info? ty).map (·.size) = some cs.toList.length) (hS : S w)
    (h : HK P ops Q S (b.setIfInBounds k true) rest ks (a.put o.dst (.agg cs)) w) : HK P ops Q S b (o :: rest) (k :: ks) a w := by
  refine hk_t hc (hQ _) (fun w hw2 => ?_) hS h
  unfold execOp
  simp only [ho, hx, run_loadAt_mid w g n ty cs.toList d (hC w hw2) hu hd hz, Sem.run_bind, Sem.run_pure, Result.andThen_ok]
/-- a literal of a struct or an array, its value told -/
theorem hk_b {b : Array Bool} {k : Nat} {ks : List Nat} {o : Oper} {rest : List Oper} {a : Act} {w : World} (hc : tk ops b k o a = true)
    (hQ : ∀ v c a w, Q (.panic c) (a.put o.dst v) w → Q (.panic c) a w) (v : Value) (hy : ∀ w, (execOp a.eval o).run P w = .ok (.value v) w) (hS : S w)
    (h : HK P ops Q S (b.setIfInBounds k true) rest ks (a.put o.dst v) w) : HK P ops Q S b (o :: rest) (k :: ks) a w := hk_t hc (hQ _) (fun w _ => hy w) hS h
theorem hk_s {b : Array Bool} {k : Nat} {ks : List Nat} {o : Oper} {rest : List Oper} {a : Act} {w : World} (hc : st ops b k o a = true)
    (h : ∀ K : Act → World → Prop, (∀ a' w', S w' → HK P ops Q S (b.setIfInBounds k true) rest ks a' w' → K a' w') → o.wp P a w K Q) : HK P ops Q S b (o :: rest) (k :: ks) a w := by
  unfold st at hc
  rw [Bool.and_eq_true, beq_iff_eq] at hc
  exact hk_step hc.1 hc.2 h
/-- the same facts about lists, with short names: the state after a step is written out by simp only [Act.put, pa, pb, pc] -/
theorem pa {α : Type} (l : List α) (i : Nat) (a : α) : l.toArray.setIfInBounds i a = (l.set i a).toArray := List.setIfInBounds_toArray ..
theorem pb {α : Type} (x a : α) (xs : List α) : (x :: xs).set 0 a = a :: xs := rfl
theorem pc {α : Type} (x a : α) (xs : List α) (n : Nat) : (x :: xs).set (n + 1) a = x :: xs.set n a := rfl
theorem fa {α β : Type} (f : α → Option β) : List.filterMap f [] = [] := rfl
end
end Go.Proofs.Ythggakbomlgkhaa.heldb
