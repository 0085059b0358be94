/-
  Regions that draw their order, one operation after another under a class of worlds: a load or a worldless operation is taken first, and where one operation alone may come up it is walked as in a plain region. No program is named here. Conditions: as each theorem says.
-/
import Derived.OrdersHeld
import Derived.Deep.MidRow
import Derived.Test.YthggakbomlgkhaaMem
import Derived.Test.YthggakbomlgkhaaArr
namespace Go.Proofs.Ythggakbomlgkhaa.helda
open Go Go.RowKit
open Go.Proofs.Ythggakbomlgkhaa.mem Go.Proofs.Ythggakbomlgkhaa.arr
section
variable {P : Program} {md : Region.Mode} {ops : Array Oper} {Q : Exit → Act → World → Prop} {S : World → Prop}

/-- one operation alone may come up -/
theorem held_step {i fuel : Nat} {o : Oper} {listed : Array Bool} {a : Act} {w : World} (hr : Region.ready md ops listed = [i]) (hi : ops[i]? = some o) (hw : Region.wanted o (yielded ops a.tmps) = true)
    (h : ∀ K : Act → World → Prop, (∀ a' w', S w' → wpAnyH P md ops Q S fuel (listed.setIfInBounds i true) a' w' → K a' w') → o.wp P a w K Q) : wpAnyH P md ops Q S (fuel + 1) listed a w := by
  refine wpAnyH_all hr (by simp) fun j hj => ?_
  have e : j = i := by simpa using hj
  subst e
  unfold Go.wpOp
  simp only [hi, hw, if_true]
  exact Or.inl (h _ fun a' w' hs hh => ⟨hs, hh⟩)
/-- a load of a whole block -/
theorem held_load {i fuel : Nat} {o : Oper} {listed : Array Bool} {a : Act} {w : World} (hi : ops[i]? = some o) (hs : Region.noSelect ops = true) (hf : Region.free md ops listed i = true) (hr : (Region.ready md ops listed).contains i = true)
    (hQ : ∀ c a w v, Q (.panic c) (a.put o.dst v) w → Q (.panic c) a w) (hw : Region.wanted o (yielded ops a.tmps) = true) (ty : TypeId) (x : Operand) (ho : o.op = .load ty x)
    (g : Nat) (hx : a.eval x = .pointer (some ⟨g, 0, none⟩)) (t : TypeId) (cs : Array Value) (d : TypeDesc) (hC : ∀ w, S w → w.heap[g]? = some (.cells cs t (0, 0)))
    (hu : P.underlying ty = some d) (hd : (match d with | .struct _ | .array _ _ => true | _ => false) = true) (hz : (P.info? ty).map (·.size) = some cs.size) (hS : S w)
    (h : wpAnyH P md ops Q S fuel (listed.setIfInBounds i true) (a.put o.dst (.agg cs)) w) : wpAnyH P md ops Q S (fuel + 1) listed a w :=
  wpAnyH_take hi hs hf hr (fun c a w => hQ c a w _) (Or.inl ⟨hw, fun w hw2 => by
    unfold execOp
    simp only [ho, hx, Instr.loadAt, Instr.sureAddr, Sem.run_bind, Sem.run_pure, Result.andThen_ok, run_loadVar_row w g t ty cs (0, 0) d (hC w hw2) hu hd hz]⟩) hS h
/-- a load of a part of a block -/
theorem held_mid {i fuel : Nat} {o : Oper} {listed : Array Bool} {a : Act} {w : World} (hi : ops[i]? = some o) (hs : Region.noSelect ops = true) (hf : Region.free md ops listed i = true) (hr : (Region.ready md ops listed).contains i = true)
    (hQ : ∀ c a w v, Q (.panic c) (a.put o.dst v) w → Q (.panic c) a w) (hw : Region.wanted o (yielded ops a.tmps) = true) (ty : TypeId) (x : Operand) (ho : o.op = .load ty x)
    (g n : Nat) (hx : a.eval x = .pointer (some ⟨g, n, none⟩)) (cs : List Value) (d : TypeDesc) (hC : ∀ w, S w → w.rangeAt g n cs)
    (hu : P.underlying ty = some d) (hd : d.isRow = true) (hz : (P.info? ty).map (·.size) = some cs.length) (hS : S w)
    (h : wpAnyH P md ops Q S fuel (listed.setIfInBounds i true) (a.put o.dst (.agg cs.toArray)) w) : wpAnyH P md ops Q S (fuel + 1) listed a w :=
  wpAnyH_take hi hs hf hr (fun c a w => hQ c a w _) (yieldsIf_load_mid hw ty x ho g n hx cs d hC hu hd hz) hS h
/-- the beginning -/
theorem held_begin {id : Nat} {a : Act} {w : World} {l : List Oper} (B : Nat) (hm : P.follows .mixedOrders = true)
    (h : Below B w w.drew → wpAnyH P .any l.toArray Q (fun w' => Below B w w') l.toArray.size (Array.replicate l.toArray.size false) a w.drew) : (Code.region id l.toArray true).wp P Q a w :=
  wp_region_held hm (h ((Below.refl _ _).drew))
/-- the first k have come up -/
def pre (n k : Nat) : Array Bool := (List.replicate k true ++ List.replicate (n - k) false).toArray
theorem pre_zero (n : Nat) : Array.replicate n false = pre n 0 := by
  unfold pre
  rw [List.replicate_zero, List.nil_append, Nat.sub_zero]
  simp
theorem pre_set (n k : Nat) (h : k < n) : (pre n k).setIfInBounds k true = pre n (k + 1) := by
  unfold pre
  apply Array.ext'
  rw [List.setIfInBounds_toArray]
  show (List.replicate k true ++ List.replicate (n - k) false).set k true = List.replicate (k + 1) true ++ List.replicate (n - (k + 1)) false
  rw [List.set_append_right k true (by rw [List.length_replicate]; exact Nat.le_refl _), List.length_replicate, Nat.sub_self, show n - k = (n - (k + 1)) + 1 by omega, List.replicate_succ, List.set_cons_zero, List.replicate_succ', List.append_assoc]
  rfl
/-- the rest of a region, in the text's order -/
def HL (P : Program) (ops : Array Oper) (Q : Exit → Act → World → Prop) (S : World → Prop) (n : Nat) (l : List Oper) (k : Nat) (a : Act) (w : World) : Prop :=
  (∀ j, l[j]? = ops[k + j]?) → wpAnyH P .any ops Q S l.length (pre n k) a w
theorem hl_next {l : List Oper} {o : Oper} {k : Nat} (h : ∀ j, (o :: l)[j]? = ops[k + j]?) : ∀ j, l[j]? = ops[k + 1 + j]? := fun j => by
  have := h (j + 1)
  rw [List.getElem?_cons_succ] at this
  rw [this, show k + (j + 1) = k + 1 + j by omega]
theorem hl_take {n k : Nat} {o : Oper} {rest : List Oper} {a : Act} {w : World} {v : Value} (hw : Region.wanted o (yielded ops a.tmps) = true) (hk : k < n) (hs : Region.noSelect ops = true) (hf : Region.free .any ops (pre n k) k = true) (hr : (Region.ready .any ops (pre n k)).contains k = true)
    (hQ : ∀ c a w, Q (.panic c) (a.put o.dst v) w → Q (.panic c) a w) (hy : ∀ w, S w → (execOp a.eval o).run P w = .ok (.value v) w) (hS : S w) (h : HL P ops Q S n rest (k + 1) (a.put o.dst v) w) : HL P ops Q S n (o :: rest) k a w := fun hl =>
  wpAnyH_take (by have := hl 0; simpa using this.symm) hs hf hr hQ (Or.inl ⟨hw, hy⟩) hS (by rw [pre_set n k hk]; exact h (hl_next hl))
theorem hl_load {n k : Nat} {o : Oper} {rest : List Oper} {a : Act} {w : World} (hw : Region.wanted o (yielded ops a.tmps) = true) (hk : k < n) (hs : Region.noSelect ops = true) (hf : Region.free .any ops (pre n k) k = true) (hr : (Region.ready .any ops (pre n k)).contains k = true)
    (hQ : ∀ v c a w, Q (.panic c) (a.put o.dst v) w → Q (.panic c) a w) (ty : TypeId) (x : Operand) (ho : o.op = .load ty x)
    (g : Nat) (hx : a.eval x = .pointer (some ⟨g, 0, none⟩)) (t : TypeId) (cs : Array Value) (d : TypeDesc) (hC : ∀ w, S w → w.heap[g]? = some (.cells cs t (0, 0)))
    (hu : P.underlying ty = some d) (hd : (match d with | .struct _ | .array _ _ => true | _ => false) = true) (hz : (P.info? ty).map (·.size) = some cs.size) (hS : S w)
    (h : HL P ops Q S n rest (k + 1) (a.put o.dst (.agg cs)) w) : HL P ops Q S n (o :: rest) k a w :=
  hl_take hw hk hs hf hr (hQ _) (fun w hw2 => by
    unfold execOp
    simp only [ho, hx, Instr.loadAt, Instr.sureAddr, Sem.run_bind, Sem.run_pure, Result.andThen_ok, run_loadVar_row w g t ty cs (0, 0) d (hC w hw2) hu hd hz]) hS h
theorem hl_mid {n k : Nat} {o : Oper} {rest : List Oper} {a : Act} {w : World} (hw : Region.wanted o (yielded ops a.tmps) = true) (hk : k < n) (hs : Region.noSelect ops = true) (hf : Region.free .any ops (pre n k) k = true) (hr : (Region.ready .any ops (pre n k)).contains k = true)
    (hQ : ∀ v c a w, Q (.panic c) (a.put o.dst v) w → Q (.panic c) a w) (ty : TypeId) (x : Operand) (ho : o.op = .load ty x)
    (g m : Nat) (hx : a.eval x = .pointer (some ⟨g, m, none⟩)) (cs : Array Value) (d : TypeDesc) (hC : ∀ w, S w → w.rangeAt g m cs.toList)
    (hu : P.underlying ty = some d) (hd : d.isRow = true) (hz : (P.info? ty).map (·.size) = some cs.toList.length) (hS : S w)
    (h : HL P ops Q S n rest (k + 1) (a.put o.dst (.agg cs)) w) : HL P ops Q S n (o :: rest) k a w :=
  hl_take hw hk hs hf hr (hQ _) (fun w hw2 => by
    unfold execOp
    simp only [ho, hx, run_loadAt_mid w g m ty cs.toList d (hC w hw2) hu hd hz, Sem.run_bind, Sem.run_pure, Result.andThen_ok]) hS h
theorem hl_step {n k : Nat} {o : Oper} {rest : List Oper} {a : Act} {w : World} (hw : Region.wanted o (yielded ops a.tmps) = true) (hk : k < n) (hr : Region.ready .any ops (pre n k) = [k])
    (h : ∀ K : Act → World → Prop, (∀ a' w', S w' → HL P ops Q S n rest (k + 1) a' w' → K a' w') → o.wp P a w K Q) : HL P ops Q S n (o :: rest) k a w := fun hl =>
  held_step hr (by have := hl 0; simpa using this.symm) hw fun K hK => h K fun a' w' hs hh => hK a' w' hs (by rw [pre_set n k hk]; exact hh (hl_next hl))
theorem hl_nil {n k : Nat} {a : Act} {w : World} (hr : Region.ready .any ops (pre n k) = []) (h : Q .normal a w) : HL P ops Q S n [] k a w := fun _ => wpAnyH_done hr h _
theorem hl_begin {id : Nat} {a : Act} {w : World} {l : List Oper} (B n : Nat) (hm : P.follows .mixedOrders = true) (hn : l.toArray.size = n)
    (h : Below B w w.drew → ∀ ops : Array Oper, Away (l.toArray = ops) → HL P ops Q (fun w' => Below B w w') n l 0 a w.drew) : (Code.region id l.toArray true).wp P Q a w := by
  subst hn
  refine held_begin B hm fun hb => ?_
  rw [pre_zero]
  exact h hb _ ⟨rfl⟩ (fun j => by simp)
/-- the rest of a region, in an order of one's own: ks are the places -/
def HK (P : Program) (ops : Array Oper) (Q : Exit → Act → World → Prop) (S : World → Prop) (b : Array Bool) (l : List Oper) (ks : List Nat) (a : Act) (w : World) : Prop :=
  ks.map (fun k => ops[k]?) = l.map some → wpAnyH P .any ops Q S l.length b a w
theorem hk_take {b : Array Bool} {k : Nat} {ks : List Nat} {o : Oper} {rest : List Oper} {a : Act} {w : World} {v : Value} (hw : Region.wanted o (yielded ops a.tmps) = true) (hs : Region.noSelect ops = true) (hf : Region.free .any ops b k = true) (hr : (Region.ready .any ops b).contains k = true)
    (hQ : ∀ c a w, Q (.panic c) (a.put o.dst v) w → Q (.panic c) a w) (hy : ∀ w, S w → (execOp a.eval o).run P w = .ok (.value v) w) (hS : S w) (h : HK P ops Q S (b.setIfInBounds k true) rest ks (a.put o.dst v) w) : HK P ops Q S b (o :: rest) (k :: ks) a w := fun hl => by
  simp only [List.map_cons, List.cons.injEq] at hl
  exact wpAnyH_take hl.1 hs hf hr hQ (Or.inl ⟨hw, hy⟩) hS (h hl.2)
theorem hk_load {b : Array Bool} {k : Nat} {ks : List Nat} {o : Oper} {rest : List Oper} {a : Act} {w : World} (hw : Region.wanted o (yielded ops a.tmps) = true) (hs : Region.noSelect ops = true) (hf : Region.free .any ops b k = true) (hr : (Region.ready .any ops b).contains k = true)
    (hQ : ∀ v c a w, Q (.panic c) (a.put o.dst v) w → Q (.panic c) a w) (ty : TypeId) (x : Operand) (ho : o.op = .load ty x)
    (g : Nat) (hx : a.eval x = .pointer (some ⟨g, 0, none⟩)) (t : TypeId) (cs : Array Value) (d : TypeDesc) (hC : ∀ w, S w → w.heap[g]? = some (.cells cs t (0, 0)))
    (hu : P.underlying ty = some d) (hd : (match d with | .struct _ | .array _ _ => true | _ => false) = true) (hz : (P.info? ty).map (·.size) = some cs.size) (hS : S w)
    (h : HK P ops Q S (b.setIfInBounds k true) rest ks (a.put o.dst (.agg cs)) w) : HK P ops Q S b (o :: rest) (k :: ks) a w :=
  hk_take hw hs hf hr (hQ _) (fun w hw2 => by
    unfold execOp
    simp only [ho, hx, Instr.loadAt, Instr.sureAddr, Sem.run_bind, Sem.run_pure, Result.andThen_ok, run_loadVar_row w g t ty cs (0, 0) d (hC w hw2) hu hd hz]) hS h
theorem hk_step {b : Array Bool} {k : Nat} {ks : List Nat} {o : Oper} {rest : List Oper} {a : Act} {w : World} (hw : Region.wanted o (yielded ops a.tmps) = true) (hr : Region.ready .any ops b = [k])
    (h : ∀ K : Act → World → Prop, (∀ a' w', S w' → HK P ops Q S (b.setIfInBounds k true) rest ks a' w' → K a' w') → o.wp P a w K Q) : HK P ops Q S b (o :: rest) (k :: ks) a w := fun hl => by
  simp only [List.map_cons, List.cons.injEq] at hl
  exact held_step hr hl.1 hw fun K hK => h K fun a' w' hs hh => hK a' w' hs (hh hl.2)
theorem hk_nil {b : Array Bool} {a : Act} {w : World} (hr : Region.ready .any ops b = []) (h : Q .normal a w) : HK P ops Q S b [] [] a w := fun _ => wpAnyH_done hr h _
theorem order_is (l : List Oper) (ks : List Nat) (h : ks.all (fun k => decide (k < l.length)) = true) : ks.map (fun k => l.toArray[k]?) = (ks.filterMap fun k => l[k]?).map some ∧ (ks.filterMap fun k => l[k]?).length = ks.length := by
  induction ks with
  | nil => exact ⟨rfl, rfl⟩
  | cons k ks ih =>
    rw [List.all_cons, Bool.and_eq_true] at h
    have hk : k < l.length := of_decide_eq_true h.1
    obtain ⟨h1, h2⟩ := ih h.2
    have e : l[k]? = some l[k] := List.getElem?_eq_getElem hk
    rw [List.filterMap_cons, e, List.map_cons, h1]
    exact ⟨by simp [e], by simp [h2]⟩
theorem hk_begin {id : Nat} {a : Act} {w : World} {l : List Oper} (B n : Nat) (ks : List Nat) (hm : P.follows .mixedOrders = true) (hn : l.length = n) (hz : ks.length = n) (hall : ks.all (fun k => decide (k < n)) = true)
    (h : Below B w w.drew → ∀ ops : Array Oper, Away (l.toArray = ops) → HK P ops Q (fun w' => Below B w w') (Array.replicate n false) (ks.filterMap fun k => l[k]?) ks a w.drew) : (Code.region id l.toArray true).wp P Q a w := by
  subst hn
  obtain ⟨h1, h2⟩ := order_is l ks hall
  refine held_begin B hm fun hb => ?_
  have h3 := h hb _ ⟨rfl⟩ h1
  rw [h2, hz] at h3
  exact h3
end
end Go.Proofs.Ythggakbomlgkhaa.helda
