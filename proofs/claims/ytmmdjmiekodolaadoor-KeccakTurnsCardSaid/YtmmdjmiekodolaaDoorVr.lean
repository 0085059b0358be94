/-
  A region that draws its order and makes a variable for a result ('x, err := f(..)' with x a struct or an array): the allocation may come at any time, so that the variable's address is not known; all else is walked once, in the order of the text. No program is named here. Conditions: as each theorem says.
-/
import Derived.Test.YtmmdjmiekodolaaDoorBase
import Derived.Great.Frames
namespace Go.Proofs.YtmmdjmiekodolaaDoor.vary
set_option linter.unusedSimpArgs false
open Go Go.RowKit
open Go.Proofs.YtmmdjmiekodolaaDoor.arr Go.Proofs.YtmmdjmiekodolaaDoor.mem

section
variable {P : Program} {ops : Array Oper} {md : Region.Mode} {C : World → Prop}
/-- in every world of the class the operation yields v; or its call hands v back and leaves what is there as it was -/
def Mild (P : Program) (C : World → Prop) (o : Oper) (a : Act) (v : Value) : Prop := ∀ w, C w → o.quietAt P a (fun w' => Below w.heap.size w w') w v
/-- the walk, in the order of the text -/
def wpMild (P : Program) (ops : Array Oper) (C : World → Prop) (Q : Act → Prop) : List Oper → Act → Prop
  | [], a => Q a
  | o :: rest, a => if Region.wanted o (yielded ops a.tmps) = true then ∃ v, Mild P C o a v ∧ wpMild P ops C Q rest (a.put o.dst v) else wpMild P ops C Q rest (a.put o.dst undef)
def mOp (P : Program) (ops : Array Oper) (C : World → Prop) (o : Oper) (K : Act → Prop) (a : Act) : Prop :=
  if Region.wanted o (yielded ops a.tmps) = true then ∃ v, Mild P C o a v ∧ K (a.put o.dst v) else K (a.put o.dst undef)
/-- .. in whatever order -/
def anyM (P : Program) (md : Region.Mode) (ops : Array Oper) (C : World → Prop) (Q : Act → Prop) : Nat → Array Bool → Act → Prop
  | 0, b, a => Region.ready md ops b = [] ∧ Q a
  | f + 1, b, a => (Region.ready md ops b = [] → Q a) ∧ ∀ i o, i ∈ Region.ready md ops b → ops[i]? = some o → mOp P ops C o (anyM P md ops C Q f (b.setIfInBounds i true)) a
def YieldsM (P : Program) (ops : Array Oper) (C : World → Prop) (o : Oper) (v : Value) (a : Act) : Prop :=
  (Region.wanted o (yielded ops a.tmps) = true ∧ Mild P C o a v) ∨ (Region.wanted o (yielded ops a.tmps) = false ∧ v = undef)
theorem YieldsM.mOp {o : Oper} {v : Value} {a : Act} (hy : YieldsM P ops C o v a) {K : Act → Prop} (h : K (a.put o.dst v)) : mOp P ops C o K a := by
  unfold vary.mOp
  rcases hy with ⟨h1, h2⟩ | ⟨h1, rfl⟩
  · rw [if_pos h1]; exact ⟨v, h2, h⟩
  · rw [if_neg (by rw [h1]; decide)]; exact h
theorem yieldsM_of {o : Oper} {a : Act} {K : Act → Prop} (h : mOp P ops C o K a) : ∃ v, YieldsM P ops C o v a ∧ K (a.put o.dst v) := by
  unfold mOp at h
  by_cases hw : Region.wanted o (yielded ops a.tmps) = true
  · rw [if_pos hw] at h
    obtain ⟨v, h1, h2⟩ := h
    exact ⟨v, Or.inl ⟨hw, h1⟩, h2⟩
  · rw [if_neg hw] at h
    exact ⟨undef, Or.inr ⟨by simpa using hw, rfl⟩, h⟩
theorem mOp_mono {o : Oper} {a : Act} {K K' : Act → Prop} (h : ∀ a, K a → K' a) (hh : mOp P ops C o K a) : mOp P ops C o K' a := by
  obtain ⟨v, h1, h2⟩ := yieldsM_of hh
  exact h1.mOp (h _ h2)
theorem YieldsM.put {o : Oper} {v : Value} {a : Act} (hs : ∀ cs b, o.op ≠ .select cs b) (x : Option Tmp) (u : Value) (h : ∀ d, x = some d → d ∉ o.looksAt ops) (hy : YieldsM P ops C o v a) : YieldsM P ops C o v (a.put x u) := by
  unfold YieldsM Mild Oper.quietAt at *
  rw [execOp_put o hs a x u h, wanted_put o a x u h]
  exact hy
theorem YieldsM.back {o : Oper} {v : Value} {a : Act} (hs : ∀ cs b, o.op ≠ .select cs b) (x : Option Tmp) (u : Value) (h : ∀ d, x = some d → d ∉ o.looksAt ops) (hy : YieldsM P ops C o v (a.put x u)) : YieldsM P ops C o v a := by
  unfold YieldsM Mild Oper.quietAt at *
  rw [execOp_put o hs a x u h, wanted_put o a x u h] at hy
  exact hy
theorem mOp_put {oi oj : Oper} {v : Value} (hap : oi.apart ops oj = true) (hsi : ∀ cs b, oi.op ≠ .select cs b) (hsj : ∀ cs b, oj.op ≠ .select cs b) {K : Act → Prop} {a : Act}
    (hy : YieldsM P ops C oi v a) (h : mOp P ops C oj K (a.put oi.dst v)) : mOp P ops C oj (fun a' => YieldsM P ops C oi v a' ∧ K (a'.put oi.dst v)) a := by
  obtain ⟨h1, h2, h3⟩ := Oper.apart_spec hap
  obtain ⟨u, hu, hK⟩ := yieldsM_of h
  refine (hu.back hsj oi.dst v h1).mOp ⟨hy.put hsi oj.dst u h3, ?_⟩
  rw [← Act.put_comm a v u h2]
  exact hK
theorem anyM_first {Q : Act → Prop} {i : Nat} {oi : Oper} {v : Value} (hi : ops[i]? = some oi) (hsel : ∀ (j : Nat) (o : Oper) cs b, ops[j]? = some o → o.op ≠ .select cs b) (f : Nat) :
    ∀ (b : Array Bool) (a : Act), (∀ j oj, ops[j]? = some oj → j ≠ i → b.getD j true = false → (∀ e ∈ oj.after, Region.binds md e = true → e.on ≠ i) → oi.apart ops oj = true) →
      i ∈ Region.ready md ops b → YieldsM P ops C oi v a → anyM P md ops C Q f (b.setIfInBounds i true) (a.put oi.dst v) → anyM P md ops C Q (f + 1) b a := by
  induction f with
  | zero =>
    intro b a _ hr hy H
    refine ⟨fun h => absurd h (List.ne_nil_of_mem hr), fun j oj hj hoj => ?_⟩
    by_cases e : j = i
    · subst e
      obtain rfl : oj = oi := Option.some.inj (hoj.symm.trans hi)
      exact hy.mOp H
    · have := ready_mono hj e
      rw [H.1] at this
      cases this
  | succ f ih =>
    intro b a hap hr hy H
    refine ⟨fun h => absurd h (List.ne_nil_of_mem hr), fun j oj hj hoj => ?_⟩
    by_cases e : j = i
    · subst e
      obtain rfl : oj = oi := Option.some.inj (hoj.symm.trans hi)
      exact hy.mOp H
    · obtain ⟨hju, oj', hoj', hall⟩ := mem_ready.1 hj
      obtain rfl : oj' = oj := Option.some.inj (hoj'.symm.trans hoj)
      have hno : ∀ x ∈ oj'.after, Region.binds md x = true → x.on ≠ i := fun x hx hb h => by
        have h1 := hall x hx hb
        have h0 := (mem_ready.1 hr).1
        rw [h] at h1
        rcases Nat.lt_or_ge i b.size with h' | h'
        · simp [h'] at h0 h1; rw [h0] at h1; cases h1
        · simp [Array.getElem?_eq_none h'] at h1
      have hq := mOp_put (hap j oj' hoj e hju hno) (fun cs b => hsel i oi cs b hi) (fun cs b => hsel j oj' cs b hoj) hy (H.2 j oj' (ready_mono hj e) hoj)
      refine mOp_mono (fun a' h3 => ih _ a' (fun k ok hk hki hku hkn => hap k ok hk hki ?_ hkn) (ready_mono hr (Ne.symm e)) h3.1 ?_) hq
      · by_cases hjk : j = k
        · rw [← hjk]; exact hju
        · rwa [getD_set_ne true hjk] at hku
      · rw [Array.setIfInBounds_comm _ _ e]; exact h3.2
/-- the operations ks may come up in this order, each apart from those that do not wait for it -/
def lexIdx (md : Region.Mode) (ops : Array Oper) : List Nat → Array Bool → Bool
  | [], b => (Region.ready md ops b).isEmpty
  | k :: ks, b => (Region.ready md ops b).contains k && Region.free md ops b k && lexIdx md ops ks (b.setIfInBounds k true)
theorem anyM_lex {Q : Act → Prop} (hsel : Region.noSelect ops = true) : ∀ (ks : List Nat) (l : List Oper) (b : Array Bool) (a : Act), ks.map (fun k => ops[k]?) = l.map some → lexIdx md ops ks b = true → wpMild P ops C Q l a → anyM P md ops C Q ks.length b a
  | [], [], b, a, _, hB, h => ⟨by simpa [lexIdx] using hB, h⟩
  | [], _ :: _, _, _, hl, _, _ => by simp at hl
  | _ :: _, [], _, _, hl, _, _ => by simp at hl
  | k :: ks, o :: l, b, a, hl, hB, h => by
    simp only [List.map_cons, List.cons.injEq] at hl
    simp only [lexIdx, Bool.and_eq_true, List.contains_iff_mem] at hB
    have hm : mOp P ops C o (wpMild P ops C Q l) a := h
    obtain ⟨v, hy, hK⟩ := yieldsM_of hm
    exact anyM_first hl.1 (Region.noSelect_spec hsel) ks.length b a (Region.free_spec hl.1 hB.1.2) hB.1.1 hy (anyM_lex hsel ks l _ _ hl.2 hB.2 hK)

/-- what is carried out is what the walk says, a slot that the operation does not look at left aside -/
theorem mOp_real {Q : Exit → Act → World → Prop} {i : Nat} {o : Oper} (hi : ops[i]? = some o) (hs : ∀ cs b, o.op ≠ .select cs b) (x : Option Tmp) (u : Value) (h1 : ∀ d, x = some d → d ∉ o.looksAt ops) (h2 : ∀ d, x = some d → o.dst ≠ some d)
    {K : Act → Prop} {a : Act} {w : World} (hC : C w) (h : mOp P ops C o K a) : wpOp P ops Q i (fun a' w' => ∃ v, a' = (a.put o.dst v).put x u ∧ K (a.put o.dst v) ∧ Below w.heap.size w w') (a.put x u) w := by
  unfold wpOp
  simp only [hi]
  rw [wanted_put o a x u h1]
  unfold mOp at h
  by_cases hw : Region.wanted o (yielded ops a.tmps) = true
  · rw [if_pos hw] at h ⊢
    obtain ⟨v, hv, hK⟩ := h
    refine Or.inl ?_
    have hq := hv w hC
    unfold Oper.quietAt at hq
    unfold Oper.wp
    rw [execOp_put o hs a x u h1]
    generalize (execOp a.eval o).run P w = r at *
    cases r with
    | ok n w' =>
      cases n <;> simp only [Oper.quietUpon] at hq <;> simp only [Oper.upon]
      case value y =>
        obtain ⟨e1, e2⟩ := hq
        rw [e1, e2]
        exact ⟨v, Act.put_comm a u v h2, hK, Below.refl _ _⟩
      case skip =>
        obtain ⟨e1, e2⟩ := hq
        rw [e1]
        exact ⟨v, by rw [e2]; exact Act.put_comm a u undef h2, hK, Below.refl _ _⟩
      case enter f args =>
        obtain ⟨e1, hc⟩ := hq
        rw [e1]
        exact hc.mono fun e w'' ⟨he, hb⟩ => by subst he; exact ⟨v, Act.put_comm a u v h2, hK, hb⟩
    | halt y w' => simp only [Oper.quietUpon] at hq
  · rw [if_neg hw] at h ⊢
    exact ⟨undef, Act.put_comm a u undef h2, h, Below.refl _ _⟩
/-- every operation waits only for those in front of it -/
def backB (md : Region.Mode) (ops : Array Oper) : Bool := (List.range ops.size).all fun j => match ops[j]? with
  | some o => o.after.all fun e => !Region.binds md e || decide (e.on < j)
  | none => true
theorem all_listed {b : Array Bool} (hb : backB md ops = true) (hz : b.size = ops.size) (hr : Region.ready md ops b = []) (j : Nat) : j < ops.size → b.getD j true = true := by
  induction j using Nat.strongRecOn with
  | _ j ih =>
    intro hj
    by_cases hl : b.getD j true = true
    · exact hl
    · exfalso
      have hmem : j ∈ Region.ready md ops b := mem_ready.2 ⟨by simpa using hl, ops[j], Array.getElem?_eq_getElem hj, fun e he hbd => by
        have h1 := List.all_eq_true.1 hb j (List.mem_range.2 hj)
        rw [Array.getElem?_eq_getElem hj] at h1
        have h2 := Array.all_eq_true_iff_forall_mem.1 h1 e he
        simp only [hbd, Bool.not_true, Bool.false_or, decide_eq_true_eq] at h2
        have h3 := ih e.on h2 (by omega)
        simp only [Array.getD_eq_getD_getElem?] at h3 ⊢
        rw [Array.getElem?_eq_getElem (by omega)] at h3 ⊢
        exact h3⟩
      rw [hr] at hmem
      cases hmem

/-! ### The variable -/
/-- m makes the variable (slot d), s writes into it what slot e holds, which ke alone fills; nothing else looks at slot d -/
def varyB (md : Region.Mode) (ops : Array Oper) (m s ke d e : Nat) (ty : TypeId) : Bool :=
  Region.noSelect ops && backB md ops && decide (m ≠ s) && decide (ke ≠ m) && decide (ke ≠ s) && decide (d ≠ e) &&
  (match ops[m]? with
    | some o => (match o.op with | .alloc t => t == ty | _ => false) && o.dst == some d && o.guard.isNone
    | none => false) &&
  (match ops[s]? with
    | some o => (match o.op with | .store t (.tmp x) (.tmp y) => t == ty && x == d && y == e | _ => false) && o.dst.isNone && o.guard.isNone &&
        o.after.any (fun x => Region.binds md x && x.on == m) && o.after.any (fun x => Region.binds md x && x.on == ke)
    | none => false) &&
  ((List.range ops.size).all fun j => match ops[j]? with
    | some o => (j == m || j == s || (!(o.looksAt ops).contains d && o.dst != some d)) && (j == ke || o.dst != some e)
    | none => true)
structure VaryOk (md : Region.Mode) (ops : Array Oper) (m s ke d e : Nat) (ty : TypeId) : Prop where
  sel : Region.noSelect ops = true
  back : backB md ops = true
  ms : m ≠ s
  km : ke ≠ m
  kss : ke ≠ s
  de : d ≠ e
  om : ∃ o, ops[m]? = some o ∧ o.op = .alloc ty ∧ o.dst = some d ∧ o.guard = none
  os : ∃ o, ops[s]? = some o ∧ o.op = .store ty (.tmp d) (.tmp e) ∧ o.dst = none ∧ o.guard = none ∧ (∃ x ∈ o.after, Region.binds md x = true ∧ x.on = m) ∧ (∃ x ∈ o.after, Region.binds md x = true ∧ x.on = ke)
  off : ∀ j o, ops[j]? = some o → j ≠ m → j ≠ s → d ∉ o.looksAt ops ∧ o.dst ≠ some d
  only : ∀ j o, ops[j]? = some o → j ≠ ke → o.dst ≠ some e
theorem varyOk_of {md : Region.Mode} {ops : Array Oper} {m s ke d e : Nat} {ty : TypeId} (h : varyB md ops m s ke d e ty = true) : VaryOk md ops m s ke d e ty := by
  simp only [varyB, Bool.and_eq_true, decide_eq_true_eq] at h
  obtain ⟨⟨⟨⟨⟨⟨⟨⟨h1, h2⟩, h3⟩, h4⟩, h5⟩, h6⟩, h7⟩, h8⟩, h9⟩ := h
  have hall : ∀ j o, ops[j]? = some o → (j = m ∨ j = s ∨ (d ∉ o.looksAt ops ∧ o.dst ≠ some d)) ∧ (j = ke ∨ o.dst ≠ some e) := by
    intro j o hj
    have := List.all_eq_true.1 h9 j (List.mem_range.2 (Array.getElem?_eq_some_iff.1 hj).1)
    rw [hj] at this
    simpa [or_assoc] using this
  refine ⟨h1, h2, h3, h4, h5, h6, ?_, ?_, fun j o hj hm hs => ((hall j o hj).1.resolve_left hm).resolve_left hs, fun j o hj hk => (hall j o hj).2.resolve_left hk⟩
  · cases ho : ops[m]? with
    | none => rw [ho] at h7; cases h7
    | some o =>
      rw [ho] at h7
      simp only [Bool.and_eq_true, beq_iff_eq, Option.isNone_iff_eq_none] at h7
      refine ⟨o, rfl, ?_, h7.1.2, h7.2⟩
      have h10 := h7.1.1
      split at h10
      · rename_i t ht; rw [ht, beq_iff_eq.1 h10]
      · cases h10
  · cases ho : ops[s]? with
    | none => rw [ho] at h8; cases h8
    | some o =>
      rw [ho] at h8
      simp only [Bool.and_eq_true, Option.isNone_iff_eq_none] at h8
      obtain ⟨⟨⟨⟨h10, h11⟩, h12⟩, h13⟩, h14⟩ := h8
      refine ⟨o, rfl, ?_, h11, h12, ?_, ?_⟩
      · split at h10
        · rename_i t x y ht
          simp only [Bool.and_eq_true, beq_iff_eq] at h10
          rw [ht, h10.1.1, h10.1.2, h10.2]
        · cases h10
      · obtain ⟨x, hx, hb⟩ := Array.any_eq_true'.1 h13
        simp only [Bool.and_eq_true, beq_iff_eq] at hb
        exact ⟨x, hx, hb.1, hb.2⟩
      · obtain ⟨x, hx, hb⟩ := Array.any_eq_true'.1 h14
        simp only [Bool.and_eq_true, beq_iff_eq] at hb
        exact ⟨x, hx, hb.1, hb.2⟩
theorem un_false {b : Array Bool} {i : Nat} (h : b.getD i true = false) : b.getD i false = false := by
  rcases Nat.lt_or_ge i b.size with h' | h'
  · simp [h'] at h ⊢; exact h
  · simp [Array.getElem?_eq_none h'] at h
theorem rep_un (n i : Nat) (h : i < n) : (Array.replicate n false).getD i true = false := by
  rw [Array.getD_eq_getD_getElem?, Array.getElem?_replicate, if_pos h]
  rfl
theorem on_true {b : Array Bool} {i : Nat} (h : b.getD i false = true) : b.getD i true = true := by
  rcases Nat.lt_or_ge i b.size with h' | h'
  · simp [h'] at h ⊢; exact h
  · simp [Array.getElem?_eq_none h'] at h
theorem set_on {b : Array Bool} {i j : Nat} (h : b.getD j true = true) : (b.setIfInBounds i true).getD j true = true := by
  by_cases e : i = j
  · subst e
    rcases Nat.lt_or_ge i b.size with h' | h'
    · simp [h']
    · simp [Array.getElem?_eq_none h']
  · rw [getD_set_ne true e]; exact h
section
variable {P : Program} {md : Region.Mode} {ops : Array Oper} {m s ke d e : Nat} {ty : TypeId} {Z : Array Value} {Q : Exit → Act → World → Prop} {W : World}
def ptr (p : Nat) : Value := .pointer (some ⟨p, 0, none⟩)
/-- what the value must be like -/
def Fits (P : Program) (ty : TypeId) (Z cs : Array Value) : Prop := (P.info? ty).map (·.size) = some cs.size ∧ Z.size = cs.size ∧ cs.all (·.oneCell') = true
/-- what is asked at the end -/
def Ends (P : Program) (d e : Nat) (ty : TypeId) (Z : Array Value) (Q : Exit → Act → World → Prop) (W : World) (a : Act) : Prop :=
  ∃ cs, a.eval (.tmp e) = .agg cs ∧ Fits P ty Z cs ∧ ∀ p w', W.heap.size ≤ p → Below W.heap.size W w' → w'.heap[p]? = some (.cells cs ty (0, 0)) → Q .normal (a.put (some d) (ptr p)) w'
theorem fin_value (H : VaryOk md ops m s ke d e ty) {C : World → Prop} (f : Nat) : ∀ (b : Array Bool) (a : Act), anyM P md ops C (Ends P d e ty Z Q W) f b a → b.getD ke true = true → ∃ cs, a.eval (.tmp e) = .agg cs ∧ Fits P ty Z cs := by
  induction f with
  | zero => intro b a h _; obtain ⟨cs, h1, h2, -⟩ := h.2; exact ⟨cs, h1, h2⟩
  | succ f ih =>
    intro b a h hk
    by_cases hr : Region.ready md ops b = []
    · obtain ⟨cs, h1, h2, -⟩ := h.1 hr; exact ⟨cs, h1, h2⟩
    · obtain ⟨i, hi⟩ := List.exists_mem_of_ne_nil _ hr
      obtain ⟨hu, o, ho, -⟩ := mem_ready.1 hi
      have hik : i ≠ ke := fun x => by rw [x, hk] at hu; cases hu
      obtain ⟨v, -, hK⟩ := yieldsM_of (h.2 i o hi ho)
      obtain ⟨cs, h1, h2⟩ := ih _ _ hK (set_on hk)
      refine ⟨cs, ?_, h2⟩
      rw [← h1]
      exact (Act.eval_put fun x hx hxe => H.only i o ho hik (by rw [hx]; injection hxe with hxe; rw [hxe])).symm
theorem simD (H : VaryOk md ops m s ke d e ty) (p : Nat) (cs : Array Value) (hp : W.heap.size ≤ p) (F : Nat) : ∀ (b : Array Bool) (a : Act) (w : World), anyM P md ops (fun w' => Below W.heap.size W w') (Ends P d e ty Z Q W) F b a →
    b.getD m true = true → b.getD s true = true → b.getD ke true = true → a.eval (.tmp e) = .agg cs → Below W.heap.size W w → w.heap[p]? = some (.cells cs ty (0, 0)) → wpAny P md ops Q F b (a.put (some d) (ptr p)) w := by
  have fin : ∀ (a : Act) (w : World), Ends P d e ty Z Q W a → a.eval (.tmp e) = .agg cs → Below W.heap.size W w → w.heap[p]? = some (.cells cs ty (0, 0)) → Q .normal (a.put (some d) (ptr p)) w := by
    rintro a w ⟨cs', h1, -, h3⟩ he hb hg
    obtain rfl : cs' = cs := by rw [he] at h1; injection h1 with h1; exact h1.symm
    exact h3 p w hp hb hg
  induction F with
  | zero => intro b a w h _ _ _ he hb hg; exact ⟨h.1, fin a w h.2 he hb hg⟩
  | succ F ih =>
    intro b a w h hm hs hk he hb hg
    refine ⟨fun h0 => fin a w (h.1 h0) he hb hg, fun i hi => ?_⟩
    obtain ⟨hu, o, ho, -⟩ := mem_ready.1 hi
    have him : i ≠ m := fun x => by rw [x, hm] at hu; cases hu
    have his : i ≠ s := fun x => by rw [x, hs] at hu; cases hu
    have hik : i ≠ ke := fun x => by rw [x, hk] at hu; cases hu
    have ho2 := H.off i o ho him his
    refine wpOp_mono ?_ (mOp_real ho (fun cs b => Region.noSelect_spec H.sel i o cs b ho) (some d) (ptr p) (fun x hx => by injection hx with hx; rw [← hx]; exact ho2.1) (fun x hx => by injection hx with hx; rw [← hx]; exact ho2.2) hb (h.2 i o hi ho))
    rintro a' w' ⟨v, rfl, hK, hbw⟩
    refine ih _ _ _ hK (set_on hm) (set_on hs) (set_on hk) ?_ (hb.trans (hbw.mono hb.size)) ((hbw.block p (lt_of_row hg)).trans hg)
    rw [← he]
    exact Act.eval_put fun x hx hxe => H.only i o ho hik (by rw [hx]; injection hxe with hxe; rw [hxe])
theorem simZ (H : VaryOk md ops m s ke d e ty) (p : Nat) (hp : W.heap.size ≤ p) (f : Nat) : ∀ (b : Array Bool) (a : Act) (w : World), anyM P md ops (fun w' => Below W.heap.size W w') (Ends P d e ty Z Q W) f (b.setIfInBounds s true) a →
    b.getD m true = true → b.getD s true = false → b.size = ops.size → d < a.tmps.size → Below W.heap.size W w → w.heap[p]? = some (.cells Z ty (0, 0)) → wpAny P md ops Q (f + 1) b (a.put (some d) (ptr p)) w := by
  obtain ⟨os, hos, hop, hdst, hgd, hwm, hwk⟩ := H.os
  have hsz : s < ops.size := (Array.getElem?_eq_some_iff.1 hos).1
  induction f with
  | zero =>
    intro b a w h hm hs hbz hd hb hg
    refine ⟨fun h0 => absurd (all_listed H.back hbz h0 s hsz) (by rw [hs]; decide), fun i hi => ?_⟩
    by_cases e1 : i = s
    · subst e1
      obtain ⟨-, o, ho, hall⟩ := mem_ready.1 hi
      obtain rfl : o = os := Option.some.inj (ho.symm.trans hos)
      obtain ⟨x, hx, hxb, hxk⟩ := hwk
      have hkl := on_true (hxk ▸ hall x hx hxb)
      obtain ⟨cs, hcs, hf⟩ := fin_value H 0 _ _ h (set_on hkl)
      unfold wpOp
      simp only [hos]
      rw [if_pos (by unfold Region.wanted; rw [hgd])]
      refine Or.inl (wp_store_row ty _ _ hop p cs (Act.eval_put_same a d _ hd) ((Act.eval_put_ne a d e _ H.de).trans hcs) ty Z hg hf.1 hf.2.1 hf.2.2 ?_)
      rw [hdst]
      exact simD H p cs hp 0 _ _ _ h (set_on hm) (by simp [hbz, hsz]) (set_on hkl) hcs (hb.trans (below_setRow _ _ _ hp)) (setRow_heap _ _ _ _ _ _ hg)
    · have := ready_mono hi e1
      rw [h.1] at this
      cases this
  | succ f ih =>
    intro b a w h hm hs hbz hd hb hg
    refine ⟨fun h0 => absurd (all_listed H.back hbz h0 s hsz) (by rw [hs]; decide), fun i hi => ?_⟩
    by_cases e1 : i = s
    · subst e1
      obtain ⟨-, o, ho, hall⟩ := mem_ready.1 hi
      obtain rfl : o = os := Option.some.inj (ho.symm.trans hos)
      obtain ⟨x, hx, hxb, hxk⟩ := hwk
      have hkl := on_true (hxk ▸ hall x hx hxb)
      obtain ⟨cs, hcs, hf⟩ := fin_value H (f + 1) _ _ h (set_on hkl)
      unfold wpOp
      simp only [hos]
      rw [if_pos (by unfold Region.wanted; rw [hgd])]
      refine Or.inl (wp_store_row ty _ _ hop p cs (Act.eval_put_same a d _ hd) ((Act.eval_put_ne a d e _ H.de).trans hcs) ty Z hg hf.1 hf.2.1 hf.2.2 ?_)
      rw [hdst]
      exact simD H p cs hp (f + 1) _ _ _ h (set_on hm) (by simp [hbz, hsz]) (set_on hkl) hcs (hb.trans (below_setRow _ _ _ hp)) (setRow_heap _ _ _ _ _ _ hg)
    · obtain ⟨hu, o, ho, -⟩ := mem_ready.1 hi
      have him : i ≠ m := fun x => by rw [x, hm] at hu; cases hu
      have ho2 := H.off i o ho him e1
      refine wpOp_mono ?_ (mOp_real ho (fun cs b => Region.noSelect_spec H.sel i o cs b ho) (some d) (ptr p) (fun x hx => by injection hx with hx; rw [← hx]; exact ho2.1) (fun x hx => by injection hx with hx; rw [← hx]; exact ho2.2) hb (h.2 i o (ready_mono hi e1) ho))
      rintro a' w' ⟨v, rfl, hK, hbw⟩
      refine ih _ _ _ ?_ (set_on hm) (by rw [getD_set_ne true e1]; exact hs) (by simpa using hbz) (by rw [Act.size_put]; exact hd) (hb.trans (hbw.mono hb.size)) ((hbw.block p (lt_of_row hg)).trans hg)
      rw [Array.setIfInBounds_comm _ _ e1]
      exact hK
theorem sim0 (H : VaryOk md ops m s ke d e ty) (HA : ∀ (ρ : Operand → Value) (o : Oper) (w : World), o.op = .alloc ty → (execOp ρ o).run P w = .ok (.value (ptr w.heap.size)) (w.alloc (.cells Z ty))) (f : Nat) : ∀ (b : Array Bool) (a : Act) (w : World),
    anyM P md ops (fun w' => Below W.heap.size W w') (Ends P d e ty Z Q W) f ((b.setIfInBounds m true).setIfInBounds s true) a →
    b.getD m true = false → b.getD s true = false → b.size = ops.size → d < a.tmps.size → Below W.heap.size W w → wpAny P md ops Q (f + 2) b a w := by
  obtain ⟨om, hom, hop, hdst, hgd⟩ := H.om
  have hmz : m < ops.size := (Array.getElem?_eq_some_iff.1 hom).1
  induction f with
  | zero =>
    intro b a w h hm hs hbz hd hb
    refine ⟨fun h0 => absurd (all_listed H.back hbz h0 m hmz) (by rw [hm]; decide), fun i hi => ?_⟩
    by_cases e1 : i = m
    · subst e1
      unfold wpOp
      simp only [hom]
      rw [if_pos (by unfold Region.wanted; rw [hgd])]
      refine Or.inl ?_
      unfold Oper.wp
      rw [HA _ om w hop]
      simp only [Oper.upon, hdst]
      exact simZ H w.heap.size hb.size 0 _ _ _ h (by simp [hbz, hmz]) (by rw [getD_set_ne true H.ms]; exact hs) (by simpa using hbz) hd (hb.alloc hb.size _) (heap_at _ _ _ rfl)
    · by_cases e2 : i = s
      · subst e2
        obtain ⟨os, hos, -, -, -, ⟨x, hx, hxb, hxm⟩, -⟩ := H.os
        obtain ⟨-, o, ho, hall⟩ := mem_ready.1 hi
        obtain rfl : o = os := Option.some.inj (ho.symm.trans hos)
        have h1 := hall x hx hxb
        rw [hxm, un_false hm] at h1
        cases h1
      · have := ready_mono (ready_mono hi e1) e2
        rw [h.1] at this
        cases this
  | succ f ih =>
    intro b a w h hm hs hbz hd hb
    refine ⟨fun h0 => absurd (all_listed H.back hbz h0 m hmz) (by rw [hm]; decide), fun i hi => ?_⟩
    by_cases e1 : i = m
    · subst e1
      unfold wpOp
      simp only [hom]
      rw [if_pos (by unfold Region.wanted; rw [hgd])]
      refine Or.inl ?_
      unfold Oper.wp
      rw [HA _ om w hop]
      simp only [Oper.upon, hdst]
      exact simZ H w.heap.size hb.size (f + 1) _ _ _ h (by simp [hbz, hmz]) (by rw [getD_set_ne true H.ms]; exact hs) (by simpa using hbz) hd (hb.alloc hb.size _) (heap_at _ _ _ rfl)
    · by_cases e2 : i = s
      · subst e2
        obtain ⟨os, hos, -, -, -, ⟨x, hx, hxb, hxm⟩, -⟩ := H.os
        obtain ⟨-, o, ho, hall⟩ := mem_ready.1 hi
        obtain rfl : o = os := Option.some.inj (ho.symm.trans hos)
        have h1 := hall x hx hxb
        rw [hxm, un_false hm] at h1
        cases h1
      · obtain ⟨hu, o, ho, -⟩ := mem_ready.1 hi
        refine wpOp_mono ?_ (mOp_real (a := a) ho (fun cs b => Region.noSelect_spec H.sel i o cs b ho) none undef (fun x hx => by cases hx) (fun x hx => by cases hx) hb (h.2 i o (ready_mono (ready_mono hi e1) e2) ho))
        rintro a' w' ⟨v, rfl, hK, hbw⟩
        refine ih _ _ _ ?_ (by rw [getD_set_ne true e1]; exact hm) (by rw [getD_set_ne true e2]; exact hs) (by simpa using hbz) (by rw [Act.size_put, Act.size_put]; exact hd) (hb.trans (hbw.mono hb.size))
        rw [Array.setIfInBounds_comm _ _ e1, Array.setIfInBounds_comm _ _ e2]
        exact hK
end
/-- THE REGION: m the allocation (slot d), s the store of slot e, which ke fills; ks the other operations' places, l' themselves -/
theorem region_vary {P : Program} {id : Nat} {Q : Exit → Act → World → Prop} {a : Act} {w : World} {l : List Oper} (m s ke d e : Nat) (ty : TypeId) (Z : Array Value) (ks : List Nat) (l' : List Oper) (hm : P.follows .mixedOrders = true)
    (hB : varyB .any l.toArray m s ke d e ty = true) (hk : ks.map (fun k => l.toArray[k]?) = l'.map some) (hx : lexIdx .any l.toArray ks (((Array.replicate l.toArray.size false).setIfInBounds m true).setIfInBounds s true) = true) (hn : ks.length + 2 = l.toArray.size)
    (HA : ∀ (ρ : Operand → Value) (o : Oper) (w : World), o.op = .alloc ty → (execOp ρ o).run P w = .ok (.value (ptr w.heap.size)) (w.alloc (.cells Z ty))) (hd : d < a.tmps.size)
    (h : ∀ ops : Array Oper, Away (l.toArray = ops) → wpMild P ops (fun w' => Below w.heap.size w w') (Ends P d e ty Z Q w) l' a) : (Code.region id l.toArray true).wp P Q a w := by
  have H := varyOk_of hB
  have hms : m < l.toArray.size := by obtain ⟨o, ho, -⟩ := H.om; exact (Array.getElem?_eq_some_iff.1 ho).1
  have hss : s < l.toArray.size := by obtain ⟨o, ho, -⟩ := H.os; exact (Array.getElem?_eq_some_iff.1 ho).1
  have h1 := anyM_lex (md := .any) H.sel ks l' _ a hk hx (h _ ⟨rfl⟩)
  have h2 := sim0 H HA ks.length (Array.replicate l.toArray.size false) a w.drew h1 (rep_un _ _ hms) (rep_un _ _ hss) (by simp) hd (Below.refl _ _).drew
  rw [hn] at h2
  exact wp_region_any hm h2
/-- .. with the other operations in the order of the text (m stands ahead of s) -/
theorem region_vary_lit {P : Program} {id : Nat} {Q : Exit → Act → World → Prop} {a : Act} {w : World} {l : List Oper} (m s ke d e : Nat) (ty : TypeId) (Z : Array Value) (hm : P.follows .mixedOrders = true)
    (hB : varyB .any l.toArray m s ke d e ty = true) (hk : (((List.range l.length).eraseIdx s).eraseIdx m).map (fun k => l.toArray[k]?) = ((l.eraseIdx s).eraseIdx m).map some)
    (hx : lexIdx .any l.toArray (((List.range l.length).eraseIdx s).eraseIdx m) (((Array.replicate l.toArray.size false).setIfInBounds m true).setIfInBounds s true) = true) (hn : (((List.range l.length).eraseIdx s).eraseIdx m).length + 2 = l.toArray.size)
    (HA : ∀ (ρ : Operand → Value) (o : Oper) (w : World), o.op = .alloc ty → (execOp ρ o).run P w = .ok (.value (ptr w.heap.size)) (w.alloc (.cells Z ty))) (hd : d < a.tmps.size)
    (h : ∀ ops : Array Oper, Away (l.toArray = ops) → wpMild P ops (fun w' => Below w.heap.size w w') (Ends P d e ty Z Q w) ((l.eraseIdx s).eraseIdx m) a) : (Code.region id l.toArray true).wp P Q a w :=
  region_vary m s ke d e ty Z _ _ hm hB hk hx hn HA hd h
/-- one operation at a time -/
theorem wpMild_step {P : Program} {ops : Array Oper} {C : World → Prop} {Q : Act → Prop} {a : Act} {o : Oper} {rest : List Oper} (hw : Region.wanted o (yielded ops a.tmps) = true)
    (h : ∀ K : Act → Prop, (∀ a, wpMild P ops C Q rest a → K a) → ∃ v, (∀ w, C w → o.quietAt P a (fun w' => Below w.heap.size w w') w v) ∧ K (a.put o.dst v)) : wpMild P ops C Q (o :: rest) a := by
  unfold wpMild
  rw [if_pos hw]
  exact h _ fun _ h => h
theorem wpMild_pure {P : Program} {ops : Array Oper} {C : World → Prop} {Q : Act → Prop} {a : Act} {o : Oper} {rest : List Oper} (hw : Region.wanted o (yielded ops a.tmps) = true) (v : Value)
    (hv : ∀ w, C w → (execOp a.eval o).run P w = .ok (.value v) w) (h : wpMild P ops C Q rest (a.put o.dst v)) : wpMild P ops C Q (o :: rest) a :=
  wpMild_step hw fun K hK => ⟨v, fun w hC => by unfold Oper.quietAt; rw [hv w hC]; exact ⟨rfl, rfl⟩, hK _ h⟩
theorem wpMild_load {P : Program} {ops : Array Oper} {C : World → Prop} {Q : Act → Prop} {rest : List Oper} {o : Oper} {a : Act} (hw : Region.wanted o (yielded ops a.tmps) = true) (ty : TypeId) (x : Operand) (ho : o.op = .load ty x)
    (g : Nat) (hx : a.eval x = .pointer (some ⟨g, 0, none⟩)) (t : TypeId) (cs : Array Value) (d : TypeDesc) (hS : ∀ w, C w → w.heap[g]? = some (.cells cs t (0, 0)))
    (hu : P.underlying ty = some d) (hd : (match d with | .struct _ | .array _ _ => true | _ => false) = true) (hi : (P.info? ty).map (·.size) = some cs.size)
    (h : wpMild P ops C Q rest (a.put o.dst (.agg cs))) : wpMild P ops C Q (o :: rest) a :=
  wpMild_pure hw (.agg cs) (fun w hC => by
    unfold execOp
    simp only [ho, hx, Instr.loadAt, Instr.sureAddr, Sem.run_bind, Sem.run_pure, Result.andThen_ok, run_loadVar_row w g t ty cs (0, 0) d (hS w hC) hu hd hi]) h
end
end Go.Proofs.YtmmdjmiekodolaaDoor.vary
