/-
  A region that draws its order and makes several variables for results ('x, y := f(..), g(..)' with structs or arrays): the allocations may come at any time, so that no variable's address is known; all else is walked once, in the order of the text. No program is named here. Conditions: as each theorem says.
-/
import Derived.Test.YtmmdjmiekodolaaDoorVr
namespace Go.Proofs.YtmmdjmiekodolaaDoor.varyn
set_option linter.unusedSimpArgs false
set_option linter.unusedVariables false
open Go Go.RowKit
open Go.Proofs.YtmmdjmiekodolaaDoor.arr Go.Proofs.YtmmdjmiekodolaaDoor.mem Go.Proofs.YtmmdjmiekodolaaDoor.vary

/-- a variable: m makes it (slot d), s writes into it what slot e holds, which ke alone fills -/
structure Vr where
  m : Nat
  s : Nat
  ke : Nat
  d : Nat
  e : Nat
  ty : TypeId
  Z : Array Value

section
variable {P : Program} {md : Region.Mode} {ops : Array Oper} {Q : Exit → Act → World → Prop} {W : World} {V : List Vr}
def puts (V : List Vr) (ps : Nat → Option Nat) (a : Act) : Act := V.foldr (fun v a => match ps v.d with | some p => a.put (some v.d) (ptr p) | none => a) a
def upd (ps : Nat → Option Nat) (d p : Nat) : Nat → Option Nat := fun x => if x = d then some p else ps x
theorem puts_none (a : Act) : puts V (fun _ => none) a = a := by
  induction V with
  | nil => rfl
  | cons v V ih => show (match (none : Option Nat) with | some p => (puts V (fun _ => none) a).put (some v.d) (ptr p) | none => puts V (fun _ => none) a) = a; exact ih
theorem puts_out (ps : Nat → Option Nat) (d p : Nat) (a : Act) (h : ∀ v ∈ V, v.d ≠ d) : puts V (upd ps d p) a = puts V ps a := by
  induction V with
  | nil => rfl
  | cons v V ih =>
    have e : upd ps d p v.d = ps v.d := if_neg (h v (by simp))
    have ih := ih fun u hu => h u (by simp [hu])
    show (match upd ps d p v.d with | some q => (puts V (upd ps d p) a).put (some v.d) (ptr q) | none => puts V (upd ps d p) a) = _
    rw [e, ih]
    rfl
theorem puts_upd (ps : Nat → Option Nat) (v : Vr) (p : Nat) (a : Act) (hv : v ∈ V) (hn : (V.map (·.d)).Nodup) (hp : ps v.d = none) : puts V (upd ps v.d p) a = (puts V ps a).put (some v.d) (ptr p) := by
  induction V with
  | nil => cases hv
  | cons u V ih =>
    simp only [List.map_cons, List.nodup_cons] at hn
    show (match upd ps v.d p u.d with | some q => (puts V (upd ps v.d p) a).put (some u.d) (ptr q) | none => puts V (upd ps v.d p) a) = (match ps u.d with | some q => (puts V ps a).put (some u.d) (ptr q) | none => puts V ps a).put (some v.d) (ptr p)
    by_cases e : u.d = v.d
    · have e1 : upd ps v.d p u.d = some p := if_pos e
      rw [e1, e, hp, puts_out ps v.d p a (fun x hx hxe => hn.1 (by rw [e, ← hxe]; exact List.mem_map_of_mem hx))]
    · have e1 : upd ps v.d p u.d = ps u.d := if_neg e
      have hv' : v ∈ V := by
        rcases List.mem_cons.1 hv with h | h
        · subst h; exact absurd rfl e
        · exact h
      rw [e1, ih hv' hn.2]
      cases ps u.d with
      | none => rfl
      | some q => exact Act.put_comm _ _ _ (fun d hd => by injection hd with hd; rw [← hd]; intro x; injection x with x; exact e x)
theorem puts_put (ps : Nat → Option Nat) (a : Act) (x : Option Tmp) (y : Value) (h : ∀ v ∈ V, x ≠ some v.d) : puts V ps (a.put x y) = (puts V ps a).put x y := by
  induction V with
  | nil => rfl
  | cons v V ih =>
    have ih := ih fun u hu => h u (by simp [hu])
    show (match ps v.d with | some p => (puts V ps (a.put x y)).put (some v.d) (ptr p) | none => puts V ps (a.put x y)) = (match ps v.d with | some p => (puts V ps a).put (some v.d) (ptr p) | none => puts V ps a).put x y
    rw [ih]
    cases ps v.d with
    | none => rfl
    | some q => exact Act.put_comm _ _ _ (fun d hd => by rw [← hd]; exact fun e => h v (by simp) e.symm)
theorem puts_size (ps : Nat → Option Nat) (a : Act) : (puts V ps a).tmps.size = a.tmps.size := by
  induction V with
  | nil => rfl
  | cons v V ih =>
    show (match ps v.d with | some p => (puts V ps a).put (some v.d) (ptr p) | none => puts V ps a).tmps.size = _
    cases ps v.d with
    | none => exact ih
    | some q => rw [Act.size_put]; exact ih
theorem puts_eval (ps : Nat → Option Nat) (a : Act) (e : Nat) (h : ∀ v ∈ V, v.d ≠ e) : (puts V ps a).eval (.tmp e) = a.eval (.tmp e) := by
  induction V with
  | nil => rfl
  | cons v V ih =>
    have ih := ih fun u hu => h u (by simp [hu])
    show (match ps v.d with | some p => (puts V ps a).put (some v.d) (ptr p) | none => puts V ps a).eval (.tmp e) = _
    cases ps v.d with
    | none => exact ih
    | some q => exact (Act.eval_put_ne _ _ _ _ (h v (by simp))).trans ih
theorem puts_eval_at (ps : Nat → Option Nat) (a : Act) (v : Vr) (p : Nat) (hv : v ∈ V) (hn : (V.map (·.d)).Nodup) (hp : ps v.d = some p) (hd : v.d < a.tmps.size) : (puts V ps a).eval (.tmp v.d) = ptr p := by
  induction V with
  | nil => cases hv
  | cons u V ih =>
    simp only [List.map_cons, List.nodup_cons] at hn
    show (match ps u.d with | some p => (puts V ps a).put (some u.d) (ptr p) | none => puts V ps a).eval (.tmp v.d) = _
    by_cases e : u.d = v.d
    · rw [e, hp]
      exact Act.eval_put_same _ _ _ (by rw [puts_size]; exact hd)
    · have hv' : v ∈ V := by
        rcases List.mem_cons.1 hv with h | h
        · subst h; exact absurd rfl e
        · exact h
      have ih := ih hv' hn.2
      cases ps u.d with
      | none => exact ih
      | some q => exact (Act.eval_put_ne _ _ _ _ e).trans ih
theorem puts_exec (o : Oper) (hs : ∀ cs b, o.op ≠ .select cs b) (ps : Nat → Option Nat) (a : Act) (h : ∀ v ∈ V, v.d ∉ o.looksAt ops) : execOp (puts V ps a).eval o = execOp a.eval o := by
  induction V with
  | nil => rfl
  | cons v V ih =>
    have ih := ih fun u hu => h u (by simp [hu])
    show execOp (match ps v.d with | some p => (puts V ps a).put (some v.d) (ptr p) | none => puts V ps a).eval o = _
    cases ps v.d with
    | none => exact ih
    | some q => exact (execOp_put o hs _ _ _ (fun d hd => by injection hd with hd; rw [← hd]; exact h v (by simp))).trans ih
theorem puts_wanted (o : Oper) (ps : Nat → Option Nat) (a : Act) (h : ∀ v ∈ V, v.d ∉ o.looksAt ops) : Region.wanted o (yielded ops (puts V ps a).tmps) = Region.wanted o (yielded ops a.tmps) := by
  induction V with
  | nil => rfl
  | cons v V ih =>
    have ih := ih fun u hu => h u (by simp [hu])
    show Region.wanted o (yielded ops (match ps v.d with | some p => (puts V ps a).put (some v.d) (ptr p) | none => puts V ps a).tmps) = _
    cases ps v.d with
    | none => exact ih
    | some q => exact (wanted_put o _ _ _ (fun d hd => by injection hd with hd; rw [← hd]; exact h v (by simp))).trans ih

/-- what is carried out is what the walk says, the variables' slots left aside -/
theorem mOp_reals {C : World → Prop} {i : Nat} {o : Oper} (hi : ops[i]? = some o) (hs : ∀ cs b, o.op ≠ .select cs b) (ps : Nat → Option Nat) (h1 : ∀ v ∈ V, v.d ∉ o.looksAt ops) (h2 : ∀ v ∈ V, o.dst ≠ some v.d)
    {K : Act → Prop} {a : Act} {w : World} (hC : C w) (h : mOp P ops C o K a) : wpOp P ops Q i (fun a' w' => ∃ x, a' = puts V ps (a.put o.dst x) ∧ K (a.put o.dst x) ∧ Below w.heap.size w w') (puts V ps a) w := by
  unfold wpOp
  simp only [hi]
  rw [puts_wanted o ps a h1]
  unfold mOp at h
  by_cases hw : Region.wanted o (yielded ops a.tmps) = true
  · rw [if_pos hw] at h ⊢
    obtain ⟨v, hv, hK⟩ := h
    refine Or.inl ?_
    have hq := hv w hC
    unfold Oper.quietAt at hq
    unfold Oper.wp
    rw [puts_exec o hs ps a h1]
    generalize (execOp a.eval o).run P w = r at *
    cases r with
    | ok n w' =>
      cases n <;> simp only [Oper.quietUpon] at hq <;> simp only [Oper.upon]
      case value y =>
        obtain ⟨e1, e2⟩ := hq
        rw [e1, e2]
        exact ⟨v, (puts_put ps a _ _ h2).symm, hK, Below.refl _ _⟩
      case skip =>
        obtain ⟨e1, e2⟩ := hq
        rw [e1]
        exact ⟨v, by rw [e2]; exact (puts_put ps a _ _ h2).symm, hK, Below.refl _ _⟩
      case enter f args =>
        obtain ⟨e1, hc⟩ := hq
        rw [e1]
        exact hc.mono fun e w'' ⟨he, hb⟩ => by subst he; exact ⟨v, (puts_put ps a _ _ h2).symm, hK, hb⟩
    | halt y w' => simp only [Oper.quietUpon] at hq
  · rw [if_neg hw] at h ⊢
    exact ⟨undef, (puts_put ps a _ _ h2).symm, h, Below.refl _ _⟩

/-! ### The region's form -/
def varyNB (md : Region.Mode) (ops : Array Oper) (V : List Vr) : Bool :=
  Region.noSelect ops && backB md ops && decide ((V.map (·.d)).Nodup) && decide ((V.map (·.m)).Nodup) && decide ((V.map (·.s)).Nodup) &&
  (V.all fun v => V.all fun u => decide (v.m ≠ u.s) && decide (v.ke ≠ u.m) && decide (v.ke ≠ u.s) && decide (v.d ≠ u.e)) &&
  (V.all fun v => match ops[v.m]? with
    | some o => (match o.op with | .alloc t => t == v.ty | _ => false) && o.dst == some v.d && o.guard.isNone
    | none => false) &&
  (V.all fun v => match ops[v.s]? with
    | some o => (match o.op with | .store t (.tmp x) (.tmp y) => t == v.ty && x == v.d && y == v.e | _ => false) && o.dst.isNone && o.guard.isNone &&
        o.after.any (fun x => Region.binds md x && x.on == v.m) && o.after.any (fun x => Region.binds md x && x.on == v.ke)
    | none => false) &&
  ((List.range ops.size).all fun j => match ops[j]? with
    | some o => ((V.any fun v => j == v.m || j == v.s) || (V.all fun v => !(o.looksAt ops).contains v.d && o.dst != some v.d)) && (V.all fun v => j == v.ke || o.dst != some v.e)
    | none => true)
structure VN (md : Region.Mode) (ops : Array Oper) (V : List Vr) : Prop where
  sel : Region.noSelect ops = true
  back : backB md ops = true
  nd : (V.map (·.d)).Nodup
  nm : (V.map (·.m)).Nodup
  ns : (V.map (·.s)).Nodup
  ms : ∀ v ∈ V, ∀ u ∈ V, v.m ≠ u.s ∧ v.ke ≠ u.m ∧ v.ke ≠ u.s ∧ v.d ≠ u.e
  om : ∀ v ∈ V, ∃ o, ops[v.m]? = some o ∧ o.op = .alloc v.ty ∧ o.dst = some v.d ∧ o.guard = none
  os : ∀ v ∈ V, ∃ o, ops[v.s]? = some o ∧ o.op = .store v.ty (.tmp v.d) (.tmp v.e) ∧ o.dst = none ∧ o.guard = none ∧ (∃ x ∈ o.after, Region.binds md x = true ∧ x.on = v.m) ∧ (∃ x ∈ o.after, Region.binds md x = true ∧ x.on = v.ke)
  off : ∀ j o, ops[j]? = some o → (∀ v ∈ V, j ≠ v.m ∧ j ≠ v.s) → ∀ v ∈ V, v.d ∉ o.looksAt ops ∧ o.dst ≠ some v.d
  only : ∀ j o, ops[j]? = some o → ∀ v ∈ V, j ≠ v.ke → o.dst ≠ some v.e
theorem vn_of (h : varyNB md ops V = true) : VN md ops V := by
  simp only [varyNB, Bool.and_eq_true, decide_eq_true_eq] at h
  obtain ⟨⟨⟨⟨⟨⟨⟨⟨h1, h2⟩, h3⟩, h4⟩, h5⟩, h6⟩, h7⟩, h8⟩, h9⟩ := h
  have hall : ∀ j o, ops[j]? = some o → ((∃ v ∈ V, j = v.m ∨ j = v.s) ∨ (∀ v ∈ V, v.d ∉ o.looksAt ops ∧ o.dst ≠ some v.d)) ∧ (∀ v ∈ V, j = v.ke ∨ o.dst ≠ some v.e) := by
    intro j o hj
    have := List.all_eq_true.1 h9 j (List.mem_range.2 (Array.getElem?_eq_some_iff.1 hj).1)
    rw [hj] at this
    simpa using this
  refine ⟨h1, h2, h3, h4, h5, fun v hv u hu => ?_, fun v hv => ?_, fun v hv => ?_, fun j o hj hm v hv => ?_, fun j o hj v hv hk => ((hall j o hj).2 v hv).resolve_left hk⟩
  · have := List.all_eq_true.1 (List.all_eq_true.1 h6 v hv) u hu
    simp only [Bool.and_eq_true, decide_eq_true_eq] at this
    exact ⟨this.1.1.1, this.1.1.2, this.1.2, this.2⟩
  · have h7 := List.all_eq_true.1 h7 v hv
    cases ho : ops[v.m]? with
    | none => rw [ho] at h7; cases h7
    | some o =>
      rw [ho] at h7
      simp only [Bool.and_eq_true, beq_iff_eq, Option.isNone_iff_eq_none] at h7
      refine ⟨o, rfl, ?_, h7.1.2, h7.2⟩
      have h10 := h7.1.1
      split at h10
      · rename_i t ht; rw [ht, beq_iff_eq.1 h10]
      · cases h10
  · have h8 := List.all_eq_true.1 h8 v hv
    cases ho : ops[v.s]? with
    | none => rw [ho] at h8; cases h8
    | some o =>
      rw [ho] at h8
      simp only [Bool.and_eq_true, Option.isNone_iff_eq_none] at h8
      obtain ⟨⟨⟨⟨h10, h11⟩, h12⟩, h13⟩, h14⟩ := h8
      refine ⟨o, rfl, ?_, h11, h12, ?_, ?_⟩
      · split at h10
        · rename_i t x y ht
          simp only [Bool.and_eq_true, beq_iff_eq] at h10
          rw [ht, h10.1.1, h10.1.2, h10.2]
        · cases h10
      · obtain ⟨x, hx, hb⟩ := Array.any_eq_true'.1 h13
        simp only [Bool.and_eq_true, beq_iff_eq] at hb
        exact ⟨x, hx, hb.1, hb.2⟩
      · obtain ⟨x, hx, hb⟩ := Array.any_eq_true'.1 h14
        simp only [Bool.and_eq_true, beq_iff_eq] at hb
        exact ⟨x, hx, hb.1, hb.2⟩
  · rcases (hall j o hj).1 with ⟨u, hu, h | h⟩ | h
    · exact absurd h (hm u hu).1
    · exact absurd h (hm u hu).2
    · exact h v hv
theorem by_key {k : Vr → Nat} (h : (V.map k).Nodup) : ∀ u ∈ V, ∀ v ∈ V, k u = k v → u = v := by
  induction V with
  | nil => intro u hu; cases hu
  | cons x V ih =>
    simp only [List.map_cons, List.nodup_cons] at h
    intro u hu v hv e
    rcases List.mem_cons.1 hu with rfl | hu' <;> rcases List.mem_cons.1 hv with rfl | hv'
    · rfl
    · exact absurd (e ▸ List.mem_map_of_mem hv') h.1
    · exact absurd (e ▸ List.mem_map_of_mem hu') h.1
    · exact ih h.2 u hu' v hv' e

/-! ### Which operations are through -/
def marks (V : List Vr) (b : Array Bool) : Array Bool := V.foldr (fun v b => (b.setIfInBounds v.m true).setIfInBounds v.s true) b
theorem set_comm (b : Array Bool) (i j : Nat) : (b.setIfInBounds i true).setIfInBounds j true = (b.setIfInBounds j true).setIfInBounds i true := by
  by_cases e : i = j
  · subst e; rfl
  · exact Array.setIfInBounds_comm _ _ e
theorem marks_set (b : Array Bool) (i : Nat) : marks V (b.setIfInBounds i true) = (marks V b).setIfInBounds i true := by
  induction V with
  | nil => rfl
  | cons v V ih =>
    show ((marks V (b.setIfInBounds i true)).setIfInBounds v.m true).setIfInBounds v.s true = (((marks V b).setIfInBounds v.m true).setIfInBounds v.s true).setIfInBounds i true
    rw [ih, set_comm _ i v.m, set_comm _ i v.s]
theorem marks_on {b : Array Bool} {j : Nat} (h : b.getD j true = true) : (marks V b).getD j true = true := by
  induction V with
  | nil => exact h
  | cons v V ih => exact set_on (set_on ih)
theorem set_at (b : Array Bool) (i : Nat) : (b.setIfInBounds i true).getD i true = true := by
  rcases Nat.lt_or_ge i b.size with h' | h'
  · simp [h']
  · simp [Array.getElem?_eq_none h']
theorem marks_at {b : Array Bool} {v : Vr} (hv : v ∈ V) : (marks V b).getD v.m true = true ∧ (marks V b).getD v.s true = true := by
  induction V with
  | nil => cases hv
  | cons u V ih =>
    rcases List.mem_cons.1 hv with rfl | hv'
    · exact ⟨set_on (set_at _ _), set_at _ _⟩
    · exact ⟨set_on (set_on (ih hv').1), set_on (set_on (ih hv').2)⟩
theorem set_same {b : Array Bool} {i : Nat} (h : b.getD i true = true) : b.setIfInBounds i true = b := by
  apply Array.ext (by simp)
  intro j h1 h2
  rw [Array.getElem_setIfInBounds]
  split
  · rename_i e; subst e; simp [h2] at h; exact h.symm
  · rfl
theorem marks_ready {b : Array Bool} {i : Nat} (hi : i ∈ Region.ready md ops b) (h : ∀ v ∈ V, i ≠ v.m ∧ i ≠ v.s) : i ∈ Region.ready md ops (marks V b) := by
  induction V with
  | nil => exact hi
  | cons v V ih => exact ready_mono (ready_mono (ih fun u hu => h u (by simp [hu])) (h v (by simp)).1) (h v (by simp)).2
theorem none_ready {b : Array Bool} (h : ∀ j, j < ops.size → b.getD j true = true) : Region.ready md ops b = [] := by
  apply List.eq_nil_iff_forall_not_mem.2
  intro i hi
  obtain ⟨hu, o, ho, -⟩ := mem_ready.1 hi
  rw [h i (Array.getElem?_eq_some_iff.1 ho).1] at hu
  cases hu
theorem countP_le {p q : Vr → Bool} (h : ∀ x, q x = true → p x = true) : V.countP q ≤ V.countP p := List.countP_mono_left fun x _ => h x
theorem countP_lt {p q : Vr → Bool} (h : ∀ x, q x = true → p x = true) {v : Vr} (hv : v ∈ V) (hp : p v = true) (hq : q v = false) : V.countP q + 1 ≤ V.countP p := by
  induction V with
  | nil => cases hv
  | cons u V ih =>
    rw [List.countP_cons, List.countP_cons]
    rcases List.mem_cons.1 hv with rfl | hv'
    · have := countP_le (V := V) h
      rw [hp, hq]
      simp
      omega
    · have := ih hv'
      by_cases hqu : q u = true
      · rw [hqu, h u hqu]; simp; omega
      · rw [if_neg hqu]; omega
/-- how many allocations and stores are still to come -/
def cnt (V : List Vr) (b : Array Bool) : Nat := V.countP (fun v => !b.getD v.m true) + V.countP (fun v => !b.getD v.s true)
theorem un_set {b : Array Bool} {i j : Nat} (h : (b.setIfInBounds i true).getD j true = false) : b.getD j true = false := by
  cases h2 : b.getD j true with
  | false => rfl
  | true => rw [set_on h2] at h; cases h
theorem cnt_le (b : Array Bool) (i : Nat) : cnt V (b.setIfInBounds i true) ≤ cnt V b :=
  Nat.add_le_add (countP_le fun x hx => by simp only [Bool.not_eq_true'] at hx ⊢; exact un_set hx) (countP_le fun x hx => by simp only [Bool.not_eq_true'] at hx ⊢; exact un_set hx)
theorem cnt_m {b : Array Bool} {v : Vr} (hv : v ∈ V) (h : b.getD v.m true = false) : cnt V (b.setIfInBounds v.m true) + 1 ≤ cnt V b := by
  have h1 := countP_lt (V := V) (p := fun v => !b.getD v.m true) (q := fun u => !(b.setIfInBounds v.m true).getD u.m true) (fun x hx => by simp only [Bool.not_eq_true'] at hx ⊢; exact un_set hx) hv (by simp only [h]; rfl) (by simp only [set_at]; rfl)
  have h2 := countP_le (V := V) (p := fun v => !b.getD v.s true) (q := fun u => !(b.setIfInBounds v.m true).getD u.s true) (fun x hx => by simp only [Bool.not_eq_true'] at hx ⊢; exact un_set hx)
  unfold cnt
  omega
theorem cnt_s {b : Array Bool} {v : Vr} (hv : v ∈ V) (h : b.getD v.s true = false) : cnt V (b.setIfInBounds v.s true) + 1 ≤ cnt V b := by
  have h1 := countP_lt (V := V) (p := fun v => !b.getD v.s true) (q := fun u => !(b.setIfInBounds v.s true).getD u.s true) (fun x hx => by simp only [Bool.not_eq_true'] at hx ⊢; exact un_set hx) hv (by simp only [h]; rfl) (by simp only [set_at]; rfl)
  have h2 := countP_le (V := V) (p := fun v => !b.getD v.m true) (q := fun u => !(b.setIfInBounds v.s true).getD u.m true) (fun x hx => by simp only [Bool.not_eq_true'] at hx ⊢; exact un_set hx)
  unfold cnt
  omega

/-! ### The region -/
/-- what is asked at the end -/
def EndsN (P : Program) (V : List Vr) (Q : Exit → Act → World → Prop) (W : World) (a : Act) : Prop :=
  (∀ v ∈ V, ∃ cs, a.eval (.tmp v.e) = .agg cs ∧ Fits P v.ty v.Z cs) ∧
  ∀ ps w', (∀ v ∈ V, ∃ p cs, ps v.d = some p ∧ W.heap.size ≤ p ∧ a.eval (.tmp v.e) = .agg cs ∧ w'.heap[p]? = some (.cells cs v.ty (0, 0))) → (∀ u ∈ V, ∀ v ∈ V, ∀ p, ps u.d = some p → ps v.d = some p → u.d = v.d) → Below W.heap.size W w' → Q .normal (puts V ps a) w'
theorem fin_valueN (H : VN md ops V) {C : World → Prop} {v : Vr} (hv : v ∈ V) (f : Nat) : ∀ (b : Array Bool) (a : Act), anyM P md ops C (EndsN P V Q W) f b a → b.getD v.ke true = true → ∃ cs, a.eval (.tmp v.e) = .agg cs ∧ Fits P v.ty v.Z cs := by
  induction f with
  | zero => intro b a h _; exact h.2.1 v hv
  | succ f ih =>
    intro b a h hk
    by_cases hr : Region.ready md ops b = []
    · exact (h.1 hr).1 v hv
    · obtain ⟨i, hi⟩ := List.exists_mem_of_ne_nil _ hr
      obtain ⟨hu, o, ho, -⟩ := mem_ready.1 hi
      have hik : i ≠ v.ke := fun x => by rw [x, hk] at hu; cases hu
      obtain ⟨x, -, hK⟩ := yieldsM_of (h.2 i o hi ho)
      obtain ⟨cs, h1, h2⟩ := ih _ _ hK (set_on hk)
      refine ⟨cs, ?_, h2⟩
      rw [← h1]
      exact (Act.eval_put fun y hy hye => H.only i o ho v hv hik (by rw [hy]; injection hye with hye; rw [hye])).symm
/-- where the walk stands -/
structure Inv (P : Program) (ops : Array Oper) (V : List Vr) (W : World) (b : Array Bool) (a : Act) (w : World) (ps : Nat → Option Nat) : Prop where
  bm : ∀ v ∈ V, (b.getD v.m true = true ↔ (ps v.d).isSome = true)
  bs : ∀ v ∈ V, ps v.d = none → b.getD v.s true = false
  mem : ∀ v ∈ V, ∀ p, ps v.d = some p → W.heap.size ≤ p ∧ (b.getD v.s true = false → w.heap[p]? = some (.cells v.Z v.ty (0, 0))) ∧ (b.getD v.s true = true → b.getD v.ke true = true ∧ ∃ cs, a.eval (.tmp v.e) = .agg cs ∧ w.heap[p]? = some (.cells cs v.ty (0, 0)))
  inj : ∀ u ∈ V, ∀ v ∈ V, ∀ p, ps u.d = some p → ps v.d = some p → u.d = v.d
  bel : Below W.heap.size W w
  bz : b.size = ops.size
  asz : ∀ v ∈ V, v.d < a.tmps.size
theorem Inv.there {b : Array Bool} {a : Act} {w : World} {ps : Nat → Option Nat} (I : Inv P ops V W b a w ps) {v : Vr} (hv : v ∈ V) {p : Nat} (hp : ps v.d = some p) : p < w.heap.size := by
  obtain ⟨-, h1, h2⟩ := I.mem v hv p hp
  cases h : b.getD v.s true with
  | false => exact lt_of_row (h1 h)
  | true => obtain ⟨-, cs, -, h3⟩ := h2 h; exact lt_of_row h3
theorem simN (H : VN md ops V) (HA : ∀ v ∈ V, ∀ (ρ : Operand → Value) (o : Oper) (w : World), o.op = .alloc v.ty → (execOp ρ o).run P w = .ok (.value (ptr w.heap.size)) (w.alloc (.cells v.Z v.ty))) (F : Nat) :
    ∀ (f : Nat) (b : Array Bool) (a : Act) (w : World) (ps : Nat → Option Nat), f + cnt V b ≤ F → anyM P md ops (fun w' => Below W.heap.size W w') (EndsN P V Q W) f (marks V b) a → Inv P ops V W b a w ps → wpAny P md ops Q F b (puts V ps a) w := by
  have fin : ∀ (f : Nat) (b : Array Bool) (a : Act) (w : World) (ps : Nat → Option Nat), Region.ready md ops b = [] → anyM P md ops (fun w' => Below W.heap.size W w') (EndsN P V Q W) f (marks V b) a → Inv P ops V W b a w ps → Q .normal (puts V ps a) w := by
    intro f b a w ps h0 h I
    have hl : ∀ j, j < ops.size → b.getD j true = true := all_listed H.back I.bz h0
    have hE : EndsN P V Q W a := by
      have hr := none_ready (md := md) (ops := ops) (b := marks V b) fun j hj => marks_on (hl j hj)
      cases f with
      | zero => exact h.2
      | succ f => exact h.1 hr
    refine hE.2 ps w (fun v hv => ?_) I.inj I.bel
    obtain ⟨om, hom, -⟩ := H.om v hv
    obtain ⟨os, hos, -⟩ := H.os v hv
    have h1 := (I.bm v hv).1 (hl _ (Array.getElem?_eq_some_iff.1 hom).1)
    obtain ⟨p, hp⟩ := Option.isSome_iff_exists.1 h1
    obtain ⟨h2, -, h3⟩ := I.mem v hv p hp
    obtain ⟨-, cs, h4, h5⟩ := h3 (hl _ (Array.getElem?_eq_some_iff.1 hos).1)
    exact ⟨p, cs, hp, h2, h4, h5⟩
  induction F with
  | zero =>
    intro f b a w ps hF h I
    have hr : Region.ready md ops b = [] := by
      apply List.eq_nil_iff_forall_not_mem.2
      intro i hi
      by_cases hm : ∃ v ∈ V, i = v.m ∨ i = v.s
      · obtain ⟨v, hv, hx⟩ := hm
        have hu := (mem_ready.1 hi).1
        rcases hx with rfl | rfl
        · have := cnt_m hv hu; omega
        · have := cnt_s hv hu; omega
      · have := marks_ready hi (V := V) fun v hv => ⟨fun x => hm ⟨v, hv, Or.inl x⟩, fun x => hm ⟨v, hv, Or.inr x⟩⟩
        obtain rfl : f = 0 := by omega
        rw [h.1] at this
        cases this
    exact ⟨hr, fin f b a w ps hr h I⟩
  | succ F ih =>
    intro f b a w ps hF h I
    refine ⟨fun h0 => fin f b a w ps h0 h I, fun i hi => ?_⟩
    obtain ⟨hu, o, ho, hall⟩ := mem_ready.1 hi
    by_cases hm : ∃ v ∈ V, i = v.m
    · obtain ⟨v, hv, rfl⟩ := hm
      obtain ⟨om, hom, hop, hdst, hgd⟩ := H.om v hv
      obtain rfl : o = om := Option.some.inj (ho.symm.trans hom)
      have hnone : ps v.d = none := by
        cases hq : ps v.d with
        | none => rfl
        | some q => have := (I.bm v hv).2 (by rw [hq]; rfl); rw [hu] at this; cases this
      unfold wpOp
      simp only [ho]
      rw [if_pos (by unfold Region.wanted; rw [hgd])]
      refine Or.inl ?_
      unfold Oper.wp
      rw [HA v hv _ o w hop]
      simp only [Oper.upon, hdst]
      rw [← puts_upd ps v w.heap.size a hv H.nd hnone]
      have hc := cnt_m hv hu
      refine ih f _ a _ _ (by omega) (by rw [marks_set, set_same (marks_at hv).1]; exact h) ?_
      have hmz : v.m < b.size := by rw [I.bz]; exact (Array.getElem?_eq_some_iff.1 ho).1
      have old : ∀ u ∈ V, u ≠ v → upd ps v.d w.heap.size u.d = ps u.d := fun u hu' huv => if_neg fun e => huv (by_key H.nd u hu' v hv e)
      have new : upd ps v.d w.heap.size v.d = some w.heap.size := if_pos rfl
      refine ⟨fun u hu' => ?_, fun u hu' hx => ?_, fun u hu' p hp => ?_, fun u hu' x hx p hp hq => ?_, I.bel.alloc I.bel.size _, by simpa using I.bz, I.asz⟩
      · by_cases e : u = v
        · subst e; rw [new]; simp [hmz]
        · rw [old u hu' e, getD_set_ne true (fun x => e (by_key H.nm u hu' v hv x.symm))]; exact I.bm u hu'
      · by_cases e : u = v
        · subst e; rw [new] at hx; cases hx
        · rw [old u hu' e] at hx
          rw [getD_set_ne true (H.ms v hv u hu').1]; exact I.bs u hu' hx
      · by_cases e : u = v
        · subst e
          rw [new] at hp
          obtain rfl := Option.some.inj hp
          refine ⟨I.bel.size, fun _ => heap_at _ _ _ rfl, fun hx => ?_⟩
          rw [getD_set_ne true (H.ms u hu' u hu').1, I.bs u hu' hnone] at hx
          cases hx
        · rw [old u hu' e] at hp
          have hlt := I.there hu' hp
          obtain ⟨h1, h2, h3⟩ := I.mem u hu' p hp
          refine ⟨h1, fun hx => ?_, fun hx => ?_⟩
          · rw [getD_set_ne true (H.ms v hv u hu').1] at hx
            rw [heap_past _ _ _ hlt]; exact h2 hx
          · rw [getD_set_ne true (H.ms v hv u hu').1] at hx
            obtain ⟨h4, cs, h5, h6⟩ := h3 hx
            exact ⟨set_on h4, cs, h5, by rw [heap_past _ _ _ hlt]; exact h6⟩
      · by_cases e1 : u = v <;> by_cases e2 : x = v
        · rw [e1, e2]
        · rw [e1, new] at hp
          rw [old x hx e2] at hq
          have := I.there hx hq
          injection hp with hp
          omega
        · rw [e2, new] at hq
          rw [old u hu' e1] at hp
          have := I.there hu' hp
          injection hq with hq
          omega
        · rw [old u hu' e1] at hp
          rw [old x hx e2] at hq
          exact I.inj u hu' x hx p hp hq
    · by_cases hs : ∃ v ∈ V, i = v.s
      · obtain ⟨v, hv, rfl⟩ := hs
        obtain ⟨os, hos, hop, hdst, hgd, ⟨xm, hxm, hbm, honm⟩, ⟨xk, hxk, hbk, honk⟩⟩ := H.os v hv
        obtain rfl : o = os := Option.some.inj (ho.symm.trans hos)
        have hml : b.getD v.m true = true := on_true (honm ▸ hall xm hxm hbm)
        have hkl : b.getD v.ke true = true := on_true (honk ▸ hall xk hxk hbk)
        obtain ⟨p, hp⟩ := Option.isSome_iff_exists.1 ((I.bm v hv).1 hml)
        obtain ⟨h1, h2, -⟩ := I.mem v hv p hp
        obtain ⟨cs, hcs, hf⟩ := fin_valueN H hv f _ _ h (marks_on hkl)
        unfold wpOp
        simp only [ho]
        rw [if_pos (by unfold Region.wanted; rw [hgd])]
        refine Or.inl (wp_store_row v.ty _ _ hop p cs (puts_eval_at ps a v p hv H.nd hp (I.asz v hv)) ((puts_eval ps a v.e (fun u hu' => (H.ms u hu' v hv).2.2.2)).trans hcs) v.ty v.Z (h2 hu) hf.1 hf.2.1 hf.2.2 ?_)
        rw [hdst]
        have hc := cnt_s hv hu
        refine ih f _ a _ _ (by omega) (by rw [marks_set, set_same (marks_at hv).2]; exact h) ?_
        have hsz : v.s < b.size := by rw [I.bz]; exact (Array.getElem?_eq_some_iff.1 ho).1
        refine ⟨fun u hu' => ?_, fun u hu' hx => ?_, fun u hu' q hq => ?_, I.inj, I.bel.trans (below_setRow _ _ _ h1), by simpa using I.bz, I.asz⟩
        · rw [getD_set_ne true (fun x => (H.ms u hu' v hv).1 x.symm)]; exact I.bm u hu'
        · have e : u ≠ v := fun e => by rw [e, hp] at hx; cases hx
          rw [getD_set_ne true (fun x => e (by_key H.ns u hu' v hv x.symm))]; exact I.bs u hu' hx
        · by_cases e : u = v
          · subst e
            rw [hp] at hq
            obtain rfl := Option.some.inj hq
            refine ⟨h1, fun hx => ?_, fun _ => ⟨set_on hkl, cs, hcs, setRow_heap _ _ _ _ _ _ (h2 hu)⟩⟩
            rw [set_at] at hx
            cases hx
          · have hne : q ≠ p := fun x => e (by_key H.nd u hu' v hv (I.inj u hu' v hv p (x ▸ hq) hp))
            obtain ⟨h3, h4, h5⟩ := I.mem u hu' q hq
            have hsn : v.s ≠ u.s := fun x => e (by_key H.ns u hu' v hv x.symm)
            refine ⟨h3, fun hx => ?_, fun hx => ?_⟩
            · rw [getD_set_ne true hsn] at hx
              rw [setRow_other _ _ _ _ hne]; exact h4 hx
            · rw [getD_set_ne true hsn] at hx
              obtain ⟨h6, cs', h7, h8⟩ := h5 hx
              exact ⟨set_on h6, cs', h7, by rw [setRow_other _ _ _ _ hne]; exact h8⟩
      · have hoff : ∀ v ∈ V, i ≠ v.m ∧ i ≠ v.s := fun v hv => ⟨fun x => hm ⟨v, hv, x⟩, fun x => hs ⟨v, hv, x⟩⟩
        have hrm := marks_ready hi hoff
        cases f with
        | zero => rw [h.1] at hrm; cases hrm
        | succ f =>
          have ho2 := H.off i o ho hoff
          refine wpOp_mono ?_ (mOp_reals ho (fun cs b => Region.noSelect_spec H.sel i o cs b ho) ps (fun v hv => (ho2 v hv).1) (fun v hv => (ho2 v hv).2) I.bel (h.2 i o hrm ho))
          rintro a' w' ⟨x, rfl, hK, hbw⟩
          have hc := cnt_le (V := V) b i
          refine ih f _ _ _ ps (by omega) (by rw [marks_set]; exact hK) ?_
          refine ⟨fun u hu' => ?_, fun u hu' hx => ?_, fun u hu' q hq => ?_, I.inj, I.bel.trans (hbw.mono I.bel.size), by simpa using I.bz, fun u hu' => by rw [Act.size_put]; exact I.asz u hu'⟩
          · rw [getD_set_ne true (hoff u hu').1]; exact I.bm u hu'
          · rw [getD_set_ne true (hoff u hu').2]; exact I.bs u hu' hx
          · have hlt := I.there hu' hq
            obtain ⟨h3, h4, h5⟩ := I.mem u hu' q hq
            refine ⟨h3, fun hx => ?_, fun hx => ?_⟩
            · rw [getD_set_ne true (hoff u hu').2] at hx
              exact (hbw.block _ hlt).trans (h4 hx)
            · rw [getD_set_ne true (hoff u hu').2] at hx
              obtain ⟨h6, cs', h7, h8⟩ := h5 hx
              have hik : i ≠ u.ke := fun x => by rw [x, h6] at hu; cases hu
              refine ⟨set_on h6, cs', ?_, (hbw.block _ hlt).trans h8⟩
              rw [← h7]
              exact Act.eval_put fun y hy hye => H.only i o ho u hu' hik (by rw [hy]; injection hye with hye; rw [hye])
/-- THE REGION: V its variables, ks the other operations' places, l' themselves -/
theorem region_varyN {P : Program} {id : Nat} {Q : Exit → Act → World → Prop} {a : Act} {w : World} {l : List Oper} (V : List Vr) (ks : List Nat) (l' : List Oper) (hm : P.follows .mixedOrders = true)
    (hB : varyNB .any l.toArray V = true) (hk : ks.map (fun k => l.toArray[k]?) = l'.map some) (hx : lexIdx .any l.toArray ks (marks V (Array.replicate l.toArray.size false)) = true) (hn : ks.length + (V.length + V.length) ≤ l.toArray.size)
    (HA : ∀ v ∈ V, ∀ (ρ : Operand → Value) (o : Oper) (w : World), o.op = .alloc v.ty → (execOp ρ o).run P w = .ok (.value (ptr w.heap.size)) (w.alloc (.cells v.Z v.ty))) (hd : (V.all fun v => decide (v.d < a.tmps.size)) = true)
    (h : ∀ ops : Array Oper, Away (l.toArray = ops) → wpMild P ops (fun w' => Below w.heap.size w w') (EndsN P V Q w) l' a) : (Code.region id l.toArray true).wp P Q a w := by
  have H := vn_of hB
  have h1 := anyM_lex (md := .any) H.sel ks l' _ a hk hx (h _ ⟨rfl⟩)
  have hc : cnt V (Array.replicate l.toArray.size false) ≤ V.length + V.length := Nat.add_le_add List.countP_le_length List.countP_le_length
  have hun : ∀ v ∈ V, (Array.replicate l.toArray.size false).getD v.m true = false ∧ (Array.replicate l.toArray.size false).getD v.s true = false := fun v hv => by
    obtain ⟨om, hom, -⟩ := H.om v hv
    obtain ⟨os, hos, -⟩ := H.os v hv
    exact ⟨rep_un _ _ (Array.getElem?_eq_some_iff.1 hom).1, rep_un _ _ (Array.getElem?_eq_some_iff.1 hos).1⟩
  have h2 := simN (Q := Q) H HA l.toArray.size ks.length (Array.replicate l.toArray.size false) a w.drew (fun _ => none) (by omega) h1
    ⟨fun v hv => by rw [(hun v hv).1]; simp, fun v hv _ => (hun v hv).2, fun v hv p hp => (by cases hp), fun u hu v hv p hp => (by cases hp), (Below.refl _ _).drew, by simp, fun v hv => of_decide_eq_true (List.all_eq_true.1 hd v hv)⟩
  rw [puts_none] at h2
  exact wp_region_any hm h2
end
end Go.Proofs.YtmmdjmiekodolaaDoor.varyn
