/-
  A region that hands back two results which lie in memory ('return a, b'): two whole loads and two whole stores, in any order that the language allows. No program is named here. Conditions: as the theorem says.
-/
import Derived.Test.YtlcafjdehcddcaaGreatDoorBas
import Derived.Great.Frames
import Derived.BigRegion
namespace Go.Proofs.YtlcafjdehcddcaaGreatDoor
namespace twor
open Go Go.RowKit
open arr mem
def mks (l : List Nat) (b : Array Bool) : Array Bool := l.foldl (fun b i => b.setIfInBounds i true) b
def rdy (ops : Array Oper) (l : List Nat) : List Nat := Region.ready .any ops (mks l (Array.replicate ops.size false))
def twoB (ops : Array Oper) : Bool :=
 decide (rdy ops [] = [0, 1]) && decide (rdy ops [0] = [1, 2]) && decide (rdy ops [1] = [0]) && decide (rdy ops [0, 1] = [2]) && decide (rdy ops [1, 0] = [2]) && decide (rdy ops [0, 2] = [1]) &&
 decide (rdy ops [0, 1, 2] = [3]) && decide (rdy ops [1, 0, 2] = [3]) && decide (rdy ops [0, 2, 1] = [3]) && decide (rdy ops [0, 1, 2, 3] = []) && decide (rdy ops [1, 0, 2, 3] = []) && decide (rdy ops [0, 2, 1, 3] = [])
structure Ld (o : Oper) (ty : TypeId) (x d : Nat) : Prop where
 op : o.op = .load ty (.tmp x)
 dst : o.dst = some d
 gd : o.guard = none
structure Sr (o : Oper) (ty : TypeId) (y d : Nat) : Prop where
 op : o.op = .store ty (.tmp y) (.tmp d)
 dst : o.dst = none
 gd : o.guard = none
theorem of_want {o : Oper} {y : Nat → Option Bool} {X Y : Prop} (hg : o.guard = none) (h : X) : if Region.wanted o y = true then X else Y := by
 rw [if_pos (by unfold Region.wanted; rw [hg])]
 exact h
structure Two (P : Program) (w : World) (ty : TypeId) (g r : Nat) (A : Array Value) : Prop where
 row : ∃ t fr, w.heap[g]? = some (.cells A t fr)
 res : ∃ t O, w.heap[r]? = some (.cells O t (0, 0)) ∧ O.size = A.size
 un : ∃ D, P.underlying ty = some D ∧ (match D with | .struct _ | .array _ _ => true | _ => false) = true
 info : (P.info? ty).map (·.size) = some A.size
 one : A.all (·.oneCell') = true
theorem Two.set {P : Program} {w : World} {ty : TypeId} {g r : Nat} {A : Array Value} (h : Two P w ty g r A) (k : Nat) (C : Array Value) (h1 : k ≠ g) (h2 : k ≠ r) : Two P (w.setRow k C) ty g r A := by
 obtain ⟨⟨t, fr, a1⟩, ⟨t2, O, b1, b2⟩, c, d, e⟩ := h
 exact ⟨⟨t, fr, (setRow_other _ _ _ _ (Ne.symm h1)).trans a1⟩, ⟨t2, O, (setRow_other _ _ _ _ (Ne.symm h2)).trans b1, b2⟩, c, d, e⟩
theorem Two.load {P : Program} {w : World} {ty : TypeId} {g r : Nat} {A : Array Value} (h : Two P w ty g r A) {o : Oper} {x d : Nat} (ho : Ld o ty x d) {a : Act} {K : Act → World → Prop} {Q : Exit → Act → World → Prop} (e : a.eval (.tmp x) = .pointer (some ⟨g, 0, none⟩)) (hK : K (a.put (some d) (.agg A)) w) : o.wp P a w K Q := by
 obtain ⟨⟨t, fr, a1⟩, -, ⟨D, c1, c2⟩, i, -⟩ := h
 exact wp_load_row ty _ ho.op g e t A fr D a1 c1 (by cases D <;> first | rfl | exact c2) i (by rw [ho.dst]; exact hK)
theorem Two.store {P : Program} {w : World} {ty : TypeId} {g r : Nat} {A : Array Value} (h : Two P w ty g r A) {o : Oper} {y d : Nat} (ho : Sr o ty y d) {a : Act} {K : Act → World → Prop} {Q : Exit → Act → World → Prop} (e : a.eval (.tmp y) = .pointer (some ⟨r, 0, none⟩)) (e2 : a.eval (.tmp d) = .agg A) (hK : K a (w.setRow r A)) : o.wp P a w K Q := by
 obtain ⟨-, ⟨t, O, b1, b2⟩, -, i, o1⟩ := h
 exact wp_store_row ty _ _ ho.op r A e e2 t O b1 i b2 o1 (by rw [ho.dst]; exact hK)
theorem region_two {P : Program} {id : Nat} {Q : Exit → Act → World → Prop} {a : Act} {w : World} {o0 o1 o2 o3 : Oper} (ty0 ty1 : TypeId) (x0 x1 y0 y1 d0 d1 : Nat) (hm : P.follows .mixedOrders = true) (hB : twoB #[o0, o1, o2, o3] = true)
 (h0 : Ld o0 ty0 x0 d0) (h1 : Ld o1 ty1 x1 d1) (h2 : Sr o2 ty0 y0 d0) (h3 : Sr o3 ty1 y1 d1) (hne : (d0 ≠ x1 ∧ d0 ≠ y0 ∧ d0 ≠ y1 ∧ d0 ≠ d1) ∧ d1 ≠ y0 ∧ d1 ≠ y1 ∧ d1 ≠ x0) (hd : d0 < a.tmps.size ∧ d1 < a.tmps.size)
 (g0 g1 r0 r1 : Nat) (A B : Array Value) (e0 : a.eval (.tmp x0) = .pointer (some ⟨g0, 0, none⟩)) (e1 : a.eval (.tmp x1) = .pointer (some ⟨g1, 0, none⟩)) (f0 : a.eval (.tmp y0) = .pointer (some ⟨r0, 0, none⟩)) (f1 : a.eval (.tmp y1) = .pointer (some ⟨r1, 0, none⟩))
 (K0 : Two P w.drew ty0 g0 r0 A) (K1 : Two P w.drew ty1 g1 r1 B) (n1 : r0 ≠ g1) (n2 : r0 ≠ r1)
 (h : Q .normal ((a.put (some d0) (.agg A)).put (some d1) (.agg B)) ((w.drew.setRow r0 A).setRow r1 B)) : (Code.region id #[o0, o1, o2, o3] true).wp P Q a w := by
 simp only [twoB, Bool.and_eq_true, decide_eq_true_eq] at hB
 obtain ⟨⟨⟨⟨⟨⟨⟨⟨⟨⟨⟨b0, b1⟩, b2⟩, b3⟩, b4⟩, b5⟩, b6⟩, b7⟩, b8⟩, b9⟩, b10⟩, b11⟩ := hB
 obtain ⟨⟨m1, m2, m3, m4⟩, m5, m6, m7⟩ := hne
 have s0 : d1 < (a.put (some d0) (.agg A)).tmps.size := by show d1 < (a.tmps.setIfInBounds d0 _).size; rw [Array.size_setIfInBounds]; exact hd.2
 have s1 : d0 < (a.put (some d1) (.agg B)).tmps.size := by show d0 < (a.tmps.setIfInBounds d1 _).size; rw [Array.size_setIfInBounds]; exact hd.1
 obtain ⟨p, hp⟩ : ∃ p, (a.put (some d0) (.agg A)).put (some d1) (.agg B) = p := ⟨_, rfl⟩
 have hp' : (a.put (some d1) (.agg B)).put (some d0) (.agg A) = p := by rw [← hp]; exact Act.put_comm a _ _ (fun d hd1 hd2 => m4 (by injection hd1 with hd1; injection hd2 with hd2; omega))
 have ev : ∀ t, d0 ≠ t → d1 ≠ t → p.eval (.tmp t) = a.eval (.tmp t) := fun t ht1 ht2 => by rw [← hp, Act.eval_put_ne _ _ _ _ ht2, Act.eval_put_ne _ _ _ _ ht1]
 have v0 : p.eval (.tmp d0) = .agg A := by rw [← hp', Act.eval_put_same _ _ _ s1]
 have v1 : p.eval (.tmp d1) = .agg B := by rw [← hp, Act.eval_put_same _ _ _ s0]
 rw [hp] at h
 have last : ∀ {l : Array Bool}, Region.ready .any #[o0, o1, o2, o3] l = [3] → Region.ready .any #[o0, o1, o2, o3] (l.setIfInBounds 3 true) = [] → wpAny P .any #[o0, o1, o2, o3] Q 1 l p (w.drew.setRow r0 A) := by
  intro l hr hr2
  refine wpAny_ready hr (by simp) ?_
  refine AllReady.cons rfl (fun K hK => of_want h3.gd ?_) AllReady.nil
  exact (K1.set r0 A n1 n2).store h3 ((ev y1 m3 m6).trans f1) v1 (hK _ _ ⟨hr2, h⟩)
 refine wp_region_any hm ?_
 show wpAny P .any #[o0, o1, o2, o3] Q 4 (Array.replicate 4 false) a w.drew
 refine wpAny_ready (rs := [0, 1]) b0 (by simp) ?_
 refine AllReady.cons rfl (fun K hK => of_want h0.gd ?_) (AllReady.cons rfl (fun K hK => of_want h1.gd ?_) AllReady.nil)
 ·refine K0.load h0 e0 (hK _ _ ?_)
  refine wpAny_ready (rs := [1, 2]) b1 (by simp) ?_
  refine AllReady.cons rfl (fun K hK => of_want h1.gd ?_) (AllReady.cons rfl (fun K hK => of_want h2.gd ?_) AllReady.nil)
  ·refine K1.load h1 ((Act.eval_put_ne _ _ _ _ m1).trans e1) (hK _ _ ?_)
   rw [hp]
   refine wpAny_ready (rs := [2]) b3 (by simp) ?_
   refine AllReady.cons rfl (fun K hK => of_want h2.gd ?_) AllReady.nil
   refine K0.store h2 ((ev y0 m2 m5).trans f0) v0 (hK _ _ ?_)
   exact last b6 b9
  ·refine K0.store h2 ((Act.eval_put_ne _ _ _ _ m2).trans f0) (Act.eval_put_same _ _ _ hd.1) (hK _ _ ?_)
   refine wpAny_ready (rs := [1]) b5 (by simp) ?_
   refine AllReady.cons rfl (fun K hK => of_want h1.gd ?_) AllReady.nil
   refine (K1.set r0 A n1 n2).load h1 ((Act.eval_put_ne _ _ _ _ m1).trans e1) (hK _ _ ?_)
   rw [hp]
   exact last b8 b11
 ·refine K1.load h1 e1 (hK _ _ ?_)
  refine wpAny_ready (rs := [0]) b2 (by simp) ?_
  refine AllReady.cons rfl (fun K hK => of_want h0.gd ?_) AllReady.nil
  refine K0.load h0 ((Act.eval_put_ne _ _ _ _ m7).trans e0) (hK _ _ ?_)
  rw [hp']
  refine wpAny_ready (rs := [2]) b4 (by simp) ?_
  refine AllReady.cons rfl (fun K hK => of_want h2.gd ?_) AllReady.nil
  refine K0.store h2 ((ev y0 m2 m5).trans f0) v0 (hK _ _ ?_)
  exact last b7 b10
theorem results_cells {P : Program} {fn : Func} {p0 p1 : Nat} {ty0 ty1 : TypeId} (h : fn.results = #[.cell p0 ty0, .cell p1 ty1]) (tmps : Array Value) (w : World) (r0 r1 : Nat) (A B : Array Value)
 (e0 : tmps.getD p0 undef = .pointer (some ⟨r0, 0, none⟩)) (e1 : tmps.getD p1 undef = .pointer (some ⟨r1, 0, none⟩)) (t0 t1 : TypeId) (f0 f1 : Nat × Nat) (k0 : w.heap[r0]? = some (.cells A t0 f0)) (k1 : w.heap[r1]? = some (.cells B t1 f1))
 (D0 D1 : TypeDesc) (u0 : P.underlying ty0 = some D0) (c0 : (match D0 with | .struct _ | .array _ _ => true | _ => false) = true) (u1 : P.underlying ty1 = some D1) (c1 : (match D1 with | .struct _ | .array _ _ => true | _ => false) = true)
 (i0 : (P.info? ty0).map (·.size) = some A.size) (i1 : (P.info? ty1).map (·.size) = some B.size) : (results fn tmps).run P w = .ok (.tuple #[.agg A, .agg B]) w := by
 have e0' : tmps[p0]?.getD undef = .pointer (some ⟨r0, 0, none⟩) := by simpa using e0
 have e1' : tmps[p1]?.getD undef = .pointer (some ⟨r1, 0, none⟩) := by simpa using e1
 simp [results, h, e0', e1', asAddr, run_loadVar_row w r0 t0 ty0 A f0 D0 k0 u0 c0 i0, run_loadVar_row w r1 t1 ty1 B f1 D1 k1 u1 c1 i1]
end twor
end Go.Proofs.YtlcafjdehcddcaaGreatDoor
