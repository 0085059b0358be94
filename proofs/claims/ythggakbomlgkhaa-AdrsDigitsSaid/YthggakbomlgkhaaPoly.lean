/-
  An array of ints as cells, by a function of the index: reading, writing one cell, two such arrays compared by '==', an argument that is one, its zero value. No function of the program is named. Conditions: as each theorem says.
-/
import Derived.Test.YthggakbomlgkhaaOpen
import Derived.Test.YthggakbomlgkhaaEqA
import Derived.Test.YthggakbomlgkhaaMem
namespace Go.Proofs.Ythggakbomlgkhaa.polys
open Go Go.ChangeShapes Go.WideShapes Go.ChangeAt Go.RowKit
open Go.Proofs.Ythggakbomlgkhaa.arr Go.Proofs.Ythggakbomlgkhaa.mem Go.Proofs.Ythggakbomlgkhaa.eqa

/-- n cells of kind k -/
def FL (k : IntKind) (n : Nat) (h : Nat → Int) : Array Value := ((List.range n).map fun i => Value.int k (h i)).toArray
theorem fl_size (k : IntKind) (n : Nat) (h : Nat → Int) : (FL k n h).size = n := by simp [FL]
theorem fl_get (k : IntKind) (n : Nat) (h : Nat → Int) (i : Nat) (hi : i < n) : (FL k n h)[i]? = some (.int k (h i)) := by
  simp [FL, hi]
theorem fl_one (k : IntKind) (n : Nat) (h : Nat → Int) : (FL k n h).all (·.oneCell') = true := by
  rw [Array.all_eq_true_iff_forall_mem]
  intro v hv
  simp only [FL, List.mem_toArray, List.mem_map] at hv
  obtain ⟨i, -, rfl⟩ := hv
  rfl
theorem fl_congr (k : IntKind) (n : Nat) {h h' : Nat → Int} (e : ∀ i, i < n → h i = h' i) : FL k n h = FL k n h' := by
  unfold FL
  congr 1
  exact List.map_congr_left fun i hi => by rw [e i (List.mem_range.1 hi)]
/-- one cell is another -/
def upd (h : Nat → Int) (i : Nat) (v : Int) : Nat → Int := fun j => if j = i then v else h j
theorem fl_set (k : IntKind) (n : Nat) (h : Nat → Int) (i : Nat) (v : Int) : (FL k n h).setIfInBounds i (.int k v) = FL k n (upd h i v) := by
  apply Array.ext
  · rw [Array.size_setIfInBounds, fl_size, fl_size]
  · intro j h1 h2
    have hj : j < n := by rw [fl_size] at h2; exact h2
    have e1 : ((FL k n h).setIfInBounds i (.int k v))[j]? = (FL k n (upd h i v))[j]? := by
      rw [Array.getElem?_setIfInBounds, fl_get k n (upd h i v) j hj, fl_size]
      unfold upd
      by_cases e : i = j
      · subst e; rw [if_pos rfl, if_pos hj, if_pos rfl]
      · rw [if_neg e, if_neg (Ne.symm e), fl_get k n h j hj]
    rw [Array.getElem?_eq_getElem h1, Array.getElem?_eq_getElem h2] at e1
    exact Option.some.inj e1
theorem fl_at {k : IntKind} {n : Nat} {h : Nat → Int} {w : World} {g : Nat} {t : TypeId} (hw : w.heap[g]? = some (.cells (FL k n h) t (0, 0))) (i : Nat) (hi : i < n) : w.cell? ⟨g, i, none⟩ = some (.int k (h i)) := cell_at hw (fl_get k n h i hi)
/-- m cells are turned, the others are as they were -/
def pt (f d : Nat → Int) (m : Nat) : Nat → Int := fun i => if i < m then f i else d i
theorem pt_zero (f d : Nat → Int) : pt f d 0 = d := by funext i; unfold pt; rw [if_neg (by omega)]
theorem pt_upd (f d : Nat → Int) (m : Nat) (v : Int) (hv : v = f m) : upd (pt f d m) m v = pt f d (m + 1) := by
  subst hv
  funext j
  unfold upd pt
  by_cases h : j = m
  · subst h; rw [if_pos rfl, if_pos (by omega)]
  · rw [if_neg h]
    by_cases h2 : j < m
    · rw [if_pos h2, if_pos (by omega)]
    · rw [if_neg h2, if_neg (by omega)]
theorem pt_at (f d : Nat → Int) (m : Nat) : pt f d m m = d m := by unfold pt; rw [if_neg (by omega)]
theorem fl_all (k : IntKind) (n : Nat) (f d : Nat → Int) : FL k n (pt f d n) = FL k n f := fl_congr k n fun i hi => by unfold pt; rw [if_pos hi]
/-- the zeros -/
theorem fl_zero (n : Nat) : FL .i64 n (fun _ => 0) = LK .i64 (List.replicate n 0) := by
  apply Array.ext (by rw [fl_size, lk_size, List.length_replicate])
  intro i h1 h2
  have hi : i < n := by rw [fl_size] at h1; exact h1
  have e1 := fl_get .i64 n (fun _ => 0) i hi
  have e2 := lk_get .i64 (List.replicate n 0) i (by rw [List.length_replicate]; exact hi)
  rw [Array.getElem?_eq_getElem h1] at e1
  rw [Array.getElem?_eq_getElem h2, List.getD_eq_getElem?_getD, List.getElem?_replicate, if_pos hi] at e2
  rw [Option.some.inj e1, Option.some.inj e2]
  rfl
theorem nums_fl (k : IntKind) (n : Nat) (h : Nat → Int) : Nums k (FL k n h) 0 n := fun i hi => ⟨_, by rw [Nat.zero_add]; exact fl_get k n h i hi⟩
theorem intAt_fl (k : IntKind) (n : Nat) (h : Nat → Int) (i : Nat) (hi : i < n) : intAt (FL k n h) i = h i := by unfold intAt; rw [fl_get k n h i hi]
/-- '==' of two such arrays -/
theorem eq_fl {P : Program} {t e : TypeId} {n : Nat} {k : IntKind} (ht : P.underlying t = some (.array n e)) (hi : (P.info? e).map (·.size) = some 1) (hc : P.cellsOf e = 1) (he : P.underlying e = some (.int k)) (x y : Nat → Int) (w : World) :
    (binOp .eql t (.agg (FL k n x)) (.agg (FL k n y))).run P w = .ok (.bool (decide (∀ i, i < n → x i = y i))) w := by
  obtain ⟨i0, h0⟩ := info_of hi
  rw [run_eql_struct, run_eq_array w 9998 ht h0 hc he _ _ (nums_fl k n x) (nums_fl k n y)]
  simp only [Result.andThen_ok]
  congr 2
  apply Bool.eq_iff_iff.2
  rw [List.all_eq_true, decide_eq_true_iff]
  constructor
  · intro h i hi
    have := h i (List.mem_range.2 hi)
    rw [intAt_fl _ _ _ _ hi, intAt_fl _ _ _ _ hi, beq_iff_eq] at this
    exact this
  · intro h i hi
    rw [intAt_fl _ _ _ _ (List.mem_range.1 hi), intAt_fl _ _ _ _ (List.mem_range.1 hi), h i (List.mem_range.1 hi)]
    exact beq_self_eq_true _
theorem neq_fl {P : Program} {t e : TypeId} {n : Nat} {k : IntKind} (ht : P.underlying t = some (.array n e)) (hi : (P.info? e).map (·.size) = some 1) (hc : P.cellsOf e = 1) (he : P.underlying e = some (.int k)) (x y : Nat → Int) (w : World) :
    (binOp .neq t (.agg (FL k n x)) (.agg (FL k n y))).run P w = .ok (.bool (!decide (∀ i, i < n → x i = y i))) w := by
  have h := eq_fl ht hi hc he x y w
  rw [run_eql_struct] at h
  rw [run_neq_struct]
  cases hq : (Op.equalIn 10000 t (.agg (FL k n x)) (.agg (FL k n y))).run P w with
  | ok b w' =>
    rw [hq] at h
    simp only [Result.andThen_ok, Result.ok.injEq, Value.bool.injEq] at h
    obtain ⟨rfl, rfl⟩ := h
    rfl
  | halt a b => rw [hq] at h; simp [Result.andThen] at h
section
variable {H : Type} {enc : TypeId × Value → H} {P : Program} {w : World}
/-- an argument that is an array of ints -/
theorem open_fl {r : Reach} {b0 b1 : Nat} {sp : Nat → Bool} {hd : Bool} {t e : TypeId} {n : Nat} {k : IntKind} {v : Value} {d : DataW H} {p : List MemPlace} (ht : P.underlying t = some (.array n e)) (hk : P.underlying e = some (.int k)) (hc : P.cellsOf t = n) (he : P.cellsOf e = 1)
    (hv : Value.okWide P w r b0 t v) (h : DataW.Trod enc P w b1 sp hd t v d p) : ∃ f : Nat → Int, v = .agg (FL k n f) ∧ ∀ i, i < n → (Lit.int k (f i)).wf = true := by
  obtain ⟨cs, rfl, hsz, m, hg⟩ := opens.open_array ht hc he hv h
  have key : ∀ i (hi : i < cs.size), ∃ x : Int, cs[i] = .int k x ∧ (Lit.int k x).wf = true := by
    intro i hi
    obtain ⟨_, h0⟩ := hg i hi
    obtain ⟨a, e0, -, w0⟩ := DataW.trod_int hk h0
    simp only [List.cons.injEq, and_true] at e0
    exact ⟨a, e0, w0⟩
  refine ⟨fun i => match cs[i]? with | some (.int _ a) => a | _ => 0, ?_, fun i hi => ?_⟩
  · congr 1
    apply Array.ext (by rw [hsz, fl_size])
    intro i h1 h2
    obtain ⟨x, hx, -⟩ := key i h1
    have e2 := fl_get k n (fun i => match cs[i]? with | some (.int _ a) => a | _ => 0) i (by omega)
    rw [Array.getElem?_eq_getElem h2] at e2
    rw [Option.some.inj e2, hx]
    simp [Array.getElem?_eq_getElem h1, hx]
  · obtain ⟨x, hx, hw⟩ := key i (by omega)
    have e3 : cs[i]? = some (.int k x) := by rw [Array.getElem?_eq_getElem (by omega), hx]
    simp only [e3]
    exact hw
end
end Go.Proofs.Ythggakbomlgkhaa.polys
