/-
  Comparing two arrays of numbers by '==': it answers, whatever the numbers are (no program is named here). Conditions: the cells are numbers of the kind.
-/
import Derived.Test.YthggakbomlgkhaaArr
import Derived.Laws.StructEq
import Derived.ChangeKeysEq
namespace Go.Proofs.Ythggakbomlgkhaa.eqa
open Go Go.RowKit
open Go.Proofs.Ythggakbomlgkhaa.arr

/-- the number in cell i -/
def intAt (xs : Array Value) (i : Nat) : Int := match xs[i]? with
  | some (.int _ a) => a
  | _ => 0
/-- cells o to o + n are numbers of kind k -/
def Nums (k : IntKind) (xs : Array Value) (o n : Nat) : Prop := ∀ i, i < n → ∃ a, xs[o + i]? = some (.int k a)
section
variable {P : Program}
theorem run_part_int (w : World) {e : TypeId} {k : IntKind} (he : P.underlying e = some (.int k)) {xs : Array Value} {i : Nat} {v : Value} (hx : xs[i]? = some v) : (part e xs i).run P w = .ok v w := by
  have h : (isAgg e).run P w = .ok false w := by
    unfold isAgg
    rw [Sem.run_bind, run_underlying he w]
    simp
  unfold part
  simp [Sem.run_bind, h, hx]
theorem run_eqItems_int (w : World) (d : Nat) {e : TypeId} {k : IntKind} (he : P.underlying e = some (.int k)) (xs ys : Array Value) : ∀ is : List Nat, (∀ i ∈ is, ∃ a, xs[i]? = some (.int k a)) → (∀ i ∈ is, ∃ a, ys[i]? = some (.int k a)) →
    (Op.eqItems (d + 1) e 1 xs ys is).run P w = .ok (is.all fun i => intAt xs i == intAt ys i) w
  | [], _, _ => by simp [Op.eqItems]
  | i :: is, hx, hy => by
    obtain ⟨a, ha⟩ := hx i (by simp)
    obtain ⟨b, hb⟩ := hy i (by simp)
    have ih := run_eqItems_int w d he xs ys is (fun j hj => hx j (by simp [hj])) (fun j hj => hy j (by simp [hj]))
    have e1 : intAt xs i = a := by simp [intAt, ha]
    have e2 : intAt ys i = b := by simp [intAt, hb]
    simp only [Op.eqItems, Nat.mul_one, Sem.run_bind, run_part_int w he ha, run_part_int w he hb, Result.andThen_ok, run_equalIn_int w d e k k a b he, List.all_cons, e1, e2]
    cases hab : (a == b)
    · simp
    · simpa using ih
theorem run_eq_array (w : World) (d : Nat) {t e : TypeId} {n : Nat} {k : IntKind} {i : TypeInfo} (ht : P.underlying t = some (.array n e)) (hi : P.info? e = some i) (hc : P.cellsOf e = 1) (he : P.underlying e = some (.int k)) (xs ys : Array Value)
    (hx : Nums k xs 0 n) (hy : Nums k ys 0 n) : (Op.equalIn (d + 2) t (.agg xs) (.agg ys)).run P w = .ok ((List.range n).all fun i => intAt xs i == intAt ys i) w := by
  rw [run_equalIn_array w (d + 1) xs ys ht hi, hc]
  exact run_eqItems_int w d he xs ys _ (fun j hj => by have := hx j (by simpa using hj); rwa [Nat.zero_add] at this) (fun j hj => by have := hy j (by simpa using hj); rwa [Nat.zero_add] at this)
theorem run_part_agg (w : World) {t e : TypeId} {n s : Nat} (ht : P.underlying t = some (.array n e)) (hs : (P.info? t).map (·.size) = some s) (xs : Array Value) (o : Nat) : (part t xs o).run P w = .ok (.agg (xs.extract o (o + s))) w := by
  have h : (isAgg t).run P w = .ok true w := by
    unfold isAgg
    rw [Sem.run_bind, run_underlying ht w]
    simp
  cases hq : P.info? t with
  | none => simp [hq] at hs
  | some i =>
    have hs2 : i.size = s := by simpa [hq] using hs
    unfold part
    simp [Sem.run_bind, h, sizeOf, typeInfo, hq, hs2]
end
theorem info_of {P : Program} {e : TypeId} {s : Nat} (h : (P.info? e).map (·.size) = some s) : ∃ i, P.info? e = some i := by
  cases hq : P.info? e with
  | none => rw [hq] at h; cases h
  | some i => exact ⟨i, rfl⟩
end Go.Proofs.Ythggakbomlgkhaa.eqa
