/-
  Parameter sets and addresses as values: their cells, '==' of two of them, zero values (no function of the program is named here). Conditions: as each theorem says.
-/
import Derived.Test.YthggakbomlgkhaaProg
import Derived.Test.YthggakbomlgkhaaBoxT
import Derived.Test.YthggakbomlgkhaaEqA
import Derived.Test.YthggakbomlgkhaaOct
import Derived.Laws.StructEq
import Derived.WalkKit
import Derived.WalkSpells
namespace Go.Proofs.Ythggakbomlgkhaa.adm
open Go Go.RowKit
open Go.Proofs.Ythggakbomlgkhaa.arr Go.Proofs.Ythggakbomlgkhaa.mem Go.Proofs.Ythggakbomlgkhaa.stil Go.Proofs.Ythggakbomlgkhaa.boxt

/-- a parameter set's cells -/
def fo (f n h d a k : Int) : Array Value := #[.int .i64 f, .int .i64 n, .int .i64 h, .int .i64 d, .int .i64 a, .int .i64 k]
/-- an address' cells -/
def ad (l t k p h o : Int) : Array Value := #[.int .u64 l, .int .u64 t, .int .i64 k, .int .u64 p, .int .u64 h, .int .u64 o]
/-- a valid set -/
def okF (f n h d a k : Int) : Prop := (f = 2 ∨ f = 1) ∧ (2 ≤ n ∧ n ≤ 32) ∧ (1 ≤ d ∧ d ≤ 22) ∧ (1 ≤ h ∧ h ≤ 68) ∧ (1 ≤ a ∧ a ≤ 14) ∧ (1 ≤ k ∧ k ≤ 35) ∧ h % d = 0 ∧ h / d ≤ 9
instance (f n h d a k : Int) : Decidable (okF f n h d a k) := by unfold okF; infer_instance
/-- the set of a kind -/
def setA (k : Int) : Array Value :=
  if k = 1 then fo 2 16 63 7 12 14 else
  if k = 2 then fo 2 16 66 22 6 33 else
  if k = 3 then fo 2 24 63 7 14 17 else
  if k = 4 then fo 2 24 66 22 8 33 else
  if k = 5 then fo 2 32 64 8 14 22 else
  if k = 6 then fo 2 32 68 17 9 35 else
  if k = 7 then fo 1 16 63 7 12 14 else
  if k = 8 then fo 1 16 66 22 6 33 else
  if k = 9 then fo 1 24 63 7 14 17 else
  if k = 10 then fo 1 24 66 22 8 33 else
  if k = 11 then fo 1 32 64 8 14 22 else
  if k = 12 then fo 1 32 68 17 9 35 else
  if k = 13 then fo 1 4 1 1 2 2 else
  if k = 14 then fo 2 4 1 1 2 2 else
  fo 0 0 0 0 0 0
/-- .. and its error -/
def setE (k : Int) : Int := if 1 ≤ k ∧ k ≤ 14 then 0 else 7
theorem infoF : (Try.prog.info? 23).map (fun i => (i.zero, i.size)) = some (some (.agg (fo 0 0 0 0 0 0)), 6) := by kernel_rfl
theorem infoA : (Try.prog.info? 26).map (fun i => (i.zero, i.size)) = some (some (.agg (ad 0 0 0 0 0 0)), 6) := by kernel_rfl
theorem eq_ad (l t k p h o l' t' k' p' h' o' : Int) (w : World) : (Op.equalIn 10000 26 (.agg (ad l t k p h o)) (.agg (ad l' t' k' p' h' o'))).run Try.prog w = .ok (decide (l = l' ∧ t = t' ∧ k = k' ∧ p = p' ∧ h = h' ∧ o = o')) w := by
  unfold ad
  go_simp
  repeat' split
  all_goals simp_all
theorem eq_fo (l t k p h o l' t' k' p' h' o' : Int) (w : World) : (Op.equalIn 10000 23 (.agg (fo l t k p h o)) (.agg (fo l' t' k' p' h' o'))).run Try.prog w = .ok (decide (l = l' ∧ t = t' ∧ k = k' ∧ p = p' ∧ h = h' ∧ o = o')) w := by
  unfold fo
  go_simp
  repeat' split
  all_goals simp_all
/-- '!=' of an address and the zero one -/
theorem neq_zero (l t k p h o : Int) (w : World) : (binOp .neq 26 (.agg (ad l t k p h o)) (.agg (ad 0 0 0 0 0 0))).run Try.prog w = .ok (.bool (!decide (l = 0 ∧ t = 0 ∧ k = 0 ∧ p = 0 ∧ h = 0 ∧ o = 0))) w := by
  rw [run_neq_struct, eq_ad]; rfl
theorem built_ad (l t k p h o : Int) : Try.prog.built 26 [(0, .int .u64 l), (1, .int .u64 t), (2, .int .i64 k), (3, .int .u64 p), (4, .int .u64 h), (5, .int .u64 o)] = some (ad l t k p h o) := by kernel_rfl
theorem built_ad0 : Try.prog.built 26 [] = some (ad 0 0 0 0 0 0) := by kernel_rfl
theorem ad_size (l t k p h o : Int) : (ad l t k p h o).size = 6 := rfl
theorem fo_size (l t k p h o : Int) : (fo l t k p h o).size = 6 := rfl
theorem ad_one (l t k p h o : Int) : (ad l t k p h o).all (·.oneCell') = true := by simp [ad, Value.oneCell']
theorem fo_one (l t k p h o : Int) : (fo l t k p h o).all (·.oneCell') = true := by simp [fo, Value.oneCell']
theorem guardA : Try.prog.eqGuardType Try.prog.depth 26 = false := by kernel_rfl
/-- '!=' of two addresses, its answer told -/
theorem wpList_neqA {ops : Array Oper} {rest : List Oper} {o : Oper} {a : Act} {w : World} {Q : Exit → Act → World → Prop} (hgd : o.guard = none) (x y : Operand) (ho : o.op = .binOp .neq 26 x y 26) (xs ys : Array Value) (b : Bool)
    (hx : a.eval x = .agg xs) (hy : a.eval y = .agg ys) (hb : ∀ w, (binOp .neq 26 (.agg xs) (.agg ys)).run Try.prog w = .ok (.bool b) w) (h : wpList Try.prog ops Q rest (a.put o.dst (.bool b)) w) : wpList Try.prog ops Q (o :: rest) a w :=
  wpList_plain hgd fun K hK => by
    have h2 := hK _ _ h
    unfold Oper.wp execOp
    simp only [ho, hx, hy, Sem.run_bind, run_eqGuard_agg _ .neq _ _ _ _ _ guardA, Result.andThen_ok, hb]
    exact h2
end Go.Proofs.Ythggakbomlgkhaa.adm
