/-
  An element of an array by value, at a variable index (no function of the program is named here). Conditions: as each theorem says.
-/
import Derived.Test.YthfljfampfioaaaMem
import Derived.Test.YthfljfampfioaaaProg
import Derived.ChangeKeysEq
namespace Go.Proofs.Ythfljfampfioaaa.idx
open Go Go.RowKit
open Go.Proofs.Ythfljfampfioaaa.arr

theorem index_row {P : Program} {t e : TypeId} {n : Nat} (hu : P.underlying t = some (.array n e)) (he : P.plainKey e = true) (hi0 : (P.info? e).isSome = true) (hc : P.cellsOf e = 1) (C : Array Value) (v : Value) (k : Nat) (hk : k < n) (hx : C[k]? = some v) (w : World) :
    (Instr.index t (.agg C) (.int .i64 (k : Int))).run P w = .ok v w := by
  obtain ⟨i, hi⟩ := Option.isSome_iff_exists.1 hi0
  have h1 : (0 : Int) ≤ (k : Int) ∧ (k : Int) < (n : Int) := ⟨by omega, by omega⟩
  unfold Instr.index
  simp only [asIntOf, Sem.run_bind, Sem.run_pure, run_underlying hu, Result.andThen_ok, if_pos h1, run_sizeOf w hi, hc, Nat.mul_one, Int.toNat_natCast]
  exact run_part_plain w he hx
theorem index32 (L : List Nat) (k : Nat) (hl : L.length = 8) (hk : k < 8) (w : World) : (Instr.index 25 (.agg (LK .u32 L)) (.int .i64 (k : Int))).run Try.prog w = .ok (.int .u32 ((L.getD k 0 : Nat) : Int)) w :=
  index_row Try.underlying25 (by kernel_rfl) (by kernel_rfl) (by kernel_rfl) _ _ k hk (lk_get _ _ _ (by omega)) w
theorem index64 (L : List Nat) (k : Nat) (hl : L.length = 8) (hk : k < 8) (w : World) : (Instr.index 28 (.agg (LK .u64 L)) (.int .i64 (k : Int))).run Try.prog w = .ok (.int .u64 ((L.getD k 0 : Nat) : Int)) w :=
  index_row Try.underlying28 (by kernel_rfl) (by kernel_rfl) (by kernel_rfl) _ _ k hk (lk_get _ _ _ (by omega)) w
end Go.Proofs.Ythfljfampfioaaa.idx
