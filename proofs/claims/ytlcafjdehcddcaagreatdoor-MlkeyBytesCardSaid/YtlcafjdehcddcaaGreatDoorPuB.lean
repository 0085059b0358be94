/-
  Slices of polynomials that may be nil. No function of a program is named here. Conditions: as each theorem says.
-/
import Derived.Test.YtlcafjdehcddcaaGreatDoorPuA
namespace Go.Proofs.YtlcafjdehcddcaaGreatDoor
namespace lsl11
open Go Go.RowKit
open arr mem polys pols saml
def SL (w : World) (v : Value) (m : Nat) (q : Nat → Nat → Int) : Prop := (m = 0 ∧ v = .slice none 0 0) ∨ (1 ≤ m ∧ m ≤ 8 ∧ ∃ B, Holds w B v m q)
theorem SL.later {w w' : World} {v : Value} {m : Nat} {q : Nat → Nat → Int} (h : SL w v m q) (hb : Below w.heap.size w w') : SL w' v m q :=
 h.imp id fun ⟨h1, h2, B, h3⟩ => ⟨h1, h2, B, h3.later hb⟩
theorem sl_nil (w : World) (q : Nat → Nat → Int) : SL w (.slice none 0 0) 0 q := Or.inl ⟨rfl, rfl⟩
theorem sl_own {w : World} {B : Nat} {e : TypeId} {v : Value} {q : Nat → Nat → Int} {m : Nat} (h1 : 1 ≤ m) (h8 : m ≤ 8) (h : w.ownsRow B e 256 v m (cq q m)) : SL w v m q := Or.inr ⟨h1, h8, B, own_holds h1 h⟩
theorem sl_slice {w : World} {v : Value} {m : Nat} {q : Nat → Nat → Int} (h : SL w v m q) : ∃ a c, v = .slice a m c := by
 rcases h with ⟨rfl, rfl⟩ | ⟨-, -, B, g, c, rfl, -⟩
 ·exact ⟨_, _, rfl⟩
 ·exact ⟨_, _, rfl⟩
theorem sl_some {w : World} {v : Value} {m : Nat} {q : Nat → Nat → Int} (h : SL w v m q) (hm : 1 ≤ m) : ∃ g c, v = .slice (some ⟨g, 0, none⟩) m c := by
 rcases h with ⟨rfl, -⟩ | ⟨-, -, B, g, c, rfl, -⟩
 ·omega
 ·exact ⟨_, _, rfl⟩
theorem sl_cells {w : World} {a m c : Nat} {q : Nat → Nat → Int} (h : SL w (.slice (some ⟨a, 0, none⟩) m c) m q) (j : Nat) (hj : j < m) (i : Nat) (hi : i < 256) : w.cell? ⟨a, j * 256 + i, none⟩ = some (.int .i64 (q j i)) := by
 rcases h with ⟨rfl, -⟩ | ⟨-, -, B, g, k, he, -, -, hc⟩
 ·omega
 ·injection he with x1 x2 x3
  injection x1 with x1
  injection x1 with x1
  subst x1
  rw [Nat.mul_comm]
  exact hc j hj i hi
theorem sl_le {w : World} {v : Value} {m : Nat} {q : Nat → Nat → Int} (h : SL w v m q) : m ≤ 8 := by
 rcases h with ⟨rfl, -⟩ | ⟨-, h, -⟩
 ·omega
 ·exact h
theorem sl_row {w : World} {v : Value} {m : Nat} {q : Nat → Nat → Int} (h : SL w v m q) (j : Nat) (hj : j < m) : ∃ g c, v = .slice (some ⟨g, 0, none⟩) m c ∧ w.rangeAt g (j * 256) (FL .i64 256 (q j)).toList := by
 obtain ⟨g, c, rfl⟩ := sl_some h (by omega)
 refine ⟨g, c, rfl, ?_⟩
 have h2 := fun i hi => sl_cells h j hj i hi
 rw [Nat.mul_comm]
 exact Holds.range (p := q) fun i hi => by rw [Nat.mul_comm]; exact h2 i hi
theorem sl_holds {w : World} {B m : Nat} {v : Value} {q : Nat → Nat → Int} (h1 : 1 ≤ m) (h8 : m ≤ 8) (h : Holds w B v m q) : SL w v m q := Or.inr ⟨h1, h8, B, h⟩
end lsl11
end Go.Proofs.YtlcafjdehcddcaaGreatDoor
