/-
  Plain facts on cells that are written into a block of before, while new blocks are laid (no function of the program is named here). Conditions: as each theorem says.
-/
import Derived.Test.YthggakbomlgkhaaArr
namespace Go.Proofs.Ythggakbomlgkhaa.mem
open Go Go.RowKit
open Go.Proofs.Ythggakbomlgkhaa.arr

theorem drewn_below (B : Nat) (w : World) (n : Nat) : Below B w (w.drewN n) := ⟨rfl, rfl, rfl, Nat.le_refl _, fun _ _ => rfl⟩
theorem below_alloc (w : World) (o : Obj) : Below w.heap.size w (w.alloc o) := (Below.refl _ _).alloc (Nat.le_refl _) _
theorem new1 (w : World) (x : Value) (t : TypeId) : (w.alloc (.cells #[x] t)).cell? ⟨w.heap.size, 0, none⟩ = some x := cell_at (heap_at _ _ _ rfl) rfl
theorem size_setCell (w : World) (a : Addr) (v : Value) : (w.setCell a v).heap.size = w.heap.size := by simp [World.setCell]
theorem setBoth {B : Nat} {a b : World} (h : Below B a b) (p : Addr) (v : Value) : Below B (a.setCell p v) (b.setCell p v) :=
  ⟨h.os, h.tape, h.output, by rw [size_setCell, size_setCell]; exact h.size, fun k hk => by
    simp only [World.setCell, Array.getElem?_modify, h.block k hk]⟩
theorem setRowBoth {B : Nat} {a b : World} (h : Below B a b) (g : Nat) (cs : Array Value) : Below B (a.setRow g cs) (b.setRow g cs) :=
  ⟨h.os, h.tape, h.output, by simpa [World.setRow] using h.size, fun k hk => by
    simp only [World.setRow, Array.getElem?_modify, h.block k hk]⟩
theorem size_setCells (b : Nat) : ∀ (vs : List Value) (o : Nat) (w : World), (w.setCells b o vs).heap.size = w.heap.size
  | [], _, _ => rfl
  | v :: r, o, w => by rw [World.setCells, size_setCells b r, size_setCell]
theorem setsBoth {B : Nat} (g : Nat) : ∀ (vs : List Value) (o : Nat) {a b : World}, Below B a b → Below B (a.setCells g o vs) (b.setCells g o vs)
  | [], _, _, _, h => h
  | v :: r, o, _, _, h => setsBoth g r (o + 1) (setBoth h _ v)
theorem setCells_snoc (g : Nat) (x : Value) : ∀ (vs : List Value) (o : Nat) (w : World), w.setCells g o (vs ++ [x]) = (w.setCells g o vs).setCell ⟨g, o + vs.length, none⟩ x
  | [], _, _ => rfl
  | v :: r, o, w => by
    rw [List.cons_append, World.setCells, setCells_snoc g x r, World.setCells, List.length_cons, Nat.add_assoc, Nat.add_comm 1]
/-- an array whose cells from o on are others -/
def sp (C : Array Value) : Nat → List Value → Array Value
  | _, [] => C
  | o, v :: r => sp (C.setIfInBounds o v) (o + 1) r
theorem heap_setCell {w : World} {g : Nat} {C : Array Value} {t : TypeId} {fr : Nat × Nat} (h : w.heap[g]? = some (.cells C t fr)) (o : Nat) (v : Value) : (w.setCell ⟨g, o, none⟩ v).heap[g]? = some (.cells (C.setIfInBounds o v) t fr) := by
  simp only [World.setCell, Array.getElem?_modify, h]
  simp
theorem heap_setCells {g : Nat} {t : TypeId} {fr : Nat × Nat} : ∀ (vs : List Value) (o : Nat) {w : World} {C : Array Value}, w.heap[g]? = some (.cells C t fr) → (w.setCells g o vs).heap[g]? = some (.cells (sp C o vs) t fr)
  | [], _, _, _, h => h
  | v :: r, o, _, _, h => heap_setCells r (o + 1) (heap_setCell h o v)
theorem heap_setCells_other (g k : Nat) (hk : k ≠ g) : ∀ (vs : List Value) (o : Nat) (w : World), (w.setCells g o vs).heap[k]? = w.heap[k]?
  | [], _, _ => rfl
  | v :: r, o, w => by
    rw [World.setCells, heap_setCells_other g k hk r, Below.heap_setCell _ _ _ _ hk]
/-- a block's row is written: it is the same as the block with that row -/
theorem row_of {B : Nat} {w w' : World} {g : Nat} {C C' : Array Value} {t : TypeId} {fr : Nat × Nat} (h : w.heap[g]? = some (.cells C t fr)) (ho : ∀ k, k < B → k ≠ g → w'.heap[k]? = w.heap[k]?) (hg : w'.heap[g]? = some (.cells C' t fr))
    (hs : w.heap.size ≤ w'.heap.size) (h1 : w'.os = w.os) (h2 : w'.tape = w.tape) (h3 : w'.output = w.output) : Below B (w.setRow g C') w' :=
  ⟨h1, h2, h3, by simpa [World.setRow] using hs, fun k hk => by
    by_cases e : k = g
    · subst e; rw [hg, setRow_heap w k C C' t fr h]
    · rw [ho k hk e, setRow_other w g k C' e]⟩
/-- cells are written: the same as the row -/
theorem row_setCells {B : Nat} {w : World} {g : Nat} {C : Array Value} {t : TypeId} {fr : Nat × Nat} (h : w.heap[g]? = some (.cells C t fr)) (o : Nat) (vs : List Value) : Below B (w.setRow g (sp C o vs)) (w.setCells g o vs) := by
  have hx : ∀ (vs : List Value) (o : Nat) (w : World), (w.setCells g o vs).os = w.os ∧ (w.setCells g o vs).tape = w.tape ∧ (w.setCells g o vs).output = w.output := by
    intro vs
    induction vs with
    | nil => intro o w; exact ⟨rfl, rfl, rfl⟩
    | cons v r ih => intro o w; exact ih (o + 1) (w.setCell ⟨g, o, none⟩ v)
  exact row_of h (fun k _ hk => heap_setCells_other g k hk vs o w) (heap_setCells vs o h) (by rw [size_setCells]; exact Nat.le_refl _) (hx vs o w).1 (hx vs o w).2.1 (hx vs o w).2.2
/-- the row g holds C, the other blocks of before stay as they were -/
structure At (g : Nat) (C : Array Value) (t : TypeId) (w w' : World) : Prop where
  os : w'.os = w.os
  tape : w'.tape = w.tape
  output : w'.output = w.output
  size : w.heap.size ≤ w'.heap.size
  row : w'.heap[g]? = some (.cells C t (0, 0))
  block : ∀ k, k < w.heap.size → k ≠ g → w'.heap[k]? = w.heap[k]?
theorem At.refl {g : Nat} {C : Array Value} {t : TypeId} {w : World} (h : w.heap[g]? = some (.cells C t (0, 0))) : At g C t w w := ⟨rfl, rfl, rfl, Nat.le_refl _, h, fun _ _ _ => rfl⟩
theorem At.trans {g : Nat} {C C' : Array Value} {t t' : TypeId} {a b c : World} (h : At g C t a b) (k : At g C' t' b c) : At g C' t' a c :=
  ⟨k.os.trans h.os, k.tape.trans h.tape, k.output.trans h.output, Nat.le_trans h.size k.size, k.row, fun i hi hg => (k.block i (Nat.lt_of_lt_of_le hi h.size) hg).trans (h.block i hi hg)⟩
theorem At.lt {g : Nat} {C : Array Value} {t : TypeId} {w w' : World} (h : At g C t w w') : g < w'.heap.size := by
  by_cases hlt : g < w'.heap.size
  · exact hlt
  · have := h.row; rw [Array.getElem?_eq_none (by omega)] at this; cases this
theorem At.later {g : Nat} {C : Array Value} {t : TypeId} {a b c : World} (h : At g C t a b) (k : Below b.heap.size b c) : At g C t a c :=
  ⟨k.os.trans h.os, k.tape.trans h.tape, k.output.trans h.output, Nat.le_trans h.size k.size, (k.block g h.lt).trans h.row, fun i hi hg => (k.block i (Nat.lt_of_lt_of_le hi h.size)).trans (h.block i hi hg)⟩
theorem At.set {g o : Nat} {C : Array Value} {t : TypeId} {vs : List Value} {w w' : World} (hg : w.heap[g]? = some (.cells C t (0, 0))) (hl : g < w.heap.size) (h : Below w.heap.size (w.setCells g o vs) w') : At g (sp C o vs) t w w' := by
  have hx : ∀ (vs : List Value) (o : Nat) (w : World), (w.setCells g o vs).os = w.os ∧ (w.setCells g o vs).tape = w.tape ∧ (w.setCells g o vs).output = w.output := by
    intro vs
    induction vs with
    | nil => intro o w; exact ⟨rfl, rfl, rfl⟩
    | cons v r ih => intro o w; exact ih (o + 1) (w.setCell ⟨g, o, none⟩ v)
  have h1 := hx vs o w
  refine ⟨h.os.trans h1.1, h.tape.trans h1.2.1, h.output.trans h1.2.2, by have := h.size; rw [size_setCells] at this; exact this, ?_, fun k hk hkg => ?_⟩
  · rw [h.block g hl]; exact heap_setCells vs o hg
  · rw [h.block k hk]; exact heap_setCells_other g k hkg vs o w
theorem At.below {g B : Nat} {C : Array Value} {t : TypeId} {w w' : World} (h : At g C t w w') (hB : B ≤ w.heap.size) (hg : B ≤ g) : Below B w w' :=
  ⟨h.os, h.tape, h.output, h.size, fun k hk => h.block k (by omega) (by omega)⟩
theorem At.cell {g : Nat} {C : Array Value} {t : TypeId} {w w' : World} (h : At g C t w w') (i : Nat) : w'.cell? ⟨g, i, none⟩ = C[i]? := cell_of_row w' g i C t (0, 0) h.row
theorem At.frozen {g : Nat} {C : Array Value} {t : TypeId} {w w' : World} (h : At g C t w w') (i : Nat) : w'.frozen? ⟨g, i, none⟩ = false := frozen_of_row w' g i C t h.row
theorem At.other {g k : Nat} {C T : Array Value} {t tt : TypeId} {w w' : World} (h : At g C t w w') (hk : k < w.heap.size) (hkg : k ≠ g) (hw : w.heap[k]? = some (.cells T tt (0, 0))) : w'.heap[k]? = some (.cells T tt (0, 0)) := (h.block k hk hkg).trans hw
theorem lt_of_row {g : Nat} {C : Array Value} {t : TypeId} {fr : Nat × Nat} {w : World} (h : w.heap[g]? = some (.cells C t fr)) : g < w.heap.size := by
  by_cases hlt : g < w.heap.size
  · exact hlt
  · rw [Array.getElem?_eq_none (by omega)] at h; cases h
end Go.Proofs.Ythggakbomlgkhaa.mem
