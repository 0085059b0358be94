/-
  The tables that the document asks for, as the cells of one block, and what a block keeps while they are written into it (layer 2). No function of the program is named here. Conditions: as each theorem says.
-/
import Derived.Test.YthfljfampfioaaaProg
import Derived.Test.YthfljfampfioaaaTabT
import Derived.Test.YthfljfampfioaaaArr
namespace Go.Proofs.Ythfljfampfioaaa.tabv
open Go.RowKit
open Go.Proofs.Ythfljfampfioaaa.tabm Go.Proofs.Ythfljfampfioaaa.tabd Go.Proofs.Ythfljfampfioaaa.primm Go.Proofs.Ythfljfampfioaaa.tabt Go.Proofs.Ythfljfampfioaaa.arr

def r3 (j : Nat) : Nat := rootN (ph.getD j 0) 3 % 18446744073709551616
def r2 (j : Nat) : Nat := rootN (ph.getD j 0) 2 % 18446744073709551616
/-- cell i of the tables -/
def tv (i : Nat) : Value :=
  if i < 64 then .int .u32 ((r3 i / 4294967296 : Nat) : Int)
  else if i < 72 then .int .u32 ((r2 (i - 64) / 4294967296 : Nat) : Int)
  else if i < 152 then .int .u64 ((r3 (i - 72) : Nat) : Int)
  else if i < 160 then .int .u64 ((r2 (i - 152) : Nat) : Int)
  else if i < 184 then .int .u64 (((rl 168).getD (i - 160) 0 : Nat) : Int)
  else if i < 209 then .int .i64 (((tl 24).getD (i - 184) 0 : Nat) : Int)
  else .int .i64 (((zl 256).getD (i - 209) 0 : Nat) : Int)
/-- all of them -/
def TA : Array Value := ((List.range 465).map tv).toArray
theorem ta_size : TA.size = 465 := by simp [TA]
theorem ta_get (i : Nat) (h : i < 465) : TA[i]? = some (tv i) := by simp [TA, h]
theorem tv_one (i : Nat) : (tv i).oneCell' = true := by
  unfold tv
  repeat' split
  all_goals rfl
theorem ta_one : TA.all (·.oneCell') = true := by
  rw [Array.all_eq_true_iff_forall_mem]
  intro v hv
  simp only [TA, List.mem_toArray, List.mem_map] at hv
  obtain ⟨i, -, rfl⟩ := hv
  exact tv_one i
theorem r3_lt (j : Nat) : r3 j < 18446744073709551616 := Nat.mod_lt _ (by decide)
theorem r2_lt (j : Nat) : r2 j < 18446744073709551616 := Nat.mod_lt _ (by decide)
theorem tv_small (j : Nat) (h : j < 64) : tv j = .int .u32 ((r3 j / 4294967296 : Nat) : Int) := by unfold tv; rw [if_pos h]
theorem tv_sstart (j : Nat) (h : j < 8) : tv (64 + j) = .int .u32 ((r2 j / 4294967296 : Nat) : Int) := by
  unfold tv; rw [if_neg (by omega), if_pos (by omega), show 64 + j - 64 = j by omega]
theorem tv_large (j : Nat) (h : j < 80) : tv (72 + j) = .int .u64 ((r3 j : Nat) : Int) := by
  unfold tv; rw [if_neg (by omega), if_neg (by omega), if_pos (by omega), show 72 + j - 72 = j by omega]
theorem tv_lstart (j : Nat) (h : j < 8) : tv (152 + j) = .int .u64 ((r2 j : Nat) : Int) := by
  unfold tv; rw [if_neg (by omega), if_neg (by omega), if_neg (by omega), if_pos (by omega), show 152 + j - 152 = j by omega]
theorem tv_rounds (j : Nat) (h : j < 24) : tv (160 + j) = .int .u64 (((rl 168).getD j 0 : Nat) : Int) := by
  unfold tv; rw [if_neg (by omega), if_neg (by omega), if_neg (by omega), if_neg (by omega), if_pos (by omega), show 160 + j - 160 = j by omega]
theorem tv_turns (j : Nat) (h : j < 25) : tv (184 + j) = .int .i64 (((tl 24).getD j 0 : Nat) : Int) := by
  unfold tv; rw [if_neg (by omega), if_neg (by omega), if_neg (by omega), if_neg (by omega), if_neg (by omega), if_pos (by omega), show 184 + j - 184 = j by omega]
theorem tv_zetas (j : Nat) (_h : j < 256) : tv (209 + j) = .int .i64 (((zl 256).getD j 0 : Nat) : Int) := by
  unfold tv; rw [if_neg (by omega), if_neg (by omega), if_neg (by omega), if_neg (by omega), if_neg (by omega), if_neg (by omega), show 209 + j - 209 = j by omega]

/-! ### A block into which they are written -/
/-- the result's block lies at the head of what is new, the tables' block at g, of whose cells those in S are written -/
structure Ms (T : TypeId) (w : World) (g : Nat) (S : Nat → Prop) (wr : World) : Prop where
  z : ∃ Z : Array Value, Z.size = 465 ∧ wr.heap[w.heap.size]? = some (.cells Z T (0, 0))
  th : ∀ i, i < 465 → (∃ v, wr.cell? ⟨g, i, none⟩ = some v) ∧ wr.frozen? ⟨g, i, none⟩ = false
  vs : ∀ i, i < 465 → S i → wr.cell? ⟨g, i, none⟩ = some (tv i)
  lt : w.heap.size < g ∧ g < wr.heap.size
  be : Below w.heap.size w wr
theorem Ms.lt0 {T : TypeId} {w wr : World} {g : Nat} {S : Nat → Prop} (h : Ms T w g S wr) : w.heap.size < wr.heap.size := Nat.lt_trans h.lt.1 h.lt.2
theorem Ms.call {T : TypeId} {w wr w1 : World} {g : Nat} {S : Nat → Prop} (h : Ms T w g S wr) (hb : Below wr.heap.size wr w1) : Ms T w g S w1 := by
  have h0 := h.lt0
  obtain ⟨⟨Z, hz, h1⟩, h2, h3, h4, h5⟩ := h
  have hs := hb.size
  exact ⟨⟨Z, hz, (hb.block _ h0).trans h1⟩, fun i hi => ⟨by rw [hb.cell (p := ⟨g, i, none⟩) h4.2]; exact (h2 i hi).1, by rw [hb.frozen (p := ⟨g, i, none⟩) h4.2]; exact (h2 i hi).2⟩,
    fun i hi hS => by rw [hb.cell (p := ⟨g, i, none⟩) h4.2]; exact h3 i hi hS, ⟨h4.1, by omega⟩, h5.trans (hb.mono (by omega))⟩
theorem Ms.mono {T : TypeId} {w wr : World} {g : Nat} {S S' : Nat → Prop} (h : Ms T w g S wr) (hS : ∀ i, i < 465 → S' i → S i) : Ms T w g S' wr :=
  ⟨h.z, h.th, fun i hi h' => h.vs i hi (hS i hi h'), h.lt, h.be⟩
theorem size_setCell (w : World) (a : Addr) (v : Value) : (w.setCell a v).heap.size = w.heap.size := by simp [World.setCell]
theorem Ms.set {T : TypeId} {w wr : World} {g : Nat} {S : Nat → Prop} (h : Ms T w g S wr) (a : Nat) (ha : a < 465) {v : Value} (hv : v = tv a) : Ms T w g (fun i => S i ∨ i = a) (wr.setCell ⟨g, a, none⟩ v) := by
  subst hv
  obtain ⟨⟨Z, hz, h1⟩, h2, h3, h4, h5⟩ := h
  obtain ⟨⟨old, hold⟩, -⟩ := h2 a ha
  refine ⟨⟨Z, hz, by rw [Below.heap_setCell _ _ _ _ (by show w.heap.size ≠ g; omega)]; exact h1⟩, fun i hi => ⟨?_, by rw [World.frozen?_setCell]; exact (h2 i hi).2⟩, fun i hi hS => ?_, ⟨h4.1, by rw [size_setCell]; exact h4.2⟩, h5.setCell (by show w.heap.size ≤ g; omega) _⟩
  · by_cases e : a = i
    · subst e; exact ⟨_, World.cell?_setCell_same _ _ _ hold⟩
    · rw [World.cell?_setCell_other _ _ _ _ (by intro e2; injection e2; omega)]; exact (h2 i hi).1
  · by_cases e : a = i
    · subst e; exact World.cell?_setCell_same _ _ _ hold
    · rw [World.cell?_setCell_other _ _ _ _ (by intro e2; injection e2; omega)]
      exact h3 i hi (by rcases hS with h | h; · exact h
                        · omega)
theorem size_setCells (b : Nat) : ∀ (vs : List Value) (o : Nat) (w : World), (w.setCells b o vs).heap.size = w.heap.size
  | [], _, _ => rfl
  | v :: r, o, w => by rw [World.setCells, size_setCells b r, size_setCell]
theorem below_setCells {B b : Nat} (hB : B ≤ b) : ∀ (vs : List Value) (o : Nat) (w : World), Below B w (w.setCells b o vs)
  | [], _, w => Below.refl _ _
  | v :: r, o, w => by
    rw [World.setCells]
    exact ((Below.refl B w).setCell (p := ⟨b, o, none⟩) hB v).trans (below_setCells hB r _ _)
theorem Ms.sets {T : TypeId} {w wr : World} {g : Nat} {S : Nat → Prop} (h : Ms T w g S wr) (o : Nat) (vs : List Value) (ho : o + vs.length ≤ 465) (hv : ∀ j (hj : j < vs.length), vs[j] = tv (o + j)) :
    Ms T w g (fun i => S i ∨ (o ≤ i ∧ i < o + vs.length)) (wr.setCells g o vs) := by
  obtain ⟨⟨Z, hz, h1⟩, h2, h3, h4, h5⟩ := h
  have hin := fun j hj => World.cell?_setCells_in g vs o wr (fun i hi => by obtain ⟨⟨v, hv⟩, -⟩ := h2 (o + i) (by omega); rw [hv]; rfl) j hj
  have hout : ∀ i, i < o ∨ o + vs.length ≤ i → (wr.setCells g o vs).cell? ⟨g, i, none⟩ = wr.cell? ⟨g, i, none⟩ := fun i hi => World.cell?_setCells_out g vs o wr ⟨g, i, none⟩ (fun _ _ => hi)
  refine ⟨⟨Z, hz, by rw [(below_setCells (B := g) (Nat.le_refl _) vs o wr).block _ h4.1]; exact h1⟩, fun i hi => ⟨?_, by rw [World.frozen?_setCells]; exact (h2 i hi).2⟩, fun i hi hS => ?_, ⟨h4.1, by rw [size_setCells]; exact h4.2⟩, h5.trans (below_setCells (by omega) vs o wr)⟩
  · by_cases e : o ≤ i ∧ i < o + vs.length
    · have := hin (i - o) (by omega)
      rw [show o + (i - o) = i by omega] at this
      exact ⟨_, this⟩
    · rw [hout i (by omega)]; exact (h2 i hi).1
  · by_cases e : o ≤ i ∧ i < o + vs.length
    · have := hin (i - o) (by omega)
      rw [hv (i - o) (by omega), show o + (i - o) = i by omega] at this
      exact this
    · rw [hout i (by omega)]
      exact h3 i hi (by rcases hS with h | h; · exact h
                        · omega)
theorem lk_list (k : IntKind) (ds : List Nat) (j : Nat) (hj : j < (LK k ds).toList.length) : (LK k ds).toList[j] = .int k (ds.getD j 0 : Nat) := by
  have hd : j < ds.length := by simpa [LK] using hj
  simp only [LK, List.getElem_map, List.getD_eq_getElem?_getD, List.getElem?_eq_getElem hd, Option.getD_some]
/-- a range of a block, out of the block -/
theorem Ms.range {T : TypeId} {w wr : World} {g : Nat} {S : Nat → Prop} (h : Ms T w g S wr) (hS : ∀ i, i < 465 → S i) : wr.rangeAt g 0 TA.toList := fun j v hv => by
  rw [Array.getElem?_toList] at hv
  have hj : j < 465 := by
    by_cases hlt : j < 465
    · exact hlt
    · rw [Array.getElem?_eq_none (by rw [ta_size]; omega)] at hv; cases hv
  rw [ta_get j hj] at hv
  rw [Nat.zero_add, h.vs j hj (hS j hj), hv]
end Go.Proofs.Ythfljfampfioaaa.tabv
