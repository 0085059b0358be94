/-
  Polynomials in a row in one block: what the cells are, one of them written, a slice of them. No function of a program is named here. Conditions: as each theorem says.
-/
import Derived.Test.YtdlolhilmhlklaaDoorBiD
import Derived.Lib.Strings
namespace Go.Proofs.YtdlolhilmhlklaaDoor.pols
open Go Go.RowKit
open Go.Proofs.YtdlolhilmhlklaaDoor.arr Go.Proofs.YtdlolhilmhlklaaDoor.mem Go.Proofs.YtdlolhilmhlklaaDoor.polys Go.Proofs.YtdlolhilmhlklaaDoor.rbitb Go.Proofs.YtdlolhilmhlklaaDoor.rbitc Go.Proofs.YtdlolhilmhlklaaDoor.rbitu

/-- m polynomials as cells -/
def RW (m : Nat) (p : Nat → Nat → Int) : Array Value := FL .i64 (256 * m) (fun j => p (j / 256) (j % 256))
theorem rw_size (m : Nat) (p : Nat → Nat → Int) : (RW m p).size = 256 * m := fl_size _ _ _
theorem rw_congr {m : Nat} {p q : Nat → Nat → Int} (h : ∀ i, i < m → ∀ k, k < 256 → p i k = q i k) : RW m p = RW m q :=
  fl_congr _ _ fun j hj => h _ (by omega) _ (by omega)
theorem rw_set (m : Nat) (p : Nat → Nat → Int) (i b : Nat) (hb : b < 256) (v : Int) : (RW m p).setIfInBounds (256 * i + b) (.int .i64 v) = RW m (fun i' => if i' = i then upd (p i) b v else p i') := by
  unfold RW
  rw [fl_set]
  refine fl_congr _ _ fun j _ => ?_
  show upd (fun j => p (j / 256) (j % 256)) (256 * i + b) v j = (if j / 256 = i then upd (p i) b v else p (j / 256)) (j % 256)
  unfold upd
  by_cases e : j = 256 * i + b
  · subst e
    rw [if_pos rfl, if_pos (by omega)]
    show v = if (256 * i + b) % 256 = b then v else _
    rw [if_pos (by omega)]
  · rw [if_neg e]
    by_cases e2 : j / 256 = i
    · rw [if_pos e2]
      show p (j / 256) (j % 256) = if j % 256 = b then v else _
      rw [if_neg (by omega), e2]
    · rw [if_neg e2]
theorem rw_cell {w : World} {g : Nat} {t : TypeId} {m : Nat} {p : Nat → Nat → Int} (h : w.heap[g]? = some (.cells (RW m p) t (0, 0))) (i k : Nat) (hi : i < m) (hk : k < 256) : w.cell? ⟨g, 256 * i + k, none⟩ = some (.int .i64 (p i k)) := by
  have h1 := fl_at h (256 * i + k) (by omega)
  rw [show (256 * i + k) / 256 = i by omega, show (256 * i + k) % 256 = k by omega] at h1
  exact h1
theorem made_rw (m : Nat) : madeCells (FL .i64 256 fun _ => 0) (m * 256) = RW m (fun _ _ => 0) := by
  apply Array.ext (by rw [size_madeCells, rw_size]; omega)
  intro i h1 h2
  have hi : i < 256 * m := by rw [rw_size] at h2; exact h2
  have e2 := fl_get .i64 (256 * m) (fun _ => 0) i hi
  have e3 : (RW m (fun _ _ => 0))[i]? = some (.int .i64 0) := e2
  rw [Array.getElem?_eq_getElem h2] at e3
  rw [Option.some.inj e3]
  have e4 := fl_get .i64 256 (fun _ => 0) (i % 256) (by omega)
  simp only [madeCells, Array.getElem_map, Array.getElem_range, fl_size]
  rw [getElem!_def, e4]
/-- a slice of m polynomials in memory of its own -/
def Holds (w : World) (B : Nat) (v : Value) (m : Nat) (p : Nat → Nat → Int) : Prop :=
  ∃ g c, v = .slice (some ⟨g, 0, none⟩) m c ∧ B ≤ g ∧ g < w.heap.size ∧ ∀ i, i < m → ∀ k, k < 256 → w.cell? ⟨g, 256 * i + k, none⟩ = some (.int .i64 (p i k))
theorem cl_length (β : Nat → Nat) (om m : Nat) : (cl β om m).length = 256 * m := by
  induction m with
  | zero => rfl
  | succ m ih => rw [cl, List.length_append, ih, Array.length_toList, fl_size]; omega
theorem cl_get (β : Nat → Nat) (om m : Nat) : ∀ i, i < m → ∀ k, k < 256 → (cl β om m)[256 * i + k]? = some (.int .i64 (ply β om i k)) := by
  induction m with
  | zero => intro i h; omega
  | succ m ih =>
    intro i hi k hk
    rw [cl]
    by_cases e : i = m
    · subst e
      rw [List.getElem?_append_right (by rw [cl_length]; omega), cl_length, show 256 * i + k - 256 * i = k by omega]
      have := fl_get .i64 256 (ply β om i) k hk
      simpa using this
    · rw [List.getElem?_append_left (by rw [cl_length]; omega)]
      exact ih i (by omega) k hk
theorem own_holds {w : World} {B : Nat} {e : TypeId} {v : Value} {β : Nat → Nat} {om m : Nat} (hm : 1 ≤ m) (h : w.ownsRow B e 256 v m (cl β om m)) : Holds w B v m (ply β om) := by
  obtain ⟨g, cap, rfl⟩ := rbitd.owns_some (by omega) h
  have hb := h.lt g rfl
  refine ⟨g, cap, rfl, hb.1, hb.2, fun i hi k hk => ?_⟩
  rw [h.cellAt (256 * i + k) (by omega)]
  exact cl_get β om m i hi k hk
theorem Holds.later {w w' : World} {B : Nat} {v : Value} {m : Nat} {p : Nat → Nat → Int} (h : Holds w B v m p) (hb : Below w.heap.size w w') : Holds w' B v m p := by
  obtain ⟨g, c, hv, h1, h2, h3⟩ := h
  exact ⟨g, c, hv, h1, Nat.lt_of_lt_of_le h2 hb.size, fun i hi k hk => (hb.cell (p := ⟨g, 256 * i + k, none⟩) h2).trans (h3 i hi k hk)⟩
/-- what a slice of polynomials reads as, one by one -/
theorem Holds.range {w : World} {g : Nat} {p : Nat → Nat → Int} {i : Nat} (h : ∀ k, k < 256 → w.cell? ⟨g, 256 * i + k, none⟩ = some (.int .i64 (p i k))) : w.rangeAt g (256 * i) (FL .i64 256 (p i)).toList := by
  intro j v hv
  have hj : j < 256 := by
    have := (List.getElem?_eq_some_iff.1 hv).1
    rwa [Array.length_toList, fl_size] at this
  have h2 := fl_get .i64 256 (p i) j hj
  have hv2 : (FL .i64 256 (p i))[j]? = some v := by simpa using hv
  rw [h2] at hv2
  rw [h j hj, hv2]
/-- the bytes of a part of a string -/
theorem bys_extract (s : ByteArray) (a b j : Nat) (hj : j < b - a) : (bys (s.extract a b)).getD j 0 = (bys s).getD (a + j) 0 := by
  unfold bys
  rw [Lib.extract_eq]
  simp only [List.getD_eq_getElem?_getD, List.getElem?_map, List.getElem?_take, List.getElem?_drop]
  rw [if_pos hj]
theorem size_extract (s : ByteArray) (a b : Nat) (hab : a ≤ b) (hb : b ≤ s.size) : (s.extract a b).size = b - a := by
  rw [ByteArray.size_extract]; omega
end Go.Proofs.YtdlolhilmhlklaaDoor.pols
