/-
  An argument that is a slice of polynomials. No function of a program is named here. Conditions: as the theorem says.
-/
import Derived.Test.YtdlolhilmhlklaaDoorPot
import Derived.DataReads
import Derived.Deep.MidRow
namespace Go.Proofs.YtdlolhilmhlklaaDoor.openp
open Go Go.ChangeShapes Go.WideShapes Go.ChangeAt Go.RowKit
open Go.Proofs.YtdlolhilmhlklaaDoor.arr Go.Proofs.YtdlolhilmhlklaaDoor.mem Go.Proofs.YtdlolhilmhlklaaDoor.polys

/-- n polynomials lie from the slice's address on, if there are any -/
def Lies (w : World) (a : Option Addr) (n : Nat) (h : Nat → Nat → Int) : Prop :=
  n = 0 ∨ ∃ g o, a = some ⟨g, o, none⟩ ∧ g < w.heap.size ∧ ∀ i, i < n → w.rangeAt g (o + 256 * i) (FL .i64 256 (h i)).toList
section
variable {H : Type} {enc : TypeId × Value → H} {w : World}
theorem open_polys {r : Reach} {b0 b1 : Nat} {sp : Nat → Bool} {hd : Bool} {v : Value} {d : DataW H} {p : List MemPlace} (hv : Value.okWide Tryd.prog w r b0 30 v) (h : DataW.Trod enc Tryd.prog w b1 sp hd 30 v d p) :
    ∃ (a : Option Addr) (n c : Nat) (q : Nat → Nat → Int), v = .slice a n c ∧ Lies w a n q := by
  obtain ⟨a, n, c, rfl⟩ := okWide_slice Tryd.underlying30 hv
  have hcp : Tryd.prog.cellsOf 25 = 256 := by kernel_rfl
  have hci : Tryd.prog.cellsOf 3 = 1 := by kernel_rfl
  obtain ⟨fuel, hf⟩ := h
  rcases DataW.trod_slice Tryd.underlying30 hf with ⟨hcs, -⟩ | ⟨a', len, cap, elems, rest, m, -, hcs, -, hb, hl, hm, hlen, hel, -, -⟩
  · have e : a = none ∧ n = 0 ∧ c = 0 := by simpa [Value.cells] using hcs
    obtain ⟨rfl, rfl, rfl⟩ := e
    exact ⟨none, 0, 0, fun _ _ => 0, rfl, Or.inl rfl⟩
  · have e : a = some a' ∧ n = len ∧ c = cap := by simpa [Value.cells] using hcs
    obtain ⟨rfl, rfl, rfl⟩ := e
    have key : ∀ i, i < n → ∀ j, j < 256 → ∃ x : Int, w.cell? ((a'.add (i * 256)).add j) = some (.int .i64 x) := by
      intro i hi j hj
      have h1 := hel i hi
      rw [List.getElem?_eq_getElem (by omega), hcp, Option.bind_eq_some_iff] at h1
      obtain ⟨cs, h2, h3⟩ := h1
      obtain ⟨-, hl2, hg⟩ := World.cells?_some h2
      obtain ⟨xs, k, -, -, -, hxs, hx⟩ := DataW.trod_array Tryd.underlying25 h3
      have h4 := hx j hj
      rw [List.getElem?_eq_getElem (by omega), hci, Nat.mul_one, List.drop_eq_getElem_cons (by omega), List.take_succ_cons, List.take_zero] at h4
      obtain ⟨x, e1, -, -⟩ := DataW.trod_int Tryd.underlying3 h4
      simp only [List.cons.injEq, and_true] at e1
      refine ⟨x, ?_⟩
      rw [hg j hj, List.getElem?_eq_getElem (by omega), e1]
    by_cases hn : n = 0
    · exact ⟨some a', n, c, fun _ _ => 0, rfl, Or.inl hn⟩
    · obtain ⟨x0, h0⟩ := key 0 (by omega) 0 (by omega)
      obtain ⟨g, o, s⟩ := a'
      have hs : s = none := by simpa [Addr.add] using World.cell?_spot h0
      subst hs
      refine ⟨_, n, c, fun i j => match w.cell? ⟨g, o + 256 * i + j, none⟩ with | some (.int _ x) => x | _ => 0, rfl, Or.inr ⟨g, o, rfl, ?_, fun i hi j v hv => ?_⟩⟩
      · have := block_lt_of_cell h0
        simpa [Addr.add] using this
      · have hj : j < 256 := by
          have := (List.getElem?_eq_some_iff.1 hv).1
          rwa [Array.length_toList, fl_size] at this
        obtain ⟨x, hx⟩ := key i hi j hj
        rw [Addr.add_mid, Addr.add_mid, Nat.mul_comm i 256] at hx
        have hv2 : (FL .i64 256 fun j => match w.cell? ⟨g, o + 256 * i + j, none⟩ with | some (.int _ x) => x | _ => 0)[j]? = some v := by simpa using hv
        rw [fl_get .i64 256 _ j hj] at hv2
        simp only [hx, Option.some.injEq] at hv2
        rw [hx, ← hv2]
end
end Go.Proofs.YtdlolhilmhlklaaDoor.openp
