/-
  An argument that is a sponge. No function of the program is named. Conditions: as each theorem says.
-/
import Derived.Test.YtpibnfpgokjnpaaDoorSp0
import Derived.Test.YtpibnfpgokjnpaaDoorWds
import Derived.Lib.SmallJoins
import Derived.OpenShut
namespace Go.Proofs.YtpibnfpgokjnpaaDoor.spon
open Go Go.ChangeShapes Go.WideShapes Go.ChangeAt Go.RowKit
open Go.Proofs.YtpibnfpgokjnpaaDoor.arr Go.Proofs.YtpibnfpgokjnpaaDoor.kecm Go.Proofs.YtpibnfpgokjnpaaDoor.rspa

section
variable {H : Type} {enc : TypeId × Value → H} {w : World}
open Go.Joins (trod_struct4)
def natAt : Option Value → Nat
  | some (.int _ z) => z.toNat
  | _ => 0
theorem piece (L : List Value) (h : L.length = 28) (i : Nat) (hi : i < 28) : (L.drop i).take 1 = [L[i]'(by omega)] := by
  rw [List.drop_eq_getElem_cons (by omega), List.take_succ_cons, List.take_zero]
theorem open_sponge {r : Reach} {b0 b1 : Nat} {sp : Nat → Bool} {hd : Bool} {v : Value} {d : DataW H} {p : List MemPlace} (hv : Value.okWide Tryd.prog w r b0 25 v) (h : DataW.Trod enc Tryd.prog w b1 sp hd 25 v d p) :
    ∃ (k a : Int) (o : Bool) (l : List Nat), v = .agg (SC k l a o) ∧ St l := by
  have hC : Tryd.prog.cellsOf 25 = 28 := by kernel_rfl
  have hA : Tryd.prog.cellsOf 23 = 25 := by kernel_rfl
  have hI : Tryd.prog.cellsOf 3 = 1 := by kernel_rfl
  have hB : Tryd.prog.cellsOf 4 = 1 := by kernel_rfl
  have hU : Tryd.prog.cellsOf 22 = 1 := by kernel_rfl
  obtain ⟨cs, rfl, hsz⟩ := okWide_struct Tryd.underlying25 hv
  rw [hC] at hsz
  obtain ⟨fuel, hf⟩ := h
  obtain ⟨y0, y1, y2, y3, n, -, -, h0, h1, h2, h3⟩ := trod_struct4 Tryd.underlying25 hf
  simp only [Value.cells, hI, hB, hA] at h0 h1 h2 h3
  have hL : cs.toList.length = 28 := by rw [Array.length_toList]; exact hsz
  rw [piece cs.toList hL 0 (by decide)] at h0
  rw [piece cs.toList hL 26 (by decide)] at h2
  rw [piece cs.toList hL 27 (by decide)] at h3
  obtain ⟨k, e0, -, -⟩ := DataW.trod_int (by kernel_rfl) h0
  obtain ⟨a, e2, -, -⟩ := DataW.trod_int (by kernel_rfl) h2
  obtain ⟨o, e3, -⟩ := DataW.trod_bool (by kernel_rfl) h3
  obtain ⟨xs, m, -, -, -, hxs, hg⟩ := DataW.trod_array (n := 25) (e := 22) (by kernel_rfl) h1
  have key : ∀ i (hi : i < 25), ∃ x : Nat, cs.toList[1 + i]'(by omega) = .int .u64 (x : Int) ∧ x < 18446744073709551616 := by
    intro i hi
    have hx := hg i hi
    rw [hU, Nat.mul_one] at hx
    have e : (((cs.toList.drop 1).take 25).drop i).take 1 = [cs.toList[1 + i]'(by omega)] := by
      rw [List.drop_take, List.drop_drop, List.take_take, show min 1 (25 - i) = 1 by omega]
      exact piece cs.toList hL (1 + i) (by omega)
    rw [e] at hx
    obtain ⟨y, hy⟩ : ∃ y, xs[i]? = some y := ⟨_, List.getElem?_eq_getElem (by omega)⟩
    rw [hy] at hx
    obtain ⟨z, e4, -, w0⟩ := DataW.trod_int (by kernel_rfl) hx
    have hb := bounds_u64 w0
    obtain ⟨x, rfl⟩ := Int.eq_ofNat_of_zero_le hb.1
    simp only [List.cons.injEq, and_true] at e4
    exact ⟨x, e4, by omega⟩
  refine ⟨k, a, o, (List.range 25).map fun i => natAt cs[1 + i]?, ?_, ⟨by simp, ?_⟩⟩
  · congr 1
    apply Array.ext (by rw [hsz, sc_size k a o (by simp)])
    intro i h1 h2
    have g1 : cs[i]? = some cs[i] := Array.getElem?_eq_getElem h1
    have g2 := Array.getElem?_eq_getElem h2
    have hi : i = 0 ∨ (∃ j, j < 25 ∧ i = 1 + j) ∨ i = 26 ∨ i = 27 := by
      by_cases i0 : i = 0
      · exact Or.inl i0
      · by_cases i1 : i < 26
        · exact Or.inr (Or.inl ⟨i - 1, by omega, by omega⟩)
        · omega
    rcases hi with rfl | ⟨j, hj, rfl⟩ | rfl | rfl
    · rw [sc_kind] at g2
      have e5 : cs[0] = .int .i64 k := by simpa using e0
      rw [e5]; exact Option.some.inj g2
    · obtain ⟨x, hx, hlt⟩ := key j hj
      have e5 : cs[1 + j] = .int .u64 (x : Int) := by simpa using hx
      rw [sc_lane k a o (by simp) j hj] at g2
      have e6 : g ((List.range 25).map fun i => natAt cs[1 + i]?) j = x := by
        unfold g
        rw [List.getD_eq_getElem?_getD, List.getElem?_map, List.getElem?_range hj]
        simp [g1, e5, natAt]
      rw [e6] at g2
      rw [e5]; exact Option.some.inj g2
    · rw [sc_at k a o (by simp)] at g2
      have e5 : cs[26] = .int .i64 a := by simpa using e2
      rw [e5]; exact Option.some.inj g2
    · rw [sc_out k a o (by simp)] at g2
      have e5 : cs[27] = .bool o := by simpa using e3
      rw [e5]; exact Option.some.inj g2
  · intro j
    unfold g
    by_cases hj : j < 25
    · obtain ⟨x, hx, hlt⟩ := key j hj
      have e5 : cs[1 + j]? = some (.int .u64 (x : Int)) := by rw [Array.getElem?_eq_getElem (by omega)]; exact congrArg some (by simpa using hx)
      rw [List.getD_eq_getElem?_getD, List.getElem?_map, List.getElem?_range hj]
      simp [e5, natAt]; exact hlt
    · rw [List.getD_eq_getElem?_getD, List.getElem?_eq_none (by simpa using Nat.le_of_not_lt hj)]
      decide
end
end Go.Proofs.YtpibnfpgokjnpaaDoor.spon
