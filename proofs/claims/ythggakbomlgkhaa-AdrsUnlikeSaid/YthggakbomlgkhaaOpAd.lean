/-
  Arguments that are a parameter set (six ints) or an address. No function of the program is named. Conditions: as each theorem says.
-/
import Derived.Test.YthggakbomlgkhaaOpen
import Derived.Test.YthggakbomlgkhaaAdM
namespace Go.Proofs.Ythggakbomlgkhaa.opad
open Go Go.ChangeShapes Go.WideShapes Go.ChangeAt Go.RowKit
open Go.Proofs.Ythggakbomlgkhaa.adm

section
variable {H : Type} {enc : TypeId × Value → H} {w : World}
set_option maxRecDepth 100000 in
theorem open_forest {r : Reach} {b0 b1 : Nat} {sp : Nat → Bool} {hd : Bool} {v : Value} {d : DataW H} {p : List MemPlace} (hv : Value.okWide Try.prog w r b0 23 v) (h : DataW.Trod enc Try.prog w b1 sp hd 23 v d p) :
    ∃ f n h' d' a k : Int, v = .agg (fo f n h' d' a k) ∧ (Lit.int .i64 f).wf = true ∧ (Lit.int .i64 n).wf = true ∧ (Lit.int .i64 h').wf = true ∧ (Lit.int .i64 d').wf = true ∧ (Lit.int .i64 a).wf = true ∧ (Lit.int .i64 k).wf = true := by
  have hC : Try.prog.cellsOf 23 = 6 := by kernel_rfl
  have hI : Try.prog.cellsOf 3 = 1 := by kernel_rfl
  obtain ⟨⟨cs⟩, rfl, hsz⟩ := okWide_struct Try.underlying23 hv
  rw [hC] at hsz
  simp only [List.size_toArray] at hsz
  obtain ⟨fuel, hf⟩ := h
  obtain ⟨xs, n, _, -, hl, hlen, hg⟩ := DataW.trod_struct Try.underlying23 hf
  match cs, hsz with
  | [c0, c1, c2, c3, c4, c5], _ =>
  match xs, hlen with
  | [y0, y1, y2, y3, y4, y5], _ =>
    have h0 := hg 0 _ rfl
    have h1 := hg 1 _ rfl
    have h2 := hg 2 _ rfl
    have h3 := hg 3 _ rfl
    have h4 := hg 4 _ rfl
    have h5 := hg 5 _ rfl
    simp [Value.cells, hI] at h0 h1 h2 h3 h4 h5
    obtain ⟨f0, e0, -, w0⟩ := DataW.trod_int (by kernel_rfl) h0
    obtain ⟨f1, e1, -, w1⟩ := DataW.trod_int (by kernel_rfl) h1
    obtain ⟨f2, e2, -, w2⟩ := DataW.trod_int (by kernel_rfl) h2
    obtain ⟨f3, e3, -, w3⟩ := DataW.trod_int (by kernel_rfl) h3
    obtain ⟨f4, e4, -, w4⟩ := DataW.trod_int (by kernel_rfl) h4
    obtain ⟨f5, e5, -, w5⟩ := DataW.trod_int (by kernel_rfl) h5
    simp only [List.cons.injEq, and_true] at e0 e1 e2 e3 e4 e5
    exact ⟨f0, f1, f2, f3, f4, f5, by rw [e0, e1, e2, e3, e4, e5]; rfl, w0, w1, w2, w3, w4, w5⟩
set_option maxRecDepth 100000 in
theorem open_adrs {r : Reach} {b0 b1 : Nat} {sp : Nat → Bool} {hd : Bool} {v : Value} {d : DataW H} {p : List MemPlace} (hv : Value.okWide Try.prog w r b0 26 v) (h : DataW.Trod enc Try.prog w b1 sp hd 26 v d p) :
    ∃ l t k p' h' o : Int, v = .agg (ad l t k p' h' o) ∧ (Lit.int .u64 l).wf = true ∧ (Lit.int .u64 t).wf = true ∧ (Lit.int .i64 k).wf = true ∧ (Lit.int .u64 p').wf = true ∧ (Lit.int .u64 h').wf = true ∧ (Lit.int .u64 o).wf = true := by
  have hC : Try.prog.cellsOf 26 = 6 := by kernel_rfl
  have hI : Try.prog.cellsOf 3 = 1 := by kernel_rfl
  have hU : Try.prog.cellsOf 24 = 1 := by kernel_rfl
  obtain ⟨⟨cs⟩, rfl, hsz⟩ := okWide_struct Try.underlying26 hv
  rw [hC] at hsz
  simp only [List.size_toArray] at hsz
  obtain ⟨fuel, hf⟩ := h
  obtain ⟨xs, n, _, -, hl, hlen, hg⟩ := DataW.trod_struct Try.underlying26 hf
  match cs, hsz with
  | [c0, c1, c2, c3, c4, c5], _ =>
  match xs, hlen with
  | [y0, y1, y2, y3, y4, y5], _ =>
    have h0 := hg 0 _ rfl
    have h1 := hg 1 _ rfl
    have h2 := hg 2 _ rfl
    have h3 := hg 3 _ rfl
    have h4 := hg 4 _ rfl
    have h5 := hg 5 _ rfl
    simp [Value.cells, hI, hU] at h0 h1 h2 h3 h4 h5
    obtain ⟨f0, e0, -, w0⟩ := DataW.trod_int (by kernel_rfl) h0
    obtain ⟨f1, e1, -, w1⟩ := DataW.trod_int (by kernel_rfl) h1
    obtain ⟨f2, e2, -, w2⟩ := DataW.trod_int (by kernel_rfl) h2
    obtain ⟨f3, e3, -, w3⟩ := DataW.trod_int (by kernel_rfl) h3
    obtain ⟨f4, e4, -, w4⟩ := DataW.trod_int (by kernel_rfl) h4
    obtain ⟨f5, e5, -, w5⟩ := DataW.trod_int (by kernel_rfl) h5
    simp only [List.cons.injEq, and_true] at e0 e1 e2 e3 e4 e5
    exact ⟨f0, f1, f2, f3, f4, f5, by rw [e0, e1, e2, e3, e4, e5]; rfl, w0, w1, w2, w3, w4, w5⟩
end
theorem wf_u64 {x : Int} (h : (Lit.int .u64 x).wf = true) : 0 ≤ x ∧ x < 18446744073709551616 := by
  unfold Lit.wf at h
  rw [Bool.and_eq_true] at h
  have h1 : (0 : Int) ≤ x := of_decide_eq_true h.1
  have h2 : x ≤ 18446744073709551615 := of_decide_eq_true h.2
  omega
theorem wf_i64 {x : Int} (h : (Lit.int .i64 x).wf = true) : -9223372036854775808 ≤ x ∧ x < 9223372036854775808 := by
  unfold Lit.wf at h
  rw [Bool.and_eq_true] at h
  have h1 : -9223372036854775808 ≤ x := of_decide_eq_true h.1
  have h2 : x ≤ 9223372036854775807 := of_decide_eq_true h.2
  omega
end Go.Proofs.Ythggakbomlgkhaa.opad
