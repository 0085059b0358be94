/-
  Plain facts on what an argument that is an array of two numbers looks like. No function of the program is named. Conditions: as the theorem says. An argument that is a parameter set (eight ints). No function of the program is named. Conditions: as the theorem says.
-/
import Derived.Test.YtlcafjdehcddcaaGreatDoorPuA
namespace Go.Proofs.YtlcafjdehcddcaaGreatDoor
namespace optwo
open Go Go.ChangeShapes Go.WideShapes Go.ChangeAt Go.RowKit
open Go.Proofs.YtlcafjdehcddcaaGreatDoor.opens
section
variable {H : Type} {enc : TypeId × Value → H} {P : Program} {w : World} {base : Nat} {spare held : Bool}
theorem open_ints2 {r : Reach} {b0 b1 : Nat} {sp : Nat → Bool} {hd : Bool} {t e : TypeId} {k : IntKind} {v : Value} {d : DataW H} {p : List MemPlace} (ht : P.underlying t = some (.array 2 e)) (hk : P.underlying e = some (.int k)) (hc : P.cellsOf t = 2) (he : P.cellsOf e = 1)
 (hv : Value.okWide P w r b0 t v) (h : DataW.Trod enc P w b1 sp hd t v d p) :
 ∃ a b : Int, v = .agg #[.int k a, .int k b] ∧ (Lit.int k a).wf = true ∧ (Lit.int k b).wf = true := by
 obtain ⟨cs, rfl, hsz, m, hg⟩ := open_array ht hc he hv h
 obtain ⟨_, h0⟩ := hg 0 (by omega)
 obtain ⟨_, h1⟩ := hg 1 (by omega)
 obtain ⟨a, e0, -, w0⟩ := DataW.trod_int hk h0
 obtain ⟨b, e1, -, w1⟩ := DataW.trod_int hk h1
 refine ⟨a, b, ?_, w0, w1⟩
 simp only [List.cons.injEq, and_true] at e0 e1
 rw [← e0, ← e1]
 congr 1
 apply Array.ext (by simpa using hsz)
 intro i h1 h2
 match i, h2 with
 | 0, _ => rfl
 | 1, _ => rfl
end
end optwo
namespace lattm
open Go Go.ChangeShapes Go.WideShapes Go.ChangeAt Go.RowKit
section
variable {H : Type} {enc : TypeId × Value → H} {w : World}
set_option maxRecDepth 100000 in
theorem open_lattice {r : Reach} {b0 b1 : Nat} {sp : Nat → Bool} {hd : Bool} {v : Value} {d : DataW H} {p : List MemPlace} (hv : Value.okWide Tryz.prog w r b0 23 v) (h : DataW.Trod enc Tryz.prog w b1 sp hd 23 v d p) :
 ∃ k l e t a b o s : Int, v = .agg #[.int .i64 k, .int .i64 l, .int .i64 e, .int .i64 t, .int .i64 a, .int .i64 b, .int .i64 o, .int .i64 s] := by
 have hC : Tryz.prog.cellsOf 23 = 8 := by kernel_rfl
 have hI : Tryz.prog.cellsOf 3 = 1 := by kernel_rfl
 obtain ⟨⟨cs⟩, rfl, hsz⟩ := okWide_struct Tryz.underlying23 hv
 rw [hC] at hsz
 simp only [List.size_toArray] at hsz
 obtain ⟨fuel, hf⟩ := h
 obtain ⟨xs, n, _, -, hl, hlen, hg⟩ := DataW.trod_struct Tryz.underlying23 hf
 match cs, hsz with
 | [c0, c1, c2, c3, c4, c5, c6, c7], _ =>
 match xs, hlen with
 | [y0, y1, y2, y3, y4, y5, y6, y7], _ =>
  have h0 := hg 0 _ rfl
  have h1 := hg 1 _ rfl
  have h2 := hg 2 _ rfl
  have h3 := hg 3 _ rfl
  have h4 := hg 4 _ rfl
  have h5 := hg 5 _ rfl
  have h6 := hg 6 _ rfl
  have h7 := hg 7 _ rfl
  simp [Value.cells, hI] at h0 h1 h2 h3 h4 h5 h6 h7
  obtain ⟨k, e0, -, -⟩ := DataW.trod_int (by kernel_rfl) h0
  obtain ⟨l, e1, -, -⟩ := DataW.trod_int (by kernel_rfl) h1
  obtain ⟨e, e2, -, -⟩ := DataW.trod_int (by kernel_rfl) h2
  obtain ⟨t, e3, -, -⟩ := DataW.trod_int (by kernel_rfl) h3
  obtain ⟨a, e4, -, -⟩ := DataW.trod_int (by kernel_rfl) h4
  obtain ⟨b, e5, -, -⟩ := DataW.trod_int (by kernel_rfl) h5
  obtain ⟨o, e6, -, -⟩ := DataW.trod_int (by kernel_rfl) h6
  obtain ⟨s, e7, -, -⟩ := DataW.trod_int (by kernel_rfl) h7
  simp only [List.cons.injEq, and_true] at e0 e1 e2 e3 e4 e5 e6 e7
  exact ⟨k, l, e, t, a, b, o, s, by rw [e0, e1, e2, e3, e4, e5, e6, e7]⟩
end
end lattm
end Go.Proofs.YtlcafjdehcddcaaGreatDoor
