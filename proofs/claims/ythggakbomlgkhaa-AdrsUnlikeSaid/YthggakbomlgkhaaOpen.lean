/-
  Plain facts on what an argument that is an array looks like when it can be read as data: each element by its own reading. No function of the program is named. Conditions: as each theorem says.
-/
import Derived.Test.YthggakbomlgkhaaProg
import Derived.ProofKit
import Derived.OpenShut
import Derived.ShutString
import Derived.Carry
import Derived.SizedLaws
namespace Go.Proofs.Ythggakbomlgkhaa.opens
open Go Go.ChangeShapes Go.WideShapes Go.ChangeAt Go.RowKit

section
variable {H : Type} {enc : TypeId × Value → H} {P : Program} {w : World} {base : Nat} {spare held : Bool}

theorem okWide_array {r : Reach} {t e : TypeId} {n : Nat} {v : Value} (ht : P.underlying t = some (.array n e)) (h : Value.okWide P w r base t v) : ∃ cs, v = .agg cs ∧ cs.size = P.cellsOf t := by
  simp only [Value.okWide, ht] at h
  obtain ⟨cs, h1, h2, _⟩ := h
  exact ⟨cs, h1, h2⟩

/-- an array whose elements take one cell each -/
theorem open_array {r : Reach} {b0 b1 : Nat} {sp : Nat → Bool} {hd : Bool} {t e : TypeId} {n : Nat} {v : Value} {d : DataW H} {p : List MemPlace} (ht : P.underlying t = some (.array n e)) (hc : P.cellsOf t = n) (he : P.cellsOf e = 1)
    (hv : Value.okWide P w r b0 t v) (h : DataW.Trod enc P w b1 sp hd t v d p) :
    ∃ cs : Array Value, v = .agg cs ∧ cs.size = n ∧ ∃ m, ∀ i (hi : i < cs.size), ∃ x, DataW.trod enc P w b1 sp hd m e [cs[i]] = some x := by
  obtain ⟨cs, rfl, hsz⟩ := okWide_array ht hv
  rw [hc] at hsz
  refine ⟨cs, rfl, hsz, ?_⟩
  obtain ⟨fuel, hf⟩ := h
  obtain ⟨xs, m, -, -, -, hxs, hg⟩ := DataW.trod_array ht hf
  refine ⟨m, fun i hi => ?_⟩
  have := hg i (by omega)
  rw [he, Nat.mul_one] at this
  refine ⟨xs[i], ?_⟩
  rw [List.getElem?_eq_getElem (by omega)] at this
  rw [← this]
  congr 1
  simp only [Value.cells]
  rw [List.drop_eq_getElem_cons (by simpa using hi), List.take_succ_cons, List.take_zero]
  simp

theorem open_ints3 {r : Reach} {b0 b1 : Nat} {sp : Nat → Bool} {hd : Bool} {t e : TypeId} {k : IntKind} {v : Value} {d : DataW H} {p : List MemPlace} (ht : P.underlying t = some (.array 3 e)) (hk : P.underlying e = some (.int k)) (hc : P.cellsOf t = 3) (he : P.cellsOf e = 1)
    (hv : Value.okWide P w r b0 t v) (h : DataW.Trod enc P w b1 sp hd t v d p) :
    ∃ a b c : Int, v = .agg #[.int k a, .int k b, .int k c] ∧ (Lit.int k a).wf = true ∧ (Lit.int k b).wf = true ∧ (Lit.int k c).wf = true := by
  obtain ⟨cs, rfl, hsz, m, hg⟩ := open_array ht hc he hv h
  obtain ⟨_, h0⟩ := hg 0 (by omega)
  obtain ⟨_, h1⟩ := hg 1 (by omega)
  obtain ⟨_, h2⟩ := hg 2 (by omega)
  obtain ⟨a, e0, -, w0⟩ := DataW.trod_int hk h0
  obtain ⟨b, e1, -, w1⟩ := DataW.trod_int hk h1
  obtain ⟨c, e2, -, w2⟩ := DataW.trod_int hk h2
  refine ⟨a, b, c, ?_, w0, w1, w2⟩
  simp only [List.cons.injEq, and_true] at e0 e1 e2
  rw [← e0, ← e1, ← e2]
  congr 1
  apply Array.ext (by simpa using hsz)
  intro i h1 h2
  match i, h2 with
  | 0, _ => rfl
  | 1, _ => rfl
  | 2, _ => rfl
theorem open_ints4 {r : Reach} {b0 b1 : Nat} {sp : Nat → Bool} {hd : Bool} {t e : TypeId} {k : IntKind} {v : Value} {d : DataW H} {p : List MemPlace} (ht : P.underlying t = some (.array 4 e)) (hk : P.underlying e = some (.int k)) (hc : P.cellsOf t = 4) (he : P.cellsOf e = 1)
    (hv : Value.okWide P w r b0 t v) (h : DataW.Trod enc P w b1 sp hd t v d p) :
    ∃ a b c f : Int, v = .agg #[.int k a, .int k b, .int k c, .int k f] ∧ (Lit.int k a).wf = true ∧ (Lit.int k b).wf = true ∧ (Lit.int k c).wf = true ∧ (Lit.int k f).wf = true := by
  obtain ⟨cs, rfl, hsz, m, hg⟩ := open_array ht hc he hv h
  obtain ⟨_, h0⟩ := hg 0 (by omega)
  obtain ⟨_, h1⟩ := hg 1 (by omega)
  obtain ⟨_, h2⟩ := hg 2 (by omega)
  obtain ⟨_, h3⟩ := hg 3 (by omega)
  obtain ⟨a, e0, -, w0⟩ := DataW.trod_int hk h0
  obtain ⟨b, e1, -, w1⟩ := DataW.trod_int hk h1
  obtain ⟨c, e2, -, w2⟩ := DataW.trod_int hk h2
  obtain ⟨f, e3, -, w3⟩ := DataW.trod_int hk h3
  refine ⟨a, b, c, f, ?_, w0, w1, w2, w3⟩
  simp only [List.cons.injEq, and_true] at e0 e1 e2 e3
  rw [← e0, ← e1, ← e2, ← e3]
  congr 1
  apply Array.ext (by simpa using hsz)
  intro i h1 h2
  match i, h2 with
  | 0, _ => rfl
  | 1, _ => rfl
  | 2, _ => rfl
  | 3, _ => rfl
/-- .. with its datum -/
theorem open_array_data {r : Reach} {b0 b1 : Nat} {sp : Nat → Bool} {hd : Bool} {t e : TypeId} {n : Nat} {v : Value} {d : DataW H} {p : List MemPlace} (ht : P.underlying t = some (.array n e)) (hc : P.cellsOf t = n) (he : P.cellsOf e = 1)
    (hv : Value.okWide P w r b0 t v) (h : DataW.Trod enc P w b1 sp hd t v d p) :
    ∃ (cs : Array Value) (m : Nat) (xs : List (DataW H × List MemPlace)), v = .agg cs ∧ cs.size = n ∧ xs.length = n ∧ d = .agg (xs.map (·.1)) ∧ p = xs.flatMap (·.2) ∧ ∀ i (hi : i < cs.size), DataW.trod enc P w b1 sp hd m e [cs[i]] = xs[i]? := by
  obtain ⟨cs, rfl, hsz⟩ := okWide_array ht hv
  rw [hc] at hsz
  obtain ⟨fuel, hf⟩ := h
  obtain ⟨xs, m, -, hx, -, hxs, hg⟩ := DataW.trod_array ht hf
  simp only [Prod.mk.injEq] at hx
  refine ⟨cs, m, xs, rfl, hsz, hxs, hx.1, hx.2, fun i hi => ?_⟩
  have := hg i (by omega)
  rw [he, Nat.mul_one] at this
  rw [← this]
  congr 1
  simp only [Value.cells]
  rw [List.drop_eq_getElem_cons (by simpa using hi), List.take_succ_cons, List.take_zero]
  simp
theorem open_strings3 {r : Reach} {b0 b1 : Nat} {sp : Nat → Bool} {hd : Bool} {t e : TypeId} {v : Value} {d : DataW H} {p : List MemPlace} (ht : P.underlying t = some (.array 3 e)) (hk : P.underlying e = some .string) (hc : P.cellsOf t = 3) (he : P.cellsOf e = 1)
    (hv : Value.okWide P w r b0 t v) (h : DataW.Trod enc P w b1 sp hd t v d p) :
    ∃ a b c : ByteArray, v = .agg #[.string a, .string b, .string c] ∧ d = .agg [.lit (.string a.data.toList), .lit (.string b.data.toList), .lit (.string c.data.toList)] ∧ p = [] := by
  obtain ⟨cs, m, xs, rfl, hsz, hxs, rfl, rfl, hg⟩ := open_array_data ht hc he hv h
  match xs, hxs with
  | [x0, x1, x2], _ =>
    have h0 := hg 0 (by omega)
    have h1 := hg 1 (by omega)
    have h2 := hg 2 (by omega)
    simp only [List.getElem?_cons_zero, List.getElem?_cons_succ] at h0 h1 h2
    obtain ⟨a, e0, rfl, -⟩ := DataW.trod_string hk h0
    obtain ⟨b, e1, rfl, -⟩ := DataW.trod_string hk h1
    obtain ⟨c, e2, rfl, -⟩ := DataW.trod_string hk h2
    refine ⟨a, b, c, ?_, rfl, rfl⟩
    simp only [List.cons.injEq, and_true] at e0 e1 e2
    rw [← e0, ← e1, ← e2]
    congr 1
    apply Array.ext (by simpa using hsz)
    intro i h1 h2
    match i, h2 with
    | 0, _ => rfl
    | 1, _ => rfl
    | 2, _ => rfl
theorem weights_mem_all {e : TypeId} : ∀ {parts : List (DataW H)} {d : DataW H}, d ∈ parts → ∀ n ∈ d.weights P e, n ∈ DataW.weightsAll P e parts
  | x :: r, d, h, n, hn => by
    simp only [DataW.weightsAll, List.mem_append]
    cases List.mem_cons.1 h with
    | inl e => subst e; exact Or.inl hn
    | inr e => exact Or.inr (weights_mem_all e n hn)
  | [], d, h, n, hn => by simp at h
/-- a string in an array is no longer than the form's reach -/
theorem sized_array {ts : List TypeId} {ds : List (DataW H)} (h : (DataW.weightsEach P ts ds).all (· ≤ reachBytes) = true) {j k : Nat} {t e : TypeId} {parts : List (DataW H)} (ht : ts[j]? = some t) (hd : ds[j]? = some (.agg parts)) (hu : P.underlying t = some (.array k e))
    {bytes : List UInt8} (hb : DataW.lit (.string bytes) ∈ parts) : bytes.length ≤ reachBytes := by
  have := List.all_eq_true.1 h _ (DataW.weights_mem_each ht hd bytes.length (by
    simp only [DataW.weights, hu]
    exact weights_mem_all hb _ (by simp [DataW.weights])))
  simpa using this
end
end Go.Proofs.Ythggakbomlgkhaa.opens
