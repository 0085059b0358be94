/-
  Plain facts on what an argument that is an array looks like when it can be read as data: each element by its own reading. No function of the program is named. Conditions: as each theorem says.
  Comparing two values of type api.Tables, or two lists of round constants, by '==': it answers, whatever the numbers are; what is the same is equal. Conditions: the cells are numbers of the fields' kinds.
  An argument that is an array of words of 64 bits, and '==' between two such arrays. No function of the program is named. Conditions: as each theorem says.
-/
import Derived.Test.YtpibnfpgokjnpaaDoorProg
import Derived.Test.YtpibnfpgokjnpaaDoorTMb
import Derived.ProofKit
import Derived.OpenShut
import Derived.ShutString
import Derived.Carry
import Derived.SizedLaws
import Derived.Laws.StructEq
import Derived.ChangeKeysEq
namespace Go.Proofs.YtpibnfpgokjnpaaDoor.opens
open Go Go.ChangeShapes Go.WideShapes Go.ChangeAt Go.RowKit

section
variable {H : Type} {enc : TypeId × Value → H} {P : Program} {w : World} {base : Nat} {spare held : Bool}

theorem okWide_array {r : Reach} {t e : TypeId} {n : Nat} {v : Value} (ht : P.underlying t = some (.array n e)) (h : Value.okWide P w r base t v) : ∃ cs, v = .agg cs ∧ cs.size = P.cellsOf t := by
  simp only [Value.okWide, ht] at h
  obtain ⟨cs, h1, h2, _⟩ := h
  exact ⟨cs, h1, h2⟩

/-- an array whose elements take one cell each -/
theorem open_array {r : Reach} {b0 b1 : Nat} {sp : Nat → Bool} {hd : Bool} {t e : TypeId} {n : Nat} {v : Value} {d : DataW H} {p : List MemPlace} (ht : P.underlying t = some (.array n e)) (hc : P.cellsOf t = n) (he : P.cellsOf e = 1)
    (hv : Value.okWide P w r b0 t v) (h : DataW.Trod enc P w b1 sp hd t v d p) :
    ∃ cs : Array Value, v = .agg cs ∧ cs.size = n ∧ ∃ m, ∀ i (hi : i < cs.size), ∃ x, DataW.trod enc P w b1 sp hd m e [cs[i]] = some x := by
  obtain ⟨cs, rfl, hsz⟩ := okWide_array ht hv
  rw [hc] at hsz
  refine ⟨cs, rfl, hsz, ?_⟩
  obtain ⟨fuel, hf⟩ := h
  obtain ⟨xs, m, -, -, -, hxs, hg⟩ := DataW.trod_array ht hf
  refine ⟨m, fun i hi => ?_⟩
  have := hg i (by omega)
  rw [he, Nat.mul_one] at this
  refine ⟨xs[i], ?_⟩
  rw [List.getElem?_eq_getElem (by omega)] at this
  rw [← this]
  congr 1
  simp only [Value.cells]
  rw [List.drop_eq_getElem_cons (by simpa using hi), List.take_succ_cons, List.take_zero]
  simp

theorem open_ints3 {r : Reach} {b0 b1 : Nat} {sp : Nat → Bool} {hd : Bool} {t e : TypeId} {k : IntKind} {v : Value} {d : DataW H} {p : List MemPlace} (ht : P.underlying t = some (.array 3 e)) (hk : P.underlying e = some (.int k)) (hc : P.cellsOf t = 3) (he : P.cellsOf e = 1)
    (hv : Value.okWide P w r b0 t v) (h : DataW.Trod enc P w b1 sp hd t v d p) :
    ∃ a b c : Int, v = .agg #[.int k a, .int k b, .int k c] ∧ (Lit.int k a).wf = true ∧ (Lit.int k b).wf = true ∧ (Lit.int k c).wf = true := by
  obtain ⟨cs, rfl, hsz, m, hg⟩ := open_array ht hc he hv h
  obtain ⟨_, h0⟩ := hg 0 (by omega)
  obtain ⟨_, h1⟩ := hg 1 (by omega)
  obtain ⟨_, h2⟩ := hg 2 (by omega)
  obtain ⟨a, e0, -, w0⟩ := DataW.trod_int hk h0
  obtain ⟨b, e1, -, w1⟩ := DataW.trod_int hk h1
  obtain ⟨c, e2, -, w2⟩ := DataW.trod_int hk h2
  refine ⟨a, b, c, ?_, w0, w1, w2⟩
  simp only [List.cons.injEq, and_true] at e0 e1 e2
  rw [← e0, ← e1, ← e2]
  congr 1
  apply Array.ext (by simpa using hsz)
  intro i h1 h2
  match i, h2 with
  | 0, _ => rfl
  | 1, _ => rfl
  | 2, _ => rfl
theorem open_ints4 {r : Reach} {b0 b1 : Nat} {sp : Nat → Bool} {hd : Bool} {t e : TypeId} {k : IntKind} {v : Value} {d : DataW H} {p : List MemPlace} (ht : P.underlying t = some (.array 4 e)) (hk : P.underlying e = some (.int k)) (hc : P.cellsOf t = 4) (he : P.cellsOf e = 1)
    (hv : Value.okWide P w r b0 t v) (h : DataW.Trod enc P w b1 sp hd t v d p) :
    ∃ a b c f : Int, v = .agg #[.int k a, .int k b, .int k c, .int k f] ∧ (Lit.int k a).wf = true ∧ (Lit.int k b).wf = true ∧ (Lit.int k c).wf = true ∧ (Lit.int k f).wf = true := by
  obtain ⟨cs, rfl, hsz, m, hg⟩ := open_array ht hc he hv h
  obtain ⟨_, h0⟩ := hg 0 (by omega)
  obtain ⟨_, h1⟩ := hg 1 (by omega)
  obtain ⟨_, h2⟩ := hg 2 (by omega)
  obtain ⟨_, h3⟩ := hg 3 (by omega)
  obtain ⟨a, e0, -, w0⟩ := DataW.trod_int hk h0
  obtain ⟨b, e1, -, w1⟩ := DataW.trod_int hk h1
  obtain ⟨c, e2, -, w2⟩ := DataW.trod_int hk h2
  obtain ⟨f, e3, -, w3⟩ := DataW.trod_int hk h3
  refine ⟨a, b, c, f, ?_, w0, w1, w2, w3⟩
  simp only [List.cons.injEq, and_true] at e0 e1 e2 e3
  rw [← e0, ← e1, ← e2, ← e3]
  congr 1
  apply Array.ext (by simpa using hsz)
  intro i h1 h2
  match i, h2 with
  | 0, _ => rfl
  | 1, _ => rfl
  | 2, _ => rfl
  | 3, _ => rfl
/-- .. with its datum -/
theorem open_array_data {r : Reach} {b0 b1 : Nat} {sp : Nat → Bool} {hd : Bool} {t e : TypeId} {n : Nat} {v : Value} {d : DataW H} {p : List MemPlace} (ht : P.underlying t = some (.array n e)) (hc : P.cellsOf t = n) (he : P.cellsOf e = 1)
    (hv : Value.okWide P w r b0 t v) (h : DataW.Trod enc P w b1 sp hd t v d p) :
    ∃ (cs : Array Value) (m : Nat) (xs : List (DataW H × List MemPlace)), v = .agg cs ∧ cs.size = n ∧ xs.length = n ∧ d = .agg (xs.map (·.1)) ∧ p = xs.flatMap (·.2) ∧ ∀ i (hi : i < cs.size), DataW.trod enc P w b1 sp hd m e [cs[i]] = xs[i]? := by
  obtain ⟨cs, rfl, hsz⟩ := okWide_array ht hv
  rw [hc] at hsz
  obtain ⟨fuel, hf⟩ := h
  obtain ⟨xs, m, -, hx, -, hxs, hg⟩ := DataW.trod_array ht hf
  simp only [Prod.mk.injEq] at hx
  refine ⟨cs, m, xs, rfl, hsz, hxs, hx.1, hx.2, fun i hi => ?_⟩
  have := hg i (by omega)
  rw [he, Nat.mul_one] at this
  rw [← this]
  congr 1
  simp only [Value.cells]
  rw [List.drop_eq_getElem_cons (by simpa using hi), List.take_succ_cons, List.take_zero]
  simp
theorem open_strings3 {r : Reach} {b0 b1 : Nat} {sp : Nat → Bool} {hd : Bool} {t e : TypeId} {v : Value} {d : DataW H} {p : List MemPlace} (ht : P.underlying t = some (.array 3 e)) (hk : P.underlying e = some .string) (hc : P.cellsOf t = 3) (he : P.cellsOf e = 1)
    (hv : Value.okWide P w r b0 t v) (h : DataW.Trod enc P w b1 sp hd t v d p) :
    ∃ a b c : ByteArray, v = .agg #[.string a, .string b, .string c] ∧ d = .agg [.lit (.string a.data.toList), .lit (.string b.data.toList), .lit (.string c.data.toList)] ∧ p = [] := by
  obtain ⟨cs, m, xs, rfl, hsz, hxs, rfl, rfl, hg⟩ := open_array_data ht hc he hv h
  match xs, hxs with
  | [x0, x1, x2], _ =>
    have h0 := hg 0 (by omega)
    have h1 := hg 1 (by omega)
    have h2 := hg 2 (by omega)
    simp only [List.getElem?_cons_zero, List.getElem?_cons_succ] at h0 h1 h2
    obtain ⟨a, e0, rfl, -⟩ := DataW.trod_string hk h0
    obtain ⟨b, e1, rfl, -⟩ := DataW.trod_string hk h1
    obtain ⟨c, e2, rfl, -⟩ := DataW.trod_string hk h2
    refine ⟨a, b, c, ?_, rfl, rfl⟩
    simp only [List.cons.injEq, and_true] at e0 e1 e2
    rw [← e0, ← e1, ← e2]
    congr 1
    apply Array.ext (by simpa using hsz)
    intro i h1 h2
    match i, h2 with
    | 0, _ => rfl
    | 1, _ => rfl
    | 2, _ => rfl
theorem weights_mem_all {e : TypeId} : ∀ {parts : List (DataW H)} {d : DataW H}, d ∈ parts → ∀ n ∈ d.weights P e, n ∈ DataW.weightsAll P e parts
  | x :: r, d, h, n, hn => by
    simp only [DataW.weightsAll, List.mem_append]
    cases List.mem_cons.1 h with
    | inl e => subst e; exact Or.inl hn
    | inr e => exact Or.inr (weights_mem_all e n hn)
  | [], d, h, n, hn => by simp at h
/-- a string in an array is no longer than the form's reach -/
theorem sized_array {ts : List TypeId} {ds : List (DataW H)} (h : (DataW.weightsEach P ts ds).all (· ≤ reachBytes) = true) {j k : Nat} {t e : TypeId} {parts : List (DataW H)} (ht : ts[j]? = some t) (hd : ds[j]? = some (.agg parts)) (hu : P.underlying t = some (.array k e))
    {bytes : List UInt8} (hb : DataW.lit (.string bytes) ∈ parts) : bytes.length ≤ reachBytes := by
  have := List.all_eq_true.1 h _ (DataW.weights_mem_each ht hd bytes.length (by
    simp only [DataW.weights, hu]
    exact weights_mem_all hb _ (by simp [DataW.weights])))
  simpa using this
end
end Go.Proofs.YtpibnfpgokjnpaaDoor.opens

namespace Go.Proofs.YtpibnfpgokjnpaaDoor.eqs
open Go.RowKit
open Go.Proofs.YtpibnfpgokjnpaaDoor.tabv Go.Proofs.YtpibnfpgokjnpaaDoor.arr

/-- the number in cell i -/
def intAt (xs : Array Value) (i : Nat) : Int := match xs[i]? with
  | some (.int _ a) => a
  | _ => 0
/-- cells o to o + n are numbers of kind k -/
def Nums (k : IntKind) (xs : Array Value) (o n : Nat) : Prop := ∀ i, i < n → ∃ a, xs[o + i]? = some (.int k a)
section
variable {P : Program}
theorem run_part_int (w : World) {e : TypeId} {k : IntKind} (he : P.underlying e = some (.int k)) {xs : Array Value} {i : Nat} {v : Value} (hx : xs[i]? = some v) : (part e xs i).run P w = .ok v w := by
  have h : (isAgg e).run P w = .ok false w := by
    unfold isAgg
    rw [Sem.run_bind, run_underlying he w]
    simp
  unfold part
  simp [Sem.run_bind, h, hx]
theorem run_eqItems_int (w : World) (d : Nat) {e : TypeId} {k : IntKind} (he : P.underlying e = some (.int k)) (xs ys : Array Value) : ∀ is : List Nat, (∀ i ∈ is, ∃ a, xs[i]? = some (.int k a)) → (∀ i ∈ is, ∃ a, ys[i]? = some (.int k a)) →
    (Op.eqItems (d + 1) e 1 xs ys is).run P w = .ok (is.all fun i => intAt xs i == intAt ys i) w
  | [], _, _ => by simp [Op.eqItems]
  | i :: is, hx, hy => by
    obtain ⟨a, ha⟩ := hx i (by simp)
    obtain ⟨b, hb⟩ := hy i (by simp)
    have ih := run_eqItems_int w d he xs ys is (fun j hj => hx j (by simp [hj])) (fun j hj => hy j (by simp [hj]))
    have e1 : intAt xs i = a := by simp [intAt, ha]
    have e2 : intAt ys i = b := by simp [intAt, hb]
    simp only [Op.eqItems, Nat.mul_one, Sem.run_bind, run_part_int w he ha, run_part_int w he hb, Result.andThen_ok, run_equalIn_int w d e k k a b he, List.all_cons, e1, e2]
    cases hab : (a == b)
    · simp
    · simpa using ih
theorem run_eq_array (w : World) (d : Nat) {t e : TypeId} {n : Nat} {k : IntKind} {i : TypeInfo} (ht : P.underlying t = some (.array n e)) (hi : P.info? e = some i) (hc : P.cellsOf e = 1) (he : P.underlying e = some (.int k)) (xs ys : Array Value)
    (hx : Nums k xs 0 n) (hy : Nums k ys 0 n) : (Op.equalIn (d + 2) t (.agg xs) (.agg ys)).run P w = .ok ((List.range n).all fun i => intAt xs i == intAt ys i) w := by
  rw [run_equalIn_array w (d + 1) xs ys ht hi, hc]
  exact run_eqItems_int w d he xs ys _ (fun j hj => by have := hx j (by simpa using hj); rwa [Nat.zero_add] at this) (fun j hj => by have := hy j (by simpa using hj); rwa [Nat.zero_add] at this)
theorem run_part_agg (w : World) {t e : TypeId} {n s : Nat} (ht : P.underlying t = some (.array n e)) (hs : (P.info? t).map (·.size) = some s) (xs : Array Value) (o : Nat) : (part t xs o).run P w = .ok (.agg (xs.extract o (o + s))) w := by
  have h : (isAgg t).run P w = .ok true w := by
    unfold isAgg
    rw [Sem.run_bind, run_underlying ht w]
    simp
  cases hq : P.info? t with
  | none => simp [hq] at hs
  | some i =>
    have hs2 : i.size = s := by simpa [hq] using hs
    unfold part
    simp [Sem.run_bind, h, sizeOf, typeInfo, hq, hs2]
/-- a field that is an array of numbers -/
structure FieldOk (P : Program) (f : Field) (xs : Array Value) : Prop where
  nm : (f.name ≠ "_") = True
  ok : ∃ n e k i, P.underlying f.type = some (.array n e) ∧ (P.info? f.type).map (·.size) = some n ∧ P.info? e = some i ∧ P.cellsOf e = 1 ∧ P.underlying e = some (.int k) ∧ f.offset + n ≤ xs.size ∧ Nums k xs f.offset n
theorem nums_extract {k : IntKind} {xs : Array Value} {o n : Nat} (h : Nums k xs o n) (_hs : o + n ≤ xs.size) : Nums k (xs.extract o (o + n)) 0 n := fun i hi => by
  obtain ⟨a, ha⟩ := h i hi
  refine ⟨a, ?_⟩
  rw [Nat.zero_add, Array.getElem?_extract, if_pos (by omega)]
  exact ha
theorem run_eqFields (d : Nat) (xs ys : Array Value) : ∀ fs : List Field, (∀ f ∈ fs, FieldOk P f xs) → (∀ f ∈ fs, FieldOk P f ys) →
    ∃ r : Bool, (∀ w, (Op.eqFields (d + 2) xs ys fs).run P w = .ok r w) ∧ (xs = ys → r = true)
  | [], _, _ => ⟨true, fun w => by simp [Op.eqFields], fun _ => rfl⟩
  | f :: fs, hx, hy => by
    obtain ⟨r, hr, hr2⟩ := run_eqFields d xs ys fs (fun g hg => hx g (by simp [hg])) (fun g hg => hy g (by simp [hg]))
    obtain ⟨n, e, k, i, h1, h2, h3, h4, h5, h6, h7⟩ := (hx f (by simp)).ok
    obtain ⟨n', e', k', i', g1, g2, g3, g4, g5, g6, g7⟩ := (hy f (by simp)).ok
    obtain ⟨rfl, rfl⟩ : n = n' ∧ e = e' := by
      rw [h1] at g1
      simpa using g1
    obtain rfl : k = k' := by
      rw [h5] at g5
      simpa using g5
    have hq : ∀ w, (Op.equalIn (d + 2) f.type (.agg (xs.extract f.offset (f.offset + n))) (.agg (ys.extract f.offset (f.offset + n)))).run P w = .ok ((List.range n).all fun i => intAt (xs.extract f.offset (f.offset + n)) i == intAt (ys.extract f.offset (f.offset + n)) i) w :=
      fun w => run_eq_array w d h1 h3 h4 h5 _ _ (nums_extract h7 h6) (nums_extract g7 g6)
    have hnm : f.name ≠ "_" := of_eq_true (hx f (by simp)).nm
    refine ⟨((List.range n).all fun i => intAt (xs.extract f.offset (f.offset + n)) i == intAt (ys.extract f.offset (f.offset + n)) i) && r, fun w => ?_, fun e => ?_⟩
    · rw [Op.eqFields, if_pos hnm]
      simp only [Sem.run_bind, run_part_agg w h1 h2, Result.andThen_ok, hq]
      cases (List.range n).all fun i => intAt (xs.extract f.offset (f.offset + n)) i == intAt (ys.extract f.offset (f.offset + n)) i
      · simp
      · simpa using hr w
    · subst e
      rw [hr2 rfl]
      simp
end

/-- the kind of cell i of the tables -/
def kd (i : Nat) : IntKind := if i < 72 then .u32 else if i < 184 then .u64 else .i64
def Good (xs : Array Value) : Prop := xs.size = 465 ∧ ∀ i, i < 465 → ∃ a, xs[i]? = some (.int (kd i) a)
theorem good_ta : Good TA := by
  refine ⟨ta_size, fun i hi => ?_⟩
  rw [ta_get i hi]
  unfold tv kd
  by_cases h1 : i < 64
  · rw [if_pos h1, if_pos (by omega)]; exact ⟨_, rfl⟩
  by_cases h2 : i < 72
  · rw [if_neg h1, if_pos h2, if_pos h2]; exact ⟨_, rfl⟩
  by_cases h3 : i < 152
  · rw [if_neg h1, if_neg h2, if_pos h3, if_neg h2, if_pos (by omega)]; exact ⟨_, rfl⟩
  by_cases h4 : i < 160
  · rw [if_neg h1, if_neg h2, if_neg h3, if_pos h4, if_neg h2, if_pos (by omega)]; exact ⟨_, rfl⟩
  by_cases h5 : i < 184
  · rw [if_neg h1, if_neg h2, if_neg h3, if_neg h4, if_pos h5, if_neg h2, if_pos h5]; exact ⟨_, rfl⟩
  by_cases h6 : i < 209
  · rw [if_neg h1, if_neg h2, if_neg h3, if_neg h4, if_neg h5, if_pos h6, if_neg h2, if_neg h5]; exact ⟨_, rfl⟩
  · rw [if_neg h1, if_neg h2, if_neg h3, if_neg h4, if_neg h5, if_neg h6, if_neg h2, if_neg h5]; exact ⟨_, rfl⟩
theorem good_set {xs : Array Value} (h : Good xs) (a : Nat) (k : IntKind) (v : Int) (hk : kd a = k) : Good (xs.setIfInBounds a (.int k v)) := by
  refine ⟨by simpa using h.1, fun i hi => ?_⟩
  rw [Array.getElem?_setIfInBounds]
  by_cases e : a = i
  · subst e
    rw [if_pos rfl, if_pos (by rw [h.1]; exact hi), hk]
    exact ⟨v, rfl⟩
  · rw [if_neg e]
    exact h.2 i hi
theorem good_nums {xs : Array Value} (h : Good xs) (k : IntKind) (o n : Nat) (hk : ∀ i, i < n → o + i < 465 ∧ kd (o + i) = k) : Nums k xs o n := fun i hi => by
  obtain ⟨h1, h2⟩ := hk i hi
  obtain ⟨a, ha⟩ := h.2 (o + i) h1
  rw [h2] at ha
  exact ⟨a, ha⟩
theorem good_one {xs : Array Value} (h : Good xs) : xs.all (·.oneCell') = true := by
  rw [Array.all_eq_true_iff_forall_mem]
  intro v hv
  obtain ⟨i, hi, rfl⟩ := Array.mem_iff_getElem.1 hv
  obtain ⟨a, ha⟩ := h.2 i (by rw [h.1] at hi; exact hi)
  rw [Array.getElem?_eq_getElem hi] at ha
  rw [Option.some.inj ha]
  rfl
theorem info_of {P : Program} {e : TypeId} {s : Nat} (h : (P.info? e).map (·.size) = some s) : ∃ i, P.info? e = some i := by
  cases hq : P.info? e with
  | none => rw [hq] at h; cases h
  | some i => exact ⟨i, rfl⟩
theorem fields_ok {xs : Array Value} (h : Good xs) : ∀ f ∈ (Tryd.prog.fieldsOf 36).toList, FieldOk Tryd.prog f xs := by
  obtain ⟨i32, h32⟩ := info_of (P := Tryd.prog) (e := 27) (s := 1) (by kernel_rfl)
  obtain ⟨i64, h64⟩ := info_of (P := Tryd.prog) (e := 22) (s := 1) (by kernel_rfl)
  obtain ⟨ii, hii⟩ := info_of (P := Tryd.prog) (e := 3) (s := 1) (by kernel_rfl)
  have hs := h.1
  unfold Program.fieldsOf
  rw [Tryd.underlying36]
  intro f hf
  simp only [List.mem_cons, List.not_mem_nil, or_false] at hf
  rcases hf with rfl | rfl | rfl | rfl | rfl | rfl | rfl
  · exact ⟨by simp, 64, 27, .u32, _, by kernel_rfl, by kernel_rfl, h32, by kernel_rfl, by kernel_rfl, by rw [hs]; decide, good_nums h .u32 0 64 (by unfold kd; intro i hi; refine ⟨by omega, ?_⟩; first | rw [if_pos (by omega)] | rw [if_neg (by omega), if_pos (by omega)] | rw [if_neg (by omega), if_neg (by omega)])⟩
  · exact ⟨by simp, 8, 27, .u32, _, by kernel_rfl, by kernel_rfl, h32, by kernel_rfl, by kernel_rfl, by rw [hs]; decide, good_nums h .u32 64 8 (by unfold kd; intro i hi; refine ⟨by omega, ?_⟩; first | rw [if_pos (by omega)] | rw [if_neg (by omega), if_pos (by omega)] | rw [if_neg (by omega), if_neg (by omega)])⟩
  · exact ⟨by simp, 80, 22, .u64, _, by kernel_rfl, by kernel_rfl, h64, by kernel_rfl, by kernel_rfl, by rw [hs]; decide, good_nums h .u64 72 80 (by unfold kd; intro i hi; refine ⟨by omega, ?_⟩; first | rw [if_pos (by omega)] | rw [if_neg (by omega), if_pos (by omega)] | rw [if_neg (by omega), if_neg (by omega)])⟩
  · exact ⟨by simp, 8, 22, .u64, _, by kernel_rfl, by kernel_rfl, h64, by kernel_rfl, by kernel_rfl, by rw [hs]; decide, good_nums h .u64 152 8 (by unfold kd; intro i hi; refine ⟨by omega, ?_⟩; first | rw [if_pos (by omega)] | rw [if_neg (by omega), if_pos (by omega)] | rw [if_neg (by omega), if_neg (by omega)])⟩
  · exact ⟨by simp, 24, 22, .u64, _, by kernel_rfl, by kernel_rfl, h64, by kernel_rfl, by kernel_rfl, by rw [hs]; decide, good_nums h .u64 160 24 (by unfold kd; intro i hi; refine ⟨by omega, ?_⟩; first | rw [if_pos (by omega)] | rw [if_neg (by omega), if_pos (by omega)] | rw [if_neg (by omega), if_neg (by omega)])⟩
  · exact ⟨by simp, 25, 3, .i64, _, by kernel_rfl, by kernel_rfl, hii, by kernel_rfl, by kernel_rfl, by rw [hs]; decide, good_nums h .i64 184 25 (by unfold kd; intro i hi; refine ⟨by omega, ?_⟩; first | rw [if_pos (by omega)] | rw [if_neg (by omega), if_pos (by omega)] | rw [if_neg (by omega), if_neg (by omega)])⟩
  · exact ⟨by simp, 256, 3, .i64, _, by kernel_rfl, by kernel_rfl, hii, by kernel_rfl, by kernel_rfl, by rw [hs]; decide, good_nums h .i64 209 256 (by unfold kd; intro i hi; refine ⟨by omega, ?_⟩; first | rw [if_pos (by omega)] | rw [if_neg (by omega), if_pos (by omega)] | rw [if_neg (by omega), if_neg (by omega)])⟩

/-- '==' on two values of type api.Tables answers; what is the same is equal -/
theorem eq_tables {xs ys : Array Value} (hx : Good xs) (hy : Good ys) : ∃ r : Bool, (∀ w, (binOp .eql 36 (.agg xs) (.agg ys)).run Tryd.prog w = .ok (.bool r) w) ∧ (xs = ys → r = true) := by
  obtain ⟨r, h1, h2⟩ := run_eqFields (P := Tryd.prog) 9997 xs ys (Tryd.prog.fieldsOf 36).toList (fields_ok hx) (fields_ok hy)
  refine ⟨r, fun w => ?_, h2⟩
  rw [run_eql_struct, run_equalIn_agg w 9999 36 xs ys (by kernel_rfl) (by kernel_rfl), h1 w]
  rfl
/-- .. on two lists of round constants that are the same -/
theorem eq_rounds {xs : Array Value} (hx : Nums .u64 xs 0 24) : ∀ w, (binOp .eql 32 (.agg xs) (.agg xs)).run Tryd.prog w = .ok (.bool true) w := fun w => by
  obtain ⟨i64, h64⟩ := info_of (P := Tryd.prog) (e := 22) (s := 1) (by kernel_rfl)
  rw [run_eql_struct, run_eq_array w 9998 (t := 32) (e := 22) (n := 24) (k := .u64) (by kernel_rfl) h64 (by kernel_rfl) (by kernel_rfl) xs xs hx hx]
  simp [Result.andThen]
theorem guardT : Tryd.prog.eqGuardType Tryd.prog.depth 36 = false := by kernel_rfl
theorem guardR : Tryd.prog.eqGuardType Tryd.prog.depth 32 = false := by kernel_rfl
end Go.Proofs.YtpibnfpgokjnpaaDoor.eqs

namespace Go.Proofs.YtpibnfpgokjnpaaDoor.words
open Go Go.ChangeShapes Go.WideShapes Go.ChangeAt Go.RowKit
open Go.Proofs.YtpibnfpgokjnpaaDoor.arr Go.Proofs.YtpibnfpgokjnpaaDoor.eqs
section
variable {H : Type} {enc : TypeId × Value → H} {P : Program} {w : World} {base : Nat} {spare held : Bool}
theorem open_words {r : Reach} {b0 b1 : Nat} {sp : Nat → Bool} {hd : Bool} {t e : TypeId} {n : Nat} {v : Value} {d : DataW H} {p : List MemPlace} (ht : P.underlying t = some (.array n e)) (hk : P.underlying e = some (.int .u64)) (hc : P.cellsOf t = n) (he : P.cellsOf e = 1)
    (hv : Value.okWide P w r b0 t v) (h : DataW.Trod enc P w b1 sp hd t v d p) :
    ∃ ds : List Nat, v = .agg (LK .u64 ds) ∧ ds.length = n ∧ ∀ i, ds.getD i 0 < 18446744073709551616 := by
  obtain ⟨cs, rfl, hsz, m, hg⟩ := opens.open_array ht hc he hv h
  have key : ∀ i (hi : i < cs.size), ∃ x : Nat, cs[i] = .int .u64 (x : Int) ∧ x < 18446744073709551616 := by
    intro i hi
    obtain ⟨_, h0⟩ := hg i hi
    obtain ⟨a, e0, -, w0⟩ := DataW.trod_int hk h0
    have hb := bounds_u64 w0
    obtain ⟨x, rfl⟩ := Int.eq_ofNat_of_zero_le hb.1
    simp only [List.cons.injEq, and_true] at e0
    exact ⟨x, e0, by omega⟩
  refine ⟨cs.toList.map fun v => match v with | .int _ a => a.toNat | _ => 0, ?_, by simp [hsz], ?_⟩
  · congr 1
    apply Array.ext (by simp [LK])
    intro i h1 h2
    obtain ⟨x, hx, -⟩ := key i h1
    simp [LK, hx]
  · intro i
    by_cases hi : i < cs.size
    · obtain ⟨x, hx, hl⟩ := key i hi
      simp [List.getD_eq_getElem?_getD, hi, hx, hl]
    · simp [List.getD_eq_getElem?_getD, List.getElem?_eq_none (l := cs.toList) (i := i) (by simpa using hi)]
end
theorem nums_lk (k : IntKind) (ds : List Nat) : Nums k (LK k ds) 0 ds.length := fun i hi => ⟨_, by rw [Nat.zero_add]; exact lk_get k ds i hi⟩
theorem intAt_lk (k : IntKind) (ds : List Nat) (i : Nat) (h : i < ds.length) : intAt (LK k ds) i = (ds.getD i 0 : Nat) := by
  unfold intAt
  rw [lk_get k ds i h]
theorem all_eq (xs ys : List Nat) (n : Nat) (hx : xs.length = n) (hy : ys.length = n) (k : IntKind) : ((List.range n).all fun i => intAt (LK k xs) i == intAt (LK k ys) i) = decide (xs = ys) := by
  apply Bool.eq_iff_iff.2
  rw [List.all_eq_true, decide_eq_true_iff]
  constructor
  · intro h
    apply List.ext_getElem (hx.trans hy.symm)
    intro i h1 h2
    have := h i (List.mem_range.2 (by omega))
    rw [intAt_lk _ _ _ h1, intAt_lk _ _ _ h2, beq_iff_eq] at this
    have e := Int.ofNat_inj.1 this
    simpa [List.getD_eq_getElem?_getD, List.getElem?_eq_getElem h1, List.getElem?_eq_getElem h2] using e
  · rintro rfl i -
    exact beq_self_eq_true _
end Go.Proofs.YtpibnfpgokjnpaaDoor.words
