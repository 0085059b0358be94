/-
  Comparing two values of type api.Tables, or two lists of round constants, by '==': it answers, whatever the numbers are; what is the same is equal. Conditions: the cells are numbers of the fields' kinds. An argument that is an array of words of 64 bits, and '==' between two such arrays. No function of the program is named. Conditions: as each theorem says. A package-level array of ints that a row lists, as a block of memory; '==' of two arrays of 25 words (no function of the program is named here). Conditions: as each theorem says. What keccak.Permute returns. Conditions: the state has 25 words of 64 bits, the tables have their size, and the package's variable 'places' holds what the program's text lays there. The document's tables hold the constants of the permutation. Conditions: none.
-/
import Derived.Test.YtlcafjdehcddcaaGreatDoorTab
import Derived.Test.YtlcafjdehcddcaaGreatDoorPuA
import Derived.Test.YtlcafjdehcddcaaGreatDoorKwx
import Derived.Test.YtlcafjdehcddcaaGreatDoorRows
import Derived.Test.YtlcafjdehcddcaaGreatDoorKcB
import Derived.Laws.StructEq
import Derived.ChangeKeysEq
import Derived.LaidMore
import Derived.OpenShut
import Derived.Stop.Joined
namespace Go.Proofs.YtlcafjdehcddcaaGreatDoor
namespace eqs
open Go.RowKit
open tabv arr
def intAt (xs : Array Value) (i : Nat) : Int := match xs[i]? with
 | some (.int _ a) => a
 | _ => 0
def Nums (k : IntKind) (xs : Array Value) (o n : Nat) : Prop := ∀ i, i < n → ∃ a, xs[o + i]? = some (.int k a)
section
variable {P : Program}
theorem run_part_int (w : World) {e : TypeId} {k : IntKind} (he : P.underlying e = some (.int k)) {xs : Array Value} {i : Nat} {v : Value} (hx : xs[i]? = some v) : (part e xs i).run P w = .ok v w := by
 have h : (isAgg e).run P w = .ok false w := by
  unfold isAgg
  rw [Sem.run_bind, run_underlying he w]
  simp
 unfold part
 simp [Sem.run_bind, h, hx]
theorem run_eqItems_int (w : World) (d : Nat) {e : TypeId} {k : IntKind} (he : P.underlying e = some (.int k)) (xs ys : Array Value) : ∀ is : List Nat, (∀ i ∈ is, ∃ a, xs[i]? = some (.int k a)) → (∀ i ∈ is, ∃ a, ys[i]? = some (.int k a)) →
 (Op.eqItems (d + 1) e 1 xs ys is).run P w = .ok (is.all fun i => intAt xs i == intAt ys i) w
 | [], _, _ => by simp [Op.eqItems]
 | i :: is, hx, hy => by
  obtain ⟨a, ha⟩ := hx i (by simp)
  obtain ⟨b, hb⟩ := hy i (by simp)
  have ih := run_eqItems_int w d he xs ys is (fun j hj => hx j (by simp [hj])) (fun j hj => hy j (by simp [hj]))
  have e1 : intAt xs i = a := by simp [intAt, ha]
  have e2 : intAt ys i = b := by simp [intAt, hb]
  simp only [Op.eqItems, Nat.mul_one, Sem.run_bind, run_part_int w he ha, run_part_int w he hb, Result.andThen_ok, run_equalIn_int w d e k k a b he, List.all_cons, e1, e2]
  cases hab : (a == b)
  ·simp
  ·simpa using ih
theorem run_eq_array (w : World) (d : Nat) {t e : TypeId} {n : Nat} {k : IntKind} {i : TypeInfo} (ht : P.underlying t = some (.array n e)) (hi : P.info? e = some i) (hc : P.cellsOf e = 1) (he : P.underlying e = some (.int k)) (xs ys : Array Value)
 (hx : Nums k xs 0 n) (hy : Nums k ys 0 n) : (Op.equalIn (d + 2) t (.agg xs) (.agg ys)).run P w = .ok ((List.range n).all fun i => intAt xs i == intAt ys i) w := by
 rw [run_equalIn_array w (d + 1) xs ys ht hi, hc]
 exact run_eqItems_int w d he xs ys _ (fun j hj => by have := hx j (by simpa using hj); rwa [Nat.zero_add] at this) (fun j hj => by have := hy j (by simpa using hj); rwa [Nat.zero_add] at this)
theorem run_part_agg (w : World) {t e : TypeId} {n s : Nat} (ht : P.underlying t = some (.array n e)) (hs : (P.info? t).map (·.size) = some s) (xs : Array Value) (o : Nat) : (part t xs o).run P w = .ok (.agg (xs.extract o (o + s))) w := by
 have h : (isAgg t).run P w = .ok true w := by
  unfold isAgg
  rw [Sem.run_bind, run_underlying ht w]
  simp
 cases hq : P.info? t with
 | none => simp [hq] at hs
 | some i =>
  have hs2 : i.size = s := by simpa [hq] using hs
  unfold part
  simp [Sem.run_bind, h, sizeOf, typeInfo, hq, hs2]
structure FieldOk (P : Program) (f : Field) (xs : Array Value) : Prop where
 nm : (f.name ≠ "_") = True
 ok : ∃ n e k i, P.underlying f.type = some (.array n e) ∧ (P.info? f.type).map (·.size) = some n ∧ P.info? e = some i ∧ P.cellsOf e = 1 ∧ P.underlying e = some (.int k) ∧ f.offset + n ≤ xs.size ∧ Nums k xs f.offset n
theorem nums_extract {k : IntKind} {xs : Array Value} {o n : Nat} (h : Nums k xs o n) (_hs : o + n ≤ xs.size) : Nums k (xs.extract o (o + n)) 0 n := fun i hi => by
 obtain ⟨a, ha⟩ := h i hi
 refine ⟨a, ?_⟩
 rw [Nat.zero_add, Array.getElem?_extract, if_pos (by omega)]
 exact ha
theorem run_eqFields (d : Nat) (xs ys : Array Value) : ∀ fs : List Field, (∀ f ∈ fs, FieldOk P f xs) → (∀ f ∈ fs, FieldOk P f ys) →
 ∃ r : Bool, (∀ w, (Op.eqFields (d + 2) xs ys fs).run P w = .ok r w) ∧ (xs = ys → r = true)
 | [], _, _ => ⟨true, fun w => by simp [Op.eqFields], fun _ => rfl⟩
 | f :: fs, hx, hy => by
  obtain ⟨r, hr, hr2⟩ := run_eqFields d xs ys fs (fun g hg => hx g (by simp [hg])) (fun g hg => hy g (by simp [hg]))
  obtain ⟨n, e, k, i, h1, h2, h3, h4, h5, h6, h7⟩ := (hx f (by simp)).ok
  obtain ⟨n', e', k', i', g1, g2, g3, g4, g5, g6, g7⟩ := (hy f (by simp)).ok
  obtain ⟨rfl, rfl⟩ : n = n' ∧ e = e' := by
   rw [h1] at g1
   simpa using g1
  obtain rfl : k = k' := by
   rw [h5] at g5
   simpa using g5
  have hq : ∀ w, (Op.equalIn (d + 2) f.type (.agg (xs.extract f.offset (f.offset + n))) (.agg (ys.extract f.offset (f.offset + n)))).run P w = .ok ((List.range n).all fun i => intAt (xs.extract f.offset (f.offset + n)) i == intAt (ys.extract f.offset (f.offset + n)) i) w :=
   fun w => run_eq_array w d h1 h3 h4 h5 _ _ (nums_extract h7 h6) (nums_extract g7 g6)
  have hnm : f.name ≠ "_" := of_eq_true (hx f (by simp)).nm
  refine ⟨((List.range n).all fun i => intAt (xs.extract f.offset (f.offset + n)) i == intAt (ys.extract f.offset (f.offset + n)) i) && r, fun w => ?_, fun e => ?_⟩
  ·rw [Op.eqFields, if_pos hnm]
   simp only [Sem.run_bind, run_part_agg w h1 h2, Result.andThen_ok, hq]
   cases (List.range n).all fun i => intAt (xs.extract f.offset (f.offset + n)) i == intAt (ys.extract f.offset (f.offset + n)) i
   ·simp
   ·simpa using hr w
  ·subst e
   rw [hr2 rfl]
   simp
end
def kd (i : Nat) : IntKind := if i < 72 then .u32 else if i < 184 then .u64 else .i64
def Good (xs : Array Value) : Prop := xs.size = 465 ∧ ∀ i, i < 465 → ∃ a, xs[i]? = some (.int (kd i) a)
theorem good_ta : Good TA := by
 refine ⟨ta_size, fun i hi => ?_⟩
 rw [ta_get i hi]
 unfold tv kd
 by_cases h1 : i < 64
 ·rw [if_pos h1, if_pos (by omega)]; exact ⟨_, rfl⟩
 by_cases h2 : i < 72
 ·rw [if_neg h1, if_pos h2, if_pos h2]; exact ⟨_, rfl⟩
 by_cases h3 : i < 152
 ·rw [if_neg h1, if_neg h2, if_pos h3, if_neg h2, if_pos (by omega)]; exact ⟨_, rfl⟩
 by_cases h4 : i < 160
 ·rw [if_neg h1, if_neg h2, if_neg h3, if_pos h4, if_neg h2, if_pos (by omega)]; exact ⟨_, rfl⟩
 by_cases h5 : i < 184
 ·rw [if_neg h1, if_neg h2, if_neg h3, if_neg h4, if_pos h5, if_neg h2, if_pos h5]; exact ⟨_, rfl⟩
 by_cases h6 : i < 209
 ·rw [if_neg h1, if_neg h2, if_neg h3, if_neg h4, if_neg h5, if_pos h6, if_neg h2, if_neg h5]; exact ⟨_, rfl⟩
 ·rw [if_neg h1, if_neg h2, if_neg h3, if_neg h4, if_neg h5, if_neg h6, if_neg h2, if_neg h5]; exact ⟨_, rfl⟩
theorem good_set {xs : Array Value} (h : Good xs) (a : Nat) (k : IntKind) (v : Int) (hk : kd a = k) : Good (xs.setIfInBounds a (.int k v)) := by
 refine ⟨by simpa using h.1, fun i hi => ?_⟩
 rw [Array.getElem?_setIfInBounds]
 by_cases e : a = i
 ·subst e
  rw [if_pos rfl, if_pos (by rw [h.1]; exact hi), hk]
  exact ⟨v, rfl⟩
 ·rw [if_neg e]
  exact h.2 i hi
theorem good_nums {xs : Array Value} (h : Good xs) (k : IntKind) (o n : Nat) (hk : ∀ i, i < n → o + i < 465 ∧ kd (o + i) = k) : Nums k xs o n := fun i hi => by
 obtain ⟨h1, h2⟩ := hk i hi
 obtain ⟨a, ha⟩ := h.2 (o + i) h1
 rw [h2] at ha
 exact ⟨a, ha⟩
theorem good_one {xs : Array Value} (h : Good xs) : xs.all (·.oneCell') = true := by
 rw [Array.all_eq_true_iff_forall_mem]
 intro v hv
 obtain ⟨i, hi, rfl⟩ := Array.mem_iff_getElem.1 hv
 obtain ⟨a, ha⟩ := h.2 i (by rw [h.1] at hi; exact hi)
 rw [Array.getElem?_eq_getElem hi] at ha
 rw [Option.some.inj ha]
 rfl
theorem info_of {P : Program} {e : TypeId} {s : Nat} (h : (P.info? e).map (·.size) = some s) : ∃ i, P.info? e = some i := by
 cases hq : P.info? e with
 | none => rw [hq] at h; cases h
 | some i => exact ⟨i, rfl⟩
theorem fields_ok {xs : Array Value} (h : Good xs) : ∀ f ∈ (Tryz.prog.fieldsOf 38).toList, FieldOk Tryz.prog f xs := by
 obtain ⟨i32, h32⟩ := info_of (P := Tryz.prog) (e := 29) (s := 1) (by kernel_rfl)
 obtain ⟨i64, h64⟩ := info_of (P := Tryz.prog) (e := 32) (s := 1) (by kernel_rfl)
 obtain ⟨ii, hii⟩ := info_of (P := Tryz.prog) (e := 3) (s := 1) (by kernel_rfl)
 have hs := h.1
 unfold Program.fieldsOf
 rw [Tryz.underlying38]
 intro f hf
 simp only [List.mem_cons, List.not_mem_nil, or_false] at hf
 rcases hf with rfl | rfl | rfl | rfl | rfl | rfl | rfl
 ·exact ⟨by simp, 64, 29, .u32, _, by kernel_rfl, by kernel_rfl, h32, by kernel_rfl, by kernel_rfl, by rw [hs]; decide, good_nums h .u32 0 64 (by unfold kd; intro i hi; refine ⟨by omega, ?_⟩; first | rw [if_pos (by omega)] | rw [if_neg (by omega), if_pos (by omega)] | rw [if_neg (by omega), if_neg (by omega)])⟩
 ·exact ⟨by simp, 8, 29, .u32, _, by kernel_rfl, by kernel_rfl, h32, by kernel_rfl, by kernel_rfl, by rw [hs]; decide, good_nums h .u32 64 8 (by unfold kd; intro i hi; refine ⟨by omega, ?_⟩; first | rw [if_pos (by omega)] | rw [if_neg (by omega), if_pos (by omega)] | rw [if_neg (by omega), if_neg (by omega)])⟩
 ·exact ⟨by simp, 80, 32, .u64, _, by kernel_rfl, by kernel_rfl, h64, by kernel_rfl, by kernel_rfl, by rw [hs]; decide, good_nums h .u64 72 80 (by unfold kd; intro i hi; refine ⟨by omega, ?_⟩; first | rw [if_pos (by omega)] | rw [if_neg (by omega), if_pos (by omega)] | rw [if_neg (by omega), if_neg (by omega)])⟩
 ·exact ⟨by simp, 8, 32, .u64, _, by kernel_rfl, by kernel_rfl, h64, by kernel_rfl, by kernel_rfl, by rw [hs]; decide, good_nums h .u64 152 8 (by unfold kd; intro i hi; refine ⟨by omega, ?_⟩; first | rw [if_pos (by omega)] | rw [if_neg (by omega), if_pos (by omega)] | rw [if_neg (by omega), if_neg (by omega)])⟩
 ·exact ⟨by simp, 24, 32, .u64, _, by kernel_rfl, by kernel_rfl, h64, by kernel_rfl, by kernel_rfl, by rw [hs]; decide, good_nums h .u64 160 24 (by unfold kd; intro i hi; refine ⟨by omega, ?_⟩; first | rw [if_pos (by omega)] | rw [if_neg (by omega), if_pos (by omega)] | rw [if_neg (by omega), if_neg (by omega)])⟩
 ·exact ⟨by simp, 25, 3, .i64, _, by kernel_rfl, by kernel_rfl, hii, by kernel_rfl, by kernel_rfl, by rw [hs]; decide, good_nums h .i64 184 25 (by unfold kd; intro i hi; refine ⟨by omega, ?_⟩; first | rw [if_pos (by omega)] | rw [if_neg (by omega), if_pos (by omega)] | rw [if_neg (by omega), if_neg (by omega)])⟩
 ·exact ⟨by simp, 256, 3, .i64, _, by kernel_rfl, by kernel_rfl, hii, by kernel_rfl, by kernel_rfl, by rw [hs]; decide, good_nums h .i64 209 256 (by unfold kd; intro i hi; refine ⟨by omega, ?_⟩; first | rw [if_pos (by omega)] | rw [if_neg (by omega), if_pos (by omega)] | rw [if_neg (by omega), if_neg (by omega)])⟩
theorem eq_tables {xs ys : Array Value} (hx : Good xs) (hy : Good ys) : ∃ r : Bool, (∀ w, (binOp .eql 38 (.agg xs) (.agg ys)).run Tryz.prog w = .ok (.bool r) w) ∧ (xs = ys → r = true) := by
 obtain ⟨r, h1, h2⟩ := run_eqFields (P := Tryz.prog) 9997 xs ys (Tryz.prog.fieldsOf 38).toList (fields_ok hx) (fields_ok hy)
 refine ⟨r, fun w => ?_, h2⟩
 rw [run_eql_struct, run_equalIn_agg w 9999 38 xs ys (by kernel_rfl) (by kernel_rfl), h1 w]
 rfl
theorem eq_rounds {xs : Array Value} (hx : Nums .u64 xs 0 24) : ∀ w, (binOp .eql 35 (.agg xs) (.agg xs)).run Tryz.prog w = .ok (.bool true) w := fun w => by
 obtain ⟨i64, h64⟩ := info_of (P := Tryz.prog) (e := 32) (s := 1) (by kernel_rfl)
 rw [run_eql_struct, run_eq_array w 9998 (t := 35) (e := 32) (n := 24) (k := .u64) (by kernel_rfl) h64 (by kernel_rfl) (by kernel_rfl) xs xs hx hx]
 simp [Result.andThen]
theorem guardT : Tryz.prog.eqGuardType Tryz.prog.depth 38 = false := by kernel_rfl
theorem guardR : Tryz.prog.eqGuardType Tryz.prog.depth 35 = false := by kernel_rfl
end eqs
namespace words
open Go Go.ChangeShapes Go.WideShapes Go.ChangeAt Go.RowKit
open arr eqs
section
variable {H : Type} {enc : TypeId × Value → H} {P : Program} {w : World} {base : Nat} {spare held : Bool}
theorem open_words {r : Reach} {b0 b1 : Nat} {sp : Nat → Bool} {hd : Bool} {t e : TypeId} {n : Nat} {v : Value} {d : DataW H} {p : List MemPlace} (ht : P.underlying t = some (.array n e)) (hk : P.underlying e = some (.int .u64)) (hc : P.cellsOf t = n) (he : P.cellsOf e = 1)
 (hv : Value.okWide P w r b0 t v) (h : DataW.Trod enc P w b1 sp hd t v d p) :
 ∃ ds : List Nat, v = .agg (LK .u64 ds) ∧ ds.length = n ∧ ∀ i, ds.getD i 0 < 18446744073709551616 := by
 obtain ⟨cs, rfl, hsz, m, hg⟩ := opens.open_array ht hc he hv h
 have key : ∀ i (hi : i < cs.size), ∃ x : Nat, cs[i] = .int .u64 (x : Int) ∧ x < 18446744073709551616 := by
  intro i hi
  obtain ⟨_, h0⟩ := hg i hi
  obtain ⟨a, e0, -, w0⟩ := DataW.trod_int hk h0
  have hb := bounds_u64 w0
  obtain ⟨x, rfl⟩ := Int.eq_ofNat_of_zero_le hb.1
  simp only [List.cons.injEq, and_true] at e0
  exact ⟨x, e0, by omega⟩
 refine ⟨cs.toList.map fun v => match v with | .int _ a => a.toNat | _ => 0, ?_, by simp [hsz], ?_⟩
 ·congr 1
  apply Array.ext (by simp [LK])
  intro i h1 h2
  obtain ⟨x, hx, -⟩ := key i h1
  simp [LK, hx]
 ·intro i
  by_cases hi : i < cs.size
  ·obtain ⟨x, hx, hl⟩ := key i hi
   simp [List.getD_eq_getElem?_getD, hi, hx, hl]
  ·simp [List.getD_eq_getElem?_getD, List.getElem?_eq_none (l := cs.toList) (i := i) (by simpa using hi)]
end
theorem nums_lk (k : IntKind) (ds : List Nat) : Nums k (LK k ds) 0 ds.length := fun i hi => ⟨_, by rw [Nat.zero_add]; exact lk_get k ds i hi⟩
theorem intAt_lk (k : IntKind) (ds : List Nat) (i : Nat) (h : i < ds.length) : intAt (LK k ds) i = (ds.getD i 0 : Nat) := by
 unfold intAt
 rw [lk_get k ds i h]
theorem all_eq (xs ys : List Nat) (n : Nat) (hx : xs.length = n) (hy : ys.length = n) (k : IntKind) : ((List.range n).all fun i => intAt (LK k xs) i == intAt (LK k ys) i) = decide (xs = ys) := by
 apply Bool.eq_iff_iff.2
 rw [List.all_eq_true, decide_eq_true_iff]
 constructor
 ·intro h
  apply List.ext_getElem (hx.trans hy.symm)
  intro i h1 h2
  have := h i (List.mem_range.2 (by omega))
  rw [intAt_lk _ _ _ h1, intAt_lk _ _ _ h2, beq_iff_eq] at this
  have e := Int.ofNat_inj.1 this
  simpa [List.getD_eq_getElem?_getD, List.getElem?_eq_getElem h1, List.getElem?_eq_getElem h2] using e
 ·rintro rfl i -
  exact beq_self_eq_true _
end words
namespace laids
open Go Go.ChangeShapes Go.WideShapes Go.ChangeAt Go.RowKit
open arr mem kturn
theorem ints_of_laid {P : Program} {w : World} {g n : Nat} {name : String} {t e : TypeId} (ds : List Nat) (h : laidMetH P [(name, .agg (ds.map fun d : Nat => .lit (.int .i64 (d : Int))))] w) (hg : P.globalNamed name = some g) (ht : (P.globals[g]?).map (·.type) = some t)
 (hu : P.underlying t = some (.array n e)) (he : P.underlying e = some (.int .i64)) (hce : P.cellsOf e = 1) (hct : P.cellsOf t = n) (hl : ds.length = n) (hn : 0 < n) : ∃ t, w.heap[g]? = some (.cells (LK .i64 ds) t (0, 0)) := by
 rw [MakeChecks.laidMetH_plain _ _ _ (by simp [DataW.handleName?])] at h
 obtain ⟨ps, ⟨g0, t0, cs, fuel, p, q, hg0, ht0, hv, hd, hq, hps⟩, -, hb⟩ := h
 obtain rfl := Option.some.inj (hg.symm.trans hg0)
 obtain rfl := Option.some.inj (ht.symm.trans ht0)
 obtain ⟨xs, m, -, hx, hlen, hxs, hel⟩ := DataW.trod_array hu hd
 simp only [Prod.mk.injEq, DataW.agg.injEq] at hx
 have hsz : cs.size = n := by rw [← hct, ← hlen]; simp
 have hmem : MemPlace.cell g 0 ∈ ps := by
  rw [hps]
  refine List.mem_append_left _ (List.mem_append_left _ (MemPlace.mem_row.2 ⟨0, by omega, by simp⟩))
 obtain ⟨⟨c, t', hc⟩, -⟩ := hb g 0 hmem
 have hcc : c = cs := by
  simp only [World.var?, hg, Option.bind_some, hc] at hv
  exact Option.some.inj hv
 subst hcc
 refine ⟨t', ?_⟩
 rw [hc]
 congr 2
 apply Array.ext (by rw [lk_size, hsz, hl])
 intro i h1 h2
 have h3 := hel i (by omega)
 rw [hce, Nat.mul_one, List.drop_eq_getElem_cons (by simpa using h1), List.take_succ_cons, List.take_zero, List.getElem?_eq_getElem (by omega)] at h3
 obtain ⟨a, e1, e2, -⟩ := DataW.trod_int he h3
 have e3 : (ds.map fun d : Nat => (DataW.lit (.int .i64 (d : Int)) : DataW Unit))[i]? = (xs.map (·.1))[i]? := by rw [hx.1]
 rw [List.getElem?_map, List.getElem?_map, List.getElem?_eq_getElem (by omega), List.getElem?_eq_getElem (by omega), e2] at e3
 simp only [Option.map_some, Option.some.injEq, DataW.lit.injEq, Lit.int.injEq, true_and] at e3
 simp only [List.cons.injEq, and_true] at e1
 have e4 : c[i] = .int .i64 a := by simpa using e1
 rw [e4, ← e3]
 simp [LK]
theorem gp_of {w : World} (h : laidMetH Tryz.prog [("sigil/keccak.places", Rows.laid_sigil_keccak_places)] w) : Gp w :=
 ints_of_laid (n := 25) (t := 36) (e := 3) PL h (by kernel_rfl) (by kernel_rfl) (by kernel_rfl) (by kernel_rfl) (by kernel_rfl) (by kernel_rfl) rfl (by decide)
theorem door_met (os : Os) (args : Array Value) : laidMetH Tryz.prog [("sigil/keccak.places", Rows.laid_sigil_keccak_places)] ((World.doorLaid Tryz.prog 400 os).forCall (fun _ _ => 0) ⟨#[], args, []⟩).memory :=
 laidMetH_of_parts3 (fuel := 8) (laidMet_of_run' 8 (by kernel_rfl) (by kernel_rfl)) (by kernel_rfl) (by kernel_rfl)
theorem eq25 (x y : List Nat) (hx : x.length = 25) (hy : y.length = 25) : ∀ w, (binOp .eql 128 (.agg (LK .u64 x)) (.agg (LK .u64 y))).run Tryz.prog w = .ok (.bool (decide (x = y))) w := fun w => by
 obtain ⟨i64, h64⟩ := eqs.info_of (P := Tryz.prog) (e := 32) (s := 1) (by kernel_rfl)
 have nx := words.nums_lk .u64 x
 have ny := words.nums_lk .u64 y
 rw [hx] at nx
 rw [hy] at ny
 rw [run_eql_struct, eqs.run_eq_array w 9998 (t := 128) (e := 32) (n := 25) (k := .u64) (by kernel_rfl) h64 (by kernel_rfl) (by kernel_rfl) _ _ nx ny]
 simp [Result.andThen, words.all_eq x y 25 hx hy]
theorem guard25 : Tryz.prog.eqGuardType Tryz.prog.depth 128 = false := by kernel_rfl
end laids
namespace kfun
open Go.RowKit
open arr mem kecm kecb kturn kstep
theorem size25 {l : List Nat} (h : l.length = 25) : (Tryz.prog.info? 128).map (·.size) = some (LK .u64 l).size := by rw [lk_size, h]; exact info25
theorem same25 {l m : List Nat} (h : l.length = 25) (hm : m.length = 25) : (LK .u64 l).size = (LK .u64 m).size := by rw [lk_size, lk_size, h, hm]
theorem two {w W : World} {x y : Obj} (h : (w.alloc x).alloc y = W) : W.heap[w.heap.size]? = some x ∧ W.heap[w.heap.size + 1]? = some y ∧ W.heap.size = w.heap.size + 2 ∧ Below w.heap.size w W := by
 subst h
 refine ⟨?_, heap_at _ _ _ (by rw [size_alloc]), by rw [size_alloc, size_alloc], ((Below.refl _ _).alloc (Nat.le_refl _) _).alloc (by rw [size_alloc]; omega) _⟩
 rw [heap_past _ _ _ (by rw [size_alloc]; omega), heap_at _ _ _ rfl]
theorem three {w W : World} {x y z : Obj} (h : ((w.alloc x).alloc y).alloc z = W) : W.heap[w.heap.size]? = some x ∧ W.heap[w.heap.size + 1]? = some y ∧ W.heap[w.heap.size + 2]? = some z ∧ W.heap.size = w.heap.size + 3 ∧ Below w.heap.size w W := by
 obtain ⟨h1, h2, h3, h4⟩ := two (w := w) (x := x) (y := y) rfl
 subst h
 refine ⟨?_, ?_, heap_at _ _ _ h3.symm, by rw [size_alloc, h3], h4.alloc (by rw [h3]; omega) _⟩
 ·rw [heap_past _ _ _ (by omega), h1]
 ·rw [heap_past _ _ _ (by omega), h2]
theorem four {w W : World} {x y z u : Obj} (h : (((w.alloc x).alloc y).alloc z).alloc u = W) : W.heap[w.heap.size]? = some x ∧ W.heap[w.heap.size + 1]? = some y ∧ W.heap[w.heap.size + 2]? = some z ∧ W.heap[w.heap.size + 3]? = some u ∧ W.heap.size = w.heap.size + 4 ∧ Below w.heap.size w W := by
 obtain ⟨h1, h2, h3, h4, h5⟩ := three (w := w) (x := x) (y := y) (z := z) rfl
 subst h
 refine ⟨?_, ?_, ?_, heap_at _ _ _ h4.symm, by rw [size_alloc, h4], h5.alloc (by rw [h4]; omega) _⟩
 ·rw [heap_past _ _ _ (by omega), h1]
 ·rw [heap_past _ _ _ (by omega), h2]
 ·rw [heap_past _ _ _ (by omega), h3]
theorem cst_lt {rs : List Nat} (h : ∀ i, rs.getD i 0 < 18446744073709551616) (n : Int) : cst rs n < 18446744073709551616 := by
 unfold cst
 split
 ·exact h _
 ·decide
theorem cst_at (rs : List Nat) (k : Nat) (h : k < 24) : cst rs (k : Int) = rs.getD k 0 := by
 rw [cst, if_pos (by omega), Int.toNat_natCast]
set_option maxRecDepth 100000 in
set_option maxHeartbeats 2000000 in
theorem perm_any {T : Array Value} {ts rs : List Nat} (a : List Nat) (w : World) (h : St a) (hK : KT T ts rs) (hP : Gp w) :
 Calls Tryz.prog 138 #[.agg T, .agg (LK .u64 a)] w fun e w' => e = .returned (.agg (LK .u64 (permL (fun i => ts.getD i 0) (fun i => rs.getD i 0) a 24))) ∧ Below w.heap.size w w' := by
 have H := Away.mk h
 obtain ⟨z, HZ⟩ := ex_eq Z
 have HZl : Away (z.length = 25) := ⟨by rw [← HZ.out]; rfl⟩
 have Hz : Away ((#[.int .u64 0, .int .u64 0, .int .u64 0, .int .u64 0, .int .u64 0, .int .u64 0, .int .u64 0, .int .u64 0, .int .u64 0, .int .u64 0, .int .u64 0, .int .u64 0, .int .u64 0, .int .u64 0, .int .u64 0, .int .u64 0, .int .u64 0, .int .u64 0, .int .u64 0, .int .u64 0, .int .u64 0, .int .u64 0, .int .u64 0, .int .u64 0, .int .u64 0] : Array Value) = LK .u64 z) := ⟨by rw [← HZ.out]; exact z_is⟩
 clear h HZ
 have HK := Away.mk hK
 have HP := Away.mk hP
 clear hK hP
 obtain ⟨R, HR⟩ := ex_eq (permL (fun i => ts.getD i 0) (fun i => rs.getD i 0) a 24)
 have HRl : Away (R.length = 25) := ⟨by rw [← HR.out]; exact (permL_st (fun i => ts.getD i 0) _ HK.out.br H.out 24).len⟩
 have HRo := Away.mk (lk_one .u64 R)
 have HRz := Away.mk (size25 HRl.out)
 rw [HR.out]
 go_enter Tryz.func138, Tryz.ntmps138
 go_wp2_with fail
 rw [Hz.out]
 obtain ⟨W, hW⟩ : ∃ x, ((w.alloc (.cells T 38)).alloc (.cells (LK .u64 a) 128)).alloc (.cells (LK .u64 z) 128) = x := ⟨_, rfl⟩
 obtain ⟨b0, b1, b2, hWs, hWb⟩ := three hW
 rw [hW]
 clear hW
 have B0 := Away.mk b0
 have B1 := Away.mk b1
 have B2 := Away.mk b2
 have HWs := Away.mk hWs
 have HWb := Away.mk hWb
 clear hWs hWb b0 b1 b2
 have P0 : Away (Gp W) := ⟨HP.out.later HWb.out⟩
 go_loopw [6] (fun i wr => ∃ k : Nat, k ≤ 24 ∧ i = .int .i64 (k : Int) ∧ Away (At (w.heap.size + 1) (LK .u64 (permL (fun i => ts.getD i 0) (fun i => rs.getD i 0) a k)) 128 W wr)) (fun i _ => 24 - (intOf i).toNat)
 case atStart => exact ⟨0, by decide, rfl, ⟨At.refl B1.out⟩⟩
 case round =>
  obtain ⟨k, hk, rfl, A0⟩ := hrel
  by_cases hlt : k < 24
  ·have hkz : (k : Int) < 24 := by omega
   go_wp2_with fail
   refine (kstep.step_any (k : Int) w.heap.size (w.heap.size + 1) T _ ts rs wr (permL_st (fun i => ts.getD i 0) _ HK.out.br H.out k) HK.out (Gp.at P0.out A0.out (by have := gp_lt HP.out; omega)) (A0.out.other (by have := HWs.out; omega) (by omega) B0.out) A0.out.row (by omega) (by have := gp_lt HP.out; omega)).mono ?_
   rintro e w1 ⟨rfl, h1⟩
   have A1 : Away (At (w.heap.size + 1) (LK .u64 (permL (fun i => ts.getD i 0) (fun i => rs.getD i 0) a (k + 1))) 128 W w1) := ⟨by rw [permL, ← cst_at rs k hlt]; exact A0.out.trans h1⟩
   clear h1
   go_wp2_with fail
   go_roundw
   case rel => exact ⟨k + 1, by omega, by go_num, A1⟩
   case measure => simp [intOf]; omega
  ·obtain rfl : k = 24 := by omega
   simp only [Int.cast_ofNat_Int]
   have A1 : Away (At (w.heap.size + 1) (LK .u64 R) 128 W wr) := ⟨by rw [← HR.out]; exact A0.out⟩
   have Hres : Away (wr.heap[w.heap.size + 2]? = some (.cells (LK .u64 z) 128 (0, 0))) := ⟨A1.out.other (by have := HWs.out; omega) (by omega) B2.out⟩
   have Hrow := Away.mk A1.out.row
   have Hb1 : Away (Below w.heap.size w wr) := ⟨HWb.out.trans (A1.out.below (by have := HWs.out; omega) (by omega))⟩
   go_wp2_with (first
    | (refine wpList_load_row rfl 128 _ rfl (w.heap.size + 1) rfl 128 (LK .u64 R) (0, 0) _ Hrow.out Tryz.underlying128 rfl HRz.out ?_)
    | (refine wpList_store_row rfl 128 _ _ rfl (w.heap.size + 2) (LK .u64 R) rfl rfl 128 _ Hres.out HRz.out (same25 HZl.out HRl.out) HRo.out ?_))
   refine bodyPost_ret_by (v := .agg (LK .u64 R)) (results_cell_row rfl _ _ (w.heap.size + 2) 128 _ (0, 0) _ rfl (setRow_heap _ _ _ _ _ _ Hres.out) Tryz.underlying128 rfl HRz.out) rfl ?_
   exact ⟨rfl, Hb1.out.trans (below_setRow _ _ _ (by omega))⟩
end kfun
namespace kecd
open Go.RowKit
open arr mem tabv kecm keca kstep
theorem tl_lt : ∀ i, TL.getD i 0 < 64 := by
 intro i
 by_cases h : i < 25
 ·have : ∀ i : Fin 25, TL.getD i.val 0 < 64 := by decide
  exact this ⟨i, h⟩
 ·rw [List.getD_eq_getElem?_getD, List.getElem?_eq_none (by show 25 ≤ i; omega)]; decide
theorem rl_lt : ∀ i, RL.getD i 0 < 18446744073709551616 := by
 intro i
 by_cases h : i < 24
 ·have : ∀ i : Fin 24, RL.getD i.val 0 < 18446744073709551616 := by decide
  exact this ⟨i, h⟩
 ·rw [List.getD_eq_getElem?_getD, List.getElem?_eq_none (by show 24 ≤ i; omega)]; decide
theorem kt_doc : KT TA TL RL :=
 ⟨fun i hi => by rw [ta_get _ (by omega), tv_turns i hi, tl_is], fun i hi => by rw [ta_get _ (by omega), tv_rounds i hi, rl_is], fun i => Nat.lt_of_lt_of_le (tl_lt i) (by decide), rl_lt, ta_size, ta_one⟩
theorem st_of {a : List Nat} (h : a.length = 25) (h2 : ∀ i : Fin 25, g a i.val < 18446744073709551616) : St a := ⟨h, fun i => by
 by_cases hi : i < 25
 ·exact h2 ⟨i, hi⟩
 ·unfold g; rw [List.getD_eq_getElem?_getD, List.getElem?_eq_none (by omega)]; decide⟩
theorem getD_set (l : List Nat) (m v i : Nat) : (l.set m v).getD i 0 = if i = m ∧ m < l.length then v else l.getD i 0 := by
 rw [List.getD_eq_getElem?_getD, List.getD_eq_getElem?_getD, List.getElem?_set]
 by_cases h : m = i
 ·subst h
  by_cases h2 : m < l.length
  ·simp [h2]
  ·rw [if_pos rfl, if_neg h2, if_neg (by omega), List.getElem?_eq_none (by omega)]
 ·rw [if_neg h, if_neg (by omega)]
theorem region_still_ops {P : Program} {id : Nat} {Q : Exit → Act → World → Prop} {a : Act} {w : World} {l : List Oper} (hm : P.follows .mixedOrders = true) (hB : Region.lexB .any l.toArray = true)
 (h : ∀ ops : Array Oper, Away (l.toArray = ops) → wpStill P ops w.drew (fun a' => Q .normal a' w.drew) l a) : (Code.region id l.toArray true).wp P Q a w := kecb.still_all hm hB (h _ ⟨rfl⟩)
theorem wpStill_want {P : Program} {ops : Array Oper} {w : World} {Q : Act → Prop} {rest : List Oper} {o : Oper} {a : Act} (hw : Region.wanted o (yielded ops a.tmps) = true)
 (h : ∀ K : Act → Prop, (∀ a, wpStill P ops w Q rest a → K a) → o.still P a w K) : wpStill P ops w Q (o :: rest) a :=
 wpStill_step fun K hK => by rw [if_pos hw]; exact h K hK
theorem one {w W : World} {x : Obj} (h : w.alloc x = W) : W.heap[w.heap.size]? = some x ∧ W.heap.size = w.heap.size + 1 ∧ Below w.heap.size w W := by
 subst h
 exact ⟨heap_at _ _ _ rfl, size_alloc _ _, below_alloc _ _⟩
end kecd
end Go.Proofs.YtlcafjdehcddcaaGreatDoor
