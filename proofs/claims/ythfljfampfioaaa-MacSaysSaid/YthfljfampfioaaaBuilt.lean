/-
  A struct literal of type api.Tables with three of its arrays given: which cells it has. Conditions: the arrays have the fields' sizes.
-/
import Derived.Test.YthfljfampfioaaaTabV
namespace Go.Proofs.Ythfljfampfioaaa.built
open Go.RowKit
open Go.Proofs.Ythfljfampfioaaa.tabt Go.Proofs.Ythfljfampfioaaa.arr Go.Proofs.Ythfljfampfioaaa.tabv

/-- the cells vs written into cs from off on -/
def put (cs : Array Value) (off : Nat) (vs : Array Value) : Array Value := vs.zipIdx.foldl (fun cs (c, j) => cs.setIfInBounds (off + j) c) cs
theorem fold_get (off : Nat) : ∀ (l : List Value) (k : Nat) (cs : Array Value), ((l.zipIdx k).foldl (fun cs (c, j) => cs.setIfInBounds (off + j) c) cs).size = cs.size ∧ ∀ i, i < cs.size → ((l.zipIdx k).foldl (fun cs (c, j) => cs.setIfInBounds (off + j) c) cs)[i]? = if off + k ≤ i ∧ i < off + k + l.length then l[i - (off + k)]? else cs[i]?
  | [], k, cs => ⟨rfl, fun i hi => by rw [if_neg (by simp <;> omega)]; rfl⟩
  | v :: r, k, cs => by
    obtain ⟨h1, h2⟩ := fold_get off r (k + 1) (cs.setIfInBounds (off + k) v)
    simp only [List.zipIdx_cons, List.foldl_cons]
    refine ⟨by rw [h1]; simp, fun i hi => ?_⟩
    rw [h2 i (by simpa using hi)]
    simp only [List.length_cons]
    by_cases e : off + k = i
    · subst e
      rw [if_neg (by omega), if_pos (by omega), Nat.sub_self]
      simp [hi]
    · by_cases h : off + (k + 1) ≤ i ∧ i < off + (k + 1) + r.length
      · rw [if_pos h, if_pos (by omega), show i - (off + k) = (i - (off + (k + 1))) + 1 by omega, List.getElem?_cons_succ]
      · rw [if_neg h, if_neg (by omega), Array.getElem?_setIfInBounds, if_neg e]
theorem put_size (cs : Array Value) (off : Nat) (vs : Array Value) : (put cs off vs).size = cs.size := by
  unfold put
  rw [← Array.foldl_toList, Array.toList_zipIdx]
  exact (fold_get off vs.toList 0 cs).1
theorem put_get (cs : Array Value) (off : Nat) (vs : Array Value) (i : Nat) (hi : i < cs.size) : (put cs off vs)[i]? = if off ≤ i ∧ i < off + vs.size then vs[i - off]? else cs[i]? := by
  unfold put
  rw [← Array.foldl_toList, Array.toList_zipIdx, (fold_get off vs.toList 0 cs).2 i hi]
  simp
theorem fill_cons {place : Nat → Option (Nat × Nat)} {cells : Array Value} {i : Nat} {v : Array Value} {rest : List (Nat × Value)} {off size : Nat} (hp : place i = some (off, size)) (hs : v.size = size) (ho : off + size ≤ cells.size) :
    Instr.fill place cells ((i, .agg v) :: rest) = Instr.fill place (put cells off v) rest := by
  rw [Instr.fill, hp]
  dsimp only
  split
  · rename_i h
    exfalso
    have h1 : (Value.agg v).cells.size = size := hs
    rw [h1] at h
    simp at h
    omega
  · rfl

theorem put_one {cs vs : Array Value} {off : Nat} (h1 : cs.all (·.oneCell') = true) (h2 : vs.all (·.oneCell') = true) : (put cs off vs).all (·.oneCell') = true := by
  rw [Array.all_eq_true_iff_forall_mem] at *
  intro v hv
  obtain ⟨i, hi, rfl⟩ := Array.mem_iff_getElem.1 hv
  have hi2 : i < cs.size := by rw [put_size] at hi; exact hi
  have hg := put_get cs off vs i hi2
  rw [Array.getElem?_eq_getElem hi] at hg
  by_cases e : off ≤ i ∧ i < off + vs.size
  · rw [if_pos e, Array.getElem?_eq_getElem (by omega)] at hg
    rw [Option.some.inj hg]
    exact h2 _ (Array.getElem_mem _)
  · rw [if_neg e, Array.getElem?_eq_getElem hi2] at hg
    rw [Option.some.inj hg]
    exact h1 _ (Array.getElem_mem _)

def TZ : Array Value := LK .u32 (List.replicate 72 0) ++ LK .u64 (List.replicate 112 0) ++ LK .i64 (List.replicate 281 0)
theorem tz_size : TZ.size = 465 := by unfold TZ; rw [Array.size_append, Array.size_append, lk_size, lk_size, lk_size, List.length_replicate, List.length_replicate, List.length_replicate]
theorem tz_one : TZ.all (·.oneCell') = true := by
  unfold TZ
  rw [Array.all_append, Array.all_append, lk_one, lk_one, lk_one]
  rfl
theorem infoT : (Try.prog.info? 33).map (fun i => (i.zero, i.size)) = some (some (.agg TZ), 465) := by kernel_rfl
theorem placesT : (Try.prog.fieldsOf 33).toList.mapM (fun f => (Try.prog.info? f.type).map fun i => (f.offset, i.size)) = some [(0, 64), (64, 8), (72, 80), (152, 8), (160, 24), (184, 25), (209, 256)] := by kernel_rfl
theorem underT : Try.prog.underlying 33 = some (.struct (Try.prog.fieldsOf 33)) := by kernel_rfl

theorem built_tables (R U Z : Array Value) (hR : R.size = 24) (hU : U.size = 25) (hZ : Z.size = 256) (oR : R.all (·.oneCell') = true) (oU : U.all (·.oneCell') = true) (oZ : Z.all (·.oneCell') = true) :
    ∃ C, Try.prog.built 33 [(4, .agg R), (5, .agg U), (6, .agg Z)] = some C ∧ C.size = 465 ∧ (∀ j, j < 24 → C[160 + j]? = R[j]?) ∧ (∀ j, j < 25 → C[184 + j]? = U[j]?) ∧ (∀ j, j < 256 → C[209 + j]? = Z[j]?) ∧ C.all (·.oneCell') = true := by
  refine ⟨put (put (put TZ 160 R) 184 U) 209 Z, ?_, by simp only [put_size, tz_size], ?_, ?_, ?_, put_one (put_one (put_one tz_one oR) oU) oZ⟩
  · have hi := infoT
    cases hq : Try.prog.info? 33 with
    | none => simp [hq] at hi
    | some it =>
      simp only [hq, Option.map_some, Option.some.injEq, Prod.mk.injEq] at hi
      unfold Program.built
      rw [hq, underT]
      simp only [hi.1, placesT]
      rw [show Value.cells (.agg TZ) = TZ from rfl]
      rw [fill_cons (off := 160) (size := 24) rfl hR (by rw [tz_size]; decide), fill_cons (off := 184) (size := 25) rfl hU (by rw [put_size, tz_size]; decide), fill_cons (off := 209) (size := 256) rfl hZ (by rw [put_size, put_size, tz_size]; decide)]
      rfl
  · intro j hj
    rw [put_get _ _ _ _ (by simp only [put_size, tz_size]; omega), if_neg (by omega), put_get _ _ _ _ (by simp only [put_size, tz_size]; omega), if_neg (by omega), put_get _ _ _ _ (by rw [tz_size]; omega), if_pos (by omega), show 160 + j - 160 = j by omega]
  · intro j hj
    rw [put_get _ _ _ _ (by simp only [put_size, tz_size]; omega), if_neg (by omega), put_get _ _ _ _ (by simp only [put_size, tz_size]; omega), if_pos (by omega), show 184 + j - 184 = j by omega]
  · intro j hj
    rw [put_get _ _ _ _ (by simp only [put_size, tz_size]; omega), if_pos (by omega), show 209 + j - 209 = j by omega]
/-- the operation, its three parts given -/
theorem wpList_build3 {P : Program} {ops : Array Oper} {rest : List Oper} {o : Oper} {a : Act} {w : World} {Q : Exit → Act → World → Prop} (hg : o.guard = none) (t : TypeId) (i1 i2 i3 : Nat) (x1 x2 x3 : Operand) (ho : o.op = .build t #[(i1, x1), (i2, x2), (i3, x3)])
    (v1 v2 v3 : Value) (h1 : a.eval x1 = v1) (h2 : a.eval x2 = v2) (h3 : a.eval x3 = v3) (C : Array Value) (hC : P.built t [(i1, v1), (i2, v2), (i3, v3)] = some C)
    (h : wpList P ops Q rest (a.put o.dst (.agg C)) w) : wpList P ops Q (o :: rest) a w := by
  have e : ((#[(i1, x1), (i2, x2), (i3, x3)] : Array (Nat × Operand)).map fun (i, x) => (i, a.eval x)).toList = [(i1, v1), (i2, v2), (i3, v3)] := by simp [h1, h2, h3]
  exact wpList_build hg t _ ho (by rw [e, hC]; rfl) (by rw [e, hC]; exact h)
end Go.Proofs.Ythfljfampfioaaa.built
