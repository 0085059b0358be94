/-
  The tables that the document asks for, as the cells of one block, and what a block keeps while they are written into it (layer 2). No function of the program is named here. Conditions: as each theorem says.
  A struct literal of type api.Tables with three of its arrays given: which cells it has. Conditions: the arrays have the fields' sizes.
  What tables.Power and the reference's Power return, for any two numbers: x to the power n modulo the prime, or 0 if one of them is negative. Conditions: none but that the numbers are ints.
  What tables.Rounds and the reference's Rounds return: Keccak's round constants, as the document computes them; memory that was there before stays as it was. Conditions: none.
  What tables.turns and the reference's turns return: by how many bits each lane is turned, as the document computes it; memory that was there before stays as it was. Conditions: none.
  What tables.zetas returns, and what the reference's mirrored does: the ring's roots of unity as the document orders them; memory that was there before stays as it was. Conditions: none (of mirrored: a number below 256).
-/
import Derived.Test.YtbbealdamampaaaProg
import Derived.Test.YtbbealdamampaaaTabP
import Derived.Test.YtbbealdamampaaaBase
import Derived.WalkKit
import Derived.WalkSpells
import Derived.WalkLawsBesides
import Derived.Lib.Hide
import Derived.IntWalk
import Derived.Laws.BitsLemmas
import Derived.RegionTactic
import Derived.BigRegion
namespace Go.Proofs.Ytbbealdamampaaa.tabv
open Go.RowKit
open Go.Proofs.Ytbbealdamampaaa.tabm Go.Proofs.Ytbbealdamampaaa.tabd Go.Proofs.Ytbbealdamampaaa.primm Go.Proofs.Ytbbealdamampaaa.tabt Go.Proofs.Ytbbealdamampaaa.arr

def r3 (j : Nat) : Nat := rootN (ph.getD j 0) 3 % 18446744073709551616
def r2 (j : Nat) : Nat := rootN (ph.getD j 0) 2 % 18446744073709551616
/-- cell i of the tables -/
def tv (i : Nat) : Value :=
  if i < 64 then .int .u32 ((r3 i / 4294967296 : Nat) : Int)
  else if i < 72 then .int .u32 ((r2 (i - 64) / 4294967296 : Nat) : Int)
  else if i < 152 then .int .u64 ((r3 (i - 72) : Nat) : Int)
  else if i < 160 then .int .u64 ((r2 (i - 152) : Nat) : Int)
  else if i < 184 then .int .u64 (((rl 168).getD (i - 160) 0 : Nat) : Int)
  else if i < 209 then .int .i64 (((tl 24).getD (i - 184) 0 : Nat) : Int)
  else .int .i64 (((zl 256).getD (i - 209) 0 : Nat) : Int)
/-- all of them -/
def TA : Array Value := ((List.range 465).map tv).toArray
theorem ta_size : TA.size = 465 := by simp [TA]
theorem ta_get (i : Nat) (h : i < 465) : TA[i]? = some (tv i) := by simp [TA, h]
theorem tv_one (i : Nat) : (tv i).oneCell' = true := by
  unfold tv
  repeat' split
  all_goals rfl
theorem ta_one : TA.all (·.oneCell') = true := by
  rw [Array.all_eq_true_iff_forall_mem]
  intro v hv
  simp only [TA, List.mem_toArray, List.mem_map] at hv
  obtain ⟨i, -, rfl⟩ := hv
  exact tv_one i
theorem r3_lt (j : Nat) : r3 j < 18446744073709551616 := Nat.mod_lt _ (by decide)
theorem r2_lt (j : Nat) : r2 j < 18446744073709551616 := Nat.mod_lt _ (by decide)
theorem tv_small (j : Nat) (h : j < 64) : tv j = .int .u32 ((r3 j / 4294967296 : Nat) : Int) := by unfold tv; rw [if_pos h]
theorem tv_sstart (j : Nat) (h : j < 8) : tv (64 + j) = .int .u32 ((r2 j / 4294967296 : Nat) : Int) := by
  unfold tv; rw [if_neg (by omega), if_pos (by omega), show 64 + j - 64 = j by omega]
theorem tv_large (j : Nat) (h : j < 80) : tv (72 + j) = .int .u64 ((r3 j : Nat) : Int) := by
  unfold tv; rw [if_neg (by omega), if_neg (by omega), if_pos (by omega), show 72 + j - 72 = j by omega]
theorem tv_lstart (j : Nat) (h : j < 8) : tv (152 + j) = .int .u64 ((r2 j : Nat) : Int) := by
  unfold tv; rw [if_neg (by omega), if_neg (by omega), if_neg (by omega), if_pos (by omega), show 152 + j - 152 = j by omega]
theorem tv_rounds (j : Nat) (h : j < 24) : tv (160 + j) = .int .u64 (((rl 168).getD j 0 : Nat) : Int) := by
  unfold tv; rw [if_neg (by omega), if_neg (by omega), if_neg (by omega), if_neg (by omega), if_pos (by omega), show 160 + j - 160 = j by omega]
theorem tv_turns (j : Nat) (h : j < 25) : tv (184 + j) = .int .i64 (((tl 24).getD j 0 : Nat) : Int) := by
  unfold tv; rw [if_neg (by omega), if_neg (by omega), if_neg (by omega), if_neg (by omega), if_neg (by omega), if_pos (by omega), show 184 + j - 184 = j by omega]
theorem tv_zetas (j : Nat) (_h : j < 256) : tv (209 + j) = .int .i64 (((zl 256).getD j 0 : Nat) : Int) := by
  unfold tv; rw [if_neg (by omega), if_neg (by omega), if_neg (by omega), if_neg (by omega), if_neg (by omega), if_neg (by omega), show 209 + j - 209 = j by omega]

/-! ### A block into which they are written -/
/-- the result's block lies at the head of what is new, the tables' block at g, of whose cells those in S are written -/
structure Ms (T : TypeId) (w : World) (g : Nat) (S : Nat → Prop) (wr : World) : Prop where
  z : ∃ Z : Array Value, Z.size = 465 ∧ wr.heap[w.heap.size]? = some (.cells Z T (0, 0))
  th : ∀ i, i < 465 → (∃ v, wr.cell? ⟨g, i, none⟩ = some v) ∧ wr.frozen? ⟨g, i, none⟩ = false
  vs : ∀ i, i < 465 → S i → wr.cell? ⟨g, i, none⟩ = some (tv i)
  lt : w.heap.size < g ∧ g < wr.heap.size
  be : Below w.heap.size w wr
theorem Ms.lt0 {T : TypeId} {w wr : World} {g : Nat} {S : Nat → Prop} (h : Ms T w g S wr) : w.heap.size < wr.heap.size := Nat.lt_trans h.lt.1 h.lt.2
theorem Ms.call {T : TypeId} {w wr w1 : World} {g : Nat} {S : Nat → Prop} (h : Ms T w g S wr) (hb : Below wr.heap.size wr w1) : Ms T w g S w1 := by
  have h0 := h.lt0
  obtain ⟨⟨Z, hz, h1⟩, h2, h3, h4, h5⟩ := h
  have hs := hb.size
  exact ⟨⟨Z, hz, (hb.block _ h0).trans h1⟩, fun i hi => ⟨by rw [hb.cell (p := ⟨g, i, none⟩) h4.2]; exact (h2 i hi).1, by rw [hb.frozen (p := ⟨g, i, none⟩) h4.2]; exact (h2 i hi).2⟩,
    fun i hi hS => by rw [hb.cell (p := ⟨g, i, none⟩) h4.2]; exact h3 i hi hS, ⟨h4.1, by omega⟩, h5.trans (hb.mono (by omega))⟩
theorem Ms.mono {T : TypeId} {w wr : World} {g : Nat} {S S' : Nat → Prop} (h : Ms T w g S wr) (hS : ∀ i, i < 465 → S' i → S i) : Ms T w g S' wr :=
  ⟨h.z, h.th, fun i hi h' => h.vs i hi (hS i hi h'), h.lt, h.be⟩
theorem size_setCell (w : World) (a : Addr) (v : Value) : (w.setCell a v).heap.size = w.heap.size := by simp [World.setCell]
theorem Ms.set {T : TypeId} {w wr : World} {g : Nat} {S : Nat → Prop} (h : Ms T w g S wr) (a : Nat) (ha : a < 465) {v : Value} (hv : v = tv a) : Ms T w g (fun i => S i ∨ i = a) (wr.setCell ⟨g, a, none⟩ v) := by
  subst hv
  obtain ⟨⟨Z, hz, h1⟩, h2, h3, h4, h5⟩ := h
  obtain ⟨⟨old, hold⟩, -⟩ := h2 a ha
  refine ⟨⟨Z, hz, by rw [Below.heap_setCell _ _ _ _ (by show w.heap.size ≠ g; omega)]; exact h1⟩, fun i hi => ⟨?_, by rw [World.frozen?_setCell]; exact (h2 i hi).2⟩, fun i hi hS => ?_, ⟨h4.1, by rw [size_setCell]; exact h4.2⟩, h5.setCell (by show w.heap.size ≤ g; omega) _⟩
  · by_cases e : a = i
    · subst e; exact ⟨_, World.cell?_setCell_same _ _ _ hold⟩
    · rw [World.cell?_setCell_other _ _ _ _ (by intro e2; injection e2; omega)]; exact (h2 i hi).1
  · by_cases e : a = i
    · subst e; exact World.cell?_setCell_same _ _ _ hold
    · rw [World.cell?_setCell_other _ _ _ _ (by intro e2; injection e2; omega)]
      exact h3 i hi (by rcases hS with h | h; · exact h
                        · omega)
theorem size_setCells (b : Nat) : ∀ (vs : List Value) (o : Nat) (w : World), (w.setCells b o vs).heap.size = w.heap.size
  | [], _, _ => rfl
  | v :: r, o, w => by rw [World.setCells, size_setCells b r, size_setCell]
theorem below_setCells {B b : Nat} (hB : B ≤ b) : ∀ (vs : List Value) (o : Nat) (w : World), Below B w (w.setCells b o vs)
  | [], _, w => Below.refl _ _
  | v :: r, o, w => by
    rw [World.setCells]
    exact ((Below.refl B w).setCell (p := ⟨b, o, none⟩) hB v).trans (below_setCells hB r _ _)
theorem Ms.sets {T : TypeId} {w wr : World} {g : Nat} {S : Nat → Prop} (h : Ms T w g S wr) (o : Nat) (vs : List Value) (ho : o + vs.length ≤ 465) (hv : ∀ j (hj : j < vs.length), vs[j] = tv (o + j)) :
    Ms T w g (fun i => S i ∨ (o ≤ i ∧ i < o + vs.length)) (wr.setCells g o vs) := by
  obtain ⟨⟨Z, hz, h1⟩, h2, h3, h4, h5⟩ := h
  have hin := fun j hj => World.cell?_setCells_in g vs o wr (fun i hi => by obtain ⟨⟨v, hv⟩, -⟩ := h2 (o + i) (by omega); rw [hv]; rfl) j hj
  have hout : ∀ i, i < o ∨ o + vs.length ≤ i → (wr.setCells g o vs).cell? ⟨g, i, none⟩ = wr.cell? ⟨g, i, none⟩ := fun i hi => World.cell?_setCells_out g vs o wr ⟨g, i, none⟩ (fun _ _ => hi)
  refine ⟨⟨Z, hz, by rw [(below_setCells (B := g) (Nat.le_refl _) vs o wr).block _ h4.1]; exact h1⟩, fun i hi => ⟨?_, by rw [World.frozen?_setCells]; exact (h2 i hi).2⟩, fun i hi hS => ?_, ⟨h4.1, by rw [size_setCells]; exact h4.2⟩, h5.trans (below_setCells (by omega) vs o wr)⟩
  · by_cases e : o ≤ i ∧ i < o + vs.length
    · have := hin (i - o) (by omega)
      rw [show o + (i - o) = i by omega] at this
      exact ⟨_, this⟩
    · rw [hout i (by omega)]; exact (h2 i hi).1
  · by_cases e : o ≤ i ∧ i < o + vs.length
    · have := hin (i - o) (by omega)
      rw [hv (i - o) (by omega), show o + (i - o) = i by omega] at this
      exact this
    · rw [hout i (by omega)]
      exact h3 i hi (by rcases hS with h | h; · exact h
                        · omega)
theorem lk_list (k : IntKind) (ds : List Nat) (j : Nat) (hj : j < (LK k ds).toList.length) : (LK k ds).toList[j] = .int k (ds.getD j 0 : Nat) := by
  have hd : j < ds.length := by simpa [LK] using hj
  simp only [LK, List.getElem_map, List.getD_eq_getElem?_getD, List.getElem?_eq_getElem hd, Option.getD_some]
/-- a range of a block, out of the block -/
theorem Ms.range {T : TypeId} {w wr : World} {g : Nat} {S : Nat → Prop} (h : Ms T w g S wr) (hS : ∀ i, i < 465 → S i) : wr.rangeAt g 0 TA.toList := fun j v hv => by
  rw [Array.getElem?_toList] at hv
  have hj : j < 465 := by
    by_cases hlt : j < 465
    · exact hlt
    · rw [Array.getElem?_eq_none (by rw [ta_size]; omega)] at hv; cases hv
  rw [ta_get j hj] at hv
  rw [Nat.zero_add, h.vs j hj (hS j hj), hv]
end Go.Proofs.Ytbbealdamampaaa.tabv

namespace Go.Proofs.Ytbbealdamampaaa.built
open Go.RowKit
open Go.Proofs.Ytbbealdamampaaa.tabt Go.Proofs.Ytbbealdamampaaa.arr Go.Proofs.Ytbbealdamampaaa.tabv

/-- the cells vs written into cs from off on -/
def put (cs : Array Value) (off : Nat) (vs : Array Value) : Array Value := vs.zipIdx.foldl (fun cs (c, j) => cs.setIfInBounds (off + j) c) cs
theorem fold_get (off : Nat) : ∀ (l : List Value) (k : Nat) (cs : Array Value), ((l.zipIdx k).foldl (fun cs (c, j) => cs.setIfInBounds (off + j) c) cs).size = cs.size ∧ ∀ i, i < cs.size → ((l.zipIdx k).foldl (fun cs (c, j) => cs.setIfInBounds (off + j) c) cs)[i]? = if off + k ≤ i ∧ i < off + k + l.length then l[i - (off + k)]? else cs[i]?
  | [], k, cs => ⟨rfl, fun i hi => by rw [if_neg (by simp <;> omega)]; rfl⟩
  | v :: r, k, cs => by
    obtain ⟨h1, h2⟩ := fold_get off r (k + 1) (cs.setIfInBounds (off + k) v)
    simp only [List.zipIdx_cons, List.foldl_cons]
    refine ⟨by rw [h1]; simp, fun i hi => ?_⟩
    rw [h2 i (by simpa using hi)]
    simp only [List.length_cons]
    by_cases e : off + k = i
    · subst e
      rw [if_neg (by omega), if_pos (by omega), Nat.sub_self]
      simp [hi]
    · by_cases h : off + (k + 1) ≤ i ∧ i < off + (k + 1) + r.length
      · rw [if_pos h, if_pos (by omega), show i - (off + k) = (i - (off + (k + 1))) + 1 by omega, List.getElem?_cons_succ]
      · rw [if_neg h, if_neg (by omega), Array.getElem?_setIfInBounds, if_neg e]
theorem put_size (cs : Array Value) (off : Nat) (vs : Array Value) : (put cs off vs).size = cs.size := by
  unfold put
  rw [← Array.foldl_toList, Array.toList_zipIdx]
  exact (fold_get off vs.toList 0 cs).1
theorem put_get (cs : Array Value) (off : Nat) (vs : Array Value) (i : Nat) (hi : i < cs.size) : (put cs off vs)[i]? = if off ≤ i ∧ i < off + vs.size then vs[i - off]? else cs[i]? := by
  unfold put
  rw [← Array.foldl_toList, Array.toList_zipIdx, (fold_get off vs.toList 0 cs).2 i hi]
  simp
theorem fill_cons {place : Nat → Option (Nat × Nat)} {cells : Array Value} {i : Nat} {v : Array Value} {rest : List (Nat × Value)} {off size : Nat} (hp : place i = some (off, size)) (hs : v.size = size) (ho : off + size ≤ cells.size) :
    Instr.fill place cells ((i, .agg v) :: rest) = Instr.fill place (put cells off v) rest := by
  rw [Instr.fill, hp]
  dsimp only
  split
  · rename_i h
    exfalso
    have h1 : (Value.agg v).cells.size = size := hs
    rw [h1] at h
    simp at h
    omega
  · rfl

theorem put_one {cs vs : Array Value} {off : Nat} (h1 : cs.all (·.oneCell') = true) (h2 : vs.all (·.oneCell') = true) : (put cs off vs).all (·.oneCell') = true := by
  rw [Array.all_eq_true_iff_forall_mem] at *
  intro v hv
  obtain ⟨i, hi, rfl⟩ := Array.mem_iff_getElem.1 hv
  have hi2 : i < cs.size := by rw [put_size] at hi; exact hi
  have hg := put_get cs off vs i hi2
  rw [Array.getElem?_eq_getElem hi] at hg
  by_cases e : off ≤ i ∧ i < off + vs.size
  · rw [if_pos e, Array.getElem?_eq_getElem (by omega)] at hg
    rw [Option.some.inj hg]
    exact h2 _ (Array.getElem_mem _)
  · rw [if_neg e, Array.getElem?_eq_getElem hi2] at hg
    rw [Option.some.inj hg]
    exact h1 _ (Array.getElem_mem _)

def TZ : Array Value := LK .u32 (List.replicate 72 0) ++ LK .u64 (List.replicate 112 0) ++ LK .i64 (List.replicate 281 0)
theorem tz_size : TZ.size = 465 := by unfold TZ; rw [Array.size_append, Array.size_append, lk_size, lk_size, lk_size, List.length_replicate, List.length_replicate, List.length_replicate]
theorem tz_one : TZ.all (·.oneCell') = true := by
  unfold TZ
  rw [Array.all_append, Array.all_append, lk_one, lk_one, lk_one]
  rfl
theorem infoT : (Try.prog.info? 33).map (fun i => (i.zero, i.size)) = some (some (.agg TZ), 465) := by kernel_rfl
theorem placesT : (Try.prog.fieldsOf 33).toList.mapM (fun f => (Try.prog.info? f.type).map fun i => (f.offset, i.size)) = some [(0, 64), (64, 8), (72, 80), (152, 8), (160, 24), (184, 25), (209, 256)] := by kernel_rfl
theorem underT : Try.prog.underlying 33 = some (.struct (Try.prog.fieldsOf 33)) := by kernel_rfl

theorem built_tables (R U Z : Array Value) (hR : R.size = 24) (hU : U.size = 25) (hZ : Z.size = 256) (oR : R.all (·.oneCell') = true) (oU : U.all (·.oneCell') = true) (oZ : Z.all (·.oneCell') = true) :
    ∃ C, Try.prog.built 33 [(4, .agg R), (5, .agg U), (6, .agg Z)] = some C ∧ C.size = 465 ∧ (∀ j, j < 24 → C[160 + j]? = R[j]?) ∧ (∀ j, j < 25 → C[184 + j]? = U[j]?) ∧ (∀ j, j < 256 → C[209 + j]? = Z[j]?) ∧ C.all (·.oneCell') = true := by
  refine ⟨put (put (put TZ 160 R) 184 U) 209 Z, ?_, by simp only [put_size, tz_size], ?_, ?_, ?_, put_one (put_one (put_one tz_one oR) oU) oZ⟩
  · have hi := infoT
    cases hq : Try.prog.info? 33 with
    | none => simp [hq] at hi
    | some it =>
      simp only [hq, Option.map_some, Option.some.injEq, Prod.mk.injEq] at hi
      unfold Program.built
      rw [hq, underT]
      simp only [hi.1, placesT]
      rw [show Value.cells (.agg TZ) = TZ from rfl]
      rw [fill_cons (off := 160) (size := 24) rfl hR (by rw [tz_size]; decide), fill_cons (off := 184) (size := 25) rfl hU (by rw [put_size, tz_size]; decide), fill_cons (off := 209) (size := 256) rfl hZ (by rw [put_size, put_size, tz_size]; decide)]
      rfl
  · intro j hj
    rw [put_get _ _ _ _ (by simp only [put_size, tz_size]; omega), if_neg (by omega), put_get _ _ _ _ (by simp only [put_size, tz_size]; omega), if_neg (by omega), put_get _ _ _ _ (by rw [tz_size]; omega), if_pos (by omega), show 160 + j - 160 = j by omega]
  · intro j hj
    rw [put_get _ _ _ _ (by simp only [put_size, tz_size]; omega), if_neg (by omega), put_get _ _ _ _ (by simp only [put_size, tz_size]; omega), if_pos (by omega), show 184 + j - 184 = j by omega]
  · intro j hj
    rw [put_get _ _ _ _ (by simp only [put_size, tz_size]; omega), if_pos (by omega), show 209 + j - 209 = j by omega]
/-- the operation, its three parts given -/
theorem wpList_build3 {P : Program} {ops : Array Oper} {rest : List Oper} {o : Oper} {a : Act} {w : World} {Q : Exit → Act → World → Prop} (hg : o.guard = none) (t : TypeId) (i1 i2 i3 : Nat) (x1 x2 x3 : Operand) (ho : o.op = .build t #[(i1, x1), (i2, x2), (i3, x3)])
    (v1 v2 v3 : Value) (h1 : a.eval x1 = v1) (h2 : a.eval x2 = v2) (h3 : a.eval x3 = v3) (C : Array Value) (hC : P.built t [(i1, v1), (i2, v2), (i3, v3)] = some C)
    (h : wpList P ops Q rest (a.put o.dst (.agg C)) w) : wpList P ops Q (o :: rest) a w := by
  have e : ((#[(i1, x1), (i2, x2), (i3, x3)] : Array (Nat × Operand)).map fun (i, x) => (i, a.eval x)).toList = [(i1, v1), (i2, v2), (i3, v3)] := by simp [h1, h2, h3]
  exact wpList_build hg t _ ho (by rw [e, hC]; rfl) (by rw [e, hC]; exact h)
end Go.Proofs.Ytbbealdamampaaa.built

namespace Go.Proofs.Ytbbealdamampaaa.power
open Go.RowKit
open Go.Proofs.Ytbbealdamampaaa.tabm

theorem cast_mm (a b : Nat) : Value.int .i64 ((a : Int) * (b : Int) % 8380417) = .int .i64 ((a * b % 8380417 : Nat) : Int) :=
  congrArg (Value.int .i64) (by rw [Int.natCast_emod, Int.natCast_mul]; rfl)
theorem ret_int {k : IntKind} {a b : Int} (h : a = b) : Ending.returned (.int k a) = .returned (.int k b) := by rw [h]
theorem cast_half (m : Nat) : Value.int .i64 ((m : Int) / 2) = .int .i64 ((m / 2 : Nat) : Int) :=
  congrArg (Value.int .i64) (by omega)
theorem mul_bd (R S : Nat) (hR : R < 8380417) (hS : S < 8380417) : (0 : Int) ≤ (R : Int) * (S : Int) ∧ (R : Int) * (S : Int) ≤ 70231372333056 := by
  have h1 : R * S ≤ 8380416 * 8380416 := Nat.mul_le_mul (by omega) (by omega)
  have h2 : (R : Int) * (S : Int) = ((R * S : Nat) : Int) := by norm_cast
  rw [h2]
  omega
theorem and_one_i64 (m : Nat) (hm : m ≤ 9223372036854775807) : bits .and .i64 (m : Int) 1 = (m : Int) % 2 := by
  have h := bits_mask .i64 63 (by decide) (fun n h0 h1 => IntWalk.i64_in n (by omega)) 1 (by decide) (m : Int) (by omega) (by omega)
  simpa using h
def Keeps (x n : Nat) (n' r s : Value) : Prop := ∃ m R S : Nat, m ≤ 9223372036854775807 ∧ R < 8380417 ∧ S < 8380417 ∧ n' = .int .i64 m ∧ r = .int .i64 R ∧ s = .int .i64 S ∧ pwk x n R S m

set_option maxHeartbeats 400000 in
theorem power_nn (x n : Nat) (w : World) (hx : x ≤ 9223372036854775807) (hn : n ≤ 9223372036854775807) :
    Calls Try.prog 23 #[.int .i64 x, .int .i64 n] w fun e w' => e = .returned (.int .i64 (pw x n)) ∧ w = w' := by
  have hst := pwk_start x n
  go_enter Try.func23, Try.ntmps23
  go_wp2
  go_loop [1, 5, 6] (fun n' r s => Keeps x n n' r s) (fun n' _ _ => (intOf n').toNat)
  case atStart => exact ⟨n, 1, x % 8380417, hn, by decide, Nat.mod_lt _ (by decide), rfl, rfl, by first | rfl | exact congrArg (Value.int .i64) (by norm_cast), hst⟩
  case round =>
    obtain ⟨m, R, S, hm, hR, hS, rfl, rfl, rfl, hk⟩ := hrel
    have hRS := mul_bd R S hR hS
    have hSS := mul_bd S S hS hS
    by_cases h0 : m = 0
    · subst h0
      go_wp2
      go_ret
      exact ⟨ret_int (congrArg Nat.cast (pwk_end x n R S hk hR)), rfl⟩
    · by_cases h1 : m % 2 = 1
      · have ho := pwk_odd x n R S m hk h1
        have hb : ((m : Int) % 2 == 1) = true := beq_iff_eq.2 (by omega)
        clear h1 hk hst
        go_wp2
        go_round
        case rel => exact ⟨m / 2, R * S % 8380417, S * S % 8380417, by omega, Nat.mod_lt _ (by decide), Nat.mod_lt _ (by decide), cast_half m, cast_mm R S, cast_mm S S, ho⟩
        case measure => simp [intOf]; omega
      · have ho := pwk_even x n R S m hk (by omega)
        have hb : ((m : Int) % 2 == 1) = false := beq_eq_false_iff_ne.2 (by omega)
        clear h1 hk hst
        go_wp2
        go_round
        case rel => exact ⟨m / 2, R, S * S % 8380417, by omega, hR, Nat.mod_lt _ (by decide), cast_half m, rfl, cast_mm S S, ho⟩
        case measure => simp [intOf]; omega
theorem power_neg (x n : Int) (w : World) (h : x < 0 ∨ n < 0) :
    Calls Try.prog 23 #[.int .i64 x, .int .i64 n] w fun e w' => e = .returned (.int .i64 0) ∧ w = w' := by
  by_cases h1 : x < 0
  · clear h
    go_enter Try.func23, Try.ntmps23
    go_wp2
    go_ret
    exact ⟨rfl, rfl⟩
  · have h2 : n < 0 := by omega
    clear h
    go_enter Try.func23, Try.ntmps23
    go_wp2
    go_ret
    exact ⟨rfl, rfl⟩
theorem power_any (x n : Int) (w : World) (hx : x ≤ 9223372036854775807) (hn : n ≤ 9223372036854775807) :
    Calls Try.prog 23 #[.int .i64 x, .int .i64 n] w fun e w' => e = .returned (.int .i64 (pwI x n)) ∧ w = w' := by
  unfold pwI
  by_cases h : x < 0 ∨ n < 0
  · rw [if_pos h]
    exact power_neg x n w h
  · rw [if_neg h]
    obtain ⟨a, rfl⟩ := Int.eq_ofNat_of_zero_le (show 0 ≤ x by omega)
    obtain ⟨b, rfl⟩ := Int.eq_ofNat_of_zero_le (show 0 ≤ n by omega)
    rw [Int.toNat_natCast, Int.toNat_natCast]
    exact power_nn a b w (by omega) (by omega)

end Go.Proofs.Ytbbealdamampaaa.power

namespace Go.Proofs.Ytbbealdamampaaa.rounds
open Go.RowKit
open Go.Proofs.Ytbbealdamampaaa.tabt Go.Proofs.Ytbbealdamampaaa.arr
open Go.Proofs.Ytbbealdamampaaa.power (and_one_i64)

theorem zrounds : (Try.prog.info? 30).map (·.size) = some 24 := by kernel_rfl

set_option maxHeartbeats 1000000 in
theorem rounds_any (w : World) :
    Calls Try.prog 12 #[] w fun e w' => e = .returned (.agg (LK .u64 (rl 168))) ∧ Below w.heap.size w w' := by
  go_enter Try.func12, Try.ntmps12
  go_wp2_with fail
  obtain ⟨Z, HZ⟩ := ex_eq (#[.int .u64 0, .int .u64 0, .int .u64 0, .int .u64 0, .int .u64 0, .int .u64 0, .int .u64 0, .int .u64 0, .int .u64 0, .int .u64 0, .int .u64 0, .int .u64 0, .int .u64 0, .int .u64 0, .int .u64 0, .int .u64 0, .int .u64 0, .int .u64 0, .int .u64 0, .int .u64 0, .int .u64 0, .int .u64 0, .int .u64 0, .int .u64 0] : Array Value)
  rw [HZ.out]
  have HZ2 : Away (Z = LK .u64 (rl 0)) := ⟨HZ.out.symm⟩
  clear HZ
  go_loopw [2, 5] (fun r i wr => ∃ (k n R : Nat) (ds : List Nat), k ≤ 24 ∧ i = .int .i64 k ∧ r = .int .i64 R ∧ Away (lf (7 * k) = R) ∧ Away (rl (7 * k) = ds) ∧ wr = ((w.alloc (.cells Z 30)).alloc (.cells (LK .u64 ds) 30)).drewN n) (fun _ i _ => 24 - (intOf i).toNat)
  case atStart => exact ⟨0, 0, 1, rl 0, by decide, rfl, rfl, ⟨rfl⟩, ⟨rfl⟩, by rw [← HZ2.out]; rfl⟩
  case round =>
    obtain ⟨k, n, R, ds, hk, rfl, rfl, Hr, Hds, rfl⟩ := hrel
    by_cases hlt : k < 24
    · go_wp2_with fail
      go_loopw [2, 8] (fun r i wr => ∃ (m n R : Nat) (ds : List Nat), m ≤ 7 ∧ i = .int .i64 m ∧ r = .int .i64 R ∧ Away (lf (7 * k + m) = R) ∧ Away (rl (7 * k + m) = ds) ∧ wr = ((w.alloc (.cells Z 30)).alloc (.cells (LK .u64 ds) 30)).drewN n) (fun _ i _ => 7 - (intOf i).toNat)
      case atStart => exact ⟨0, n, R, ds, by decide, rfl, rfl, Hr, Hds, rfl⟩
      case round =>
        clear Hr Hds
        obtain ⟨m, n, R, ds, hm, rfl, rfl, Hr, Hds, rfl⟩ := hrel
        by_cases hlm : m < 7
        · have hR := lf_le (7 * k + m)
          have hd := rl_getD_lt (7 * k + m) k
          have hlen := rl_length (7 * k + m)
          have ho := rl_odd (i := k) hlm
          have he := rl_even (t := 7 * k + m)
          have hov := lf_over (t := 7 * k + m)
          have hin := lf_in (t := 7 * k + m)
          rw [Hr.out] at hR ho he hov hin
          rw [Hds.out] at hd hlen ho he
          have hxor := xor_tab R hR
          have hget := lk_get .u64 ds k (by rw [hlen]; exact hlt)
          obtain ⟨d, hdd⟩ : ∃ d, ds.getD k 0 = d := ⟨_, rfl⟩
          rw [hdd] at hd hget ho
          have HO := Away.mk ho
          have HE := Away.mk he
          have HV := Away.mk hov
          have HN := Away.mk hin
          have Hlen := Away.mk hlen
          clear ho he hov hin hdd hlen
          have hset := lk_setI .u64 ds k (d ||| 2 ^ (2 ^ m - 1)) _ (or_shift d m hd hlm)
          by_cases h1 : R % 2 = 1
          · have hb : (bits .and .i64 (R : Int) 1 == 1) = true := by rw [and_one_i64 R (by omega)]; exact beq_iff_eq.2 (by omega)
            have Hn := Away.mk (HO.out h1)
            clear h1
            by_cases h2 : 255 < R * 2
            · have Hv := Away.mk (HV.out h2)
              go_wp2_with fail
              go_region
              go_wp2_with fail
              go_roundw
              case rel => exact ⟨m + 1, n + 1, _, _, by omega, by go_num, rfl, Hv, Hn, rfl⟩
              case measure => simp [intOf]; omega
            · have Hv := Away.mk (HN.out h2)
              go_wp2_with fail
              go_region
              go_wp2_with fail
              go_roundw
              case rel => exact ⟨m + 1, n + 1, _, _, by omega, by go_num, val_int (by omega), Hv, Hn, rfl⟩
              case measure => simp [intOf]; omega
          · have hb : (bits .and .i64 (R : Int) 1 == 1) = false := by rw [and_one_i64 R (by omega)]; exact beq_eq_false_iff_ne.2 (by omega)
            have Hn := Away.mk (HE.out h1)
            clear h1
            by_cases h2 : 255 < R * 2
            · have Hv := Away.mk (HV.out h2)
              go_wp2_with fail
              go_roundw
              case rel => exact ⟨m + 1, n, _, _, by omega, by go_num, rfl, Hv, Hn, rfl⟩
              case measure => simp [intOf]; omega
            · have Hv := Away.mk (HN.out h2)
              go_wp2_with fail
              go_roundw
              case rel => exact ⟨m + 1, n, _, _, by omega, by go_num, val_int (by omega), Hv, Hn, rfl⟩
              case measure => simp [intOf]; omega
        · obtain rfl : m = 7 := by omega
          have Hr2 : Away (lf (7 * (k + 1)) = R) := ⟨Hr.out⟩
          have Hd2 : Away (rl (7 * (k + 1)) = ds) := ⟨Hds.out⟩
          go_wp2_with fail
          go_roundw
          case rel => exact ⟨k + 1, n, R, ds, by omega, by go_num, rfl, Hr2, Hd2, rfl⟩
          case measure => simp [intOf]; omega
    · obtain rfl : k = 24 := by omega
      have Hd2 : Away (ds = rl 168) := ⟨Hds.out.symm⟩
      have hsz : (LK .u64 ds).size = 24 := by rw [lk_size, Hd2.out, rl_length]
      have hzs : Z.size = 24 := by rw [HZ2.out, lk_size, rl_length]
      obtain ⟨W, hW⟩ : ∃ W, ((w.alloc (.cells Z 30)).alloc (.cells (LK .u64 ds) 30)).drewN n = W := ⟨_, rfl⟩
      have hb : Below w.heap.size w W := by rw [← hW]; exact below_drewN (((Below.refl _ _).alloc (Nat.le_refl _) _).alloc (by simp) _) n
      have g1 : W.heap[w.heap.size + 1]? = some (.cells (LK .u64 ds) 30 (0, 0)) := by rw [← hW, heap_drewN', heap_at _ _ _ (by simp)]
      have g0 : W.heap[w.heap.size]? = some (.cells Z 30 (0, 0)) := by rw [← hW, heap_drewN', heap_past _ _ _ (by simp), heap_at _ _ _ rfl]
      rw [hW]
      have Hsz := Away.mk hsz
      have Hzs := Away.mk hzs
      clear hW hsz hzs
      go_wp2_with (first | (refine wpList_load_row rfl 30 _ rfl _ rfl 30 _ (0, 0) _ g1 Try.underlying30 rfl (by rw [Hsz.out]; exact zrounds) ?_) | (refine wpList_store_row rfl 30 _ _ rfl _ _ rfl rfl 30 _ g0 (by rw [Hsz.out]; exact zrounds) (by rw [Hsz.out]; exact Hzs.out) (lk_one _ _) ?_))
      refine bodyPost_ret_by (v := .agg (LK .u64 ds)) (results_cell_row rfl _ _ w.heap.size 30 _ (0, 0) _ rfl (setRow_heap _ _ _ _ _ _ g0) Try.underlying30 rfl (by rw [Hsz.out]; exact zrounds)) rfl ?_
      exact ⟨by rw [Hd2.out], hb.trans (below_setRow _ _ _ (Nat.le_refl _))⟩

end Go.Proofs.Ytbbealdamampaaa.rounds

namespace Go.Proofs.Ytbbealdamampaaa.turns
open Go.RowKit
open Go.Proofs.Ytbbealdamampaaa.tabt Go.Proofs.Ytbbealdamampaaa.arr

theorem zturns : (Try.prog.info? 31).map (·.size) = some 25 := by kernel_rfl
theorem mul_bd (k : Nat) (h : k < 24) : (0 : Int) ≤ ((k : Int) + 1) * ((k : Int) + 2) ∧ ((k : Int) + 1) * ((k : Int) + 2) ≤ 650 := by
  have h1 : (k + 1) * (k + 2) ≤ 25 * 26 := Nat.mul_le_mul (by omega) (by omega)
  have h2 : ((k : Int) + 1) * ((k : Int) + 2) = (((k + 1) * (k + 2) : Nat) : Int) := by norm_cast
  rw [h2]; omega
theorem mul_val (k : Nat) : ((k : Int) + 1) * ((k : Int) + 2) / 2 % 64 = (((k + 1) * (k + 2) / 2 % 64 : Nat) : Int) := by
  have h2 : ((k : Int) + 1) * ((k : Int) + 2) = (((k + 1) * (k + 2) : Nat) : Int) := by norm_cast
  rw [h2]; omega

set_option maxRecDepth 100000 in
set_option maxHeartbeats 1000000 in
theorem turns_any (w : World) :
    Calls Try.prog 13 #[] w fun e w' => e = .returned (.agg (LK .i64 (tl 24))) ∧ Below w.heap.size w w' := by
  go_enter Try.func13, Try.ntmps13
  go_wp2_with fail
  obtain ⟨Z, HZ⟩ := ex_eq (#[.int .i64 0, .int .i64 0, .int .i64 0, .int .i64 0, .int .i64 0, .int .i64 0, .int .i64 0, .int .i64 0, .int .i64 0, .int .i64 0, .int .i64 0, .int .i64 0, .int .i64 0, .int .i64 0, .int .i64 0, .int .i64 0, .int .i64 0, .int .i64 0, .int .i64 0, .int .i64 0, .int .i64 0, .int .i64 0, .int .i64 0, .int .i64 0, .int .i64 0] : Array Value)
  rw [HZ.out]
  have HZ2 : Away (Z = LK .i64 (tl 0)) := ⟨HZ.out.symm⟩
  clear HZ
  go_loopw [2, 3, 5] (fun x y i wr => ∃ (k X Y : Nat), k ≤ 24 ∧ i = .int .i64 k ∧ x = .int .i64 X ∧ y = .int .i64 Y ∧ Away (xy k = (X, Y)) ∧ wr = (w.alloc (.cells Z 31)).alloc (.cells (LK .i64 (tl k)) 31)) (fun _ _ i _ => 24 - (intOf i).toNat)
  case atStart => exact ⟨0, 1, 0, by decide, rfl, rfl, rfl, ⟨rfl⟩, by rw [← HZ2.out]⟩
  case round =>
    obtain ⟨k, X, Y, hk, rfl, rfl, rfl, Hxy, rfl⟩ := hrel
    by_cases hlt : k < 24
    · have hb := xy_lt k
      rw [Hxy.out] at hb
      have hX : X < 5 := hb.1
      have hY : Y < 5 := hb.2
      have hm := mul_bd k hlt
      have e1 : ((X : Int) + 5 * (Y : Int)).toNat = X + 5 * Y := by omega
      have hget := lk_get .i64 (tl k) (X + 5 * Y) (by rw [tl_length]; omega)
      have hset := lk_setI .i64 (tl k) (X + 5 * Y) ((k + 1) * (k + 2) / 2 % 64) _ (mul_val k)
      rw [show (tl k).set (X + 5 * Y) ((k + 1) * (k + 2) / 2 % 64) = tl (k + 1) by rw [tl, Hxy.out]] at hset
      have Hn : Away (xy (k + 1) = (Y, (2 * X + 3 * Y) % 5)) := ⟨by rw [xy, Hxy.out]⟩
      clear hb
      go_wp2_with fail
      go_roundw
      case rel => exact ⟨k + 1, Y, (2 * X + 3 * Y) % 5, by omega, by go_num, rfl, val_int (by omega), Hn, rfl⟩
      case measure => simp [intOf]; omega
    · obtain rfl : k = 24 := by omega
      have hsz : (LK .i64 (tl 24)).size = 25 := by rw [lk_size, tl_length]
      have hzs : Z.size = 25 := by rw [HZ2.out, lk_size, tl_length]
      obtain ⟨W, hW⟩ : ∃ W, (w.alloc (.cells Z 31)).alloc (.cells (LK .i64 (tl 24)) 31) = W := ⟨_, rfl⟩
      have hb : Below w.heap.size w W := by rw [← hW]; exact ((Below.refl _ _).alloc (Nat.le_refl _) _).alloc (by simp) _
      have g1 : W.heap[w.heap.size + 1]? = some (.cells (LK .i64 (tl 24)) 31 (0, 0)) := by rw [← hW, heap_at _ _ _ (by simp)]
      have g0 : W.heap[w.heap.size]? = some (.cells Z 31 (0, 0)) := by rw [← hW, heap_past _ _ _ (by simp), heap_at _ _ _ rfl]
      rw [hW]
      clear hW
      have Hsz := Away.mk hsz
      have Hzs := Away.mk hzs
      clear hsz hzs
      go_wp2_with (first | (refine wpList_load_row rfl 31 _ rfl _ rfl 31 _ (0, 0) _ g1 Try.underlying31 rfl (by rw [Hsz.out]; exact zturns) ?_) | (refine wpList_store_row rfl 31 _ _ rfl _ _ rfl rfl 31 _ g0 (by rw [Hsz.out]; exact zturns) (by rw [Hsz.out]; exact Hzs.out) (lk_one _ _) ?_))
      refine bodyPost_ret_by (v := .agg (LK .i64 (tl 24))) (results_cell_row rfl _ _ w.heap.size 31 _ (0, 0) _ rfl (setRow_heap _ _ _ _ _ _ g0) Try.underlying31 rfl (by rw [Hsz.out]; exact zturns)) rfl ?_
      exact ⟨rfl, hb.trans (below_setRow _ _ _ (Nat.le_refl _))⟩

end Go.Proofs.Ytbbealdamampaaa.turns

namespace Go.Proofs.Ytbbealdamampaaa.zetas
open Go.RowKit
open Go.Proofs.Ytbbealdamampaaa.tabm Go.Proofs.Ytbbealdamampaaa.tabt Go.Proofs.Ytbbealdamampaaa.arr

theorem rev8_get (n : Nat) (h : n < Lib.rev8tab.size) : Lib.rev8 (n : Int) = ((Lib.rev8tab[n].toNat : Nat) : Int) := by
  unfold Lib.rev8
  rw [Int.toNat_natCast, ByteArray.getElem?_lt' _ _ h]
  rfl
set_option maxRecDepth 1000000 in
set_option maxRecDepth 100000 in
set_option maxHeartbeats 400000 in
theorem reverse8 (n : Nat) (w : World) (h : n < 256) :
    Calls Try.prog 24 #[.int .u8 n] w fun e w' => e = .returned (.int .u8 (rv n : Nat)) ∧ w = w' := by
  have hr := Away.mk (rev8_tab n h)
  go_enter Try.func24, Try.ntmps24
  go_wp2_with fail
  go_ret
  exact ⟨ret_int ((rev8_get n _).symm.trans hr.out), rfl⟩

theorem info37 : (Try.prog.info? 22).map (fun i => (i.zero, i.size)) = some (some (.agg (LK .i64 (zl 0))), 256) := by kernel_rfl

set_option maxRecDepth 1000000 in
set_option maxRecDepth 100000 in
set_option maxHeartbeats 1000000 in
theorem zetas_any (w : World) :
    Calls Try.prog 14 #[] w fun e w' => e = .returned (.agg (LK .i64 (zl 256))) ∧ Below w.heap.size w w' := by
  obtain ⟨hz, hsize⟩ := zero_of_info info37
  obtain ⟨Z, HZ⟩ := ex_eq (LK .i64 (zl 0))
  rw [HZ.out] at hz
  have Hsize := Away.mk hsize
  clear hsize
  go_enter Try.func14, Try.ntmps14
  go_wp2_with fail
  clear hz
  go_loopw [3] (fun i wr => ∃ k : Nat, k ≤ 256 ∧ i = .int .i64 k ∧ wr = (w.alloc (.cells Z 22)).alloc (.cells (LK .i64 (zl k)) 22)) (fun i _ => 256 - (intOf i).toNat)
  case atStart => exact ⟨0, by decide, rfl, by rw [HZ.out]⟩
  case round =>
    obtain ⟨k, hk, rfl, rfl⟩ := hrel
    by_cases hlt : k < 256
    · have hget := lk_get .i64 (zl k) k (by rw [zl_length]; omega)
      have hset := lk_set .i64 (zl k) k (zt k)
      rw [show (zl k).set k (zt k) = zl (k + 1) from rfl] at hset
      have hrl := rv_lt k hlt
      have hzt : Away (pw 1753 (rv k) = zt k) := ⟨rfl⟩
      obtain ⟨r, Hr⟩ := ex_eq (rv k)
      rw [Hr.out] at hrl hzt
      go_wp2_with fail
      refine (reverse8 k _ hlt).mono ?_
      rintro e w1 ⟨rfl, rfl⟩
      rw [Hr.out]
      go_wp2_with fail
      refine (power.power_nn 1753 r _ (by decide) (by omega)).mono ?_
      rintro e w1 ⟨rfl, rfl⟩
      rw [hzt.out]
      go_wp2_with fail
      go_roundw
      case rel => exact ⟨k + 1, by omega, by go_num, rfl⟩
      case measure => simp [intOf]; omega
    · obtain rfl : k = 256 := by omega
      have hsz : (LK .i64 (zl 256)).size = 256 := by rw [lk_size, zl_length]
      have hzs : Z.size = 256 := by rw [← HZ.out, lk_size, zl_length]
      obtain ⟨W, hW⟩ : ∃ W, (w.alloc (.cells Z 22)).alloc (.cells (LK .i64 (zl 256)) 22) = W := ⟨_, rfl⟩
      have hb : Below w.heap.size w W := by rw [← hW]; exact ((Below.refl _ _).alloc (Nat.le_refl _) _).alloc (by simp) _
      have g1 : W.heap[w.heap.size + 1]? = some (.cells (LK .i64 (zl 256)) 22 (0, 0)) := by rw [← hW, heap_at _ _ _ (by simp)]
      have g0 : W.heap[w.heap.size]? = some (.cells Z 22 (0, 0)) := by rw [← hW, heap_past _ _ _ (by simp), heap_at _ _ _ rfl]
      rw [hW]
      have Hsz := Away.mk hsz
      have Hzs := Away.mk hzs
      clear hW hsz hzs
      go_wp2_with (first | (refine wpList_load_row rfl 22 _ rfl _ rfl 22 _ (0, 0) _ g1 Try.underlying22 rfl (by rw [Hsz.out]; exact Hsize.out) ?_) | (refine wpList_store_row rfl 22 _ _ rfl _ _ rfl rfl 22 _ g0 (by rw [Hsz.out]; exact Hsize.out) (by rw [Hsz.out]; exact Hzs.out) (lk_one _ _) ?_))
      refine bodyPost_ret_by (v := .agg (LK .i64 (zl 256))) (results_cell_row rfl _ _ w.heap.size 22 _ (0, 0) _ rfl (setRow_heap _ _ _ _ _ _ g0) Try.underlying22 rfl (by rw [Hsz.out]; exact Hsize.out)) rfl ?_
      exact ⟨rfl, hb.trans (below_setRow _ _ _ (Nat.le_refl _))⟩

end Go.Proofs.Ytbbealdamampaaa.zetas
