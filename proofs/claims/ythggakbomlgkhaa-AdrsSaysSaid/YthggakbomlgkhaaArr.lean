/-
  Plain facts on arrays of numbers as cells of a block, on draws, and on worlds (no program is named here). Conditions: as each theorem says.
-/
import Derived.Test.YthggakbomlgkhaaTabD
import Derived.WalkKit
import Derived.WalkSpells
import Derived.WalkLawsBesides
import Derived.Lib.Hide
import Derived.IntWalk
import Derived.Laws.MathBits
import Derived.Laws.BitsAllLaws
import Derived.Deep.WholeRow
import Derived.Deep.MidRow
import Derived.Deep.QuietTactic
import Derived.BigQuiet
import Derived.Lib.QuietBelow
namespace Go.Proofs.Ythggakbomlgkhaa.arr
open Go Go.RowKit

/-- numbers as an array's cells -/
def LK (k : IntKind) (ds : List Nat) : Array Value := (ds.map fun d : Nat => Value.int k (d : Int)).toArray
theorem lk_get (k : IntKind) (ds : List Nat) (i : Nat) (h : i < ds.length) : (LK k ds)[i]? = some (.int k (ds.getD i 0 : Nat)) := by
  simp [LK, List.getD_eq_getElem?_getD, List.getElem?_eq_getElem h]
theorem lk_set (k : IntKind) (ds : List Nat) (i x : Nat) : (LK k ds).setIfInBounds i (.int k (x : Int)) = LK k (ds.set i x) := by
  simp [LK, List.map_set]
theorem lk_setI (k : IntKind) (ds : List Nat) (i x : Nat) (v : Int) (h : v = (x : Int)) : (LK k ds).setIfInBounds i (.int k v) = LK k (ds.set i x) := by
  subst h; exact lk_set k ds i x
theorem lk_size (k : IntKind) (ds : List Nat) : (LK k ds).size = ds.length := by simp [LK]
theorem lk_one (k : IntKind) (ds : List Nat) : (LK k ds).all (·.oneCell') = true := by
  rw [Array.all_eq_true_iff_forall_mem]
  intro v hv
  simp only [LK, List.mem_toArray, List.mem_map] at hv
  obtain ⟨d, -, rfl⟩ := hv
  rfl
@[go_sem] theorem setCell_drewN (w : World) (n : Nat) (a : Addr) (v : Value) : (w.drewN n).setCell a v = (w.setCell a v).drewN n := rfl
@[go_sem] theorem alloc_drewN (w : World) (n : Nat) (o : Obj) : (w.drewN n).alloc o = (w.alloc o).drewN n := rfl
theorem ret_int {k : IntKind} {a b : Int} (h : a = b) : Ending.returned (.int k a) = .returned (.int k b) := by rw [h]
theorem ret_b {a b : Bool} (h : a = b) : Ending.returned (.bool a) = .returned (.bool b) := by rw [h]
theorem val_int {k : IntKind} {a b : Int} (h : a = b) : Value.int k a = .int k b := by rw [h]
theorem heap_drewN' (w : World) (n g : Nat) : (w.drewN n).heap[g]? = w.heap[g]? := rfl
theorem heap_at (w : World) (o : Obj) (g : Nat) (h : g = w.heap.size) : (w.alloc o).heap[g]? = some o := by subst h; exact heap_alloc_last w o
theorem heap_past (w : World) (o : Obj) (g : Nat) (h : g < w.heap.size) : (w.alloc o).heap[g]? = w.heap[g]? := Below.heap_alloc w o g h
theorem size_alloc (w : World) (o : Obj) : (w.alloc o).heap.size = w.heap.size + 1 := by
  show (w.heap.push o).size = _
  simp
/-- the type's cells, out of one closed fact -/
theorem cell_at {w : World} {g i : Nat} {C : Array Value} {t : TypeId} {v : Value} (h : w.heap[g]? = some (.cells C t (0, 0))) (hv : C[i]? = some v) : w.cell? ⟨g, i, none⟩ = some v := by
  rw [cell_of_row w g i C t (0, 0) h, hv]
theorem below_setRow {B : Nat} (w : World) (g : Nat) (cs : Array Value) (h : B ≤ g) : Below B w (w.setRow g cs) :=
  ⟨rfl, rfl, rfl, by simp, fun k hk => setRow_other w g k cs (by omega)⟩
/-- a whole array is stored into the block that was made last -/
theorem wpList_store_new {P : Program} {ops : Array Oper} {Q : Exit → Act → World → Prop} {rest : List Oper} {o : Oper} {a : Act} {w0 : World} {old : Array Value} {t : TypeId} (hgd : o.guard = none) (ty : TypeId) (x y : Operand) (ho : o.op = .store ty x y)
    (cells : Array Value) (hx : a.eval x = .pointer (some ⟨w0.heap.size, 0, none⟩)) (hy : a.eval y = .agg cells) (hi : (P.info? ty).map (·.size) = some cells.size) (hold : old.size = cells.size) (h1 : cells.all (·.oneCell') = true) (hn : o.dst = none)
    (h : wpList P ops Q rest a (w0.alloc (.cells cells t))) : wpList P ops Q (o :: rest) a (w0.alloc (.cells old t)) :=
  wpList_store_row hgd ty x y ho w0.heap.size cells hx hy t old (heap_at _ _ _ rfl) hi hold h1 (by rw [World.setRow_alloc_new, hn]; exact h)
/-- a whole array is loaded in a region that draws its order -/
theorem wpQuiet_load {P : Program} {ops : Array Oper} {C : World → Prop} {Q : Act → Prop} {rest : List Oper} {o : Oper} {a : Act} (hw : Region.wanted o (yielded ops a.tmps) = true) (ty : TypeId) (x : Operand) (ho : o.op = .load ty x)
    (g : Nat) (hx : a.eval x = .pointer (some ⟨g, 0, none⟩)) (t : TypeId) (cs : Array Value) (d : TypeDesc) (hS : ∀ w, C w → w.heap[g]? = some (.cells cs t (0, 0)))
    (hu : P.underlying ty = some d) (hd : (match d with | .struct _ | .array _ _ => true | _ => false) = true) (hi : (P.info? ty).map (·.size) = some cs.size)
    (h : wpQuiet P ops C Q rest (a.put o.dst (.agg cs))) : wpQuiet P ops C Q (o :: rest) a := by
  refine wpQuiet_step fun K hK => ?_
  rw [if_pos hw]
  refine ⟨.agg cs, fun w hC => ?_, hK _ h⟩
  unfold Oper.quietAt execOp
  simp only [ho, hx, Instr.loadAt, Instr.sureAddr, Sem.run_bind, Sem.run_pure, Result.andThen_ok, run_loadVar_row w g t ty cs (0, 0) d (hS w hC) hu hd hi]
  exact ⟨rfl, rfl⟩
/-- a block of before, in every world of the class -/
theorem heap_regrown {w w' : World} {g : Nat} {o : Obj} (h : w.heap[g]? = some o) (hC : ∃ p : Regrown, w' = Sort.grow (redrawn w p.d) p.os) : w'.heap[g]? = some o := by
  obtain ⟨p, rfl⟩ := hC
  have hg : g < w.heap.size := by
    by_cases hlt : g < w.heap.size
    · exact hlt
    · rw [Array.getElem?_eq_none (by omega)] at h; cases h
  rw [(below_regrown w p.d p.os).block g hg, h]
/-- a fact put away: no tactic looks into it -/
structure Away (p : Prop) : Prop where
  out : p
theorem ex_eq {α : Type} (a : α) : ∃ c, Away (a = c) := ⟨a, ⟨rfl⟩⟩
/-- a bit that is set -/
theorem pow_cast (r m : Nat) (h : (2 : Nat) ^ r < m) : ((2 : Int) ^ r) % (m : Int) = ((2 ^ r : Nat) : Int) := by
  have e : (2 : Int) ^ r = ((2 ^ r : Nat) : Int) := by norm_cast
  rw [e, Int.emod_eq_of_lt (Int.natCast_nonneg _) (Int.ofNat_lt.2 h)]
theorem or_bit32 (d r : Nat) (hd : d < 4294967296) (hr : r < 32) : bits .or .u32 (d : Int) (2 ^ r % 4294967296) = ((d ||| 2 ^ r : Nat) : Int) := by
  have h : (2 : Nat) ^ r < 4294967296 := by
    have := Nat.pow_lt_pow_right (a := 2) (by decide) hr
    simpa using this
  rw [← u32_or_nat d (2 ^ r) hd h]
  exact congrArg _ (pow_cast r 4294967296 h)
theorem or_bit64 (d r : Nat) (hd : d < 4294967296) (hr : r < 32) : bits .or .u64 (d : Int) (2 ^ r % 18446744073709551616) = ((d ||| 2 ^ r : Nat) : Int) := by
  have h : (2 : Nat) ^ r < 18446744073709551616 := by
    have := Nat.pow_lt_pow_right (a := 2) (by decide) (show r < 64 by omega)
    simpa using this
  rw [← u64_or_nat d (2 ^ r) (by omega) h]
  exact congrArg _ (pow_cast r 18446744073709551616 h)
theorem or_bit64w (d r : Nat) (hd : d < 4294967296) (hr : r < 32) : bits .or .u64 (d : Int) (IntKind.u64.wrap (2 ^ r)) = ((d ||| 2 ^ r : Nat) : Int) := by
  rw [IntKind.wrap_u64]; exact or_bit64 d r hd hr
/-- sums and products of parts -/
theorem cast_pz (x y z c : Nat) : (x : Int) * (y : Int) + (z : Int) + (c : Int) = ((x * y + z + c : Nat) : Int) := by
  rw [Int.natCast_add, Int.natCast_add, Int.natCast_mul]
theorem cast_zp (x y z c : Nat) : (z : Int) + (x : Int) * (y : Int) + (c : Int) = ((x * y + z + c : Nat) : Int) := by
  rw [Int.add_comm (z : Int), cast_pz]
theorem cast_mask (x y z c : Nat) (h : x * y + z + c ≤ 18446744073709551615) : bits .and .u64 ((z : Int) + (x : Int) * (y : Int) + (c : Int)) 4294967295 = (((x * y + z + c) % 4294967296 : Nat) : Int) := by
  rw [cast_zp, and_low32 _ (by omega) (by omega)]; omega
theorem cast_zdiv (x y z c : Nat) : ((z : Int) + (x : Int) * (y : Int) + (c : Int)) / 4294967296 = (((x * y + z + c) / 4294967296 : Nat) : Int) := by
  rw [cast_zp, Int.natCast_ediv]; rfl
theorem cast_mod (x y z c : Nat) : ((x : Int) * (y : Int) + (z : Int) + (c : Int)) % 4294967296 = (((x * y + z + c) % 4294967296 : Nat) : Int) := by
  rw [cast_pz, Int.natCast_emod]; rfl
theorem cast_div (x y z c : Nat) : ((x : Int) * (y : Int) + (z : Int) + (c : Int)) / 4294967296 = (((x * y + z + c) / 4294967296 : Nat) : Int) := by
  rw [cast_pz, Int.natCast_ediv]; rfl
end Go.Proofs.Ythggakbomlgkhaa.arr
