/-
  Plain facts on blocks in a row, slices that new memory owns, and the type api.Poly (no function of the program is named here). Conditions: as each theorem says.
-/
import Derived.Test.YtdlolhilmhlklaaDoorPol
import Derived.Test.YtdlolhilmhlklaaDoorProg
import Derived.Great.BuildSlice
import Derived.OwnWalk
namespace Go.Proofs.YtdlolhilmhlklaaDoor.polt
open Go Go.RowKit
open Go.Proofs.YtdlolhilmhlklaaDoor.arr Go.Proofs.YtdlolhilmhlklaaDoor.mem Go.Proofs.YtdlolhilmhlklaaDoor.polys

theorem one {w W : World} {x : Obj} (h : w.alloc x = W) : W.heap[w.heap.size]? = some x ∧ W.heap.size = w.heap.size + 1 ∧ Below w.heap.size w W := by
  subst h
  exact ⟨heap_at _ _ _ rfl, size_alloc _ _, below_alloc _ _⟩
theorem two {w W : World} {x y : Obj} (h : (w.alloc x).alloc y = W) : W.heap[w.heap.size]? = some x ∧ W.heap[w.heap.size + 1]? = some y ∧ W.heap.size = w.heap.size + 2 ∧ Below w.heap.size w W := by
  subst h
  refine ⟨?_, heap_at _ _ _ (by rw [size_alloc]), by rw [size_alloc, size_alloc], ((Below.refl _ _).alloc (Nat.le_refl _) _).alloc (by rw [size_alloc]; omega) _⟩
  rw [heap_past _ _ _ (by rw [size_alloc]; omega), heap_at _ _ _ rfl]
theorem three {w W : World} {x y z : Obj} (h : ((w.alloc x).alloc y).alloc z = W) : W.heap[w.heap.size]? = some x ∧ W.heap[w.heap.size + 1]? = some y ∧ W.heap[w.heap.size + 2]? = some z ∧ W.heap.size = w.heap.size + 3 ∧ Below w.heap.size w W := by
  obtain ⟨h1, h2, h3, h4⟩ := two (w := w) (x := x) (y := y) rfl
  subst h
  refine ⟨?_, ?_, heap_at _ _ _ h3.symm, by rw [size_alloc, h3], h4.alloc (by rw [h3]; omega) _⟩
  · rw [heap_past _ _ _ (by omega), h1]
  · rw [heap_past _ _ _ (by omega), h2]
theorem four {w W : World} {x y z u : Obj} (h : (((w.alloc x).alloc y).alloc z).alloc u = W) : W.heap[w.heap.size]? = some x ∧ W.heap[w.heap.size + 1]? = some y ∧ W.heap[w.heap.size + 2]? = some z ∧ W.heap[w.heap.size + 3]? = some u ∧ W.heap.size = w.heap.size + 4 ∧ Below w.heap.size w W := by
  obtain ⟨h1, h2, h3, h4, h5⟩ := three (w := w) (x := x) (y := y) (z := z) rfl
  subst h
  refine ⟨?_, ?_, ?_, heap_at _ _ _ h4.symm, by rw [size_alloc, h4], h5.alloc (by rw [h4]; omega) _⟩
  · rw [heap_past _ _ _ (by omega), h1]
  · rw [heap_past _ _ _ (by omega), h2]
  · rw [heap_past _ _ _ (by omega), h3]
theorem own_later {w w' : World} {B e size n : Nat} {v : Value} {xs : List Value} (h : w.ownsRow B e size v n xs) (hb : Below w.heap.size w w') : w'.ownsRow B e size v n xs :=
  ⟨h.1, h.2.imp id fun ⟨g, cap, cur, hv, hbb, hg, r⟩ => ⟨g, cap, cur, hv, hbb, (hb.block g (lt_of_row hg)).trans hg, r⟩⟩
theorem cell_at_new {w : World} {F : Array Value} {T j : Nat} {u : Value} (hu : F.toList[j]? = some u) : (w.alloc (.cells F T)).cell? ((⟨w.heap.size, 0, none⟩ : Addr).add j) = some u := by
  rw [Addr.add_mid, Nat.zero_add]
  exact cell_at (heap_at _ _ _ rfl) (by simpa using hu)
theorem all_one {F : Array Value} (h : F.all (·.oneCell') = true) : ∀ u ∈ F.toList, u.oneCell' = true := fun u hu => (Array.all_eq_true_iff_forall_mem.1 h) u (by simpa using hu)
theorem fill_one (F cells : Array Value) (hF : F.size = 256) (hc : cells.size = 256) : Instr.fill (fun i => some (i * 256, 256)) cells [(0, .agg F)] = some F := by
  have h := Great.fill_whole (s := 256) (by decide) [Value.agg F] cells (by intro v hv; simp at hv; subst hv; exact hF) (by simp [hc])
  have e : (([Value.agg F].flatMap fun v => v.cells.toList).toArray) = F := by simp [Value.cells]
  rw [e] at h
  exact h
theorem fold_one (F cells : Array Value) (hF : F.size = 256) (hc : cells.size = 256) : Array.foldl (fun (cs : Array Value) (x : Value × Nat) => cs.setIfInBounds x.snd x.fst) cells F.zipIdx 0 F.size = F := by
  have h := fill_one F cells hF hc
  simpa [Instr.fill, Value.cells, hF, hc] using h
theorem tparts {P : Program} {e : TypeId} {z : Value} {s b : Nat} (h : (P.info? e).map (fun i => (i.zero, i.size, i.bytes)) = some (some z, s, b)) : ∃ i, P.info? e = some i ∧ i.zero = some z ∧ i.size = s ∧ i.bytes = b := by
  cases hi : P.info? e with
  | none => rw [hi] at h; cases h
  | some i =>
    rw [hi] at h
    simp only [Option.map_some, Option.some.injEq, Prod.mk.injEq] at h
    exact ⟨i, rfl, h.1, h.2.1, h.2.2⟩
theorem infoP : (Tryd.prog.info? 25).map (fun i => (i.zero, i.size)) = some (some (.agg (FL .i64 256 fun _ => 0)), 256) := by kernel_rfl
theorem infoPoly : (Tryd.prog.info? 25).map (fun i => (i.zero, i.size, i.bytes)) = some (some (.agg (FL .i64 256 fun _ => 0)), 256, 2048) := by kernel_rfl
theorem infoI : (Tryd.prog.info? 3).map (fun i => (i.zero, i.size, i.bytes)) = some (some (.int .i64 0), 1, 8) := by kernel_rfl
/-- the first n numbers are the same -/
def same (n : Nat) (x y : Nat → Int) : Bool := decide (∀ i, i < n → x i = y i)
theorem same_iff (n : Nat) (x y : Nat → Int) : same n x y = true ↔ ∀ i, i < n → x i = y i := by unfold same; exact decide_eq_true_iff
theorem same_not (n : Nat) (x y : Nat → Int) (i : Nat) (hi : i < n) (h : x i ≠ y i) : same n x y = false := by
  cases hq : same n x y with
  | false => rfl
  | true => exact absurd ((same_iff n x y).1 hq i hi) h
theorem eq_same {P : Program} {t e : TypeId} {n : Nat} {k : IntKind} (ht : P.underlying t = some (.array n e)) (hi : (P.info? e).map (·.size) = some 1) (hc : P.cellsOf e = 1) (he : P.underlying e = some (.int k)) (x y : Nat → Int) (w : World) :
    (binOp .eql t (.agg (FL k n x)) (.agg (FL k n y))).run P w = .ok (.bool (same n x y)) w := eq_fl ht hi hc he x y w
theorem equal_same {P : Program} {t e : TypeId} {n : Nat} {k : IntKind} (ht : P.underlying t = some (.array n e)) (hi : (P.info? e).map (·.size) = some 1) (hc : P.cellsOf e = 1) (he : P.underlying e = some (.int k)) (x y : Nat → Int) (w : World) :
    (Op.equalIn 10000 t (.agg (FL k n x)) (.agg (FL k n y))).run P w = .ok (same n x y) w := by
  have h := eq_fl ht hi hc he x y w
  rw [run_eql_struct] at h
  cases hq : (Op.equalIn 10000 t (.agg (FL k n x)) (.agg (FL k n y))).run P w with
  | ok b w' =>
    rw [hq] at h
    simp only [Result.andThen_ok, Result.ok.injEq, Value.bool.injEq] at h
    obtain ⟨rfl, rfl⟩ := h
    rfl
  | halt a b => rw [hq] at h; simp [Result.andThen] at h
theorem equal_poly (x y : Nat → Int) (w : World) : (Op.equalIn 10000 25 (.agg (FL .i64 256 x)) (.agg (FL .i64 256 y))).run Tryd.prog w = .ok (same 256 x y) w :=
  equal_same Tryd.underlying25 (by kernel_rfl) (by kernel_rfl) (by kernel_rfl) x y w
/-- '==' of two polynomials -/
theorem eq_poly (x y : Nat → Int) (w : World) : (binOp .eql 25 (.agg (FL .i64 256 x)) (.agg (FL .i64 256 y))).run Tryd.prog w = .ok (.bool (same 256 x y)) w :=
  eq_same Tryd.underlying25 (by kernel_rfl) (by kernel_rfl) (by kernel_rfl) x y w
/-- literals of one coefficient and of two -/
def p1 (a : Int) : Nat → Int := upd (fun _ => 0) 0 a
def p2 (a b : Int) : Nat → Int := upd (upd (fun _ => 0) 0 a) 1 b
theorem built1 (a : Int) : Tryd.prog.built 25 [(0, .int .i64 a)] = some (FL .i64 256 (p1 a)) := by kernel_rfl
theorem built2 (a b : Int) : Tryd.prog.built 25 [(0, .int .i64 a), (1, .int .i64 b)] = some (FL .i64 256 (p2 a b)) := by kernel_rfl
theorem wp_builtC {P : Program} {o : Oper} {a : Act} {w : World} {K : Act → World → Prop} {Q : Exit → Act → World → Prop} (t : TypeId) (parts : Array (Nat × Operand)) (ho : o.op = .build t parts)
    (C : Array Value) (hC : P.built t (parts.map fun (i, x) => (i, a.eval x)).toList = some C) (h : K (a.put o.dst (.agg C)) w) : o.wp P a w K Q :=
  wp_build t parts ho (by rw [hC]; rfl) (by rw [hC]; exact h)
theorem wpList_builtC {P : Program} {ops : Array Oper} {rest : List Oper} {o : Oper} {a : Act} {w : World} {Q : Exit → Act → World → Prop} (hg : o.guard = none) (t : TypeId) (parts : Array (Nat × Operand)) (ho : o.op = .build t parts)
    (C : Array Value) (hC : P.built t (parts.map fun (i, x) => (i, a.eval x)).toList = some C) (h : wpList P ops Q rest (a.put o.dst (.agg C)) w) : wpList P ops Q (o :: rest) a w :=
  wpList_build hg t _ ho (by rw [hC]; rfl) (by rw [hC]; exact h)
theorem wpList_built1 {P : Program} {ops : Array Oper} {rest : List Oper} {o : Oper} {a : Act} {w : World} {Q : Exit → Act → World → Prop} (hg : o.guard = none) (t : TypeId) (i : Nat) (x : Operand) (ho : o.op = .build t #[(i, x)])
    (C : Array Value) (hC : P.built t [(i, a.eval x)] = some C) (h : wpList P ops Q rest (a.put o.dst (.agg C)) w) : wpList P ops Q (o :: rest) a w :=
  wpList_builtC hg t _ ho C (by simpa using hC) h
theorem wpList_built2 {P : Program} {ops : Array Oper} {rest : List Oper} {o : Oper} {a : Act} {w : World} {Q : Exit → Act → World → Prop} (hg : o.guard = none) (t : TypeId) (i j : Nat) (x y : Operand) (ho : o.op = .build t #[(i, x), (j, y)])
    (C : Array Value) (hC : P.built t [(i, a.eval x), (j, a.eval y)] = some C) (h : wpList P ops Q rest (a.put o.dst (.agg C)) w) : wpList P ops Q (o :: rest) a w :=
  wpList_builtC hg t _ ho C (by simpa using hC) h
theorem wp_built1 {P : Program} {o : Oper} {a : Act} {w : World} {K : Act → World → Prop} {Q : Exit → Act → World → Prop} (t : TypeId) (i : Nat) (x : Operand) (ho : o.op = .build t #[(i, x)])
    (C : Array Value) (hC : P.built t [(i, a.eval x)] = some C) (h : K (a.put o.dst (.agg C)) w) : o.wp P a w K Q :=
  wp_builtC t _ ho C (by simpa using hC) h
theorem wp_built2 {P : Program} {o : Oper} {a : Act} {w : World} {K : Act → World → Prop} {Q : Exit → Act → World → Prop} (t : TypeId) (i j : Nat) (x y : Operand) (ho : o.op = .build t #[(i, x), (j, y)])
    (C : Array Value) (hC : P.built t [(i, a.eval x), (j, a.eval y)] = some C) (h : K (a.put o.dst (.agg C)) w) : o.wp P a w K Q :=
  wp_builtC t _ ho C (by simpa using hC) h
theorem index_cell {P : Program} {t e : TypeId} {n : Nat} (hu : P.underlying t = some (.array n e)) (he : P.plainKey e = true) (hi0 : (P.info? e).isSome = true) (hc : P.cellsOf e = 1) (C : Array Value) (v : Value) (k : Nat) (hk : k < n) (hx : C[k]? = some v) (w : World) :
    (Instr.index t (.agg C) (.int .i64 (k : Int))).run P w = .ok v w := by
  obtain ⟨i, hi⟩ := Option.isSome_iff_exists.1 hi0
  have h1 : (0 : Int) ≤ (k : Int) ∧ (k : Int) < (n : Int) := ⟨by omega, by omega⟩
  unfold Instr.index
  simp only [asIntOf, Sem.run_bind, Sem.run_pure, run_underlying hu, Result.andThen_ok, if_pos h1, run_sizeOf w hi, hc, Nat.mul_one, Int.toNat_natCast]
  exact run_part_plain w he hx
/-- a variable of an array type, its zero value said by the caller -/
theorem wpList_allocZ {P : Program} {ops : Array Oper} {rest : List Oper} {o : Oper} {a : Act} {w : World} {Q : Exit → Act → World → Prop} (hg : o.guard = none) (t : TypeId) (ho : o.op = .alloc t) (z : Array Value) (hz : ∀ w, (zeroValue t).run P w = .ok (.agg z) w)
    (h : wpList P ops Q rest (a.put o.dst (.pointer (some ⟨w.heap.size, 0, none⟩))) (w.alloc (.cells z t))) : wpList P ops Q (o :: rest) a w :=
  wpList_plain hg fun K hK => by
    unfold Oper.wp execOp
    simp only [ho]
    go_simp
    exact hK _ _ h
/-- one coefficient of a polynomial -/
theorem index_poly (f : Nat → Int) (k : Nat) (hk : k < 256) (w : World) : (Instr.index 25 (.agg (FL .i64 256 f)) (.int .i64 (k : Int))).run Tryd.prog w = .ok (.int .i64 (f k)) w :=
  index_cell Tryd.underlying25 (by kernel_rfl) (by kernel_rfl) (by kernel_rfl) _ _ k hk (fl_get .i64 256 f k hk) w
end Go.Proofs.YtdlolhilmhlklaaDoor.polt
