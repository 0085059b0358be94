/-
  Plain facts for walks: regions that draw their order, one cell of a row written (no function of the program is named here). Conditions: as each theorem says.
-/
import Derived.Test.YthggakbomlgkhaaMem
import Derived.StillTailTactics
import Derived.BigQuiet
import Derived.ChangeKeysEq
namespace Go.Proofs.Ythggakbomlgkhaa.stil
open Go Go.RowKit
open Go.Proofs.Ythggakbomlgkhaa.arr Go.Proofs.Ythggakbomlgkhaa.mem

theorem still_tail {P : Program} {id : Nat} {Q : Exit → Act → World → Prop} {a : Act} {w : World} {l : List Oper} (n : Nat) (hm : P.follows .mixedOrders = true) (hB : Region.lexTailB .any l.toArray n = true)
    (h : wpStill P l.toArray w.drew (fun a' => wpList P l.toArray Q (l.drop n) a' w.drew) (l.take n) a) : (Code.region id l.toArray true).wp P Q a w := wp_region_still_tail n hm hB h
theorem still_all {P : Program} {id : Nat} {Q : Exit → Act → World → Prop} {a : Act} {w : World} {l : List Oper} (hm : P.follows .mixedOrders = true) (hB : Region.lexB .any l.toArray = true)
    (h : wpStill P l.toArray w.drew (fun a' => Q .normal a' w.drew) l a) : (Code.region id l.toArray true).wp P Q a w := wp_region_still_lit hm hB h
theorem at_put {g : Nat} {C : Array Value} {t : TypeId} {w w' : World} (h : At g C t w w') (o : Nat) (v : Value) : At g (C.setIfInBounds o v) t w (w'.setCell ⟨g, o, none⟩ v) :=
  ⟨h.os, h.tape, h.output, by rw [size_setCell]; exact h.size, heap_setCell h.row o v, fun k hk hg => (Below.heap_setCell w' ⟨g, o, none⟩ v k hg).trans (h.block k hk hg)⟩
theorem at_drew {g : Nat} {C : Array Value} {t : TypeId} {w w' : World} (h : At g C t w w') : At g C t w w'.drew := ⟨h.os, h.tape, h.output, h.size, h.row, h.block⟩
/-- a cell of a row is written: the row that follows, in whatever world -/
theorem run_storeVar_lane {P : Program} (w : World) (g n : Nat) (t ty : TypeId) (C : Array Value) (v : Value) (hg : w.heap[g]? = some (.cells C t (0, 0))) (hi : (P.info? ty).map (·.size) = some 1) (h1 : v.oneCell' = true) (hn : n < C.size) :
    (storeVar ty ⟨g, n, none⟩ v).run P w = .ok () (w.setCell ⟨g, n, none⟩ v) := by
  have hc : v.cells = #[v] := by cases v <;> first | rfl | cases h1
  cases hq : P.info? ty with
  | none => simp [hq] at hi
  | some i =>
    have hs : i.size = 1 := by simpa [hq] using hi
    have hadd : (⟨g, n, none⟩ : Addr).add 0 = ⟨g, n, none⟩ := by unfold Addr.add; split <;> simp_all
    have hst : (store (⟨g, n, none⟩ : Addr) v).run P w = .ok () (w.setCell ⟨g, n, none⟩ v) := by
      rw [run_store P w _ v _ h1, cell_of_row w g n C t (0, 0) hg, frozen_of_row w g n C t hg, Array.getElem?_eq_getElem hn]
      rfl
    simp [storeVar, sizeOf, typeInfo, hq, hc, hs, storeCells, hadd, hst]
theorem wpList_put {P : Program} {ops : Array Oper} {Q : Exit → Act → World → Prop} {rest : List Oper} {o : Oper} {a : Act} {w0 w : World} {g : Nat} {C : Array Value} {t : TypeId} (H : Away (At g C t w0 w)) (hgd : o.guard = none) (ty : TypeId) (x y : Operand) (ho : o.op = .store ty x y)
    (n : Nat) (v : Value) (hx : a.eval x = .pointer (some ⟨g, n, none⟩)) (hy : a.eval y = v) (hi : (P.info? ty).map (·.size) = some 1) (h1 : v.oneCell' = true) (hn : n < C.size) (hd : o.dst = none)
    (h : ∀ w', Away (At g (C.setIfInBounds n v) t w0 w') → wpList P ops Q rest a w') : wpList P ops Q (o :: rest) a w :=
  wpList_plain hgd fun K hK => by
    unfold Oper.wp execOp
    simp only [ho, hx, hy, Instr.storeAt, Instr.sureAddr, Sem.run_bind, Sem.run_pure, Result.andThen_ok, run_storeVar_lane w g n t ty C v H.out.row hi h1 hn]
    have h2 := hK _ _ (h _ ⟨at_put H.out n v⟩)
    show K (a.put o.dst undef) _
    rw [hd]
    exact h2
/-- .. the place and the value found by the walk -/
theorem wpList_put2 {P : Program} {ops : Array Oper} {Q : Exit → Act → World → Prop} {rest : List Oper} {o : Oper} {a : Act} {w0 w : World} {g : Nat} {C : Array Value} {t : TypeId} (H : Away (At g C t w0 w)) (hgd : o.guard = none) (ty : TypeId) (x y : Operand) (ho : o.op = .store ty x y) (hd : o.dst = none)
    (h : ∃ n k z, a.eval x = .pointer (some ⟨g, n, none⟩) ∧ a.eval y = .int k z ∧ (P.info? ty).map (·.size) = some 1 ∧ n < C.size ∧ ∀ w', Away (At g (C.setIfInBounds n (.int k z)) t w0 w') → wpList P ops Q rest a w') : wpList P ops Q (o :: rest) a w := by
  obtain ⟨n, k, z, h1, h2, h3, h5, h6⟩ := h
  exact wpList_put H hgd ty x y ho n _ h1 h2 h3 rfl h5 hd h6
end Go.Proofs.Ythggakbomlgkhaa.stil
