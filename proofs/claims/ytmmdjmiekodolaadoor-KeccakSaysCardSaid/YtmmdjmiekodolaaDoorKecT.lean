/-
  Tables for the permutation with one number turned; what two states' comparison answers (no function of the program is named here). Conditions: as each theorem says.
-/
import Derived.Test.YtmmdjmiekodolaaDoorKFun
import Derived.Test.YtmmdjmiekodolaaDoorBase
import Derived.Test.YtmmdjmiekodolaaDoorKecB
namespace Go.Proofs.YtmmdjmiekodolaaDoor.kect
open Go Go.RowKit
open Go.Proofs.YtmmdjmiekodolaaDoor.arr Go.Proofs.YtmmdjmiekodolaaDoor.mem Go.Proofs.YtmmdjmiekodolaaDoor.kecm Go.Proofs.YtmmdjmiekodolaaDoor.kstep

theorem getD_set (l : List Nat) (m v i : Nat) : (l.set m v).getD i 0 = if i = m ∧ m < l.length then v else l.getD i 0 := by
  rw [List.getD_eq_getElem?_getD, List.getD_eq_getElem?_getD, List.getElem?_set]
  by_cases h : m = i
  · subst h
    by_cases h2 : m < l.length
    · simp [h2]
    · rw [if_pos rfl, if_neg h2, if_neg (by omega), List.getElem?_eq_none (by omega)]
  · rw [if_neg h, if_neg (by omega)]
theorem kt_rounds {T : Array Value} {ts rs : List Nat} (h : KT T ts rs) (hl : rs.length = 24) (m v : Nat) (hm : m < 24) (hv : v < 18446744073709551616) : KT (T.setIfInBounds (160 + m) (.int .u64 (v : Int))) ts (rs.set m v) := by
  refine ⟨fun i hi => ?_, fun i hi => ?_, h.bt, fun i => ?_, by rw [Array.size_setIfInBounds]; exact h.size, ?_⟩
  · rw [Array.getElem?_setIfInBounds_ne (by omega)]; exact h.t i hi
  · by_cases e : i = m
    · subst e
      rw [Array.getElem?_setIfInBounds_self_of_lt (by rw [h.size]; omega), getD_set, if_pos ⟨rfl, by omega⟩]
    · rw [Array.getElem?_setIfInBounds_ne (by omega), getD_set, if_neg (by omega)]; exact h.r i hi
  · rw [getD_set]
    split
    · exact hv
    · exact h.br i
  · rw [Array.all_eq_true_iff_forall_mem]
    intro x hx
    rcases Array.mem_or_eq_of_mem_setIfInBounds hx with h1 | rfl
    · exact (Array.all_eq_true_iff_forall_mem.1 h.one) x h1
    · rfl
theorem kt_turns {T : Array Value} {ts rs : List Nat} (h : KT T ts rs) (hl : ts.length = 25) (m v : Nat) (hm : m < 25) (hv : v < 9223372036854775808) : KT (T.setIfInBounds (184 + m) (.int .i64 (v : Int))) (ts.set m v) rs := by
  refine ⟨fun i hi => ?_, fun i hi => ?_, fun i => ?_, h.br, by rw [Array.size_setIfInBounds]; exact h.size, ?_⟩
  · by_cases e : i = m
    · subst e
      rw [Array.getElem?_setIfInBounds_self_of_lt (by rw [h.size]; omega), getD_set, if_pos ⟨rfl, by omega⟩]
    · rw [Array.getElem?_setIfInBounds_ne (by omega), getD_set, if_neg (by omega)]; exact h.t i hi
  · rw [Array.getElem?_setIfInBounds_ne (by omega)]; exact h.r i hi
  · rw [getD_set]
    split
    · exact hv
    · exact h.bt i
  · rw [Array.all_eq_true_iff_forall_mem]
    intro x hx
    rcases Array.mem_or_eq_of_mem_setIfInBounds hx with h1 | rfl
    · exact (Array.all_eq_true_iff_forall_mem.1 h.one) x h1
    · rfl
theorem one {w W : World} {x : Obj} (h : w.alloc x = W) : W.heap[w.heap.size]? = some x ∧ W.heap.size = w.heap.size + 1 ∧ Below w.heap.size w W := by
  subst h
  exact ⟨heap_at _ _ _ rfl, size_alloc _ _, below_alloc _ _⟩
theorem st_of_arg {a : List Nat} (h : a.length = 25) (hg : ∀ i, a.getD i 0 < 18446744073709551616) : St a := ⟨h, hg⟩
/-- a region that only reads: the list of its operations behind a variable -/
theorem region_still_ops {P : Program} {id : Nat} {Q : Exit → Act → World → Prop} {a : Act} {w : World} {l : List Oper} (hm : P.follows .mixedOrders = true) (hB : Region.lexB .any l.toArray = true)
    (h : ∀ ops : Array Oper, Away (l.toArray = ops) → wpStill P ops w.drew (fun a' => Q .normal a' w.drew) l a) : (Code.region id l.toArray true).wp P Q a w := kecb.still_all hm hB (h _ ⟨rfl⟩)
/-- an operation that its guard lets by -/
theorem wpStill_want {P : Program} {ops : Array Oper} {w : World} {Q : Act → Prop} {rest : List Oper} {o : Oper} {a : Act} (hw : Region.wanted o (yielded ops a.tmps) = true)
    (h : ∀ K : Act → Prop, (∀ a, wpStill P ops w Q rest a → K a) → o.still P a w K) : wpStill P ops w Q (o :: rest) a :=
  wpStill_step fun K hK => by rw [if_pos hw]; exact h K hK
theorem wrap_u64_nat (b : Int) : ∃ B : Nat, IntKind.u64.wrap b = (B : Int) ∧ B < 18446744073709551616 := by
  rw [IntKind.wrap_u64]
  exact ⟨(b % 18446744073709551616).toNat, by omega, by omega⟩
end Go.Proofs.YtmmdjmiekodolaaDoor.kect
