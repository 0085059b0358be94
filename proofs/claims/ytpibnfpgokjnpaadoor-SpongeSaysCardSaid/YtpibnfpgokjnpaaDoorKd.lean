/-
  The document's tables hold the constants of the permutation. Conditions: none.
-/
import Derived.Test.YtpibnfpgokjnpaaDoorKw
import Derived.Test.YtpibnfpgokjnpaaDoorKc
import Derived.Test.YtpibnfpgokjnpaaDoorTMb
namespace Go.Proofs.YtpibnfpgokjnpaaDoor.kecd
open Go.RowKit
open Go.Proofs.YtpibnfpgokjnpaaDoor.arr Go.Proofs.YtpibnfpgokjnpaaDoor.mem Go.Proofs.YtpibnfpgokjnpaaDoor.tabv Go.Proofs.YtpibnfpgokjnpaaDoor.kecm Go.Proofs.YtpibnfpgokjnpaaDoor.keca Go.Proofs.YtpibnfpgokjnpaaDoor.kstep

theorem tl_lt : ∀ i, TL.getD i 0 < 64 := by
  intro i
  by_cases h : i < 25
  · have : ∀ i : Fin 25, TL.getD i.val 0 < 64 := by decide
    exact this ⟨i, h⟩
  · rw [List.getD_eq_getElem?_getD, List.getElem?_eq_none (by show 25 ≤ i; omega)]; decide
theorem rl_lt : ∀ i, RL.getD i 0 < 18446744073709551616 := by
  intro i
  by_cases h : i < 24
  · have : ∀ i : Fin 24, RL.getD i.val 0 < 18446744073709551616 := by decide
    exact this ⟨i, h⟩
  · rw [List.getD_eq_getElem?_getD, List.getElem?_eq_none (by show 24 ≤ i; omega)]; decide
theorem kt_doc : KT TA TL RL :=
  ⟨fun i hi => by rw [ta_get _ (by omega), tv_turns i hi, tl_is], fun i hi => by rw [ta_get _ (by omega), tv_rounds i hi, rl_is], fun i => Nat.lt_of_lt_of_le (tl_lt i) (by decide), rl_lt, ta_size, ta_one⟩
theorem st_of {a : List Nat} (h : a.length = 25) (h2 : ∀ i : Fin 25, g a i.val < 18446744073709551616) : St a := ⟨h, fun i => by
  by_cases hi : i < 25
  · exact h2 ⟨i, hi⟩
  · unfold g; rw [List.getD_eq_getElem?_getD, List.getElem?_eq_none (by omega)]; decide⟩
theorem getD_set (l : List Nat) (m v i : Nat) : (l.set m v).getD i 0 = if i = m ∧ m < l.length then v else l.getD i 0 := by
  rw [List.getD_eq_getElem?_getD, List.getD_eq_getElem?_getD, List.getElem?_set]
  by_cases h : m = i
  · subst h
    by_cases h2 : m < l.length
    · simp [h2]
    · rw [if_pos rfl, if_neg h2, if_neg (by omega), List.getElem?_eq_none (by omega)]
  · rw [if_neg h, if_neg (by omega)]
theorem region_still_ops {P : Program} {id : Nat} {Q : Exit → Act → World → Prop} {a : Act} {w : World} {l : List Oper} (hm : P.follows .mixedOrders = true) (hB : Region.lexB .any l.toArray = true)
    (h : ∀ ops : Array Oper, Away (l.toArray = ops) → wpStill P ops w.drew (fun a' => Q .normal a' w.drew) l a) : (Code.region id l.toArray true).wp P Q a w := kecb.still_all hm hB (h _ ⟨rfl⟩)
theorem wpStill_want {P : Program} {ops : Array Oper} {w : World} {Q : Act → Prop} {rest : List Oper} {o : Oper} {a : Act} (hw : Region.wanted o (yielded ops a.tmps) = true)
    (h : ∀ K : Act → Prop, (∀ a, wpStill P ops w Q rest a → K a) → o.still P a w K) : wpStill P ops w Q (o :: rest) a :=
  wpStill_step fun K hK => by rw [if_pos hw]; exact h K hK
theorem one {w W : World} {x : Obj} (h : w.alloc x = W) : W.heap[w.heap.size]? = some x ∧ W.heap.size = w.heap.size + 1 ∧ Below w.heap.size w W := by
  subst h
  exact ⟨heap_at _ _ _ rfl, size_alloc _ _, below_alloc _ _⟩
end Go.Proofs.YtpibnfpgokjnpaaDoor.kecd
