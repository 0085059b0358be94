/-
  A sponge as cells, and what the document's own rate, mark, Right and New of layer 6 return. Conditions: as each theorem says.
-/
import Derived.Test.YtpibnfpgokjnpaaDoorSpgM
import Derived.Test.YtpibnfpgokjnpaaDoorKb
import Derived.Test.YtpibnfpgokjnpaaDoorProg
namespace Go.Proofs.YtpibnfpgokjnpaaDoor.rspa
open Go.RowKit
open Go.Proofs.YtpibnfpgokjnpaaDoor.arr Go.Proofs.YtpibnfpgokjnpaaDoor.mem Go.Proofs.YtpibnfpgokjnpaaDoor.kecm Go.Proofs.YtpibnfpgokjnpaaDoor.kecb Go.Proofs.YtpibnfpgokjnpaaDoor.spgm

/-- a sponge's 28 cells -/
def SC (k : Int) (l : List Nat) (a : Int) (o : Bool) : Array Value := (Value.int .i64 k :: ((LK .u64 l).toList ++ [Value.int .i64 a, Value.bool o])).toArray
theorem sc_size (k : Int) {l : List Nat} (a : Int) (o : Bool) (h : l.length = 25) : (SC k l a o).size = 28 := by simp [SC, LK, h]
theorem sc_kind (k : Int) (l : List Nat) (a : Int) (o : Bool) : (SC k l a o)[0]? = some (.int .i64 k) := by simp [SC]
theorem sc_lane (k : Int) {l : List Nat} (a : Int) (o : Bool) (h : l.length = 25) (i : Nat) (hi : i < 25) : (SC k l a o)[1 + i]? = some (.int .u64 ((g l i : Nat) : Int)) := by
  have h1 := lane_get h i hi
  rw [Nat.add_comm]
  simp only [SC, List.getElem?_toArray, List.getElem?_cons_succ]
  rw [List.getElem?_append_left (by simp [LK, h]; exact hi), Array.getElem?_toList]
  exact h1
theorem sc_at (k : Int) {l : List Nat} (a : Int) (o : Bool) (h : l.length = 25) : (SC k l a o)[26]? = some (.int .i64 a) := by
  simp only [SC, List.getElem?_toArray, List.getElem?_cons_succ]
  rw [List.getElem?_append_right (by simp [LK, h])]
  simp [LK, h]
theorem sc_out (k : Int) {l : List Nat} (a : Int) (o : Bool) (h : l.length = 25) : (SC k l a o)[27]? = some (.bool o) := by
  simp only [SC, List.getElem?_toArray, List.getElem?_cons_succ]
  rw [List.getElem?_append_right (by simp [LK, h])]
  simp [LK, h]
theorem sc_one (k : Int) (l : List Nat) (a : Int) (o : Bool) : (SC k l a o).all (·.oneCell') = true := by
  rw [Array.all_eq_true_iff_forall_mem]
  intro v hv
  simp only [SC, List.mem_toArray, List.mem_cons, List.mem_append, List.not_mem_nil, or_false] at hv
  rcases hv with rfl | h | rfl | rfl
  · rfl
  · exact (Array.all_eq_true_iff_forall_mem.1 (lk_one .u64 l)) v (by simpa using h)
  · rfl
  · rfl
theorem sc_setl (k : Int) {l : List Nat} (a : Int) (o : Bool) (h : l.length = 25) (i x : Nat) (hi : i < 25) : (SC k l a o).setIfInBounds (1 + i) (.int .u64 (x : Int)) = SC k (l.set i x) a o := by
  rw [Nat.add_comm]
  simp only [SC, List.setIfInBounds_toArray, List.set_cons_succ]
  rw [List.set_append_left _ _ (by simp [LK, h]; exact hi)]
  have e : (LK .u64 l).toList.set i (.int .u64 (x : Int)) = (LK .u64 (l.set i x)).toList := by rw [← lk_set]; simp
  rw [e]
theorem sc_seta (k : Int) {l : List Nat} (a b : Int) (o : Bool) (h : l.length = 25) : (SC k l a o).setIfInBounds 26 (.int .i64 b) = SC k l b o := by
  simp only [SC, List.setIfInBounds_toArray, List.set_cons_succ]
  rw [List.set_append_right _ _ (by simp [LK, h])]
  simp [LK, h]
theorem sc_seto (k : Int) {l : List Nat} (a : Int) (o p : Bool) (h : l.length = 25) : (SC k l a o).setIfInBounds 27 (.bool p) = SC k l a p := by
  simp only [SC, List.setIfInBounds_toArray, List.set_cons_succ]
  rw [List.set_append_right _ _ (by simp [LK, h])]
  simp [LK, h]
theorem sizeS : (Tryd.prog.info? 25).map (·.size) = some 28 := by kernel_rfl

set_option maxRecDepth 100000 in
set_option maxHeartbeats 1000000 in
theorem rate_any (k : Int) (w : World) : Calls Tryd.prog 28 #[.int .i64 k] w fun e w' => e = .returned (.int .i64 ((rate k : Nat) : Int)) ∧ w' = w := by
  unfold rate
  by_cases h1 : k = 1
  · subst h1
    go_enter Tryd.func28, Tryd.ntmps28
    go_wp2_with fail
    go_ret
    exact ⟨rfl, rfl⟩
  · by_cases h2 : k = 2
    · subst h2
      go_enter Tryd.func28, Tryd.ntmps28
      go_wp2_with fail
      go_ret
      exact ⟨rfl, rfl⟩
    · by_cases h3 : k = 3
      · subst h3
        go_enter Tryd.func28, Tryd.ntmps28
        go_wp2_with fail
        go_ret
        exact ⟨rfl, rfl⟩
      · by_cases h4 : k = 4
        · subst h4
          go_enter Tryd.func28, Tryd.ntmps28
          go_wp2_with fail
          go_ret
          exact ⟨rfl, rfl⟩
        · rw [if_neg h1, if_neg h2, if_neg h3, if_neg h4]
          go_enter Tryd.func28, Tryd.ntmps28
          go_wp2_with fail
          go_ret
          exact ⟨rfl, rfl⟩
set_option maxRecDepth 100000 in
set_option maxHeartbeats 1000000 in
theorem mark_any (k : Int) (w : World) : Calls Tryd.prog 32 #[.int .i64 k] w fun e w' => e = .returned (.int .u8 ((spgm.mark k : Nat) : Int)) ∧ w' = w := by
  unfold spgm.mark
  by_cases h1 : k = 1
  · subst h1
    go_enter Tryd.func32, Tryd.ntmps32
    go_wp2_with fail
    go_ret
    exact ⟨rfl, rfl⟩
  · by_cases h2 : k = 2
    · subst h2
      go_enter Tryd.func32, Tryd.ntmps32
      go_wp2_with fail
      go_ret
      exact ⟨rfl, rfl⟩
    · rw [if_neg h1, if_neg h2]
      have e1 : (k == 1) = false := by simpa using h1
      have e2 : (k == 2) = false := by simpa using h2
      go_enter Tryd.func32, Tryd.ntmps32
      go_wp2_with fail
      go_ret
      exact ⟨rfl, rfl⟩
end Go.Proofs.YtpibnfpgokjnpaaDoor.rspa
