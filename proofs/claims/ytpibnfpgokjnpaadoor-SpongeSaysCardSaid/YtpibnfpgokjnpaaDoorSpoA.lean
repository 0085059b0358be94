/-
  What the sponge's small functions return: the traits of a kind, whether a number of bytes fits, one byte mixed into a state. Conditions: as each theorem says.
-/
import Derived.Test.YtpibnfpgokjnpaaDoorRSpA
import Derived.Test.YtpibnfpgokjnpaaDoorSpmX
namespace Go.Proofs.YtpibnfpgokjnpaaDoor.spoa
open Go.RowKit
open Go.Proofs.YtpibnfpgokjnpaaDoor.arr Go.Proofs.YtpibnfpgokjnpaaDoor.mem Go.Proofs.YtpibnfpgokjnpaaDoor.kecm Go.Proofs.YtpibnfpgokjnpaaDoor.kecb Go.Proofs.YtpibnfpgokjnpaaDoor.spgm Go.Proofs.YtpibnfpgokjnpaaDoor.spmx Go.Proofs.YtpibnfpgokjnpaaDoor.rspa

theorem traits_size : (Tryd.prog.info? 69).map (·.size) = some 3 := by kernel_rfl
/-- what a kind's traits are -/
def size (k : Int) : Nat := if k = 3 then 32 else if k = 4 then 64 else 0
def fin (k : Int) : Nat := if k = 1 then 31 else if k = 2 then 31 else if k = 3 then 6 else if k = 4 then 6 else 0
def tr (k : Int) : Value := .agg #[.int .i64 ((rate k : Nat) : Int), .int .u8 ((fin k : Nat) : Int), .int .i64 ((size k : Nat) : Int)]
set_option maxRecDepth 100000 in
set_option maxHeartbeats 1000000 in
theorem traits_any (k : Int) (w : World) : Calls Tryd.prog 33 #[.int .i64 k] w fun e w' => e = .returned (tr k) ∧ Below w.heap.size w w' := by
  unfold tr rate fin spoa.size
  by_cases h1 : k = 1
  · subst h1
    go_enter Tryd.func33, Tryd.ntmps33
    go_wp2_with fail
    refine bodyPost_ret_by (results_cell_row rfl _ _ w.heap.size 69 #[.int .i64 168, .int .u8 31, .int .i64 0] (0, 0) _ rfl (by rw [heap_past _ _ _ (by rw [size_alloc]; omega)]; exact heap_at _ _ _ rfl) Tryd.underlying69 rfl traits_size) rfl ?_
    exact ⟨rfl, ((Below.refl _ _).alloc (Nat.le_refl _) _).alloc (by rw [size_alloc]; omega) _⟩
  · by_cases h2 : k = 2
    · subst h2
      go_enter Tryd.func33, Tryd.ntmps33
      go_wp2_with fail
      refine bodyPost_ret_by (results_cell_row rfl _ _ w.heap.size 69 #[.int .i64 136, .int .u8 31, .int .i64 0] (0, 0) _ rfl (by rw [heap_past _ _ _ (by rw [size_alloc]; omega)]; exact heap_at _ _ _ rfl) Tryd.underlying69 rfl traits_size) rfl ?_
      exact ⟨rfl, ((Below.refl _ _).alloc (Nat.le_refl _) _).alloc (by rw [size_alloc]; omega) _⟩
    · by_cases h3 : k = 3
      · subst h3
        go_enter Tryd.func33, Tryd.ntmps33
        go_wp2_with fail
        refine bodyPost_ret_by (results_cell_row rfl _ _ w.heap.size 69 #[.int .i64 136, .int .u8 6, .int .i64 32] (0, 0) _ rfl (by rw [heap_past _ _ _ (by rw [size_alloc]; omega)]; exact heap_at _ _ _ rfl) Tryd.underlying69 rfl traits_size) rfl ?_
        exact ⟨rfl, ((Below.refl _ _).alloc (Nat.le_refl _) _).alloc (by rw [size_alloc]; omega) _⟩
      · by_cases h4 : k = 4
        · subst h4
          go_enter Tryd.func33, Tryd.ntmps33
          go_wp2_with fail
          refine bodyPost_ret_by (results_cell_row rfl _ _ w.heap.size 69 #[.int .i64 72, .int .u8 6, .int .i64 64] (0, 0) _ rfl (by rw [heap_past _ _ _ (by rw [size_alloc]; omega)]; exact heap_at _ _ _ rfl) Tryd.underlying69 rfl traits_size) rfl ?_
          exact ⟨rfl, ((Below.refl _ _).alloc (Nat.le_refl _) _).alloc (by rw [size_alloc]; omega) _⟩
        · simp only [if_neg h1, if_neg h2, if_neg h3, if_neg h4]
          go_enter Tryd.func33, Tryd.ntmps33
          go_wp2_with fail
          refine bodyPost_ret_by (results_cell_row rfl _ _ w.heap.size 69 #[.int .i64 0, .int .u8 0, .int .i64 0] (0, 0) _ rfl (by rw [heap_past _ _ _ (by rw [size_alloc]; omega)]; exact heap_at _ _ _ rfl) Tryd.underlying69 rfl traits_size) rfl ?_
          exact ⟨rfl, ((Below.refl _ _).alloc (Nat.le_refl _) _).alloc (by rw [size_alloc]; omega) _⟩
set_option maxRecDepth 100000 in
set_option maxHeartbeats 1000000 in
theorem fits_any (n : Int) (w : World) : Calls Tryd.prog 30 #[.int .i64 n] w fun e w' => e = .returned (.bool (decide (0 ≤ n ∧ n ≤ 50000))) ∧ w' = w := by
  by_cases h1 : 0 ≤ n
  · by_cases h2 : n ≤ 50000
    · rw [decide_eq_true ⟨h1, h2⟩]
      go_enter Tryd.func30, Tryd.ntmps30
      go_wp2_with fail
      go_ret
      exact ⟨rfl, rfl⟩
    · rw [decide_eq_false (fun h => h2 h.2)]
      have h3 : 50000 < n := by omega
      go_enter Tryd.func30, Tryd.ntmps30
      go_wp2_with fail
      go_ret
      exact ⟨rfl, rfl⟩
  · rw [decide_eq_false (fun h => h1 h.1)]
    have h3 : n < 0 := by omega
    go_enter Tryd.func30, Tryd.ntmps30
    go_wp2_with fail
    go_ret
    exact ⟨rfl, rfl⟩
end Go.Proofs.YtpibnfpgokjnpaaDoor.spoa
