/-
  What the document's own New of layer 6 returns. Conditions: none.
-/
import Derived.Test.YtpibnfpgokjnpaaDoorRSpD
namespace Go.Proofs.YtpibnfpgokjnpaaDoor.rspe
open Go.RowKit
open Go.Proofs.YtpibnfpgokjnpaaDoor.arr Go.Proofs.YtpibnfpgokjnpaaDoor.mem Go.Proofs.YtpibnfpgokjnpaaDoor.kecm Go.Proofs.YtpibnfpgokjnpaaDoor.kecb Go.Proofs.YtpibnfpgokjnpaaDoor.kstep Go.Proofs.YtpibnfpgokjnpaaDoor.kfun Go.Proofs.YtpibnfpgokjnpaaDoor.spgm Go.Proofs.YtpibnfpgokjnpaaDoor.rspa Go.Proofs.YtpibnfpgokjnpaaDoor.rspb Go.Proofs.YtpibnfpgokjnpaaDoor.rspc Go.Proofs.YtpibnfpgokjnpaaDoor.rspd

theorem zk_is (k : Int) : (#[.int .i64 k, .int .u64 0, .int .u64 0, .int .u64 0, .int .u64 0, .int .u64 0, .int .u64 0, .int .u64 0, .int .u64 0, .int .u64 0, .int .u64 0, .int .u64 0, .int .u64 0, .int .u64 0, .int .u64 0, .int .u64 0, .int .u64 0, .int .u64 0, .int .u64 0, .int .u64 0, .int .u64 0, .int .u64 0, .int .u64 0, .int .u64 0, .int .u64 0, .int .u64 0, .int .i64 0, .bool false] : Array Value) = SC k Z 0 false := rfl
theorem wpList_buildC {P : Program} {ops : Array Oper} {rest : List Oper} {o : Oper} {a : Act} {w : World} {Q : Exit → Act → World → Prop} (hg : o.guard = none) (t : TypeId) (parts : Array (Nat × Operand)) (ho : o.op = .build t parts)
    (C : Array Value) (hC : P.built t (parts.map fun (i, x) => (i, a.eval x)).toList = some C) (h : wpList P ops Q rest (a.put o.dst (.agg C)) w) : wpList P ops Q (o :: rest) a w :=
  wpList_build hg t _ ho (by rw [hC]; rfl) (by rw [hC]; exact h)

set_option maxRecDepth 100000 in
set_option maxHeartbeats 2000000 in
theorem new_bad (k : Int) (w : World) (hr : rate k = 0) : Calls Tryd.prog 17 #[.int .i64 k] w fun e w' => e = .returned (.tuple #[.agg (SC 0 Z 0 false), .int .i64 1]) ∧ Below w.heap.size w w' := by
  have Hrate : Away (∀ w1 : World, Calls Tryd.prog 28 #[.int .i64 k] w1 fun e w' => e = .returned (.int .i64 ((rate k : Nat) : Int)) ∧ w' = w1) := ⟨rate_any k⟩
  obtain ⟨r, hre⟩ : ∃ r, rate k = r := ⟨_, rfl⟩
  rw [hre] at hr Hrate
  clear hre
  subst hr
  have Hrate : Away (∀ w1 : World, Calls Tryd.prog 28 #[.int .i64 k] w1 fun e w' => e = .returned (.int .i64 0) ∧ w' = w1) := Hrate
  obtain ⟨F, HF⟩ := ex_eq (SC 0 Z 0 false)
  have Fi : Away ((Tryd.prog.info? 25).map (·.size) = some F.size) := ⟨by rw [← HF.out]; exact sc_info _ _ _ z_len⟩
  have Fo : Away (F.all (·.oneCell') = true) := ⟨by rw [← HF.out]; exact sc_one _ _ _ _⟩
  have Fz : Away ((#[.int .i64 0, .int .u64 0, .int .u64 0, .int .u64 0, .int .u64 0, .int .u64 0, .int .u64 0, .int .u64 0, .int .u64 0, .int .u64 0, .int .u64 0, .int .u64 0, .int .u64 0, .int .u64 0, .int .u64 0, .int .u64 0, .int .u64 0, .int .u64 0, .int .u64 0, .int .u64 0, .int .u64 0, .int .u64 0, .int .u64 0, .int .u64 0, .int .u64 0, .int .u64 0, .int .i64 0, .bool false] : Array Value).size = F.size) := ⟨by rw [← HF.out, sc_size _ _ _ z_len]; rfl⟩
  have Fb : Away ((#[.int .i64 0, .int .u64 0, .int .u64 0, .int .u64 0, .int .u64 0, .int .u64 0, .int .u64 0, .int .u64 0, .int .u64 0, .int .u64 0, .int .u64 0, .int .u64 0, .int .u64 0, .int .u64 0, .int .u64 0, .int .u64 0, .int .u64 0, .int .u64 0, .int .u64 0, .int .u64 0, .int .u64 0, .int .u64 0, .int .u64 0, .int .u64 0, .int .u64 0, .int .u64 0, .int .i64 0, .bool false] : Array Value) = F) := ⟨by rw [← HF.out]; rfl⟩
  rw [HF.out]
  go_enter Tryd.func17, Tryd.ntmps17
  go_wp2_with fail
  refine (Hrate.out _).mono ?_
  rintro e w1 ⟨rfl, rfl⟩
  go_wp2_with (first
    | ((with_reducible refine wpList_buildC rfl _ _ rfl #[.int .i64 0, .int .u64 0, .int .u64 0, .int .u64 0, .int .u64 0, .int .u64 0, .int .u64 0, .int .u64 0, .int .u64 0, .int .u64 0, .int .u64 0, .int .u64 0, .int .u64 0, .int .u64 0, .int .u64 0, .int .u64 0, .int .u64 0, .int .u64 0, .int .u64 0, .int .u64 0, .int .u64 0, .int .u64 0, .int .u64 0, .int .u64 0, .int .u64 0, .int .u64 0, .int .i64 0, .bool false] ?hC ?_); (case hC => kernel_rfl); rw [Fb.out])
    | (refine wpList_store_new rfl 25 _ _ rfl F rfl rfl Fi.out (by first | exact Fz.out | rfl) Fo.out rfl ?_))
  refine bodyPost_ret_by (v := .tuple #[.agg F, .int .i64 1]) (rspc.results_cell_tmp rfl _ _ w.heap.size 25 _ (0, 0) _ rfl (heap_at _ _ _ rfl) Tryd.underlying25 rfl Fi.out _ rfl) rfl ?_
  exact ⟨rfl, below_alloc _ _⟩

set_option maxRecDepth 100000 in
set_option maxHeartbeats 2000000 in
theorem new_good (k : Int) (w : World) (hr : 0 < rate k) : Calls Tryd.prog 17 #[.int .i64 k] w fun e w' => e = .returned (.tuple #[.agg (SC k Z 0 false), .int .i64 0]) ∧ Below w.heap.size w w' := by
  have Hrate : Away (∀ w1 : World, Calls Tryd.prog 28 #[.int .i64 k] w1 fun e w' => e = .returned (.int .i64 ((rate k : Nat) : Int)) ∧ w' = w1) := ⟨rate_any k⟩
  obtain ⟨r, hre⟩ : ∃ r, rate k = r := ⟨_, rfl⟩
  rw [hre] at hr Hrate
  clear hre
  have h0 : ¬ ((r : Int) = 0) := by omega
  have h1 : ((r : Int) == 0) = false := beq_eq_false_iff_ne.2 (by omega)
  clear hr h0
  obtain ⟨F, HF⟩ := ex_eq (SC k Z 0 false)
  have Fi : Away ((Tryd.prog.info? 25).map (·.size) = some F.size) := ⟨by rw [← HF.out]; exact sc_info _ _ _ z_len⟩
  have Fo : Away (F.all (·.oneCell') = true) := ⟨by rw [← HF.out]; exact sc_one _ _ _ _⟩
  have Fz : Away ((#[.int .i64 0, .int .u64 0, .int .u64 0, .int .u64 0, .int .u64 0, .int .u64 0, .int .u64 0, .int .u64 0, .int .u64 0, .int .u64 0, .int .u64 0, .int .u64 0, .int .u64 0, .int .u64 0, .int .u64 0, .int .u64 0, .int .u64 0, .int .u64 0, .int .u64 0, .int .u64 0, .int .u64 0, .int .u64 0, .int .u64 0, .int .u64 0, .int .u64 0, .int .u64 0, .int .i64 0, .bool false] : Array Value).size = F.size) := ⟨by rw [← HF.out, sc_size _ _ _ z_len]; rfl⟩
  have Fb : Away ((#[.int .i64 k, .int .u64 0, .int .u64 0, .int .u64 0, .int .u64 0, .int .u64 0, .int .u64 0, .int .u64 0, .int .u64 0, .int .u64 0, .int .u64 0, .int .u64 0, .int .u64 0, .int .u64 0, .int .u64 0, .int .u64 0, .int .u64 0, .int .u64 0, .int .u64 0, .int .u64 0, .int .u64 0, .int .u64 0, .int .u64 0, .int .u64 0, .int .u64 0, .int .u64 0, .int .i64 0, .bool false] : Array Value) = F) := ⟨by rw [← HF.out]; rfl⟩
  rw [HF.out]
  go_enter Tryd.func17, Tryd.ntmps17
  go_wp2_with fail
  refine (Hrate.out _).mono ?_
  rintro e w1 ⟨rfl, rfl⟩
  go_wp2_with (first
    | ((with_reducible refine wpList_buildC rfl _ _ rfl #[.int .i64 k, .int .u64 0, .int .u64 0, .int .u64 0, .int .u64 0, .int .u64 0, .int .u64 0, .int .u64 0, .int .u64 0, .int .u64 0, .int .u64 0, .int .u64 0, .int .u64 0, .int .u64 0, .int .u64 0, .int .u64 0, .int .u64 0, .int .u64 0, .int .u64 0, .int .u64 0, .int .u64 0, .int .u64 0, .int .u64 0, .int .u64 0, .int .u64 0, .int .u64 0, .int .i64 0, .bool false] ?hC ?_); (case hC => kernel_rfl); rw [Fb.out])
    | (refine wpList_store_new rfl 25 _ _ rfl F rfl rfl Fi.out (by first | exact Fz.out | rfl) Fo.out rfl ?_))
  refine bodyPost_ret_by (v := .tuple #[.agg F, .int .i64 0]) (rspc.results_cell_tmp rfl _ _ w.heap.size 25 _ (0, 0) _ rfl (heap_at _ _ _ rfl) Tryd.underlying25 rfl Fi.out _ rfl) rfl ?_
  exact ⟨rfl, below_alloc _ _⟩

end Go.Proofs.YtpibnfpgokjnpaaDoor.rspe
