/-
  The statement AdrsSays (P15.1 to P15.6): sets, validity, lengths, addresses' texts and digits are the reference's. Conditions: the numbers are of their types.
-/
import Derived.Test.YthggakbomlgkhaaAwake15
import Derived.Test.YthggakbomlgkhaaSmall15
import Derived.Test.YthggakbomlgkhaaOpAd
import Derived.Test.YthggakbomlgkhaaHeldB
import Derived.Test.YthggakbomlgkhaaRAl
import Derived.Test.YthggakbomlgkhaaRAu
import Derived.Test.YthggakbomlgkhaaRAt
import Derived.Test.YthggakbomlgkhaaRAdD
namespace Go.Proofs.Ythggakbomlgkhaa.l15s
set_option linter.unusedSimpArgs false
open Go Go.RowKit
open Go.Proofs.Ythggakbomlgkhaa.arr Go.Proofs.Ythggakbomlgkhaa.mem Go.Proofs.Ythggakbomlgkhaa.stil Go.Proofs.Ythggakbomlgkhaa.boxt Go.Proofs.Ythggakbomlgkhaa.polys Go.Proofs.Ythggakbomlgkhaa.adm Go.Proofs.Ythggakbomlgkhaa.adp Go.Proofs.Ythggakbomlgkhaa.adt Go.Proofs.Ythggakbomlgkhaa.addg Go.Proofs.Ythggakbomlgkhaa.awake15 Go.Proofs.Ythggakbomlgkhaa.small15 Go.Proofs.Ythggakbomlgkhaa.helda Go.Proofs.Ythggakbomlgkhaa.heldb

theorem guardF : Try.prog.eqGuardType Try.prog.depth 23 = false := by kernel_rfl
/-- '==' of two sets, its answer told -/
theorem told_eqF {o : Oper} {a : Act} (w : World) (x y : Operand) (xs ys : Array Value) (b : Bool) (ho : o.op = .binOp .eql 23 x y 23) (hx : a.eval x = .agg xs) (hy : a.eval y = .agg ys)
    (hb : ∀ w, (Op.equalIn 10000 23 (.agg xs) (.agg ys)).run Try.prog w = .ok b w) : (execOp a.eval o).run Try.prog w = .ok (.value (.bool b)) w := by
  unfold execOp
  simp only [ho, hx, hy, Sem.run_bind, run_eqGuard_agg _ .eql _ _ _ _ _ guardF, Result.andThen_ok, run_eql_struct, hb, Sem.run_pure]
theorem setA_fo (k : Int) : ∃ a b c d e f, setA k = fo a b c d e f := by
  unfold setA
  by_cases h : k = 1
  · rw [if_pos h]; exact ⟨_, _, _, _, _, _, rfl⟩
  rw [if_neg h]
  clear h
  by_cases h : k = 2
  · rw [if_pos h]; exact ⟨_, _, _, _, _, _, rfl⟩
  rw [if_neg h]
  clear h
  by_cases h : k = 3
  · rw [if_pos h]; exact ⟨_, _, _, _, _, _, rfl⟩
  rw [if_neg h]
  clear h
  by_cases h : k = 4
  · rw [if_pos h]; exact ⟨_, _, _, _, _, _, rfl⟩
  rw [if_neg h]
  clear h
  by_cases h : k = 5
  · rw [if_pos h]; exact ⟨_, _, _, _, _, _, rfl⟩
  rw [if_neg h]
  clear h
  by_cases h : k = 6
  · rw [if_pos h]; exact ⟨_, _, _, _, _, _, rfl⟩
  rw [if_neg h]
  clear h
  by_cases h : k = 7
  · rw [if_pos h]; exact ⟨_, _, _, _, _, _, rfl⟩
  rw [if_neg h]
  clear h
  by_cases h : k = 8
  · rw [if_pos h]; exact ⟨_, _, _, _, _, _, rfl⟩
  rw [if_neg h]
  clear h
  by_cases h : k = 9
  · rw [if_pos h]; exact ⟨_, _, _, _, _, _, rfl⟩
  rw [if_neg h]
  clear h
  by_cases h : k = 10
  · rw [if_pos h]; exact ⟨_, _, _, _, _, _, rfl⟩
  rw [if_neg h]
  clear h
  by_cases h : k = 11
  · rw [if_pos h]; exact ⟨_, _, _, _, _, _, rfl⟩
  rw [if_neg h]
  clear h
  by_cases h : k = 12
  · rw [if_pos h]; exact ⟨_, _, _, _, _, _, rfl⟩
  rw [if_neg h]
  clear h
  by_cases h : k = 13
  · rw [if_pos h]; exact ⟨_, _, _, _, _, _, rfl⟩
  rw [if_neg h]
  clear h
  by_cases h : k = 14
  · rw [if_pos h]; exact ⟨_, _, _, _, _, _, rfl⟩
  rw [if_neg h]
  clear h
  exact ⟨_, _, _, _, _, _, rfl⟩
set_option maxRecDepth 100000 in
set_option maxHeartbeats 1000000 in
theorem far (P A : Array Value) (s : ByteArray) (w : World) (h : 500 < s.size) (hs : s.size ≤ maxLen) : Calls Try.prog 3 #[.agg P, .agg A, .string s] w fun e w' => e = .returned (.bool true) ∧ Below w.heap.size w w' := by
  unfold maxLen at hs
  have HAw := Away.mk (fun w1 => awake_any w1)
  obtain ⟨W, hW⟩ : ∃ x, (w.alloc (.cells P 23)).alloc (.cells A 26) = x := ⟨_, rfl⟩
  obtain ⟨-, -, -, hb0⟩ := two hW
  have HW := Away.mk hW
  have B0 := Away.mk hb0
  clear hW hb0
  go_enter Try.func3, Try.ntmps3
  go_wp2_with (rw [HW.out])
  refine (HAw.out _).mono ?_
  rintro e w1 ⟨rfl, hb⟩
  have HB : Away (Below w.heap.size w w1) := ⟨B0.out.trans (hb.mono B0.out.size)⟩
  clear hb
  go_wp2_with fail
  go_ret
  exact ⟨rfl, HB.out⟩
set_option maxRecDepth 100000 in
set_option maxHeartbeats 8000000 in
theorem near (P A V : Array Value) (s S T : ByteArray) (X Y Z E n k : Int) (b : Bool) (h m q : Nat) (x : Nat → Int) (w : World) (hsl : s.size ≤ 500) (hq : q ≤ 50000) (hm : h % 300 = m)
    (hPs : P.size = 6) (hAs : A.size = 6) (hVs : V.size = 6) (hVo : V.all (·.oneCell') = true) (hP1 : P[1]? = some (.int .i64 n)) (hA2 : A[2]? = some (.int .i64 k)) (hA4 : A[4]? = some (.int .u64 (h : Int)))
    (heq : ∀ w1, (Op.equalIn 10000 23 (.agg V) (.agg V)).run Try.prog w1 = .ok true w1)
    (HL1 : (∀ w1 : World, Calls Try.prog 8 #[.agg P] w1 fun e w' => e = .returned (.tuple #[.int .i64 X, .int .i64 Y, .int .i64 Z]) ∧ Below w1.heap.size w1 w'))
    (HL2 : (∀ w1 : World, Calls Try.prog 9 #[.agg P] w1 fun e w' => e = .returned (.tuple #[.int .i64 X, .int .i64 Y, .int .i64 Z]) ∧ Below w1.heap.size w1 w'))
    (HS1 : (∀ w1 : World, Calls Try.prog 10 #[.int .i64 n] w1 fun e w' => e = .returned (.tuple #[.agg V, .int .i64 E]) ∧ Below w1.heap.size w1 w'))
    (HS2 : (∀ w1 : World, Calls Try.prog 11 #[.int .i64 n] w1 fun e w' => e = .returned (.tuple #[.agg V, .int .i64 E]) ∧ Below w1.heap.size w1 w'))
    (HR1 : (∀ w1 : World, Calls Try.prog 12 #[.agg P] w1 fun e w' => e = .returned (.bool b) ∧ Below w1.heap.size w1 w'))
    (HR2 : (∀ w1 : World, Calls Try.prog 13 #[.agg P] w1 fun e w' => e = .returned (.bool b) ∧ Below w1.heap.size w1 w'))
    (HB1 : (∀ w1 : World, Calls Try.prog 14 #[.agg A] w1 fun e w' => e = .returned (.string S) ∧ Below w1.heap.size w1 w'))
    (HB2 : (∀ w1 : World, Calls Try.prog 15 #[.agg A] w1 fun e w' => e = .returned (.string S) ∧ Below w1.heap.size w1 w'))
    (HT1 : (∀ w1 : World, Calls Try.prog 16 #[.agg A] w1 fun e w' => e = .returned (.string T) ∧ Below w1.heap.size w1 w'))
    (HT2 : (∀ w1 : World, Calls Try.prog 17 #[.agg A] w1 fun e w' => e = .returned (.string T) ∧ Below w1.heap.size w1 w'))
    (HD1 : (∀ w1 : World, Calls Try.prog 19 #[.string s, .int .i64 k, .int .i64 (m : Int)] w1 fun e w' => ∃ v, e = .returned v ∧ Ro w' w1.heap.size v q x ∧ Below w1.heap.size w1 w'))
    (HD2 : (∀ w1 : World, Calls Try.prog 20 #[.string s, .int .i64 k, .int .i64 (m : Int)] w1 fun e w' => ∃ v, e = .returned v ∧ Ro w' w1.heap.size v q x ∧ Below w1.heap.size w1 w'))
    : Calls Try.prog 3 #[.agg P, .agg A, .string s] w fun e w' => e = .returned (.bool true) ∧ Below w.heap.size w w' := by
  obtain ⟨hz, hsize⟩ := zero_of_info infoF
  obtain ⟨Z0, HZ0⟩ := ex_eq (fo 0 0 0 0 0 0)
  rw [HZ0.out] at hz
  have hsz : (Try.prog.info? 26).map (·.size) = some 6 := by kernel_rfl
  have Pi : Away ((Try.prog.info? 23).map (·.size) = some P.size) := ⟨by rw [hPs]; exact hsize⟩
  have Ai : Away ((Try.prog.info? 26).map (·.size) = some A.size) := ⟨by rw [hAs]; exact hsz⟩
  have Vi : Away ((Try.prog.info? 23).map (·.size) = some V.size) := ⟨by rw [hVs]; exact hsize⟩
  have ZV : Away (Z0.size = V.size) := ⟨by rw [← HZ0.out, hVs]; rfl⟩
  have Vo := Away.mk hVo
  have P1 := Away.mk hP1
  have A2 := Away.mk hA2
  have A4 := Away.mk hA4
  have Heq := Away.mk heq
  have Hq := Away.mk hq
  have hmi : (h : Int) % 300 = (m : Int) := by omega
  have hm2 : m < 300 := by omega
  have HL1 := Away.mk HL1
  have HL2 := Away.mk HL2
  have HS1 := Away.mk HS1
  have HS2 := Away.mk HS2
  have HR1 := Away.mk HR1
  have HR2 := Away.mk HR2
  have HB1 := Away.mk HB1
  have HB2 := Away.mk HB2
  have HT1 := Away.mk HT1
  have HT2 := Away.mk HT2
  have HD1 := Away.mk HD1
  have HD2 := Away.mk HD2
  have HAw := Away.mk (fun w1 => awake_any w1)
  clear hPs hAs hVs hVo hP1 hA2 hA4 heq hq hm hsize hsz HZ0
  obtain ⟨W, hW⟩ : ∃ x, (w.alloc (.cells P 23)).alloc (.cells A 26) = x := ⟨_, rfl⟩
  obtain ⟨rp, ra, hs0, hb0⟩ := two hW
  have HW := Away.mk hW
  have B0 := Away.mk hb0
  have LP : Away (∀ v1 : World, Below W.heap.size W v1 → v1.heap[w.heap.size]? = some (.cells P 23 (0, 0))) := ⟨fun v1 h1 => (h1.block _ (lt_of_row rp)).trans rp⟩
  have LA : Away (∀ v1 : World, Below W.heap.size W v1 → v1.heap[w.heap.size + 1]? = some (.cells A 26 (0, 0))) := ⟨fun v1 h1 => (h1.block _ (lt_of_row ra)).trans ra⟩
  have E0 : Away (Below W.heap.size W W) := ⟨Below.refl _ _⟩
  clear hW rp ra hs0 hb0
  go_enter Try.func3, Try.ntmps3
  go_wp2_with (first
    | (rw [HW.out])
    | (refine wpList_load_row rfl 23 _ rfl w.heap.size rfl 23 P (0, 0) _ (LP.out _ E0.out) Try.underlying23 rfl Pi.out ?_))
  refine (HL1.out _).mono ?_
  rintro e w1 ⟨rfl, hb⟩
  have E1 : Away (Below W.heap.size W w1) := ⟨E0.out.trans (hb.mono E0.out.size)⟩
  clear hb
  go_wp2_with (first
    | (refine wpList_load_row rfl 23 _ rfl w.heap.size rfl 23 P (0, 0) _ (LP.out _ E1.out) Try.underlying23 rfl Pi.out ?_))
  refine (HL2.out _).mono ?_
  rintro e w2 ⟨rfl, hb⟩
  have E2 : Away (Below W.heap.size W w2) := ⟨E1.out.trans (hb.mono E1.out.size)⟩
  have c1 : w2.cell? ⟨w.heap.size, 1, none⟩ = some (.int .i64 n) := cell_at (LP.out _ E2.out) P1.out
  clear hb
  go_wp2_with fail
  refine (HS1.out _).mono ?_
  rintro e w3 ⟨rfl, hb⟩
  have hE3 : Below W.heap.size W w3 := E2.out.trans (hb.mono E2.out.size)
  obtain ⟨W3, hW3⟩ : ∃ y, w3.alloc (.cells V 23) = y := ⟨_, rfl⟩
  obtain ⟨r3, -, b3⟩ := one hW3
  have HW3 := Away.mk hW3
  have E3 : Away (Below W.heap.size W W3) := ⟨hE3.trans (b3.mono hE3.size)⟩
  have LC : Away (∀ v1 : World, Below W3.heap.size W3 v1 → v1.heap[w3.heap.size]? = some (.cells V 23 (0, 0))) := ⟨fun v1 h1 => (h1.block _ (lt_of_row r3)).trans r3⟩
  have c2 : W3.cell? ⟨w.heap.size, 1, none⟩ = some (.int .i64 n) := cell_at (LP.out _ E3.out) P1.out
  clear hb hE3 hW3 r3 b3 c1
  go_wp2_with (first
    | (refine wpList_store_new rfl 23 _ _ rfl _ rfl rfl Vi.out ZV.out Vo.out rfl ?_)
    | (rw [HW3.out]))
  refine (HS2.out _).mono ?_
  rintro e w4 ⟨rfl, hb⟩
  have hE4 : Below W3.heap.size W3 w4 := hb
  obtain ⟨W4, hW4⟩ : ∃ y, w4.alloc (.cells V 23) = y := ⟨_, rfl⟩
  obtain ⟨r4, -, b4⟩ := one hW4
  have HW4 := Away.mk hW4
  have F4 : Away (Below W3.heap.size W3 W4) := ⟨hE4.trans (b4.mono hE4.size)⟩
  have E4 : Away (Below W.heap.size W W4) := ⟨E3.out.trans (F4.out.mono E3.out.size)⟩
  have LD : Away (∀ v1 : World, Below W4.heap.size W4 v1 → v1.heap[w4.heap.size]? = some (.cells V 23 (0, 0))) := ⟨fun v1 h1 => (h1.block _ (lt_of_row r4)).trans r4⟩
  have MC : Away (∀ v1 : World, Below W4.heap.size W4 v1 → v1.heap[w3.heap.size]? = some (.cells V 23 (0, 0))) := ⟨fun v1 h1 => LC.out _ (F4.out.trans (h1.mono F4.out.size))⟩
  have MP : Away (∀ v1 : World, Below W4.heap.size W4 v1 → v1.heap[w.heap.size]? = some (.cells P 23 (0, 0))) := ⟨fun v1 h1 => LP.out _ (E4.out.trans (h1.mono E4.out.size))⟩
  have MA : Away (∀ v1 : World, Below W4.heap.size W4 v1 → v1.heap[w.heap.size + 1]? = some (.cells A 26 (0, 0))) := ⟨fun v1 h1 => LA.out _ (E4.out.trans (h1.mono E4.out.size))⟩
  have MK : Away (∀ v1 : World, Below W4.heap.size W4 v1 → v1.cell? ⟨w.heap.size + 1, 2, none⟩ = some (.int .i64 k)) := ⟨fun v1 h1 => cell_at (MA.out _ h1) A2.out⟩
  have c3 : W4.cell? ⟨w.heap.size + 1, 4, none⟩ = some (.int .u64 (h : Int)) := cell_at (LA.out _ E4.out) A4.out
  clear hb hE4 hW4 r4 b4 c2
  go_wp2_with (first
    | (refine wpList_store_new rfl 23 _ _ rfl _ rfl rfl Vi.out ZV.out Vo.out rfl ?_)
    | (rw [HW4.out]))
  clear c3 hz
  refine hk_begin (W4.heap.size) 61 [0, 1, 2, 3, 4, 5, 6, 7, 8, 9, 10, 11, 12, 13, 14, 15, 16, 17, 18, 19, 20, 21, 22, 23, 24, 26, 25, 27, 28, 29, 30, 31, 33, 32, 34, 35, 36, 37, 38, 40, 39, 41, 42, 43, 44, 45, 46, 47, 48, 50, 51, 52, 53, 49, 54, 55, 56, 57, 58, 59, 60] (by kernel_rfl) rfl rfl (by decide) (fun hS ops HO => ?_)
  simp only [List.filterMap_cons, fa, List.getElem?_cons_succ, List.getElem?_cons_zero]
  (refine hk_t (v := ?_) (by rw [← HO.out]; kernel_rfl) (fun _ _ _ h => h) ?_ hS ?_; rotate_left; focus (intro w9 h9; go_simp; first | done | with_reducible rfl); all_goals skip)
  simp only [Act.put, pa, pb, pc]
  (refine hk_t (v := ?_) (by rw [← HO.out]; kernel_rfl) (fun _ _ _ h => h) ?_ hS ?_; rotate_left; focus (intro w9 h9; go_simp; first | done | with_reducible rfl); all_goals skip)
  simp only [Act.put, pa, pb, pc]
  (refine hk_t (v := ?_) (by rw [← HO.out]; kernel_rfl) (fun _ _ _ h => h) ?_ hS ?_; rotate_left; focus (intro w9 h9; go_simp; first | done | with_reducible rfl); all_goals skip)
  simp only [Act.put, pa, pb, pc]
  (refine hk_t (v := ?_) (by rw [← HO.out]; kernel_rfl) (fun _ _ _ h => h) ?_ hS ?_; rotate_left; focus (intro w9 h9; go_simp; first | done | with_reducible rfl); all_goals skip)
  simp only [Act.put, pa, pb, pc]
  (refine hk_t (v := ?_) (by rw [← HO.out]; kernel_rfl) (fun _ _ _ h => h) ?_ hS ?_; rotate_left; focus (intro w9 h9; go_simp; first | done | with_reducible rfl); all_goals skip)
  simp only [Act.put, pa, pb, pc]
  (refine hk_t (v := ?_) (by rw [← HO.out]; kernel_rfl) (fun _ _ _ h => h) ?_ hS ?_; rotate_left; focus (intro w9 h9; go_simp; first | done | with_reducible rfl); all_goals skip)
  simp only [Act.put, pa, pb, pc]
  (refine hk_t (v := ?_) (by rw [← HO.out]; kernel_rfl) (fun _ _ _ h => h) ?_ hS ?_; rotate_left; focus (intro w9 h9; go_simp; first | done | with_reducible rfl); all_goals skip)
  simp only [Act.put, pa, pb, pc]
  (refine hk_t (v := ?_) (by rw [← HO.out]; kernel_rfl) (fun _ _ _ h => h) ?_ hS ?_; rotate_left; focus (intro w9 h9; go_simp; first | done | with_reducible rfl); all_goals skip)
  simp only [Act.put, pa, pb, pc]
  (refine hk_t (v := ?_) (by rw [← HO.out]; kernel_rfl) (fun _ _ _ h => h) ?_ hS ?_; rotate_left; focus (intro w9 h9; go_simp; first | done | with_reducible rfl); all_goals skip)
  simp only [Act.put, pa, pb, pc]
  (refine hk_t (v := ?_) (by rw [← HO.out]; kernel_rfl) (fun _ _ _ h => h) ?_ hS ?_; rotate_left; focus (intro w9 h9; go_simp; first | done | with_reducible rfl); all_goals skip)
  simp only [Act.put, pa, pb, pc]
  (refine hk_t (v := ?_) (by rw [← HO.out]; kernel_rfl) (fun _ _ _ h => h) ?_ hS ?_; rotate_left; focus (intro w9 h9; go_simp; first | done | with_reducible rfl); all_goals skip)
  simp only [Act.put, pa, pb, pc]
  (refine hk_t (v := ?_) (by rw [← HO.out]; kernel_rfl) (fun _ _ _ h => h) ?_ hS ?_; rotate_left; focus (intro w9 h9; go_simp; first | done | with_reducible rfl); all_goals skip)
  simp only [Act.put, pa, pb, pc]
  (refine hk_t (v := ?_) (by rw [← HO.out]; kernel_rfl) (fun _ _ _ h => h) ?_ hS ?_; rotate_left; focus (intro w9 h9; go_simp; first | done | with_reducible rfl); all_goals skip)
  simp only [Act.put, pa, pb, pc]
  (refine hk_t (v := ?_) (by rw [← HO.out]; kernel_rfl) (fun _ _ _ h => h) ?_ hS ?_; rotate_left; focus (intro w9 h9; go_simp; first | done | with_reducible rfl); all_goals skip)
  simp only [Act.put, pa, pb, pc]
  refine hk_l (by rw [← HO.out]; kernel_rfl) (fun _ _ _ _ h => h) 23 _ rfl w3.heap.size rfl 23 V _ MC.out Try.underlying23 rfl Vi.out hS ?_
  simp only [Act.put, pa, pb, pc]
  refine hk_l (by rw [← HO.out]; kernel_rfl) (fun _ _ _ _ h => h) 23 _ rfl w4.heap.size rfl 23 V _ LD.out Try.underlying23 rfl Vi.out hS ?_
  simp only [Act.put, pa, pb, pc]
  refine hk_t (v := _) (by rw [← HO.out]; kernel_rfl) (fun _ _ _ h => h) (fun v9 _ => told_eqF v9 _ _ _ _ _ rfl rfl rfl Heq.out) hS ?_
  simp only [Act.put, pa, pb, pc]
  (refine hk_t (v := ?_) (by rw [← HO.out]; kernel_rfl) (fun _ _ _ h => h) ?_ hS ?_; rotate_left; focus (intro w9 h9; go_simp; first | done | with_reducible rfl); all_goals skip)
  simp only [Act.put, pa, pb, pc]
  (refine hk_t (v := ?_) (by rw [← HO.out]; kernel_rfl) (fun _ _ _ h => h) ?_ hS ?_; rotate_left; focus (intro w9 h9; go_simp; first | done | with_reducible rfl); all_goals skip)
  simp only [Act.put, pa, pb, pc]
  (refine hk_t (v := ?_) (by rw [← HO.out]; kernel_rfl) (fun _ _ _ h => h) ?_ hS ?_; rotate_left; focus (intro w9 h9; go_simp; first | done | with_reducible rfl); all_goals skip)
  simp only [Act.put, pa, pb, pc]
  (refine hk_t (v := ?_) (by rw [← HO.out]; kernel_rfl) (fun _ _ _ h => h) ?_ hS ?_; rotate_left; focus (intro w9 h9; go_simp; first | done | with_reducible rfl); all_goals skip)
  simp only [Act.put, pa, pb, pc]
  (refine hk_t (v := ?_) (by rw [← HO.out]; kernel_rfl) (fun _ _ _ h => h) ?_ hS ?_; rotate_left; focus (intro w9 h9; go_simp; first | done | with_reducible rfl); all_goals skip)
  simp only [Act.put, pa, pb, pc]
  (refine hk_t (v := ?_) (by rw [← HO.out]; kernel_rfl) (fun _ _ _ h => h) ?_ hS ?_; rotate_left; focus (intro w9 h9; go_simp; first | done | with_reducible rfl); all_goals skip)
  simp only [Act.put, pa, pb, pc]
  (refine hk_t (v := ?_) (by rw [← HO.out]; kernel_rfl) (fun _ _ _ h => h) ?_ hS ?_; rotate_left; focus (intro w9 h9; go_simp; first | done | with_reducible rfl); all_goals skip)
  simp only [Act.put, pa, pb, pc]
  refine hk_l (by rw [← HO.out]; kernel_rfl) (fun _ _ _ _ h => h) 23 _ rfl w.heap.size rfl 23 P _ MP.out Try.underlying23 rfl Pi.out hS ?_
  simp only [Act.put, pa, pb, pc]
  refine hk_l (by rw [← HO.out]; kernel_rfl) (fun _ _ _ _ h => h) 23 _ rfl w.heap.size rfl 23 P _ MP.out Try.underlying23 rfl Pi.out hS ?_
  simp only [Act.put, pa, pb, pc]
  refine hk_s (by rw [← HO.out]; kernel_rfl) (fun K hK => ?_)
  go_simp
  refine (HR1.out _).mono ?_
  rintro x x1 ⟨rfl, hb1⟩
  have h1 := hS.trans (hb1.mono hS.size)
  refine hK _ _ h1 ?_
  clear hK K
  try simp only [Act.put, pa, pb, pc]
  refine hk_s (by rw [← HO.out]; kernel_rfl) (fun K hK => ?_)
  go_simp
  refine (HR2.out _).mono ?_
  rintro x x2 ⟨rfl, hb2⟩
  have h2 := h1.trans (hb2.mono h1.size)
  refine hK _ _ h2 ?_
  clear hK K
  try simp only [Act.put, pa, pb, pc]
  (refine hk_t (v := ?_) (by rw [← HO.out]; kernel_rfl) (fun _ _ _ h => h) ?_ h2 ?_; rotate_left; focus (intro w9 h9; go_simp; first | done | with_reducible rfl); all_goals skip)
  simp only [Act.put, pa, pb, pc]
  (refine hk_t (v := ?_) (by rw [← HO.out]; kernel_rfl) (fun _ _ _ h => h) ?_ h2 ?_; rotate_left; focus (intro w9 h9; go_simp; first | done | with_reducible rfl); all_goals skip)
  simp only [Act.put, pa, pb, pc]
  (refine hk_t (v := ?_) (by rw [← HO.out]; kernel_rfl) (fun _ _ _ h => h) ?_ h2 ?_; rotate_left; focus (intro w9 h9; go_simp; first | done | with_reducible rfl); all_goals skip)
  simp only [Act.put, pa, pb, pc]
  refine hk_l (by rw [← HO.out]; kernel_rfl) (fun _ _ _ _ h => h) 26 _ rfl (w.heap.size + 1) rfl 26 A _ MA.out Try.underlying26 rfl Ai.out h2 ?_
  simp only [Act.put, pa, pb, pc]
  refine hk_l (by rw [← HO.out]; kernel_rfl) (fun _ _ _ _ h => h) 26 _ rfl (w.heap.size + 1) rfl 26 A _ MA.out Try.underlying26 rfl Ai.out h2 ?_
  simp only [Act.put, pa, pb, pc]
  refine hk_s (by rw [← HO.out]; kernel_rfl) (fun K hK => ?_)
  go_simp
  refine (HB1.out _).mono ?_
  rintro x x3 ⟨rfl, hb3⟩
  have h3 := h2.trans (hb3.mono h2.size)
  refine hK _ _ h3 ?_
  clear hK K
  try simp only [Act.put, pa, pb, pc]
  refine hk_s (by rw [← HO.out]; kernel_rfl) (fun K hK => ?_)
  go_simp
  refine (HB2.out _).mono ?_
  rintro x x4 ⟨rfl, hb4⟩
  have h4 := h3.trans (hb4.mono h3.size)
  refine hK _ _ h4 ?_
  clear hK K
  try simp only [Act.put, pa, pb, pc]
  (refine hk_t (v := ?_) (by rw [← HO.out]; kernel_rfl) (fun _ _ _ h => h) ?_ h4 ?_; rotate_left; focus (intro w9 h9; go_simp; first | done | with_reducible rfl); all_goals skip)
  simp only [Act.put, pa, pb, pc]
  (refine hk_t (v := ?_) (by rw [← HO.out]; kernel_rfl) (fun _ _ _ h => h) ?_ h4 ?_; rotate_left; focus (intro w9 h9; go_simp; first | done | with_reducible rfl); all_goals skip)
  simp only [Act.put, pa, pb, pc]
  (refine hk_t (v := ?_) (by rw [← HO.out]; kernel_rfl) (fun _ _ _ h => h) ?_ h4 ?_; rotate_left; focus (intro w9 h9; go_simp; first | done | with_reducible rfl); all_goals skip)
  simp only [Act.put, pa, pb, pc]
  refine hk_l (by rw [← HO.out]; kernel_rfl) (fun _ _ _ _ h => h) 26 _ rfl (w.heap.size + 1) rfl 26 A _ MA.out Try.underlying26 rfl Ai.out h4 ?_
  simp only [Act.put, pa, pb, pc]
  refine hk_l (by rw [← HO.out]; kernel_rfl) (fun _ _ _ _ h => h) 26 _ rfl (w.heap.size + 1) rfl 26 A _ MA.out Try.underlying26 rfl Ai.out h4 ?_
  simp only [Act.put, pa, pb, pc]
  refine hk_s (by rw [← HO.out]; kernel_rfl) (fun K hK => ?_)
  go_simp
  refine (HT1.out _).mono ?_
  rintro x x5 ⟨rfl, hb5⟩
  have h5 := h4.trans (hb5.mono h4.size)
  refine hK _ _ h5 ?_
  clear hK K
  try simp only [Act.put, pa, pb, pc]
  refine hk_s (by rw [← HO.out]; kernel_rfl) (fun K hK => ?_)
  go_simp
  refine (HT2.out _).mono ?_
  rintro x x6 ⟨rfl, hb6⟩
  have h6 := h5.trans (hb6.mono h5.size)
  refine hK _ _ h6 ?_
  clear hK K
  try simp only [Act.put, pa, pb, pc]
  (refine hk_t (v := ?_) (by rw [← HO.out]; kernel_rfl) (fun _ _ _ h => h) ?_ h6 ?_; rotate_left; focus (intro w9 h9; go_simp; first | done | with_reducible rfl); all_goals skip)
  simp only [Act.put, pa, pb, pc]
  (refine hk_t (v := ?_) (by rw [← HO.out]; kernel_rfl) (fun _ _ _ h => h) ?_ h6 ?_; rotate_left; focus (intro w9 h9; go_simp; first | done | with_reducible rfl); all_goals skip)
  simp only [Act.put, pa, pb, pc]
  (refine hk_t (v := ?_) (by rw [← HO.out]; kernel_rfl) (fun _ _ _ h => h) ?_ h6 ?_; rotate_left; focus (intro w9 h9; go_simp; first | done | with_reducible rfl); all_goals skip)
  simp only [Act.put, pa, pb, pc]
  (refine hk_t (v := ?_) (by rw [← HO.out]; kernel_rfl) (fun _ _ _ h => h) ?_ h6 ?_; rotate_left; focus (intro w9 h9; go_simp; first | done | with_reducible rfl); all_goals skip)
  simp only [Act.put, pa, pb, pc]
  (refine hk_t (v := ?_) (by rw [← HO.out]; kernel_rfl) (fun _ _ _ h => h) ?_ h6 ?_; rotate_left; focus (intro w9 h9; go_simp; first | done | with_reducible rfl); all_goals skip)
  simp only [Act.put, pa, pb, pc]
  (refine hk_t (v := ?_) (by rw [← HO.out]; kernel_rfl) (fun _ _ _ h => h) ?_ h6 ?_; rotate_left; focus (intro w9 h9; have hc := MK.out w9 h9; go_simp; first | done | with_reducible rfl); all_goals skip)
  simp only [Act.put, pa, pb, pc]
  (refine hk_t (v := ?_) (by rw [← HO.out]; kernel_rfl) (fun _ _ _ h => h) ?_ h6 ?_; rotate_left; focus (intro w9 h9; go_simp; first | done | with_reducible rfl); all_goals skip)
  simp only [Act.put, pa, pb, pc]
  (refine hk_t (v := ?_) (by rw [← HO.out]; kernel_rfl) (fun _ _ _ h => h) ?_ h6 ?_; rotate_left; focus (intro w9 h9; go_simp; first | done | with_reducible rfl); all_goals skip)
  simp only [Act.put, pa, pb, pc]
  (refine hk_t (v := ?_) (by rw [← HO.out]; kernel_rfl) (fun _ _ _ h => h) ?_ h6 ?_; rotate_left; focus (intro w9 h9; go_simp; first | done | with_reducible rfl); all_goals skip)
  simp only [Act.put, pa, pb, pc]
  (refine hk_t (v := ?_) (by rw [← HO.out]; kernel_rfl) (fun _ _ _ h => h) ?_ h6 ?_; rotate_left; focus (intro w9 h9; have hc := MK.out w9 h9; go_simp; first | done | with_reducible rfl); all_goals skip)
  simp only [Act.put, pa, pb, pc]
  (refine hk_t (v := ?_) (by rw [← HO.out]; kernel_rfl) (fun _ _ _ h => h) ?_ h6 ?_; rotate_left; focus (intro w9 h9; go_simp; first | done | with_reducible rfl); all_goals skip)
  simp only [Act.put, pa, pb, pc]
  refine hk_s (by rw [← HO.out]; kernel_rfl) (fun K hK => ?_)
  go_simp
  refine (HD1.out _).mono ?_
  rintro x x7 ⟨v7, rfl, ro7, hb7⟩
  have h7 := h6.trans (hb7.mono h6.size)
  refine hK _ _ h7 ?_
  clear hK K
  try simp only [Act.put, pa, pb, pc]
  refine hk_s (by rw [← HO.out]; kernel_rfl) (fun K hK => ?_)
  go_simp
  refine (HD2.out _).mono ?_
  rintro x x8 ⟨v8, rfl, ro8, hb8⟩
  have h8 := h7.trans (hb8.mono h7.size)
  have ro9 := ro7.later hb8
  refine hK _ _ h8 ?_
  clear hK K
  try simp only [Act.put, pa, pb, pc]
  refine hk_s (by rw [← HO.out]; kernel_rfl) (fun K hK => ?_)
  go_simp
  refine (ints_any q _ _ Hq.out v7 v8 x _ ro9 ro8).mono ?_
  rintro x x9 ⟨rfl, hb9⟩
  have h9 := h8.trans (hb9.mono h8.size)
  refine hK _ _ h9 ?_
  clear hK K
  try simp only [Act.put, pa, pb, pc]
  (refine hk_t (v := ?_) (by rw [← HO.out]; kernel_rfl) (fun _ _ _ h => h) ?_ h9 ?_; rotate_left; focus (intro w9 h9; go_simp; first | done | with_reducible rfl); all_goals skip)
  simp only [Act.put, pa, pb, pc]
  (refine hk_t (v := ?_) (by rw [← HO.out]; kernel_rfl) (fun _ _ _ h => h) ?_ h9 ?_; rotate_left; focus (intro w9 h9; go_simp; first | done | with_reducible rfl); all_goals skip)
  simp only [Act.put, pa, pb, pc]
  refine hk_s (by rw [← HO.out]; kernel_rfl) (fun K hK => ?_)
  go_simp
  refine (HAw.out _).mono ?_
  rintro x x10 ⟨rfl, hb10⟩
  have h10 := h9.trans (hb10.mono h9.size)
  refine hK _ _ h10 ?_
  clear hK K
  try simp only [Act.put, pa, pb, pc]
  (refine hk_t (v := ?_) (by rw [← HO.out]; kernel_rfl) (fun _ _ _ h => h) ?_ h10 ?_; rotate_left; focus (intro w9 h9; go_simp; first | done | with_reducible rfl); all_goals skip)
  simp only [Act.put, pa, pb, pc]
  (refine hk_t (v := ?_) (by rw [← HO.out]; kernel_rfl) (fun _ _ _ h => h) ?_ h10 ?_; rotate_left; focus (intro w9 h9; go_simp; first | done | with_reducible rfl); all_goals skip)
  simp only [Act.put, pa, pb, pc]
  refine hk_nil (by rw [← HO.out]; kernel_rfl) ?_
  have B9 : Below w.heap.size w x10 := B0.out.trans ((E4.out.trans (h10.mono E4.out.size)).mono B0.out.size)
  go_wp2_with fail
  go_ret
  exact ⟨rfl, B9⟩
theorem lens (f n h d a k : Int) : ∃ X Y Z : Int, (∀ w1 : World, Calls Try.prog 8 #[.agg (fo f n h d a k)] w1 fun e w' => e = .returned (.tuple #[.int .i64 X, .int .i64 Y, .int .i64 Z]) ∧ Below w1.heap.size w1 w') ∧
    (∀ w1 : World, Calls Try.prog 9 #[.agg (fo f n h d a k)] w1 fun e w' => e = .returned (.tuple #[.int .i64 X, .int .i64 Y, .int .i64 Z]) ∧ Below w1.heap.size w1 w') := by
  by_cases h9 : okF f n h d a k
  · exact ⟨_, _, _, fun w1 => adl.lengths_ok f n h d a k w1 h9, fun w1 => ral.lengths_ok f n h d a k w1 h9⟩
  · exact ⟨_, _, _, fun w1 => adl.lengths_bad f n h d a k w1 h9, fun w1 => ral.lengths_bad f n h d a k w1 h9⟩
theorem digs (s : ByteArray) (k : Int) (m : Nat) (hm : m < 300) (hs : s.size ≤ maxLen) : ∃ (q : Nat) (x : Nat → Int), q ≤ 50000 ∧ (∀ w1 : World, Calls Try.prog 19 #[.string s, .int .i64 k, .int .i64 (m : Int)] w1 fun e w' => ∃ v, e = .returned v ∧ Ro w' w1.heap.size v q x ∧ Below w1.heap.size w1 w') ∧
    (∀ w1 : World, Calls Try.prog 20 #[.string s, .int .i64 k, .int .i64 (m : Int)] w1 fun e w' => ∃ v, e = .returned v ∧ Ro w' w1.heap.size v q x ∧ Below w1.heap.size w1 w') := by
  by_cases hk : 1 ≤ k ∧ k ≤ 24
  · obtain ⟨wd, rfl⟩ := Int.eq_ofNat_of_zero_le (show 0 ≤ k by omega)
    exact ⟨m, _, by omega, fun w1 => addg.digits_good s wd m w1 (by omega) (by omega) (by omega) hs, fun w1 => radd.digits_good s wd m w1 (by omega) (by omega) (by omega) hs⟩
  · refine ⟨0, fun _ => 0, by omega, fun w1 => (addg.digits_bad s k m w1 (Or.inl hk)).mono ?_, fun w1 => (radd.digits_bad s k m w1 (Or.inl hk)).mono ?_⟩
    · rintro e w2 ⟨rfl, hb⟩
      exact ⟨_, rfl, Or.inl ⟨rfl, rfl⟩, hb⟩
    · rintro e w2 ⟨rfl, hb⟩
      exact ⟨_, rfl, Or.inl ⟨rfl, rfl⟩, hb⟩
theorem walk (f n h d a k : Int) (l t u p g o : Int) (s : ByteArray) (w : World) (_w0 : (Lit.int .i64 f).wf = true) (_w1 : (Lit.int .i64 n).wf = true) (_w2 : (Lit.int .i64 h).wf = true) (_w3 : (Lit.int .i64 d).wf = true) (_w4 : (Lit.int .i64 a).wf = true) (_w5 : (Lit.int .i64 k).wf = true)
    (wl : (Lit.int .u64 l).wf = true) (wt : (Lit.int .u64 t).wf = true) (wu : (Lit.int .i64 u).wf = true) (wp : (Lit.int .u64 p).wf = true) (wg : (Lit.int .u64 g).wf = true) (wo : (Lit.int .u64 o).wf = true) (hs : s.size ≤ maxLen) :
    Calls Try.prog 3 #[.agg (fo f n h d a k), .agg (ad l t u p g o), .string s] w fun e w' => e = .returned (.bool true) ∧ Below w.heap.size w w' := by
  by_cases hsl : 500 < s.size
  · exact far _ _ s w hsl hs
  obtain ⟨hl0, hl1⟩ := opad.wf_u64 wl
  obtain ⟨ht0, ht1⟩ := opad.wf_u64 wt
  obtain ⟨hu0, hu1⟩ := opad.wf_i64 wu
  obtain ⟨hp0, hp1⟩ := opad.wf_u64 wp
  obtain ⟨hg0, hg1⟩ := opad.wf_u64 wg
  obtain ⟨ho0, ho1⟩ := opad.wf_u64 wo
  obtain ⟨l, rfl⟩ := Int.eq_ofNat_of_zero_le hl0
  obtain ⟨t, rfl⟩ := Int.eq_ofNat_of_zero_le ht0
  obtain ⟨p, rfl⟩ := Int.eq_ofNat_of_zero_le hp0
  obtain ⟨g, rfl⟩ := Int.eq_ofNat_of_zero_le hg0
  obtain ⟨o, rfl⟩ := Int.eq_ofNat_of_zero_le ho0
  obtain ⟨v, hv⟩ := Int.eq_ofNat_of_zero_le (a := IntKind.u64.wrap u) (by rw [IntKind.wrap_u64]; omega)
  have hv2 : v < 18446744073709551616 := by
    rw [IntKind.wrap_u64] at hv; omega
  have hk : u = IntKind.i64.wrap (v : Int) := by
    rw [← hv, IntKind.wrap_u64, IntKind.wrap_i64]; omega
  obtain ⟨X, Y, Z, L1, L2⟩ := lens f n h d a k
  obtain ⟨q, x, hq, D1, D2⟩ := digs s u (g % 300) (by omega) hs
  obtain ⟨a0, a1, a2, a3, a4, a5, ha⟩ := setA_fo n
  refine near _ _ (setA n) s _ _ X Y Z (setE n) n u (decide (okF f n h d a k)) g (g % 300) q x w (by omega) hq rfl (fo_size ..) (ad_size ..) (by rw [ha]; rfl) (by rw [ha]; exact fo_one ..) rfl rfl rfl (fun w1 => ?_) L1 L2 (fun w1 => adu.set_any n w1) (fun w1 => rau.set_any n w1)
    (fun w1 => adr.right_any f n h d a k w1) (fun w1 => rar.right_any f n h d a k w1)
    (fun w1 => bytes_any l t v p g o u w1 hk (by omega) (by omega) hv2 (by omega) (by omega) (by omega)) (fun w1 => rat.bytes_any l t v p g o u w1 hk (by omega) (by omega) hv2 (by omega) (by omega) (by omega))
    (fun w1 => short_any l t v p g o u w1 hk (by omega) (by omega) hv2 (by omega) (by omega) (by omega)) (fun w1 => rat.short_any l t v p g o u w1 hk (by omega) (by omega) hv2 (by omega) (by omega) (by omega)) D1 D2
  rw [ha, eq_fo]
  rw [decide_eq_true ⟨rfl, rfl, rfl, rfl, rfl, rfl⟩]
end Go.Proofs.Ythggakbomlgkhaa.l15s
