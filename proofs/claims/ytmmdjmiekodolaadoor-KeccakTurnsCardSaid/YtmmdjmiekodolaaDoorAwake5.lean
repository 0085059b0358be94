/-
  The law package's own look at keccak ('awake') returns true. Conditions: the package's variable 'places' holds what the program's text lays there.
-/
import Derived.Test.YtmmdjmiekodolaaDoorKFun
import Derived.Test.YtmmdjmiekodolaaDoorKc
import Derived.Test.YtmmdjmiekodolaaDoorTMc
namespace Go.Proofs.YtmmdjmiekodolaaDoor.awake5
open Go.RowKit
open Go.Proofs.YtmmdjmiekodolaaDoor.mem Go.Proofs.YtmmdjmiekodolaaDoor.arr Go.Proofs.YtmmdjmiekodolaaDoor.tabv Go.Proofs.YtmmdjmiekodolaaDoor.built Go.Proofs.YtmmdjmiekodolaaDoor.kecm Go.Proofs.YtmmdjmiekodolaaDoor.kecb Go.Proofs.YtmmdjmiekodolaaDoor.keca Go.Proofs.YtmmdjmiekodolaaDoor.kturn Go.Proofs.YtmmdjmiekodolaaDoor.kstep Go.Proofs.YtmmdjmiekodolaaDoor.kfun

theorem tl_lt : ∀ i, TL.getD i 0 < 64 := by
  intro i
  by_cases h : i < 25
  · have : ∀ i : Fin 25, TL.getD i.val 0 < 64 := by decide
    exact this ⟨i, h⟩
  · rw [List.getD_eq_getElem?_getD, List.getElem?_eq_none (by show 25 ≤ i; omega)]; decide
theorem rl_lt : ∀ i, RL.getD i 0 < 18446744073709551616 := by
  intro i
  by_cases h : i < 24
  · have : ∀ i : Fin 24, RL.getD i.val 0 < 18446744073709551616 := by decide
    exact this ⟨i, h⟩
  · rw [List.getD_eq_getElem?_getD, List.getElem?_eq_none (by show 24 ≤ i; omega)]; decide
theorem kt_doc : KT TA TL RL :=
  ⟨fun i hi => by rw [ta_get _ (by omega), tv_turns i hi, tl_is], fun i hi => by rw [ta_get _ (by omega), tv_rounds i hi, rl_is], fun i => Nat.lt_of_lt_of_le (tl_lt i) (by decide), rl_lt, ta_size, ta_one⟩
/-- what the look takes of the permutation of the zero state -/
theorem perm00 : ∃ p : List Nat, permL (fun i => TL.getD i 0) (fun i => RL.getD i 0) Z 24 = p ∧ p.length = 25 ∧ g p 0 = 17376452488221285863 ∧ g p 1 = 9571781953733019530 := ⟨_, perm0, rfl, rfl, rfl⟩
theorem bend5 : g (bendL [0, 0, 5, 0, 0, 0, 0, 0, 0, 0, 0, 0, 0, 0, 0, 0, 0, 0, 0, 0, 0, 0, 0, 0, 0]) 0 = 5 := by decide +kernel
theorem turn2 : g (turnL (fun i => TL.getD i 0) [0, 1, 0, 0, 0, 0, 0, 0, 0, 0, 0, 0, 0, 0, 0, 0, 0, 0, 0, 0, 0, 0, 0, 0, 0]) 10 = 2 := by decide +kernel
theorem z_st : St Z := ⟨rfl, fun i => by
  by_cases h : i < 25
  · have : ∀ i : Fin 25, g Z i.val < 18446744073709551616 := by decide
    exact this ⟨i, h⟩
  · unfold g; rw [List.getD_eq_getElem?_getD, List.getElem?_eq_none (by show 25 ≤ i; omega)]; decide⟩
theorem st_of {a : List Nat} (h : a.length = 25) (h2 : ∀ i : Fin 25, g a i.val < 18446744073709551616) : St a := ⟨h, fun i => by
  by_cases hi : i < 25
  · exact h2 ⟨i, hi⟩
  · unfold g; rw [List.getD_eq_getElem?_getD, List.getElem?_eq_none (by omega)]; decide⟩
theorem wpList_buildC {P : Program} {ops : Array Oper} {rest : List Oper} {o : Oper} {a : Act} {w : World} {Q : Exit → Act → World → Prop} (hg : o.guard = none) (t : TypeId) (parts : Array (Nat × Operand)) (ho : o.op = .build t parts)
    (C : Array Value) (hC : P.built t (parts.map fun (i, x) => (i, a.eval x)).toList = some C) (h : wpList P ops Q rest (a.put o.dst (.agg C)) w) : wpList P ops Q (o :: rest) a w :=
  wpList_build hg t _ ho (by rw [hC]; rfl) (by rw [hC]; exact h)

set_option maxRecDepth 100000 in
set_option maxHeartbeats 2000000 in
theorem awake_any (w : World) (hP : Gp w) :
    Calls Tryd.prog 18 #[] w fun e w' => e = .returned (.bool true) ∧ Below w.heap.size w w' := by
  have HP := Away.mk hP
  obtain ⟨hz, hsize⟩ := zero_of_info infoT
  obtain ⟨Zt, HZ⟩ := ex_eq TZ
  rw [HZ.out] at hz
  have HZs : Away (Zt.size = 465) := ⟨by rw [← HZ.out]; exact tz_size⟩
  have Hsize := Away.mk hsize
  clear hsize hP
  have hkt := kt_doc
  obtain ⟨T, HT⟩ := ex_eq TA
  rw [HT.out] at hkt
  have HTs : Away (T.size = 465) := ⟨by rw [← HT.out]; exact ta_size⟩
  have HTo : Away (T.all (·.oneCell') = true) := ⟨by rw [← HT.out]; exact ta_one⟩
  have HK := Away.mk hkt
  clear hkt
  obtain ⟨p, hp, hpl, hp0, hp1⟩ := perm00
  obtain ⟨q, hq⟩ : ∃ q, bendL [0, 0, 5, 0, 0, 0, 0, 0, 0, 0, 0, 0, 0, 0, 0, 0, 0, 0, 0, 0, 0, 0, 0, 0, 0] = q := ⟨_, rfl⟩
  obtain ⟨r, hr⟩ : ∃ q, turnL (fun i => TL.getD i 0) [0, 1, 0, 0, 0, 0, 0, 0, 0, 0, 0, 0, 0, 0, 0, 0, 0, 0, 0, 0, 0, 0, 0, 0, 0] = q := ⟨_, rfl⟩
  have hi5 : ∀ w : World, (Instr.index 23 (.agg (LK .u64 q)) (.int .i64 0)).run Tryd.prog w = .ok (.int .u64 5) w := fun w => by
    have h := index_row (P := Tryd.prog) Tryd.underlying23 (by kernel_rfl) (by kernel_rfl) (by kernel_rfl) (LK .u64 q) _ 0 (by decide) (lane_get (by rw [← hq]; exact mkS_len _) 0 (by decide)) w
    rw [show g q 0 = 5 by rw [← hq]; exact bend5] at h
    exact h
  have hi2 : ∀ w : World, (Instr.index 23 (.agg (LK .u64 r)) (.int .i64 10)).run Tryd.prog w = .ok (.int .u64 2) w := fun w => by
    have h := index_row (P := Tryd.prog) Tryd.underlying23 (by kernel_rfl) (by kernel_rfl) (by kernel_rfl) (LK .u64 r) _ 10 (by decide) (lane_get (by rw [← hr]; exact mkS_len _) 10 (by decide)) w
    rw [show g r 10 = 2 by rw [← hr]; exact turn2] at h
    exact h
  have H1 : Away (∀ w1 : World, Gp w1 → Calls Tryd.prog 16 #[.agg T, .agg #[.int .u64 0, .int .u64 0, .int .u64 0, .int .u64 0, .int .u64 0, .int .u64 0, .int .u64 0, .int .u64 0, .int .u64 0, .int .u64 0, .int .u64 0, .int .u64 0, .int .u64 0, .int .u64 0, .int .u64 0, .int .u64 0, .int .u64 0, .int .u64 0, .int .u64 0, .int .u64 0, .int .u64 0, .int .u64 0, .int .u64 0, .int .u64 0, .int .u64 0]] w1 fun e w' => e = .returned (.agg (LK .u64 p)) ∧ Below w1.heap.size w1 w') := ⟨fun w1 h => by rw [← hp]; exact perm_any Z w1 z_st HK.out h⟩
  have H2 : Away (∀ w1 : World, Calls Tryd.prog 12 #[.agg #[.int .u64 0, .int .u64 0, .int .u64 5, .int .u64 0, .int .u64 0, .int .u64 0, .int .u64 0, .int .u64 0, .int .u64 0, .int .u64 0, .int .u64 0, .int .u64 0, .int .u64 0, .int .u64 0, .int .u64 0, .int .u64 0, .int .u64 0, .int .u64 0, .int .u64 0, .int .u64 0, .int .u64 0, .int .u64 0, .int .u64 0, .int .u64 0, .int .u64 0]] w1 fun e w' => e = .returned (.agg (LK .u64 q)) ∧ Below w1.heap.size w1 w') := ⟨fun w1 => by rw [← hq]; exact bend_any [0, 0, 5, 0, 0, 0, 0, 0, 0, 0, 0, 0, 0, 0, 0, 0, 0, 0, 0, 0, 0, 0, 0, 0, 0] w1 (st_of rfl (by decide))⟩
  have H3 : Away (∀ w1 : World, Gp w1 → Calls Tryd.prog 10 #[.agg T, .agg #[.int .u64 0, .int .u64 1, .int .u64 0, .int .u64 0, .int .u64 0, .int .u64 0, .int .u64 0, .int .u64 0, .int .u64 0, .int .u64 0, .int .u64 0, .int .u64 0, .int .u64 0, .int .u64 0, .int .u64 0, .int .u64 0, .int .u64 0, .int .u64 0, .int .u64 0, .int .u64 0, .int .u64 0, .int .u64 0, .int .u64 0, .int .u64 0, .int .u64 0]] w1 fun e w' => e = .returned (.agg (LK .u64 r)) ∧ Below w1.heap.size w1 w') := ⟨fun w1 h => by rw [← hr]; exact turn_any [0, 1, 0, 0, 0, 0, 0, 0, 0, 0, 0, 0, 0, 0, 0, 0, 0, 0, 0, 0, 0, 0, 0, 0, 0] w1 (st_of rfl (by decide)) HK.out h⟩
  have Hmk : Away (∀ w1 : World, Calls Tryd.prog 19 #[] w1 fun e w' => e = .returned (.agg T) ∧ Below w1.heap.size w1 w') := ⟨fun w1 => by rw [← HT.out]; exact make.make_any w1⟩
  have Hp := Away.mk hp
  have Hpl := Away.mk hpl
  have HTz : Away ((Tryd.prog.info? 33).map (·.size) = some T.size) := ⟨by rw [HTs.out]; exact Hsize.out⟩
  clear hp hpl HT HZ hq hr
  have Hp0 := Away.mk hp0
  have Hp1 := Away.mk hp1
  clear hp0 hp1
  have Hi5 := Away.mk hi5
  have Hi2 := Away.mk hi2
  clear hi5 hi2
  go_enter Tryd.func18, Tryd.ntmps18
  go_wp2_with fail
  refine (Hmk.out _).mono ?_
  rintro e w1 ⟨rfl, hb1⟩
  go_wp2_with (refine wpList_store_new rfl 33 _ _ rfl _ rfl rfl (by rw [HTs.out]; exact Hsize.out) (by rw [HTs.out]; exact HZs.out) HTo.out rfl ?_)
  clear hz
  obtain ⟨W, hW⟩ : ∃ W, w1.alloc (.cells T 33) = W := ⟨_, rfl⟩
  have Hg : Away (W.heap[w1.heap.size]? = some (.cells T 33 (0, 0))) := ⟨by rw [← hW, heap_at _ _ _ rfl]⟩
  have Hb : Away (Below w.heap.size w W) := ⟨by rw [← hW]; exact hb1.alloc hb1.size _⟩
  have P1 : Away (Gp W) := ⟨HP.out.later Hb.out⟩
  rw [hW]
  clear hW hb1
  refine wp_load_row 33 _ rfl w1.heap.size rfl 33 T (0, 0) _ Hg.out Tryd.underlying33 rfl HTz.out ?_
  go_wp2_with ((with_reducible refine wpList_buildC rfl _ _ rfl #[.int .u64 0, .int .u64 0, .int .u64 0, .int .u64 0, .int .u64 0, .int .u64 0, .int .u64 0, .int .u64 0, .int .u64 0, .int .u64 0, .int .u64 0, .int .u64 0, .int .u64 0, .int .u64 0, .int .u64 0, .int .u64 0, .int .u64 0, .int .u64 0, .int .u64 0, .int .u64 0, .int .u64 0, .int .u64 0, .int .u64 0, .int .u64 0, .int .u64 0] ?hC ?_); (case hC => kernel_rfl))
  refine (H1.out _ P1.out).mono ?_
  rintro e w2 ⟨rfl, hb2⟩
  have c0 : (w2.alloc (.cells (LK .u64 p) 23)).cell? ⟨w2.heap.size, 0, none⟩ = some (.int .u64 17376452488221285863) := by
    have h := cell_at (heap_at w2 (.cells (LK .u64 p) 23) _ rfl) (lane_get Hpl.out 0 (by decide))
    rw [Hp0.out] at h; exact h
  have c1 : (w2.alloc (.cells (LK .u64 p) 23)).cell? ⟨w2.heap.size, 1, none⟩ = some (.int .u64 9571781953733019530) := by
    have h := cell_at (heap_at w2 (.cells (LK .u64 p) 23) _ rfl) (lane_get Hpl.out 1 (by decide))
    rw [Hp1.out] at h; exact h
  go_wp2_with (refine wpList_store_new rfl 23 _ _ rfl (LK .u64 p) rfl rfl (size25 Hpl.out) (by rw [lk_size, Hpl.out]; rfl) (lk_one _ _) rfl ?_)
  refine (H2.out _).mono ?_
  rintro e w3 ⟨rfl, hb3⟩
  have Hb2 := Away.mk hb2
  have Hb3 := Away.mk hb3
  have hi5 := Hi5.out
  have hi2 := Hi2.out
  have S2 : Away (w1.heap.size < W.heap.size ∧ W.heap.size ≤ w2.heap.size) := ⟨lt_of_row Hg.out, hb2.size⟩
  have Hb23 : Away (Below W.heap.size W w3) := ⟨(hb2.alloc hb2.size _).trans (hb3.mono (by rw [size_alloc]; have := hb2.size; omega))⟩
  have G3 : Away (w3.heap[w1.heap.size]? = some (.cells T 33 (0, 0))) := ⟨(Hb23.out.block _ S2.out.1).trans Hg.out⟩
  have P3 : Away (Gp w3) := ⟨P1.out.later Hb23.out⟩
  clear c0 c1 hb2 hb3
  go_wp2_with fail
  refine wp_load_row 33 _ rfl w1.heap.size rfl 33 T (0, 0) _ G3.out Tryd.underlying33 rfl HTz.out ?_
  go_wp2_with fail
  refine (H3.out _ P3.out).mono ?_
  rintro e w4 ⟨rfl, hb4⟩
  have Hb4 : Away (Below w.heap.size w w4) := ⟨Hb.out.trans ((Hb23.out.trans (hb4.mono Hb23.out.size)).mono Hb.out.size)⟩
  clear hb4
  go_wp2_with fail
  go_ret
  exact ⟨rfl, Hb4.out⟩
end Go.Proofs.YtmmdjmiekodolaaDoor.awake5
