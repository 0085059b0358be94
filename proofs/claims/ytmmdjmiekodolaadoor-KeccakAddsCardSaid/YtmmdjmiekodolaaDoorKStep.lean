/-
  What keccak's own step does: the state behind the second pointer goes through one round, by the tables behind the first; all other memory that was there stays as it was. Conditions: the state has 25 words of 64 bits, it lies in a block of its own, and the package's variable 'places' holds what the program's text lays there.
-/
import Derived.Test.YtmmdjmiekodolaaDoorKMix
import Derived.Test.YtmmdjmiekodolaaDoorKTurn
import Derived.Test.YtmmdjmiekodolaaDoorKBend
namespace Go.Proofs.YtmmdjmiekodolaaDoor.kstep
open Go.RowKit
open Go.Proofs.YtmmdjmiekodolaaDoor.arr Go.Proofs.YtmmdjmiekodolaaDoor.mem Go.Proofs.YtmmdjmiekodolaaDoor.kecm Go.Proofs.YtmmdjmiekodolaaDoor.kecb Go.Proofs.YtmmdjmiekodolaaDoor.kturn

/-- what tables hold for the permutation -/
structure KT (T : Array Value) (ts rs : List Nat) : Prop where
  t : ∀ i, i < 25 → T[184 + i]? = some (.int .i64 ((ts.getD i 0 : Nat) : Int))
  r : ∀ i, i < 24 → T[160 + i]? = some (.int .u64 ((rs.getD i 0 : Nat) : Int))
  bt : ∀ i, ts.getD i 0 < 9223372036854775808
  br : ∀ i, rs.getD i 0 < 18446744073709551616
  size : T.size = 465
  one : T.all (·.oneCell') = true
def Z : List Nat := List.replicate 25 0
theorem z_len : Z.length = 25 := rfl
theorem z_is : (#[.int .u64 0, .int .u64 0, .int .u64 0, .int .u64 0, .int .u64 0, .int .u64 0, .int .u64 0, .int .u64 0, .int .u64 0, .int .u64 0, .int .u64 0, .int .u64 0, .int .u64 0, .int .u64 0, .int .u64 0, .int .u64 0, .int .u64 0, .int .u64 0, .int .u64 0, .int .u64 0, .int .u64 0, .int .u64 0, .int .u64 0, .int .u64 0, .int .u64 0] : Array Value) = LK .u64 Z := rfl
theorem info25 : (Tryd.prog.info? 23).map (·.size) = some 25 := by kernel_rfl
theorem at_over {g gn : Nat} {C C' : Array Value} {t t' : TypeId} {a b c : World} (h : At g C t a b) (hn : a.heap.size ≤ gn) (hg : g ≠ gn) (k : At gn C' t' b c) : At g C t a c :=
  ⟨k.os.trans h.os, k.tape.trans h.tape, k.output.trans h.output, Nat.le_trans h.size k.size, (k.block g h.lt hg).trans h.row, fun i hi hig => (k.block i (Nat.lt_of_lt_of_le hi h.size) (by omega)).trans (h.block i hi hig)⟩
theorem iota_set {s : List Nat} (c v : Nat) (hs : s.length = 25) (hv : g s 0 ^^^ c = v) : (LK .u64 s).setIfInBounds 0 (.int .u64 (v : Int)) = LK .u64 (iota c s) := by
  subst hv
  rw [lk_set]
  congr 1
  refine st_ext (by rw [List.length_set, hs]) (mkS_len _) fun i hi => ?_
  rw [iota, mkS_g _ i hi]
  unfold g
  rw [List.getD_eq_getElem?_getD, List.getElem?_set]
  by_cases e : i = 0
  · subst e
    rw [if_pos rfl, if_pos (by omega), if_pos rfl]
    rfl
  · rw [if_neg (fun x => e x.symm), if_neg e, List.getD_eq_getElem?_getD]

set_option maxRecDepth 100000 in
set_option maxHeartbeats 2000000 in
theorem step_at (m : Nat) (hm : m < 24) (gT ga : Nat) (T : Array Value) (a ts rs : List Nat) (w : World) (h : St a) (hK : KT T ts rs) (hP : Gp w) (hT : w.heap[gT]? = some (.cells T 33 (0, 0)))
    (hA : w.heap[ga]? = some (.cells (LK .u64 a) 23 (0, 0))) (hne : ga ≠ gT) (hgp : ga ≠ 0) :
    Calls Tryd.prog 30 #[.pointer (some ⟨gT, 0, none⟩), .pointer (some ⟨ga, 0, none⟩), .int .i64 (m : Int)] w fun e w' => e = .returned (.tuple #[]) ∧ At ga (LK .u64 (roundL (fun i => ts.getD i 0) (rs.getD m 0) a)) 23 w w' := by
  unfold roundL
  have H := Away.mk h
  have HK := Away.mk hK
  have HP := Away.mk hP
  have HT := Away.mk hT
  have HA := Away.mk hA
  have Hne := Away.mk hne
  have Hgp := Away.mk hgp
  have HlT := Away.mk (lt_of_row hT)
  have HlA := Away.mk (lt_of_row hA)
  obtain ⟨z, HZ⟩ := ex_eq Z
  have HZl : Away (z.length = 25) := ⟨by rw [← HZ.out]; rfl⟩
  have hz : (#[.int .u64 0, .int .u64 0, .int .u64 0, .int .u64 0, .int .u64 0, .int .u64 0, .int .u64 0, .int .u64 0, .int .u64 0, .int .u64 0, .int .u64 0, .int .u64 0, .int .u64 0, .int .u64 0, .int .u64 0, .int .u64 0, .int .u64 0, .int .u64 0, .int .u64 0, .int .u64 0, .int .u64 0, .int .u64 0, .int .u64 0, .int .u64 0, .int .u64 0] : Array Value) = LK .u64 z := by rw [← HZ.out]; exact z_is
  have Hz := Away.mk hz
  clear h hK hP hT hA hne hgp hz HZ
  have hm0 : (0 : Int) ≤ (m : Int) := by omega
  have hm1 : (m : Int) < 24 := by omega
  have Hm := Away.mk hm
  clear hm
  have Hg : Away (∀ (s : List Nat) (w' : World), At ga (LK .u64 (iota (rs.getD m 0) s)) 23 w w' → bendL (turnL (fun i => ts.getD i 0) (mixL a)) = s → At ga (LK .u64 (iota (rs.getD m 0) (bendL (turnL (fun i => ts.getD i 0) (mixL a))))) 23 w w') := ⟨fun s w' h e => by rw [e]; exact h⟩
  go_enter Tryd.func30, Tryd.ntmps30
  go_wp2_with fail
  rw [Hz.out]
  obtain ⟨W0, hW0⟩ : ∃ x, w.alloc (.cells (LK .u64 z) 23) = x := ⟨_, rfl⟩
  have hz0 : W0.heap[w.heap.size]? = some (.cells (LK .u64 z) 23 (0, 0)) := by rw [← hW0]; exact heap_at _ _ _ rfl
  have A0 : At ga (LK .u64 a) 23 w W0 := (At.refl HA.out).later (by rw [← hW0]; exact below_alloc _ _)
  have hs0 : W0.heap.size = w.heap.size + 1 := by rw [← hW0, size_alloc]
  rw [hW0]
  clear hW0
  refine (kmix.mix_any ga a W0 H.out A0.row).mono ?_
  rintro e w1 ⟨rfl, h1⟩
  have hgl := HlA.out
  have hTl := HlT.out
  have A1 : Away (At ga (LK .u64 (mixL a)) 23 w w1) := ⟨A0.trans h1⟩
  have z1 : Away (w1.heap[w.heap.size]? = some (.cells (LK .u64 z) 23 (0, 0))) := ⟨h1.other (by omega) (by omega) hz0⟩
  have t1 : Away (w1.heap[gT]? = some (.cells T 33 (0, 0))) := ⟨A1.out.other hTl (Ne.symm Hne.out) HT.out⟩
  have s1 : Away (w.heap.size < w1.heap.size) := ⟨by have := h1.size; omega⟩
  clear hz0 A0 hs0 h1 hgl hTl
  go_wp2_with fail
  refine (kturn.turn_any w.heap.size ga gT 184 z (mixL a) ts w1 HZl.out (mixL_st H.out) HK.out.bt (Gp.at HP.out A1.out Hgp.out) z1.out A1.out.row (fun i hi => cell_at t1.out (HK.out.t i hi)) (by have := HlA.out; omega) (by have := HlT.out; omega) (by have := HlT.out; have := s1.out; omega)).mono ?_
  rintro e w2 ⟨rfl, h2⟩
  have A2 : Away (At ga (LK .u64 (mixL a)) 23 w w2) := ⟨at_over A1.out (Nat.le_refl _) (by have := HlA.out; omega) h2⟩
  have B2 := Away.mk h2.row
  clear h2 A1 z1 t1 s1
  go_wp2_with fail
  refine (kbend.bend_any ga w.heap.size (mixL a) (turnL (fun i => ts.getD i 0) (mixL a)) w2 (mixL_st H.out).len (turnL_st _ (mixL_st H.out)) A2.out.row B2.out (by have := HlA.out; omega)).mono ?_
  rintro e w3 ⟨rfl, h3⟩
  have A3 : Away (At ga (LK .u64 (bendL (turnL (fun i => ts.getD i 0) (mixL a)))) 23 w w3) := ⟨A2.out.trans h3⟩
  have Hst : Away (St (bendL (turnL (fun i => ts.getD i 0) (mixL a)))) := ⟨bendL_st (turnL_st _ (mixL_st H.out))⟩
  have T3 : Away (w3.heap[gT]? = some (.cells T 33 (0, 0))) := ⟨A3.out.other HlT.out (Ne.symm Hne.out) HT.out⟩
  obtain ⟨s, Hs⟩ := ex_eq (bendL (turnL (fun i => ts.getD i 0) (mixL a)))
  rw [Hs.out] at A3 Hst
  clear A2 B2 h3
  obtain ⟨x, hx⟩ : ∃ x, g s 0 = x := ⟨_, rfl⟩
  obtain ⟨c, hc⟩ : ∃ c, rs.getD m 0 = c := ⟨_, rfl⟩
  obtain ⟨v, hv⟩ : ∃ v, x ^^^ c = v := ⟨_, rfl⟩
  have bx : x < 18446744073709551616 := hx ▸ Hst.out.lt 0
  have bc : c < 18446744073709551616 := hc ▸ HK.out.br m
  have V := xor2 x c v bx bc hv
  have cx := lane_at Hst.out.len A3.out.row 0 x (by decide) hx
  have cr : w3.cell? ⟨gT, 160 + m, none⟩ = some (.int .u64 (c : Int)) := by rw [← hc]; exact cell_at T3.out (HK.out.r m Hm.out)
  have HS : Away ((LK .u64 s).setIfInBounds 0 (.int .u64 (v : Int)) = LK .u64 (iota c s)) := ⟨iota_set c v Hst.out.len (by rw [hx, hv])⟩
  have Hgoal : Away (∀ w' : World, At ga (LK .u64 (iota c s)) 23 w w' → At ga (LK .u64 (iota (rs.getD m 0) (bendL (turnL (fun i => ts.getD i 0) (mixL a))))) 23 w w') := ⟨fun w' h => Hg.out s w' (by rw [hc]; exact h) Hs.out⟩
  clear hx hc hv Hg
  go_wp2_with fail
  refine still_tail 13 (by kernel_rfl) (by kernel_rfl) ?_
  simp only [List.take_succ_cons, List.take_zero, List.drop_succ_cons, List.drop_zero]
  repeat still_step
  refine wpStill_nil ?_
  have A4 : Away (At ga (LK .u64 s) 23 w w3.drew) := ⟨at_drew A3.out⟩
  clear cx cr
  with_reducible refine wpList_put2 A4 rfl _ _ _ rfl rfl ?_
  refine ⟨_, _, _, rfl, rfl, rfl, by rw [lk25 _ Hst.out.len]; decide, ?_⟩
  intro w4 A5
  rw [HS.out] at A5
  go_wp2_with fail
  refine bodyPost_end (v := .tuple #[]) (results_none rfl _ _ _) rfl ?_
  exact ⟨rfl, Hgoal.out _ A5.out⟩

set_option maxRecDepth 100000 in
set_option maxHeartbeats 2000000 in
theorem step_neg (n : Int) (hn : n < 0) (gT ga : Nat) (T : Array Value) (a ts rs : List Nat) (w : World) (h : St a) (hK : KT T ts rs) (hP : Gp w) (hT : w.heap[gT]? = some (.cells T 33 (0, 0)))
    (hA : w.heap[ga]? = some (.cells (LK .u64 a) 23 (0, 0))) (hne : ga ≠ gT) (hgp : ga ≠ 0) :
    Calls Tryd.prog 30 #[.pointer (some ⟨gT, 0, none⟩), .pointer (some ⟨ga, 0, none⟩), .int .i64 n] w fun e w' => e = .returned (.tuple #[]) ∧ At ga (LK .u64 (roundL (fun i => ts.getD i 0) (0) a)) 23 w w' := by
  unfold roundL
  have H := Away.mk h
  have HK := Away.mk hK
  have HP := Away.mk hP
  have HT := Away.mk hT
  have HA := Away.mk hA
  have Hne := Away.mk hne
  have Hgp := Away.mk hgp
  have HlT := Away.mk (lt_of_row hT)
  have HlA := Away.mk (lt_of_row hA)
  obtain ⟨z, HZ⟩ := ex_eq Z
  have HZl : Away (z.length = 25) := ⟨by rw [← HZ.out]; rfl⟩
  have hz : (#[.int .u64 0, .int .u64 0, .int .u64 0, .int .u64 0, .int .u64 0, .int .u64 0, .int .u64 0, .int .u64 0, .int .u64 0, .int .u64 0, .int .u64 0, .int .u64 0, .int .u64 0, .int .u64 0, .int .u64 0, .int .u64 0, .int .u64 0, .int .u64 0, .int .u64 0, .int .u64 0, .int .u64 0, .int .u64 0, .int .u64 0, .int .u64 0, .int .u64 0] : Array Value) = LK .u64 z := by rw [← HZ.out]; exact z_is
  have Hz := Away.mk hz
  clear h hK hP hT hA hne hgp hz HZ
  go_enter Tryd.func30, Tryd.ntmps30
  go_wp2_with fail
  rw [Hz.out]
  obtain ⟨W0, hW0⟩ : ∃ x, w.alloc (.cells (LK .u64 z) 23) = x := ⟨_, rfl⟩
  have hz0 : W0.heap[w.heap.size]? = some (.cells (LK .u64 z) 23 (0, 0)) := by rw [← hW0]; exact heap_at _ _ _ rfl
  have A0 : At ga (LK .u64 a) 23 w W0 := (At.refl HA.out).later (by rw [← hW0]; exact below_alloc _ _)
  have hs0 : W0.heap.size = w.heap.size + 1 := by rw [← hW0, size_alloc]
  rw [hW0]
  clear hW0
  refine (kmix.mix_any ga a W0 H.out A0.row).mono ?_
  rintro e w1 ⟨rfl, h1⟩
  have hgl := HlA.out
  have hTl := HlT.out
  have A1 : Away (At ga (LK .u64 (mixL a)) 23 w w1) := ⟨A0.trans h1⟩
  have z1 : Away (w1.heap[w.heap.size]? = some (.cells (LK .u64 z) 23 (0, 0))) := ⟨h1.other (by omega) (by omega) hz0⟩
  have t1 : Away (w1.heap[gT]? = some (.cells T 33 (0, 0))) := ⟨A1.out.other hTl (Ne.symm Hne.out) HT.out⟩
  have s1 : Away (w.heap.size < w1.heap.size) := ⟨by have := h1.size; omega⟩
  clear hz0 A0 hs0 h1 hgl hTl
  go_wp2_with fail
  refine (kturn.turn_any w.heap.size ga gT 184 z (mixL a) ts w1 HZl.out (mixL_st H.out) HK.out.bt (Gp.at HP.out A1.out Hgp.out) z1.out A1.out.row (fun i hi => cell_at t1.out (HK.out.t i hi)) (by have := HlA.out; omega) (by have := HlT.out; omega) (by have := HlT.out; have := s1.out; omega)).mono ?_
  rintro e w2 ⟨rfl, h2⟩
  have A2 : Away (At ga (LK .u64 (mixL a)) 23 w w2) := ⟨at_over A1.out (Nat.le_refl _) (by have := HlA.out; omega) h2⟩
  have B2 := Away.mk h2.row
  clear h2 A1 z1 t1 s1
  go_wp2_with fail
  refine (kbend.bend_any ga w.heap.size (mixL a) (turnL (fun i => ts.getD i 0) (mixL a)) w2 (mixL_st H.out).len (turnL_st _ (mixL_st H.out)) A2.out.row B2.out (by have := HlA.out; omega)).mono ?_
  rintro e w3 ⟨rfl, h3⟩
  have A3 : Away (At ga (LK .u64 (bendL (turnL (fun i => ts.getD i 0) (mixL a)))) 23 w w3) := ⟨A2.out.trans h3⟩
  have Hst : Away (St (bendL (turnL (fun i => ts.getD i 0) (mixL a)))) := ⟨bendL_st (turnL_st _ (mixL_st H.out))⟩
  have T3 : Away (w3.heap[gT]? = some (.cells T 33 (0, 0))) := ⟨A3.out.other HlT.out (Ne.symm Hne.out) HT.out⟩
  obtain ⟨s, Hs⟩ := ex_eq (bendL (turnL (fun i => ts.getD i 0) (mixL a)))
  rw [Hs.out] at A3 Hst
  clear A2 B2 h3
  have Hgoal : Away (∀ w' : World, At ga (LK .u64 s) 23 w w' → At ga (LK .u64 (iota 0 (bendL (turnL (fun i => ts.getD i 0) (mixL a))))) 23 w w') := ⟨fun w' h => by rw [Hs.out, iota_zero Hst.out.len]; exact h⟩
  go_wp2_with fail
  refine bodyPost_end (v := .tuple #[]) (results_none rfl _ _ _) rfl ?_
  exact ⟨rfl, Hgoal.out _ A3.out⟩

set_option maxRecDepth 100000 in
set_option maxHeartbeats 2000000 in
theorem step_big (n : Int) (hn : 24 ≤ n) (gT ga : Nat) (T : Array Value) (a ts rs : List Nat) (w : World) (h : St a) (hK : KT T ts rs) (hP : Gp w) (hT : w.heap[gT]? = some (.cells T 33 (0, 0)))
    (hA : w.heap[ga]? = some (.cells (LK .u64 a) 23 (0, 0))) (hne : ga ≠ gT) (hgp : ga ≠ 0) :
    Calls Tryd.prog 30 #[.pointer (some ⟨gT, 0, none⟩), .pointer (some ⟨ga, 0, none⟩), .int .i64 n] w fun e w' => e = .returned (.tuple #[]) ∧ At ga (LK .u64 (roundL (fun i => ts.getD i 0) (0) a)) 23 w w' := by
  unfold roundL
  have H := Away.mk h
  have HK := Away.mk hK
  have HP := Away.mk hP
  have HT := Away.mk hT
  have HA := Away.mk hA
  have Hne := Away.mk hne
  have Hgp := Away.mk hgp
  have HlT := Away.mk (lt_of_row hT)
  have HlA := Away.mk (lt_of_row hA)
  obtain ⟨z, HZ⟩ := ex_eq Z
  have HZl : Away (z.length = 25) := ⟨by rw [← HZ.out]; rfl⟩
  have hz : (#[.int .u64 0, .int .u64 0, .int .u64 0, .int .u64 0, .int .u64 0, .int .u64 0, .int .u64 0, .int .u64 0, .int .u64 0, .int .u64 0, .int .u64 0, .int .u64 0, .int .u64 0, .int .u64 0, .int .u64 0, .int .u64 0, .int .u64 0, .int .u64 0, .int .u64 0, .int .u64 0, .int .u64 0, .int .u64 0, .int .u64 0, .int .u64 0, .int .u64 0] : Array Value) = LK .u64 z := by rw [← HZ.out]; exact z_is
  have Hz := Away.mk hz
  clear h hK hP hT hA hne hgp hz HZ
  go_enter Tryd.func30, Tryd.ntmps30
  go_wp2_with fail
  rw [Hz.out]
  obtain ⟨W0, hW0⟩ : ∃ x, w.alloc (.cells (LK .u64 z) 23) = x := ⟨_, rfl⟩
  have hz0 : W0.heap[w.heap.size]? = some (.cells (LK .u64 z) 23 (0, 0)) := by rw [← hW0]; exact heap_at _ _ _ rfl
  have A0 : At ga (LK .u64 a) 23 w W0 := (At.refl HA.out).later (by rw [← hW0]; exact below_alloc _ _)
  have hs0 : W0.heap.size = w.heap.size + 1 := by rw [← hW0, size_alloc]
  rw [hW0]
  clear hW0
  refine (kmix.mix_any ga a W0 H.out A0.row).mono ?_
  rintro e w1 ⟨rfl, h1⟩
  have hgl := HlA.out
  have hTl := HlT.out
  have A1 : Away (At ga (LK .u64 (mixL a)) 23 w w1) := ⟨A0.trans h1⟩
  have z1 : Away (w1.heap[w.heap.size]? = some (.cells (LK .u64 z) 23 (0, 0))) := ⟨h1.other (by omega) (by omega) hz0⟩
  have t1 : Away (w1.heap[gT]? = some (.cells T 33 (0, 0))) := ⟨A1.out.other hTl (Ne.symm Hne.out) HT.out⟩
  have s1 : Away (w.heap.size < w1.heap.size) := ⟨by have := h1.size; omega⟩
  clear hz0 A0 hs0 h1 hgl hTl
  go_wp2_with fail
  refine (kturn.turn_any w.heap.size ga gT 184 z (mixL a) ts w1 HZl.out (mixL_st H.out) HK.out.bt (Gp.at HP.out A1.out Hgp.out) z1.out A1.out.row (fun i hi => cell_at t1.out (HK.out.t i hi)) (by have := HlA.out; omega) (by have := HlT.out; omega) (by have := HlT.out; have := s1.out; omega)).mono ?_
  rintro e w2 ⟨rfl, h2⟩
  have A2 : Away (At ga (LK .u64 (mixL a)) 23 w w2) := ⟨at_over A1.out (Nat.le_refl _) (by have := HlA.out; omega) h2⟩
  have B2 := Away.mk h2.row
  clear h2 A1 z1 t1 s1
  go_wp2_with fail
  refine (kbend.bend_any ga w.heap.size (mixL a) (turnL (fun i => ts.getD i 0) (mixL a)) w2 (mixL_st H.out).len (turnL_st _ (mixL_st H.out)) A2.out.row B2.out (by have := HlA.out; omega)).mono ?_
  rintro e w3 ⟨rfl, h3⟩
  have A3 : Away (At ga (LK .u64 (bendL (turnL (fun i => ts.getD i 0) (mixL a)))) 23 w w3) := ⟨A2.out.trans h3⟩
  have Hst : Away (St (bendL (turnL (fun i => ts.getD i 0) (mixL a)))) := ⟨bendL_st (turnL_st _ (mixL_st H.out))⟩
  have T3 : Away (w3.heap[gT]? = some (.cells T 33 (0, 0))) := ⟨A3.out.other HlT.out (Ne.symm Hne.out) HT.out⟩
  obtain ⟨s, Hs⟩ := ex_eq (bendL (turnL (fun i => ts.getD i 0) (mixL a)))
  rw [Hs.out] at A3 Hst
  clear A2 B2 h3
  have Hgoal : Away (∀ w' : World, At ga (LK .u64 s) 23 w w' → At ga (LK .u64 (iota 0 (bendL (turnL (fun i => ts.getD i 0) (mixL a))))) 23 w w') := ⟨fun w' h => by rw [Hs.out, iota_zero Hst.out.len]; exact h⟩
  go_wp2_with fail
  refine bodyPost_end (v := .tuple #[]) (results_none rfl _ _ _) rfl ?_
  exact ⟨rfl, Hgoal.out _ A3.out⟩

/-- the constant of a round, 0 where there is none -/
def cst (rs : List Nat) (n : Int) : Nat := if 0 ≤ n ∧ n < 24 then rs.getD n.toNat 0 else 0
theorem step_any (n : Int) (gT ga : Nat) (T : Array Value) (a ts rs : List Nat) (w : World) (h : St a) (hK : KT T ts rs) (hP : Gp w) (hT : w.heap[gT]? = some (.cells T 33 (0, 0)))
    (hA : w.heap[ga]? = some (.cells (LK .u64 a) 23 (0, 0))) (hne : ga ≠ gT) (hgp : ga ≠ 0) :
    Calls Tryd.prog 30 #[.pointer (some ⟨gT, 0, none⟩), .pointer (some ⟨ga, 0, none⟩), .int .i64 n] w fun e w' => e = .returned (.tuple #[]) ∧ At ga (LK .u64 (roundL (fun i => ts.getD i 0) (cst rs n) a)) 23 w w' := by
  by_cases h0 : n < 0
  · rw [cst, if_neg (by omega)]
    exact step_neg n h0 gT ga T a ts rs w h hK hP hT hA hne hgp
  · by_cases h1 : 24 ≤ n
    · rw [cst, if_neg (by omega)]
      exact step_big n h1 gT ga T a ts rs w h hK hP hT hA hne hgp
    · obtain ⟨m, rfl⟩ := Int.eq_ofNat_of_zero_le (show 0 ≤ n by omega)
      rw [cst, if_pos (by omega), Int.toNat_natCast]
      exact step_at m (by omega) gT ga T a ts rs w h hK hP hT hA hne hgp
end Go.Proofs.YtmmdjmiekodolaaDoor.kstep
