/-
  MlkeyBack where the seed has 32 bytes and the string at most 5000: keys have the required lengths, and what is read is laid again. Conditions: keccak's variable 'places' holds what the program's text lays there; the parameters are valid, and what Set returns is handed in.
-/
import Derived.Test.YtlcafjdehcddcaaDoorKOut
import Derived.Test.YtlcafjdehcddcaaDoorFk
import Derived.Test.YtlcafjdehcddcaaDoorRSex
import Derived.OwnWalk
import Derived.WalkMore
import Derived.WideShapes
namespace Go.Proofs.YtlcafjdehcddcaaDoor.kba
set_option linter.unusedSimpArgs false
open Go Go.RowKit
open Go.Proofs.YtlcafjdehcddcaaDoor.arr Go.Proofs.YtlcafjdehcddcaaDoor.mem Go.Proofs.YtlcafjdehcddcaaDoor.stil Go.Proofs.YtlcafjdehcddcaaDoor.polys Go.Proofs.YtlcafjdehcddcaaDoor.polt Go.Proofs.YtlcafjdehcddcaaDoor.pols Go.Proofs.YtlcafjdehcddcaaDoor.helda Go.Proofs.YtlcafjdehcddcaaDoor.kturn Go.Proofs.YtlcafjdehcddcaaDoor.mlkm Go.Proofs.YtlcafjdehcddcaaDoor.rkpb Go.Proofs.YtlcafjdehcddcaaDoor.rsdoc Go.Proofs.YtlcafjdehcddcaaDoor.tabv Go.Proofs.YtlcafjdehcddcaaDoor.built Go.Proofs.YtlcafjdehcddcaaDoor.rset Go.Proofs.YtlcafjdehcddcaaDoor.kcon
open Go.Proofs.YtlcafjdehcddcaaDoor.rndm (latt set0)
def xs (x y : ByteArray) (i : Nat) : ByteArray := if i = 0 then x else y
theorem xs_at (x y : ByteArray) (i : Nat) (hi : i < 2) : (#[.string x, .string y] : Array Value)[i]? = some (.string (xs x y i)) := by
 rcases (show i = 0 ∨ i = 1 by omega) with rfl | rfl <;> rfl
set_option maxRecDepth 100000 in
set_option maxHeartbeats 8000000 in
theorem near (wh : Int) (j kn ln : Nat) (e t a b o s : Int) (sd y : ByteArray) (w : World) (hsd : sd.size = 32) (hy : y.size ≤ 5000) (hP : Gp w) (h : latt (kn : Int) (ln : Int) e t a b o s = true) (hj : (IntKind.u64.wrap wh).tmod 4 = (j : Int)) (hj4 : j < 4)
 (HSt : ∀ w1 : World, Calls Tryd.prog 6 #[.int .i64 ((j + 1 : Nat) : Int)] w1 fun e0 w' => e0 = .returned (.tuple #[.agg #[.int .i64 (kn : Int), .int .i64 (ln : Int), .int .i64 e, .int .i64 t, .int .i64 a, .int .i64 b, .int .i64 o, .int .i64 s], .int .i64 0]) ∧ Below w1.heap.size w1 w') :
 Calls Tryd.prog 3 #[.int .i64 wh, .string sd, .string y] w fun e w' => e = .returned (.bool true) ∧ Below w.heap.size w w' := by
 have HPr0 := fun w1 hg => pair kn ln e t a b o s sd h w1 hg hsd
 have HS0 : ∀ w1 : World, Calls Tryd.prog 7 #[.agg #[.int .i64 (kn : Int), .int .i64 (ln : Int), .int .i64 e, .int .i64 t, .int .i64 a, .int .i64 b, .int .i64 o, .int .i64 s]] w1 fun e0 w' => e0 = .returned (.tuple #[.int .i64 (sz1 kn), .int .i64 (sz2 kn ln e), .int .i64 (sz3 kn ln a o s)]) ∧ Below w1.heap.size w1 w' := fun w1 => by
  have h1 := ksz.sizes_any (kn : Int) (ln : Int) e t a b o s w1
  unfold rksz.szs at h1
  rw [if_pos h] at h1
  exact h1
 have hn1 : (((pPk ζd sd kn ln e).size : Int) != sz1 kn) = false := by
  rw [pPk_size, show (((32 + 320 * kn : Nat)) : Int) = sz1 kn by unfold sz1; omega]
  simp
 have hn2 : (((pSk ζd sd kn ln e).size : Int) != sz2 kn ln e) = false := by
  rw [(size_of kn ln e _).2 (sk_facts kn ln e t a b o s sd h).1]
  simp
 have HO0 := fun i => kout.outS kn ln e t a b o s h (xs (pSk ζd sd kn ln e) y i)
 have HQ0 := fun i => kout.outP kn ln e t a b o s h (xs (pPk ζd sd kn ln e) y i)
 have HO1 := fun i => (HO0 i).imp id fun q => And.intro (q.1 sd) q.2
 have HA := Away.mk (fun w1 hg => kaw.awake_any w1 hg)
 have HP := Away.mk hP
 obtain ⟨PK, hPK⟩ := ex_eq (pPk ζd sd kn ln e)
 obtain ⟨SK, hSK⟩ := ex_eq (pSk ζd sd kn ln e)
 obtain ⟨n1, en1⟩ : ∃ y, sz1 (kn : Int) = y := ⟨_, rfl⟩
 obtain ⟨n2, en2⟩ : ∃ y, sz2 (kn : Int) (ln : Int) e = y := ⟨_, rfl⟩
 obtain ⟨n3, en3⟩ : ∃ y, sz3 (kn : Int) (ln : Int) a o s = y := ⟨_, rfl⟩
 simp only [en1, en2, en3] at HS0 hn1 hn2
 simp only [hPK.out, hSK.out] at HPr0 hn1 hn2 HO1 HQ0
 clear HO0
 obtain ⟨hzl, hsizel⟩ := zero_of_info rset.infoL
 obtain ⟨Zl, HZl⟩ := ex_eq set0
 rw [HZl.out] at hzl
 have HZls : Away (Zl.size = 8) := ⟨by rw [← HZl.out]; rfl⟩
 obtain ⟨T, HT⟩ := ex_eq TA
 simp only [HT.out] at HPr0
 have Hmk : Away (∀ w1 : World, Calls Tryd.prog 9 #[] w1 fun e w' => e = .returned (.agg T) ∧ Below w1.heap.size w1 w') := ⟨fun w1 => by rw [← HT.out]; exact make.make_any w1⟩
 obtain ⟨C, HC⟩ := ex_eq (#[.int .i64 (kn : Int), .int .i64 (ln : Int), .int .i64 e, .int .i64 t, .int .i64 a, .int .i64 b, .int .i64 o, .int .i64 s] : Array Value)
 simp only [HC.out] at HPr0 HS0 HSt HO1 HQ0
 have HCs : Away (C.size = 8) := ⟨by rw [← HC.out]; rfl⟩
 have HCo : Away (C.all (·.oneCell') = true) := ⟨by rw [← HC.out]; simp [Value.oneCell']⟩
 have HCz : Away ((Tryd.prog.info? 24).map (·.size) = some C.size) := ⟨by rw [HCs.out]; exact hsizel⟩
 have HSet := Away.mk HSt
 have HPr := Away.mk HPr0
 have HS := Away.mk HS0
 have HO := Away.mk HO1
 have HQ := Away.mk HQ0
 have f1 : IntKind.i64.wrap (j : Int) = (j : Int) := by rw [IntKind.wrap_i64]; omega
 have f2 : IntKind.i64.wrap (1 + (j : Int)) = ((j + 1 : Nat) : Int) := by rw [IntKind.wrap_i64]; omega
 have hsz : (sd.size : Int) = 32 := by omega
 have hyz : ¬ (5000 : Int) < (y.size : Int) := by omega
 clear HPr0 HS0 HO1 HQ0 HSt h hPK hSK en1 en2 en3 HT HC hsizel HZl hP hsd hy
 go_enter Tryd.func3, Tryd.ntmps3
 go_wp2_with fail
 refine (HSet.out _).mono ?_
 rintro x w1 ⟨rfl, hb1⟩
 obtain ⟨W1, hW1⟩ : ∃ x, w1.alloc (.cells C 24) = x := ⟨_, rfl⟩
 obtain ⟨r1, hs1, b1⟩ := polt.one hW1
 have HW1 := Away.mk hW1
 have E1 : Away (Below w.heap.size w W1) := ⟨hb1.trans (b1.mono hb1.size)⟩
 have CB : Away (∀ w' : World, Below W1.heap.size W1 w' → w'.heap[w1.heap.size]? = some (.cells C 24 (0, 0))) := ⟨fun w' hb => (hb.block _ (lt_of_row r1)).trans r1⟩
 have GP : Away (∀ w' : World, Below W1.heap.size W1 w' → Gp w') := ⟨fun w' hb => HP.out.later (E1.out.trans (hb.mono E1.out.size))⟩
 clear hb1 hW1 r1 hs1 b1
 go_wp2_with (first
  | (refine wpList_store_new rfl 24 _ _ rfl _ rfl rfl HCz.out (by rw [HCs.out]; exact HZls.out) HCo.out rfl ?_)
  | (rw [HW1.out])
  | (refine wpList_load_row rfl 24 _ rfl w1.heap.size rfl 24 C (0, 0) _ (CB.out _ (Below.refl _ _)) Tryd.underlying24 rfl HCz.out ?_))
 refine (HS.out _).mono ?_
 rintro x w2 ⟨rfl, hb2⟩
 have F2 : Away (Below W1.heap.size W1 w2) := ⟨hb2⟩
 clear hb2
 go_wp2_with fail
 have KC : Away (∀ w' : World, Below w2.heap.size w2 w' → w'.heap[w1.heap.size]? = some (.cells C 24 (0, 0))) := ⟨fun w' hb => CB.out w' (F2.out.trans (hb.mono F2.out.size))⟩
 refine hk_begin (w2.heap.size) 11 [1, 2, 0, 3, 4, 5, 6, 7, 8, 9, 10] (by kernel_rfl) rfl rfl (by decide) (fun hS ops HOp => ?_)
 simp only [List.filterMap_cons, List.filterMap_nil, List.getElem?_cons_succ, List.getElem?_cons_zero]
 refine hk_load (by rw [← HOp.out]; kernel_rfl) (by rw [← HOp.out]; kernel_rfl) (by rw [← HOp.out]; kernel_rfl) (by rw [← HOp.out]; kernel_rfl) (fun _ _ _ _ h => h) 24 _ rfl (w1.heap.size) rfl 24 C _ KC.out Tryd.underlying24 rfl HCz.out (hS) ?_
 simp only [Act.put, List.setIfInBounds_toArray, List.set_cons_zero, List.set_cons_succ]
 (focus (refine hk_take (v := ?_) (by rw [← HOp.out]; kernel_rfl) (by rw [← HOp.out]; kernel_rfl) (by rw [← HOp.out]; kernel_rfl) (by rw [← HOp.out]; kernel_rfl) (fun _ _ _ h => h) ?_ (hS) ?_; rotate_left; focus (intro w9 h9; go_simp; first | done | with_reducible rfl); all_goals skip))
 simp only [Act.put, List.setIfInBounds_toArray, List.set_cons_zero, List.set_cons_succ]
 refine hk_step (by rw [← HOp.out]; kernel_rfl) (by rw [← HOp.out]; kernel_rfl) (fun K hK => ?_)
 go_simp
 refine (Hmk.out _).mono ?_
 rintro x w3 ⟨rfl, hb3⟩
 have h3 : Below w2.heap.size w2 w3 := hS.trans (hb3.mono hS.size)
 refine hK _ _ h3 ?_
 clear hK K
 try simp only [Act.put, List.setIfInBounds_toArray, List.set_cons_zero, List.set_cons_succ]
 refine hk_step (by rw [← HOp.out]; kernel_rfl) (by rw [← HOp.out]; kernel_rfl) (fun K hK => ?_)
 go_simp
 refine (HPr.out _ (GP.out _ (F2.out.trans (h3.mono F2.out.size)))).mono ?_
 rintro x w4 ⟨rfl, hb4⟩
 have h4 : Below w2.heap.size w2 w4 := h3.trans (hb4.mono h3.size)
 refine hK _ _ h4 ?_
 clear hK K
 try simp only [Act.put, List.setIfInBounds_toArray, List.set_cons_zero, List.set_cons_succ]
 (focus (refine hk_take (v := ?_) (by rw [← HOp.out]; kernel_rfl) (by rw [← HOp.out]; kernel_rfl) (by rw [← HOp.out]; kernel_rfl) (by rw [← HOp.out]; kernel_rfl) (fun _ _ _ h => h) ?_ (h4) ?_; rotate_left; focus (intro w9 h9; go_simp; first | done | with_reducible rfl); all_goals skip))
 simp only [Act.put, List.setIfInBounds_toArray, List.set_cons_zero, List.set_cons_succ]
 (focus (refine hk_take (v := ?_) (by rw [← HOp.out]; kernel_rfl) (by rw [← HOp.out]; kernel_rfl) (by rw [← HOp.out]; kernel_rfl) (by rw [← HOp.out]; kernel_rfl) (fun _ _ _ h => h) ?_ (h4) ?_; rotate_left; focus (intro w9 h9; go_simp; first | done | with_reducible rfl); all_goals skip))
 simp only [Act.put, List.setIfInBounds_toArray, List.set_cons_zero, List.set_cons_succ]
 (focus (refine hk_take (v := ?_) (by rw [← HOp.out]; kernel_rfl) (by rw [← HOp.out]; kernel_rfl) (by rw [← HOp.out]; kernel_rfl) (by rw [← HOp.out]; kernel_rfl) (fun _ _ _ h => h) ?_ (h4) ?_; rotate_left; focus (intro w9 h9; go_simp; first | done | with_reducible rfl); all_goals skip))
 simp only [Act.put, List.setIfInBounds_toArray, List.set_cons_zero, List.set_cons_succ]
 (focus (refine hk_take (v := ?_) (by rw [← HOp.out]; kernel_rfl) (by rw [← HOp.out]; kernel_rfl) (by rw [← HOp.out]; kernel_rfl) (by rw [← HOp.out]; kernel_rfl) (fun _ _ _ h => h) ?_ (h4) ?_; rotate_left; focus (intro w9 h9; go_simp; first | done | with_reducible rfl); all_goals skip))
 simp only [Act.put, List.setIfInBounds_toArray, List.set_cons_zero, List.set_cons_succ]
 (focus (refine hk_take (v := ?_) (by rw [← HOp.out]; kernel_rfl) (by rw [← HOp.out]; kernel_rfl) (by rw [← HOp.out]; kernel_rfl) (by rw [← HOp.out]; kernel_rfl) (fun _ _ _ h => h) ?_ (h4) ?_; rotate_left; focus (intro w9 h9; go_simp; first | done | with_reducible rfl); all_goals skip))
 simp only [Act.put, List.setIfInBounds_toArray, List.set_cons_zero, List.set_cons_succ]
 (focus (refine hk_take (v := ?_) (by rw [← HOp.out]; kernel_rfl) (by rw [← HOp.out]; kernel_rfl) (by rw [← HOp.out]; kernel_rfl) (by rw [← HOp.out]; kernel_rfl) (fun _ _ _ h => h) ?_ (h4) ?_; rotate_left; focus (intro w9 h9; go_simp; first | done | with_reducible rfl); all_goals skip))
 simp only [Act.put, List.setIfInBounds_toArray, List.set_cons_zero, List.set_cons_succ]
 (focus (refine hk_take (v := ?_) (by rw [← HOp.out]; kernel_rfl) (by rw [← HOp.out]; kernel_rfl) (by rw [← HOp.out]; kernel_rfl) (by rw [← HOp.out]; kernel_rfl) (fun _ _ _ h => h) ?_ (h4) ?_; rotate_left; focus (intro w9 h9; go_simp; first | done | with_reducible rfl); all_goals skip))
 simp only [Act.put, List.setIfInBounds_toArray, List.set_cons_zero, List.set_cons_succ]
 refine hk_nil (by rw [← HOp.out]; kernel_rfl) ?_
 have F4 : Away (Below W1.heap.size W1 w4) := ⟨F2.out.trans (h4.mono F2.out.size)⟩
 clear hS HOp hb3 h3 hb4 h4 KC
 obtain ⟨W5, hW5⟩ : ∃ x, w4.alloc (.cells #[.string SK, .string y] 9) = x := ⟨_, rfl⟩
 obtain ⟨r5, hs5, b5⟩ := polt.one hW5
 have HW5 := Away.mk hW5
 have F5 : Away (Below W1.heap.size W1 W5) := ⟨F4.out.trans (b5.mono F4.out.size)⟩
 have KS : Away (∀ i, i < 2 → ∀ w' : World, Below W5.heap.size W5 w' → w'.cell? ⟨w4.heap.size, i, none⟩ = some (.string (xs SK y i))) := ⟨fun i hi w' hb => cell_at ((hb.block _ (lt_of_row r5)).trans r5) (xs_at SK y i hi)⟩
 clear hW5 r5 hs5 b5
 go_wp2_with (rw [HW5.out])
 go_loopw [79] (fun iv wr => ∃ i : Nat, i ≤ 2 ∧ iv = .int .i64 (i : Int) ∧ Away (Below W5.heap.size W5 wr)) (fun iv _ => 2 - (intOf iv).toNat)
 case atStart => exact ⟨0, Nat.zero_le _, rfl, ⟨Below.refl _ _⟩⟩
 case round =>
  obtain ⟨i, hi, rfl, Hb⟩ := hrel
  have FR : Away (Below W1.heap.size W1 wr) := ⟨F5.out.trans (Hb.out.mono F5.out.size)⟩
  by_cases hlt : i < 2
  ·have hiz : (i : Int) < 2 := by omega
   have hc := KS.out i hlt wr Hb.out
   have hO := HO.out i
   obtain ⟨x, hx⟩ := ex_eq (xs SK y i)
   rw [hx.out] at hc hO
   have Hlt := Away.mk hlt
   clear hx hlt
   rcases hO with ⟨HD, p, q, l, hS1, hS2⟩ | ⟨hno, hS1⟩
   ·have HS1 := Away.mk hS1
    have HS2 := Away.mk hS2
    clear hS1 hS2
    go_wp2_with (refine wpList_load_row rfl 24 _ rfl w1.heap.size rfl 24 C (0, 0) _ (CB.out _ FR.out) Tryd.underlying24 rfl HCz.out ?_)
    refine (HS1.out _).mono ?_
    rintro r w6 ⟨⟨g, c, g1, c1, g2, c2, g3, c3, rfl, hth⟩, hb6⟩
    have F6 : Away (Below W1.heap.size W1 w6) := ⟨FR.out.trans (hb6.mono FR.out.size)⟩
    have H6 : Away (Below W5.heap.size W5 w6) := ⟨Hb.out.trans (hb6.mono Hb.out.size)⟩
    have BT := Away.mk hth
    clear hb6 hth hc
    go_wp2_with fail
    have KC : Away (∀ w' : World, Below w6.heap.size w6 w' → w'.heap[w1.heap.size]? = some (.cells C 24 (0, 0))) := ⟨fun w' hb => CB.out w' (F6.out.trans (hb.mono F6.out.size))⟩
    have K0 : Away (∀ w' : World, Below w6.heap.size w6 w' → w'.cell? ⟨g, 0, none⟩ = some (.slice (some ⟨g1, 0, none⟩) ln c1)) := ⟨fun w' hb => (BT.out.later hb).x0⟩
    have K1 : Away (∀ w' : World, Below w6.heap.size w6 w' → w'.cell? ⟨g, 1, none⟩ = some (.slice (some ⟨g2, 0, none⟩) kn c2)) := ⟨fun w' hb => (BT.out.later hb).x1⟩
    have K2 : Away (∀ w' : World, Below w6.heap.size w6 w' → w'.cell? ⟨g, 2, none⟩ = some (.slice (some ⟨g3, 0, none⟩) kn c3)) := ⟨fun w' hb => (BT.out.later hb).x2⟩
    refine hk_begin (w6.heap.size) 17 [0, 1, 2, 3, 4, 5, 6, 7, 8, 9, 10, 11, 12, 13, 14, 15, 16] (by kernel_rfl) rfl rfl (by decide) (fun hS ops HOp => ?_)
    simp only [List.filterMap_cons, List.filterMap_nil, List.getElem?_cons_succ, List.getElem?_cons_zero]
    refine hk_load (by rw [← HOp.out]; kernel_rfl) (by rw [← HOp.out]; kernel_rfl) (by rw [← HOp.out]; kernel_rfl) (by rw [← HOp.out]; kernel_rfl) (fun _ _ _ _ h => h) 24 _ rfl (w1.heap.size) rfl 24 C _ KC.out Tryd.underlying24 rfl HCz.out (hS) ?_
    simp only [Act.put, List.setIfInBounds_toArray, List.set_cons_zero, List.set_cons_succ]
    (focus (refine hk_take (v := ?_) (by rw [← HOp.out]; kernel_rfl) (by rw [← HOp.out]; kernel_rfl) (by rw [← HOp.out]; kernel_rfl) (by rw [← HOp.out]; kernel_rfl) (fun _ _ _ h => h) ?_ (hS) ?_; rotate_left; focus (intro w9 h9; go_simp; first | done | with_reducible rfl); all_goals skip))
    simp only [Act.put, List.setIfInBounds_toArray, List.set_cons_zero, List.set_cons_succ]
    (focus (refine hk_take (v := ?_) (by rw [← HOp.out]; kernel_rfl) (by rw [← HOp.out]; kernel_rfl) (by rw [← HOp.out]; kernel_rfl) (by rw [← HOp.out]; kernel_rfl) (fun _ _ _ h => h) ?_ (hS) ?_; rotate_left; focus (intro w9 h9; go_simp; first | done | with_reducible rfl); all_goals skip))
    simp only [Act.put, List.setIfInBounds_toArray, List.set_cons_zero, List.set_cons_succ]
    (focus (refine hk_take (v := ?_) (by rw [← HOp.out]; kernel_rfl) (by rw [← HOp.out]; kernel_rfl) (by rw [← HOp.out]; kernel_rfl) (by rw [← HOp.out]; kernel_rfl) (fun _ _ _ h => h) ?_ (hS) ?_; rotate_left; focus (intro w9 h9; go_simp; first | done | with_reducible rfl); all_goals skip))
    simp only [Act.put, List.setIfInBounds_toArray, List.set_cons_zero, List.set_cons_succ]
    (focus (refine hk_take (v := ?_) (by rw [← HOp.out]; kernel_rfl) (by rw [← HOp.out]; kernel_rfl) (by rw [← HOp.out]; kernel_rfl) (by rw [← HOp.out]; kernel_rfl) (fun _ _ _ h => h) ?_ (hS) ?_; rotate_left; focus (intro w9 h9; have hc := K0.out w9 h9; go_simp; first | done | with_reducible rfl); all_goals skip))
    simp only [Act.put, List.setIfInBounds_toArray, List.set_cons_zero, List.set_cons_succ]
    (focus (refine hk_take (v := ?_) (by rw [← HOp.out]; kernel_rfl) (by rw [← HOp.out]; kernel_rfl) (by rw [← HOp.out]; kernel_rfl) (by rw [← HOp.out]; kernel_rfl) (fun _ _ _ h => h) ?_ (hS) ?_; rotate_left; focus (intro w9 h9; go_simp; first | done | with_reducible rfl); all_goals skip))
    simp only [Act.put, List.setIfInBounds_toArray, List.set_cons_zero, List.set_cons_succ]
    (focus (refine hk_take (v := ?_) (by rw [← HOp.out]; kernel_rfl) (by rw [← HOp.out]; kernel_rfl) (by rw [← HOp.out]; kernel_rfl) (by rw [← HOp.out]; kernel_rfl) (fun _ _ _ h => h) ?_ (hS) ?_; rotate_left; focus (intro w9 h9; go_simp; first | done | with_reducible rfl); all_goals skip))
    simp only [Act.put, List.setIfInBounds_toArray, List.set_cons_zero, List.set_cons_succ]
    (focus (refine hk_take (v := ?_) (by rw [← HOp.out]; kernel_rfl) (by rw [← HOp.out]; kernel_rfl) (by rw [← HOp.out]; kernel_rfl) (by rw [← HOp.out]; kernel_rfl) (fun _ _ _ h => h) ?_ (hS) ?_; rotate_left; focus (intro w9 h9; have hc := K1.out w9 h9; go_simp; first | done | with_reducible rfl); all_goals skip))
    simp only [Act.put, List.setIfInBounds_toArray, List.set_cons_zero, List.set_cons_succ]
    (focus (refine hk_take (v := ?_) (by rw [← HOp.out]; kernel_rfl) (by rw [← HOp.out]; kernel_rfl) (by rw [← HOp.out]; kernel_rfl) (by rw [← HOp.out]; kernel_rfl) (fun _ _ _ h => h) ?_ (hS) ?_; rotate_left; focus (intro w9 h9; go_simp; first | done | with_reducible rfl); all_goals skip))
    simp only [Act.put, List.setIfInBounds_toArray, List.set_cons_zero, List.set_cons_succ]
    (focus (refine hk_take (v := ?_) (by rw [← HOp.out]; kernel_rfl) (by rw [← HOp.out]; kernel_rfl) (by rw [← HOp.out]; kernel_rfl) (by rw [← HOp.out]; kernel_rfl) (fun _ _ _ h => h) ?_ (hS) ?_; rotate_left; focus (intro w9 h9; go_simp; first | done | with_reducible rfl); all_goals skip))
    simp only [Act.put, List.setIfInBounds_toArray, List.set_cons_zero, List.set_cons_succ]
    (focus (refine hk_take (v := ?_) (by rw [← HOp.out]; kernel_rfl) (by rw [← HOp.out]; kernel_rfl) (by rw [← HOp.out]; kernel_rfl) (by rw [← HOp.out]; kernel_rfl) (fun _ _ _ h => h) ?_ (hS) ?_; rotate_left; focus (intro w9 h9; have hc := K2.out w9 h9; go_simp; first | done | with_reducible rfl); all_goals skip))
    simp only [Act.put, List.setIfInBounds_toArray, List.set_cons_zero, List.set_cons_succ]
    refine hk_step (by rw [← HOp.out]; kernel_rfl) (by rw [← HOp.out]; kernel_rfl) (fun K hK => ?_)
    go_simp
    refine (HS2.out _ _ _ _ (BT.out.later hS).h0 (BT.out.later hS).h1 (BT.out.later hS).h2).mono ?_
    rintro r w7 ⟨rfl, hb7⟩
    have h7 : Below w6.heap.size w6 w7 := hS.trans (hb7.mono hS.size)
    refine hK _ _ h7 ?_
    clear hK K
    try simp only [Act.put, List.setIfInBounds_toArray, List.set_cons_zero, List.set_cons_succ]
    (focus (refine hk_take (v := ?_) (by rw [← HOp.out]; kernel_rfl) (by rw [← HOp.out]; kernel_rfl) (by rw [← HOp.out]; kernel_rfl) (by rw [← HOp.out]; kernel_rfl) (fun _ _ _ h => h) ?_ (h7) ?_; rotate_left; focus (intro w9 h9; go_simp; first | done | with_reducible rfl); all_goals skip))
    simp only [Act.put, List.setIfInBounds_toArray, List.set_cons_zero, List.set_cons_succ]
    (focus (refine hk_take (v := ?_) (by rw [← HOp.out]; kernel_rfl) (by rw [← HOp.out]; kernel_rfl) (by rw [← HOp.out]; kernel_rfl) (by rw [← HOp.out]; kernel_rfl) (fun _ _ _ h => h) ?_ (h7) ?_; rotate_left; focus (intro w9 h9; go_simp; first | done | with_reducible rfl); all_goals skip))
    simp only [Act.put, List.setIfInBounds_toArray, List.set_cons_zero, List.set_cons_succ]
    (focus (refine hk_take (v := ?_) (by rw [← HOp.out]; kernel_rfl) (by rw [← HOp.out]; kernel_rfl) (by rw [← HOp.out]; kernel_rfl) (by rw [← HOp.out]; kernel_rfl) (fun _ _ _ h => h) ?_ (h7) ?_; rotate_left; focus (intro w9 h9; go_simp; first | done | with_reducible rfl); all_goals skip))
    simp only [Act.put, List.setIfInBounds_toArray, List.set_cons_zero, List.set_cons_succ]
    (focus (refine hk_take (v := ?_) (by rw [← HOp.out]; kernel_rfl) (by rw [← HOp.out]; kernel_rfl) (by rw [← HOp.out]; kernel_rfl) (by rw [← HOp.out]; kernel_rfl) (fun _ _ _ h => h) ?_ (h7) ?_; rotate_left; focus (intro w9 h9; go_simp; first | done | with_reducible rfl); all_goals skip))
    simp only [Act.put, List.setIfInBounds_toArray, List.set_cons_zero, List.set_cons_succ]
    (focus (refine hk_take (v := ?_) (by rw [← HOp.out]; kernel_rfl) (by rw [← HOp.out]; kernel_rfl) (by rw [← HOp.out]; kernel_rfl) (by rw [← HOp.out]; kernel_rfl) (fun _ _ _ h => h) ?_ (h7) ?_; rotate_left; focus (intro w9 h9; go_simp; first | done | with_reducible rfl); all_goals skip))
    simp only [Act.put, List.setIfInBounds_toArray, List.set_cons_zero, List.set_cons_succ]
    refine hk_nil (by rw [← HOp.out]; kernel_rfl) ?_
    have H7 : Away (Below W5.heap.size W5 w7) := ⟨H6.out.trans (h7.mono H6.out.size)⟩
    clear hS HOp hb7 h7 KC K0 K1 K2 BT
    go_wp2_with fail
    go_roundw
    case rel => exact ⟨i + 1, by have := Hlt.out; omega, by go_num, H7⟩
    case measure => have := Hlt.out; simp [intOf]; omega
   ·have HS1 := Away.mk hS1
    have e1 : ¬ x.toList = SK.toList := fun h => hno (WideShapes.bytes_inj (by rw [← ByteArray.toList_eq, ← ByteArray.toList_eq]; exact h))
    clear hS1
    go_wp2_with (refine wpList_load_row rfl 24 _ rfl w1.heap.size rfl 24 C (0, 0) _ (CB.out _ FR.out) Tryd.underlying24 rfl HCz.out ?_)
    refine (HS1.out _).mono ?_
    rintro r w6 ⟨rfl, hb6⟩
    have H6 : Away (Below W5.heap.size W5 w6) := ⟨Hb.out.trans (hb6.mono Hb.out.size)⟩
    clear hb6 hc
    go_wp2_with fail
    go_roundw
    case rel => exact ⟨i + 1, by have := Hlt.out; omega, by go_num, H6⟩
    case measure => have := Hlt.out; simp [intOf]; omega
  ·obtain rfl : i = 2 := by omega
   simp only [Int.cast_ofNat_Int]
   rename World => w8
   obtain ⟨W8, hW8⟩ : ∃ x, w8.alloc (.cells #[.string PK, .string y] 9) = x := ⟨_, rfl⟩
   obtain ⟨r8, hs8, b8⟩ := polt.one hW8
   have HW8 := Away.mk hW8
   have F8 : Away (Below W1.heap.size W1 W8) := ⟨FR.out.trans (b8.mono FR.out.size)⟩
   have KS2 : Away (∀ i, i < 2 → ∀ w' : World, Below W8.heap.size W8 w' → w'.cell? ⟨w8.heap.size, i, none⟩ = some (.string (xs PK y i))) := ⟨fun i hi w' hb => cell_at ((hb.block _ (lt_of_row r8)).trans r8) (xs_at PK y i hi)⟩
   clear hW8 r8 hs8 b8
   go_wp2_with (rw [HW8.out])
   go_loopw [130] (fun iv wr => ∃ i : Nat, i ≤ 2 ∧ iv = .int .i64 (i : Int) ∧ Away (Below W8.heap.size W8 wr)) (fun iv _ => 2 - (intOf iv).toNat)
   case atStart => exact ⟨0, Nat.zero_le _, rfl, ⟨Below.refl _ _⟩⟩
   case round =>
    obtain ⟨i, hi, rfl, Hb2⟩ := hrel
    have FS : Away (Below W1.heap.size W1 wr) := ⟨F8.out.trans (Hb2.out.mono F8.out.size)⟩
    by_cases hlt : i < 2
    ·have hiz : (i : Int) < 2 := by omega
     have hc := KS2.out i hlt wr Hb2.out
     have hO := HQ.out i
     obtain ⟨x, hx⟩ := ex_eq (xs PK y i)
     rw [hx.out] at hc hO
     have Hlt := Away.mk hlt
     clear hx hlt
     rcases hO with ⟨ρ, q, hS1, hS2⟩ | hS1
     ·have HS1 := Away.mk hS1
      have HS2 := Away.mk hS2
      clear hS1 hS2
      go_wp2_with (refine wpList_load_row rfl 24 _ rfl w1.heap.size rfl 24 C (0, 0) _ (CB.out _ FS.out) Tryd.underlying24 rfl HCz.out ?_)
      refine (HS1.out _).mono ?_
      rintro r w6 ⟨⟨v, rfl, hv⟩, hb6⟩
      have F6 : Away (Below W1.heap.size W1 w6) := ⟨FS.out.trans (hb6.mono FS.out.size)⟩
      have H6 : Away (Below W8.heap.size W8 w6) := ⟨Hb2.out.trans (hb6.mono Hb2.out.size)⟩
      have BV := Away.mk hv
      clear hb6 hv hc
      go_wp2_with (refine wpList_load_row rfl 24 _ rfl w1.heap.size rfl 24 C (0, 0) _ (CB.out _ F6.out) Tryd.underlying24 rfl HCz.out ?_)
      refine (HS2.out _ _ BV.out).mono ?_
      rintro r w7 ⟨rfl, hb7⟩
      have H7 : Away (Below W8.heap.size W8 w7) := ⟨H6.out.trans (hb7.mono H6.out.size)⟩
      clear hb7 BV
      go_wp2_with fail
      go_roundw
      case rel => exact ⟨i + 1, by have := Hlt.out; omega, by go_num, H7⟩
      case measure => have := Hlt.out; simp [intOf]; omega
     ·have HS1 := Away.mk hS1
      clear hS1
      go_wp2_with (refine wpList_load_row rfl 24 _ rfl w1.heap.size rfl 24 C (0, 0) _ (CB.out _ FS.out) Tryd.underlying24 rfl HCz.out ?_)
      refine (HS1.out _).mono ?_
      rintro r w6 ⟨rfl, hb6⟩
      have H6 : Away (Below W8.heap.size W8 w6) := ⟨Hb2.out.trans (hb6.mono Hb2.out.size)⟩
      clear hb6 hc
      go_wp2_with fail
      go_roundw
      case rel => exact ⟨i + 1, by have := Hlt.out; omega, by go_num, H6⟩
      case measure => have := Hlt.out; simp [intOf]; omega
    ·obtain rfl : i = 2 := by omega
     simp only [Int.cast_ofNat_Int]
     go_wp2_with fail
     refine (HA.out _ (GP.out _ FS.out)).mono ?_
     rintro x w13 ⟨rfl, hb13⟩
     have E13 : Away (Below w.heap.size w w13) := ⟨E1.out.trans ((FS.out.trans (hb13.mono FS.out.size)).mono E1.out.size)⟩
     clear hb13
     go_wp2_with fail
     go_ret
     exact ⟨rfl, E13.out⟩
end Go.Proofs.YtlcafjdehcddcaaDoor.kba
