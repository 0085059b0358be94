/-
  MlkeyHolds where the seed has 32 bytes: high times 8192 plus low is the product plus the second secrets. Conditions: keccak's variable 'places' holds what the program's text lays there; the parameters are valid, and what Set returns is handed in.
-/
import Derived.Test.YtlcafjdehcddcaaDoorKeD
import Derived.Test.YtlcafjdehcddcaaDoorFk
import Derived.Test.YtlcafjdehcddcaaDoorFSc
import Derived.Test.YtlcafjdehcddcaaDoorRSex
import Derived.OwnWalk
import Derived.WalkMore
namespace Go.Proofs.YtlcafjdehcddcaaDoor.kho
set_option linter.unusedSimpArgs false
open Go Go.RowKit
open Go.Proofs.YtlcafjdehcddcaaDoor.arr Go.Proofs.YtlcafjdehcddcaaDoor.mem Go.Proofs.YtlcafjdehcddcaaDoor.stil Go.Proofs.YtlcafjdehcddcaaDoor.polys Go.Proofs.YtlcafjdehcddcaaDoor.polt Go.Proofs.YtlcafjdehcddcaaDoor.pols Go.Proofs.YtlcafjdehcddcaaDoor.saml Go.Proofs.YtlcafjdehcddcaaDoor.helda Go.Proofs.YtlcafjdehcddcaaDoor.kturn Go.Proofs.YtlcafjdehcddcaaDoor.mlkm Go.Proofs.YtlcafjdehcddcaaDoor.rkpb Go.Proofs.YtlcafjdehcddcaaDoor.rkrw Go.Proofs.YtlcafjdehcddcaaDoor.rsdoc Go.Proofs.YtlcafjdehcddcaaDoor.tabv Go.Proofs.YtlcafjdehcddcaaDoor.built Go.Proofs.YtlcafjdehcddcaaDoor.rset Go.Proofs.YtlcafjdehcddcaaDoor.kcon
open Go.Proofs.YtlcafjdehcddcaaDoor.rndm (latt set0)
set_option maxRecDepth 100000 in
set_option maxHeartbeats 8000000 in
theorem near (wh : Int) (j kn ln : Nat) (e t a b o s : Int) (sd : ByteArray) (w : World) (hsd : sd.size = 32) (hP : Gp w) (h : latt (kn : Int) (ln : Int) e t a b o s = true) (hj : (IntKind.u64.wrap wh).tmod 4 = (j : Int)) (hj4 : j < 4)
 (HSt : ∀ w1 : World, Calls Tryd.prog 6 #[.int .i64 ((j + 1 : Nat) : Int)] w1 fun e0 w' => e0 = .returned (.tuple #[.agg #[.int .i64 (kn : Int), .int .i64 (ln : Int), .int .i64 e, .int .i64 t, .int .i64 a, .int .i64 b, .int .i64 o, .int .i64 s], .int .i64 0]) ∧ Below w1.heap.size w1 w') :
 Calls Tryd.prog 4 #[.int .i64 wh, .string sd] w fun e w' => e = .returned (.bool true) ∧ Below w.heap.size w w' := by
 have HPr0 := fun w1 hg => pair kn ln e t a b o s sd h w1 hg hsd
 have HPu0 := fun w1 => pub kn ln e t a b o s sd h w1
 have HSc0 := fun w1 => sec kn ln e t a b o s sd h w1
 have HMa0 := fun w1 hg => mat kn ln e t a b o s sd h w1 hg
 have HRw0 := fun w1 v vv B h1 h2 => rows kn ln e t a b o s sd h w1 v vv B h1 h2
 have HCu0 := fun w1 => cut sd kn ln e w1
 have HAd0 : ∀ (i : Nat) (w1 : World), Calls Tryd.prog 17 #[.agg (FL .i64 256 (rowv ζd (qX (pRho sd kn ln) i) (qS (pSig sd kn ln) e) ln)), .agg (FL .i64 256 (qS (pSig sd kn ln) e (ln + i)))] w1 fun x w' => x = .returned (.agg (FL .i64 256 (pT ζd sd kn ln e i))) ∧ Below w1.heap.size w1 w' := fun i w1 => fadd.add_any _ _ w1
 have HSl0 : ∀ (i : Nat) (w1 : World), Calls Tryd.prog 18 #[.agg (FL .i64 256 (pHi ζd sd kn ln e i)), .int .i64 8192] w1 fun x w' => x = .returned (.agg (FL .i64 256 fun k => (pHi ζd sd kn ln e i k * 8192) % 8380417)) ∧ Below w1.heap.size w1 w' := fun i w1 => fscale.scale_any _ 8192 w1
 have HAe0 : ∀ (i : Nat) (w1 : World), Calls Tryd.prog 17 #[.agg (FL .i64 256 fun k => (pHi ζd sd kn ln e i k * 8192) % 8380417), .agg (FL .i64 256 (pLo ζd sd kn ln e i))] w1 fun x w' => x = .returned (.agg (FL .i64 256 (pT ζd sd kn ln e i))) ∧ Below w1.heap.size w1 w' := fun i w1 => by
  have h1 := fadd.add_any (fun k => (pHi ζd sd kn ln e i k * 8192) % 8380417) (pLo ζd sd kn ln e i) w1
  rw [show (fun k => ((pHi ζd sd kn ln e i k * 8192) % 8380417 + pLo ζd sd kn ln e i k) % 8380417) = pT ζd sd kn ln e i from funext fun k => holds ζd sd kn ln e i k] at h1
  exact h1
 have Heq0 : ∀ (i : Nat) (w1 : World), (Op.equalIn 10000 58 (.agg (FL .i64 256 (pT ζd sd kn ln e i))) (.agg (FL .i64 256 (pT ζd sd kn ln e i)))).run Tryd.prog w1 = .ok true w1 := fun i w1 => by
  have h1 := equal_poly (pT ζd sd kn ln e i) (pT ζd sd kn ln e i) w1
  rw [(same_iff 256 _ _).2 fun _ _ => rfl] at h1
  exact h1
 have HA := Away.mk (fun w1 hg => kaw.awake_any w1 hg)
 obtain ⟨hk, -⟩ := rksz.latt_all h
 have hkn8 : kn ≤ 8 := by omega
 have hkk : ((kn : Int) != (kn : Int)) = false := by simp
 have hke : ((kn : Int) == (kn : Int)) = true := by simp
 obtain ⟨ρ, hρ⟩ := ex_eq (pRho sd kn ln)
 obtain ⟨HD, hHD⟩ := ex_eq (pHead ζd sd kn ln e)
 obtain ⟨PK, hPK⟩ := ex_eq (pPk ζd sd kn ln e)
 obtain ⟨SK, hSK⟩ := ex_eq (pSk ζd sd kn ln e)
 obtain ⟨A, hA⟩ := ex_eq (qS (pSig sd kn ln) e)
 obtain ⟨Bq, hBq⟩ := ex_eq (fun i => qS (pSig sd kn ln) e (ln + i))
 have hBi : ∀ i, qS (pSig sd kn ln) e (ln + i) = Bq i := fun i => by rw [← hBq.out]
 obtain ⟨Y, hY⟩ := ex_eq (fun r => rowv ζd (qX (pRho sd kn ln) r) (qS (pSig sd kn ln) e) ln)
 have hYi : ∀ r, rowv ζd (qX (pRho sd kn ln) r) (qS (pSig sd kn ln) e) ln = Y r := fun r => by rw [← hY.out]
 obtain ⟨X, hX⟩ := ex_eq (qX (pRho sd kn ln))
 obtain ⟨hi, hhi⟩ := ex_eq (pHi ζd sd kn ln e)
 obtain ⟨lo, hlo⟩ := ex_eq (pLo ζd sd kn ln e)
 obtain ⟨tt, htt⟩ := ex_eq (pT ζd sd kn ln e)
 simp only [hBq.out] at HSc0
 simp only [hY.out] at HRw0
 simp only [hYi, hBi] at HAd0
 simp only [hX.out] at HMa0 HRw0
 simp only [hρ.out, hHD.out, hPK.out, hSK.out, hhi.out, hlo.out, htt.out, hA.out] at HPr0 HPu0 HSc0 HMa0 HRw0 HCu0 HAd0 HSl0 HAe0 Heq0
 have HP := Away.mk hP
 obtain ⟨hz, hsize⟩ := zero_of_info built.infoT
 obtain ⟨Zt, HZ⟩ := ex_eq TZ
 rw [HZ.out] at hz
 have HZs : Away (Zt.size = 465) := ⟨by rw [← HZ.out]; exact tz_size⟩
 obtain ⟨hzl, hsizel⟩ := zero_of_info rset.infoL
 obtain ⟨Zl, HZl⟩ := ex_eq set0
 rw [HZl.out] at hzl
 have HZls : Away (Zl.size = 8) := ⟨by rw [← HZl.out]; rfl⟩
 obtain ⟨T, HT⟩ := ex_eq TA
 simp only [HT.out] at HPr0 HMa0 HRw0
 have HTs : Away (T.size = 465) := ⟨by rw [← HT.out]; exact ta_size⟩
 have HTo : Away (T.all (·.oneCell') = true) := ⟨by rw [← HT.out]; exact ta_one⟩
 have HTz : Away ((Tryd.prog.info? 42).map (·.size) = some T.size) := ⟨by rw [HTs.out]; exact hsize⟩
 have Hmk : Away (∀ w1 : World, Calls Tryd.prog 9 #[] w1 fun e w' => e = .returned (.agg T) ∧ Below w1.heap.size w1 w') := ⟨fun w1 => by rw [← HT.out]; exact make.make_any w1⟩
 obtain ⟨C, HC⟩ := ex_eq (#[.int .i64 (kn : Int), .int .i64 (ln : Int), .int .i64 e, .int .i64 t, .int .i64 a, .int .i64 b, .int .i64 o, .int .i64 s] : Array Value)
 simp only [HC.out] at HPr0 HPu0 HSc0 HMa0 HSt
 have HCs : Away (C.size = 8) := ⟨by rw [← HC.out]; rfl⟩
 have HCo : Away (C.all (·.oneCell') = true) := ⟨by rw [← HC.out]; simp [Value.oneCell']⟩
 have HCz : Away ((Tryd.prog.info? 24).map (·.size) = some C.size) := ⟨by rw [HCs.out]; exact hsizel⟩
 obtain ⟨hzp, hsizep⟩ := zero_of_info polt.infoP
 obtain ⟨Zp, HZp⟩ := ex_eq (FL .i64 256 fun _ => 0)
 rw [HZp.out] at hzp
 have HZps : Away (Zp.size = 256) := ⟨by rw [← HZp.out]; exact fl_size _ _ _⟩
 have Hsizep := Away.mk hsizep
 have HSet := Away.mk HSt
 have HPr := Away.mk HPr0
 have HPu := Away.mk HPu0
 have HSc := Away.mk HSc0
 have HMa := Away.mk HMa0
 have HRw := Away.mk HRw0
 have HCu := Away.mk HCu0
 have HAd := Away.mk HAd0
 have HSl := Away.mk HSl0
 have HAe := Away.mk HAe0
 have Heq := Away.mk Heq0
 have f1 : IntKind.i64.wrap (j : Int) = (j : Int) := by rw [IntKind.wrap_i64]; omega
 have f2 : IntKind.i64.wrap (1 + (j : Int)) = ((j + 1 : Nat) : Int) := by rw [IntKind.wrap_i64]; omega
 have hsz : (sd.size : Int) = 32 := by omega
 have hkC : Away (C[0]? = some (.int .i64 (kn : Int))) := ⟨by rw [← HC.out]; rfl⟩
 clear HPr0 HPu0 HSc0 HMa0 HRw0 HCu0 HAd0 HSl0 HAe0 Heq0 HSt h hk hρ hHD hPK hSK hA hBq hBi hY hYi hX hhi hlo htt HT HC hsize hsizel hsizep HZ HZl HZp hP hsd
 go_enter Tryd.func4, Tryd.ntmps4
 go_wp2_with fail
 refine (Hmk.out _).mono ?_
 rintro x w1 ⟨rfl, hb1⟩
 obtain ⟨W1, hW1⟩ : ∃ x, w1.alloc (.cells T 42) = x := ⟨_, rfl⟩
 obtain ⟨r1, hs1, b1⟩ := polt.one hW1
 have HW1 := Away.mk hW1
 have E1 : Away (Below w.heap.size w W1) := ⟨hb1.trans (b1.mono hb1.size)⟩
 have R1 := Away.mk r1
 clear hb1 hW1 r1 hs1 b1
 go_wp2_with (first
  | (refine wpList_store_new rfl 42 _ _ rfl _ rfl rfl HTz.out (by rw [HTs.out]; exact HZs.out) HTo.out rfl ?_)
  | (rw [HW1.out]))
 refine (HSet.out _).mono ?_
 rintro x w2 ⟨rfl, hb2⟩
 obtain ⟨W2, hW2⟩ : ∃ x, w2.alloc (.cells C 24) = x := ⟨_, rfl⟩
 obtain ⟨r2, hs2, b2⟩ := polt.one hW2
 have HW2 := Away.mk hW2
 have E2 : Away (Below w.heap.size w W2) := ⟨E1.out.trans ((hb2.trans (b2.mono hb2.size)).mono E1.out.size)⟩
 have TB : Away (∀ w' : World, Below W2.heap.size W2 w' → w'.heap[w1.heap.size]? = some (.cells T 42 (0, 0))) := ⟨fun w' hb => by
  have h1 : Below W1.heap.size W1 W2 := hb2.trans (b2.mono hb2.size)
  exact (((h1.trans (hb.mono h1.size)).block _ (lt_of_row R1.out)).trans R1.out)⟩
 have CB : Away (∀ w' : World, Below W2.heap.size W2 w' → w'.heap[w2.heap.size]? = some (.cells C 24 (0, 0))) := ⟨fun w' hb => (hb.block _ (lt_of_row r2)).trans r2⟩
 have CK : Away (∀ w' : World, Below W2.heap.size W2 w' → w'.cell? ⟨w2.heap.size, 0, none⟩ = some (.int .i64 (kn : Int))) := ⟨fun w' hb => cell_at (CB.out w' hb) hkC.out⟩
 have GP : Away (∀ w' : World, Below W2.heap.size W2 w' → Gp w') := ⟨fun w' hb => HP.out.later (E2.out.trans (hb.mono E2.out.size))⟩
 have F0 : Away (Below W2.heap.size W2 W2) := ⟨Below.refl _ _⟩
 clear hb2 hW2 r2 hs2 b2 R1
 go_wp2_with (first
  | (refine wpList_store_new rfl 24 _ _ rfl _ rfl rfl HCz.out (by rw [HCs.out]; exact HZls.out) HCo.out rfl ?_)
  | (rw [HW2.out])
  | (refine wpList_load_row rfl 42 _ rfl w1.heap.size rfl 42 T (0, 0) _ (TB.out _ F0.out) Tryd.underlying42 rfl HTz.out ?_)
  | (refine wpList_load_row rfl 24 _ rfl w2.heap.size rfl 24 C (0, 0) _ (CB.out _ F0.out) Tryd.underlying24 rfl HCz.out ?_))
 refine (HPr.out _ (GP.out _ F0.out)).mono ?_
 rintro x w3 ⟨rfl, hb3⟩
 have F3 : Away (Below W2.heap.size W2 w3) := ⟨hb3⟩
 clear hb3
 go_wp2_with (refine wpList_load_row rfl 24 _ rfl w2.heap.size rfl 24 C (0, 0) _ (CB.out _ F3.out) Tryd.underlying24 rfl HCz.out ?_)
 refine (HPu.out _).mono ?_
 rintro x w4 ⟨⟨vh, rfl, hh⟩, hb4⟩
 obtain ⟨gh, ch, rfl, hgh⟩ := hd_any hh
 have F4 : Away (Below W2.heap.size W2 w4) := ⟨F3.out.trans (hb4.mono F3.out.size)⟩
 have BH := Away.mk hh
 clear hb4 hh hgh
 go_wp2_with (refine wpList_load_row rfl 24 _ rfl w2.heap.size rfl 24 C (0, 0) _ (CB.out _ F4.out) Tryd.underlying24 rfl HCz.out ?_)
 refine (HSc.out _).mono ?_
 rintro x w5 ⟨⟨g, c, g1, c1, g2, c2, g3, c3, rfl, hth⟩, hb5⟩
 have F5 : Away (Below W2.heap.size W2 w5) := ⟨F4.out.trans (hb5.mono F4.out.size)⟩
 have BH5 := Away.mk (BH.out.later hb5)
 have BT := Away.mk hth
 clear hb5 hth BH
 go_wp2_with fail
 have KT : Away (∀ w' : World, Below w5.heap.size w5 w' → w'.heap[w1.heap.size]? = some (.cells T 42 (0, 0))) := ⟨fun w' hb => TB.out w' (F5.out.trans (hb.mono F5.out.size))⟩
 have KC : Away (∀ w' : World, Below w5.heap.size w5 w' → w'.heap[w2.heap.size]? = some (.cells C 24 (0, 0))) := ⟨fun w' hb => CB.out w' (F5.out.trans (hb.mono F5.out.size))⟩
 have KK : Away (∀ w' : World, Below w5.heap.size w5 w' → w'.cell? ⟨w2.heap.size, 0, none⟩ = some (.int .i64 (kn : Int))) := ⟨fun w' hb => CK.out w' (F5.out.trans (hb.mono F5.out.size))⟩
 have K1 : Away (∀ w' : World, Below w5.heap.size w5 w' → w'.cell? ⟨g, 1, none⟩ = some (.slice (some ⟨g2, 0, none⟩) kn c2)) := ⟨fun w' hb => (BT.out.later hb).x1⟩
 have K2 : Away (∀ w' : World, Below w5.heap.size w5 w' → w'.cell? ⟨g, 2, none⟩ = some (.slice (some ⟨g3, 0, none⟩) kn c3)) := ⟨fun w' hb => (BT.out.later hb).x2⟩
 have K0 : Away (∀ w' : World, Below w5.heap.size w5 w' → w'.cell? ⟨g, 0, none⟩ = some (.slice (some ⟨g1, 0, none⟩) ln c1)) := ⟨fun w' hb => (BT.out.later hb).x0⟩
 refine hk_begin (w5.heap.size) 42 [0, 1, 2, 3, 4, 5, 6, 7, 8, 9, 10, 11, 12, 13, 14, 15, 16, 17, 18, 19, 20, 21, 22, 23, 24, 25, 26, 27, 28, 29, 30, 31, 32, 33, 34, 35, 36, 37, 39, 38, 40, 41] (by kernel_rfl) rfl rfl (by decide) (fun hS ops HO => ?_)
 simp only [List.filterMap_cons, List.filterMap_nil, List.getElem?_cons_succ, List.getElem?_cons_zero]
 (focus (refine hk_take (v := ?_) (by rw [← HO.out]; kernel_rfl) (by rw [← HO.out]; kernel_rfl) (by rw [← HO.out]; kernel_rfl) (by rw [← HO.out]; kernel_rfl) (fun _ _ _ h => h) ?_ (hS) ?_; rotate_left; focus (intro w9 h9; go_simp; first | done | with_reducible rfl); all_goals skip))
 simp only [Act.put, List.setIfInBounds_toArray, List.set_cons_zero, List.set_cons_succ]
 (focus (refine hk_take (v := ?_) (by rw [← HO.out]; kernel_rfl) (by rw [← HO.out]; kernel_rfl) (by rw [← HO.out]; kernel_rfl) (by rw [← HO.out]; kernel_rfl) (fun _ _ _ h => h) ?_ (hS) ?_; rotate_left; focus (intro w9 h9; go_simp; first | done | with_reducible rfl); all_goals skip))
 simp only [Act.put, List.setIfInBounds_toArray, List.set_cons_zero, List.set_cons_succ]
 (focus (refine hk_take (v := ?_) (by rw [← HO.out]; kernel_rfl) (by rw [← HO.out]; kernel_rfl) (by rw [← HO.out]; kernel_rfl) (by rw [← HO.out]; kernel_rfl) (fun _ _ _ h => h) ?_ (hS) ?_; rotate_left; focus (intro w9 h9; go_simp; first | done | with_reducible rfl); all_goals skip))
 simp only [Act.put, List.setIfInBounds_toArray, List.set_cons_zero, List.set_cons_succ]
 (focus (refine hk_take (v := ?_) (by rw [← HO.out]; kernel_rfl) (by rw [← HO.out]; kernel_rfl) (by rw [← HO.out]; kernel_rfl) (by rw [← HO.out]; kernel_rfl) (fun _ _ _ h => h) ?_ (hS) ?_; rotate_left; focus (intro w9 h9; go_simp; first | done | with_reducible rfl); all_goals skip))
 simp only [Act.put, List.setIfInBounds_toArray, List.set_cons_zero, List.set_cons_succ]
 (focus (refine hk_take (v := ?_) (by rw [← HO.out]; kernel_rfl) (by rw [← HO.out]; kernel_rfl) (by rw [← HO.out]; kernel_rfl) (by rw [← HO.out]; kernel_rfl) (fun _ _ _ h => h) ?_ (hS) ?_; rotate_left; focus (intro w9 h9; go_simp; first | done | with_reducible rfl); all_goals skip))
 simp only [Act.put, List.setIfInBounds_toArray, List.set_cons_zero, List.set_cons_succ]
 (focus (refine hk_take (v := ?_) (by rw [← HO.out]; kernel_rfl) (by rw [← HO.out]; kernel_rfl) (by rw [← HO.out]; kernel_rfl) (by rw [← HO.out]; kernel_rfl) (fun _ _ _ h => h) ?_ (hS) ?_; rotate_left; focus (intro w9 h9; go_simp; first | done | with_reducible rfl); all_goals skip))
 simp only [Act.put, List.setIfInBounds_toArray, List.set_cons_zero, List.set_cons_succ]
 (focus (refine hk_take (v := ?_) (by rw [← HO.out]; kernel_rfl) (by rw [← HO.out]; kernel_rfl) (by rw [← HO.out]; kernel_rfl) (by rw [← HO.out]; kernel_rfl) (fun _ _ _ h => h) ?_ (hS) ?_; rotate_left; focus (intro w9 h9; go_simp; first | done | with_reducible rfl); all_goals skip))
 simp only [Act.put, List.setIfInBounds_toArray, List.set_cons_zero, List.set_cons_succ]
 (focus (refine hk_take (v := ?_) (by rw [← HO.out]; kernel_rfl) (by rw [← HO.out]; kernel_rfl) (by rw [← HO.out]; kernel_rfl) (by rw [← HO.out]; kernel_rfl) (fun _ _ _ h => h) ?_ (hS) ?_; rotate_left; focus (intro w9 h9; go_simp; first | done | with_reducible rfl); all_goals skip))
 simp only [Act.put, List.setIfInBounds_toArray, List.set_cons_zero, List.set_cons_succ]
 (focus (refine hk_take (v := ?_) (by rw [← HO.out]; kernel_rfl) (by rw [← HO.out]; kernel_rfl) (by rw [← HO.out]; kernel_rfl) (by rw [← HO.out]; kernel_rfl) (fun _ _ _ h => h) ?_ (hS) ?_; rotate_left; focus (intro w9 h9; go_simp; first | done | with_reducible rfl); all_goals skip))
 simp only [Act.put, List.setIfInBounds_toArray, List.set_cons_zero, List.set_cons_succ]
 (focus (refine hk_take (v := ?_) (by rw [← HO.out]; kernel_rfl) (by rw [← HO.out]; kernel_rfl) (by rw [← HO.out]; kernel_rfl) (by rw [← HO.out]; kernel_rfl) (fun _ _ _ h => h) ?_ (hS) ?_; rotate_left; focus (intro w9 h9; go_simp; first | done | with_reducible rfl); all_goals skip))
 simp only [Act.put, List.setIfInBounds_toArray, List.set_cons_zero, List.set_cons_succ]
 (focus (refine hk_take (v := ?_) (by rw [← HO.out]; kernel_rfl) (by rw [← HO.out]; kernel_rfl) (by rw [← HO.out]; kernel_rfl) (by rw [← HO.out]; kernel_rfl) (fun _ _ _ h => h) ?_ (hS) ?_; rotate_left; focus (intro w9 h9; go_simp; first | done | with_reducible rfl); all_goals skip))
 simp only [Act.put, List.setIfInBounds_toArray, List.set_cons_zero, List.set_cons_succ]
 (focus (refine hk_take (v := ?_) (by rw [← HO.out]; kernel_rfl) (by rw [← HO.out]; kernel_rfl) (by rw [← HO.out]; kernel_rfl) (by rw [← HO.out]; kernel_rfl) (fun _ _ _ h => h) ?_ (hS) ?_; rotate_left; focus (intro w9 h9; go_simp; first | done | with_reducible rfl); all_goals skip))
 simp only [Act.put, List.setIfInBounds_toArray, List.set_cons_zero, List.set_cons_succ]
 (focus (refine hk_take (v := ?_) (by rw [← HO.out]; kernel_rfl) (by rw [← HO.out]; kernel_rfl) (by rw [← HO.out]; kernel_rfl) (by rw [← HO.out]; kernel_rfl) (fun _ _ _ h => h) ?_ (hS) ?_; rotate_left; focus (intro w9 h9; go_simp; first | done | with_reducible rfl); all_goals skip))
 simp only [Act.put, List.setIfInBounds_toArray, List.set_cons_zero, List.set_cons_succ]
 (focus (refine hk_take (v := ?_) (by rw [← HO.out]; kernel_rfl) (by rw [← HO.out]; kernel_rfl) (by rw [← HO.out]; kernel_rfl) (by rw [← HO.out]; kernel_rfl) (fun _ _ _ h => h) ?_ (hS) ?_; rotate_left; focus (intro w9 h9; go_simp; first | done | with_reducible rfl); all_goals skip))
 simp only [Act.put, List.setIfInBounds_toArray, List.set_cons_zero, List.set_cons_succ]
 (focus (refine hk_take (v := ?_) (by rw [← HO.out]; kernel_rfl) (by rw [← HO.out]; kernel_rfl) (by rw [← HO.out]; kernel_rfl) (by rw [← HO.out]; kernel_rfl) (fun _ _ _ h => h) ?_ (hS) ?_; rotate_left; focus (intro w9 h9; go_simp; first | done | with_reducible rfl); all_goals skip))
 simp only [Act.put, List.setIfInBounds_toArray, List.set_cons_zero, List.set_cons_succ]
 (focus (refine hk_take (v := ?_) (by rw [← HO.out]; kernel_rfl) (by rw [← HO.out]; kernel_rfl) (by rw [← HO.out]; kernel_rfl) (by rw [← HO.out]; kernel_rfl) (fun _ _ _ h => h) ?_ (hS) ?_; rotate_left; focus (intro w9 h9; have hc := KK.out w9 h9; go_simp; first | done | with_reducible rfl); all_goals skip))
 simp only [Act.put, List.setIfInBounds_toArray, List.set_cons_zero, List.set_cons_succ]
 (focus (refine hk_take (v := ?_) (by rw [← HO.out]; kernel_rfl) (by rw [← HO.out]; kernel_rfl) (by rw [← HO.out]; kernel_rfl) (by rw [← HO.out]; kernel_rfl) (fun _ _ _ h => h) ?_ (hS) ?_; rotate_left; focus (intro w9 h9; go_simp; first | done | with_reducible rfl); all_goals skip))
 simp only [Act.put, List.setIfInBounds_toArray, List.set_cons_zero, List.set_cons_succ]
 (focus (refine hk_take (v := ?_) (by rw [← HO.out]; kernel_rfl) (by rw [← HO.out]; kernel_rfl) (by rw [← HO.out]; kernel_rfl) (by rw [← HO.out]; kernel_rfl) (fun _ _ _ h => h) ?_ (hS) ?_; rotate_left; focus (intro w9 h9; go_simp; first | done | with_reducible rfl); all_goals skip))
 simp only [Act.put, List.setIfInBounds_toArray, List.set_cons_zero, List.set_cons_succ]
 (focus (refine hk_take (v := ?_) (by rw [← HO.out]; kernel_rfl) (by rw [← HO.out]; kernel_rfl) (by rw [← HO.out]; kernel_rfl) (by rw [← HO.out]; kernel_rfl) (fun _ _ _ h => h) ?_ (hS) ?_; rotate_left; focus (intro w9 h9; go_simp; first | done | with_reducible rfl); all_goals skip))
 simp only [Act.put, List.setIfInBounds_toArray, List.set_cons_zero, List.set_cons_succ]
 (focus (refine hk_take (v := ?_) (by rw [← HO.out]; kernel_rfl) (by rw [← HO.out]; kernel_rfl) (by rw [← HO.out]; kernel_rfl) (by rw [← HO.out]; kernel_rfl) (fun _ _ _ h => h) ?_ (hS) ?_; rotate_left; focus (intro w9 h9; go_simp; first | done | with_reducible rfl); all_goals skip))
 simp only [Act.put, List.setIfInBounds_toArray, List.set_cons_zero, List.set_cons_succ]
 (focus (refine hk_take (v := ?_) (by rw [← HO.out]; kernel_rfl) (by rw [← HO.out]; kernel_rfl) (by rw [← HO.out]; kernel_rfl) (by rw [← HO.out]; kernel_rfl) (fun _ _ _ h => h) ?_ (hS) ?_; rotate_left; focus (intro w9 h9; go_simp; first | done | with_reducible rfl); all_goals skip))
 simp only [Act.put, List.setIfInBounds_toArray, List.set_cons_zero, List.set_cons_succ]
 (focus (refine hk_take (v := ?_) (by rw [← HO.out]; kernel_rfl) (by rw [← HO.out]; kernel_rfl) (by rw [← HO.out]; kernel_rfl) (by rw [← HO.out]; kernel_rfl) (fun _ _ _ h => h) ?_ (hS) ?_; rotate_left; focus (intro w9 h9; have hc := K1.out w9 h9; go_simp; first | done | with_reducible rfl); all_goals skip))
 simp only [Act.put, List.setIfInBounds_toArray, List.set_cons_zero, List.set_cons_succ]
 (focus (refine hk_take (v := ?_) (by rw [← HO.out]; kernel_rfl) (by rw [← HO.out]; kernel_rfl) (by rw [← HO.out]; kernel_rfl) (by rw [← HO.out]; kernel_rfl) (fun _ _ _ h => h) ?_ (hS) ?_; rotate_left; focus (intro w9 h9; go_simp; first | done | with_reducible rfl); all_goals skip))
 simp only [Act.put, List.setIfInBounds_toArray, List.set_cons_zero, List.set_cons_succ]
 (focus (refine hk_take (v := ?_) (by rw [← HO.out]; kernel_rfl) (by rw [← HO.out]; kernel_rfl) (by rw [← HO.out]; kernel_rfl) (by rw [← HO.out]; kernel_rfl) (fun _ _ _ h => h) ?_ (hS) ?_; rotate_left; focus (intro w9 h9; go_simp; first | done | with_reducible rfl); all_goals skip))
 simp only [Act.put, List.setIfInBounds_toArray, List.set_cons_zero, List.set_cons_succ]
 (focus (refine hk_take (v := ?_) (by rw [← HO.out]; kernel_rfl) (by rw [← HO.out]; kernel_rfl) (by rw [← HO.out]; kernel_rfl) (by rw [← HO.out]; kernel_rfl) (fun _ _ _ h => h) ?_ (hS) ?_; rotate_left; focus (intro w9 h9; have hc := KK.out w9 h9; go_simp; first | done | with_reducible rfl); all_goals skip))
 simp only [Act.put, List.setIfInBounds_toArray, List.set_cons_zero, List.set_cons_succ]
 (focus (refine hk_take (v := ?_) (by rw [← HO.out]; kernel_rfl) (by rw [← HO.out]; kernel_rfl) (by rw [← HO.out]; kernel_rfl) (by rw [← HO.out]; kernel_rfl) (fun _ _ _ h => h) ?_ (hS) ?_; rotate_left; focus (intro w9 h9; go_simp; first | done | with_reducible rfl); all_goals skip))
 simp only [Act.put, List.setIfInBounds_toArray, List.set_cons_zero, List.set_cons_succ]
 (focus (refine hk_take (v := ?_) (by rw [← HO.out]; kernel_rfl) (by rw [← HO.out]; kernel_rfl) (by rw [← HO.out]; kernel_rfl) (by rw [← HO.out]; kernel_rfl) (fun _ _ _ h => h) ?_ (hS) ?_; rotate_left; focus (intro w9 h9; go_simp; first | done | with_reducible rfl); all_goals skip))
 simp only [Act.put, List.setIfInBounds_toArray, List.set_cons_zero, List.set_cons_succ]
 (focus (refine hk_take (v := ?_) (by rw [← HO.out]; kernel_rfl) (by rw [← HO.out]; kernel_rfl) (by rw [← HO.out]; kernel_rfl) (by rw [← HO.out]; kernel_rfl) (fun _ _ _ h => h) ?_ (hS) ?_; rotate_left; focus (intro w9 h9; go_simp; first | done | with_reducible rfl); all_goals skip))
 simp only [Act.put, List.setIfInBounds_toArray, List.set_cons_zero, List.set_cons_succ]
 (focus (refine hk_take (v := ?_) (by rw [← HO.out]; kernel_rfl) (by rw [← HO.out]; kernel_rfl) (by rw [← HO.out]; kernel_rfl) (by rw [← HO.out]; kernel_rfl) (fun _ _ _ h => h) ?_ (hS) ?_; rotate_left; focus (intro w9 h9; go_simp; first | done | with_reducible rfl); all_goals skip))
 simp only [Act.put, List.setIfInBounds_toArray, List.set_cons_zero, List.set_cons_succ]
 (focus (refine hk_take (v := ?_) (by rw [← HO.out]; kernel_rfl) (by rw [← HO.out]; kernel_rfl) (by rw [← HO.out]; kernel_rfl) (by rw [← HO.out]; kernel_rfl) (fun _ _ _ h => h) ?_ (hS) ?_; rotate_left; focus (intro w9 h9; go_simp; first | done | with_reducible rfl); all_goals skip))
 simp only [Act.put, List.setIfInBounds_toArray, List.set_cons_zero, List.set_cons_succ]
 (focus (refine hk_take (v := ?_) (by rw [← HO.out]; kernel_rfl) (by rw [← HO.out]; kernel_rfl) (by rw [← HO.out]; kernel_rfl) (by rw [← HO.out]; kernel_rfl) (fun _ _ _ h => h) ?_ (hS) ?_; rotate_left; focus (intro w9 h9; have hc := K2.out w9 h9; go_simp; first | done | with_reducible rfl); all_goals skip))
 simp only [Act.put, List.setIfInBounds_toArray, List.set_cons_zero, List.set_cons_succ]
 (focus (refine hk_take (v := ?_) (by rw [← HO.out]; kernel_rfl) (by rw [← HO.out]; kernel_rfl) (by rw [← HO.out]; kernel_rfl) (by rw [← HO.out]; kernel_rfl) (fun _ _ _ h => h) ?_ (hS) ?_; rotate_left; focus (intro w9 h9; go_simp; first | done | with_reducible rfl); all_goals skip))
 simp only [Act.put, List.setIfInBounds_toArray, List.set_cons_zero, List.set_cons_succ]
 (focus (refine hk_take (v := ?_) (by rw [← HO.out]; kernel_rfl) (by rw [← HO.out]; kernel_rfl) (by rw [← HO.out]; kernel_rfl) (by rw [← HO.out]; kernel_rfl) (fun _ _ _ h => h) ?_ (hS) ?_; rotate_left; focus (intro w9 h9; go_simp; first | done | with_reducible rfl); all_goals skip))
 simp only [Act.put, List.setIfInBounds_toArray, List.set_cons_zero, List.set_cons_succ]
 (focus (refine hk_take (v := ?_) (by rw [← HO.out]; kernel_rfl) (by rw [← HO.out]; kernel_rfl) (by rw [← HO.out]; kernel_rfl) (by rw [← HO.out]; kernel_rfl) (fun _ _ _ h => h) ?_ (hS) ?_; rotate_left; focus (intro w9 h9; have hc := KK.out w9 h9; go_simp; first | done | with_reducible rfl); all_goals skip))
 simp only [Act.put, List.setIfInBounds_toArray, List.set_cons_zero, List.set_cons_succ]
 (focus (refine hk_take (v := ?_) (by rw [← HO.out]; kernel_rfl) (by rw [← HO.out]; kernel_rfl) (by rw [← HO.out]; kernel_rfl) (by rw [← HO.out]; kernel_rfl) (fun _ _ _ h => h) ?_ (hS) ?_; rotate_left; focus (intro w9 h9; go_simp; first | done | with_reducible rfl); all_goals skip))
 simp only [Act.put, List.setIfInBounds_toArray, List.set_cons_zero, List.set_cons_succ]
 (focus (refine hk_take (v := ?_) (by rw [← HO.out]; kernel_rfl) (by rw [← HO.out]; kernel_rfl) (by rw [← HO.out]; kernel_rfl) (by rw [← HO.out]; kernel_rfl) (fun _ _ _ h => h) ?_ (hS) ?_; rotate_left; focus (intro w9 h9; go_simp; first | done | with_reducible rfl); all_goals skip))
 simp only [Act.put, List.setIfInBounds_toArray, List.set_cons_zero, List.set_cons_succ]
 (focus (refine hk_take (v := ?_) (by rw [← HO.out]; kernel_rfl) (by rw [← HO.out]; kernel_rfl) (by rw [← HO.out]; kernel_rfl) (by rw [← HO.out]; kernel_rfl) (fun _ _ _ h => h) ?_ (hS) ?_; rotate_left; focus (intro w9 h9; go_simp; first | done | with_reducible rfl); all_goals skip))
 simp only [Act.put, List.setIfInBounds_toArray, List.set_cons_zero, List.set_cons_succ]
 (focus (refine hk_take (v := ?_) (by rw [← HO.out]; kernel_rfl) (by rw [← HO.out]; kernel_rfl) (by rw [← HO.out]; kernel_rfl) (by rw [← HO.out]; kernel_rfl) (fun _ _ _ h => h) ?_ (hS) ?_; rotate_left; focus (intro w9 h9; go_simp; first | done | with_reducible rfl); all_goals skip))
 simp only [Act.put, List.setIfInBounds_toArray, List.set_cons_zero, List.set_cons_succ]
 (focus (refine hk_take (v := ?_) (by rw [← HO.out]; kernel_rfl) (by rw [← HO.out]; kernel_rfl) (by rw [← HO.out]; kernel_rfl) (by rw [← HO.out]; kernel_rfl) (fun _ _ _ h => h) ?_ (hS) ?_; rotate_left; focus (intro w9 h9; go_simp; first | done | with_reducible rfl); all_goals skip))
 simp only [Act.put, List.setIfInBounds_toArray, List.set_cons_zero, List.set_cons_succ]
 refine hk_step (by rw [← HO.out]; kernel_rfl) (by rw [← HO.out]; kernel_rfl) (fun K hK => ?_)
 go_simp
 refine (HCu.out _).mono ?_
 rintro x w6 ⟨rfl, hb6⟩
 have h6 : Below w5.heap.size w5 w6 := hS.trans (hb6.mono hS.size)
 refine hK _ _ h6 ?_
 clear hK K
 try simp only [Act.put, List.setIfInBounds_toArray, List.set_cons_zero, List.set_cons_succ]
 (focus (refine hk_take (v := ?_) (by rw [← HO.out]; kernel_rfl) (by rw [← HO.out]; kernel_rfl) (by rw [← HO.out]; kernel_rfl) (by rw [← HO.out]; kernel_rfl) (fun _ _ _ h => h) ?_ (h6) ?_; rotate_left; focus (intro w9 h9; go_simp; first | done | with_reducible rfl); all_goals skip))
 simp only [Act.put, List.setIfInBounds_toArray, List.set_cons_zero, List.set_cons_succ]
 (focus (refine hk_take (v := ?_) (by rw [← HO.out]; kernel_rfl) (by rw [← HO.out]; kernel_rfl) (by rw [← HO.out]; kernel_rfl) (by rw [← HO.out]; kernel_rfl) (fun _ _ _ h => h) ?_ (h6) ?_; rotate_left; focus (intro w9 h9; go_simp; first | done | with_reducible rfl); all_goals skip))
 simp only [Act.put, List.setIfInBounds_toArray, List.set_cons_zero, List.set_cons_succ]
 refine hk_nil (by rw [← HO.out]; kernel_rfl) ?_
 have F6 : Away (Below W2.heap.size W2 w6) := ⟨F5.out.trans (h6.mono F5.out.size)⟩
 have BH6 := Away.mk (BH5.out.later h6)
 have BT6 := Away.mk (BT.out.later h6)
 clear hS HO hb6 h6 KT KC KK K0 K1 K2 BH5 BT F5
 go_wp2_with fail
 have KT : Away (∀ w' : World, Below w6.heap.size w6 w' → w'.heap[w1.heap.size]? = some (.cells T 42 (0, 0))) := ⟨fun w' hb => TB.out w' (F6.out.trans (hb.mono F6.out.size))⟩
 have KC : Away (∀ w' : World, Below w6.heap.size w6 w' → w'.heap[w2.heap.size]? = some (.cells C 24 (0, 0))) := ⟨fun w' hb => CB.out w' (F6.out.trans (hb.mono F6.out.size))⟩
 have K0 : Away (∀ w' : World, Below w6.heap.size w6 w' → w'.cell? ⟨g, 0, none⟩ = some (.slice (some ⟨g1, 0, none⟩) ln c1)) := ⟨fun w' hb => (BT6.out.later hb).x0⟩
 refine hk_begin (w6.heap.size) 10 [0, 1, 2, 3, 5, 6, 7, 4, 8, 9] (by kernel_rfl) rfl rfl (by decide) (fun hS ops HO => ?_)
 simp only [List.filterMap_cons, List.filterMap_nil, List.getElem?_cons_succ, List.getElem?_cons_zero]
 refine hk_load (by rw [← HO.out]; kernel_rfl) (by rw [← HO.out]; kernel_rfl) (by rw [← HO.out]; kernel_rfl) (by rw [← HO.out]; kernel_rfl) (fun _ _ _ _ h => h) 42 _ rfl (w1.heap.size) rfl 42 T _ KT.out Tryd.underlying42 rfl HTz.out (hS) ?_
 simp only [Act.put, List.setIfInBounds_toArray, List.set_cons_zero, List.set_cons_succ]
 refine hk_load (by rw [← HO.out]; kernel_rfl) (by rw [← HO.out]; kernel_rfl) (by rw [← HO.out]; kernel_rfl) (by rw [← HO.out]; kernel_rfl) (fun _ _ _ _ h => h) 42 _ rfl (w1.heap.size) rfl 42 T _ KT.out Tryd.underlying42 rfl HTz.out (hS) ?_
 simp only [Act.put, List.setIfInBounds_toArray, List.set_cons_zero, List.set_cons_succ]
 refine hk_load (by rw [← HO.out]; kernel_rfl) (by rw [← HO.out]; kernel_rfl) (by rw [← HO.out]; kernel_rfl) (by rw [← HO.out]; kernel_rfl) (fun _ _ _ _ h => h) 24 _ rfl (w2.heap.size) rfl 24 C _ KC.out Tryd.underlying24 rfl HCz.out (hS) ?_
 simp only [Act.put, List.setIfInBounds_toArray, List.set_cons_zero, List.set_cons_succ]
 (focus (refine hk_take (v := ?_) (by rw [← HO.out]; kernel_rfl) (by rw [← HO.out]; kernel_rfl) (by rw [← HO.out]; kernel_rfl) (by rw [← HO.out]; kernel_rfl) (fun _ _ _ h => h) ?_ (hS) ?_; rotate_left; focus (intro w9 h9; go_simp; first | done | with_reducible rfl); all_goals skip))
 simp only [Act.put, List.setIfInBounds_toArray, List.set_cons_zero, List.set_cons_succ]
 (focus (refine hk_take (v := ?_) (by rw [← HO.out]; kernel_rfl) (by rw [← HO.out]; kernel_rfl) (by rw [← HO.out]; kernel_rfl) (by rw [← HO.out]; kernel_rfl) (fun _ _ _ h => h) ?_ (hS) ?_; rotate_left; focus (intro w9 h9; go_simp; first | done | with_reducible rfl); all_goals skip))
 simp only [Act.put, List.setIfInBounds_toArray, List.set_cons_zero, List.set_cons_succ]
 (focus (refine hk_take (v := ?_) (by rw [← HO.out]; kernel_rfl) (by rw [← HO.out]; kernel_rfl) (by rw [← HO.out]; kernel_rfl) (by rw [← HO.out]; kernel_rfl) (fun _ _ _ h => h) ?_ (hS) ?_; rotate_left; focus (intro w9 h9; go_simp; first | done | with_reducible rfl); all_goals skip))
 simp only [Act.put, List.setIfInBounds_toArray, List.set_cons_zero, List.set_cons_succ]
 (focus (refine hk_take (v := ?_) (by rw [← HO.out]; kernel_rfl) (by rw [← HO.out]; kernel_rfl) (by rw [← HO.out]; kernel_rfl) (by rw [← HO.out]; kernel_rfl) (fun _ _ _ h => h) ?_ (hS) ?_; rotate_left; focus (intro w9 h9; have hc := K0.out w9 h9; go_simp; first | done | with_reducible rfl); all_goals skip))
 simp only [Act.put, List.setIfInBounds_toArray, List.set_cons_zero, List.set_cons_succ]
 refine hk_step (by rw [← HO.out]; kernel_rfl) (by rw [← HO.out]; kernel_rfl) (fun K hK => ?_)
 go_simp
 refine (HMa.out _ (GP.out _ (F6.out.trans (hS.mono F6.out.size)))).mono ?_
 rintro x w7 ⟨⟨vm, rfl, hm⟩, hb7⟩
 have h7 : Below w6.heap.size w6 w7 := hS.trans (hb7.mono hS.size)
 refine hK _ _ h7 ?_
 clear hK K
 try simp only [Act.put, List.setIfInBounds_toArray, List.set_cons_zero, List.set_cons_succ]
 refine hk_step (by rw [← HO.out]; kernel_rfl) (by rw [← HO.out]; kernel_rfl) (fun K hK => ?_)
 go_simp
 refine (HRw.out _ _ _ _ hm (BT6.out.later h7).h0).mono ?_
 rintro x w8 ⟨⟨vr, rfl, hr⟩, hb8⟩
 obtain ⟨gr, cr, rfl, hgr⟩ := hd_any hr
 have h8 : Below w6.heap.size w6 w8 := h7.trans (hb8.mono h7.size)
 refine hK _ _ h8 ?_
 clear hK K
 try simp only [Act.put, List.setIfInBounds_toArray, List.set_cons_zero, List.set_cons_succ]
 (focus (refine hk_take (v := ?_) (by rw [← HO.out]; kernel_rfl) (by rw [← HO.out]; kernel_rfl) (by rw [← HO.out]; kernel_rfl) (by rw [← HO.out]; kernel_rfl) (fun _ _ _ h => h) ?_ (h8) ?_; rotate_left; focus (intro w9 h9; go_simp; first | done | with_reducible rfl); all_goals skip))
 simp only [Act.put, List.setIfInBounds_toArray, List.set_cons_zero, List.set_cons_succ]
 refine hk_nil (by rw [← HO.out]; kernel_rfl) ?_
 have F8 : Away (Below W2.heap.size W2 w8) := ⟨F6.out.trans (h8.mono F6.out.size)⟩
 have BH8 := Away.mk (BH6.out.later h8)
 have BT8 := Away.mk (BT6.out.later h8)
 have BR8 := Away.mk hr
 clear hS HO hb7 h7 hm hb8 h8 hr hgr KT KC K0 BH6 BT6 F6
 go_wp2_with fail
 go_loopw [109] (fun iv wr => ∃ i : Nat, i ≤ kn ∧ iv = .int .i64 (i : Int) ∧ Away (Below w8.heap.size w8 wr)) (fun iv _ => kn - (intOf iv).toNat)
 case atStart => exact ⟨0, Nat.zero_le _, rfl, ⟨Below.refl _ _⟩⟩
 case round =>
  obtain ⟨i, hi', rfl, Hb⟩ := hrel
  by_cases hlt : i < kn
  ·have hiz : (i : Int) < (kn : Int) := by omega
   have hi8 : i < 8 := by omega
   obtain ⟨o6, ho6⟩ : ∃ o6, i * 256 = o6 := ⟨_, rfl⟩
   obtain ⟨F, HF⟩ := ex_eq (FL .i64 256 (Y i))
   obtain ⟨G2, HG2⟩ := ex_eq (FL .i64 256 (Bq i))
   obtain ⟨Hh, HHh⟩ := ex_eq (FL .i64 256 (hi i))
   obtain ⟨G3, HG3⟩ := ex_eq (FL .i64 256 (lo i))
   obtain ⟨S1, HS1⟩ := ex_eq (FL .i64 256 fun k => (hi i k * 8192) % 8380417)
   obtain ⟨S2, HS2⟩ := ex_eq (FL .i64 256 (tt i))
   have pR := hd_row (BR8.out.later Hb.out) i hlt
   have p2 : ∀ w' : World, Below wr.heap.size wr w' → w'.rangeAt g2 o6 G2.toList := fun w' hb => by
    have h := hd_row (BT8.out.later (Hb.out.trans (hb.mono Hb.out.size))).h1 i hlt
    rw [HG2.out, ho6] at h; exact h
   have pH : ∀ w' : World, Below wr.heap.size wr w' → w'.rangeAt gh o6 Hh.toList := fun w' hb => by
    have h := hd_row (BH8.out.later (Hb.out.trans (hb.mono Hb.out.size))) i hlt
    rw [HHh.out, ho6] at h; exact h
   have p3 : ∀ w' : World, Below wr.heap.size wr w' → w'.rangeAt g3 o6 G3.toList := fun w' hb => by
    have h := hd_row (BT8.out.later (Hb.out.trans (hb.mono Hb.out.size))).h2 i hlt
    rw [HG3.out, ho6] at h; exact h
   rw [HF.out, ho6] at pR
   have hAd := HAd.out i
   have hSl := HSl.out i
   have hAe := HAe.out i
   have hEq := Heq.out i
   rw [HF.out, HG2.out, HS2.out] at hAd
   rw [HHh.out, HS1.out] at hSl
   rw [HS1.out, HG3.out, HS2.out] at hAe
   rw [HS2.out] at hEq
   have sP : ∀ q : Nat → Int, (Tryd.prog.info? 58).map (·.size) = some (FL .i64 256 q).toList.length := fun q => by rw [Array.length_toList, fl_size]; exact Hsizep.out
   have Fs : Away (F.size = 256) := ⟨by rw [← HF.out]; exact fl_size _ _ _⟩
   have Fo : Away (F.all (·.oneCell') = true) := ⟨by rw [← HF.out]; exact fl_one _ _ _⟩
   have Fi : Away ((Tryd.prog.info? 58).map (·.size) = some F.toList.length) := ⟨by rw [← HF.out]; exact sP _⟩
   have Fj : Away ((Tryd.prog.info? 58).map (·.size) = some F.size) := ⟨by rw [Fs.out]; exact Hsizep.out⟩
   have Fz : Away (Zp.size = F.size) := ⟨by rw [HZps.out, Fs.out]⟩
   have I2 : Away ((Tryd.prog.info? 58).map (·.size) = some G2.toList.length) := ⟨by rw [← HG2.out]; exact sP _⟩
   have IH : Away ((Tryd.prog.info? 58).map (·.size) = some Hh.toList.length) := ⟨by rw [← HHh.out]; exact sP _⟩
   have I3 : Away ((Tryd.prog.info? 58).map (·.size) = some G3.toList.length) := ⟨by rw [← HG3.out]; exact sP _⟩
   have PR := Away.mk pR
   obtain ⟨W9, hW9⟩ : ∃ a, wr.alloc (.cells F 58) = a := ⟨_, rfl⟩
   obtain ⟨r9, hs9, b9⟩ := polt.one hW9
   have HW9 := Away.mk hW9
   have D9 : Away (Below wr.heap.size wr W9) := ⟨b9⟩
   have H9 : Away (Below w8.heap.size w8 W9) := ⟨Hb.out.trans (b9.mono Hb.out.size)⟩
   have K9 : Away (∀ w' : World, Below W9.heap.size W9 w' → w'.heap[wr.heap.size]? = some (.cells F 58 (0, 0))) := ⟨fun w' hb => (hb.block _ (lt_of_row r9)).trans r9⟩
   have P2 : Away (∀ w' : World, Below W9.heap.size W9 w' → w'.rangeAt g2 o6 G2.toList) := ⟨fun w' hb => p2 w' (D9.out.trans (hb.mono D9.out.size))⟩
   have PH : Away (∀ w' : World, Below W9.heap.size W9 w' → w'.rangeAt gh o6 Hh.toList) := ⟨fun w' hb => pH w' (D9.out.trans (hb.mono D9.out.size))⟩
   have P3 : Away (∀ w' : World, Below W9.heap.size W9 w' → w'.rangeAt g3 o6 G3.toList) := ⟨fun w' hb => p3 w' (D9.out.trans (hb.mono D9.out.size))⟩
   have K1 : Away (∀ w' : World, Below W9.heap.size W9 w' → w'.cell? ⟨g, 1, none⟩ = some (.slice (some ⟨g2, 0, none⟩) kn c2)) := ⟨fun w' hb => (BT8.out.later (H9.out.trans (hb.mono H9.out.size))).x1⟩
   have K2 : Away (∀ w' : World, Below W9.heap.size W9 w' → w'.cell? ⟨g, 2, none⟩ = some (.slice (some ⟨g3, 0, none⟩) kn c3)) := ⟨fun w' hb => (BT8.out.later (H9.out.trans (hb.mono H9.out.size))).x2⟩
   have HAd9 := Away.mk hAd
   have HSl9 := Away.mk hSl
   have HAe9 := Away.mk hAe
   have HEq9 := Away.mk hEq
   have Hlt := Away.mk hlt
   clear hAd hSl hAe hEq pR p2 pH p3 hW9 r9 hs9 b9 sP HF HG2 HHh HG3 HS1 HS2 hlt
   go_wp2_with (first
    | ((with_reducible refine wpList_load_mid rfl 58 _ rfl gr o6 ?hx F.toList _ PR.out Tryd.underlying58 rfl ?hi ?_); (case hx => rfl); (case hi => exact Fi.out))
    | (refine wpList_store_new rfl 58 _ _ rfl F rfl rfl Fj.out (by exact Fz.out) Fo.out rfl ?_)
    | (rw [HW9.out]))
   refine hk_begin (W9.heap.size) 21 [0, 1, 2, 3, 4, 5, 6, 8, 9, 10, 11, 13, 14, 15, 16, 17, 18, 7, 12, 19, 20] (by kernel_rfl) rfl rfl (by decide) (fun hS ops HO => ?_)
   simp only [List.filterMap_cons, List.filterMap_nil, List.getElem?_cons_succ, List.getElem?_cons_zero]
   refine hk_load (by rw [← HO.out]; kernel_rfl) (by rw [← HO.out]; kernel_rfl) (by rw [← HO.out]; kernel_rfl) (by rw [← HO.out]; kernel_rfl) (fun _ _ _ _ h => h) 58 _ rfl (wr.heap.size) rfl 58 F _ K9.out Tryd.underlying58 rfl Fj.out (hS) ?_
   simp only [Act.put, List.setIfInBounds_toArray, List.set_cons_zero, List.set_cons_succ]
   (focus (refine hk_take (v := ?_) (by rw [← HO.out]; kernel_rfl) (by rw [← HO.out]; kernel_rfl) (by rw [← HO.out]; kernel_rfl) (by rw [← HO.out]; kernel_rfl) (fun _ _ _ h => h) ?_ (hS) ?_; rotate_left; focus (intro w9 h9; go_simp; first | done | with_reducible rfl); all_goals skip))
   simp only [Act.put, List.setIfInBounds_toArray, List.set_cons_zero, List.set_cons_succ]
   (focus (refine hk_take (v := ?_) (by rw [← HO.out]; kernel_rfl) (by rw [← HO.out]; kernel_rfl) (by rw [← HO.out]; kernel_rfl) (by rw [← HO.out]; kernel_rfl) (fun _ _ _ h => h) ?_ (hS) ?_; rotate_left; focus (intro w9 h9; go_simp; first | done | with_reducible rfl); all_goals skip))
   simp only [Act.put, List.setIfInBounds_toArray, List.set_cons_zero, List.set_cons_succ]
   (focus (refine hk_take (v := ?_) (by rw [← HO.out]; kernel_rfl) (by rw [← HO.out]; kernel_rfl) (by rw [← HO.out]; kernel_rfl) (by rw [← HO.out]; kernel_rfl) (fun _ _ _ h => h) ?_ (hS) ?_; rotate_left; focus (intro w9 h9; have hc := K1.out w9 h9; go_simp; first | done | with_reducible rfl); all_goals skip))
   simp only [Act.put, List.setIfInBounds_toArray, List.set_cons_zero, List.set_cons_succ]
   (focus (refine hk_take (v := ?_) (by rw [← HO.out]; kernel_rfl) (by rw [← HO.out]; kernel_rfl) (by rw [← HO.out]; kernel_rfl) (by rw [← HO.out]; kernel_rfl) (fun _ _ _ h => h) ?_ (hS) ?_; rotate_left; focus (intro w9 h9; go_simp; first | done | with_reducible rfl); all_goals skip))
   simp only [Act.put, List.setIfInBounds_toArray, List.set_cons_zero, List.set_cons_succ]
   (focus (refine hk_take (v := ?_) (by rw [← HO.out]; kernel_rfl) (by rw [← HO.out]; kernel_rfl) (by rw [← HO.out]; kernel_rfl) (by rw [← HO.out]; kernel_rfl) (fun _ _ _ h => h) ?_ (hS) ?_; rotate_left; focus (intro w9 h9; go_simp; first | done | with_reducible rfl); all_goals skip))
   simp only [Act.put, List.setIfInBounds_toArray, List.set_cons_zero, List.set_cons_succ]
   refine fork.hk_mid (by rw [← HO.out]; kernel_rfl) (by rw [← HO.out]; kernel_rfl) (by rw [← HO.out]; kernel_rfl) (by rw [← HO.out]; kernel_rfl) (fun _ _ _ _ h => h) 58 _ rfl g2 o6 rfl G2.toList _ P2.out Tryd.underlying58 rfl I2.out hS ?_
   simp only [Act.put, List.setIfInBounds_toArray, List.set_cons_zero, List.set_cons_succ]
   (focus (refine hk_take (v := ?_) (by rw [← HO.out]; kernel_rfl) (by rw [← HO.out]; kernel_rfl) (by rw [← HO.out]; kernel_rfl) (by rw [← HO.out]; kernel_rfl) (fun _ _ _ h => h) ?_ (hS) ?_; rotate_left; focus (intro w9 h9; go_simp; first | done | with_reducible rfl); all_goals skip))
   simp only [Act.put, List.setIfInBounds_toArray, List.set_cons_zero, List.set_cons_succ]
   (focus (refine hk_take (v := ?_) (by rw [← HO.out]; kernel_rfl) (by rw [← HO.out]; kernel_rfl) (by rw [← HO.out]; kernel_rfl) (by rw [← HO.out]; kernel_rfl) (fun _ _ _ h => h) ?_ (hS) ?_; rotate_left; focus (intro w9 h9; go_simp; first | done | with_reducible rfl); all_goals skip))
   simp only [Act.put, List.setIfInBounds_toArray, List.set_cons_zero, List.set_cons_succ]
   (focus (refine hk_take (v := ?_) (by rw [← HO.out]; kernel_rfl) (by rw [← HO.out]; kernel_rfl) (by rw [← HO.out]; kernel_rfl) (by rw [← HO.out]; kernel_rfl) (fun _ _ _ h => h) ?_ (hS) ?_; rotate_left; focus (intro w9 h9; go_simp; first | done | with_reducible rfl); all_goals skip))
   simp only [Act.put, List.setIfInBounds_toArray, List.set_cons_zero, List.set_cons_succ]
   refine fork.hk_mid (by rw [← HO.out]; kernel_rfl) (by rw [← HO.out]; kernel_rfl) (by rw [← HO.out]; kernel_rfl) (by rw [← HO.out]; kernel_rfl) (fun _ _ _ _ h => h) 58 _ rfl gh o6 rfl Hh.toList _ PH.out Tryd.underlying58 rfl IH.out hS ?_
   simp only [Act.put, List.setIfInBounds_toArray, List.set_cons_zero, List.set_cons_succ]
   (focus (refine hk_take (v := ?_) (by rw [← HO.out]; kernel_rfl) (by rw [← HO.out]; kernel_rfl) (by rw [← HO.out]; kernel_rfl) (by rw [← HO.out]; kernel_rfl) (fun _ _ _ h => h) ?_ (hS) ?_; rotate_left; focus (intro w9 h9; go_simp; first | done | with_reducible rfl); all_goals skip))
   simp only [Act.put, List.setIfInBounds_toArray, List.set_cons_zero, List.set_cons_succ]
   (focus (refine hk_take (v := ?_) (by rw [← HO.out]; kernel_rfl) (by rw [← HO.out]; kernel_rfl) (by rw [← HO.out]; kernel_rfl) (by rw [← HO.out]; kernel_rfl) (fun _ _ _ h => h) ?_ (hS) ?_; rotate_left; focus (intro w9 h9; go_simp; first | done | with_reducible rfl); all_goals skip))
   simp only [Act.put, List.setIfInBounds_toArray, List.set_cons_zero, List.set_cons_succ]
   (focus (refine hk_take (v := ?_) (by rw [← HO.out]; kernel_rfl) (by rw [← HO.out]; kernel_rfl) (by rw [← HO.out]; kernel_rfl) (by rw [← HO.out]; kernel_rfl) (fun _ _ _ h => h) ?_ (hS) ?_; rotate_left; focus (intro w9 h9; have hc := K2.out w9 h9; go_simp; first | done | with_reducible rfl); all_goals skip))
   simp only [Act.put, List.setIfInBounds_toArray, List.set_cons_zero, List.set_cons_succ]
   (focus (refine hk_take (v := ?_) (by rw [← HO.out]; kernel_rfl) (by rw [← HO.out]; kernel_rfl) (by rw [← HO.out]; kernel_rfl) (by rw [← HO.out]; kernel_rfl) (fun _ _ _ h => h) ?_ (hS) ?_; rotate_left; focus (intro w9 h9; go_simp; first | done | with_reducible rfl); all_goals skip))
   simp only [Act.put, List.setIfInBounds_toArray, List.set_cons_zero, List.set_cons_succ]
   (focus (refine hk_take (v := ?_) (by rw [← HO.out]; kernel_rfl) (by rw [← HO.out]; kernel_rfl) (by rw [← HO.out]; kernel_rfl) (by rw [← HO.out]; kernel_rfl) (fun _ _ _ h => h) ?_ (hS) ?_; rotate_left; focus (intro w9 h9; go_simp; first | done | with_reducible rfl); all_goals skip))
   simp only [Act.put, List.setIfInBounds_toArray, List.set_cons_zero, List.set_cons_succ]
   refine fork.hk_mid (by rw [← HO.out]; kernel_rfl) (by rw [← HO.out]; kernel_rfl) (by rw [← HO.out]; kernel_rfl) (by rw [← HO.out]; kernel_rfl) (fun _ _ _ _ h => h) 58 _ rfl g3 o6 rfl G3.toList _ P3.out Tryd.underlying58 rfl I3.out hS ?_
   simp only [Act.put, List.setIfInBounds_toArray, List.set_cons_zero, List.set_cons_succ]
   refine hk_step (by rw [← HO.out]; kernel_rfl) (by rw [← HO.out]; kernel_rfl) (fun K hK => ?_)
   go_simp
   refine (HAd9.out _).mono ?_
   rintro x w10 ⟨rfl, hb10⟩
   have h10 : Below W9.heap.size W9 w10 := hS.trans (hb10.mono hS.size)
   refine hK _ _ h10 ?_
   clear hK K
   try simp only [Act.put, List.setIfInBounds_toArray, List.set_cons_zero, List.set_cons_succ]
   refine hk_step (by rw [← HO.out]; kernel_rfl) (by rw [← HO.out]; kernel_rfl) (fun K hK => ?_)
   go_simp
   refine (HSl9.out _).mono ?_
   rintro x w11 ⟨rfl, hb11⟩
   have h11 : Below W9.heap.size W9 w11 := h10.trans (hb11.mono h10.size)
   refine hK _ _ h11 ?_
   clear hK K
   try simp only [Act.put, List.setIfInBounds_toArray, List.set_cons_zero, List.set_cons_succ]
   refine hk_step (by rw [← HO.out]; kernel_rfl) (by rw [← HO.out]; kernel_rfl) (fun K hK => ?_)
   go_simp
   refine (HAe9.out _).mono ?_
   rintro x w12 ⟨rfl, hb12⟩
   have h12 : Below W9.heap.size W9 w12 := h11.trans (hb12.mono h11.size)
   refine hK _ _ h12 ?_
   clear hK K
   try simp only [Act.put, List.setIfInBounds_toArray, List.set_cons_zero, List.set_cons_succ]
   (focus (refine hk_take (v := ?_) (by rw [← HO.out]; kernel_rfl) (by rw [← HO.out]; kernel_rfl) (by rw [← HO.out]; kernel_rfl) (by rw [← HO.out]; kernel_rfl) (fun _ _ _ h => h) ?_ (h12) ?_; rotate_left; focus (intro w9 h9; have hc := HEq9.out w9; go_simp; first | done | with_reducible rfl); all_goals skip))
   simp only [Act.put, List.setIfInBounds_toArray, List.set_cons_zero, List.set_cons_succ]
   refine hk_nil (by rw [← HO.out]; kernel_rfl) ?_
   have H12 : Away (Below w8.heap.size w8 w12) := ⟨H9.out.trans (h12.mono H9.out.size)⟩
   clear hS HO hb10 h10 hb11 h11 hb12 h12
   go_wp2_with fail
   go_roundw
   case rel => exact ⟨i + 1, by have := Hlt.out; omega, by go_num, H12⟩
   case measure => have := Hlt.out; simp [intOf]; omega
  ·obtain rfl : i = kn := by omega
   have F9 : Away (Below W2.heap.size W2 wr) := ⟨F8.out.trans (Hb.out.mono F8.out.size)⟩
   have hc := CK.out wr F9.out
   go_wp2_with fail
   refine (HA.out _ (GP.out _ F9.out)).mono ?_
   rintro x w13 ⟨rfl, hb13⟩
   have E13 : Away (Below w.heap.size w w13) := ⟨E2.out.trans ((F9.out.trans (hb13.mono F9.out.size)).mono E2.out.size)⟩
   clear hb13
   go_wp2_with fail
   go_ret
   exact ⟨rfl, E13.out⟩
end Go.Proofs.YtlcafjdehcddcaaDoor.kho
