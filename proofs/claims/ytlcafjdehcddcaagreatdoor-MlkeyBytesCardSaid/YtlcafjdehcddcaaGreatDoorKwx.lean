/-
  What keccak's own mix does: the state behind a pointer is mixed; all other memory that was there stays as it was. Conditions: the state has 25 words of 64 bits. What keccak's own turn does: the state behind the first pointer becomes the second's, each lane turned by the amount of its index and moved; all other memory that was there stays as it was. Conditions: both have 25 words, the second's have 64 bits, the amounts are not negative, the first lies in another block than the others, and the package's variable 'places' holds what the program's text lays there. What keccak's own bend does: the state behind the first pointer becomes the bent state of the second; all other memory that was there stays as it was. Conditions: both have 25 words, the second's have 64 bits, and they lie in different blocks. What keccak's own step does: the state behind the second pointer goes through one round, by the tables behind the first; all other memory that was there stays as it was. Conditions: the state has 25 words of 64 bits, it lies in a block of its own, and the package's variable 'places' holds what the program's text lays there.
-/
import Derived.Test.YtlcafjdehcddcaaGreatDoorKcB
import Derived.Test.YtlcafjdehcddcaaGreatDoorProg
namespace Go.Proofs.YtlcafjdehcddcaaGreatDoor
namespace kmix
open Go.RowKit
open arr mem kecm kecb
theorem rot1 (x r : Nat) (w : World) (hx : x < 18446744073709551616) (hr : rol x 1 = r) :
 Calls Tryz.prog 143 #[.int .u64 (x : Int), .int .i64 1] w fun e w' => e = .returned (.int .u64 (r : Int)) ∧ w' = w := by
 subst hr; exact rols.rotl_any x 1 w hx (by decide)
set_option maxRecDepth 100000 in
set_option maxHeartbeats 4000000 in
theorem mix_any (ga : Nat) (a : List Nat) (w : World) (h : St a) (hA : w.heap[ga]? = some (.cells (LK .u64 a) 128 (0, 0))) :
 Calls Tryz.prog 140 #[.pointer (some ⟨ga, 0, none⟩)] w fun e w' => e = .returned (.tuple #[]) ∧ At ga (LK .u64 (mixL a)) 128 w w' := by
 have H := Away.mk h
 have HA := Away.mk hA
 obtain ⟨y0, hy0⟩ : ∃ x, g a 0 = x := ⟨_, rfl⟩
 have c0 := lane_at h.len hA 0 y0 (by decide) hy0
 have l0 : y0 < 18446744073709551616 := hy0 ▸ h.lt 0
 obtain ⟨y1, hy1⟩ : ∃ x, g a 1 = x := ⟨_, rfl⟩
 have c1 := lane_at h.len hA 1 y1 (by decide) hy1
 have l1 : y1 < 18446744073709551616 := hy1 ▸ h.lt 1
 obtain ⟨y2, hy2⟩ : ∃ x, g a 2 = x := ⟨_, rfl⟩
 have c2 := lane_at h.len hA 2 y2 (by decide) hy2
 have l2 : y2 < 18446744073709551616 := hy2 ▸ h.lt 2
 obtain ⟨y3, hy3⟩ : ∃ x, g a 3 = x := ⟨_, rfl⟩
 have c3 := lane_at h.len hA 3 y3 (by decide) hy3
 have l3 : y3 < 18446744073709551616 := hy3 ▸ h.lt 3
 obtain ⟨y4, hy4⟩ : ∃ x, g a 4 = x := ⟨_, rfl⟩
 have c4 := lane_at h.len hA 4 y4 (by decide) hy4
 have l4 : y4 < 18446744073709551616 := hy4 ▸ h.lt 4
 obtain ⟨y5, hy5⟩ : ∃ x, g a 5 = x := ⟨_, rfl⟩
 have c5 := lane_at h.len hA 5 y5 (by decide) hy5
 have l5 : y5 < 18446744073709551616 := hy5 ▸ h.lt 5
 obtain ⟨y6, hy6⟩ : ∃ x, g a 6 = x := ⟨_, rfl⟩
 have c6 := lane_at h.len hA 6 y6 (by decide) hy6
 have l6 : y6 < 18446744073709551616 := hy6 ▸ h.lt 6
 obtain ⟨y7, hy7⟩ : ∃ x, g a 7 = x := ⟨_, rfl⟩
 have c7 := lane_at h.len hA 7 y7 (by decide) hy7
 have l7 : y7 < 18446744073709551616 := hy7 ▸ h.lt 7
 obtain ⟨y8, hy8⟩ : ∃ x, g a 8 = x := ⟨_, rfl⟩
 have c8 := lane_at h.len hA 8 y8 (by decide) hy8
 have l8 : y8 < 18446744073709551616 := hy8 ▸ h.lt 8
 obtain ⟨y9, hy9⟩ : ∃ x, g a 9 = x := ⟨_, rfl⟩
 have c9 := lane_at h.len hA 9 y9 (by decide) hy9
 have l9 : y9 < 18446744073709551616 := hy9 ▸ h.lt 9
 obtain ⟨y10, hy10⟩ : ∃ x, g a 10 = x := ⟨_, rfl⟩
 have c10 := lane_at h.len hA 10 y10 (by decide) hy10
 have l10 : y10 < 18446744073709551616 := hy10 ▸ h.lt 10
 obtain ⟨y11, hy11⟩ : ∃ x, g a 11 = x := ⟨_, rfl⟩
 have c11 := lane_at h.len hA 11 y11 (by decide) hy11
 have l11 : y11 < 18446744073709551616 := hy11 ▸ h.lt 11
 obtain ⟨y12, hy12⟩ : ∃ x, g a 12 = x := ⟨_, rfl⟩
 have c12 := lane_at h.len hA 12 y12 (by decide) hy12
 have l12 : y12 < 18446744073709551616 := hy12 ▸ h.lt 12
 obtain ⟨y13, hy13⟩ : ∃ x, g a 13 = x := ⟨_, rfl⟩
 have c13 := lane_at h.len hA 13 y13 (by decide) hy13
 have l13 : y13 < 18446744073709551616 := hy13 ▸ h.lt 13
 obtain ⟨y14, hy14⟩ : ∃ x, g a 14 = x := ⟨_, rfl⟩
 have c14 := lane_at h.len hA 14 y14 (by decide) hy14
 have l14 : y14 < 18446744073709551616 := hy14 ▸ h.lt 14
 obtain ⟨y15, hy15⟩ : ∃ x, g a 15 = x := ⟨_, rfl⟩
 have c15 := lane_at h.len hA 15 y15 (by decide) hy15
 have l15 : y15 < 18446744073709551616 := hy15 ▸ h.lt 15
 obtain ⟨y16, hy16⟩ : ∃ x, g a 16 = x := ⟨_, rfl⟩
 have c16 := lane_at h.len hA 16 y16 (by decide) hy16
 have l16 : y16 < 18446744073709551616 := hy16 ▸ h.lt 16
 obtain ⟨y17, hy17⟩ : ∃ x, g a 17 = x := ⟨_, rfl⟩
 have c17 := lane_at h.len hA 17 y17 (by decide) hy17
 have l17 : y17 < 18446744073709551616 := hy17 ▸ h.lt 17
 obtain ⟨y18, hy18⟩ : ∃ x, g a 18 = x := ⟨_, rfl⟩
 have c18 := lane_at h.len hA 18 y18 (by decide) hy18
 have l18 : y18 < 18446744073709551616 := hy18 ▸ h.lt 18
 obtain ⟨y19, hy19⟩ : ∃ x, g a 19 = x := ⟨_, rfl⟩
 have c19 := lane_at h.len hA 19 y19 (by decide) hy19
 have l19 : y19 < 18446744073709551616 := hy19 ▸ h.lt 19
 obtain ⟨y20, hy20⟩ : ∃ x, g a 20 = x := ⟨_, rfl⟩
 have c20 := lane_at h.len hA 20 y20 (by decide) hy20
 have l20 : y20 < 18446744073709551616 := hy20 ▸ h.lt 20
 obtain ⟨y21, hy21⟩ : ∃ x, g a 21 = x := ⟨_, rfl⟩
 have c21 := lane_at h.len hA 21 y21 (by decide) hy21
 have l21 : y21 < 18446744073709551616 := hy21 ▸ h.lt 21
 obtain ⟨y22, hy22⟩ : ∃ x, g a 22 = x := ⟨_, rfl⟩
 have c22 := lane_at h.len hA 22 y22 (by decide) hy22
 have l22 : y22 < 18446744073709551616 := hy22 ▸ h.lt 22
 obtain ⟨y23, hy23⟩ : ∃ x, g a 23 = x := ⟨_, rfl⟩
 have c23 := lane_at h.len hA 23 y23 (by decide) hy23
 have l23 : y23 < 18446744073709551616 := hy23 ▸ h.lt 23
 obtain ⟨y24, hy24⟩ : ∃ x, g a 24 = x := ⟨_, rfl⟩
 have c24 := lane_at h.len hA 24 y24 (by decide) hy24
 have l24 : y24 < 18446744073709551616 := hy24 ▸ h.lt 24
 obtain ⟨k0, hk0⟩ : ∃ x, kc a 0 = x := ⟨_, rfl⟩
 have m0 : k0 < 18446744073709551616 := hk0 ▸ kc_lt h 0
 have E0 := xor5 y0 y5 y10 y15 y20 k0 l0 l5 l10 l15 l20 (by rw [← hk0]; show _ = g a 0 ^^^ g a 5 ^^^ g a 10 ^^^ g a 15 ^^^ g a 20; rw [hy0, hy5, hy10, hy15, hy20])
 obtain ⟨r0, hr0⟩ : ∃ x, rol (kc a 0) 1 = x := ⟨_, rfl⟩
 have n0 : r0 < 18446744073709551616 := hr0 ▸ rol_lt _ _ (kc_lt h 0)
 obtain ⟨k1, hk1⟩ : ∃ x, kc a 1 = x := ⟨_, rfl⟩
 have m1 : k1 < 18446744073709551616 := hk1 ▸ kc_lt h 1
 have E1 := xor5 y1 y6 y11 y16 y21 k1 l1 l6 l11 l16 l21 (by rw [← hk1]; show _ = g a 1 ^^^ g a 6 ^^^ g a 11 ^^^ g a 16 ^^^ g a 21; rw [hy1, hy6, hy11, hy16, hy21])
 obtain ⟨r1, hr1⟩ : ∃ x, rol (kc a 1) 1 = x := ⟨_, rfl⟩
 have n1 : r1 < 18446744073709551616 := hr1 ▸ rol_lt _ _ (kc_lt h 1)
 obtain ⟨k2, hk2⟩ : ∃ x, kc a 2 = x := ⟨_, rfl⟩
 have m2 : k2 < 18446744073709551616 := hk2 ▸ kc_lt h 2
 have E2 := xor5 y2 y7 y12 y17 y22 k2 l2 l7 l12 l17 l22 (by rw [← hk2]; show _ = g a 2 ^^^ g a 7 ^^^ g a 12 ^^^ g a 17 ^^^ g a 22; rw [hy2, hy7, hy12, hy17, hy22])
 obtain ⟨r2, hr2⟩ : ∃ x, rol (kc a 2) 1 = x := ⟨_, rfl⟩
 have n2 : r2 < 18446744073709551616 := hr2 ▸ rol_lt _ _ (kc_lt h 2)
 obtain ⟨k3, hk3⟩ : ∃ x, kc a 3 = x := ⟨_, rfl⟩
 have m3 : k3 < 18446744073709551616 := hk3 ▸ kc_lt h 3
 have E3 := xor5 y3 y8 y13 y18 y23 k3 l3 l8 l13 l18 l23 (by rw [← hk3]; show _ = g a 3 ^^^ g a 8 ^^^ g a 13 ^^^ g a 18 ^^^ g a 23; rw [hy3, hy8, hy13, hy18, hy23])
 obtain ⟨r3, hr3⟩ : ∃ x, rol (kc a 3) 1 = x := ⟨_, rfl⟩
 have n3 : r3 < 18446744073709551616 := hr3 ▸ rol_lt _ _ (kc_lt h 3)
 obtain ⟨k4, hk4⟩ : ∃ x, kc a 4 = x := ⟨_, rfl⟩
 have m4 : k4 < 18446744073709551616 := hk4 ▸ kc_lt h 4
 have E4 := xor5 y4 y9 y14 y19 y24 k4 l4 l9 l14 l19 l24 (by rw [← hk4]; show _ = g a 4 ^^^ g a 9 ^^^ g a 14 ^^^ g a 19 ^^^ g a 24; rw [hy4, hy9, hy14, hy19, hy24])
 obtain ⟨r4, hr4⟩ : ∃ x, rol (kc a 4) 1 = x := ⟨_, rfl⟩
 have n4 : r4 < 18446744073709551616 := hr4 ▸ rol_lt _ _ (kc_lt h 4)
 obtain ⟨d0, hd0⟩ : ∃ x, kd a 0 = x := ⟨_, rfl⟩
 have D0 := xor2 k4 r1 d0 m4 n1 (kd_is a 0 4 1 k4 r1 d0 rfl rfl hk4 hr1 hd0)
 have b0 : d0 < 18446744073709551616 := hd0 ▸ kd_lt h 0
 have Hd0 := Away.mk hd0
 have R0 : Away (rol k0 1 = r0) := ⟨by rw [← hk0, hr0]⟩
 obtain ⟨d1, hd1⟩ : ∃ x, kd a 1 = x := ⟨_, rfl⟩
 have D1 := xor2 k0 r2 d1 m0 n2 (kd_is a 1 0 2 k0 r2 d1 rfl rfl hk0 hr2 hd1)
 have b1 : d1 < 18446744073709551616 := hd1 ▸ kd_lt h 1
 have Hd1 := Away.mk hd1
 have R1 : Away (rol k1 1 = r1) := ⟨by rw [← hk1, hr1]⟩
 obtain ⟨d2, hd2⟩ : ∃ x, kd a 2 = x := ⟨_, rfl⟩
 have D2 := xor2 k1 r3 d2 m1 n3 (kd_is a 2 1 3 k1 r3 d2 rfl rfl hk1 hr3 hd2)
 have b2 : d2 < 18446744073709551616 := hd2 ▸ kd_lt h 2
 have Hd2 := Away.mk hd2
 have R2 : Away (rol k2 1 = r2) := ⟨by rw [← hk2, hr2]⟩
 obtain ⟨d3, hd3⟩ : ∃ x, kd a 3 = x := ⟨_, rfl⟩
 have D3 := xor2 k2 r4 d3 m2 n4 (kd_is a 3 2 4 k2 r4 d3 rfl rfl hk2 hr4 hd3)
 have b3 : d3 < 18446744073709551616 := hd3 ▸ kd_lt h 3
 have Hd3 := Away.mk hd3
 have R3 : Away (rol k3 1 = r3) := ⟨by rw [← hk3, hr3]⟩
 obtain ⟨d4, hd4⟩ : ∃ x, kd a 4 = x := ⟨_, rfl⟩
 have D4 := xor2 k3 r0 d4 m3 n0 (kd_is a 4 3 0 k3 r0 d4 rfl rfl hk3 hr0 hd4)
 have b4 : d4 < 18446744073709551616 := hd4 ▸ kd_lt h 4
 have Hd4 := Away.mk hd4
 have R4 : Away (rol k4 1 = r4) := ⟨by rw [← hk4, hr4]⟩
 clear hy0 hy1 hy2 hy3 hy4 hy5 hy6 hy7 hy8 hy9 hy10 hy11 hy12 hy13 hy14 hy15 hy16 hy17 hy18 hy19 hy20 hy21 hy22 hy23 hy24 l0 l1 l2 l3 l4 l5 l6 l7 l8 l9 l10 l11 l12 l13 l14 l15 l16 l17 l18 l19 l20 l21 l22 l23 l24 hk0 hr0 hd0 hk1 hr1 hd1 hk2 hr2 hd2 hk3 hr3 hd3 hk4 hr4 hd4
 clear h hA
 go_enter Tryz.func140, Tryz.ntmps140
 go_wp2_with fail
 refine still_all (by kernel_rfl) (by kernel_rfl) ?_
 repeat still_step
 refine wpStill_nil ?_
 go_wp2_with fail
 refine still_all (by kernel_rfl) (by kernel_rfl) ?_
 repeat still_step
 refine wpStill_nil ?_
 go_wp2_with fail
 refine still_all (by kernel_rfl) (by kernel_rfl) ?_
 repeat still_step
 refine wpStill_nil ?_
 go_wp2_with fail
 refine still_all (by kernel_rfl) (by kernel_rfl) ?_
 repeat still_step
 refine wpStill_nil ?_
 go_wp2_with fail
 refine still_all (by kernel_rfl) (by kernel_rfl) ?_
 repeat still_step
 refine wpStill_nil ?_
 go_wp2_with fail
 clear c0 c1 c2 c3 c4 c5 c6 c7 c8 c9 c10 c11 c12 c13 c14 c15 c16 c17 c18 c19 c20 c21 c22 c23 c24 E0 E1 E2 E3 E4
 refine (rot1 k1 r1 _ m1 R1.out).mono ?_
 rintro e w1 ⟨rfl, rfl⟩
 go_wp2_with fail
 refine (rot1 k2 r2 _ m2 R2.out).mono ?_
 rintro e w1 ⟨rfl, rfl⟩
 go_wp2_with fail
 refine (rot1 k3 r3 _ m3 R3.out).mono ?_
 rintro e w1 ⟨rfl, rfl⟩
 go_wp2_with fail
 refine (rot1 k4 r4 _ m4 R4.out).mono ?_
 rintro e w1 ⟨rfl, rfl⟩
 go_wp2_with fail
 refine (rot1 k0 r0 _ m0 R0.out).mono ?_
 rintro e w1 ⟨rfl, rfl⟩
 go_wp2_with fail
 clear D0 D1 D2 D3 D4 R0 R1 R2 R3 R4 n0 m0   n1 m1   n2 m2   n3 m3   n4 m4
 have hlane : ∀ n : Nat, n < 25 → g a n < 18446744073709551616 := fun n _ => H.out.lt n
 go_loopw [12] (fun i wr => ∃ n : Nat, n ≤ 25 ∧ n % 5 = 0 ∧ i = .int .i64 (n : Int) ∧ Away (At ga (LK .u64 (kecm.part (fun i => i) (fun i => g a i ^^^ kd a i) (g a) n)) 128 w wr)) (fun i _ => 25 - (intOf i).toNat)
 case atStart =>
  refine ⟨0, by decide, rfl, rfl, ⟨?_⟩⟩
  rw [part_zero, mkS_eta H.out.len]
  exact at_drew (at_drew (at_drew (at_drew (at_drew (At.refl HA.out)))))
 case round =>
  obtain ⟨n, hn, hm, rfl, HR0⟩ := hrel
  by_cases hlt : n < 25
  ·have hn20 : n ≤ 20 := by omega
   clear hn hlt
   have u0 : n < 25 := by omega
   have z0 : (n : Int) < 25 := by omega
   obtain ⟨x0, hx0⟩ : ∃ x, g a n = x := ⟨_, rfl⟩
   obtain ⟨v0, hv0⟩ : ∃ x, g a n ^^^ kd a n = x := ⟨_, rfl⟩
   have V0 := xor2 x0 d0 v0 (hx0 ▸ H.out.lt _) b0 (by rw [← hv0, ← hx0, kd_mod a n 0 (by omega), Hd0.out])
   have S0 : Away ((LK .u64 (kecm.part (fun i => i) (fun i => g a i ^^^ kd a i) (g a) n)).setIfInBounds n (.int .u64 (v0 : Int)) = LK .u64 (kecm.part (fun i => i) (fun i => g a i ^^^ kd a i) (g a) (n + 1))) := ⟨by rw [part_lane n v0 u0 rfl (fun i _ e => e) hv0]⟩
   have Hx0 := Away.mk hx0
   clear hv0 hx0
   obtain ⟨q1, hq1⟩ : ∃ x, x = n + 1 := ⟨_, rfl⟩
   have wr1 : IntKind.i64.wrap ((n : Int) + 1) = (q1 : Int) := by rw [IntKind.wrap_i64]; omega
   have u1 : q1 < 25 := by omega
   have z1 : (q1 : Int) < 25 := by omega
   obtain ⟨x1, hx1⟩ : ∃ x, g a q1 = x := ⟨_, rfl⟩
   obtain ⟨v1, hv1⟩ : ∃ x, g a q1 ^^^ kd a q1 = x := ⟨_, rfl⟩
   have V1 := xor2 x1 d1 v1 (hx1 ▸ H.out.lt _) b1 (by rw [← hv1, ← hx1, kd_mod a q1 1 (by omega), Hd1.out])
   have S1 : Away ((LK .u64 (kecm.part (fun i => i) (fun i => g a i ^^^ kd a i) (g a) q1)).setIfInBounds q1 (.int .u64 (v1 : Int)) = LK .u64 (kecm.part (fun i => i) (fun i => g a i ^^^ kd a i) (g a) (n + 2))) := ⟨by rw [part_lane q1 v1 u1 rfl (fun i _ e => e) hv1]; rw [hq1]⟩
   have Hx1 := Away.mk hx1
   clear hv1 hx1
   obtain ⟨q2, hq2⟩ : ∃ x, x = n + 2 := ⟨_, rfl⟩
   have wr2 : IntKind.i64.wrap ((n : Int) + 2) = (q2 : Int) := by rw [IntKind.wrap_i64]; omega
   have u2 : q2 < 25 := by omega
   have z2 : (q2 : Int) < 25 := by omega
   obtain ⟨x2, hx2⟩ : ∃ x, g a q2 = x := ⟨_, rfl⟩
   obtain ⟨v2, hv2⟩ : ∃ x, g a q2 ^^^ kd a q2 = x := ⟨_, rfl⟩
   have V2 := xor2 x2 d2 v2 (hx2 ▸ H.out.lt _) b2 (by rw [← hv2, ← hx2, kd_mod a q2 2 (by omega), Hd2.out])
   have S2 : Away ((LK .u64 (kecm.part (fun i => i) (fun i => g a i ^^^ kd a i) (g a) q2)).setIfInBounds q2 (.int .u64 (v2 : Int)) = LK .u64 (kecm.part (fun i => i) (fun i => g a i ^^^ kd a i) (g a) (n + 3))) := ⟨by rw [part_lane q2 v2 u2 rfl (fun i _ e => e) hv2]; rw [hq2]⟩
   have Hx2 := Away.mk hx2
   clear hv2 hx2
   obtain ⟨q3, hq3⟩ : ∃ x, x = n + 3 := ⟨_, rfl⟩
   have wr3 : IntKind.i64.wrap ((n : Int) + 3) = (q3 : Int) := by rw [IntKind.wrap_i64]; omega
   have u3 : q3 < 25 := by omega
   have z3 : (q3 : Int) < 25 := by omega
   obtain ⟨x3, hx3⟩ : ∃ x, g a q3 = x := ⟨_, rfl⟩
   obtain ⟨v3, hv3⟩ : ∃ x, g a q3 ^^^ kd a q3 = x := ⟨_, rfl⟩
   have V3 := xor2 x3 d3 v3 (hx3 ▸ H.out.lt _) b3 (by rw [← hv3, ← hx3, kd_mod a q3 3 (by omega), Hd3.out])
   have S3 : Away ((LK .u64 (kecm.part (fun i => i) (fun i => g a i ^^^ kd a i) (g a) q3)).setIfInBounds q3 (.int .u64 (v3 : Int)) = LK .u64 (kecm.part (fun i => i) (fun i => g a i ^^^ kd a i) (g a) (n + 4))) := ⟨by rw [part_lane q3 v3 u3 rfl (fun i _ e => e) hv3]; rw [hq3]⟩
   have Hx3 := Away.mk hx3
   clear hv3 hx3
   obtain ⟨q4, hq4⟩ : ∃ x, x = n + 4 := ⟨_, rfl⟩
   have wr4 : IntKind.i64.wrap ((n : Int) + 4) = (q4 : Int) := by rw [IntKind.wrap_i64]; omega
   have u4 : q4 < 25 := by omega
   have z4 : (q4 : Int) < 25 := by omega
   obtain ⟨x4, hx4⟩ : ∃ x, g a q4 = x := ⟨_, rfl⟩
   obtain ⟨v4, hv4⟩ : ∃ x, g a q4 ^^^ kd a q4 = x := ⟨_, rfl⟩
   have V4 := xor2 x4 d4 v4 (hx4 ▸ H.out.lt _) b4 (by rw [← hv4, ← hx4, kd_mod a q4 4 (by omega), Hd4.out])
   have S4 : Away ((LK .u64 (kecm.part (fun i => i) (fun i => g a i ^^^ kd a i) (g a) q4)).setIfInBounds q4 (.int .u64 (v4 : Int)) = LK .u64 (kecm.part (fun i => i) (fun i => g a i ^^^ kd a i) (g a) (n + 5))) := ⟨by rw [part_lane q4 v4 u4 rfl (fun i _ e => e) hv4]; rw [hq4]⟩
   have Hx4 := Away.mk hx4
   clear hv4 hx4
   have Hq : Away (n % 5 = 0 ∧ q1 = n + 1 ∧ q2 = n + 2 ∧ q3 = n + 3 ∧ q4 = n + 4) := ⟨hm, hq1, hq2, hq3, hq4⟩
   clear hm hq1 hq2 hq3 hq4 b0 b1 b2 b3 b4
   have c0 : wr.cell? ⟨ga, n, none⟩ = some (.int .u64 (x0 : Int)) := cell_at HR0.out.row (by rw [lane_get (part_len _ _ _ _) _ u0, part_get _ _ _ _ _ u0 (by first | exact Nat.le_refl _ | (obtain ⟨_, h1, h2, h3, h4⟩ := Hq.out; omega)), Hx0.out])
   have f0 : wr.frozen? ⟨ga, n, none⟩ = false := HR0.out.frozen n
   go_wp2_with fail
   refine still_tail 9 (by kernel_rfl) (by kernel_rfl) ?_
   simp only [List.take_succ_cons, List.take_zero, List.drop_succ_cons, List.drop_zero]
   repeat still_step
   refine wpStill_nil ?_
   go_wp2_with fail
   have HR1 : Away (At ga (LK .u64 (kecm.part (fun i => i) (fun i => g a i ^^^ kd a i) (g a) (n + 1))) 128 w (wr.setCell ⟨ga, n, none⟩ (.int .u64 (v0 : Int))).drew) := ⟨by rw [← S0.out]; exact at_drew (at_put (HR0.out) _ _)⟩
   obtain ⟨w1, hw1⟩ : ∃ x, (wr.setCell ⟨ga, n, none⟩ (.int .u64 (v0 : Int))).drew = x := ⟨_, rfl⟩
   rw [hw1] at HR1
   rw [hw1]
   clear hw1 c0 f0 V0 S0 HR0
   rw [show n + 1 = q1 by have := Hq.out; omega] at HR1
   have c1 : w1.cell? ⟨ga, q1, none⟩ = some (.int .u64 (x1 : Int)) := cell_at HR1.out.row (by rw [lane_get (part_len _ _ _ _) _ u1, part_get _ _ _ _ _ u1 (by first | exact Nat.le_refl _ | (obtain ⟨_, h1, h2, h3, h4⟩ := Hq.out; omega)), Hx1.out])
   have f1 : w1.frozen? ⟨ga, q1, none⟩ = false := HR1.out.frozen q1
   skip
   refine still_tail 10 (by kernel_rfl) (by kernel_rfl) ?_
   simp only [List.take_succ_cons, List.take_zero, List.drop_succ_cons, List.drop_zero]
   repeat still_step
   refine wpStill_nil ?_
   go_wp2_with fail
   have HR2 : Away (At ga (LK .u64 (kecm.part (fun i => i) (fun i => g a i ^^^ kd a i) (g a) (n + 2))) 128 w (w1.setCell ⟨ga, q1, none⟩ (.int .u64 (v1 : Int))).drew) := ⟨by rw [← S1.out]; exact at_drew (at_put (HR1.out) _ _)⟩
   obtain ⟨w2, hw2⟩ : ∃ x, (w1.setCell ⟨ga, q1, none⟩ (.int .u64 (v1 : Int))).drew = x := ⟨_, rfl⟩
   rw [hw2] at HR2
   rw [hw2]
   clear hw2 c1 f1 V1 S1 HR1
   rw [show n + 2 = q2 by have := Hq.out; omega] at HR2
   have c2 : w2.cell? ⟨ga, q2, none⟩ = some (.int .u64 (x2 : Int)) := cell_at HR2.out.row (by rw [lane_get (part_len _ _ _ _) _ u2, part_get _ _ _ _ _ u2 (by first | exact Nat.le_refl _ | (obtain ⟨_, h1, h2, h3, h4⟩ := Hq.out; omega)), Hx2.out])
   have f2 : w2.frozen? ⟨ga, q2, none⟩ = false := HR2.out.frozen q2
   skip
   refine still_tail 10 (by kernel_rfl) (by kernel_rfl) ?_
   simp only [List.take_succ_cons, List.take_zero, List.drop_succ_cons, List.drop_zero]
   repeat still_step
   refine wpStill_nil ?_
   go_wp2_with fail
   have HR3 : Away (At ga (LK .u64 (kecm.part (fun i => i) (fun i => g a i ^^^ kd a i) (g a) (n + 3))) 128 w (w2.setCell ⟨ga, q2, none⟩ (.int .u64 (v2 : Int))).drew) := ⟨by rw [← S2.out]; exact at_drew (at_put (HR2.out) _ _)⟩
   obtain ⟨w3, hw3⟩ : ∃ x, (w2.setCell ⟨ga, q2, none⟩ (.int .u64 (v2 : Int))).drew = x := ⟨_, rfl⟩
   rw [hw3] at HR3
   rw [hw3]
   clear hw3 c2 f2 V2 S2 HR2
   rw [show n + 3 = q3 by have := Hq.out; omega] at HR3
   have c3 : w3.cell? ⟨ga, q3, none⟩ = some (.int .u64 (x3 : Int)) := cell_at HR3.out.row (by rw [lane_get (part_len _ _ _ _) _ u3, part_get _ _ _ _ _ u3 (by first | exact Nat.le_refl _ | (obtain ⟨_, h1, h2, h3, h4⟩ := Hq.out; omega)), Hx3.out])
   have f3 : w3.frozen? ⟨ga, q3, none⟩ = false := HR3.out.frozen q3
   skip
   refine still_tail 10 (by kernel_rfl) (by kernel_rfl) ?_
   simp only [List.take_succ_cons, List.take_zero, List.drop_succ_cons, List.drop_zero]
   repeat still_step
   refine wpStill_nil ?_
   go_wp2_with fail
   have HR4 : Away (At ga (LK .u64 (kecm.part (fun i => i) (fun i => g a i ^^^ kd a i) (g a) (n + 4))) 128 w (w3.setCell ⟨ga, q3, none⟩ (.int .u64 (v3 : Int))).drew) := ⟨by rw [← S3.out]; exact at_drew (at_put (HR3.out) _ _)⟩
   obtain ⟨w4, hw4⟩ : ∃ x, (w3.setCell ⟨ga, q3, none⟩ (.int .u64 (v3 : Int))).drew = x := ⟨_, rfl⟩
   rw [hw4] at HR4
   rw [hw4]
   clear hw4 c3 f3 V3 S3 HR3
   rw [show n + 4 = q4 by have := Hq.out; omega] at HR4
   have c4 : w4.cell? ⟨ga, q4, none⟩ = some (.int .u64 (x4 : Int)) := cell_at HR4.out.row (by rw [lane_get (part_len _ _ _ _) _ u4, part_get _ _ _ _ _ u4 (by first | exact Nat.le_refl _ | (obtain ⟨_, h1, h2, h3, h4⟩ := Hq.out; omega)), Hx4.out])
   have f4 : w4.frozen? ⟨ga, q4, none⟩ = false := HR4.out.frozen q4
   skip
   refine still_tail 10 (by kernel_rfl) (by kernel_rfl) ?_
   simp only [List.take_succ_cons, List.take_zero, List.drop_succ_cons, List.drop_zero]
   repeat still_step
   refine wpStill_nil ?_
   go_wp2_with fail
   have HR5 : Away (At ga (LK .u64 (kecm.part (fun i => i) (fun i => g a i ^^^ kd a i) (g a) (n + 5))) 128 w (w4.setCell ⟨ga, q4, none⟩ (.int .u64 (v4 : Int))).drew) := ⟨by rw [← S4.out]; exact at_drew (at_put (HR4.out) _ _)⟩
   go_roundw
   case rel => exact ⟨n + 5, by have := Hq.out; omega, by have := Hq.out; omega, by go_num, HR5⟩
   case measure => simp [intOf]; omega
  ·obtain rfl : n = 25 := by omega
   simp only [Int.cast_ofNat_Int]
   go_wp2_with fail
   refine bodyPost_end (v := .tuple #[]) (results_none rfl _ _ _) rfl ?_
   have h := HR0.out
   rw [part_all _ _ _ _ (fun i hi => hi)] at h
   exact ⟨rfl, h⟩
end kmix
namespace kturn
open Go.RowKit
open arr mem kecm kecb
def PL : List Nat := [0, 10, 20, 5, 15, 16, 1, 11, 21, 6, 7, 17, 2, 12, 22, 23, 8, 18, 3, 13, 14, 24, 9, 19, 4]
theorem pl_dst : ∀ k : Fin 25, PL.getD k.val 0 = dst k.val := by decide
def Gp (w : World) : Prop := ∃ t, w.heap[0]? = some (.cells (LK .i64 PL) t (0, 0))
theorem gp_lt {w : World} (h : Gp w) : 0 < w.heap.size := by
 obtain ⟨t, h⟩ := h
 exact lt_of_row h
theorem Gp.later {w w' : World} (h : Gp w) (hb : Below w.heap.size w w') : Gp w' := by
 have hl := gp_lt h
 obtain ⟨t, h⟩ := h
 exact ⟨t, (hb.block _ hl).trans h⟩
theorem Gp.at {w w' : World} {g : Nat} {C : Array Value} {t : TypeId} (h : Gp w) (hb : At g C t w w') (hg : g ≠ 0) : Gp w' := by
 have hl := gp_lt h
 obtain ⟨tt, h⟩ := h
 exact ⟨tt, hb.other hl (Ne.symm hg) h⟩
def tl (ts a : List Nat) (j : Nat) : Nat := rol (g a (src j)) (ts.getD (src j) 0 % 64)
theorem turn_is (ts a : List Nat) : turnL (fun i => ts.getD i 0) a = mkS (tl ts a) := rfl
set_option maxRecDepth 100000 in
set_option maxHeartbeats 4000000 in
theorem turn_any (gt ga gu o : Nat) (D a ts : List Nat) (w : World) (hD : D.length = 25) (h : St a) (ht : ∀ i, ts.getD i 0 < 9223372036854775808) (hP : Gp w)
 (hT : w.heap[gt]? = some (.cells (LK .u64 D) 128 (0, 0))) (hA : w.heap[ga]? = some (.cells (LK .u64 a) 128 (0, 0)))
 (hU : ∀ i, i < 25 → w.cell? ⟨gu, o + i, none⟩ = some (.int .i64 ((ts.getD i 0 : Nat) : Int))) (hga : ga ≠ gt) (hgu : gu ≠ gt) (hgl : gu < w.heap.size) :
 Calls Tryz.prog 141 #[.pointer (some ⟨gt, 0, none⟩), .pointer (some ⟨ga, 0, none⟩), .pointer (some ⟨gu, o, none⟩)] w fun e w' => e = .returned (.tuple #[]) ∧ At gt (LK .u64 (turnL (fun i => ts.getD i 0) a)) 128 w w' := by
 rw [turn_is]
 have H := Away.mk h
 have HA := Away.mk hA
 have HT := Away.mk hT
 have HD := Away.mk hD
 have HU := Away.mk hU
 have Ht := Away.mk ht
 have Hga := Away.mk hga
 have Hgu := Away.mk hgu
 have Hgl := Away.mk hgl
 have Hal := Away.mk (lt_of_row hA)
 obtain ⟨tp, hP1⟩ := hP
 have hpl : ∀ k, k < 25 → PL.getD k 0 = dst k := fun k hk => pl_dst ⟨k, hk⟩
 have hpz : PL.length = 25 := rfl
 obtain ⟨PV, HPV⟩ := ex_eq PL
 rw [HPV.out] at hP1 hpl hpz
 have HP := Away.mk hP1
 have Hpl := Away.mk hpl
 have Hpz := Away.mk hpz
 have Hps : Away ((Tryz.prog.info? 36).map (·.size) = some (LK .i64 PV).size) := ⟨by rw [lk_size, hpz]; kernel_rfl⟩
 clear h hA hT hD hU ht hga hgu hgl hP1 hpl hpz HPV
 go_enter Tryz.func141, Tryz.ntmps141
 go_wp2_with (refine wpList_load_row rfl 36 _ rfl 0 rfl tp _ (0, 0) _ HP.out Tryz.underlying36 rfl Hps.out ?_)
 go_loopw [9] (fun i wr => ∃ k : Nat, k ≤ 25 ∧ i = .int .i64 (k : Int) ∧ Away (At gt (LK .u64 (kecm.part src (tl ts a) (g D) k)) 128 w wr)) (fun i _ => 25 - (intOf i).toNat)
 case atStart =>
  refine ⟨0, by decide, rfl, ⟨?_⟩⟩
  rw [part_zero, mkS_eta HD.out]
  exact At.refl HT.out
 case round =>
  obtain ⟨k, hk, rfl, HR⟩ := hrel
  by_cases hlt : k < 25
  ·have hag : ∀ w : World, (Instr.index 36 (.agg (LK .i64 PV)) (.int .i64 (k : Int))).run Tryz.prog w = .ok (.int .i64 ((dst k : Nat) : Int)) w := fun w =>
    index_row Tryz.underlying36 (by kernel_rfl) (by kernel_rfl) (by kernel_rfl) _ _ k hlt (by rw [lk_get _ _ _ (by rw [Hpz.out]; exact hlt), Hpl.out k hlt]) w
   obtain ⟨j, hj⟩ : ∃ j, dst k = j := ⟨_, rfl⟩
   rw [hj] at hag
   have hj25 : j < 25 := hj ▸ dst_lt k hlt
   have hjz : (j : Int) < 25 := by omega
   have hkz : (k : Int) < 25 := by omega
   have hsj : src j = k := hj ▸ src_dst ⟨k, hlt⟩
   obtain ⟨x, hx⟩ : ∃ x, g a k = x := ⟨_, rfl⟩
   have bx : x < 18446744073709551616 := hx ▸ H.out.lt k
   obtain ⟨t, htt⟩ : ∃ t, ts.getD k 0 = t := ⟨_, rfl⟩
   have bt : t < 9223372036854775808 := htt ▸ Ht.out k
   have cx := lane_at H.out.len (HR.out.other Hal.out Hga.out HA.out) k x hlt hx
   have ct : wr.cell? ⟨gu, o + k, none⟩ = some (.int .i64 (t : Int)) := by
    have h1 := HU.out k hlt
    rw [htt] at h1
    rw [← h1]
    unfold World.cell?
    rw [HR.out.block gu Hgl.out Hgu.out]
   have HS : Away ((LK .u64 (kecm.part src (tl ts a) (g D) k)).setIfInBounds j (.int .u64 ((rol x (t % 64) : Nat) : Int)) = LK .u64 (kecm.part src (tl ts a) (g D) (k + 1))) := ⟨part_lane j _ hj25 hsj (fun i hi e => by have := dst_src ⟨i, hi⟩; simp only at this; rw [← this, e, hj]) (by rw [tl, hsj, hx, htt])⟩
   clear hsj hx htt hj
   go_wp2_with fail
   refine still_tail 15 (by kernel_rfl) (by kernel_rfl) ?_
   simp only [List.take_succ_cons, List.take_zero, List.drop_succ_cons, List.drop_zero]
   repeat still_step
   still_call (rols.rotl_any x t _ bx bt)
   repeat still_step
   refine wpStill_nil ?_
   have HR1 : Away (At gt (LK .u64 (kecm.part src (tl ts a) (g D) k)) 128 w wr.drew) := ⟨at_drew HR.out⟩
   clear cx ct
   with_reducible refine wpList_put2 HR1 rfl _ _ _ rfl rfl ?_
   refine ⟨_, _, _, rfl, rfl, rfl, by rw [lk25 _ (part_len _ _ _ _)]; exact hj25, ?_⟩
   intro wn HRn
   rw [HS.out] at HRn
   clear hag HS HR1
   go_wp2_with fail
   go_roundw
   case rel => exact ⟨k + 1, by omega, by go_num, HRn⟩
   case measure => simp [intOf]; omega
  ·obtain rfl : k = 25 := by omega
   simp only [Int.cast_ofNat_Int]
   go_wp2_with fail
   refine bodyPost_end (v := .tuple #[]) (results_none rfl _ _ _) rfl ?_
   have h := HR.out
   rw [part_all _ _ _ _ (fun i hi => src_lt i hi)] at h
   exact ⟨rfl, h⟩
end kturn
namespace kbend
open Go.RowKit
open arr mem kecm kecb
def bl (a : List Nat) (i : Nat) : Nat := g a i ^^^ (not64 (g a ((i % 5 + 1) % 5 + 5 * (i / 5))) &&& g a ((i % 5 + 2) % 5 + 5 * (i / 5)))
theorem bl_is (a : List Nat) (i p q x y z r : Nat) (hp : (i % 5 + 1) % 5 + 5 * (i / 5) = p) (hq : (i % 5 + 2) % 5 + 5 * (i / 5) = q) (hx : g a i = x) (hy : g a p = y) (hz : g a q = z) (hr : bl a i = r) : x ^^^ (not64 y &&& z) = r := by
 rw [← hr, bl, hp, hq, hx, hy, hz]
set_option maxRecDepth 100000 in
set_option maxHeartbeats 4000000 in
theorem bend_any (gb ga : Nat) (D a : List Nat) (w : World) (hD : D.length = 25) (h : St a) (hB : w.heap[gb]? = some (.cells (LK .u64 D) 128 (0, 0))) (hA : w.heap[ga]? = some (.cells (LK .u64 a) 128 (0, 0))) (hne : ga ≠ gb) :
 Calls Tryz.prog 142 #[.pointer (some ⟨gb, 0, none⟩), .pointer (some ⟨ga, 0, none⟩)] w fun e w' => e = .returned (.tuple #[]) ∧ At gb (LK .u64 (bendL a)) 128 w w' := by
 have H := Away.mk h
 have HA := Away.mk hA
 have HB := Away.mk hB
 have HD := Away.mk hD
 have Hne := Away.mk hne
 have Hlt := Away.mk (lt_of_row hA)
 clear h hA hB hD hne
 go_enter Tryz.func142, Tryz.ntmps142
 go_wp2_with fail
 go_loopw [4] (fun i wr => ∃ n : Nat, n ≤ 25 ∧ n % 5 = 0 ∧ i = .int .i64 (n : Int) ∧ Away (At gb (LK .u64 (kecm.part (fun i => i) (bl a) (g D) n)) 128 w wr)) (fun i _ => 25 - (intOf i).toNat)
 case atStart =>
  refine ⟨0, by decide, rfl, rfl, ⟨?_⟩⟩
  rw [part_zero, mkS_eta HD.out]
  exact At.refl HB.out
 case round =>
  obtain ⟨n, hn, hm, rfl, HR0⟩ := hrel
  by_cases hlt : n < 25
  ·have hn20 : n ≤ 20 := by omega
   have hA2 := HR0.out.other Hlt.out Hne.out HA.out
   clear hn hlt
   have u0 : n < 25 := by omega
   have z0 : (n : Int) < 25 := by omega
   obtain ⟨x0, hx0⟩ : ∃ x, g a n = x := ⟨_, rfl⟩
   have b0 : x0 < 18446744073709551616 := hx0 ▸ H.out.lt _
   have c0 := lane_at H.out.len hA2 n x0 u0 hx0
   obtain ⟨q1, hq1⟩ : ∃ x, x = n + 1 := ⟨_, rfl⟩
   have wr1 : IntKind.i64.wrap ((n : Int) + 1) = (q1 : Int) := by rw [IntKind.wrap_i64]; omega
   have ws1 : (n : Int) + 1 = (q1 : Int) := by omega
   have u1 : q1 < 25 := by omega
   have z1 : (q1 : Int) < 25 := by omega
   obtain ⟨x1, hx1⟩ : ∃ x, g a q1 = x := ⟨_, rfl⟩
   have b1 : x1 < 18446744073709551616 := hx1 ▸ H.out.lt _
   have c1 := lane_at H.out.len hA2 q1 x1 u1 hx1
   obtain ⟨q2, hq2⟩ : ∃ x, x = n + 2 := ⟨_, rfl⟩
   have wr2 : IntKind.i64.wrap ((n : Int) + 2) = (q2 : Int) := by rw [IntKind.wrap_i64]; omega
   have ws2 : (n : Int) + 2 = (q2 : Int) := by omega
   have u2 : q2 < 25 := by omega
   have z2 : (q2 : Int) < 25 := by omega
   obtain ⟨x2, hx2⟩ : ∃ x, g a q2 = x := ⟨_, rfl⟩
   have b2 : x2 < 18446744073709551616 := hx2 ▸ H.out.lt _
   have c2 := lane_at H.out.len hA2 q2 x2 u2 hx2
   obtain ⟨q3, hq3⟩ : ∃ x, x = n + 3 := ⟨_, rfl⟩
   have wr3 : IntKind.i64.wrap ((n : Int) + 3) = (q3 : Int) := by rw [IntKind.wrap_i64]; omega
   have ws3 : (n : Int) + 3 = (q3 : Int) := by omega
   have u3 : q3 < 25 := by omega
   have z3 : (q3 : Int) < 25 := by omega
   obtain ⟨x3, hx3⟩ : ∃ x, g a q3 = x := ⟨_, rfl⟩
   have b3 : x3 < 18446744073709551616 := hx3 ▸ H.out.lt _
   have c3 := lane_at H.out.len hA2 q3 x3 u3 hx3
   obtain ⟨q4, hq4⟩ : ∃ x, x = n + 4 := ⟨_, rfl⟩
   have wr4 : IntKind.i64.wrap ((n : Int) + 4) = (q4 : Int) := by rw [IntKind.wrap_i64]; omega
   have ws4 : (n : Int) + 4 = (q4 : Int) := by omega
   have u4 : q4 < 25 := by omega
   have z4 : (q4 : Int) < 25 := by omega
   obtain ⟨x4, hx4⟩ : ∃ x, g a q4 = x := ⟨_, rfl⟩
   have b4 : x4 < 18446744073709551616 := hx4 ▸ H.out.lt _
   have c4 := lane_at H.out.len hA2 q4 x4 u4 hx4
   obtain ⟨v0, hv0⟩ : ∃ x, bl a n = x := ⟨_, rfl⟩
   have V0 := bendz x0 x1 x2 v0 b0 b2 (bl_is a n q1 q2 x0 x1 x2 v0 (by omega) (by omega) hx0 hx1 hx2 hv0)
   have S0 : Away ((LK .u64 (kecm.part (fun i => i) (bl a) (g D) n)).setIfInBounds n (.int .u64 (v0 : Int)) = LK .u64 (kecm.part (fun i => i) (bl a) (g D) (n + 1))) := ⟨by rw [part_lane n v0 u0 rfl (fun i _ e => e) hv0]⟩
   obtain ⟨v1, hv1⟩ : ∃ x, bl a q1 = x := ⟨_, rfl⟩
   have V1 := bendz x1 x2 x3 v1 b1 b3 (bl_is a q1 q2 q3 x1 x2 x3 v1 (by omega) (by omega) hx1 hx2 hx3 hv1)
   have S1 : Away ((LK .u64 (kecm.part (fun i => i) (bl a) (g D) q1)).setIfInBounds q1 (.int .u64 (v1 : Int)) = LK .u64 (kecm.part (fun i => i) (bl a) (g D) (n + 2))) := ⟨by rw [part_lane q1 v1 u1 rfl (fun i _ e => e) hv1]; rw [hq1]⟩
   obtain ⟨v2, hv2⟩ : ∃ x, bl a q2 = x := ⟨_, rfl⟩
   have V2 := bendz x2 x3 x4 v2 b2 b4 (bl_is a q2 q3 q4 x2 x3 x4 v2 (by omega) (by omega) hx2 hx3 hx4 hv2)
   have S2 : Away ((LK .u64 (kecm.part (fun i => i) (bl a) (g D) q2)).setIfInBounds q2 (.int .u64 (v2 : Int)) = LK .u64 (kecm.part (fun i => i) (bl a) (g D) (n + 3))) := ⟨by rw [part_lane q2 v2 u2 rfl (fun i _ e => e) hv2]; rw [hq2]⟩
   obtain ⟨v3, hv3⟩ : ∃ x, bl a q3 = x := ⟨_, rfl⟩
   have V3 := bendz x3 x4 x0 v3 b3 b0 (bl_is a q3 q4 n x3 x4 x0 v3 (by omega) (by omega) hx3 hx4 hx0 hv3)
   have S3 : Away ((LK .u64 (kecm.part (fun i => i) (bl a) (g D) q3)).setIfInBounds q3 (.int .u64 (v3 : Int)) = LK .u64 (kecm.part (fun i => i) (bl a) (g D) (n + 4))) := ⟨by rw [part_lane q3 v3 u3 rfl (fun i _ e => e) hv3]; rw [hq3]⟩
   obtain ⟨v4, hv4⟩ : ∃ x, bl a q4 = x := ⟨_, rfl⟩
   have V4 := bendz x4 x0 x1 v4 b4 b1 (bl_is a q4 n q1 x4 x0 x1 v4 (by omega) (by omega) hx4 hx0 hx1 hv4)
   have S4 : Away ((LK .u64 (kecm.part (fun i => i) (bl a) (g D) q4)).setIfInBounds q4 (.int .u64 (v4 : Int)) = LK .u64 (kecm.part (fun i => i) (bl a) (g D) (n + 5))) := ⟨by rw [part_lane q4 v4 u4 rfl (fun i _ e => e) hv4]; rw [hq4]⟩
   have Hq : Away (n % 5 = 0 ∧ q1 = n + 1 ∧ q2 = n + 2 ∧ q3 = n + 3 ∧ q4 = n + 4) := ⟨hm, hq1, hq2, hq3, hq4⟩
   clear hm hq1 ws1 hq2 ws2 hq3 ws3 hq4 ws4 hA2 hx0 hv0 hx1 hv1 hx2 hv2 hx3 hv3 hx4 hv4
   go_wp2_with fail
   refine still_all (by kernel_rfl) (by kernel_rfl) ?_
   iterate 34 still_step
   refine wpStill_nil ?_
   have HR0 : Away (At gb _ 128 w wr.drew) := ⟨at_drew HR0.out⟩
   clear c0 c1 c2 c3 c4
   have ws1 : (n : Int) + 1 = (q1 : Int) := by have := Hq.out; omega
   have ws2 : (n : Int) + 2 = (q2 : Int) := by have := Hq.out; omega
   have ws3 : (n : Int) + 3 = (q3 : Int) := by have := Hq.out; omega
   have ws4 : (n : Int) + 4 = (q4 : Int) := by have := Hq.out; omega
   go_wp2_with (first | ((with_reducible refine wpList_not x0 b0 rfl _ _ rfl ?hx ?_); (case hx => exact rfl)) | ((with_reducible refine wpList_not x1 b1 rfl _ _ rfl ?hx ?_); (case hx => exact rfl)) | ((with_reducible refine wpList_not x2 b2 rfl _ _ rfl ?hx ?_); (case hx => exact rfl)) | ((with_reducible refine wpList_not x3 b3 rfl _ _ rfl ?hx ?_); (case hx => exact rfl)) | ((with_reducible refine wpList_not x4 b4 rfl _ _ rfl ?hx ?_); (case hx => exact rfl)) | ((with_reducible refine wpList_put2 (by assumption) rfl _ _ _ rfl rfl ?_); refine ⟨_, _, _, rfl, rfl, rfl, (by simp only [Array.size_setIfInBounds, lk25 _ (part_len _ _ _ _)]; assumption), ?_⟩; intro wn HRn))
   have HR5 : Away (At gb (LK .u64 (kecm.part (fun i => i) (bl a) (g D) (n + 5))) 128 w wn) := by
    have h := HRn.out
    rw [S0.out] at h
    rw [show n + 1 = q1 by have := Hq.out; omega] at h
    rw [S1.out] at h
    rw [show n + 2 = q2 by have := Hq.out; omega] at h
    rw [S2.out] at h
    rw [show n + 3 = q3 by have := Hq.out; omega] at h
    rw [S3.out] at h
    rw [show n + 4 = q4 by have := Hq.out; omega] at h
    rw [S4.out] at h
    exact ⟨h⟩
   go_roundw
   case rel => exact ⟨n + 5, by have := Hq.out; omega, by have := Hq.out; omega, by go_num, HR5⟩
   case measure => simp [intOf]; omega
  ·obtain rfl : n = 25 := by omega
   simp only [Int.cast_ofNat_Int]
   go_wp2_with fail
   refine bodyPost_end (v := .tuple #[]) (results_none rfl _ _ _) rfl ?_
   have h := HR0.out
   rw [part_all _ _ _ _ (fun i hi => hi)] at h
   exact ⟨rfl, h⟩
end kbend
namespace kstep
open Go.RowKit
open arr mem kecm kecb kturn
structure KT (T : Array Value) (ts rs : List Nat) : Prop where
 t : ∀ i, i < 25 → T[184 + i]? = some (.int .i64 ((ts.getD i 0 : Nat) : Int))
 r : ∀ i, i < 24 → T[160 + i]? = some (.int .u64 ((rs.getD i 0 : Nat) : Int))
 bt : ∀ i, ts.getD i 0 < 9223372036854775808
 br : ∀ i, rs.getD i 0 < 18446744073709551616
 size : T.size = 465
 one : T.all (·.oneCell') = true
def Z : List Nat := List.replicate 25 0
theorem z_len : Z.length = 25 := rfl
theorem z_is : (#[.int .u64 0, .int .u64 0, .int .u64 0, .int .u64 0, .int .u64 0, .int .u64 0, .int .u64 0, .int .u64 0, .int .u64 0, .int .u64 0, .int .u64 0, .int .u64 0, .int .u64 0, .int .u64 0, .int .u64 0, .int .u64 0, .int .u64 0, .int .u64 0, .int .u64 0, .int .u64 0, .int .u64 0, .int .u64 0, .int .u64 0, .int .u64 0, .int .u64 0] : Array Value) = LK .u64 Z := rfl
theorem info25 : (Tryz.prog.info? 128).map (·.size) = some 25 := by kernel_rfl
theorem at_over {g gn : Nat} {C C' : Array Value} {t t' : TypeId} {a b c : World} (h : At g C t a b) (hn : a.heap.size ≤ gn) (hg : g ≠ gn) (k : At gn C' t' b c) : At g C t a c :=
 ⟨k.os.trans h.os, k.tape.trans h.tape, k.output.trans h.output, Nat.le_trans h.size k.size, (k.block g h.lt hg).trans h.row, fun i hi hig => (k.block i (Nat.lt_of_lt_of_le hi h.size) (by omega)).trans (h.block i hi hig)⟩
theorem iota_set {s : List Nat} (c v : Nat) (hs : s.length = 25) (hv : g s 0 ^^^ c = v) : (LK .u64 s).setIfInBounds 0 (.int .u64 (v : Int)) = LK .u64 (iota c s) := by
 subst hv
 rw [lk_set]
 congr 1
 refine st_ext (by rw [List.length_set, hs]) (mkS_len _) fun i hi => ?_
 rw [iota, mkS_g _ i hi]
 unfold g
 rw [List.getD_eq_getElem?_getD, List.getElem?_set]
 by_cases e : i = 0
 ·subst e
  rw [if_pos rfl, if_pos (by omega), if_pos rfl]
  rfl
 ·rw [if_neg (fun x => e x.symm), if_neg e, List.getD_eq_getElem?_getD]
set_option maxRecDepth 100000 in
set_option maxHeartbeats 2000000 in
theorem step_at (m : Nat) (hm : m < 24) (gT ga : Nat) (T : Array Value) (a ts rs : List Nat) (w : World) (h : St a) (hK : KT T ts rs) (hP : Gp w) (hT : w.heap[gT]? = some (.cells T 38 (0, 0)))
 (hA : w.heap[ga]? = some (.cells (LK .u64 a) 128 (0, 0))) (hne : ga ≠ gT) (hgp : ga ≠ 0) :
 Calls Tryz.prog 139 #[.pointer (some ⟨gT, 0, none⟩), .pointer (some ⟨ga, 0, none⟩), .int .i64 (m : Int)] w fun e w' => e = .returned (.tuple #[]) ∧ At ga (LK .u64 (roundL (fun i => ts.getD i 0) (rs.getD m 0) a)) 128 w w' := by
 unfold roundL
 have H := Away.mk h
 have HK := Away.mk hK
 have HP := Away.mk hP
 have HT := Away.mk hT
 have HA := Away.mk hA
 have Hne := Away.mk hne
 have Hgp := Away.mk hgp
 have HlT := Away.mk (lt_of_row hT)
 have HlA := Away.mk (lt_of_row hA)
 obtain ⟨z, HZ⟩ := ex_eq Z
 have HZl : Away (z.length = 25) := ⟨by rw [← HZ.out]; rfl⟩
 have hz : (#[.int .u64 0, .int .u64 0, .int .u64 0, .int .u64 0, .int .u64 0, .int .u64 0, .int .u64 0, .int .u64 0, .int .u64 0, .int .u64 0, .int .u64 0, .int .u64 0, .int .u64 0, .int .u64 0, .int .u64 0, .int .u64 0, .int .u64 0, .int .u64 0, .int .u64 0, .int .u64 0, .int .u64 0, .int .u64 0, .int .u64 0, .int .u64 0, .int .u64 0] : Array Value) = LK .u64 z := by rw [← HZ.out]; exact z_is
 have Hz := Away.mk hz
 clear h hK hP hT hA hne hgp hz HZ
 have hm0 : (0 : Int) ≤ (m : Int) := by omega
 have hm1 : (m : Int) < 24 := by omega
 have Hm := Away.mk hm
 clear hm
 have Hg : Away (∀ (s : List Nat) (w' : World), At ga (LK .u64 (iota (rs.getD m 0) s)) 128 w w' → bendL (turnL (fun i => ts.getD i 0) (mixL a)) = s → At ga (LK .u64 (iota (rs.getD m 0) (bendL (turnL (fun i => ts.getD i 0) (mixL a))))) 128 w w') := ⟨fun s w' h e => by rw [e]; exact h⟩
 go_enter Tryz.func139, Tryz.ntmps139
 go_wp2_with fail
 rw [Hz.out]
 obtain ⟨W0, hW0⟩ : ∃ x, w.alloc (.cells (LK .u64 z) 128) = x := ⟨_, rfl⟩
 have hz0 : W0.heap[w.heap.size]? = some (.cells (LK .u64 z) 128 (0, 0)) := by rw [← hW0]; exact heap_at _ _ _ rfl
 have A0 : At ga (LK .u64 a) 128 w W0 := (At.refl HA.out).later (by rw [← hW0]; exact below_alloc _ _)
 have hs0 : W0.heap.size = w.heap.size + 1 := by rw [← hW0, size_alloc]
 rw [hW0]
 clear hW0
 refine (kmix.mix_any ga a W0 H.out A0.row).mono ?_
 rintro e w1 ⟨rfl, h1⟩
 have hgl := HlA.out
 have hTl := HlT.out
 have A1 : Away (At ga (LK .u64 (mixL a)) 128 w w1) := ⟨A0.trans h1⟩
 have z1 : Away (w1.heap[w.heap.size]? = some (.cells (LK .u64 z) 128 (0, 0))) := ⟨h1.other (by omega) (by omega) hz0⟩
 have t1 : Away (w1.heap[gT]? = some (.cells T 38 (0, 0))) := ⟨A1.out.other hTl (Ne.symm Hne.out) HT.out⟩
 have s1 : Away (w.heap.size < w1.heap.size) := ⟨by have := h1.size; omega⟩
 clear hz0 A0 hs0 h1 hgl hTl
 go_wp2_with fail
 refine (kturn.turn_any w.heap.size ga gT 184 z (mixL a) ts w1 HZl.out (mixL_st H.out) HK.out.bt (Gp.at HP.out A1.out Hgp.out) z1.out A1.out.row (fun i hi => cell_at t1.out (HK.out.t i hi)) (by have := HlA.out; omega) (by have := HlT.out; omega) (by have := HlT.out; have := s1.out; omega)).mono ?_
 rintro e w2 ⟨rfl, h2⟩
 have A2 : Away (At ga (LK .u64 (mixL a)) 128 w w2) := ⟨at_over A1.out (Nat.le_refl _) (by have := HlA.out; omega) h2⟩
 have B2 := Away.mk h2.row
 clear h2 A1 z1 t1 s1
 go_wp2_with fail
 refine (kbend.bend_any ga w.heap.size (mixL a) (turnL (fun i => ts.getD i 0) (mixL a)) w2 (mixL_st H.out).len (turnL_st _ (mixL_st H.out)) A2.out.row B2.out (by have := HlA.out; omega)).mono ?_
 rintro e w3 ⟨rfl, h3⟩
 have A3 : Away (At ga (LK .u64 (bendL (turnL (fun i => ts.getD i 0) (mixL a)))) 128 w w3) := ⟨A2.out.trans h3⟩
 have Hst : Away (St (bendL (turnL (fun i => ts.getD i 0) (mixL a)))) := ⟨bendL_st (turnL_st _ (mixL_st H.out))⟩
 have T3 : Away (w3.heap[gT]? = some (.cells T 38 (0, 0))) := ⟨A3.out.other HlT.out (Ne.symm Hne.out) HT.out⟩
 obtain ⟨s, Hs⟩ := ex_eq (bendL (turnL (fun i => ts.getD i 0) (mixL a)))
 rw [Hs.out] at A3 Hst
 clear A2 B2 h3
 obtain ⟨x, hx⟩ : ∃ x, g s 0 = x := ⟨_, rfl⟩
 obtain ⟨c, hc⟩ : ∃ c, rs.getD m 0 = c := ⟨_, rfl⟩
 obtain ⟨v, hv⟩ : ∃ v, x ^^^ c = v := ⟨_, rfl⟩
 have bx : x < 18446744073709551616 := hx ▸ Hst.out.lt 0
 have bc : c < 18446744073709551616 := hc ▸ HK.out.br m
 have V := xor2 x c v bx bc hv
 have cx := lane_at Hst.out.len A3.out.row 0 x (by decide) hx
 have cr : w3.cell? ⟨gT, 160 + m, none⟩ = some (.int .u64 (c : Int)) := by rw [← hc]; exact cell_at T3.out (HK.out.r m Hm.out)
 have HS : Away ((LK .u64 s).setIfInBounds 0 (.int .u64 (v : Int)) = LK .u64 (iota c s)) := ⟨iota_set c v Hst.out.len (by rw [hx, hv])⟩
 have Hgoal : Away (∀ w' : World, At ga (LK .u64 (iota c s)) 128 w w' → At ga (LK .u64 (iota (rs.getD m 0) (bendL (turnL (fun i => ts.getD i 0) (mixL a))))) 128 w w') := ⟨fun w' h => Hg.out s w' (by rw [hc]; exact h) Hs.out⟩
 clear hx hc hv Hg
 go_wp2_with fail
 refine still_tail 13 (by kernel_rfl) (by kernel_rfl) ?_
 simp only [List.take_succ_cons, List.take_zero, List.drop_succ_cons, List.drop_zero]
 repeat still_step
 refine wpStill_nil ?_
 have A4 : Away (At ga (LK .u64 s) 128 w w3.drew) := ⟨at_drew A3.out⟩
 clear cx cr
 with_reducible refine wpList_put2 A4 rfl _ _ _ rfl rfl ?_
 refine ⟨_, _, _, rfl, rfl, rfl, by rw [lk25 _ Hst.out.len]; decide, ?_⟩
 intro w4 A5
 rw [HS.out] at A5
 go_wp2_with fail
 refine bodyPost_end (v := .tuple #[]) (results_none rfl _ _ _) rfl ?_
 exact ⟨rfl, Hgoal.out _ A5.out⟩
set_option maxRecDepth 100000 in
set_option maxHeartbeats 2000000 in
theorem step_neg (n : Int) (hn : n < 0) (gT ga : Nat) (T : Array Value) (a ts rs : List Nat) (w : World) (h : St a) (hK : KT T ts rs) (hP : Gp w) (hT : w.heap[gT]? = some (.cells T 38 (0, 0)))
 (hA : w.heap[ga]? = some (.cells (LK .u64 a) 128 (0, 0))) (hne : ga ≠ gT) (hgp : ga ≠ 0) :
 Calls Tryz.prog 139 #[.pointer (some ⟨gT, 0, none⟩), .pointer (some ⟨ga, 0, none⟩), .int .i64 n] w fun e w' => e = .returned (.tuple #[]) ∧ At ga (LK .u64 (roundL (fun i => ts.getD i 0) (0) a)) 128 w w' := by
 unfold roundL
 have H := Away.mk h
 have HK := Away.mk hK
 have HP := Away.mk hP
 have HT := Away.mk hT
 have HA := Away.mk hA
 have Hne := Away.mk hne
 have Hgp := Away.mk hgp
 have HlT := Away.mk (lt_of_row hT)
 have HlA := Away.mk (lt_of_row hA)
 obtain ⟨z, HZ⟩ := ex_eq Z
 have HZl : Away (z.length = 25) := ⟨by rw [← HZ.out]; rfl⟩
 have hz : (#[.int .u64 0, .int .u64 0, .int .u64 0, .int .u64 0, .int .u64 0, .int .u64 0, .int .u64 0, .int .u64 0, .int .u64 0, .int .u64 0, .int .u64 0, .int .u64 0, .int .u64 0, .int .u64 0, .int .u64 0, .int .u64 0, .int .u64 0, .int .u64 0, .int .u64 0, .int .u64 0, .int .u64 0, .int .u64 0, .int .u64 0, .int .u64 0, .int .u64 0] : Array Value) = LK .u64 z := by rw [← HZ.out]; exact z_is
 have Hz := Away.mk hz
 clear h hK hP hT hA hne hgp hz HZ
 go_enter Tryz.func139, Tryz.ntmps139
 go_wp2_with fail
 rw [Hz.out]
 obtain ⟨W0, hW0⟩ : ∃ x, w.alloc (.cells (LK .u64 z) 128) = x := ⟨_, rfl⟩
 have hz0 : W0.heap[w.heap.size]? = some (.cells (LK .u64 z) 128 (0, 0)) := by rw [← hW0]; exact heap_at _ _ _ rfl
 have A0 : At ga (LK .u64 a) 128 w W0 := (At.refl HA.out).later (by rw [← hW0]; exact below_alloc _ _)
 have hs0 : W0.heap.size = w.heap.size + 1 := by rw [← hW0, size_alloc]
 rw [hW0]
 clear hW0
 refine (kmix.mix_any ga a W0 H.out A0.row).mono ?_
 rintro e w1 ⟨rfl, h1⟩
 have hgl := HlA.out
 have hTl := HlT.out
 have A1 : Away (At ga (LK .u64 (mixL a)) 128 w w1) := ⟨A0.trans h1⟩
 have z1 : Away (w1.heap[w.heap.size]? = some (.cells (LK .u64 z) 128 (0, 0))) := ⟨h1.other (by omega) (by omega) hz0⟩
 have t1 : Away (w1.heap[gT]? = some (.cells T 38 (0, 0))) := ⟨A1.out.other hTl (Ne.symm Hne.out) HT.out⟩
 have s1 : Away (w.heap.size < w1.heap.size) := ⟨by have := h1.size; omega⟩
 clear hz0 A0 hs0 h1 hgl hTl
 go_wp2_with fail
 refine (kturn.turn_any w.heap.size ga gT 184 z (mixL a) ts w1 HZl.out (mixL_st H.out) HK.out.bt (Gp.at HP.out A1.out Hgp.out) z1.out A1.out.row (fun i hi => cell_at t1.out (HK.out.t i hi)) (by have := HlA.out; omega) (by have := HlT.out; omega) (by have := HlT.out; have := s1.out; omega)).mono ?_
 rintro e w2 ⟨rfl, h2⟩
 have A2 : Away (At ga (LK .u64 (mixL a)) 128 w w2) := ⟨at_over A1.out (Nat.le_refl _) (by have := HlA.out; omega) h2⟩
 have B2 := Away.mk h2.row
 clear h2 A1 z1 t1 s1
 go_wp2_with fail
 refine (kbend.bend_any ga w.heap.size (mixL a) (turnL (fun i => ts.getD i 0) (mixL a)) w2 (mixL_st H.out).len (turnL_st _ (mixL_st H.out)) A2.out.row B2.out (by have := HlA.out; omega)).mono ?_
 rintro e w3 ⟨rfl, h3⟩
 have A3 : Away (At ga (LK .u64 (bendL (turnL (fun i => ts.getD i 0) (mixL a)))) 128 w w3) := ⟨A2.out.trans h3⟩
 have Hst : Away (St (bendL (turnL (fun i => ts.getD i 0) (mixL a)))) := ⟨bendL_st (turnL_st _ (mixL_st H.out))⟩
 have T3 : Away (w3.heap[gT]? = some (.cells T 38 (0, 0))) := ⟨A3.out.other HlT.out (Ne.symm Hne.out) HT.out⟩
 obtain ⟨s, Hs⟩ := ex_eq (bendL (turnL (fun i => ts.getD i 0) (mixL a)))
 rw [Hs.out] at A3 Hst
 clear A2 B2 h3
 have Hgoal : Away (∀ w' : World, At ga (LK .u64 s) 128 w w' → At ga (LK .u64 (iota 0 (bendL (turnL (fun i => ts.getD i 0) (mixL a))))) 128 w w') := ⟨fun w' h => by rw [Hs.out, iota_zero Hst.out.len]; exact h⟩
 go_wp2_with fail
 refine bodyPost_end (v := .tuple #[]) (results_none rfl _ _ _) rfl ?_
 exact ⟨rfl, Hgoal.out _ A3.out⟩
set_option maxRecDepth 100000 in
set_option maxHeartbeats 2000000 in
theorem step_big (n : Int) (hn : 24 ≤ n) (gT ga : Nat) (T : Array Value) (a ts rs : List Nat) (w : World) (h : St a) (hK : KT T ts rs) (hP : Gp w) (hT : w.heap[gT]? = some (.cells T 38 (0, 0)))
 (hA : w.heap[ga]? = some (.cells (LK .u64 a) 128 (0, 0))) (hne : ga ≠ gT) (hgp : ga ≠ 0) :
 Calls Tryz.prog 139 #[.pointer (some ⟨gT, 0, none⟩), .pointer (some ⟨ga, 0, none⟩), .int .i64 n] w fun e w' => e = .returned (.tuple #[]) ∧ At ga (LK .u64 (roundL (fun i => ts.getD i 0) (0) a)) 128 w w' := by
 unfold roundL
 have H := Away.mk h
 have HK := Away.mk hK
 have HP := Away.mk hP
 have HT := Away.mk hT
 have HA := Away.mk hA
 have Hne := Away.mk hne
 have Hgp := Away.mk hgp
 have HlT := Away.mk (lt_of_row hT)
 have HlA := Away.mk (lt_of_row hA)
 obtain ⟨z, HZ⟩ := ex_eq Z
 have HZl : Away (z.length = 25) := ⟨by rw [← HZ.out]; rfl⟩
 have hz : (#[.int .u64 0, .int .u64 0, .int .u64 0, .int .u64 0, .int .u64 0, .int .u64 0, .int .u64 0, .int .u64 0, .int .u64 0, .int .u64 0, .int .u64 0, .int .u64 0, .int .u64 0, .int .u64 0, .int .u64 0, .int .u64 0, .int .u64 0, .int .u64 0, .int .u64 0, .int .u64 0, .int .u64 0, .int .u64 0, .int .u64 0, .int .u64 0, .int .u64 0] : Array Value) = LK .u64 z := by rw [← HZ.out]; exact z_is
 have Hz := Away.mk hz
 clear h hK hP hT hA hne hgp hz HZ
 go_enter Tryz.func139, Tryz.ntmps139
 go_wp2_with fail
 rw [Hz.out]
 obtain ⟨W0, hW0⟩ : ∃ x, w.alloc (.cells (LK .u64 z) 128) = x := ⟨_, rfl⟩
 have hz0 : W0.heap[w.heap.size]? = some (.cells (LK .u64 z) 128 (0, 0)) := by rw [← hW0]; exact heap_at _ _ _ rfl
 have A0 : At ga (LK .u64 a) 128 w W0 := (At.refl HA.out).later (by rw [← hW0]; exact below_alloc _ _)
 have hs0 : W0.heap.size = w.heap.size + 1 := by rw [← hW0, size_alloc]
 rw [hW0]
 clear hW0
 refine (kmix.mix_any ga a W0 H.out A0.row).mono ?_
 rintro e w1 ⟨rfl, h1⟩
 have hgl := HlA.out
 have hTl := HlT.out
 have A1 : Away (At ga (LK .u64 (mixL a)) 128 w w1) := ⟨A0.trans h1⟩
 have z1 : Away (w1.heap[w.heap.size]? = some (.cells (LK .u64 z) 128 (0, 0))) := ⟨h1.other (by omega) (by omega) hz0⟩
 have t1 : Away (w1.heap[gT]? = some (.cells T 38 (0, 0))) := ⟨A1.out.other hTl (Ne.symm Hne.out) HT.out⟩
 have s1 : Away (w.heap.size < w1.heap.size) := ⟨by have := h1.size; omega⟩
 clear hz0 A0 hs0 h1 hgl hTl
 go_wp2_with fail
 refine (kturn.turn_any w.heap.size ga gT 184 z (mixL a) ts w1 HZl.out (mixL_st H.out) HK.out.bt (Gp.at HP.out A1.out Hgp.out) z1.out A1.out.row (fun i hi => cell_at t1.out (HK.out.t i hi)) (by have := HlA.out; omega) (by have := HlT.out; omega) (by have := HlT.out; have := s1.out; omega)).mono ?_
 rintro e w2 ⟨rfl, h2⟩
 have A2 : Away (At ga (LK .u64 (mixL a)) 128 w w2) := ⟨at_over A1.out (Nat.le_refl _) (by have := HlA.out; omega) h2⟩
 have B2 := Away.mk h2.row
 clear h2 A1 z1 t1 s1
 go_wp2_with fail
 refine (kbend.bend_any ga w.heap.size (mixL a) (turnL (fun i => ts.getD i 0) (mixL a)) w2 (mixL_st H.out).len (turnL_st _ (mixL_st H.out)) A2.out.row B2.out (by have := HlA.out; omega)).mono ?_
 rintro e w3 ⟨rfl, h3⟩
 have A3 : Away (At ga (LK .u64 (bendL (turnL (fun i => ts.getD i 0) (mixL a)))) 128 w w3) := ⟨A2.out.trans h3⟩
 have Hst : Away (St (bendL (turnL (fun i => ts.getD i 0) (mixL a)))) := ⟨bendL_st (turnL_st _ (mixL_st H.out))⟩
 have T3 : Away (w3.heap[gT]? = some (.cells T 38 (0, 0))) := ⟨A3.out.other HlT.out (Ne.symm Hne.out) HT.out⟩
 obtain ⟨s, Hs⟩ := ex_eq (bendL (turnL (fun i => ts.getD i 0) (mixL a)))
 rw [Hs.out] at A3 Hst
 clear A2 B2 h3
 have Hgoal : Away (∀ w' : World, At ga (LK .u64 s) 128 w w' → At ga (LK .u64 (iota 0 (bendL (turnL (fun i => ts.getD i 0) (mixL a))))) 128 w w') := ⟨fun w' h => by rw [Hs.out, iota_zero Hst.out.len]; exact h⟩
 go_wp2_with fail
 refine bodyPost_end (v := .tuple #[]) (results_none rfl _ _ _) rfl ?_
 exact ⟨rfl, Hgoal.out _ A3.out⟩
def cst (rs : List Nat) (n : Int) : Nat := if 0 ≤ n ∧ n < 24 then rs.getD n.toNat 0 else 0
theorem step_any (n : Int) (gT ga : Nat) (T : Array Value) (a ts rs : List Nat) (w : World) (h : St a) (hK : KT T ts rs) (hP : Gp w) (hT : w.heap[gT]? = some (.cells T 38 (0, 0)))
 (hA : w.heap[ga]? = some (.cells (LK .u64 a) 128 (0, 0))) (hne : ga ≠ gT) (hgp : ga ≠ 0) :
 Calls Tryz.prog 139 #[.pointer (some ⟨gT, 0, none⟩), .pointer (some ⟨ga, 0, none⟩), .int .i64 n] w fun e w' => e = .returned (.tuple #[]) ∧ At ga (LK .u64 (roundL (fun i => ts.getD i 0) (cst rs n) a)) 128 w w' := by
 by_cases h0 : n < 0
 ·rw [cst, if_neg (by omega)]
  exact step_neg n h0 gT ga T a ts rs w h hK hP hT hA hne hgp
 ·by_cases h1 : 24 ≤ n
  ·rw [cst, if_neg (by omega)]
   exact step_big n h1 gT ga T a ts rs w h hK hP hT hA hne hgp
  ·obtain ⟨m, rfl⟩ := Int.eq_ofNat_of_zero_le (show 0 ≤ n by omega)
   rw [cst, if_pos (by omega), Int.toNat_natCast]
   exact step_at m (by omega) gT ga T a ts rs w h hK hP hT hA hne hgp
end kstep
end Go.Proofs.YtlcafjdehcddcaaGreatDoor
