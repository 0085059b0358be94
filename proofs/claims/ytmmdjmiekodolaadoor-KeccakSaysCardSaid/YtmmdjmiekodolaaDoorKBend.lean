/-
  What keccak's own bend does: the state behind the first pointer becomes the bent state of the second; all other memory that was there stays as it was. Conditions: both have 25 words, the second's have 64 bits, and they lie in different blocks.
-/
import Derived.Test.YtmmdjmiekodolaaDoorProg
import Derived.Test.YtmmdjmiekodolaaDoorKecB
namespace Go.Proofs.YtmmdjmiekodolaaDoor.kbend
open Go.RowKit
open Go.Proofs.YtmmdjmiekodolaaDoor.arr Go.Proofs.YtmmdjmiekodolaaDoor.mem Go.Proofs.YtmmdjmiekodolaaDoor.kecm Go.Proofs.YtmmdjmiekodolaaDoor.kecb

/-- a lane that is bent -/
def bl (a : List Nat) (i : Nat) : Nat := g a i ^^^ (not64 (g a ((i % 5 + 1) % 5 + 5 * (i / 5))) &&& g a ((i % 5 + 2) % 5 + 5 * (i / 5)))
theorem bl_is (a : List Nat) (i p q x y z r : Nat) (hp : (i % 5 + 1) % 5 + 5 * (i / 5) = p) (hq : (i % 5 + 2) % 5 + 5 * (i / 5) = q) (hx : g a i = x) (hy : g a p = y) (hz : g a q = z) (hr : bl a i = r) : x ^^^ (not64 y &&& z) = r := by
  rw [← hr, bl, hp, hq, hx, hy, hz]

set_option maxRecDepth 100000 in
set_option maxHeartbeats 4000000 in
theorem bend_any (gb ga : Nat) (D a : List Nat) (w : World) (hD : D.length = 25) (h : St a) (hB : w.heap[gb]? = some (.cells (LK .u64 D) 23 (0, 0))) (hA : w.heap[ga]? = some (.cells (LK .u64 a) 23 (0, 0))) (hne : ga ≠ gb) :
    Calls Tryd.prog 29 #[.pointer (some ⟨gb, 0, none⟩), .pointer (some ⟨ga, 0, none⟩)] w fun e w' => e = .returned (.tuple #[]) ∧ At gb (LK .u64 (bendL a)) 23 w w' := by
  have H := Away.mk h
  have HA := Away.mk hA
  have HB := Away.mk hB
  have HD := Away.mk hD
  have Hne := Away.mk hne
  have Hlt := Away.mk (lt_of_row hA)
  clear h hA hB hD hne
  go_enter Tryd.func29, Tryd.ntmps29
  go_wp2_with fail
  go_loopw [4] (fun i wr => ∃ n : Nat, n ≤ 25 ∧ n % 5 = 0 ∧ i = .int .i64 (n : Int) ∧ Away (At gb (LK .u64 (kecm.part (fun i => i) (bl a) (g D) n)) 23 w wr)) (fun i _ => 25 - (intOf i).toNat)
  case atStart =>
    refine ⟨0, by decide, rfl, rfl, ⟨?_⟩⟩
    rw [part_zero, mkS_eta HD.out]
    exact At.refl HB.out
  case round =>
    obtain ⟨n, hn, hm, rfl, HR0⟩ := hrel
    by_cases hlt : n < 25
    · have hn20 : n ≤ 20 := by omega
      have hA2 := HR0.out.other Hlt.out Hne.out HA.out
      clear hn hlt
      have u0 : n < 25 := by omega
      have z0 : (n : Int) < 25 := by omega
      obtain ⟨x0, hx0⟩ : ∃ x, g a n = x := ⟨_, rfl⟩
      have b0 : x0 < 18446744073709551616 := hx0 ▸ H.out.lt _
      have c0 := lane_at H.out.len hA2 n x0 u0 hx0
      obtain ⟨q1, hq1⟩ : ∃ x, x = n + 1 := ⟨_, rfl⟩
      have wr1 : IntKind.i64.wrap ((n : Int) + 1) = (q1 : Int) := by rw [IntKind.wrap_i64]; omega
      have ws1 : (n : Int) + 1 = (q1 : Int) := by omega
      have u1 : q1 < 25 := by omega
      have z1 : (q1 : Int) < 25 := by omega
      obtain ⟨x1, hx1⟩ : ∃ x, g a q1 = x := ⟨_, rfl⟩
      have b1 : x1 < 18446744073709551616 := hx1 ▸ H.out.lt _
      have c1 := lane_at H.out.len hA2 q1 x1 u1 hx1
      obtain ⟨q2, hq2⟩ : ∃ x, x = n + 2 := ⟨_, rfl⟩
      have wr2 : IntKind.i64.wrap ((n : Int) + 2) = (q2 : Int) := by rw [IntKind.wrap_i64]; omega
      have ws2 : (n : Int) + 2 = (q2 : Int) := by omega
      have u2 : q2 < 25 := by omega
      have z2 : (q2 : Int) < 25 := by omega
      obtain ⟨x2, hx2⟩ : ∃ x, g a q2 = x := ⟨_, rfl⟩
      have b2 : x2 < 18446744073709551616 := hx2 ▸ H.out.lt _
      have c2 := lane_at H.out.len hA2 q2 x2 u2 hx2
      obtain ⟨q3, hq3⟩ : ∃ x, x = n + 3 := ⟨_, rfl⟩
      have wr3 : IntKind.i64.wrap ((n : Int) + 3) = (q3 : Int) := by rw [IntKind.wrap_i64]; omega
      have ws3 : (n : Int) + 3 = (q3 : Int) := by omega
      have u3 : q3 < 25 := by omega
      have z3 : (q3 : Int) < 25 := by omega
      obtain ⟨x3, hx3⟩ : ∃ x, g a q3 = x := ⟨_, rfl⟩
      have b3 : x3 < 18446744073709551616 := hx3 ▸ H.out.lt _
      have c3 := lane_at H.out.len hA2 q3 x3 u3 hx3
      obtain ⟨q4, hq4⟩ : ∃ x, x = n + 4 := ⟨_, rfl⟩
      have wr4 : IntKind.i64.wrap ((n : Int) + 4) = (q4 : Int) := by rw [IntKind.wrap_i64]; omega
      have ws4 : (n : Int) + 4 = (q4 : Int) := by omega
      have u4 : q4 < 25 := by omega
      have z4 : (q4 : Int) < 25 := by omega
      obtain ⟨x4, hx4⟩ : ∃ x, g a q4 = x := ⟨_, rfl⟩
      have b4 : x4 < 18446744073709551616 := hx4 ▸ H.out.lt _
      have c4 := lane_at H.out.len hA2 q4 x4 u4 hx4
      obtain ⟨v0, hv0⟩ : ∃ x, bl a n = x := ⟨_, rfl⟩
      have V0 := bendz x0 x1 x2 v0 b0 b2 (bl_is a n q1 q2 x0 x1 x2 v0 (by omega) (by omega) hx0 hx1 hx2 hv0)
      have S0 : Away ((LK .u64 (kecm.part (fun i => i) (bl a) (g D) n)).setIfInBounds n (.int .u64 (v0 : Int)) = LK .u64 (kecm.part (fun i => i) (bl a) (g D) (n + 1))) := ⟨by rw [part_lane n v0 u0 rfl (fun i _ e => e) hv0]⟩
      obtain ⟨v1, hv1⟩ : ∃ x, bl a q1 = x := ⟨_, rfl⟩
      have V1 := bendz x1 x2 x3 v1 b1 b3 (bl_is a q1 q2 q3 x1 x2 x3 v1 (by omega) (by omega) hx1 hx2 hx3 hv1)
      have S1 : Away ((LK .u64 (kecm.part (fun i => i) (bl a) (g D) q1)).setIfInBounds q1 (.int .u64 (v1 : Int)) = LK .u64 (kecm.part (fun i => i) (bl a) (g D) (n + 2))) := ⟨by rw [part_lane q1 v1 u1 rfl (fun i _ e => e) hv1]; rw [hq1]⟩
      obtain ⟨v2, hv2⟩ : ∃ x, bl a q2 = x := ⟨_, rfl⟩
      have V2 := bendz x2 x3 x4 v2 b2 b4 (bl_is a q2 q3 q4 x2 x3 x4 v2 (by omega) (by omega) hx2 hx3 hx4 hv2)
      have S2 : Away ((LK .u64 (kecm.part (fun i => i) (bl a) (g D) q2)).setIfInBounds q2 (.int .u64 (v2 : Int)) = LK .u64 (kecm.part (fun i => i) (bl a) (g D) (n + 3))) := ⟨by rw [part_lane q2 v2 u2 rfl (fun i _ e => e) hv2]; rw [hq2]⟩
      obtain ⟨v3, hv3⟩ : ∃ x, bl a q3 = x := ⟨_, rfl⟩
      have V3 := bendz x3 x4 x0 v3 b3 b0 (bl_is a q3 q4 n x3 x4 x0 v3 (by omega) (by omega) hx3 hx4 hx0 hv3)
      have S3 : Away ((LK .u64 (kecm.part (fun i => i) (bl a) (g D) q3)).setIfInBounds q3 (.int .u64 (v3 : Int)) = LK .u64 (kecm.part (fun i => i) (bl a) (g D) (n + 4))) := ⟨by rw [part_lane q3 v3 u3 rfl (fun i _ e => e) hv3]; rw [hq3]⟩
      obtain ⟨v4, hv4⟩ : ∃ x, bl a q4 = x := ⟨_, rfl⟩
      have V4 := bendz x4 x0 x1 v4 b4 b1 (bl_is a q4 n q1 x4 x0 x1 v4 (by omega) (by omega) hx4 hx0 hx1 hv4)
      have S4 : Away ((LK .u64 (kecm.part (fun i => i) (bl a) (g D) q4)).setIfInBounds q4 (.int .u64 (v4 : Int)) = LK .u64 (kecm.part (fun i => i) (bl a) (g D) (n + 5))) := ⟨by rw [part_lane q4 v4 u4 rfl (fun i _ e => e) hv4]; rw [hq4]⟩
      have Hq : Away (n % 5 = 0 ∧ q1 = n + 1 ∧ q2 = n + 2 ∧ q3 = n + 3 ∧ q4 = n + 4) := ⟨hm, hq1, hq2, hq3, hq4⟩
      clear hm hq1 ws1 hq2 ws2 hq3 ws3 hq4 ws4 hA2 hx0 hv0 hx1 hv1 hx2 hv2 hx3 hv3 hx4 hv4
      go_wp2_with fail
      refine still_all (by kernel_rfl) (by kernel_rfl) ?_
      iterate 34 still_step
      refine wpStill_nil ?_
      have HR0 : Away (At gb _ 23 w wr.drew) := ⟨at_drew HR0.out⟩
      clear c0 c1 c2 c3 c4
      have ws1 : (n : Int) + 1 = (q1 : Int) := by have := Hq.out; omega
      have ws2 : (n : Int) + 2 = (q2 : Int) := by have := Hq.out; omega
      have ws3 : (n : Int) + 3 = (q3 : Int) := by have := Hq.out; omega
      have ws4 : (n : Int) + 4 = (q4 : Int) := by have := Hq.out; omega
      go_wp2_with (first | ((with_reducible refine wpList_not x0 b0 rfl _ _ rfl ?hx ?_); (case hx => exact rfl)) | ((with_reducible refine wpList_not x1 b1 rfl _ _ rfl ?hx ?_); (case hx => exact rfl)) | ((with_reducible refine wpList_not x2 b2 rfl _ _ rfl ?hx ?_); (case hx => exact rfl)) | ((with_reducible refine wpList_not x3 b3 rfl _ _ rfl ?hx ?_); (case hx => exact rfl)) | ((with_reducible refine wpList_not x4 b4 rfl _ _ rfl ?hx ?_); (case hx => exact rfl)) | ((with_reducible refine wpList_put2 (by assumption) rfl _ _ _ rfl rfl ?_); refine ⟨_, _, _, rfl, rfl, rfl, (by simp only [Array.size_setIfInBounds, lk25 _ (part_len _ _ _ _)]; assumption), ?_⟩; intro wn HRn))
      have HR5 : Away (At gb (LK .u64 (kecm.part (fun i => i) (bl a) (g D) (n + 5))) 23 w wn) := by
        have h := HRn.out
        rw [S0.out] at h
        rw [show n + 1 = q1 by have := Hq.out; omega] at h
        rw [S1.out] at h
        rw [show n + 2 = q2 by have := Hq.out; omega] at h
        rw [S2.out] at h
        rw [show n + 3 = q3 by have := Hq.out; omega] at h
        rw [S3.out] at h
        rw [show n + 4 = q4 by have := Hq.out; omega] at h
        rw [S4.out] at h
        exact ⟨h⟩
      go_roundw
      case rel => exact ⟨n + 5, by have := Hq.out; omega, by have := Hq.out; omega, by go_num, HR5⟩
      case measure => simp [intOf]; omega
    · obtain rfl : n = 25 := by omega
      simp only [Int.cast_ofNat_Int]
      go_wp2_with fail
      refine bodyPost_end (v := .tuple #[]) (results_none rfl _ _ _) rfl ?_
      have h := HR0.out
      rw [part_all _ _ _ _ (fun i hi => hi)] at h
      exact ⟨rfl, h⟩
end Go.Proofs.YtmmdjmiekodolaaDoor.kbend
