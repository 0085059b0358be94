/-
  What the reference's Hash returns: the hash; memory that was there before stays as it was. Conditions: the tables hold the words, the string has at most 2^40 - 1000 bytes.
  What the reference's Hmac returns: the same code. Conditions: the tables hold the words, key and string have at most 2^39 bytes.
  What the reference's Mask returns: the same mask. Conditions: the tables hold the words, the seed has at most 2^38 bytes.
-/
import Derived.Test.YthfljfampfioaaaMac1
import Derived.Test.YthfljfampfioaaaRSh
import Derived.Test.YthfljfampfioaaaMac2
import Derived.Test.YthfljfampfioaaaRef1
namespace Go.Proofs.Ythfljfampfioaaa.rmach
open Go.RowKit
open Go.Proofs.Ythfljfampfioaaa.oct Go.Proofs.Ythfljfampfioaaa.mem Go.Proofs.Ythfljfampfioaaa.arr Go.Proofs.Ythfljfampfioaaa.sham Go.Proofs.Ythfljfampfioaaa.thru Go.Proofs.Ythfljfampfioaaa.hashs Go.Proofs.Ythfljfampfioaaa.macm

set_option maxRecDepth 100000 in
set_option maxHeartbeats 1000000 in
theorem rhash_false (T : Array Value) (x : Wd) (s : ByteArray) (w : World) (h : TX T x) (hs : s.size ≤ 1099511626000) :
    Calls Try.prog 10 #[.agg T, .bool false, .string s] w fun e w' => e = .returned (.string ⟨(hx x false s.data.toList).toArray⟩) ∧ Below w.heap.size w w' := by
  have Hc : Away (∀ w1 : World, Calls Try.prog 29 #[.agg T, .string s] w1 fun e w' => e = .returned (.string ⟨(hx x false s.data.toList).toArray⟩) ∧ Below w1.heap.size w1 w') := ⟨fun w1 => rhash.whole32 T x.k3 x.k6 x.s3 x.s6 s w1 h hs⟩
  obtain ⟨H, HH⟩ := ex_eq (hx x false s.data.toList)
  rw [HH.out] at Hc ⊢
  have HTs : Away (T.size = 465) := ⟨h.size⟩
  clear HH h
  have G0 : Away ((w.alloc (.cells T 33)).heap[w.heap.size]? = some (.cells T 33 (0, 0))) := ⟨heap_at _ _ _ rfl⟩
  go_enter Try.func10, Try.ntmps10
  go_wp2_with (refine wpList_load_row rfl 33 _ rfl w.heap.size rfl 33 T (0, 0) _ G0.out Try.underlying33 rfl (by rw [HTs.out]; exact sizeT) ?_)
  refine (Hc.out _).mono ?_
  rintro e w1 ⟨rfl, hb⟩
  have Hb : Away (Below w.heap.size w w1) := ⟨(below_alloc w _).trans (hb.mono (by simp))⟩
  clear hb
  go_wp2_with fail
  go_ret
  exact ⟨rfl, Hb.out⟩

set_option maxRecDepth 100000 in
set_option maxHeartbeats 1000000 in
theorem rhash_true (T : Array Value) (x : Wd) (s : ByteArray) (w : World) (h : TX T x) (hs : s.size ≤ 1099511626000) :
    Calls Try.prog 10 #[.agg T, .bool true, .string s] w fun e w' => e = .returned (.string ⟨(hx x true s.data.toList).toArray⟩) ∧ Below w.heap.size w w' := by
  have Hc : Away (∀ w1 : World, Calls Try.prog 28 #[.agg T, .string s] w1 fun e w' => e = .returned (.string ⟨(hx x true s.data.toList).toArray⟩) ∧ Below w1.heap.size w1 w') := ⟨fun w1 => rhash.whole64 T x.k3 x.k6 x.s3 x.s6 s w1 h hs⟩
  obtain ⟨H, HH⟩ := ex_eq (hx x true s.data.toList)
  rw [HH.out] at Hc ⊢
  have HTs : Away (T.size = 465) := ⟨h.size⟩
  clear HH h
  have G0 : Away ((w.alloc (.cells T 33)).heap[w.heap.size]? = some (.cells T 33 (0, 0))) := ⟨heap_at _ _ _ rfl⟩
  go_enter Try.func10, Try.ntmps10
  go_wp2_with (refine wpList_load_row rfl 33 _ rfl w.heap.size rfl 33 T (0, 0) _ G0.out Try.underlying33 rfl (by rw [HTs.out]; exact sizeT) ?_)
  refine (Hc.out _).mono ?_
  rintro e w1 ⟨rfl, hb⟩
  have Hb : Away (Below w.heap.size w w1) := ⟨(below_alloc w _).trans (hb.mono (by simp))⟩
  clear hb
  go_wp2_with fail
  go_ret
  exact ⟨rfl, Hb.out⟩

theorem rhash_any (T : Array Value) (x : Wd) (b : Bool) (s : ByteArray) (w : World) (h : TX T x) (hs : s.size ≤ 1099511626000) :
    Calls Try.prog 10 #[.agg T, .bool b, .string s] w fun e w' => e = .returned (.string ⟨(hx x b s.data.toList).toArray⟩) ∧ Below w.heap.size w w' := by
  cases b
  · exact rhash_false T x s w h hs
  · exact rhash_true T x s w h hs
end Go.Proofs.Ythfljfampfioaaa.rmach

namespace Go.Proofs.Ythfljfampfioaaa.rhmac
open Go.RowKit
open Go.Proofs.Ythfljfampfioaaa.oct Go.Proofs.Ythfljfampfioaaa.mem Go.Proofs.Ythfljfampfioaaa.arr Go.Proofs.Ythfljfampfioaaa.hashs Go.Proofs.Ythfljfampfioaaa.macm Go.Proofs.Ythfljfampfioaaa.hmac

set_option maxRecDepth 100000 in
set_option maxHeartbeats 2000000 in
theorem hm_false_short (T : Array Value) (x : Wd) (key s : ByteArray) (w : World) (h : TX T x) (hk : key.size ≤ 64) (hkb : key.size ≤ 549755813888) (hs : s.size ≤ 549755813888) :
    Calls Try.prog 12 #[.agg T, .bool false, .string key, .string s] w fun e w' => e = .returned (.string ⟨(hm x false key.data.toList s.data.toList).toArray⟩) ∧ Below w.heap.size w w' := by
  have HTs : Away (T.size = 465) := ⟨h.size⟩
  have hkl : key.data.toList.length = key.size := rfl
  have hsl : s.data.toList.length = s.size := rfl
  have hky : ky x false key.data.toList = key.data.toList := ky_short _ _ _ (by rw [hkl]; exact hk)
  obtain ⟨q, hq⟩ : ∃ q : ByteArray, q = key := ⟨_, rfl⟩
  have hql : q.data.toList = ky x false key.data.toList := by rw [hq, hky]
  have hqs : q.size ≤ 64 := by rw [hq]; exact hk
  obtain ⟨A, hA⟩ : ∃ A, mx (ky x false key.data.toList) 64 92 = A := ⟨_, rfl⟩
  obtain ⟨B, hB⟩ : ∃ B, mx (ky x false key.data.toList) 64 54 = B := ⟨_, rfl⟩
  have hAl : A.length = 64 := by rw [← hA]; exact mx_length _ _ _ (ky_le x false _)
  have hBl : B.length = 64 := by rw [← hB]; exact mx_length _ _ _ (ky_le x false _)
  have hhm : hm x false key.data.toList s.data.toList = hx x false (A ++ hx x false (B ++ s.data.toList)) := by rw [← hA, ← hB]; rfl
  have HA : Away (∀ w1 : World, Calls Try.prog 31 #[.string q, .int .i64 64, .int .u8 92] w1 fun e w' => e = .returned (.string ⟨A.toArray⟩) ∧ Below w1.heap.size w1 w') := ⟨fun w1 => by
    rw [← hA, ← hql]; exact mix.turned_any q 64 92 w1 (by omega) (by decide) (by decide) (by decide)⟩
  have HB : Away (∀ w1 : World, Calls Try.prog 31 #[.string q, .int .i64 64, .int .u8 54] w1 fun e w' => e = .returned (.string ⟨B.toArray⟩) ∧ Below w1.heap.size w1 w') := ⟨fun w1 => by
    rw [← hB, ← hql]; exact mix.turned_any q 64 54 w1 (by omega) (by decide) (by decide) (by decide)⟩
  have HI : Away (∀ w1 : World, Calls Try.prog 10 #[.agg T, .bool false, .string ((⟨B.toArray⟩ : ByteArray) ++ s)] w1 fun e w' => e = .returned (.string ⟨(hx x false (B ++ s.data.toList)).toArray⟩) ∧ Below w1.heap.size w1 w') := ⟨fun w1 => by
    have hh := rmach.rhash_any T x false ((⟨B.toArray⟩ : ByteArray) ++ s) w1 h (by rw [ByteArray.size_append]; show B.toArray.size + _ ≤ _; rw [List.size_toArray]; omega)
    rw [catD] at hh; exact hh⟩
  have hIl : (hx x false (B ++ s.data.toList)).length = 32 := hx_length _ _ _
  rw [hhm]
  obtain ⟨I, hI⟩ : ∃ I, hx x false (B ++ s.data.toList) = I := ⟨_, rfl⟩
  rw [hI] at HI hIl ⊢
  have HO : Away (∀ w1 : World, Calls Try.prog 10 #[.agg T, .bool false, .string ((⟨A.toArray⟩ : ByteArray) ++ ⟨I.toArray⟩)] w1 fun e w' => e = .returned (.string ⟨(hx x false (A ++ I)).toArray⟩) ∧ Below w1.heap.size w1 w') := ⟨fun w1 => by
    have hh := rmach.rhash_any T x false ((⟨A.toArray⟩ : ByteArray) ++ ⟨I.toArray⟩) w1 h (by rw [ByteArray.size_append]; show A.toArray.size + I.toArray.size ≤ _; rw [List.size_toArray, List.size_toArray]; omega)
    rw [catD] at hh; exact hh⟩
  obtain ⟨R, hR⟩ : ∃ R, hx x false (A ++ I) = R := ⟨_, rfl⟩
  rw [hR] at HO ⊢
  obtain ⟨A', hA'⟩ : ∃ A' : ByteArray, (⟨A.toArray⟩ : ByteArray) = A' := ⟨_, rfl⟩
  obtain ⟨B', hB'⟩ : ∃ B' : ByteArray, (⟨B.toArray⟩ : ByteArray) = B' := ⟨_, rfl⟩
  obtain ⟨I', hI'⟩ : ∃ I' : ByteArray, (⟨I.toArray⟩ : ByteArray) = I' := ⟨_, rfl⟩
  have sA : A'.size = 64 := by rw [← hA']; show A.toArray.size = _; rw [List.size_toArray]; exact hAl
  have sB : B'.size = 64 := by rw [← hB']; show B.toArray.size = _; rw [List.size_toArray]; exact hBl
  have sI : I'.size = 32 := by rw [← hI']; show I.toArray.size = _; rw [List.size_toArray]; exact hIl
  rw [hA'] at HA HO
  rw [hB'] at HB HI
  rw [hI'] at HI HO
  clear h hky hql hA hB hhm hI hR hA' hB' hI' hAl hBl hIl
  subst hq
  obtain ⟨W, HW⟩ := ex_eq (w.alloc (.cells T 33))
  have E0 : Away (W.heap[w.heap.size]? = some (.cells T 33 (0, 0))) := ⟨by rw [← HW.out, heap_at _ _ _ rfl]⟩
  have EB : Away (Below w.heap.size w W) := ⟨by rw [← HW.out]; exact below_alloc w _⟩
  go_enter Try.func12, Try.ntmps12
  go_wp2_with fail
  rw [HW.out]
  have n1 : ¬ 9223372036854775807 < 64 + s.size := by omega
  have n2 : (9223372036854775807 < 64 + s.size) = False := eq_false n1
  refine wp_region_quiet_below (by kernel_rfl) (by kernel_rfl) ?_
  refine wpQuiet_load rfl 33 _ rfl _ rfl 33 _ _ (fun w' hC => heap_regrown E0.out hC) Try.underlying33 rfl (by rw [HTs.out]; exact sizeT) ?_
  quiet_step (skip)
  quiet_step (skip)
  quiet_step (skip)
  quiet_step (exact Calls.regrown_of (HA.out _))
  refine wpQuiet_load rfl 33 _ rfl _ rfl 33 _ _ (fun w' hC => heap_regrown E0.out hC) Try.underlying33 rfl (by rw [HTs.out]; exact sizeT) ?_
  quiet_step (skip)
  quiet_step (skip)
  quiet_step (skip)
  quiet_step (exact Calls.regrown_of (HB.out _))
  quiet_step (skip)
  quiet_step (skip)
  quiet_step (exact Calls.regrown_of (HI.out _))
  quiet_step (skip)
  quiet_step (exact Calls.regrown_of (HO.out _))
  quiet_step (skip)
  refine wpQuiet_nil ?_
  intro w3 hC
  have hb3 : Away (Below W.heap.size W w3) := ⟨by
    obtain ⟨pp, rfl⟩ := hC
    exact below_regrown _ _ _⟩
  clear hC
  go_wp2_with fail
  go_ret
  exact ⟨rfl, EB.out.trans (hb3.out.mono EB.out.size)⟩

set_option maxRecDepth 100000 in
set_option maxHeartbeats 2000000 in
theorem hm_false_long (T : Array Value) (x : Wd) (key s : ByteArray) (w : World) (h : TX T x) (hk : 64 < key.size) (hkb : key.size ≤ 549755813888) (hs : s.size ≤ 549755813888) :
    Calls Try.prog 12 #[.agg T, .bool false, .string key, .string s] w fun e w' => e = .returned (.string ⟨(hm x false key.data.toList s.data.toList).toArray⟩) ∧ Below w.heap.size w w' := by
  have HTs : Away (T.size = 465) := ⟨h.size⟩
  have hkl : key.data.toList.length = key.size := rfl
  have hsl : s.data.toList.length = s.size := rfl
  have hky : ky x false key.data.toList = hx x false key.data.toList := ky_long _ _ _ (by rw [hkl]; exact hk)
  have Hkh : Away (∀ w1 : World, Calls Try.prog 10 #[.agg T, .bool false, .string key] w1 fun e w' => e = .returned (.string ⟨(hx x false key.data.toList).toArray⟩) ∧ Below w1.heap.size w1 w') := ⟨fun w1 => rmach.rhash_any T x false key w1 h (by omega)⟩
  obtain ⟨q, Hq⟩ := ex_eq (⟨(hx x false key.data.toList).toArray⟩ : ByteArray)
  have hql : q.data.toList = ky x false key.data.toList := by rw [← Hq.out, hky]
  have hqs : q.size = 32 := by
    have e : q.data.toList.length = q.size := rfl
    rw [← e, hql, hky, hx_length]; rfl
  rw [Hq.out] at Hkh
  obtain ⟨A, hA⟩ : ∃ A, mx (ky x false key.data.toList) 64 92 = A := ⟨_, rfl⟩
  obtain ⟨B, hB⟩ : ∃ B, mx (ky x false key.data.toList) 64 54 = B := ⟨_, rfl⟩
  have hAl : A.length = 64 := by rw [← hA]; exact mx_length _ _ _ (ky_le x false _)
  have hBl : B.length = 64 := by rw [← hB]; exact mx_length _ _ _ (ky_le x false _)
  have hhm : hm x false key.data.toList s.data.toList = hx x false (A ++ hx x false (B ++ s.data.toList)) := by rw [← hA, ← hB]; rfl
  have HA : Away (∀ w1 : World, Calls Try.prog 31 #[.string q, .int .i64 64, .int .u8 92] w1 fun e w' => e = .returned (.string ⟨A.toArray⟩) ∧ Below w1.heap.size w1 w') := ⟨fun w1 => by
    rw [← hA, ← hql]; exact mix.turned_any q 64 92 w1 (by omega) (by decide) (by decide) (by decide)⟩
  have HB : Away (∀ w1 : World, Calls Try.prog 31 #[.string q, .int .i64 64, .int .u8 54] w1 fun e w' => e = .returned (.string ⟨B.toArray⟩) ∧ Below w1.heap.size w1 w') := ⟨fun w1 => by
    rw [← hB, ← hql]; exact mix.turned_any q 64 54 w1 (by omega) (by decide) (by decide) (by decide)⟩
  have HI : Away (∀ w1 : World, Calls Try.prog 10 #[.agg T, .bool false, .string ((⟨B.toArray⟩ : ByteArray) ++ s)] w1 fun e w' => e = .returned (.string ⟨(hx x false (B ++ s.data.toList)).toArray⟩) ∧ Below w1.heap.size w1 w') := ⟨fun w1 => by
    have hh := rmach.rhash_any T x false ((⟨B.toArray⟩ : ByteArray) ++ s) w1 h (by rw [ByteArray.size_append]; show B.toArray.size + _ ≤ _; rw [List.size_toArray]; omega)
    rw [catD] at hh; exact hh⟩
  have hIl : (hx x false (B ++ s.data.toList)).length = 32 := hx_length _ _ _
  rw [hhm]
  obtain ⟨I, hI⟩ : ∃ I, hx x false (B ++ s.data.toList) = I := ⟨_, rfl⟩
  rw [hI] at HI hIl ⊢
  have HO : Away (∀ w1 : World, Calls Try.prog 10 #[.agg T, .bool false, .string ((⟨A.toArray⟩ : ByteArray) ++ ⟨I.toArray⟩)] w1 fun e w' => e = .returned (.string ⟨(hx x false (A ++ I)).toArray⟩) ∧ Below w1.heap.size w1 w') := ⟨fun w1 => by
    have hh := rmach.rhash_any T x false ((⟨A.toArray⟩ : ByteArray) ++ ⟨I.toArray⟩) w1 h (by rw [ByteArray.size_append]; show A.toArray.size + I.toArray.size ≤ _; rw [List.size_toArray, List.size_toArray]; omega)
    rw [catD] at hh; exact hh⟩
  obtain ⟨R, hR⟩ : ∃ R, hx x false (A ++ I) = R := ⟨_, rfl⟩
  rw [hR] at HO ⊢
  obtain ⟨A', hA'⟩ : ∃ A' : ByteArray, (⟨A.toArray⟩ : ByteArray) = A' := ⟨_, rfl⟩
  obtain ⟨B', hB'⟩ : ∃ B' : ByteArray, (⟨B.toArray⟩ : ByteArray) = B' := ⟨_, rfl⟩
  obtain ⟨I', hI'⟩ : ∃ I' : ByteArray, (⟨I.toArray⟩ : ByteArray) = I' := ⟨_, rfl⟩
  have sA : A'.size = 64 := by rw [← hA']; show A.toArray.size = _; rw [List.size_toArray]; exact hAl
  have sB : B'.size = 64 := by rw [← hB']; show B.toArray.size = _; rw [List.size_toArray]; exact hBl
  have sI : I'.size = 32 := by rw [← hI']; show I.toArray.size = _; rw [List.size_toArray]; exact hIl
  rw [hA'] at HA HO
  rw [hB'] at HB HI
  rw [hI'] at HI HO
  clear h hky hql hA hB hhm hI hR hA' hB' hI' hAl hBl hIl
  clear Hq
  have G0 : Away ((w.alloc (.cells T 33)).heap[w.heap.size]? = some (.cells T 33 (0, 0))) := ⟨heap_at _ _ _ rfl⟩
  have Hb0 : Away (Below w.heap.size w (w.alloc (.cells T 33))) := ⟨below_alloc w _⟩
  go_enter Try.func12, Try.ntmps12
  go_wp2_with (refine wpList_load_row rfl 33 _ rfl w.heap.size rfl 33 T (0, 0) _ G0.out Try.underlying33 rfl (by rw [HTs.out]; exact sizeT) ?_)
  refine (Hkh.out _).mono ?_
  rintro e W ⟨rfl, hb1⟩
  have E0 : Away (W.heap[w.heap.size]? = some (.cells T 33 (0, 0))) := ⟨(hb1.block w.heap.size (by simp)).trans G0.out⟩
  have EB : Away (Below w.heap.size w W) := ⟨Hb0.out.trans (hb1.mono (by simp))⟩
  clear hb1
  go_wp2_with fail
  have n1 : ¬ 9223372036854775807 < 64 + s.size := by omega
  have n2 : (9223372036854775807 < 64 + s.size) = False := eq_false n1
  refine wp_region_quiet_below (by kernel_rfl) (by kernel_rfl) ?_
  refine wpQuiet_load rfl 33 _ rfl _ rfl 33 _ _ (fun w' hC => heap_regrown E0.out hC) Try.underlying33 rfl (by rw [HTs.out]; exact sizeT) ?_
  quiet_step (skip)
  quiet_step (skip)
  quiet_step (skip)
  quiet_step (exact Calls.regrown_of (HA.out _))
  refine wpQuiet_load rfl 33 _ rfl _ rfl 33 _ _ (fun w' hC => heap_regrown E0.out hC) Try.underlying33 rfl (by rw [HTs.out]; exact sizeT) ?_
  quiet_step (skip)
  quiet_step (skip)
  quiet_step (skip)
  quiet_step (exact Calls.regrown_of (HB.out _))
  quiet_step (skip)
  quiet_step (skip)
  quiet_step (exact Calls.regrown_of (HI.out _))
  quiet_step (skip)
  quiet_step (exact Calls.regrown_of (HO.out _))
  quiet_step (skip)
  refine wpQuiet_nil ?_
  intro w3 hC
  have hb3 : Away (Below W.heap.size W w3) := ⟨by
    obtain ⟨pp, rfl⟩ := hC
    exact below_regrown _ _ _⟩
  clear hC
  go_wp2_with fail
  go_ret
  exact ⟨rfl, EB.out.trans (hb3.out.mono EB.out.size)⟩

set_option maxRecDepth 100000 in
set_option maxHeartbeats 2000000 in
theorem hm_true_short (T : Array Value) (x : Wd) (key s : ByteArray) (w : World) (h : TX T x) (hk : key.size ≤ 128) (hkb : key.size ≤ 549755813888) (hs : s.size ≤ 549755813888) :
    Calls Try.prog 12 #[.agg T, .bool true, .string key, .string s] w fun e w' => e = .returned (.string ⟨(hm x true key.data.toList s.data.toList).toArray⟩) ∧ Below w.heap.size w w' := by
  have HTs : Away (T.size = 465) := ⟨h.size⟩
  have hkl : key.data.toList.length = key.size := rfl
  have hsl : s.data.toList.length = s.size := rfl
  have hky : ky x true key.data.toList = key.data.toList := ky_short _ _ _ (by rw [hkl]; exact hk)
  obtain ⟨q, hq⟩ : ∃ q : ByteArray, q = key := ⟨_, rfl⟩
  have hql : q.data.toList = ky x true key.data.toList := by rw [hq, hky]
  have hqs : q.size ≤ 128 := by rw [hq]; exact hk
  obtain ⟨A, hA⟩ : ∃ A, mx (ky x true key.data.toList) 128 92 = A := ⟨_, rfl⟩
  obtain ⟨B, hB⟩ : ∃ B, mx (ky x true key.data.toList) 128 54 = B := ⟨_, rfl⟩
  have hAl : A.length = 128 := by rw [← hA]; exact mx_length _ _ _ (ky_le x true _)
  have hBl : B.length = 128 := by rw [← hB]; exact mx_length _ _ _ (ky_le x true _)
  have hhm : hm x true key.data.toList s.data.toList = hx x true (A ++ hx x true (B ++ s.data.toList)) := by rw [← hA, ← hB]; rfl
  have HA : Away (∀ w1 : World, Calls Try.prog 31 #[.string q, .int .i64 128, .int .u8 92] w1 fun e w' => e = .returned (.string ⟨A.toArray⟩) ∧ Below w1.heap.size w1 w') := ⟨fun w1 => by
    rw [← hA, ← hql]; exact mix.turned_any q 128 92 w1 (by omega) (by decide) (by decide) (by decide)⟩
  have HB : Away (∀ w1 : World, Calls Try.prog 31 #[.string q, .int .i64 128, .int .u8 54] w1 fun e w' => e = .returned (.string ⟨B.toArray⟩) ∧ Below w1.heap.size w1 w') := ⟨fun w1 => by
    rw [← hB, ← hql]; exact mix.turned_any q 128 54 w1 (by omega) (by decide) (by decide) (by decide)⟩
  have HI : Away (∀ w1 : World, Calls Try.prog 10 #[.agg T, .bool true, .string ((⟨B.toArray⟩ : ByteArray) ++ s)] w1 fun e w' => e = .returned (.string ⟨(hx x true (B ++ s.data.toList)).toArray⟩) ∧ Below w1.heap.size w1 w') := ⟨fun w1 => by
    have hh := rmach.rhash_any T x true ((⟨B.toArray⟩ : ByteArray) ++ s) w1 h (by rw [ByteArray.size_append]; show B.toArray.size + _ ≤ _; rw [List.size_toArray]; omega)
    rw [catD] at hh; exact hh⟩
  have hIl : (hx x true (B ++ s.data.toList)).length = 64 := hx_length _ _ _
  rw [hhm]
  obtain ⟨I, hI⟩ : ∃ I, hx x true (B ++ s.data.toList) = I := ⟨_, rfl⟩
  rw [hI] at HI hIl ⊢
  have HO : Away (∀ w1 : World, Calls Try.prog 10 #[.agg T, .bool true, .string ((⟨A.toArray⟩ : ByteArray) ++ ⟨I.toArray⟩)] w1 fun e w' => e = .returned (.string ⟨(hx x true (A ++ I)).toArray⟩) ∧ Below w1.heap.size w1 w') := ⟨fun w1 => by
    have hh := rmach.rhash_any T x true ((⟨A.toArray⟩ : ByteArray) ++ ⟨I.toArray⟩) w1 h (by rw [ByteArray.size_append]; show A.toArray.size + I.toArray.size ≤ _; rw [List.size_toArray, List.size_toArray]; omega)
    rw [catD] at hh; exact hh⟩
  obtain ⟨R, hR⟩ : ∃ R, hx x true (A ++ I) = R := ⟨_, rfl⟩
  rw [hR] at HO ⊢
  obtain ⟨A', hA'⟩ : ∃ A' : ByteArray, (⟨A.toArray⟩ : ByteArray) = A' := ⟨_, rfl⟩
  obtain ⟨B', hB'⟩ : ∃ B' : ByteArray, (⟨B.toArray⟩ : ByteArray) = B' := ⟨_, rfl⟩
  obtain ⟨I', hI'⟩ : ∃ I' : ByteArray, (⟨I.toArray⟩ : ByteArray) = I' := ⟨_, rfl⟩
  have sA : A'.size = 128 := by rw [← hA']; show A.toArray.size = _; rw [List.size_toArray]; exact hAl
  have sB : B'.size = 128 := by rw [← hB']; show B.toArray.size = _; rw [List.size_toArray]; exact hBl
  have sI : I'.size = 64 := by rw [← hI']; show I.toArray.size = _; rw [List.size_toArray]; exact hIl
  rw [hA'] at HA HO
  rw [hB'] at HB HI
  rw [hI'] at HI HO
  clear h hky hql hA hB hhm hI hR hA' hB' hI' hAl hBl hIl
  subst hq
  obtain ⟨W, HW⟩ := ex_eq (w.alloc (.cells T 33))
  have E0 : Away (W.heap[w.heap.size]? = some (.cells T 33 (0, 0))) := ⟨by rw [← HW.out, heap_at _ _ _ rfl]⟩
  have EB : Away (Below w.heap.size w W) := ⟨by rw [← HW.out]; exact below_alloc w _⟩
  go_enter Try.func12, Try.ntmps12
  go_wp2_with fail
  rw [HW.out]
  have n1 : ¬ 9223372036854775807 < 128 + s.size := by omega
  have n2 : (9223372036854775807 < 128 + s.size) = False := eq_false n1
  refine wp_region_quiet_below (by kernel_rfl) (by kernel_rfl) ?_
  refine wpQuiet_load rfl 33 _ rfl _ rfl 33 _ _ (fun w' hC => heap_regrown E0.out hC) Try.underlying33 rfl (by rw [HTs.out]; exact sizeT) ?_
  quiet_step (skip)
  quiet_step (skip)
  quiet_step (skip)
  quiet_step (exact Calls.regrown_of (HA.out _))
  refine wpQuiet_load rfl 33 _ rfl _ rfl 33 _ _ (fun w' hC => heap_regrown E0.out hC) Try.underlying33 rfl (by rw [HTs.out]; exact sizeT) ?_
  quiet_step (skip)
  quiet_step (skip)
  quiet_step (skip)
  quiet_step (exact Calls.regrown_of (HB.out _))
  quiet_step (skip)
  quiet_step (skip)
  quiet_step (exact Calls.regrown_of (HI.out _))
  quiet_step (skip)
  quiet_step (exact Calls.regrown_of (HO.out _))
  quiet_step (skip)
  refine wpQuiet_nil ?_
  intro w3 hC
  have hb3 : Away (Below W.heap.size W w3) := ⟨by
    obtain ⟨pp, rfl⟩ := hC
    exact below_regrown _ _ _⟩
  clear hC
  go_wp2_with fail
  go_ret
  exact ⟨rfl, EB.out.trans (hb3.out.mono EB.out.size)⟩

set_option maxRecDepth 100000 in
set_option maxHeartbeats 2000000 in
theorem hm_true_long (T : Array Value) (x : Wd) (key s : ByteArray) (w : World) (h : TX T x) (hk : 128 < key.size) (hkb : key.size ≤ 549755813888) (hs : s.size ≤ 549755813888) :
    Calls Try.prog 12 #[.agg T, .bool true, .string key, .string s] w fun e w' => e = .returned (.string ⟨(hm x true key.data.toList s.data.toList).toArray⟩) ∧ Below w.heap.size w w' := by
  have HTs : Away (T.size = 465) := ⟨h.size⟩
  have hkl : key.data.toList.length = key.size := rfl
  have hsl : s.data.toList.length = s.size := rfl
  have hky : ky x true key.data.toList = hx x true key.data.toList := ky_long _ _ _ (by rw [hkl]; exact hk)
  have Hkh : Away (∀ w1 : World, Calls Try.prog 10 #[.agg T, .bool true, .string key] w1 fun e w' => e = .returned (.string ⟨(hx x true key.data.toList).toArray⟩) ∧ Below w1.heap.size w1 w') := ⟨fun w1 => rmach.rhash_any T x true key w1 h (by omega)⟩
  obtain ⟨q, Hq⟩ := ex_eq (⟨(hx x true key.data.toList).toArray⟩ : ByteArray)
  have hql : q.data.toList = ky x true key.data.toList := by rw [← Hq.out, hky]
  have hqs : q.size = 64 := by
    have e : q.data.toList.length = q.size := rfl
    rw [← e, hql, hky, hx_length]; rfl
  rw [Hq.out] at Hkh
  obtain ⟨A, hA⟩ : ∃ A, mx (ky x true key.data.toList) 128 92 = A := ⟨_, rfl⟩
  obtain ⟨B, hB⟩ : ∃ B, mx (ky x true key.data.toList) 128 54 = B := ⟨_, rfl⟩
  have hAl : A.length = 128 := by rw [← hA]; exact mx_length _ _ _ (ky_le x true _)
  have hBl : B.length = 128 := by rw [← hB]; exact mx_length _ _ _ (ky_le x true _)
  have hhm : hm x true key.data.toList s.data.toList = hx x true (A ++ hx x true (B ++ s.data.toList)) := by rw [← hA, ← hB]; rfl
  have HA : Away (∀ w1 : World, Calls Try.prog 31 #[.string q, .int .i64 128, .int .u8 92] w1 fun e w' => e = .returned (.string ⟨A.toArray⟩) ∧ Below w1.heap.size w1 w') := ⟨fun w1 => by
    rw [← hA, ← hql]; exact mix.turned_any q 128 92 w1 (by omega) (by decide) (by decide) (by decide)⟩
  have HB : Away (∀ w1 : World, Calls Try.prog 31 #[.string q, .int .i64 128, .int .u8 54] w1 fun e w' => e = .returned (.string ⟨B.toArray⟩) ∧ Below w1.heap.size w1 w') := ⟨fun w1 => by
    rw [← hB, ← hql]; exact mix.turned_any q 128 54 w1 (by omega) (by decide) (by decide) (by decide)⟩
  have HI : Away (∀ w1 : World, Calls Try.prog 10 #[.agg T, .bool true, .string ((⟨B.toArray⟩ : ByteArray) ++ s)] w1 fun e w' => e = .returned (.string ⟨(hx x true (B ++ s.data.toList)).toArray⟩) ∧ Below w1.heap.size w1 w') := ⟨fun w1 => by
    have hh := rmach.rhash_any T x true ((⟨B.toArray⟩ : ByteArray) ++ s) w1 h (by rw [ByteArray.size_append]; show B.toArray.size + _ ≤ _; rw [List.size_toArray]; omega)
    rw [catD] at hh; exact hh⟩
  have hIl : (hx x true (B ++ s.data.toList)).length = 64 := hx_length _ _ _
  rw [hhm]
  obtain ⟨I, hI⟩ : ∃ I, hx x true (B ++ s.data.toList) = I := ⟨_, rfl⟩
  rw [hI] at HI hIl ⊢
  have HO : Away (∀ w1 : World, Calls Try.prog 10 #[.agg T, .bool true, .string ((⟨A.toArray⟩ : ByteArray) ++ ⟨I.toArray⟩)] w1 fun e w' => e = .returned (.string ⟨(hx x true (A ++ I)).toArray⟩) ∧ Below w1.heap.size w1 w') := ⟨fun w1 => by
    have hh := rmach.rhash_any T x true ((⟨A.toArray⟩ : ByteArray) ++ ⟨I.toArray⟩) w1 h (by rw [ByteArray.size_append]; show A.toArray.size + I.toArray.size ≤ _; rw [List.size_toArray, List.size_toArray]; omega)
    rw [catD] at hh; exact hh⟩
  obtain ⟨R, hR⟩ : ∃ R, hx x true (A ++ I) = R := ⟨_, rfl⟩
  rw [hR] at HO ⊢
  obtain ⟨A', hA'⟩ : ∃ A' : ByteArray, (⟨A.toArray⟩ : ByteArray) = A' := ⟨_, rfl⟩
  obtain ⟨B', hB'⟩ : ∃ B' : ByteArray, (⟨B.toArray⟩ : ByteArray) = B' := ⟨_, rfl⟩
  obtain ⟨I', hI'⟩ : ∃ I' : ByteArray, (⟨I.toArray⟩ : ByteArray) = I' := ⟨_, rfl⟩
  have sA : A'.size = 128 := by rw [← hA']; show A.toArray.size = _; rw [List.size_toArray]; exact hAl
  have sB : B'.size = 128 := by rw [← hB']; show B.toArray.size = _; rw [List.size_toArray]; exact hBl
  have sI : I'.size = 64 := by rw [← hI']; show I.toArray.size = _; rw [List.size_toArray]; exact hIl
  rw [hA'] at HA HO
  rw [hB'] at HB HI
  rw [hI'] at HI HO
  clear h hky hql hA hB hhm hI hR hA' hB' hI' hAl hBl hIl
  clear Hq
  have G0 : Away ((w.alloc (.cells T 33)).heap[w.heap.size]? = some (.cells T 33 (0, 0))) := ⟨heap_at _ _ _ rfl⟩
  have Hb0 : Away (Below w.heap.size w (w.alloc (.cells T 33))) := ⟨below_alloc w _⟩
  go_enter Try.func12, Try.ntmps12
  go_wp2_with (refine wpList_load_row rfl 33 _ rfl w.heap.size rfl 33 T (0, 0) _ G0.out Try.underlying33 rfl (by rw [HTs.out]; exact sizeT) ?_)
  refine (Hkh.out _).mono ?_
  rintro e W ⟨rfl, hb1⟩
  have E0 : Away (W.heap[w.heap.size]? = some (.cells T 33 (0, 0))) := ⟨(hb1.block w.heap.size (by simp)).trans G0.out⟩
  have EB : Away (Below w.heap.size w W) := ⟨Hb0.out.trans (hb1.mono (by simp))⟩
  clear hb1
  go_wp2_with fail
  have n1 : ¬ 9223372036854775807 < 128 + s.size := by omega
  have n2 : (9223372036854775807 < 128 + s.size) = False := eq_false n1
  refine wp_region_quiet_below (by kernel_rfl) (by kernel_rfl) ?_
  refine wpQuiet_load rfl 33 _ rfl _ rfl 33 _ _ (fun w' hC => heap_regrown E0.out hC) Try.underlying33 rfl (by rw [HTs.out]; exact sizeT) ?_
  quiet_step (skip)
  quiet_step (skip)
  quiet_step (skip)
  quiet_step (exact Calls.regrown_of (HA.out _))
  refine wpQuiet_load rfl 33 _ rfl _ rfl 33 _ _ (fun w' hC => heap_regrown E0.out hC) Try.underlying33 rfl (by rw [HTs.out]; exact sizeT) ?_
  quiet_step (skip)
  quiet_step (skip)
  quiet_step (skip)
  quiet_step (exact Calls.regrown_of (HB.out _))
  quiet_step (skip)
  quiet_step (skip)
  quiet_step (exact Calls.regrown_of (HI.out _))
  quiet_step (skip)
  quiet_step (exact Calls.regrown_of (HO.out _))
  quiet_step (skip)
  refine wpQuiet_nil ?_
  intro w3 hC
  have hb3 : Away (Below W.heap.size W w3) := ⟨by
    obtain ⟨pp, rfl⟩ := hC
    exact below_regrown _ _ _⟩
  clear hC
  go_wp2_with fail
  go_ret
  exact ⟨rfl, EB.out.trans (hb3.out.mono EB.out.size)⟩

theorem hmac_any (T : Array Value) (x : Wd) (b : Bool) (key s : ByteArray) (w : World) (h : TX T x) (hkb : key.size ≤ 549755813888) (hs : s.size ≤ 549755813888) :
    Calls Try.prog 12 #[.agg T, .bool b, .string key, .string s] w fun e w' => e = .returned (.string ⟨(hm x b key.data.toList s.data.toList).toArray⟩) ∧ Below w.heap.size w w' := by
  cases b
  · by_cases hk : key.size ≤ 64
    · exact hm_false_short T x key s w h hk hkb hs
    · exact hm_false_long T x key s w h (by omega) hkb hs
  · by_cases hk : key.size ≤ 128
    · exact hm_true_short T x key s w h hk hkb hs
    · exact hm_true_long T x key s w h (by omega) hkb hs
end Go.Proofs.Ythfljfampfioaaa.rhmac

namespace Go.Proofs.Ythfljfampfioaaa.rmask
open Go.RowKit
open Go.Proofs.Ythfljfampfioaaa.oct Go.Proofs.Ythfljfampfioaaa.mem Go.Proofs.Ythfljfampfioaaa.arr Go.Proofs.Ythfljfampfioaaa.hashs Go.Proofs.Ythfljfampfioaaa.macm
theorem catB (a b : List UInt8) : (⟨(a ++ b).toArray⟩ : ByteArray) = ⟨a.toArray⟩ ++ ⟨b.toArray⟩ := by
  apply ByteArray.ext
  apply Array.toList_inj.1
  simp

set_option maxRecDepth 100000 in
set_option maxHeartbeats 2000000 in
theorem mask_false (T : Array Value) (x : Wd) (s : ByteArray) (n : Int) (w : World) (h : TX T x) (hs : s.size ≤ 274877906944) :
    Calls Try.prog 14 #[.agg T, .bool false, .string s, .int .i64 n] w fun e w' => e = .returned (.string ⟨(ms x false s.data.toList n).toArray⟩) ∧ Below w.heap.size w w' := by
  have HTs : Away (T.size = 465) := ⟨h.size⟩
  obtain ⟨F, hF⟩ : ∃ F : Nat → ByteArray, (fun k => (⟨(fixL k 4).toArray⟩ : ByteArray)) = F := ⟨_, rfl⟩
  have hF2 : ∀ k, F k = ⟨(fixL k 4).toArray⟩ := fun k => (congrFun hF k).symm
  have HFs : Away (∀ k, (F k).size = 4) := ⟨fun k => by rw [hF2]; show (fixL k 4).toArray.size = 4; rw [List.size_toArray, fixL_length]⟩
  have Hfx : Away (∀ (k : Nat) (w1 : World), k ≤ 2000 → Calls Try.prog 38 #[.int .u64 (k : Int), .int .i64 4] w1 fun e w' => e = .returned (.string (F k)) ∧ Below w1.heap.size w1 w') := ⟨fun k w1 hk => by
    have hh := r01.fixed_any k 4 w1 (by omega)
    rw [show ((4 : Int)) = ((4 : Nat) : Int) from rfl, fixS_wd _ _ (by decide)] at hh
    rw [hF2]; exact hh⟩
  obtain ⟨H, hH⟩ : ∃ H : Nat → ByteArray, (fun k => (⟨(hx x false (s.data.toList ++ fixL k 4)).toArray⟩ : ByteArray)) = H := ⟨_, rfl⟩
  have hH2 : ∀ k, H k = ⟨(hx x false (s.data.toList ++ fixL k 4)).toArray⟩ := fun k => (congrFun hH k).symm
  have HHs : Away (∀ k, (H k).size = 32) := ⟨fun k => by rw [hH2]; show (hx x false (s.data.toList ++ fixL k 4)).toArray.size = _; rw [List.size_toArray, hx_length]; rfl⟩
  have Hha : Away (∀ (k : Nat) (w1 : World), k ≤ 2000 → Calls Try.prog 10 #[.agg T, .bool false, .string (s ++ F k)] w1 fun e w' => e = .returned (.string (H k)) ∧ Below w1.heap.size w1 w') := ⟨fun k w1 hk => by
    have hh := rmach.rhash_any T x false (s ++ F k) w1 h (by rw [ByteArray.size_append, HFs.out]; omega)
    have e : (s ++ F k).data.toList = s.data.toList ++ fixL k 4 := by rw [hF2]; simp
    rw [e, ← hH2] at hh
    exact hh⟩
  obtain ⟨O, hO⟩ : ∃ O : Nat → ByteArray, (fun k => (⟨(mk x false s.data.toList k).toArray⟩ : ByteArray)) = O := ⟨_, rfl⟩
  have hO2 : ∀ k, O k = ⟨(mk x false s.data.toList k).toArray⟩ := fun k => (congrFun hO k).symm
  have HOs : Away (∀ k, (O k).size = 32 * k) := ⟨fun k => by rw [hO2]; show (mk x false s.data.toList k).toArray.size = _; rw [List.size_toArray, mk_length]; rfl⟩
  have HO1 : Away (∀ k, O k ++ H k = O (k + 1)) := ⟨fun k => by rw [hO2, hH2, hO2, mk, catB]⟩
  have HO0 : Away (O 0 = ⟨#[]⟩) := ⟨by rw [hO2]; rfl⟩
  have Hct : Away (∀ w1 : World, Calls Try.prog 16 #[.string (O (((min n 50000).toNat + 31) / 32)), .int .i64 n] w1 fun e w' => e = .returned (.string ⟨(ms x false s.data.toList n).toArray⟩) ∧ w' = w1) := ⟨fun w1 => by
    have hh := cut.rcut_any (O (((min n 50000).toNat + 31) / 32)) n w1 (by rw [HOs.out]; omega)
    rw [hO2] at hh ⊢
    exact hh⟩
  obtain ⟨R, hR⟩ : ∃ R, ms x false s.data.toList n = R := ⟨_, rfl⟩
  rw [hR] at Hct ⊢
  obtain ⟨N, hN⟩ : ∃ N, ((min n 50000).toNat + 31) / 32 = N := ⟨_, rfl⟩
  rw [hN] at Hct
  have hN2 : N ≤ 1600 := by omega
  clear hF hF2 hH hH2 hO hO2 hR h
  obtain ⟨W, HW⟩ := ex_eq (w.alloc (.cells T 33))
  have E0 : Away (W.heap[w.heap.size]? = some (.cells T 33 (0, 0))) := ⟨by rw [← HW.out]; exact heap_at _ _ _ rfl⟩
  have HbW : Away (Below w.heap.size w W) := ⟨by rw [← HW.out]; exact below_alloc w _⟩
  have hl0 : w.heap.size < W.heap.size := lt_of_row E0.out
  have e0 : (⟨#[]⟩ : ByteArray) = O 0 := HO0.out.symm
  go_enter Try.func14, Try.ntmps14
  go_wp2_with fail
  rw [HW.out]
  go_loopw [9, 10] (fun o i wr => ∃ k : Nat, k ≤ N ∧ o = .string (O k) ∧ i = .int .i64 k ∧ Away (Below W.heap.size W wr)) (fun _ i _ => N - (intOf i).toNat)
  case atStart => exact ⟨0, Nat.zero_le _, by rw [HO0.out], rfl, ⟨Below.refl _ _⟩⟩
  case round =>
    obtain ⟨k, hk, rfl, rfl, Hbe⟩ := hrel
    have F0 : Away (wr.heap[w.heap.size]? = some (.cells T 33 (0, 0))) := ⟨(Hbe.out.block _ hl0).trans E0.out⟩
    have hos := HOs.out k
    by_cases hlt : ((32 * k : Nat) : Int) < min n 50000
    · have hkN : k + 1 ≤ N := by omega
      have HkN := Away.mk hkN
      have hk2 : k ≤ 1600 := by omega
      have Hnx := Away.mk (HO1.out k)
      have hfs := HFs.out k
      have hhs := HHs.out k
      have Hf := Away.mk (fun w1 => Hfx.out k w1 (by omega))
      have Hh := Away.mk (fun w1 => Hha.out k w1 (by omega))
      obtain ⟨o, ho⟩ : ∃ o, O k = o := ⟨_, rfl⟩
      obtain ⟨f, hf⟩ : ∃ f, F k = f := ⟨_, rfl⟩
      obtain ⟨g, hg⟩ : ∃ g, H k = g := ⟨_, rfl⟩
      obtain ⟨q, hq⟩ : ∃ q : Nat, 32 * k = q := ⟨_, rfl⟩
      rw [ho] at hos Hnx ⊢
      rw [hf] at hfs Hf Hh
      rw [hg] at hhs Hh Hnx
      rw [hq] at hos hlt
      have hd : decide ((q : Int) < min n 50000) = true := decide_eq_true hlt
      have hq2 : q ≤ 50000 := by omega
      have hw : IntKind.u64.wrap (k : Int) = (k : Int) := by rw [IntKind.wrap_u64]; omega
      have n1 : (9223372036854775807 < s.size + 4) = False := eq_false (by omega)
      have n2 : (9223372036854775807 < q + 32) = False := eq_false (by omega)
      clear ho hf hg hq hkN e0
      go_wp2_with fail
      refine wp_region_quiet_below (by kernel_rfl) (by kernel_rfl) ?_
      quiet_step (skip)
      refine wpQuiet_load rfl 33 _ rfl _ rfl 33 _ _ (fun w' hC => heap_regrown F0.out hC) Try.underlying33 rfl (by rw [HTs.out]; exact sizeT) ?_
      quiet_step (skip)
      quiet_step (skip)
      quiet_step (skip)
      quiet_step (skip)
      quiet_step (exact Calls.regrown_of (Hf.out _))
      quiet_step (skip)
      quiet_step (exact Calls.regrown_of (Hh.out _))
      quiet_step (skip)
      quiet_step (skip)
      refine wpQuiet_nil ?_
      intro w3 hC
      have Hb3 : Away (Below wr.heap.size wr w3) := ⟨by
        obtain ⟨pp, rfl⟩ := hC
        exact below_regrown _ _ _⟩
      clear hC
      go_wp2_with fail
      go_roundw
      case rel => exact ⟨k + 1, HkN.out, by rw [Hnx.out], by go_num, ⟨Hbe.out.trans (Hb3.out.mono Hbe.out.size)⟩⟩
      case measure => have := HkN.out; simp [intOf]; omega
    · obtain rfl : k = N := by omega
      obtain ⟨o, ho⟩ : ∃ o, O k = o := ⟨_, rfl⟩
      obtain ⟨q, hq⟩ : ∃ q : Nat, 32 * k = q := ⟨_, rfl⟩
      rw [ho] at hos Hct ⊢
      rw [hq] at hos hlt
      have hd : decide ((q : Int) < min n 50000) = false := decide_eq_false hlt
      clear ho hq e0
      go_wp2_with fail
      refine (Hct.out _).mono ?_
      rintro e w4 ⟨rfl, rfl⟩
      have Hb4 : Away (Below w.heap.size w w4) := ⟨HbW.out.trans (Hbe.out.mono HbW.out.size)⟩
      go_wp2_with fail
      go_ret
      exact ⟨rfl, Hb4.out⟩

set_option maxRecDepth 100000 in
set_option maxHeartbeats 2000000 in
theorem mask_true (T : Array Value) (x : Wd) (s : ByteArray) (n : Int) (w : World) (h : TX T x) (hs : s.size ≤ 274877906944) :
    Calls Try.prog 14 #[.agg T, .bool true, .string s, .int .i64 n] w fun e w' => e = .returned (.string ⟨(ms x true s.data.toList n).toArray⟩) ∧ Below w.heap.size w w' := by
  have HTs : Away (T.size = 465) := ⟨h.size⟩
  obtain ⟨F, hF⟩ : ∃ F : Nat → ByteArray, (fun k => (⟨(fixL k 4).toArray⟩ : ByteArray)) = F := ⟨_, rfl⟩
  have hF2 : ∀ k, F k = ⟨(fixL k 4).toArray⟩ := fun k => (congrFun hF k).symm
  have HFs : Away (∀ k, (F k).size = 4) := ⟨fun k => by rw [hF2]; show (fixL k 4).toArray.size = 4; rw [List.size_toArray, fixL_length]⟩
  have Hfx : Away (∀ (k : Nat) (w1 : World), k ≤ 2000 → Calls Try.prog 38 #[.int .u64 (k : Int), .int .i64 4] w1 fun e w' => e = .returned (.string (F k)) ∧ Below w1.heap.size w1 w') := ⟨fun k w1 hk => by
    have hh := r01.fixed_any k 4 w1 (by omega)
    rw [show ((4 : Int)) = ((4 : Nat) : Int) from rfl, fixS_wd _ _ (by decide)] at hh
    rw [hF2]; exact hh⟩
  obtain ⟨H, hH⟩ : ∃ H : Nat → ByteArray, (fun k => (⟨(hx x true (s.data.toList ++ fixL k 4)).toArray⟩ : ByteArray)) = H := ⟨_, rfl⟩
  have hH2 : ∀ k, H k = ⟨(hx x true (s.data.toList ++ fixL k 4)).toArray⟩ := fun k => (congrFun hH k).symm
  have HHs : Away (∀ k, (H k).size = 64) := ⟨fun k => by rw [hH2]; show (hx x true (s.data.toList ++ fixL k 4)).toArray.size = _; rw [List.size_toArray, hx_length]; rfl⟩
  have Hha : Away (∀ (k : Nat) (w1 : World), k ≤ 2000 → Calls Try.prog 10 #[.agg T, .bool true, .string (s ++ F k)] w1 fun e w' => e = .returned (.string (H k)) ∧ Below w1.heap.size w1 w') := ⟨fun k w1 hk => by
    have hh := rmach.rhash_any T x true (s ++ F k) w1 h (by rw [ByteArray.size_append, HFs.out]; omega)
    have e : (s ++ F k).data.toList = s.data.toList ++ fixL k 4 := by rw [hF2]; simp
    rw [e, ← hH2] at hh
    exact hh⟩
  obtain ⟨O, hO⟩ : ∃ O : Nat → ByteArray, (fun k => (⟨(mk x true s.data.toList k).toArray⟩ : ByteArray)) = O := ⟨_, rfl⟩
  have hO2 : ∀ k, O k = ⟨(mk x true s.data.toList k).toArray⟩ := fun k => (congrFun hO k).symm
  have HOs : Away (∀ k, (O k).size = 64 * k) := ⟨fun k => by rw [hO2]; show (mk x true s.data.toList k).toArray.size = _; rw [List.size_toArray, mk_length]; rfl⟩
  have HO1 : Away (∀ k, O k ++ H k = O (k + 1)) := ⟨fun k => by rw [hO2, hH2, hO2, mk, catB]⟩
  have HO0 : Away (O 0 = ⟨#[]⟩) := ⟨by rw [hO2]; rfl⟩
  have Hct : Away (∀ w1 : World, Calls Try.prog 16 #[.string (O (((min n 50000).toNat + 63) / 64)), .int .i64 n] w1 fun e w' => e = .returned (.string ⟨(ms x true s.data.toList n).toArray⟩) ∧ w' = w1) := ⟨fun w1 => by
    have hh := cut.rcut_any (O (((min n 50000).toNat + 63) / 64)) n w1 (by rw [HOs.out]; omega)
    rw [hO2] at hh ⊢
    exact hh⟩
  obtain ⟨R, hR⟩ : ∃ R, ms x true s.data.toList n = R := ⟨_, rfl⟩
  rw [hR] at Hct ⊢
  obtain ⟨N, hN⟩ : ∃ N, ((min n 50000).toNat + 63) / 64 = N := ⟨_, rfl⟩
  rw [hN] at Hct
  have hN2 : N ≤ 1600 := by omega
  clear hF hF2 hH hH2 hO hO2 hR h
  obtain ⟨W, HW⟩ := ex_eq (w.alloc (.cells T 33))
  have E0 : Away (W.heap[w.heap.size]? = some (.cells T 33 (0, 0))) := ⟨by rw [← HW.out]; exact heap_at _ _ _ rfl⟩
  have HbW : Away (Below w.heap.size w W) := ⟨by rw [← HW.out]; exact below_alloc w _⟩
  have hl0 : w.heap.size < W.heap.size := lt_of_row E0.out
  have e0 : (⟨#[]⟩ : ByteArray) = O 0 := HO0.out.symm
  go_enter Try.func14, Try.ntmps14
  go_wp2_with fail
  rw [HW.out]
  go_loopw [9, 10] (fun o i wr => ∃ k : Nat, k ≤ N ∧ o = .string (O k) ∧ i = .int .i64 k ∧ Away (Below W.heap.size W wr)) (fun _ i _ => N - (intOf i).toNat)
  case atStart => exact ⟨0, Nat.zero_le _, by rw [HO0.out], rfl, ⟨Below.refl _ _⟩⟩
  case round =>
    obtain ⟨k, hk, rfl, rfl, Hbe⟩ := hrel
    have F0 : Away (wr.heap[w.heap.size]? = some (.cells T 33 (0, 0))) := ⟨(Hbe.out.block _ hl0).trans E0.out⟩
    have hos := HOs.out k
    by_cases hlt : ((64 * k : Nat) : Int) < min n 50000
    · have hkN : k + 1 ≤ N := by omega
      have HkN := Away.mk hkN
      have hk2 : k ≤ 1600 := by omega
      have Hnx := Away.mk (HO1.out k)
      have hfs := HFs.out k
      have hhs := HHs.out k
      have Hf := Away.mk (fun w1 => Hfx.out k w1 (by omega))
      have Hh := Away.mk (fun w1 => Hha.out k w1 (by omega))
      obtain ⟨o, ho⟩ : ∃ o, O k = o := ⟨_, rfl⟩
      obtain ⟨f, hf⟩ : ∃ f, F k = f := ⟨_, rfl⟩
      obtain ⟨g, hg⟩ : ∃ g, H k = g := ⟨_, rfl⟩
      obtain ⟨q, hq⟩ : ∃ q : Nat, 64 * k = q := ⟨_, rfl⟩
      rw [ho] at hos Hnx ⊢
      rw [hf] at hfs Hf Hh
      rw [hg] at hhs Hh Hnx
      rw [hq] at hos hlt
      have hd : decide ((q : Int) < min n 50000) = true := decide_eq_true hlt
      have hq2 : q ≤ 50000 := by omega
      have hw : IntKind.u64.wrap (k : Int) = (k : Int) := by rw [IntKind.wrap_u64]; omega
      have n1 : (9223372036854775807 < s.size + 4) = False := eq_false (by omega)
      have n2 : (9223372036854775807 < q + 64) = False := eq_false (by omega)
      clear ho hf hg hq hkN e0
      go_wp2_with fail
      refine wp_region_quiet_below (by kernel_rfl) (by kernel_rfl) ?_
      quiet_step (skip)
      refine wpQuiet_load rfl 33 _ rfl _ rfl 33 _ _ (fun w' hC => heap_regrown F0.out hC) Try.underlying33 rfl (by rw [HTs.out]; exact sizeT) ?_
      quiet_step (skip)
      quiet_step (skip)
      quiet_step (skip)
      quiet_step (skip)
      quiet_step (exact Calls.regrown_of (Hf.out _))
      quiet_step (skip)
      quiet_step (exact Calls.regrown_of (Hh.out _))
      quiet_step (skip)
      quiet_step (skip)
      refine wpQuiet_nil ?_
      intro w3 hC
      have Hb3 : Away (Below wr.heap.size wr w3) := ⟨by
        obtain ⟨pp, rfl⟩ := hC
        exact below_regrown _ _ _⟩
      clear hC
      go_wp2_with fail
      go_roundw
      case rel => exact ⟨k + 1, HkN.out, by rw [Hnx.out], by go_num, ⟨Hbe.out.trans (Hb3.out.mono Hbe.out.size)⟩⟩
      case measure => have := HkN.out; simp [intOf]; omega
    · obtain rfl : k = N := by omega
      obtain ⟨o, ho⟩ : ∃ o, O k = o := ⟨_, rfl⟩
      obtain ⟨q, hq⟩ : ∃ q : Nat, 64 * k = q := ⟨_, rfl⟩
      rw [ho] at hos Hct ⊢
      rw [hq] at hos hlt
      have hd : decide ((q : Int) < min n 50000) = false := decide_eq_false hlt
      clear ho hq e0
      go_wp2_with fail
      refine (Hct.out _).mono ?_
      rintro e w4 ⟨rfl, rfl⟩
      have Hb4 : Away (Below w.heap.size w w4) := ⟨HbW.out.trans (Hbe.out.mono HbW.out.size)⟩
      go_wp2_with fail
      go_ret
      exact ⟨rfl, Hb4.out⟩

theorem mask_any (T : Array Value) (x : Wd) (b : Bool) (s : ByteArray) (n : Int) (w : World) (h : TX T x) (hs : s.size ≤ 274877906944) :
    Calls Try.prog 14 #[.agg T, .bool b, .string s, .int .i64 n] w fun e w' => e = .returned (.string ⟨(ms x b s.data.toList n).toArray⟩) ∧ Below w.heap.size w w' := by
  cases b
  · exact mask_false T x s n w h hs
  · exact mask_true T x s n w h hs
end Go.Proofs.Ythfljfampfioaaa.rmask
