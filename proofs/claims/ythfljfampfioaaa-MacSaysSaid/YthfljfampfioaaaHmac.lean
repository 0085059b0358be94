/-
  What mac.Hmac returns: the document's code; memory that was there before stays as it was. Conditions: the tables hold the words, key and string have at most 2^39 bytes.
-/
import Derived.Test.YthfljfampfioaaaMacH
import Derived.Test.YthfljfampfioaaaMix
namespace Go.Proofs.Ythfljfampfioaaa.hmac
open Go.RowKit
open Go.Proofs.Ythfljfampfioaaa.oct Go.Proofs.Ythfljfampfioaaa.mem Go.Proofs.Ythfljfampfioaaa.arr Go.Proofs.Ythfljfampfioaaa.hashs Go.Proofs.Ythfljfampfioaaa.macm
theorem catD (l : List UInt8) (s : ByteArray) : ((⟨l.toArray⟩ : ByteArray) ++ s).data.toList = l ++ s.data.toList := by simp
theorem ky_short (x : Wd) (b : Bool) (key : List UInt8) (h : key.length ≤ bN b) : ky x b key = key := if_neg (by omega)
theorem ky_long (x : Wd) (b : Bool) (key : List UInt8) (h : bN b < key.length) : ky x b key = hx x b key := if_pos h

set_option maxRecDepth 100000 in
set_option maxHeartbeats 2000000 in
theorem hm_false_short (T : Array Value) (x : Wd) (key s : ByteArray) (w : World) (h : TX T x) (hk : key.size ≤ 64) (hkb : key.size ≤ 549755813888) (hs : s.size ≤ 549755813888) :
    Calls Try.prog 11 #[.agg T, .bool false, .string key, .string s] w fun e w' => e = .returned (.string ⟨(hm x false key.data.toList s.data.toList).toArray⟩) ∧ Below w.heap.size w w' := by
  have HTs : Away (T.size = 465) := ⟨h.size⟩
  have hkl : key.data.toList.length = key.size := rfl
  have hsl : s.data.toList.length = s.size := rfl
  have hky : ky x false key.data.toList = key.data.toList := ky_short _ _ _ (by rw [hkl]; exact hk)
  obtain ⟨q, hq⟩ : ∃ q : ByteArray, q = key := ⟨_, rfl⟩
  have hql : q.data.toList = ky x false key.data.toList := by rw [hq, hky]
  have hqs : q.size ≤ 64 := by rw [hq]; exact hk
  obtain ⟨A, hA⟩ : ∃ A, mx (ky x false key.data.toList) 64 92 = A := ⟨_, rfl⟩
  obtain ⟨B, hB⟩ : ∃ B, mx (ky x false key.data.toList) 64 54 = B := ⟨_, rfl⟩
  have hAl : A.length = 64 := by rw [← hA]; exact mx_length _ _ _ (ky_le x false _)
  have hBl : B.length = 64 := by rw [← hB]; exact mx_length _ _ _ (ky_le x false _)
  have hhm : hm x false key.data.toList s.data.toList = hx x false (A ++ hx x false (B ++ s.data.toList)) := by rw [← hA, ← hB]; rfl
  have HA : Away (∀ w1 : World, w1.cell? ⟨w.heap.size + 1 + 1, 0, none⟩ = some (.int .i64 64) → w1.cell? ⟨w.heap.size + 1, 0, none⟩ = some (.string q) → w.heap.size + 1 < w1.heap.size → Calls Try.prog 30 #[.int .u8 92, .pointer (some ⟨w.heap.size + 1 + 1, 0, none⟩), .pointer (some ⟨w.heap.size + 1, 0, none⟩)] w1 fun e w' => e = .returned (.string ⟨A.toArray⟩) ∧ Below w1.heap.size w1 w') := ⟨fun w1 c1 c2 l => by
    rw [← hA, ← hql]; exact mix.clo_any _ _ q 64 92 w1 c1 c2 l (by omega) (by decide) (by decide) (by decide)⟩
  have HB : Away (∀ w1 : World, w1.cell? ⟨w.heap.size + 1 + 1, 0, none⟩ = some (.int .i64 64) → w1.cell? ⟨w.heap.size + 1, 0, none⟩ = some (.string q) → w.heap.size + 1 < w1.heap.size → Calls Try.prog 30 #[.int .u8 54, .pointer (some ⟨w.heap.size + 1 + 1, 0, none⟩), .pointer (some ⟨w.heap.size + 1, 0, none⟩)] w1 fun e w' => e = .returned (.string ⟨B.toArray⟩) ∧ Below w1.heap.size w1 w') := ⟨fun w1 c1 c2 l => by
    rw [← hB, ← hql]; exact mix.clo_any _ _ q 64 54 w1 c1 c2 l (by omega) (by decide) (by decide) (by decide)⟩
  have HI : Away (∀ w1 : World, Calls Try.prog 9 #[.agg T, .bool false, .string ((⟨B.toArray⟩ : ByteArray) ++ s)] w1 fun e w' => e = .returned (.string ⟨(hx x false (B ++ s.data.toList)).toArray⟩) ∧ Below w1.heap.size w1 w') := ⟨fun w1 => by
    have hh := mach.hash_any T x false ((⟨B.toArray⟩ : ByteArray) ++ s) w1 h (by rw [ByteArray.size_append]; show B.toArray.size + _ ≤ _; rw [List.size_toArray]; omega)
    rw [catD] at hh; exact hh⟩
  have hIl : (hx x false (B ++ s.data.toList)).length = 32 := hx_length _ _ _
  rw [hhm]
  obtain ⟨I, hI⟩ : ∃ I, hx x false (B ++ s.data.toList) = I := ⟨_, rfl⟩
  rw [hI] at HI hIl ⊢
  have HO : Away (∀ w1 : World, Calls Try.prog 9 #[.agg T, .bool false, .string ((⟨A.toArray⟩ : ByteArray) ++ ⟨I.toArray⟩)] w1 fun e w' => e = .returned (.string ⟨(hx x false (A ++ I)).toArray⟩) ∧ Below w1.heap.size w1 w') := ⟨fun w1 => by
    have hh := mach.hash_any T x false ((⟨A.toArray⟩ : ByteArray) ++ ⟨I.toArray⟩) w1 h (by rw [ByteArray.size_append]; show A.toArray.size + I.toArray.size ≤ _; rw [List.size_toArray, List.size_toArray]; omega)
    rw [catD] at hh; exact hh⟩
  obtain ⟨R, hR⟩ : ∃ R, hx x false (A ++ I) = R := ⟨_, rfl⟩
  rw [hR] at HO ⊢
  have HAl := Away.mk hAl
  have HBl := Away.mk hBl
  have HIl := Away.mk hIl
  obtain ⟨A', hA'⟩ : ∃ A' : ByteArray, (⟨A.toArray⟩ : ByteArray) = A' := ⟨_, rfl⟩
  obtain ⟨B', hB'⟩ : ∃ B' : ByteArray, (⟨B.toArray⟩ : ByteArray) = B' := ⟨_, rfl⟩
  obtain ⟨I', hI'⟩ : ∃ I' : ByteArray, (⟨I.toArray⟩ : ByteArray) = I' := ⟨_, rfl⟩
  have sA : A'.size = 64 := by rw [← hA']; show A.toArray.size = _; rw [List.size_toArray]; exact hAl
  have sB : B'.size = 64 := by rw [← hB']; show B.toArray.size = _; rw [List.size_toArray]; exact hBl
  have sI : I'.size = 32 := by rw [← hI']; show I.toArray.size = _; rw [List.size_toArray]; exact hIl
  rw [hA'] at HA HO
  rw [hB'] at HB HI
  rw [hI'] at HI HO
  clear h hky hql hA hB hhm hI hR hA' hB' hI' HAl HBl HIl hAl hBl hIl
  subst hq
  obtain ⟨W, HW⟩ := ex_eq (((w.alloc (.cells T 33)).alloc (.cells #[.string q] 9)).alloc (.cells #[.int .i64 64] 3))
  have E0 : Away (W.heap[w.heap.size]? = some (.cells T 33 (0, 0))) := ⟨by rw [← HW.out, heap_past _ _ _ (by simp; omega), heap_past _ _ _ (by simp), heap_at _ _ _ rfl]⟩
  have E1 : Away (W.heap[w.heap.size + 1]? = some (.cells #[.string q] 9 (0, 0))) := ⟨by rw [← HW.out, heap_past _ _ _ (by simp), heap_at _ _ _ (by simp)]⟩
  have E2 : Away (W.heap[w.heap.size + 1 + 1]? = some (.cells #[.int .i64 64] 3 (0, 0))) := ⟨by rw [← HW.out, heap_at _ _ _ (by simp)]⟩
  have EB : Away (Below w.heap.size w W) := ⟨by rw [← HW.out]; exact ((((Below.refl _ _).alloc (Nat.le_refl _) _).alloc (by simp) _).alloc (by simp; omega) _)⟩
  go_enter Try.func11, Try.ntmps11
  go_wp2_with fail
  rw [HW.out]
  have C1 : Away (W.cell? ⟨w.heap.size + 1, 0, none⟩ = some (.string q)) := ⟨(cell_of_row W _ 0 _ _ (0, 0) E1.out).trans rfl⟩
  have C2 : Away (W.cell? ⟨w.heap.size + 1 + 1, 0, none⟩ = some (.int .i64 64)) := ⟨(cell_of_row W _ 0 _ _ (0, 0) E2.out).trans rfl⟩
  have L1 : Away (∀ d os, w.heap.size + 1 < (Go.Sort.grow (redrawn W d) os).heap.size) := ⟨fun d os => Nat.lt_of_lt_of_le (lt_of_row E1.out) (below_regrown W d os).size⟩
  have n1 : ¬ 9223372036854775807 < 64 + s.size := by omega
  have n2 : (9223372036854775807 < 64 + s.size) = False := eq_false n1
  refine wp_region_quiet_below (by kernel_rfl) (by kernel_rfl) ?_
  refine wpQuiet_load rfl 33 _ rfl _ rfl 33 _ _ (fun w' hC => heap_regrown E0.out hC) Try.underlying33 rfl (by rw [HTs.out]; exact sizeT) ?_
  quiet_step (skip)
  quiet_step (skip)
  quiet_step (exact Calls.regrown_of (HA.out _ (cell_regrown C2.out _ _) (cell_regrown C1.out _ _) (L1.out _ _)))
  refine wpQuiet_load rfl 33 _ rfl _ rfl 33 _ _ (fun w' hC => heap_regrown E0.out hC) Try.underlying33 rfl (by rw [HTs.out]; exact sizeT) ?_
  quiet_step (skip)
  quiet_step (skip)
  quiet_step (exact Calls.regrown_of (HB.out _ (cell_regrown C2.out _ _) (cell_regrown C1.out _ _) (L1.out _ _)))
  quiet_step (skip)
  quiet_step (skip)
  quiet_step (exact Calls.regrown_of (HI.out _))
  quiet_step (skip)
  quiet_step (exact Calls.regrown_of (HO.out _))
  quiet_step (skip)
  refine wpQuiet_nil ?_
  intro w3 hC
  have hb3 : Away (Below W.heap.size W w3) := ⟨by
    obtain ⟨pp, rfl⟩ := hC
    exact below_regrown _ _ _⟩
  clear hC
  go_wp2_with fail
  go_ret
  exact ⟨rfl, EB.out.trans (hb3.out.mono EB.out.size)⟩

set_option maxRecDepth 100000 in
set_option maxHeartbeats 2000000 in
theorem hm_false_long (T : Array Value) (x : Wd) (key s : ByteArray) (w : World) (h : TX T x) (hk : 64 < key.size) (hkb : key.size ≤ 549755813888) (hs : s.size ≤ 549755813888) :
    Calls Try.prog 11 #[.agg T, .bool false, .string key, .string s] w fun e w' => e = .returned (.string ⟨(hm x false key.data.toList s.data.toList).toArray⟩) ∧ Below w.heap.size w w' := by
  have HTs : Away (T.size = 465) := ⟨h.size⟩
  have hkl : key.data.toList.length = key.size := rfl
  have hsl : s.data.toList.length = s.size := rfl
  have hky : ky x false key.data.toList = hx x false key.data.toList := ky_long _ _ _ (by rw [hkl]; exact hk)
  have Hkh : Away (∀ w1 : World, Calls Try.prog 9 #[.agg T, .bool false, .string key] w1 fun e w' => e = .returned (.string ⟨(hx x false key.data.toList).toArray⟩) ∧ Below w1.heap.size w1 w') := ⟨fun w1 => mach.hash_any T x false key w1 h (by omega)⟩
  obtain ⟨q, Hq⟩ := ex_eq (⟨(hx x false key.data.toList).toArray⟩ : ByteArray)
  have hql : q.data.toList = ky x false key.data.toList := by rw [← Hq.out, hky]
  have hqs : q.size = 32 := by
    have e : q.data.toList.length = q.size := rfl
    rw [← e, hql, hky, hx_length]; rfl
  rw [Hq.out] at Hkh
  obtain ⟨A, hA⟩ : ∃ A, mx (ky x false key.data.toList) 64 92 = A := ⟨_, rfl⟩
  obtain ⟨B, hB⟩ : ∃ B, mx (ky x false key.data.toList) 64 54 = B := ⟨_, rfl⟩
  have hAl : A.length = 64 := by rw [← hA]; exact mx_length _ _ _ (ky_le x false _)
  have hBl : B.length = 64 := by rw [← hB]; exact mx_length _ _ _ (ky_le x false _)
  have hhm : hm x false key.data.toList s.data.toList = hx x false (A ++ hx x false (B ++ s.data.toList)) := by rw [← hA, ← hB]; rfl
  have HA : Away (∀ w1 : World, w1.cell? ⟨w.heap.size + 1 + 1, 0, none⟩ = some (.int .i64 64) → w1.cell? ⟨w.heap.size + 1, 0, none⟩ = some (.string q) → w.heap.size + 1 < w1.heap.size → Calls Try.prog 30 #[.int .u8 92, .pointer (some ⟨w.heap.size + 1 + 1, 0, none⟩), .pointer (some ⟨w.heap.size + 1, 0, none⟩)] w1 fun e w' => e = .returned (.string ⟨A.toArray⟩) ∧ Below w1.heap.size w1 w') := ⟨fun w1 c1 c2 l => by
    rw [← hA, ← hql]; exact mix.clo_any _ _ q 64 92 w1 c1 c2 l (by omega) (by decide) (by decide) (by decide)⟩
  have HB : Away (∀ w1 : World, w1.cell? ⟨w.heap.size + 1 + 1, 0, none⟩ = some (.int .i64 64) → w1.cell? ⟨w.heap.size + 1, 0, none⟩ = some (.string q) → w.heap.size + 1 < w1.heap.size → Calls Try.prog 30 #[.int .u8 54, .pointer (some ⟨w.heap.size + 1 + 1, 0, none⟩), .pointer (some ⟨w.heap.size + 1, 0, none⟩)] w1 fun e w' => e = .returned (.string ⟨B.toArray⟩) ∧ Below w1.heap.size w1 w') := ⟨fun w1 c1 c2 l => by
    rw [← hB, ← hql]; exact mix.clo_any _ _ q 64 54 w1 c1 c2 l (by omega) (by decide) (by decide) (by decide)⟩
  have HI : Away (∀ w1 : World, Calls Try.prog 9 #[.agg T, .bool false, .string ((⟨B.toArray⟩ : ByteArray) ++ s)] w1 fun e w' => e = .returned (.string ⟨(hx x false (B ++ s.data.toList)).toArray⟩) ∧ Below w1.heap.size w1 w') := ⟨fun w1 => by
    have hh := mach.hash_any T x false ((⟨B.toArray⟩ : ByteArray) ++ s) w1 h (by rw [ByteArray.size_append]; show B.toArray.size + _ ≤ _; rw [List.size_toArray]; omega)
    rw [catD] at hh; exact hh⟩
  have hIl : (hx x false (B ++ s.data.toList)).length = 32 := hx_length _ _ _
  rw [hhm]
  obtain ⟨I, hI⟩ : ∃ I, hx x false (B ++ s.data.toList) = I := ⟨_, rfl⟩
  rw [hI] at HI hIl ⊢
  have HO : Away (∀ w1 : World, Calls Try.prog 9 #[.agg T, .bool false, .string ((⟨A.toArray⟩ : ByteArray) ++ ⟨I.toArray⟩)] w1 fun e w' => e = .returned (.string ⟨(hx x false (A ++ I)).toArray⟩) ∧ Below w1.heap.size w1 w') := ⟨fun w1 => by
    have hh := mach.hash_any T x false ((⟨A.toArray⟩ : ByteArray) ++ ⟨I.toArray⟩) w1 h (by rw [ByteArray.size_append]; show A.toArray.size + I.toArray.size ≤ _; rw [List.size_toArray, List.size_toArray]; omega)
    rw [catD] at hh; exact hh⟩
  obtain ⟨R, hR⟩ : ∃ R, hx x false (A ++ I) = R := ⟨_, rfl⟩
  rw [hR] at HO ⊢
  have HAl := Away.mk hAl
  have HBl := Away.mk hBl
  have HIl := Away.mk hIl
  obtain ⟨A', hA'⟩ : ∃ A' : ByteArray, (⟨A.toArray⟩ : ByteArray) = A' := ⟨_, rfl⟩
  obtain ⟨B', hB'⟩ : ∃ B' : ByteArray, (⟨B.toArray⟩ : ByteArray) = B' := ⟨_, rfl⟩
  obtain ⟨I', hI'⟩ : ∃ I' : ByteArray, (⟨I.toArray⟩ : ByteArray) = I' := ⟨_, rfl⟩
  have sA : A'.size = 64 := by rw [← hA']; show A.toArray.size = _; rw [List.size_toArray]; exact hAl
  have sB : B'.size = 64 := by rw [← hB']; show B.toArray.size = _; rw [List.size_toArray]; exact hBl
  have sI : I'.size = 32 := by rw [← hI']; show I.toArray.size = _; rw [List.size_toArray]; exact hIl
  rw [hA'] at HA HO
  rw [hB'] at HB HI
  rw [hI'] at HI HO
  clear h hky hql hA hB hhm hI hR hA' hB' hI' HAl HBl HIl hAl hBl hIl
  clear Hq
  obtain ⟨w0, Hw0⟩ := ex_eq (((w.alloc (.cells T 33)).alloc (.cells #[.string key] 9)).alloc (.cells #[.int .i64 64] 3))
  have g0 : w0.heap[w.heap.size]? = some (.cells T 33 (0, 0)) := by rw [← Hw0.out, heap_past _ _ _ (by simp; omega), heap_past _ _ _ (by simp), heap_at _ _ _ rfl]
  have g1 : w0.heap[w.heap.size + 1]? = some (.cells #[.string key] 9 (0, 0)) := by rw [← Hw0.out, heap_past _ _ _ (by simp), heap_at _ _ _ (by simp)]
  have g2 : w0.heap[w.heap.size + 1 + 1]? = some (.cells #[.int .i64 64] 3 (0, 0)) := by rw [← Hw0.out, heap_at _ _ _ (by simp)]
  have hb0 : Below w.heap.size w w0 := by rw [← Hw0.out]; exact ((((Below.refl _ _).alloc (Nat.le_refl _) _).alloc (by simp) _).alloc (by simp; omega) _)
  have z0 : w0.heap.size = w.heap.size + 3 := by rw [← Hw0.out]; simp
  have G0 : Away ((((w.alloc (.cells T 33)).alloc (.cells #[.string key] 9)).alloc (.cells #[.int .i64 64] 3)).heap[w.heap.size]? = some (.cells T 33 (0, 0))) := ⟨by rw [Hw0.out]; exact g0⟩
  have G := Away.mk (And.intro g0 (And.intro g1 (And.intro g2 hb0)))
  clear g0 g1 g2 hb0
  go_enter Try.func11, Try.ntmps11
  go_wp2_with (refine wpList_load_row rfl 33 _ rfl w.heap.size rfl 33 T (0, 0) _ G0.out Try.underlying33 rfl (by rw [HTs.out]; exact sizeT) ?_)
  rw [Hw0.out]
  refine (Hkh.out _).mono ?_
  rintro e w1 ⟨rfl, hb1⟩
  have h0 := (hb1.block w.heap.size (by omega)).trans G.out.1
  have h1 := (hb1.block (w.heap.size + 1) (by omega)).trans G.out.2.1
  have h2 := (hb1.block (w.heap.size + 1 + 1) (by omega)).trans G.out.2.2.1
  have hb := G.out.2.2.2.trans (hb1.mono (by omega))
  have z1 : w.heap.size + 3 ≤ w1.heap.size := by have := hb1.size; omega
  have e1 : (w1.setCell ⟨w.heap.size + 1, 0, none⟩ (.string q)).heap[w.heap.size + 1]? = some (.cells #[.string q] 9 (0, 0)) := heap_setCell h1 0 (.string q)
  have c1 : w1.cell? ⟨w.heap.size + 1, 0, none⟩ = some (.string key) := (cell_of_row w1 _ 0 _ _ (0, 0) h1).trans rfl
  have f1 : w1.frozen? ⟨w.heap.size + 1, 0, none⟩ = false := frozen_of_row w1 _ 0 _ _ h1
  have e0 : (w1.setCell ⟨w.heap.size + 1, 0, none⟩ (.string q)).heap[w.heap.size]? = some (.cells T 33 (0, 0)) := (Below.heap_setCell _ _ _ _ (by show w.heap.size ≠ w.heap.size + 1; omega)).trans h0
  have e2 : (w1.setCell ⟨w.heap.size + 1, 0, none⟩ (.string q)).heap[w.heap.size + 1 + 1]? = some (.cells #[.int .i64 64] 3 (0, 0)) := (Below.heap_setCell _ _ _ _ (by show w.heap.size + 1 + 1 ≠ w.heap.size + 1; omega)).trans h2
  have eb : Below w.heap.size w (w1.setCell ⟨w.heap.size + 1, 0, none⟩ (.string q)) := hb.setCell (p := ⟨w.heap.size + 1, 0, none⟩) (by show w.heap.size ≤ w.heap.size + 1; omega) _
  have ez : (w1.setCell ⟨w.heap.size + 1, 0, none⟩ (.string q)).heap.size = w1.heap.size := by simp [World.setCell]
  obtain ⟨W, HW⟩ := ex_eq (w1.setCell ⟨w.heap.size + 1, 0, none⟩ (.string q))
  rw [HW.out] at e0 e1 e2 eb ez
  have E0 := Away.mk e0
  have E1 := Away.mk e1
  have E2 := Away.mk e2
  have EB := Away.mk eb
  clear h0 h1 h2 hb hb1 e0 e1 e2 eb
  go_wp2_with fail
  rw [HW.out]
  have C1 : Away (W.cell? ⟨w.heap.size + 1, 0, none⟩ = some (.string q)) := ⟨(cell_of_row W _ 0 _ _ (0, 0) E1.out).trans rfl⟩
  have C2 : Away (W.cell? ⟨w.heap.size + 1 + 1, 0, none⟩ = some (.int .i64 64)) := ⟨(cell_of_row W _ 0 _ _ (0, 0) E2.out).trans rfl⟩
  have L1 : Away (∀ d os, w.heap.size + 1 < (Go.Sort.grow (redrawn W d) os).heap.size) := ⟨fun d os => Nat.lt_of_lt_of_le (lt_of_row E1.out) (below_regrown W d os).size⟩
  have n1 : ¬ 9223372036854775807 < 64 + s.size := by omega
  have n2 : (9223372036854775807 < 64 + s.size) = False := eq_false n1
  refine wp_region_quiet_below (by kernel_rfl) (by kernel_rfl) ?_
  refine wpQuiet_load rfl 33 _ rfl _ rfl 33 _ _ (fun w' hC => heap_regrown E0.out hC) Try.underlying33 rfl (by rw [HTs.out]; exact sizeT) ?_
  quiet_step (skip)
  quiet_step (skip)
  quiet_step (exact Calls.regrown_of (HA.out _ (cell_regrown C2.out _ _) (cell_regrown C1.out _ _) (L1.out _ _)))
  refine wpQuiet_load rfl 33 _ rfl _ rfl 33 _ _ (fun w' hC => heap_regrown E0.out hC) Try.underlying33 rfl (by rw [HTs.out]; exact sizeT) ?_
  quiet_step (skip)
  quiet_step (skip)
  quiet_step (exact Calls.regrown_of (HB.out _ (cell_regrown C2.out _ _) (cell_regrown C1.out _ _) (L1.out _ _)))
  quiet_step (skip)
  quiet_step (skip)
  quiet_step (exact Calls.regrown_of (HI.out _))
  quiet_step (skip)
  quiet_step (exact Calls.regrown_of (HO.out _))
  quiet_step (skip)
  refine wpQuiet_nil ?_
  intro w3 hC
  have hb3 : Away (Below W.heap.size W w3) := ⟨by
    obtain ⟨pp, rfl⟩ := hC
    exact below_regrown _ _ _⟩
  clear hC
  go_wp2_with fail
  go_ret
  exact ⟨rfl, EB.out.trans (hb3.out.mono EB.out.size)⟩

set_option maxRecDepth 100000 in
set_option maxHeartbeats 2000000 in
theorem hm_true_short (T : Array Value) (x : Wd) (key s : ByteArray) (w : World) (h : TX T x) (hk : key.size ≤ 128) (hkb : key.size ≤ 549755813888) (hs : s.size ≤ 549755813888) :
    Calls Try.prog 11 #[.agg T, .bool true, .string key, .string s] w fun e w' => e = .returned (.string ⟨(hm x true key.data.toList s.data.toList).toArray⟩) ∧ Below w.heap.size w w' := by
  have HTs : Away (T.size = 465) := ⟨h.size⟩
  have hkl : key.data.toList.length = key.size := rfl
  have hsl : s.data.toList.length = s.size := rfl
  have hky : ky x true key.data.toList = key.data.toList := ky_short _ _ _ (by rw [hkl]; exact hk)
  obtain ⟨q, hq⟩ : ∃ q : ByteArray, q = key := ⟨_, rfl⟩
  have hql : q.data.toList = ky x true key.data.toList := by rw [hq, hky]
  have hqs : q.size ≤ 128 := by rw [hq]; exact hk
  obtain ⟨A, hA⟩ : ∃ A, mx (ky x true key.data.toList) 128 92 = A := ⟨_, rfl⟩
  obtain ⟨B, hB⟩ : ∃ B, mx (ky x true key.data.toList) 128 54 = B := ⟨_, rfl⟩
  have hAl : A.length = 128 := by rw [← hA]; exact mx_length _ _ _ (ky_le x true _)
  have hBl : B.length = 128 := by rw [← hB]; exact mx_length _ _ _ (ky_le x true _)
  have hhm : hm x true key.data.toList s.data.toList = hx x true (A ++ hx x true (B ++ s.data.toList)) := by rw [← hA, ← hB]; rfl
  have HA : Away (∀ w1 : World, w1.cell? ⟨w.heap.size + 1 + 1, 0, none⟩ = some (.int .i64 128) → w1.cell? ⟨w.heap.size + 1, 0, none⟩ = some (.string q) → w.heap.size + 1 < w1.heap.size → Calls Try.prog 30 #[.int .u8 92, .pointer (some ⟨w.heap.size + 1 + 1, 0, none⟩), .pointer (some ⟨w.heap.size + 1, 0, none⟩)] w1 fun e w' => e = .returned (.string ⟨A.toArray⟩) ∧ Below w1.heap.size w1 w') := ⟨fun w1 c1 c2 l => by
    rw [← hA, ← hql]; exact mix.clo_any _ _ q 128 92 w1 c1 c2 l (by omega) (by decide) (by decide) (by decide)⟩
  have HB : Away (∀ w1 : World, w1.cell? ⟨w.heap.size + 1 + 1, 0, none⟩ = some (.int .i64 128) → w1.cell? ⟨w.heap.size + 1, 0, none⟩ = some (.string q) → w.heap.size + 1 < w1.heap.size → Calls Try.prog 30 #[.int .u8 54, .pointer (some ⟨w.heap.size + 1 + 1, 0, none⟩), .pointer (some ⟨w.heap.size + 1, 0, none⟩)] w1 fun e w' => e = .returned (.string ⟨B.toArray⟩) ∧ Below w1.heap.size w1 w') := ⟨fun w1 c1 c2 l => by
    rw [← hB, ← hql]; exact mix.clo_any _ _ q 128 54 w1 c1 c2 l (by omega) (by decide) (by decide) (by decide)⟩
  have HI : Away (∀ w1 : World, Calls Try.prog 9 #[.agg T, .bool true, .string ((⟨B.toArray⟩ : ByteArray) ++ s)] w1 fun e w' => e = .returned (.string ⟨(hx x true (B ++ s.data.toList)).toArray⟩) ∧ Below w1.heap.size w1 w') := ⟨fun w1 => by
    have hh := mach.hash_any T x true ((⟨B.toArray⟩ : ByteArray) ++ s) w1 h (by rw [ByteArray.size_append]; show B.toArray.size + _ ≤ _; rw [List.size_toArray]; omega)
    rw [catD] at hh; exact hh⟩
  have hIl : (hx x true (B ++ s.data.toList)).length = 64 := hx_length _ _ _
  rw [hhm]
  obtain ⟨I, hI⟩ : ∃ I, hx x true (B ++ s.data.toList) = I := ⟨_, rfl⟩
  rw [hI] at HI hIl ⊢
  have HO : Away (∀ w1 : World, Calls Try.prog 9 #[.agg T, .bool true, .string ((⟨A.toArray⟩ : ByteArray) ++ ⟨I.toArray⟩)] w1 fun e w' => e = .returned (.string ⟨(hx x true (A ++ I)).toArray⟩) ∧ Below w1.heap.size w1 w') := ⟨fun w1 => by
    have hh := mach.hash_any T x true ((⟨A.toArray⟩ : ByteArray) ++ ⟨I.toArray⟩) w1 h (by rw [ByteArray.size_append]; show A.toArray.size + I.toArray.size ≤ _; rw [List.size_toArray, List.size_toArray]; omega)
    rw [catD] at hh; exact hh⟩
  obtain ⟨R, hR⟩ : ∃ R, hx x true (A ++ I) = R := ⟨_, rfl⟩
  rw [hR] at HO ⊢
  have HAl := Away.mk hAl
  have HBl := Away.mk hBl
  have HIl := Away.mk hIl
  obtain ⟨A', hA'⟩ : ∃ A' : ByteArray, (⟨A.toArray⟩ : ByteArray) = A' := ⟨_, rfl⟩
  obtain ⟨B', hB'⟩ : ∃ B' : ByteArray, (⟨B.toArray⟩ : ByteArray) = B' := ⟨_, rfl⟩
  obtain ⟨I', hI'⟩ : ∃ I' : ByteArray, (⟨I.toArray⟩ : ByteArray) = I' := ⟨_, rfl⟩
  have sA : A'.size = 128 := by rw [← hA']; show A.toArray.size = _; rw [List.size_toArray]; exact hAl
  have sB : B'.size = 128 := by rw [← hB']; show B.toArray.size = _; rw [List.size_toArray]; exact hBl
  have sI : I'.size = 64 := by rw [← hI']; show I.toArray.size = _; rw [List.size_toArray]; exact hIl
  rw [hA'] at HA HO
  rw [hB'] at HB HI
  rw [hI'] at HI HO
  clear h hky hql hA hB hhm hI hR hA' hB' hI' HAl HBl HIl hAl hBl hIl
  subst hq
  obtain ⟨W, HW⟩ := ex_eq (((w.alloc (.cells T 33)).alloc (.cells #[.string q] 9)).alloc (.cells #[.int .i64 128] 3))
  have E0 : Away (W.heap[w.heap.size]? = some (.cells T 33 (0, 0))) := ⟨by rw [← HW.out, heap_past _ _ _ (by simp; omega), heap_past _ _ _ (by simp), heap_at _ _ _ rfl]⟩
  have E1 : Away (W.heap[w.heap.size + 1]? = some (.cells #[.string q] 9 (0, 0))) := ⟨by rw [← HW.out, heap_past _ _ _ (by simp), heap_at _ _ _ (by simp)]⟩
  have E2 : Away (W.heap[w.heap.size + 1 + 1]? = some (.cells #[.int .i64 128] 3 (0, 0))) := ⟨by rw [← HW.out, heap_at _ _ _ (by simp)]⟩
  have EB : Away (Below w.heap.size w W) := ⟨by rw [← HW.out]; exact ((((Below.refl _ _).alloc (Nat.le_refl _) _).alloc (by simp) _).alloc (by simp; omega) _)⟩
  go_enter Try.func11, Try.ntmps11
  go_wp2_with fail
  rw [HW.out]
  have C1 : Away (W.cell? ⟨w.heap.size + 1, 0, none⟩ = some (.string q)) := ⟨(cell_of_row W _ 0 _ _ (0, 0) E1.out).trans rfl⟩
  have C2 : Away (W.cell? ⟨w.heap.size + 1 + 1, 0, none⟩ = some (.int .i64 128)) := ⟨(cell_of_row W _ 0 _ _ (0, 0) E2.out).trans rfl⟩
  have L1 : Away (∀ d os, w.heap.size + 1 < (Go.Sort.grow (redrawn W d) os).heap.size) := ⟨fun d os => Nat.lt_of_lt_of_le (lt_of_row E1.out) (below_regrown W d os).size⟩
  have n1 : ¬ 9223372036854775807 < 128 + s.size := by omega
  have n2 : (9223372036854775807 < 128 + s.size) = False := eq_false n1
  refine wp_region_quiet_below (by kernel_rfl) (by kernel_rfl) ?_
  refine wpQuiet_load rfl 33 _ rfl _ rfl 33 _ _ (fun w' hC => heap_regrown E0.out hC) Try.underlying33 rfl (by rw [HTs.out]; exact sizeT) ?_
  quiet_step (skip)
  quiet_step (skip)
  quiet_step (exact Calls.regrown_of (HA.out _ (cell_regrown C2.out _ _) (cell_regrown C1.out _ _) (L1.out _ _)))
  refine wpQuiet_load rfl 33 _ rfl _ rfl 33 _ _ (fun w' hC => heap_regrown E0.out hC) Try.underlying33 rfl (by rw [HTs.out]; exact sizeT) ?_
  quiet_step (skip)
  quiet_step (skip)
  quiet_step (exact Calls.regrown_of (HB.out _ (cell_regrown C2.out _ _) (cell_regrown C1.out _ _) (L1.out _ _)))
  quiet_step (skip)
  quiet_step (skip)
  quiet_step (exact Calls.regrown_of (HI.out _))
  quiet_step (skip)
  quiet_step (exact Calls.regrown_of (HO.out _))
  quiet_step (skip)
  refine wpQuiet_nil ?_
  intro w3 hC
  have hb3 : Away (Below W.heap.size W w3) := ⟨by
    obtain ⟨pp, rfl⟩ := hC
    exact below_regrown _ _ _⟩
  clear hC
  go_wp2_with fail
  go_ret
  exact ⟨rfl, EB.out.trans (hb3.out.mono EB.out.size)⟩

set_option maxRecDepth 100000 in
set_option maxHeartbeats 2000000 in
theorem hm_true_long (T : Array Value) (x : Wd) (key s : ByteArray) (w : World) (h : TX T x) (hk : 128 < key.size) (hkb : key.size ≤ 549755813888) (hs : s.size ≤ 549755813888) :
    Calls Try.prog 11 #[.agg T, .bool true, .string key, .string s] w fun e w' => e = .returned (.string ⟨(hm x true key.data.toList s.data.toList).toArray⟩) ∧ Below w.heap.size w w' := by
  have HTs : Away (T.size = 465) := ⟨h.size⟩
  have hkl : key.data.toList.length = key.size := rfl
  have hsl : s.data.toList.length = s.size := rfl
  have hky : ky x true key.data.toList = hx x true key.data.toList := ky_long _ _ _ (by rw [hkl]; exact hk)
  have Hkh : Away (∀ w1 : World, Calls Try.prog 9 #[.agg T, .bool true, .string key] w1 fun e w' => e = .returned (.string ⟨(hx x true key.data.toList).toArray⟩) ∧ Below w1.heap.size w1 w') := ⟨fun w1 => mach.hash_any T x true key w1 h (by omega)⟩
  obtain ⟨q, Hq⟩ := ex_eq (⟨(hx x true key.data.toList).toArray⟩ : ByteArray)
  have hql : q.data.toList = ky x true key.data.toList := by rw [← Hq.out, hky]
  have hqs : q.size = 64 := by
    have e : q.data.toList.length = q.size := rfl
    rw [← e, hql, hky, hx_length]; rfl
  rw [Hq.out] at Hkh
  obtain ⟨A, hA⟩ : ∃ A, mx (ky x true key.data.toList) 128 92 = A := ⟨_, rfl⟩
  obtain ⟨B, hB⟩ : ∃ B, mx (ky x true key.data.toList) 128 54 = B := ⟨_, rfl⟩
  have hAl : A.length = 128 := by rw [← hA]; exact mx_length _ _ _ (ky_le x true _)
  have hBl : B.length = 128 := by rw [← hB]; exact mx_length _ _ _ (ky_le x true _)
  have hhm : hm x true key.data.toList s.data.toList = hx x true (A ++ hx x true (B ++ s.data.toList)) := by rw [← hA, ← hB]; rfl
  have HA : Away (∀ w1 : World, w1.cell? ⟨w.heap.size + 1 + 1, 0, none⟩ = some (.int .i64 128) → w1.cell? ⟨w.heap.size + 1, 0, none⟩ = some (.string q) → w.heap.size + 1 < w1.heap.size → Calls Try.prog 30 #[.int .u8 92, .pointer (some ⟨w.heap.size + 1 + 1, 0, none⟩), .pointer (some ⟨w.heap.size + 1, 0, none⟩)] w1 fun e w' => e = .returned (.string ⟨A.toArray⟩) ∧ Below w1.heap.size w1 w') := ⟨fun w1 c1 c2 l => by
    rw [← hA, ← hql]; exact mix.clo_any _ _ q 128 92 w1 c1 c2 l (by omega) (by decide) (by decide) (by decide)⟩
  have HB : Away (∀ w1 : World, w1.cell? ⟨w.heap.size + 1 + 1, 0, none⟩ = some (.int .i64 128) → w1.cell? ⟨w.heap.size + 1, 0, none⟩ = some (.string q) → w.heap.size + 1 < w1.heap.size → Calls Try.prog 30 #[.int .u8 54, .pointer (some ⟨w.heap.size + 1 + 1, 0, none⟩), .pointer (some ⟨w.heap.size + 1, 0, none⟩)] w1 fun e w' => e = .returned (.string ⟨B.toArray⟩) ∧ Below w1.heap.size w1 w') := ⟨fun w1 c1 c2 l => by
    rw [← hB, ← hql]; exact mix.clo_any _ _ q 128 54 w1 c1 c2 l (by omega) (by decide) (by decide) (by decide)⟩
  have HI : Away (∀ w1 : World, Calls Try.prog 9 #[.agg T, .bool true, .string ((⟨B.toArray⟩ : ByteArray) ++ s)] w1 fun e w' => e = .returned (.string ⟨(hx x true (B ++ s.data.toList)).toArray⟩) ∧ Below w1.heap.size w1 w') := ⟨fun w1 => by
    have hh := mach.hash_any T x true ((⟨B.toArray⟩ : ByteArray) ++ s) w1 h (by rw [ByteArray.size_append]; show B.toArray.size + _ ≤ _; rw [List.size_toArray]; omega)
    rw [catD] at hh; exact hh⟩
  have hIl : (hx x true (B ++ s.data.toList)).length = 64 := hx_length _ _ _
  rw [hhm]
  obtain ⟨I, hI⟩ : ∃ I, hx x true (B ++ s.data.toList) = I := ⟨_, rfl⟩
  rw [hI] at HI hIl ⊢
  have HO : Away (∀ w1 : World, Calls Try.prog 9 #[.agg T, .bool true, .string ((⟨A.toArray⟩ : ByteArray) ++ ⟨I.toArray⟩)] w1 fun e w' => e = .returned (.string ⟨(hx x true (A ++ I)).toArray⟩) ∧ Below w1.heap.size w1 w') := ⟨fun w1 => by
    have hh := mach.hash_any T x true ((⟨A.toArray⟩ : ByteArray) ++ ⟨I.toArray⟩) w1 h (by rw [ByteArray.size_append]; show A.toArray.size + I.toArray.size ≤ _; rw [List.size_toArray, List.size_toArray]; omega)
    rw [catD] at hh; exact hh⟩
  obtain ⟨R, hR⟩ : ∃ R, hx x true (A ++ I) = R := ⟨_, rfl⟩
  rw [hR] at HO ⊢
  have HAl := Away.mk hAl
  have HBl := Away.mk hBl
  have HIl := Away.mk hIl
  obtain ⟨A', hA'⟩ : ∃ A' : ByteArray, (⟨A.toArray⟩ : ByteArray) = A' := ⟨_, rfl⟩
  obtain ⟨B', hB'⟩ : ∃ B' : ByteArray, (⟨B.toArray⟩ : ByteArray) = B' := ⟨_, rfl⟩
  obtain ⟨I', hI'⟩ : ∃ I' : ByteArray, (⟨I.toArray⟩ : ByteArray) = I' := ⟨_, rfl⟩
  have sA : A'.size = 128 := by rw [← hA']; show A.toArray.size = _; rw [List.size_toArray]; exact hAl
  have sB : B'.size = 128 := by rw [← hB']; show B.toArray.size = _; rw [List.size_toArray]; exact hBl
  have sI : I'.size = 64 := by rw [← hI']; show I.toArray.size = _; rw [List.size_toArray]; exact hIl
  rw [hA'] at HA HO
  rw [hB'] at HB HI
  rw [hI'] at HI HO
  clear h hky hql hA hB hhm hI hR hA' hB' hI' HAl HBl HIl hAl hBl hIl
  clear Hq
  obtain ⟨w0, Hw0⟩ := ex_eq (((w.alloc (.cells T 33)).alloc (.cells #[.string key] 9)).alloc (.cells #[.int .i64 128] 3))
  have g0 : w0.heap[w.heap.size]? = some (.cells T 33 (0, 0)) := by rw [← Hw0.out, heap_past _ _ _ (by simp; omega), heap_past _ _ _ (by simp), heap_at _ _ _ rfl]
  have g1 : w0.heap[w.heap.size + 1]? = some (.cells #[.string key] 9 (0, 0)) := by rw [← Hw0.out, heap_past _ _ _ (by simp), heap_at _ _ _ (by simp)]
  have g2 : w0.heap[w.heap.size + 1 + 1]? = some (.cells #[.int .i64 128] 3 (0, 0)) := by rw [← Hw0.out, heap_at _ _ _ (by simp)]
  have hb0 : Below w.heap.size w w0 := by rw [← Hw0.out]; exact ((((Below.refl _ _).alloc (Nat.le_refl _) _).alloc (by simp) _).alloc (by simp; omega) _)
  have z0 : w0.heap.size = w.heap.size + 3 := by rw [← Hw0.out]; simp
  have G0 : Away ((((w.alloc (.cells T 33)).alloc (.cells #[.string key] 9)).alloc (.cells #[.int .i64 128] 3)).heap[w.heap.size]? = some (.cells T 33 (0, 0))) := ⟨by rw [Hw0.out]; exact g0⟩
  have G := Away.mk (And.intro g0 (And.intro g1 (And.intro g2 hb0)))
  clear g0 g1 g2 hb0
  go_enter Try.func11, Try.ntmps11
  go_wp2_with (refine wpList_load_row rfl 33 _ rfl w.heap.size rfl 33 T (0, 0) _ G0.out Try.underlying33 rfl (by rw [HTs.out]; exact sizeT) ?_)
  rw [Hw0.out]
  refine (Hkh.out _).mono ?_
  rintro e w1 ⟨rfl, hb1⟩
  have h0 := (hb1.block w.heap.size (by omega)).trans G.out.1
  have h1 := (hb1.block (w.heap.size + 1) (by omega)).trans G.out.2.1
  have h2 := (hb1.block (w.heap.size + 1 + 1) (by omega)).trans G.out.2.2.1
  have hb := G.out.2.2.2.trans (hb1.mono (by omega))
  have z1 : w.heap.size + 3 ≤ w1.heap.size := by have := hb1.size; omega
  have e1 : (w1.setCell ⟨w.heap.size + 1, 0, none⟩ (.string q)).heap[w.heap.size + 1]? = some (.cells #[.string q] 9 (0, 0)) := heap_setCell h1 0 (.string q)
  have c1 : w1.cell? ⟨w.heap.size + 1, 0, none⟩ = some (.string key) := (cell_of_row w1 _ 0 _ _ (0, 0) h1).trans rfl
  have f1 : w1.frozen? ⟨w.heap.size + 1, 0, none⟩ = false := frozen_of_row w1 _ 0 _ _ h1
  have e0 : (w1.setCell ⟨w.heap.size + 1, 0, none⟩ (.string q)).heap[w.heap.size]? = some (.cells T 33 (0, 0)) := (Below.heap_setCell _ _ _ _ (by show w.heap.size ≠ w.heap.size + 1; omega)).trans h0
  have e2 : (w1.setCell ⟨w.heap.size + 1, 0, none⟩ (.string q)).heap[w.heap.size + 1 + 1]? = some (.cells #[.int .i64 128] 3 (0, 0)) := (Below.heap_setCell _ _ _ _ (by show w.heap.size + 1 + 1 ≠ w.heap.size + 1; omega)).trans h2
  have eb : Below w.heap.size w (w1.setCell ⟨w.heap.size + 1, 0, none⟩ (.string q)) := hb.setCell (p := ⟨w.heap.size + 1, 0, none⟩) (by show w.heap.size ≤ w.heap.size + 1; omega) _
  have ez : (w1.setCell ⟨w.heap.size + 1, 0, none⟩ (.string q)).heap.size = w1.heap.size := by simp [World.setCell]
  obtain ⟨W, HW⟩ := ex_eq (w1.setCell ⟨w.heap.size + 1, 0, none⟩ (.string q))
  rw [HW.out] at e0 e1 e2 eb ez
  have E0 := Away.mk e0
  have E1 := Away.mk e1
  have E2 := Away.mk e2
  have EB := Away.mk eb
  clear h0 h1 h2 hb hb1 e0 e1 e2 eb
  go_wp2_with fail
  rw [HW.out]
  have C1 : Away (W.cell? ⟨w.heap.size + 1, 0, none⟩ = some (.string q)) := ⟨(cell_of_row W _ 0 _ _ (0, 0) E1.out).trans rfl⟩
  have C2 : Away (W.cell? ⟨w.heap.size + 1 + 1, 0, none⟩ = some (.int .i64 128)) := ⟨(cell_of_row W _ 0 _ _ (0, 0) E2.out).trans rfl⟩
  have L1 : Away (∀ d os, w.heap.size + 1 < (Go.Sort.grow (redrawn W d) os).heap.size) := ⟨fun d os => Nat.lt_of_lt_of_le (lt_of_row E1.out) (below_regrown W d os).size⟩
  have n1 : ¬ 9223372036854775807 < 128 + s.size := by omega
  have n2 : (9223372036854775807 < 128 + s.size) = False := eq_false n1
  refine wp_region_quiet_below (by kernel_rfl) (by kernel_rfl) ?_
  refine wpQuiet_load rfl 33 _ rfl _ rfl 33 _ _ (fun w' hC => heap_regrown E0.out hC) Try.underlying33 rfl (by rw [HTs.out]; exact sizeT) ?_
  quiet_step (skip)
  quiet_step (skip)
  quiet_step (exact Calls.regrown_of (HA.out _ (cell_regrown C2.out _ _) (cell_regrown C1.out _ _) (L1.out _ _)))
  refine wpQuiet_load rfl 33 _ rfl _ rfl 33 _ _ (fun w' hC => heap_regrown E0.out hC) Try.underlying33 rfl (by rw [HTs.out]; exact sizeT) ?_
  quiet_step (skip)
  quiet_step (skip)
  quiet_step (exact Calls.regrown_of (HB.out _ (cell_regrown C2.out _ _) (cell_regrown C1.out _ _) (L1.out _ _)))
  quiet_step (skip)
  quiet_step (skip)
  quiet_step (exact Calls.regrown_of (HI.out _))
  quiet_step (skip)
  quiet_step (exact Calls.regrown_of (HO.out _))
  quiet_step (skip)
  refine wpQuiet_nil ?_
  intro w3 hC
  have hb3 : Away (Below W.heap.size W w3) := ⟨by
    obtain ⟨pp, rfl⟩ := hC
    exact below_regrown _ _ _⟩
  clear hC
  go_wp2_with fail
  go_ret
  exact ⟨rfl, EB.out.trans (hb3.out.mono EB.out.size)⟩

theorem hmac_any (T : Array Value) (x : Wd) (b : Bool) (key s : ByteArray) (w : World) (h : TX T x) (hkb : key.size ≤ 549755813888) (hs : s.size ≤ 549755813888) :
    Calls Try.prog 11 #[.agg T, .bool b, .string key, .string s] w fun e w' => e = .returned (.string ⟨(hm x b key.data.toList s.data.toList).toArray⟩) ∧ Below w.heap.size w w' := by
  cases b
  · by_cases hk : key.size ≤ 64
    · exact hm_false_short T x key s w h hk hkb hs
    · exact hm_false_long T x key s w h (by omega) hkb hs
  · by_cases hk : key.size ≤ 128
    · exact hm_true_short T x key s w h hk hkb hs
    · exact hm_true_long T x key s w h (by omega) hkb hs
end Go.Proofs.Ythfljfampfioaaa.hmac
