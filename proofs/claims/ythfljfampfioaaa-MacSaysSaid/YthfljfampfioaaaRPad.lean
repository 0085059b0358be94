/-
  What the document's own padded of layer 3 returns: a string, the byte 128, noughts and the length in bits, in whole blocks. Conditions: the string has at most 2^40 - 1000 bytes.
-/
import Derived.Test.YthfljfampfioaaaHash
import Derived.Test.YthfljfampfioaaaR01
import Derived.Lib.BufferWrite
namespace Go.Proofs.Ythfljfampfioaaa.rpad
open Go.RowKit
open Go.Proofs.Ythfljfampfioaaa.oct Go.Proofs.Ythfljfampfioaaa.mem Go.Proofs.Ythfljfampfioaaa.arr Go.Proofs.Ythfljfampfioaaa.pad Go.Proofs.Ythfljfampfioaaa.ends Go.Proofs.Ythfljfampfioaaa.r01m

theorem own_open {w : World} {base g M : Nat} {e : TypeId} {xs : List Value} (h : w.ownsRow base e 1 (.slice (some ⟨g, 0, none⟩) M M) M xs) : ∃ cur, w.heap[g]? = some (.cells cur e (0, 0)) ∧ cur.toList = xs ∧ base ≤ g ∧ cur.size = M ∧ M ≤ maxLen := by
  rcases h.2 with ⟨h', -⟩ | ⟨g', cap', cur, h', hb, hg, -, hm, hs, htake⟩
  · simp at h'
  · simp only [Value.slice.injEq, Option.some.injEq, Addr.mk.injEq, and_true, true_and] at h'
    obtain ⟨rfl, rfl⟩ := h'
    refine ⟨cur, hg, ?_, hb, by omega, hm⟩
    rw [← htake, List.take_of_length_le (by rw [Array.length_toList]; omega)]
theorem own_close {w : World} {base g M : Nat} {e : TypeId} {cur : Array Value} (hg : w.heap[g]? = some (.cells cur e (0, 0))) (hb : base ≤ g) (hs : cur.size = M) (hm : M ≤ maxLen) : w.ownsRow base e 1 (.slice (some ⟨g, 0, none⟩) M M) M cur.toList :=
  ⟨by rw [Array.length_toList]; omega, Or.inr ⟨g, M, cur, rfl, hb, hg, Nat.le_refl _, hm, by omega, by rw [List.take_of_length_le (by rw [Array.length_toList]; omega)]⟩⟩
theorem set_tail (l : List UInt8) (x : UInt8) (r : List UInt8) (j : Nat) (v : UInt8) : (l ++ x :: r).set (l.length + 1 + j) v = l ++ x :: r.set j v := by
  rw [List.set_append_right _ _ (by omega), show l.length + 1 + j - l.length = j + 1 by omega, List.set_cons_succ]
theorem ref8 (n z : Nat) (hn : n < 18446744073709551616) (hz : 8 ≤ z) : refRow n z 8 = fixL n z := by
  have h : ∀ k, 8 + k ≤ z → refRow n z (8 + k) = refRow n z 8 := by
    intro k
    induction k with
    | zero => intro _; rfl
    | succ k ih => intro hk; rw [← Nat.add_assoc, refRow_same n z (8 + k) hn (by omega), ih (by omega)]
  rw [← h (z - 8) (by omega), show 8 + (z - 8) = z by omega, refRow_all]

set_option maxRecDepth 100000 in
set_option maxHeartbeats 2000000 in
theorem rpadded64 (s : ByteArray) (w : World) (hs : s.size ≤ 1099511626000) :
    Calls Try.prog 50 #[.string s, .int .i64 64, .int .i64 8] w fun e w' => e = .returned (.string ⟨(s.data.toList ++ tail s.size 64).toArray⟩) ∧ Below w.heap.size w w' := by
  have hbk := bk_le64 s.size
  have Htl : Away (tail s.size 64 = 128 :: fixL (8 * s.size) (bk s.size 64 * 64 - s.size - 1)) := ⟨rfl⟩
  obtain ⟨tl, HTL⟩ := ex_eq (tail s.size 64)
  rw [HTL.out] at Htl ⊢
  obtain ⟨m, hm⟩ : ∃ m, bk s.size 64 = m := ⟨_, rfl⟩
  rw [hm] at hbk Htl
  obtain ⟨M, hM⟩ : ∃ M, m * 64 = M := ⟨_, rfl⟩
  rw [hM] at hbk Htl
  obtain ⟨z, hz⟩ : ∃ z, M - s.size - 1 = z := ⟨_, rfl⟩
  rw [hz] at Htl
  have hMm : M % 64 = 0 := by rw [← hM]; exact Nat.mul_mod_left _ _
  have h8 : Away (refRow (8 * s.size) z 8 = fixL (8 * s.size) z) := ⟨ref8 _ _ (by omega) (by omega)⟩
  obtain ⟨i0, hi, hz0, hz1, hz2⟩ := info_parts infoByte
  have HI := Away.mk (And.intro hi (And.intro hz0 (And.intro hz1 hz2)))
  have hsl : s.data.toList.length = s.size := rfl
  have hsd : s.data.size = s.size := rfl
  obtain ⟨n, hn⟩ : ∃ n, s.size = n := ⟨_, rfl⟩
  rw [hn] at hbk Htl hz h8 hsl hs hsd
  clear hi hz0 hz1 hz2 hm hM
  go_enter Try.func50, Try.ntmps50
  go_wp2_with fail
  go_loopw [7] (fun x wr => ∃ k : Nat, n + 1 ≤ k ∧ k ≤ M - 8 ∧ x = .int .i64 k ∧ w = wr) (fun x _ => M - 8 - (intOf x).toNat)
  case atStart => exact ⟨n + 1, Nat.le_refl _, by omega, by go_num, rfl⟩
  case round =>
    obtain ⟨k, hk1, hk2, rfl, rfl⟩ := hrel
    by_cases hlt : k < M - 8
    · have hne : ((k : Int) % 64 != 56) = true := by simp only [bne_iff_ne, ne_eq]; omega
      go_wp2_with fail
      go_roundw
      case rel => exact ⟨k + 1, by omega, by omega, by go_num, by first | rfl | trivial⟩
      case measure => simp [intOf]; omega
    · have hne : ((k : Int) % 64 != 56) = false := by simp only [bne_eq_false_iff_eq]; omega
      have hkM : (k : Int) + 8 = (M : Int) := by omega
      go_wp2_with (at_make; refine wpList_make_full _ rfl (.tmp 24) (.tmp 24) 52 rfl w.heap.size 5 i0 (.int .u8 0) 1 Try.underlying52 HI.out.1 HI.out.2.1 HI.out.2.2.1 .i64 .i64 M M M rfl rfl rfl rfl (by rw [HI.out.2.2.2]; omega) (by unfold maxLen; omega) (Nat.le_refl _) ?_; intro w1 hown hgrow)
      have hB : Below w.heap.size w w1 := (Below.refl _ _).grown hgrow (Nat.le_refl _) (fun k hk => by simp at hk)
      obtain ⟨cur, hg, hcur, hb0, hcs, hmx⟩ := own_open hown
      have Hg := Away.mk hg
      have Hcl : Away (cur.toList = List.replicate M (Value.int .u8 0)) := ⟨by rw [hcur]; simp [Value.cells, toList_madeCells_one]⟩
      have hg2 : (w1.setRow w.heap.size (Lib.byteCells s.data.toList ++ cur.toList.drop s.size).toArray).heap[w.heap.size]? = some (.cells (Lib.byteCells s.data.toList ++ cur.toList.drop s.size).toArray 5 (0, 0)) := setRow_heap _ _ _ _ _ _ hg
      have hb2 : Below w.heap.size w (w1.setRow w.heap.size (Lib.byteCells s.data.toList ++ cur.toList.drop s.size).toArray) := hB.trans (below_setRow _ _ _ (Nat.le_refl _))
      have ho2 := own_close hg2 (Nat.le_refl _) (M := M) (by rw [List.size_toArray, List.length_append, Lib.byteCells_length, List.length_drop, Array.length_toList, Array.length_toList, hsd, hn, hcs]; omega) hmx
      rw [List.toList_toArray, Hcl.out] at ho2
      have hdz : List.drop s.size (List.replicate M (Value.int .u8 0)) = .int .u8 0 :: List.replicate z (Value.int .u8 0) := by
        rw [List.drop_replicate, hn, show M - n = z + 1 by omega, List.replicate_succ]
      rw [hdz] at ho2
      rw [Hcl.out] at hb2
      rw [hdz] at hb2
      obtain ⟨w2, Hw2⟩ := ex_eq (w1.setRow w.heap.size (Lib.byteCells s.data.toList ++ .int .u8 0 :: List.replicate z (Value.int .u8 0)).toArray)
      rw [Hw2.out] at ho2 hb2
      have hbl : (Lib.byteCells s.data.toList).length = n := by rw [Lib.byteCells_length, hsl]
      have hst := ho2.stored n (.int .u8 128)
      rw [List.set_append_right _ _ (Nat.le_of_eq hbl), hbl, Nat.sub_self, List.set_cons_zero] at hst
      have e0 : Lib.byteCells s.data.toList ++ .int .u8 128 :: List.replicate z (Value.int .u8 0) = Lib.byteCells (s.data.toList ++ 128 :: refRow (8 * n) z 0) := by
        rw [Lib.byteCells_append]
        show _ = _ ++ (.int .u8 128 :: Lib.byteCells (refRow (8 * n) z 0))
        rw [refRow_zero]
      rw [e0] at hst
      have Hst := Away.mk hst
      have hce := ho2.cellAt n (by omega)
      rw [List.getElem?_append_right (Nat.le_of_eq hbl), hbl, Nat.sub_self, List.getElem?_cons_zero] at hce
      have hfz := ho2.frozenAt n
      have Hb2 := Away.mk hb2
      have Hdz := Away.mk hdz
      have hcp := Lib.run_copy_row_string (P := Try.prog) w1 52 9 3 5 w.heap.size 0 M M s cur 5 Try.underlying52 (by rw [HI.out.1]; show some i0.size = some 1; rw [HI.out.2.2.1]) Hg.out (by rw [hn]; omega) (by rw [hn, hcs]; omega)
      rw [List.take_zero, List.nil_append, Nat.zero_add, Hcl.out, hdz, Hw2.out] at hcp
      have ln : (n : Int) < (M : Int) := by omega
      clear hown hgrow hB hcur hb0 hmx hg hg2 hb2 ho2 hst e0 hdz hbl hne
      go_wp2_with fail
      rw [hcp]
      clear hcp
      go_wp2_with fail
      go_loopw [33] (fun i wx => ∃ j : Nat, j ≤ 8 ∧ i = .int .i64 j ∧ Away (wx.ownsRow w.heap.size 5 1 (Value.slice (some ⟨w.heap.size, 0, none⟩) M M) M (Lib.byteCells (s.data.toList ++ 128 :: refRow (8 * n) z j))) ∧ Away (Below w.heap.size w wx)) (fun i _ => 8 - (intOf i).toNat)
      case atStart => exact ⟨0, by decide, rfl, ⟨Hst.out.1⟩, ⟨Hb2.out.trans ((Below.refl w.heap.size _).setCell (p := ⟨w.heap.size, n, none⟩) (Nat.le_refl _) _)⟩⟩
      case round =>
        obtain ⟨j, hj, rfl, Ho, Hb⟩ := hrel
        by_cases hj8 : j < 8
        · have hq : (n : Int) * 8 / 2 ^ (8 * j) = ((8 * n / 256 ^ j : Nat) : Int) := by
            rw [show (n : Int) * 8 = ((8 * n : Nat) : Int) by omega, show (256 : Nat) ^ j = 2 ^ (8 * j) from by rw [show (256 : Nat) = 2 ^ 8 from rfl, ← Nat.pow_mul]]
            norm_cast
          have hzj : n + 1 + (z - 1 - j) = M - 1 - j := by omega
          have hset : (s.data.toList ++ 128 :: refRow (8 * n) z j).set (M - 1 - j) (byteAt (8 * n) j) = s.data.toList ++ 128 :: refRow (8 * n) z (j + 1) := by
            rw [refRow_succ (8 * n) z j (by omega), ← hzj, ← hsl, set_tail]
          have hbc := byteCells_set (s.data.toList ++ 128 :: refRow (8 * n) z j) (M - 1 - j) (8 * n) j
          rw [hset] at hbc
          generalize 8 * n / 256 ^ j = q at hq hbc
          have hce := Ho.out.cellAt (M - 1 - j) (by omega)
          have hll : M - 1 - j < (Lib.byteCells (s.data.toList ++ 128 :: refRow (8 * n) z j)).length := by
            rw [Lib.byteCells_length, List.length_append, List.length_cons, refRow_length, hsl]; omega
          rw [List.getElem?_eq_getElem hll] at hce
          have hfz := Ho.out.frozenAt (M - 1 - j)
          have hst := Ho.out.stored (M - 1 - j) (.int .u8 ((q : Int) % 256))
          rw [← hbc] at hst
          have Hst2 := Away.mk hst
          have Hq := Away.mk hq
          have hto : ((M : Int) - 1 - (j : Int)).toNat = M - 1 - j := by omega
          clear hst hq hbc hset hzj
          go_wp2_with fail
          rw [Hq.out]
          go_roundw
          case rel => exact ⟨j + 1, by omega, by go_num, ⟨Hst2.out.1⟩, ⟨Hb.out.trans ((Below.refl w.heap.size _).setCell (p := ⟨w.heap.size, M - 1 - j, none⟩) (Nat.le_refl _) _)⟩⟩
          case measure => simp [intOf]; omega
        · obtain rfl : j = 8 := by omega
          have hO := Ho.out
          rw [h8.out, ← Htl.out] at hO
          have hcv := conv_row (by rw [Htl.out, List.length_append, List.length_cons, fixL_length, hsl]; omega) (by omega) hO
          clear hO
          go_wp2_with fail
          go_ret
          exact ⟨rfl, Hb.out⟩

set_option maxRecDepth 100000 in
set_option maxHeartbeats 2000000 in
theorem rpadded128 (s : ByteArray) (w : World) (hs : s.size ≤ 1099511626000) :
    Calls Try.prog 50 #[.string s, .int .i64 128, .int .i64 16] w fun e w' => e = .returned (.string ⟨(s.data.toList ++ tail s.size 128).toArray⟩) ∧ Below w.heap.size w w' := by
  have hbk := bk_le128 s.size
  have Htl : Away (tail s.size 128 = 128 :: fixL (8 * s.size) (bk s.size 128 * 128 - s.size - 1)) := ⟨rfl⟩
  obtain ⟨tl, HTL⟩ := ex_eq (tail s.size 128)
  rw [HTL.out] at Htl ⊢
  obtain ⟨m, hm⟩ : ∃ m, bk s.size 128 = m := ⟨_, rfl⟩
  rw [hm] at hbk Htl
  obtain ⟨M, hM⟩ : ∃ M, m * 128 = M := ⟨_, rfl⟩
  rw [hM] at hbk Htl
  obtain ⟨z, hz⟩ : ∃ z, M - s.size - 1 = z := ⟨_, rfl⟩
  rw [hz] at Htl
  have hMm : M % 128 = 0 := by rw [← hM]; exact Nat.mul_mod_left _ _
  have h8 : Away (refRow (8 * s.size) z 8 = fixL (8 * s.size) z) := ⟨ref8 _ _ (by omega) (by omega)⟩
  obtain ⟨i0, hi, hz0, hz1, hz2⟩ := info_parts infoByte
  have HI := Away.mk (And.intro hi (And.intro hz0 (And.intro hz1 hz2)))
  have hsl : s.data.toList.length = s.size := rfl
  have hsd : s.data.size = s.size := rfl
  obtain ⟨n, hn⟩ : ∃ n, s.size = n := ⟨_, rfl⟩
  rw [hn] at hbk Htl hz h8 hsl hs hsd
  clear hi hz0 hz1 hz2 hm hM
  go_enter Try.func50, Try.ntmps50
  go_wp2_with fail
  go_loopw [7] (fun x wr => ∃ k : Nat, n + 1 ≤ k ∧ k ≤ M - 16 ∧ x = .int .i64 k ∧ w = wr) (fun x _ => M - 16 - (intOf x).toNat)
  case atStart => exact ⟨n + 1, Nat.le_refl _, by omega, by go_num, rfl⟩
  case round =>
    obtain ⟨k, hk1, hk2, rfl, rfl⟩ := hrel
    by_cases hlt : k < M - 16
    · have hne : ((k : Int) % 128 != 112) = true := by simp only [bne_iff_ne, ne_eq]; omega
      go_wp2_with fail
      go_roundw
      case rel => exact ⟨k + 1, by omega, by omega, by go_num, by first | rfl | trivial⟩
      case measure => simp [intOf]; omega
    · have hne : ((k : Int) % 128 != 112) = false := by simp only [bne_eq_false_iff_eq]; omega
      have hkM : (k : Int) + 16 = (M : Int) := by omega
      go_wp2_with (at_make; refine wpList_make_full _ rfl (.tmp 24) (.tmp 24) 52 rfl w.heap.size 5 i0 (.int .u8 0) 1 Try.underlying52 HI.out.1 HI.out.2.1 HI.out.2.2.1 .i64 .i64 M M M rfl rfl rfl rfl (by rw [HI.out.2.2.2]; omega) (by unfold maxLen; omega) (Nat.le_refl _) ?_; intro w1 hown hgrow)
      have hB : Below w.heap.size w w1 := (Below.refl _ _).grown hgrow (Nat.le_refl _) (fun k hk => by simp at hk)
      obtain ⟨cur, hg, hcur, hb0, hcs, hmx⟩ := own_open hown
      have Hg := Away.mk hg
      have Hcl : Away (cur.toList = List.replicate M (Value.int .u8 0)) := ⟨by rw [hcur]; simp [Value.cells, toList_madeCells_one]⟩
      have hg2 : (w1.setRow w.heap.size (Lib.byteCells s.data.toList ++ cur.toList.drop s.size).toArray).heap[w.heap.size]? = some (.cells (Lib.byteCells s.data.toList ++ cur.toList.drop s.size).toArray 5 (0, 0)) := setRow_heap _ _ _ _ _ _ hg
      have hb2 : Below w.heap.size w (w1.setRow w.heap.size (Lib.byteCells s.data.toList ++ cur.toList.drop s.size).toArray) := hB.trans (below_setRow _ _ _ (Nat.le_refl _))
      have ho2 := own_close hg2 (Nat.le_refl _) (M := M) (by rw [List.size_toArray, List.length_append, Lib.byteCells_length, List.length_drop, Array.length_toList, Array.length_toList, hsd, hn, hcs]; omega) hmx
      rw [List.toList_toArray, Hcl.out] at ho2
      have hdz : List.drop s.size (List.replicate M (Value.int .u8 0)) = .int .u8 0 :: List.replicate z (Value.int .u8 0) := by
        rw [List.drop_replicate, hn, show M - n = z + 1 by omega, List.replicate_succ]
      rw [hdz] at ho2
      rw [Hcl.out] at hb2
      rw [hdz] at hb2
      obtain ⟨w2, Hw2⟩ := ex_eq (w1.setRow w.heap.size (Lib.byteCells s.data.toList ++ .int .u8 0 :: List.replicate z (Value.int .u8 0)).toArray)
      rw [Hw2.out] at ho2 hb2
      have hbl : (Lib.byteCells s.data.toList).length = n := by rw [Lib.byteCells_length, hsl]
      have hst := ho2.stored n (.int .u8 128)
      rw [List.set_append_right _ _ (Nat.le_of_eq hbl), hbl, Nat.sub_self, List.set_cons_zero] at hst
      have e0 : Lib.byteCells s.data.toList ++ .int .u8 128 :: List.replicate z (Value.int .u8 0) = Lib.byteCells (s.data.toList ++ 128 :: refRow (8 * n) z 0) := by
        rw [Lib.byteCells_append]
        show _ = _ ++ (.int .u8 128 :: Lib.byteCells (refRow (8 * n) z 0))
        rw [refRow_zero]
      rw [e0] at hst
      have Hst := Away.mk hst
      have hce := ho2.cellAt n (by omega)
      rw [List.getElem?_append_right (Nat.le_of_eq hbl), hbl, Nat.sub_self, List.getElem?_cons_zero] at hce
      have hfz := ho2.frozenAt n
      have Hb2 := Away.mk hb2
      have Hdz := Away.mk hdz
      have hcp := Lib.run_copy_row_string (P := Try.prog) w1 52 9 3 5 w.heap.size 0 M M s cur 5 Try.underlying52 (by rw [HI.out.1]; show some i0.size = some 1; rw [HI.out.2.2.1]) Hg.out (by rw [hn]; omega) (by rw [hn, hcs]; omega)
      rw [List.take_zero, List.nil_append, Nat.zero_add, Hcl.out, hdz, Hw2.out] at hcp
      have ln : (n : Int) < (M : Int) := by omega
      clear hown hgrow hB hcur hb0 hmx hg hg2 hb2 ho2 hst e0 hdz hbl hne
      go_wp2_with fail
      rw [hcp]
      clear hcp
      go_wp2_with fail
      go_loopw [33] (fun i wx => ∃ j : Nat, j ≤ 8 ∧ i = .int .i64 j ∧ Away (wx.ownsRow w.heap.size 5 1 (Value.slice (some ⟨w.heap.size, 0, none⟩) M M) M (Lib.byteCells (s.data.toList ++ 128 :: refRow (8 * n) z j))) ∧ Away (Below w.heap.size w wx)) (fun i _ => 8 - (intOf i).toNat)
      case atStart => exact ⟨0, by decide, rfl, ⟨Hst.out.1⟩, ⟨Hb2.out.trans ((Below.refl w.heap.size _).setCell (p := ⟨w.heap.size, n, none⟩) (Nat.le_refl _) _)⟩⟩
      case round =>
        obtain ⟨j, hj, rfl, Ho, Hb⟩ := hrel
        by_cases hj8 : j < 8
        · have hq : (n : Int) * 8 / 2 ^ (8 * j) = ((8 * n / 256 ^ j : Nat) : Int) := by
            rw [show (n : Int) * 8 = ((8 * n : Nat) : Int) by omega, show (256 : Nat) ^ j = 2 ^ (8 * j) from by rw [show (256 : Nat) = 2 ^ 8 from rfl, ← Nat.pow_mul]]
            norm_cast
          have hzj : n + 1 + (z - 1 - j) = M - 1 - j := by omega
          have hset : (s.data.toList ++ 128 :: refRow (8 * n) z j).set (M - 1 - j) (byteAt (8 * n) j) = s.data.toList ++ 128 :: refRow (8 * n) z (j + 1) := by
            rw [refRow_succ (8 * n) z j (by omega), ← hzj, ← hsl, set_tail]
          have hbc := byteCells_set (s.data.toList ++ 128 :: refRow (8 * n) z j) (M - 1 - j) (8 * n) j
          rw [hset] at hbc
          generalize 8 * n / 256 ^ j = q at hq hbc
          have hce := Ho.out.cellAt (M - 1 - j) (by omega)
          have hll : M - 1 - j < (Lib.byteCells (s.data.toList ++ 128 :: refRow (8 * n) z j)).length := by
            rw [Lib.byteCells_length, List.length_append, List.length_cons, refRow_length, hsl]; omega
          rw [List.getElem?_eq_getElem hll] at hce
          have hfz := Ho.out.frozenAt (M - 1 - j)
          have hst := Ho.out.stored (M - 1 - j) (.int .u8 ((q : Int) % 256))
          rw [← hbc] at hst
          have Hst2 := Away.mk hst
          have Hq := Away.mk hq
          have hto : ((M : Int) - 1 - (j : Int)).toNat = M - 1 - j := by omega
          clear hst hq hbc hset hzj
          go_wp2_with fail
          rw [Hq.out]
          go_roundw
          case rel => exact ⟨j + 1, by omega, by go_num, ⟨Hst2.out.1⟩, ⟨Hb.out.trans ((Below.refl w.heap.size _).setCell (p := ⟨w.heap.size, M - 1 - j, none⟩) (Nat.le_refl _) _)⟩⟩
          case measure => simp [intOf]; omega
        · obtain rfl : j = 8 := by omega
          have hO := Ho.out
          rw [h8.out, ← Htl.out] at hO
          have hcv := conv_row (by rw [Htl.out, List.length_append, List.length_cons, fixL_length, hsl]; omega) (by omega) hO
          clear hO
          go_wp2_with fail
          go_ret
          exact ⟨rfl, Hb.out⟩
end Go.Proofs.Ythfljfampfioaaa.rpad
