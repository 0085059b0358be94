/-
  What the document's own padded of layer 3 returns: a string, the byte 128, noughts and the length in bits, in whole blocks. Conditions: the string has at most 2^40 - 1000 bytes.
  What the document's own Small, Large and Digest of layer 3 return: the same hashes. Conditions: the tables' words have their bits, the string has at most 2^40 - 1000 bytes.
-/
import Derived.Test.YthfljfampfioaaaSh3
import Derived.Test.YthfljfampfioaaaRef1
import Derived.Test.YthfljfampfioaaaRBk
import Derived.Lib.BufferWrite
namespace Go.Proofs.Ythfljfampfioaaa.rpad
open Go.RowKit
open Go.Proofs.Ythfljfampfioaaa.oct Go.Proofs.Ythfljfampfioaaa.mem Go.Proofs.Ythfljfampfioaaa.arr Go.Proofs.Ythfljfampfioaaa.pad Go.Proofs.Ythfljfampfioaaa.ends Go.Proofs.Ythfljfampfioaaa.r01m

theorem own_open {w : World} {base g M : Nat} {e : TypeId} {xs : List Value} (h : w.ownsRow base e 1 (.slice (some ⟨g, 0, none⟩) M M) M xs) : ∃ cur, w.heap[g]? = some (.cells cur e (0, 0)) ∧ cur.toList = xs ∧ base ≤ g ∧ cur.size = M ∧ M ≤ maxLen := by
  rcases h.2 with ⟨h', -⟩ | ⟨g', cap', cur, h', hb, hg, -, hm, hs, htake⟩
  · simp at h'
  · simp only [Value.slice.injEq, Option.some.injEq, Addr.mk.injEq, and_true, true_and] at h'
    obtain ⟨rfl, rfl⟩ := h'
    refine ⟨cur, hg, ?_, hb, by omega, hm⟩
    rw [← htake, List.take_of_length_le (by rw [Array.length_toList]; omega)]
theorem own_close {w : World} {base g M : Nat} {e : TypeId} {cur : Array Value} (hg : w.heap[g]? = some (.cells cur e (0, 0))) (hb : base ≤ g) (hs : cur.size = M) (hm : M ≤ maxLen) : w.ownsRow base e 1 (.slice (some ⟨g, 0, none⟩) M M) M cur.toList :=
  ⟨by rw [Array.length_toList]; omega, Or.inr ⟨g, M, cur, rfl, hb, hg, Nat.le_refl _, hm, by omega, by rw [List.take_of_length_le (by rw [Array.length_toList]; omega)]⟩⟩
theorem set_tail (l : List UInt8) (x : UInt8) (r : List UInt8) (j : Nat) (v : UInt8) : (l ++ x :: r).set (l.length + 1 + j) v = l ++ x :: r.set j v := by
  rw [List.set_append_right _ _ (by omega), show l.length + 1 + j - l.length = j + 1 by omega, List.set_cons_succ]
theorem ref8 (n z : Nat) (hn : n < 18446744073709551616) (hz : 8 ≤ z) : refRow n z 8 = fixL n z := by
  have h : ∀ k, 8 + k ≤ z → refRow n z (8 + k) = refRow n z 8 := by
    intro k
    induction k with
    | zero => intro _; rfl
    | succ k ih => intro hk; rw [← Nat.add_assoc, refRow_same n z (8 + k) hn (by omega), ih (by omega)]
  rw [← h (z - 8) (by omega), show 8 + (z - 8) = z by omega, refRow_all]

set_option maxRecDepth 100000 in
set_option maxHeartbeats 2000000 in
theorem rpadded64 (s : ByteArray) (w : World) (hs : s.size ≤ 1099511626000) :
    Calls Try.prog 50 #[.string s, .int .i64 64, .int .i64 8] w fun e w' => e = .returned (.string ⟨(s.data.toList ++ tail s.size 64).toArray⟩) ∧ Below w.heap.size w w' := by
  have hbk := bk_le64 s.size
  have Htl : Away (tail s.size 64 = 128 :: fixL (8 * s.size) (bk s.size 64 * 64 - s.size - 1)) := ⟨rfl⟩
  obtain ⟨tl, HTL⟩ := ex_eq (tail s.size 64)
  rw [HTL.out] at Htl ⊢
  obtain ⟨m, hm⟩ : ∃ m, bk s.size 64 = m := ⟨_, rfl⟩
  rw [hm] at hbk Htl
  obtain ⟨M, hM⟩ : ∃ M, m * 64 = M := ⟨_, rfl⟩
  rw [hM] at hbk Htl
  obtain ⟨z, hz⟩ : ∃ z, M - s.size - 1 = z := ⟨_, rfl⟩
  rw [hz] at Htl
  have hMm : M % 64 = 0 := by rw [← hM]; exact Nat.mul_mod_left _ _
  have h8 : Away (refRow (8 * s.size) z 8 = fixL (8 * s.size) z) := ⟨ref8 _ _ (by omega) (by omega)⟩
  obtain ⟨i0, hi, hz0, hz1, hz2⟩ := info_parts infoByte
  have HI := Away.mk (And.intro hi (And.intro hz0 (And.intro hz1 hz2)))
  have hsl : s.data.toList.length = s.size := rfl
  have hsd : s.data.size = s.size := rfl
  obtain ⟨n, hn⟩ : ∃ n, s.size = n := ⟨_, rfl⟩
  rw [hn] at hbk Htl hz h8 hsl hs hsd
  clear hi hz0 hz1 hz2 hm hM
  go_enter Try.func50, Try.ntmps50
  go_wp2_with fail
  go_loopw [7] (fun x wr => ∃ k : Nat, n + 1 ≤ k ∧ k ≤ M - 8 ∧ x = .int .i64 k ∧ w = wr) (fun x _ => M - 8 - (intOf x).toNat)
  case atStart => exact ⟨n + 1, Nat.le_refl _, by omega, by go_num, rfl⟩
  case round =>
    obtain ⟨k, hk1, hk2, rfl, rfl⟩ := hrel
    by_cases hlt : k < M - 8
    · have hne : ((k : Int) % 64 != 56) = true := by simp only [bne_iff_ne, ne_eq]; omega
      go_wp2_with fail
      go_roundw
      case rel => exact ⟨k + 1, by omega, by omega, by go_num, by first | rfl | trivial⟩
      case measure => simp [intOf]; omega
    · have hne : ((k : Int) % 64 != 56) = false := by simp only [bne_eq_false_iff_eq]; omega
      have hkM : (k : Int) + 8 = (M : Int) := by omega
      go_wp2_with (at_make; refine wpList_make_full _ rfl (.tmp 24) (.tmp 24) 52 rfl w.heap.size 5 i0 (.int .u8 0) 1 Try.underlying52 HI.out.1 HI.out.2.1 HI.out.2.2.1 .i64 .i64 M M M rfl rfl rfl rfl (by rw [HI.out.2.2.2]; omega) (by unfold maxLen; omega) (Nat.le_refl _) ?_; intro w1 hown hgrow)
      have hB : Below w.heap.size w w1 := (Below.refl _ _).grown hgrow (Nat.le_refl _) (fun k hk => by simp at hk)
      obtain ⟨cur, hg, hcur, hb0, hcs, hmx⟩ := own_open hown
      have Hg := Away.mk hg
      have Hcl : Away (cur.toList = List.replicate M (Value.int .u8 0)) := ⟨by rw [hcur]; simp [Value.cells, toList_madeCells_one]⟩
      have hg2 : (w1.setRow w.heap.size (Lib.byteCells s.data.toList ++ cur.toList.drop s.size).toArray).heap[w.heap.size]? = some (.cells (Lib.byteCells s.data.toList ++ cur.toList.drop s.size).toArray 5 (0, 0)) := setRow_heap _ _ _ _ _ _ hg
      have hb2 : Below w.heap.size w (w1.setRow w.heap.size (Lib.byteCells s.data.toList ++ cur.toList.drop s.size).toArray) := hB.trans (below_setRow _ _ _ (Nat.le_refl _))
      have ho2 := own_close hg2 (Nat.le_refl _) (M := M) (by rw [List.size_toArray, List.length_append, Lib.byteCells_length, List.length_drop, Array.length_toList, Array.length_toList, hsd, hn, hcs]; omega) hmx
      rw [List.toList_toArray, Hcl.out] at ho2
      have hdz : List.drop s.size (List.replicate M (Value.int .u8 0)) = .int .u8 0 :: List.replicate z (Value.int .u8 0) := by
        rw [List.drop_replicate, hn, show M - n = z + 1 by omega, List.replicate_succ]
      rw [hdz] at ho2
      rw [Hcl.out] at hb2
      rw [hdz] at hb2
      obtain ⟨w2, Hw2⟩ := ex_eq (w1.setRow w.heap.size (Lib.byteCells s.data.toList ++ .int .u8 0 :: List.replicate z (Value.int .u8 0)).toArray)
      rw [Hw2.out] at ho2 hb2
      have hbl : (Lib.byteCells s.data.toList).length = n := by rw [Lib.byteCells_length, hsl]
      have hst := ho2.stored n (.int .u8 128)
      rw [List.set_append_right _ _ (Nat.le_of_eq hbl), hbl, Nat.sub_self, List.set_cons_zero] at hst
      have e0 : Lib.byteCells s.data.toList ++ .int .u8 128 :: List.replicate z (Value.int .u8 0) = Lib.byteCells (s.data.toList ++ 128 :: refRow (8 * n) z 0) := by
        rw [Lib.byteCells_append]
        show _ = _ ++ (.int .u8 128 :: Lib.byteCells (refRow (8 * n) z 0))
        rw [refRow_zero]
      rw [e0] at hst
      have Hst := Away.mk hst
      have hce := ho2.cellAt n (by omega)
      rw [List.getElem?_append_right (Nat.le_of_eq hbl), hbl, Nat.sub_self, List.getElem?_cons_zero] at hce
      have hfz := ho2.frozenAt n
      have Hb2 := Away.mk hb2
      have Hdz := Away.mk hdz
      have hcp := Lib.run_copy_row_string (P := Try.prog) w1 52 9 3 5 w.heap.size 0 M M s cur 5 Try.underlying52 (by rw [HI.out.1]; show some i0.size = some 1; rw [HI.out.2.2.1]) Hg.out (by rw [hn]; omega) (by rw [hn, hcs]; omega)
      rw [List.take_zero, List.nil_append, Nat.zero_add, Hcl.out, hdz, Hw2.out] at hcp
      have ln : (n : Int) < (M : Int) := by omega
      clear hown hgrow hB hcur hb0 hmx hg hg2 hb2 ho2 hst e0 hdz hbl hne
      go_wp2_with fail
      rw [hcp]
      clear hcp
      go_wp2_with fail
      go_loopw [33] (fun i wx => ∃ j : Nat, j ≤ 8 ∧ i = .int .i64 j ∧ Away (wx.ownsRow w.heap.size 5 1 (Value.slice (some ⟨w.heap.size, 0, none⟩) M M) M (Lib.byteCells (s.data.toList ++ 128 :: refRow (8 * n) z j))) ∧ Away (Below w.heap.size w wx)) (fun i _ => 8 - (intOf i).toNat)
      case atStart => exact ⟨0, by decide, rfl, ⟨Hst.out.1⟩, ⟨Hb2.out.trans ((Below.refl w.heap.size _).setCell (p := ⟨w.heap.size, n, none⟩) (Nat.le_refl _) _)⟩⟩
      case round =>
        obtain ⟨j, hj, rfl, Ho, Hb⟩ := hrel
        by_cases hj8 : j < 8
        · have hq : (n : Int) * 8 / 2 ^ (8 * j) = ((8 * n / 256 ^ j : Nat) : Int) := by
            rw [show (n : Int) * 8 = ((8 * n : Nat) : Int) by omega, show (256 : Nat) ^ j = 2 ^ (8 * j) from by rw [show (256 : Nat) = 2 ^ 8 from rfl, ← Nat.pow_mul]]
            norm_cast
          have hzj : n + 1 + (z - 1 - j) = M - 1 - j := by omega
          have hset : (s.data.toList ++ 128 :: refRow (8 * n) z j).set (M - 1 - j) (byteAt (8 * n) j) = s.data.toList ++ 128 :: refRow (8 * n) z (j + 1) := by
            rw [refRow_succ (8 * n) z j (by omega), ← hzj, ← hsl, set_tail]
          have hbc := byteCells_set (s.data.toList ++ 128 :: refRow (8 * n) z j) (M - 1 - j) (8 * n) j
          rw [hset] at hbc
          generalize 8 * n / 256 ^ j = q at hq hbc
          have hce := Ho.out.cellAt (M - 1 - j) (by omega)
          have hll : M - 1 - j < (Lib.byteCells (s.data.toList ++ 128 :: refRow (8 * n) z j)).length := by
            rw [Lib.byteCells_length, List.length_append, List.length_cons, refRow_length, hsl]; omega
          rw [List.getElem?_eq_getElem hll] at hce
          have hfz := Ho.out.frozenAt (M - 1 - j)
          have hst := Ho.out.stored (M - 1 - j) (.int .u8 ((q : Int) % 256))
          rw [← hbc] at hst
          have Hst2 := Away.mk hst
          have Hq := Away.mk hq
          have hto : ((M : Int) - 1 - (j : Int)).toNat = M - 1 - j := by omega
          clear hst hq hbc hset hzj
          go_wp2_with fail
          rw [Hq.out]
          go_roundw
          case rel => exact ⟨j + 1, by omega, by go_num, ⟨Hst2.out.1⟩, ⟨Hb.out.trans ((Below.refl w.heap.size _).setCell (p := ⟨w.heap.size, M - 1 - j, none⟩) (Nat.le_refl _) _)⟩⟩
          case measure => simp [intOf]; omega
        · obtain rfl : j = 8 := by omega
          have hO := Ho.out
          rw [h8.out, ← Htl.out] at hO
          have hcv := conv_row (by rw [Htl.out, List.length_append, List.length_cons, fixL_length, hsl]; omega) (by omega) hO
          clear hO
          go_wp2_with fail
          go_ret
          exact ⟨rfl, Hb.out⟩

set_option maxRecDepth 100000 in
set_option maxHeartbeats 2000000 in
theorem rpadded128 (s : ByteArray) (w : World) (hs : s.size ≤ 1099511626000) :
    Calls Try.prog 50 #[.string s, .int .i64 128, .int .i64 16] w fun e w' => e = .returned (.string ⟨(s.data.toList ++ tail s.size 128).toArray⟩) ∧ Below w.heap.size w w' := by
  have hbk := bk_le128 s.size
  have Htl : Away (tail s.size 128 = 128 :: fixL (8 * s.size) (bk s.size 128 * 128 - s.size - 1)) := ⟨rfl⟩
  obtain ⟨tl, HTL⟩ := ex_eq (tail s.size 128)
  rw [HTL.out] at Htl ⊢
  obtain ⟨m, hm⟩ : ∃ m, bk s.size 128 = m := ⟨_, rfl⟩
  rw [hm] at hbk Htl
  obtain ⟨M, hM⟩ : ∃ M, m * 128 = M := ⟨_, rfl⟩
  rw [hM] at hbk Htl
  obtain ⟨z, hz⟩ : ∃ z, M - s.size - 1 = z := ⟨_, rfl⟩
  rw [hz] at Htl
  have hMm : M % 128 = 0 := by rw [← hM]; exact Nat.mul_mod_left _ _
  have h8 : Away (refRow (8 * s.size) z 8 = fixL (8 * s.size) z) := ⟨ref8 _ _ (by omega) (by omega)⟩
  obtain ⟨i0, hi, hz0, hz1, hz2⟩ := info_parts infoByte
  have HI := Away.mk (And.intro hi (And.intro hz0 (And.intro hz1 hz2)))
  have hsl : s.data.toList.length = s.size := rfl
  have hsd : s.data.size = s.size := rfl
  obtain ⟨n, hn⟩ : ∃ n, s.size = n := ⟨_, rfl⟩
  rw [hn] at hbk Htl hz h8 hsl hs hsd
  clear hi hz0 hz1 hz2 hm hM
  go_enter Try.func50, Try.ntmps50
  go_wp2_with fail
  go_loopw [7] (fun x wr => ∃ k : Nat, n + 1 ≤ k ∧ k ≤ M - 16 ∧ x = .int .i64 k ∧ w = wr) (fun x _ => M - 16 - (intOf x).toNat)
  case atStart => exact ⟨n + 1, Nat.le_refl _, by omega, by go_num, rfl⟩
  case round =>
    obtain ⟨k, hk1, hk2, rfl, rfl⟩ := hrel
    by_cases hlt : k < M - 16
    · have hne : ((k : Int) % 128 != 112) = true := by simp only [bne_iff_ne, ne_eq]; omega
      go_wp2_with fail
      go_roundw
      case rel => exact ⟨k + 1, by omega, by omega, by go_num, by first | rfl | trivial⟩
      case measure => simp [intOf]; omega
    · have hne : ((k : Int) % 128 != 112) = false := by simp only [bne_eq_false_iff_eq]; omega
      have hkM : (k : Int) + 16 = (M : Int) := by omega
      go_wp2_with (at_make; refine wpList_make_full _ rfl (.tmp 24) (.tmp 24) 52 rfl w.heap.size 5 i0 (.int .u8 0) 1 Try.underlying52 HI.out.1 HI.out.2.1 HI.out.2.2.1 .i64 .i64 M M M rfl rfl rfl rfl (by rw [HI.out.2.2.2]; omega) (by unfold maxLen; omega) (Nat.le_refl _) ?_; intro w1 hown hgrow)
      have hB : Below w.heap.size w w1 := (Below.refl _ _).grown hgrow (Nat.le_refl _) (fun k hk => by simp at hk)
      obtain ⟨cur, hg, hcur, hb0, hcs, hmx⟩ := own_open hown
      have Hg := Away.mk hg
      have Hcl : Away (cur.toList = List.replicate M (Value.int .u8 0)) := ⟨by rw [hcur]; simp [Value.cells, toList_madeCells_one]⟩
      have hg2 : (w1.setRow w.heap.size (Lib.byteCells s.data.toList ++ cur.toList.drop s.size).toArray).heap[w.heap.size]? = some (.cells (Lib.byteCells s.data.toList ++ cur.toList.drop s.size).toArray 5 (0, 0)) := setRow_heap _ _ _ _ _ _ hg
      have hb2 : Below w.heap.size w (w1.setRow w.heap.size (Lib.byteCells s.data.toList ++ cur.toList.drop s.size).toArray) := hB.trans (below_setRow _ _ _ (Nat.le_refl _))
      have ho2 := own_close hg2 (Nat.le_refl _) (M := M) (by rw [List.size_toArray, List.length_append, Lib.byteCells_length, List.length_drop, Array.length_toList, Array.length_toList, hsd, hn, hcs]; omega) hmx
      rw [List.toList_toArray, Hcl.out] at ho2
      have hdz : List.drop s.size (List.replicate M (Value.int .u8 0)) = .int .u8 0 :: List.replicate z (Value.int .u8 0) := by
        rw [List.drop_replicate, hn, show M - n = z + 1 by omega, List.replicate_succ]
      rw [hdz] at ho2
      rw [Hcl.out] at hb2
      rw [hdz] at hb2
      obtain ⟨w2, Hw2⟩ := ex_eq (w1.setRow w.heap.size (Lib.byteCells s.data.toList ++ .int .u8 0 :: List.replicate z (Value.int .u8 0)).toArray)
      rw [Hw2.out] at ho2 hb2
      have hbl : (Lib.byteCells s.data.toList).length = n := by rw [Lib.byteCells_length, hsl]
      have hst := ho2.stored n (.int .u8 128)
      rw [List.set_append_right _ _ (Nat.le_of_eq hbl), hbl, Nat.sub_self, List.set_cons_zero] at hst
      have e0 : Lib.byteCells s.data.toList ++ .int .u8 128 :: List.replicate z (Value.int .u8 0) = Lib.byteCells (s.data.toList ++ 128 :: refRow (8 * n) z 0) := by
        rw [Lib.byteCells_append]
        show _ = _ ++ (.int .u8 128 :: Lib.byteCells (refRow (8 * n) z 0))
        rw [refRow_zero]
      rw [e0] at hst
      have Hst := Away.mk hst
      have hce := ho2.cellAt n (by omega)
      rw [List.getElem?_append_right (Nat.le_of_eq hbl), hbl, Nat.sub_self, List.getElem?_cons_zero] at hce
      have hfz := ho2.frozenAt n
      have Hb2 := Away.mk hb2
      have Hdz := Away.mk hdz
      have hcp := Lib.run_copy_row_string (P := Try.prog) w1 52 9 3 5 w.heap.size 0 M M s cur 5 Try.underlying52 (by rw [HI.out.1]; show some i0.size = some 1; rw [HI.out.2.2.1]) Hg.out (by rw [hn]; omega) (by rw [hn, hcs]; omega)
      rw [List.take_zero, List.nil_append, Nat.zero_add, Hcl.out, hdz, Hw2.out] at hcp
      have ln : (n : Int) < (M : Int) := by omega
      clear hown hgrow hB hcur hb0 hmx hg hg2 hb2 ho2 hst e0 hdz hbl hne
      go_wp2_with fail
      rw [hcp]
      clear hcp
      go_wp2_with fail
      go_loopw [33] (fun i wx => ∃ j : Nat, j ≤ 8 ∧ i = .int .i64 j ∧ Away (wx.ownsRow w.heap.size 5 1 (Value.slice (some ⟨w.heap.size, 0, none⟩) M M) M (Lib.byteCells (s.data.toList ++ 128 :: refRow (8 * n) z j))) ∧ Away (Below w.heap.size w wx)) (fun i _ => 8 - (intOf i).toNat)
      case atStart => exact ⟨0, by decide, rfl, ⟨Hst.out.1⟩, ⟨Hb2.out.trans ((Below.refl w.heap.size _).setCell (p := ⟨w.heap.size, n, none⟩) (Nat.le_refl _) _)⟩⟩
      case round =>
        obtain ⟨j, hj, rfl, Ho, Hb⟩ := hrel
        by_cases hj8 : j < 8
        · have hq : (n : Int) * 8 / 2 ^ (8 * j) = ((8 * n / 256 ^ j : Nat) : Int) := by
            rw [show (n : Int) * 8 = ((8 * n : Nat) : Int) by omega, show (256 : Nat) ^ j = 2 ^ (8 * j) from by rw [show (256 : Nat) = 2 ^ 8 from rfl, ← Nat.pow_mul]]
            norm_cast
          have hzj : n + 1 + (z - 1 - j) = M - 1 - j := by omega
          have hset : (s.data.toList ++ 128 :: refRow (8 * n) z j).set (M - 1 - j) (byteAt (8 * n) j) = s.data.toList ++ 128 :: refRow (8 * n) z (j + 1) := by
            rw [refRow_succ (8 * n) z j (by omega), ← hzj, ← hsl, set_tail]
          have hbc := byteCells_set (s.data.toList ++ 128 :: refRow (8 * n) z j) (M - 1 - j) (8 * n) j
          rw [hset] at hbc
          generalize 8 * n / 256 ^ j = q at hq hbc
          have hce := Ho.out.cellAt (M - 1 - j) (by omega)
          have hll : M - 1 - j < (Lib.byteCells (s.data.toList ++ 128 :: refRow (8 * n) z j)).length := by
            rw [Lib.byteCells_length, List.length_append, List.length_cons, refRow_length, hsl]; omega
          rw [List.getElem?_eq_getElem hll] at hce
          have hfz := Ho.out.frozenAt (M - 1 - j)
          have hst := Ho.out.stored (M - 1 - j) (.int .u8 ((q : Int) % 256))
          rw [← hbc] at hst
          have Hst2 := Away.mk hst
          have Hq := Away.mk hq
          have hto : ((M : Int) - 1 - (j : Int)).toNat = M - 1 - j := by omega
          clear hst hq hbc hset hzj
          go_wp2_with fail
          rw [Hq.out]
          go_roundw
          case rel => exact ⟨j + 1, by omega, by go_num, ⟨Hst2.out.1⟩, ⟨Hb.out.trans ((Below.refl w.heap.size _).setCell (p := ⟨w.heap.size, M - 1 - j, none⟩) (Nat.le_refl _) _)⟩⟩
          case measure => simp [intOf]; omega
        · obtain rfl : j = 8 := by omega
          have hO := Ho.out
          rw [h8.out, ← Htl.out] at hO
          have hcv := conv_row (by rw [Htl.out, List.length_append, List.length_cons, fixL_length, hsl]; omega) (by omega) hO
          clear hO
          go_wp2_with fail
          go_ret
          exact ⟨rfl, Hb.out⟩
end Go.Proofs.Ythfljfampfioaaa.rpad

namespace Go.Proofs.Ythfljfampfioaaa.rhash
open Go.RowKit
open Go.Proofs.Ythfljfampfioaaa.oct Go.Proofs.Ythfljfampfioaaa.mem Go.Proofs.Ythfljfampfioaaa.arr Go.Proofs.Ythfljfampfioaaa.sham Go.Proofs.Ythfljfampfioaaa.block Go.Proofs.Ythfljfampfioaaa.thru Go.Proofs.Ythfljfampfioaaa.pad Go.Proofs.Ythfljfampfioaaa.ends Go.Proofs.Ythfljfampfioaaa.hashs

theorem wpStill_load {P : Program} {ops : Array Oper} {w : World} {Q : Act → Prop} {rest : List Oper} {o : Oper} {a : Act} (hw : Region.wanted o (yielded ops a.tmps) = true) (ty : TypeId) (x : Operand) (ho : o.op = .load ty x)
    (g : Nat) (hx : a.eval x = .pointer (some ⟨g, 0, none⟩)) (t : TypeId) (cs : Array Value) (d : TypeDesc) (hS : w.heap[g]? = some (.cells cs t (0, 0)))
    (hu : P.underlying ty = some d) (hd : (match d with | .struct _ | .array _ _ => true | _ => false) = true) (hi : (P.info? ty).map (·.size) = some cs.size)
    (h : wpStill P ops w Q rest (a.put o.dst (.agg cs))) : wpStill P ops w Q (o :: rest) a := by
  refine wpStill_step fun K hK => ?_
  rw [if_pos hw]
  unfold Oper.still execOp
  simp only [ho, hx, Instr.loadAt, Instr.sureAddr, Sem.run_bind, Sem.run_pure, Result.andThen_ok, run_loadVar_row w g t ty cs (0, 0) d hS hu hd hi]
  exact ⟨rfl, hK _ h⟩
theorem catL (a b : List UInt8) : (⟨a.toArray⟩ : ByteArray) ++ ⟨b.toArray⟩ = ⟨(a ++ b).toArray⟩ := by
  apply ByteArray.ext
  apply Array.toList_inj.1
  simp
theorem at_row {g : Nat} {C C' : Array Value} {t : TypeId} {w w' : World} (h : At g C t w w') : At g C' t w (w'.setRow g C') :=
  ⟨h.os, h.tape, h.output, by simpa [World.setRow] using h.size, setRow_heap _ _ _ _ _ _ h.row, fun k hk hg => (setRow_other w' g k C' hg).trans (h.block k hk hg)⟩
theorem at_same {g : Nat} {C : Array Value} {t : TypeId} {w w1 w2 : World} (h : At g C t w w1) (e1 : w2.heap = w1.heap) (e2 : w2.os = w1.os) (e3 : w2.tape = w1.tape) (e4 : w2.output = w1.output) : At g C t w w2 :=
  ⟨e2.trans h.os, e3.trans h.tape, e4.trans h.output, by rw [e1]; exact h.size, by rw [e1]; exact h.row, fun k hk hg => by rw [e1]; exact h.block k hk hg⟩

/-! ### 32 bits -/
theorem pad_len32 (l : List UInt8) : (l ++ tail l.length 64).length = 64 * bk l.length 64 := by
  have := bk_le64 l.length
  rw [List.length_append, tail_length _ _ (by omega)]; omega
set_option maxRecDepth 100000 in
set_option maxHeartbeats 4000000 in
theorem whole32 (T : Array Value) (K3 K6 : List Nat) (S3 S6 : V8) (s : ByteArray) (w : World) (h : TF T K3 S3 K6 S6) (hs : s.size ≤ 1099511626000) :
    Calls Try.prog 29 #[.agg T, .string s] w fun e w' => e = .returned (.string ⟨(hs32 K3 S3 s.data.toList).toArray⟩) ∧ Below w.heap.size w w' := by
  have HTs : Away (T.size = 465) := ⟨h.size⟩
  have Hpad := Away.mk (fun w1 : World => rpad.rpadded64 s w1 hs)
  have hbk := bk_le64 s.size
  have hpl := pad_len32 s.data.toList
  rw [show s.data.toList.length = s.size from rfl] at hpl
  have hwd : wd32 K3 S3 s.data.toList = run32 K3 S3 (s.data.toList ++ tail s.size 64) (bk s.size 64) := by
    unfold wd32
    rw [show s.data.toList.length = s.size from rfl, hpl, Nat.mul_div_cancel_left _ (by decide)]
  obtain ⟨P, HP⟩ := ex_eq (s.data.toList ++ tail s.size 64)
  obtain ⟨q, Hq⟩ := ex_eq (bk s.size 64)
  rw [HP.out] at Hpad hpl hwd
  rw [Hq.out] at hpl hwd hbk
  have Hres : Away (hs32 K3 S3 s.data.toList = flat 4 (run32 K3 S3 P q).l) := ⟨by rw [hs32, hwd]⟩
  have hpu : (⟨P.toArray⟩ : ByteArray).size = 64 * q := by show P.toArray.size = _; rw [List.size_toArray]; exact hpl
  have Hblk : Away (∀ (w1 : World) (k : Nat), k < q → Calls Try.prog 52 #[.agg T, .agg (LK .u32 (run32 K3 S3 P k).l), .string ((⟨P.toArray⟩ : ByteArray).extract (64 * k) (64 * k + 64))] w1 fun e w' => e = .returned (.agg (LK .u32 (run32 K3 S3 P (k + 1)).l)) ∧ Below w1.heap.size w1 w') := ⟨fun w1 k hk => by
    have hb := rblk.rblock32 T K3 (run32 K3 S3 P k) ((⟨P.toArray⟩ : ByteArray).extract (64 * k) (64 * k + 64)) w1 (by rw [ByteArray.size_extract, hpu]; omega) (run_lt32 _ _ _ h.bs32 _) h.bk32 h.k32 h.size
    rw [show ((⟨P.toArray⟩ : ByteArray).extract (64 * k) (64 * k + 64)).data.toList = (P.drop (64 * k)).take 64 by simp [List.take_drop, Nat.add_comm]] at hb
    exact hb⟩
  obtain ⟨R, HR⟩ : ∃ R : Nat → Array Value, Away (∀ k, LK .u32 (run32 K3 S3 P k).l = R k) := ⟨fun k => LK .u32 (run32 K3 S3 P k).l, ⟨fun _ => rfl⟩⟩
  have HRs : Away (∀ k, (R k).size = 8) := ⟨fun k => by rw [← HR.out]; rfl⟩
  have HRo : Away (∀ k, (R k).all (·.oneCell') = true) := ⟨fun k => by rw [← HR.out]; exact lk_one _ _⟩
  have Hblk2 : Away (∀ (w1 : World) (k : Nat), k < q → Calls Try.prog 52 #[.agg T, .agg (R k), .string ((⟨P.toArray⟩ : ByteArray).extract (64 * k) (64 * k + 64))] w1 fun e w' => e = .returned (.agg (R (k + 1))) ∧ Below w1.heap.size w1 w') := ⟨fun w1 k hk => by rw [← HR.out, ← HR.out]; exact Hblk.out w1 k hk⟩
  obtain ⟨L, HL⟩ := ex_eq (run32 K3 S3 P q).l
  have HRq : Away (R q = LK .u32 L) := ⟨by rw [← HR.out, HL.out]⟩
  have HLl : Away (L.length = 8) := ⟨by rw [← HL.out]; rfl⟩
  have HLb : Away (∀ i, L.getD i 0 < 4294967296) := ⟨by rw [← HL.out]; exact (run_lt32 _ _ _ h.bs32 _).get (by decide)⟩
  rw [Hres.out, HL.out]
  obtain ⟨O, HO⟩ := ex_eq (flat 4 L)
  rw [HO.out]
  have HOl : Away (O.length = 8 * 4) := ⟨by rw [← HO.out, flat_length, HLl.out, Nat.mul_comm]⟩
  have Hrg : Away ((w.alloc (.cells T 33)).rangeAt w.heap.size 64 (R 0).toList) := ⟨fun j v hj => by
    have hj8 : j < 8 := by
      by_cases h8 : j < 8
      · exact h8
      · rw [List.getElem?_eq_none (by rw [Array.length_toList, HRs.out]; omega)] at hj; cases hj
    have hc := cell_of_row (w.alloc (.cells T 33)) w.heap.size (64 + j) T _ (0, 0) (heap_at _ _ _ rfl)
    rw [hc, h.s32 j hj8, ← hj, Array.getElem?_toList, ← HR.out, lk_get _ _ _ (show j < (run32 K3 S3 P 0).l.length from hj8)]
    rfl⟩
  obtain ⟨i0, hi, hz0, hz1, hz2⟩ := info_parts infoByte
  have HI := Away.mk (And.intro hi (And.intro hz0 (And.intro hz1 hz2)))
  have hql : q ≤ 1099511627000 := by omega
  obtain ⟨p, Hp⟩ := ex_eq (⟨P.toArray⟩ : ByteArray)
  rw [Hp.out] at Hpad hpu Hblk2
  clear hi hz0 hz1 hz2 h Hblk Hres HL HR hwd hpl HP hbk Hq
  go_enter Try.func29, Try.ntmps29
  go_wp2_with (first
    | (refine wpList_load_mid rfl 25 _ rfl w.heap.size 64 rfl (R 0).toList _ Hrg.out Try.underlying25 rfl (by rw [Array.length_toList, HRs.out]; exact z8_32) ?_)
    | (refine rblk.store_newg rfl 25 _ _ rfl (R 0) (w.heap.size + 1) (by simp) rfl rfl (by rw [HRs.out]; exact z8_32) (by rw [HRs.out]; rfl) (HRo.out 0) rfl ?_))
  obtain ⟨w0, Hw0⟩ := ex_eq ((w.alloc (.cells T 33)).alloc (.cells (R 0) 25))
  have z0 : w0.heap.size = w.heap.size + 2 := by rw [← Hw0.out]; simp
  have g0 : w0.heap[w.heap.size]? = some (.cells T 33 (0, 0)) := by rw [← Hw0.out, heap_past _ _ _ (by simp), heap_at _ _ _ rfl]
  have g1 : w0.heap[w.heap.size + 1]? = some (.cells (R 0) 25 (0, 0)) := by rw [← Hw0.out, heap_at _ _ _ (by simp)]
  have Hb0 : Away (Below w.heap.size w w0) := ⟨by rw [← Hw0.out]; exact ((Below.refl _ _).alloc (Nat.le_refl _) _).alloc (by simp) _⟩
  have G0 := Away.mk g0
  have G1 := Away.mk g1
  rw [Hw0.out]
  clear g0 g1 Hrg
  refine (Hpad.out _).mono ?_
  rintro e w1 ⟨rfl, hb1⟩
  have Hat : Away (At (w.heap.size + 1) (R 0) 25 w0 w1) := ⟨(At.refl G1.out).later hb1⟩
  clear hb1
  go_wp2_with fail
  go_loopw [7] (fun i wr => ∃ k : Nat, k ≤ q ∧ i = .int .i64 (64 * (k : Int)) ∧ Away (At (w.heap.size + 1) (R k) 25 w0 wr)) (fun i _ => 64 * q - (intOf i).toNat)
  case atStart => exact ⟨0, Nat.zero_le _, by go_num, Hat⟩
  case round =>
    obtain ⟨k, hk, rfl, Hx⟩ := hrel
    by_cases hlt : k < q
    · have hl1 : 64 * (k : Int) < ((64 * q : Nat) : Int) := by omega
      have hl2 : 64 * (k : Int) < 64 * (q : Int) := by omega
      have Row0 := Away.mk (Hx.out.other (k := w.heap.size) (by omega) (by omega) G0.out)
      have Row1 := Away.mk Hx.out.row
      have e1 : (64 * (k : Int)).toNat = 64 * k := by omega
      have e2 : IntKind.i64.wrap (64 * (k : Int) + 64) = ((64 * k + 64 : Nat) : Int) := by rw [IntKind.wrap_i64]; omega
      obtain ⟨y, hy⟩ : ∃ y, 64 * k + 64 = y := ⟨_, rfl⟩
      obtain ⟨y0, hy0⟩ : ∃ y0, 64 * k = y0 := ⟨_, rfl⟩
      have hex : p.extract y0 y = p.extract (64 * k) (64 * k + 64) := by rw [hy, hy0]
      have Hc := Away.mk (fun w2 : World => Hblk2.out w2 k hlt)
      rw [← hex] at Hc
      rw [hy] at e2
      rw [hy0] at e1
      have e3 : 64 * (k : Int) = (y0 : Int) := by omega
      have l1 : y0 ≤ y := by omega
      have l2 : y ≤ p.size := by rw [hpu]; omega
      have l3 : (y0 : Int) ≤ (y : Int) := by omega
      have l4 : (y : Int) ≤ (p.size : Int) := by omega
      have l5 : (y : Int) ≤ ((64 * q : Nat) : Int) := by omega
      have l6 : (y : Int) ≤ 64 * (q : Int) := by omega
      have l7 : (y0 : Int) < 64 * (q : Int) := by omega
      rw [e3] at e2 ⊢
      have hny : (y0 : Int) + 64 = 64 * ((k : Int) + 1) := by omega
      have Hny := Away.mk hny
      have Hyy : Away ((y : Int) = 64 * ((k : Int) + 1) ∧ (y : Int) = (y0 : Int) + 64) := ⟨by omega⟩
      have hyb : y0 ≤ 140737488355328 := by omega
      clear hex hy hl1 hl2 e1 hny
      go_wp2_with fail
      refine still_tail 7 (by kernel_rfl) (by kernel_rfl) ?_
      simp only [List.take_succ_cons, List.take_zero, List.drop_succ_cons, List.drop_zero]
      refine wpStill_load rfl 33 _ rfl w.heap.size rfl 33 T _ Row0.out Try.underlying33 rfl (by rw [HTs.out]; exact sizeT) ?_
      refine wpStill_load rfl 25 _ rfl (w.heap.size + 1) rfl 25 (R k) _ Row1.out Try.underlying25 rfl (by rw [HRs.out]; exact z8_32) ?_
      repeat still_step
      refine wpStill_nil ?_
      go_wp2_with fail
      refine (Hc.out _).mono ?_
      rintro e w2 ⟨rfl, hb2⟩
      have Hat2 : Away (At (w.heap.size + 1) (R k) 25 w0 w2) := ⟨(at_same (w2 := wr.drew) Hx.out rfl rfl rfl rfl).later hb2⟩
      clear hb2
      go_wp2_with (refine wpList_store_row rfl 25 _ _ rfl (w.heap.size + 1) (R (k + 1)) rfl rfl 25 _ Hat2.out.row (by rw [HRs.out]; exact z8_32) (by rw [HRs.out, HRs.out]) (HRo.out _) ?_)
      go_roundw
      case rel => exact ⟨k + 1, by omega, val_int (by have := Hyy.out; omega), ⟨at_row Hat2.out⟩⟩
      case measure => have := Hyy.out; simp [intOf]; omega
    · obtain rfl : k = q := by omega
      have Hbr : Away (Below w.heap.size w wr) := ⟨Hb0.out.trans (Hx.out.below (by omega) (by omega))⟩
      have Row1 := Away.mk Hx.out.row
      have zr := Hx.out.size
      go_wp2_with (at_make; refine wpList_make_own _ rfl _ _ 52 rfl wr.heap.size 5 i0 (.int .u8 0) 1 Try.underlying52 HI.out.1 HI.out.2.1 HI.out.2.2.1 .i64 .i64 32 32 rfl rfl rfl (by rw [HI.out.2.2.2]; decide) (by decide) (Nat.le_refl _) ?_)
      intro w3 hown hgr
      have hb3 : Below wr.heap.size wr w3 := (Below.refl _ _).grown hgr (Nat.le_refl _) (fun k hk => by simp at hk)
      have Hb3 := Away.mk hb3
      have Hown := Away.mk hown
      have Row3 : Away (w3.heap[w.heap.size + 1]? = some (.cells (LK .u32 L) 25 (0, 0))) := ⟨by rw [← HRq.out]; exact (hb3.block _ (by omega)).trans Row1.out⟩
      obtain ⟨gb, Hgb⟩ := ex_eq wr.heap.size
      rw [Hgb.out] at Hown Hb3
      have Hgw : Away (Below w.heap.size w w3) := ⟨Hbr.out.trans (hb3.mono (by omega))⟩
      have hgb : gb ≤ w3.heap.size := by rw [← Hgb.out]; exact hb3.size
      have hgw : w.heap.size ≤ gb := by rw [← Hgb.out]; omega
      clear hown hgr hb3
      go_wp2_with (refine wpList_load_row rfl 25 _ rfl (w.heap.size + 1) rfl 25 (LK .u32 L) (0, 0) _ Row3.out Try.underlying25 rfl (by rw [lk_size, HLl.out]; exact z8_32) ?_)
      go_loopw [8, 31] (fun v i wx => ∃ j : Nat, j ≤ 8 ∧ i = .int .i64 j ∧ Away (wx.ownsRow gb 5 1 v (4 * j) (Lib.byteCells (flat 4 (L.take j)))) ∧ Away (Below gb w3 wx)) (fun _ i _ => 8 - (intOf i).toNat)
      case atStart => exact ⟨0, by decide, rfl, ⟨by rw [Hgb.out]; exact Hown.out⟩, ⟨Below.refl _ _⟩⟩
      case round =>
        obtain ⟨j, hj, rfl, Ho, Hb⟩ := hrel
        by_cases hj8 : j < 8
        · have hag : ∀ w : World, (Instr.index 25 (.agg (LK .u32 L)) (.int .i64 (j : Int))).run Try.prog w = .ok (.int .u32 ((L.getD j 0 : Nat) : Int)) w := idx.index32 L j HLl.out hj8
          have bx := HLb.out j
          have Hsn : Away (flat 4 (L.take (j + 1)) = flat 4 (L.take j) ++ fixL (L.getD j 0) 4) := ⟨by rw [take_snocN L j (by rw [HLl.out]; exact hj8), flat_snoc]⟩
          obtain ⟨x, hx⟩ : ∃ x, L.getD j 0 = x := ⟨_, rfl⟩
          rw [hx] at hag bx Hsn
          have H4 := Away.mk (cells4 x bx)
          have hbs : gb ≤ wr.heap.size := Nat.le_trans hgb Hb.out.size
          clear hx
          go_wp2_with (at_builtin; refine wpList_append_own _ rfl _ _ 52 rfl gb 5 i0 (.int .u8 0) 1 1 Try.underlying52 HI.out.1 HI.out.2.1 HI.out.2.2.1 HI.out.2.2.2 rfl (by decide) _ _ _ rfl (Ho.out.alloc _) ⟨wr.heap.size, 0, none⟩ 4 4 [.int .u8 ((x : Int) / 16777216), .int .u8 ((x : Int) / 65536 % 256), .int .u8 ((x : Int) / 256 % 256), .int .u8 ((x : Int) % 256)] rfl rfl (new4 _ _ _ _ _ _) (fun u hu => by simp at hu; rcases hu with rfl | rfl | rfl | rfl <;> rfl) (by unfold maxLen; omega) (by omega) (by simp; omega) ?_)
          intro v' w4 hown' hgrow _
          rw [H4.out] at hown'
          have Hown2 : Away (w4.ownsRow gb 5 1 v' (4 * (j + 1)) (Lib.byteCells (flat 4 (L.take (j + 1))))) := ⟨by
            rw [Hsn.out, Lib.byteCells_append, show 4 * (j + 1) = 4 * j + 4 by omega]; exact hown'⟩
          have Hb4 : Away (Below gb w3 w4) := ⟨(Hb.out.alloc hbs _).grown hgrow (by simp; omega) (fun k hk => (Ho.out.lt k hk).1)⟩
          clear hown' hgrow
          go_wp2_with fail
          go_roundw
          case rel => exact ⟨j + 1, by omega, by go_num, Hown2, Hb4⟩
          case measure => simp [intOf]; omega
        · obtain rfl : j = 8 := by omega
          have hO := Ho.out
          rw [List.take_of_length_le (by rw [HLl.out]; decide), HO.out] at hO
          have hcv := conv_row (by rw [HOl.out]) (by decide) hO
          have Hbz : Away (Below w.heap.size w wr) := ⟨Hgw.out.trans (Hb.out.mono hgw)⟩
          clear hO
          go_wp2_with fail
          go_ret
          exact ⟨rfl, Hbz.out⟩

/-! ### 64 bits -/
theorem pad_len64 (l : List UInt8) : (l ++ tail l.length 128).length = 128 * bk l.length 128 := by
  have := bk_le128 l.length
  rw [List.length_append, tail_length _ _ (by omega)]; omega
set_option maxRecDepth 100000 in
set_option maxHeartbeats 4000000 in
theorem whole64 (T : Array Value) (K3 K6 : List Nat) (S3 S6 : V8) (s : ByteArray) (w : World) (h : TF T K3 S3 K6 S6) (hs : s.size ≤ 1099511626000) :
    Calls Try.prog 28 #[.agg T, .string s] w fun e w' => e = .returned (.string ⟨(hs64 K6 S6 s.data.toList).toArray⟩) ∧ Below w.heap.size w w' := by
  have HTs : Away (T.size = 465) := ⟨h.size⟩
  have Hpad := Away.mk (fun w1 : World => rpad.rpadded128 s w1 hs)
  have hbk := bk_le128 s.size
  have hpl := pad_len64 s.data.toList
  rw [show s.data.toList.length = s.size from rfl] at hpl
  have hwd : wd64 K6 S6 s.data.toList = run64 K6 S6 (s.data.toList ++ tail s.size 128) (bk s.size 128) := by
    unfold wd64
    rw [show s.data.toList.length = s.size from rfl, hpl, Nat.mul_div_cancel_left _ (by decide)]
  obtain ⟨P, HP⟩ := ex_eq (s.data.toList ++ tail s.size 128)
  obtain ⟨q, Hq⟩ := ex_eq (bk s.size 128)
  rw [HP.out] at Hpad hpl hwd
  rw [Hq.out] at hpl hwd hbk
  have Hres : Away (hs64 K6 S6 s.data.toList = flat 8 (run64 K6 S6 P q).l) := ⟨by rw [hs64, hwd]⟩
  have hpu : (⟨P.toArray⟩ : ByteArray).size = 128 * q := by show P.toArray.size = _; rw [List.size_toArray]; exact hpl
  have Hblk : Away (∀ (w1 : World) (k : Nat), k < q → Calls Try.prog 51 #[.agg T, .agg (LK .u64 (run64 K6 S6 P k).l), .string ((⟨P.toArray⟩ : ByteArray).extract (128 * k) (128 * k + 128))] w1 fun e w' => e = .returned (.agg (LK .u64 (run64 K6 S6 P (k + 1)).l)) ∧ Below w1.heap.size w1 w') := ⟨fun w1 k hk => by
    have hb := rblk.rblock64 T K6 (run64 K6 S6 P k) ((⟨P.toArray⟩ : ByteArray).extract (128 * k) (128 * k + 128)) w1 (by rw [ByteArray.size_extract, hpu]; omega) (run_lt64 _ _ _ h.bs64 _) h.bk64 h.k64 h.size
    rw [show ((⟨P.toArray⟩ : ByteArray).extract (128 * k) (128 * k + 128)).data.toList = (P.drop (128 * k)).take 128 by simp [List.take_drop, Nat.add_comm]] at hb
    exact hb⟩
  obtain ⟨R, HR⟩ : ∃ R : Nat → Array Value, Away (∀ k, LK .u64 (run64 K6 S6 P k).l = R k) := ⟨fun k => LK .u64 (run64 K6 S6 P k).l, ⟨fun _ => rfl⟩⟩
  have HRs : Away (∀ k, (R k).size = 8) := ⟨fun k => by rw [← HR.out]; rfl⟩
  have HRo : Away (∀ k, (R k).all (·.oneCell') = true) := ⟨fun k => by rw [← HR.out]; exact lk_one _ _⟩
  have Hblk2 : Away (∀ (w1 : World) (k : Nat), k < q → Calls Try.prog 51 #[.agg T, .agg (R k), .string ((⟨P.toArray⟩ : ByteArray).extract (128 * k) (128 * k + 128))] w1 fun e w' => e = .returned (.agg (R (k + 1))) ∧ Below w1.heap.size w1 w') := ⟨fun w1 k hk => by rw [← HR.out, ← HR.out]; exact Hblk.out w1 k hk⟩
  obtain ⟨L, HL⟩ := ex_eq (run64 K6 S6 P q).l
  have HRq : Away (R q = LK .u64 L) := ⟨by rw [← HR.out, HL.out]⟩
  have HLl : Away (L.length = 8) := ⟨by rw [← HL.out]; rfl⟩
  have HLb : Away (∀ i, L.getD i 0 < 18446744073709551616) := ⟨by rw [← HL.out]; exact (run_lt64 _ _ _ h.bs64 _).get (by decide)⟩
  rw [Hres.out, HL.out]
  obtain ⟨O, HO⟩ := ex_eq (flat 8 L)
  rw [HO.out]
  have HOl : Away (O.length = 8 * 8) := ⟨by rw [← HO.out, flat_length, HLl.out, Nat.mul_comm]⟩
  have Hrg : Away ((w.alloc (.cells T 33)).rangeAt w.heap.size 152 (R 0).toList) := ⟨fun j v hj => by
    have hj8 : j < 8 := by
      by_cases h8 : j < 8
      · exact h8
      · rw [List.getElem?_eq_none (by rw [Array.length_toList, HRs.out]; omega)] at hj; cases hj
    have hc := cell_of_row (w.alloc (.cells T 33)) w.heap.size (152 + j) T _ (0, 0) (heap_at _ _ _ rfl)
    rw [hc, h.s64 j hj8, ← hj, Array.getElem?_toList, ← HR.out, lk_get _ _ _ (show j < (run64 K6 S6 P 0).l.length from hj8)]
    rfl⟩
  obtain ⟨i0, hi, hz0, hz1, hz2⟩ := info_parts infoByte
  have HI := Away.mk (And.intro hi (And.intro hz0 (And.intro hz1 hz2)))
  have hql : q ≤ 1099511627000 := by omega
  obtain ⟨p, Hp⟩ := ex_eq (⟨P.toArray⟩ : ByteArray)
  rw [Hp.out] at Hpad hpu Hblk2
  clear hi hz0 hz1 hz2 h Hblk Hres HL HR hwd hpl HP hbk Hq
  go_enter Try.func28, Try.ntmps28
  go_wp2_with (first
    | (refine wpList_load_mid rfl 28 _ rfl w.heap.size 152 rfl (R 0).toList _ Hrg.out Try.underlying28 rfl (by rw [Array.length_toList, HRs.out]; exact z8_64) ?_)
    | (refine rblk.store_newg rfl 28 _ _ rfl (R 0) (w.heap.size + 1) (by simp) rfl rfl (by rw [HRs.out]; exact z8_64) (by rw [HRs.out]; rfl) (HRo.out 0) rfl ?_))
  obtain ⟨w0, Hw0⟩ := ex_eq ((w.alloc (.cells T 33)).alloc (.cells (R 0) 28))
  have z0 : w0.heap.size = w.heap.size + 2 := by rw [← Hw0.out]; simp
  have g0 : w0.heap[w.heap.size]? = some (.cells T 33 (0, 0)) := by rw [← Hw0.out, heap_past _ _ _ (by simp), heap_at _ _ _ rfl]
  have g1 : w0.heap[w.heap.size + 1]? = some (.cells (R 0) 28 (0, 0)) := by rw [← Hw0.out, heap_at _ _ _ (by simp)]
  have Hb0 : Away (Below w.heap.size w w0) := ⟨by rw [← Hw0.out]; exact ((Below.refl _ _).alloc (Nat.le_refl _) _).alloc (by simp) _⟩
  have G0 := Away.mk g0
  have G1 := Away.mk g1
  rw [Hw0.out]
  clear g0 g1 Hrg
  refine (Hpad.out _).mono ?_
  rintro e w1 ⟨rfl, hb1⟩
  have Hat : Away (At (w.heap.size + 1) (R 0) 28 w0 w1) := ⟨(At.refl G1.out).later hb1⟩
  clear hb1
  go_wp2_with fail
  go_loopw [7] (fun i wr => ∃ k : Nat, k ≤ q ∧ i = .int .i64 (128 * (k : Int)) ∧ Away (At (w.heap.size + 1) (R k) 28 w0 wr)) (fun i _ => 128 * q - (intOf i).toNat)
  case atStart => exact ⟨0, Nat.zero_le _, by go_num, Hat⟩
  case round =>
    obtain ⟨k, hk, rfl, Hx⟩ := hrel
    by_cases hlt : k < q
    · have hl1 : 128 * (k : Int) < ((128 * q : Nat) : Int) := by omega
      have hl2 : 128 * (k : Int) < 128 * (q : Int) := by omega
      have Row0 := Away.mk (Hx.out.other (k := w.heap.size) (by omega) (by omega) G0.out)
      have Row1 := Away.mk Hx.out.row
      have e1 : (128 * (k : Int)).toNat = 128 * k := by omega
      have e2 : IntKind.i64.wrap (128 * (k : Int) + 128) = ((128 * k + 128 : Nat) : Int) := by rw [IntKind.wrap_i64]; omega
      obtain ⟨y, hy⟩ : ∃ y, 128 * k + 128 = y := ⟨_, rfl⟩
      obtain ⟨y0, hy0⟩ : ∃ y0, 128 * k = y0 := ⟨_, rfl⟩
      have hex : p.extract y0 y = p.extract (128 * k) (128 * k + 128) := by rw [hy, hy0]
      have Hc := Away.mk (fun w2 : World => Hblk2.out w2 k hlt)
      rw [← hex] at Hc
      rw [hy] at e2
      rw [hy0] at e1
      have e3 : 128 * (k : Int) = (y0 : Int) := by omega
      have l1 : y0 ≤ y := by omega
      have l2 : y ≤ p.size := by rw [hpu]; omega
      have l3 : (y0 : Int) ≤ (y : Int) := by omega
      have l4 : (y : Int) ≤ (p.size : Int) := by omega
      have l5 : (y : Int) ≤ ((128 * q : Nat) : Int) := by omega
      have l6 : (y : Int) ≤ 128 * (q : Int) := by omega
      have l7 : (y0 : Int) < 128 * (q : Int) := by omega
      rw [e3] at e2 ⊢
      have hny : (y0 : Int) + 128 = 128 * ((k : Int) + 1) := by omega
      have Hny := Away.mk hny
      have Hyy : Away ((y : Int) = 128 * ((k : Int) + 1) ∧ (y : Int) = (y0 : Int) + 128) := ⟨by omega⟩
      have hyb : y0 ≤ 140737488355328 := by omega
      clear hex hy hl1 hl2 e1 hny
      go_wp2_with fail
      refine still_tail 7 (by kernel_rfl) (by kernel_rfl) ?_
      simp only [List.take_succ_cons, List.take_zero, List.drop_succ_cons, List.drop_zero]
      refine wpStill_load rfl 33 _ rfl w.heap.size rfl 33 T _ Row0.out Try.underlying33 rfl (by rw [HTs.out]; exact sizeT) ?_
      refine wpStill_load rfl 28 _ rfl (w.heap.size + 1) rfl 28 (R k) _ Row1.out Try.underlying28 rfl (by rw [HRs.out]; exact z8_64) ?_
      repeat still_step
      refine wpStill_nil ?_
      go_wp2_with fail
      refine (Hc.out _).mono ?_
      rintro e w2 ⟨rfl, hb2⟩
      have Hat2 : Away (At (w.heap.size + 1) (R k) 28 w0 w2) := ⟨(at_same (w2 := wr.drew) Hx.out rfl rfl rfl rfl).later hb2⟩
      clear hb2
      go_wp2_with (refine wpList_store_row rfl 28 _ _ rfl (w.heap.size + 1) (R (k + 1)) rfl rfl 28 _ Hat2.out.row (by rw [HRs.out]; exact z8_64) (by rw [HRs.out, HRs.out]) (HRo.out _) ?_)
      go_roundw
      case rel => exact ⟨k + 1, by omega, val_int (by have := Hyy.out; omega), ⟨at_row Hat2.out⟩⟩
      case measure => have := Hyy.out; simp [intOf]; omega
    · obtain rfl : k = q := by omega
      have Hbr : Away (Below w.heap.size w wr) := ⟨Hb0.out.trans (Hx.out.below (by omega) (by omega))⟩
      have Row1 := Away.mk Hx.out.row
      have zr := Hx.out.size
      have Row3 : Away (wr.heap[w.heap.size + 1]? = some (.cells (LK .u64 L) 28 (0, 0))) := ⟨by rw [← HRq.out]; exact Row1.out⟩
      go_wp2_with (refine wpList_load_row rfl 28 _ rfl (w.heap.size + 1) rfl 28 (LK .u64 L) (0, 0) _ Row3.out Try.underlying28 rfl (by rw [lk_size, HLl.out]; exact z8_64) ?_)
      go_loopw [8, 30] (fun v i wx => ∃ j : Nat, j ≤ 8 ∧ i = .int .i64 j ∧ v = .string ⟨(flat 8 (L.take j)).toArray⟩ ∧ Away (Below w.heap.size w wx)) (fun _ i _ => 8 - (intOf i).toNat)
      case atStart => exact ⟨0, by decide, rfl, rfl, Hbr⟩
      case round =>
        obtain ⟨j, hj, rfl, rfl, Hb⟩ := hrel
        by_cases hj8 : j < 8
        · have hag : ∀ w : World, (Instr.index 28 (.agg (LK .u64 L)) (.int .i64 (j : Int))).run Try.prog w = .ok (.int .u64 ((L.getD j 0 : Nat) : Int)) w := idx.index64 L j HLl.out hj8
          have bx := HLb.out j
          have hsn : flat 8 (L.take (j + 1)) = flat 8 (L.take j) ++ fixL (L.getD j 0) 8 := by rw [take_snocN L j (by rw [HLl.out]; exact hj8), flat_snoc]
          obtain ⟨x, hx⟩ : ∃ x, L.getD j 0 = x := ⟨_, rfl⟩
          rw [hx] at hag bx hsn
          have Hf := Away.mk (fun w2 : World => r01.fixed_any x 8 w2 bx)
          rw [show fixS x 8 = fixL x 8 from fixS_wd x 8 (by decide)] at Hf
          have hfl : (flat 8 (L.take j)).length = 8 * j := by rw [flat_length, List.length_take, HLl.out, Nat.min_eq_left (by omega)]
          have hgl : (fixL x 8).length = 8 := fixL_length _ _
          obtain ⟨F, hF⟩ : ∃ F, flat 8 (L.take j) = F := ⟨_, rfl⟩
          obtain ⟨G, hG⟩ : ∃ G, fixL x 8 = G := ⟨_, rfl⟩
          rw [hF] at hsn hfl ⊢
          rw [hG] at hsn Hf hgl
          have Hsn := Away.mk hsn
          clear hx hF hG hsn
          go_wp2_with fail
          refine (Hf.out _).mono ?_
          rintro e w4 ⟨rfl, hb4⟩
          have Hb4 : Away (Below w.heap.size w w4) := ⟨Hb.out.trans (hb4.mono Hb.out.size)⟩
          clear hb4
          go_wp2_with fail
          go_roundw
          case rel => exact ⟨j + 1, by omega, by go_num, by rw [Hsn.out]; exact congrArg Value.string (catL F G), Hb4⟩
          case measure => simp [intOf]; omega
        · obtain rfl : j = 8 := by omega
          rw [List.take_of_length_le (by rw [HLl.out]; decide), HO.out]
          go_wp2_with fail
          go_ret
          exact ⟨rfl, Hb.out⟩

end Go.Proofs.Ythfljfampfioaaa.rhash
