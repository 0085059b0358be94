/-
  What the closure in mac.Hmac and the reference's turned return: the key filled up with noughts, each byte mixed with another; memory that was there before stays as it was. Conditions: the key fits into the block.
-/
import Derived.Test.YthfljfampfioaaaMacM
import Derived.Test.YthfljfampfioaaaRPad
namespace Go.Proofs.Ythfljfampfioaaa.mix
open Go.RowKit
open Go.Proofs.Ythfljfampfioaaa.oct Go.Proofs.Ythfljfampfioaaa.mem Go.Proofs.Ythfljfampfioaaa.arr Go.Proofs.Ythfljfampfioaaa.pad Go.Proofs.Ythfljfampfioaaa.ends Go.Proofs.Ythfljfampfioaaa.r01m Go.Proofs.Ythfljfampfioaaa.rpad Go.Proofs.Ythfljfampfioaaa.macm

theorem cells_setU (l : List UInt8) (k : Nat) (v : UInt8) (x : Int) (h : x = (v.toNat : Int)) : (Lib.byteCells l).set k (.int .u8 x) = Lib.byteCells (l.set k v) := by
  subst h; simp [Lib.byteCells, List.map_set]

set_option maxRecDepth 100000 in
set_option maxHeartbeats 2000000 in
theorem clo_any (gs gk : Nat) (key : ByteArray) (n c : Nat) (w : World) (cs : w.cell? ⟨gs, 0, none⟩ = some (.int .i64 (n : Int))) (ck : w.cell? ⟨gk, 0, none⟩ = some (.string key)) (lk : gk < w.heap.size) (hk : key.size ≤ n) (h0 : 1 ≤ n) (hn : n ≤ 1000) (hc : c < 256) :
    Calls Try.prog 30 #[.int .u8 (c : Int), .pointer (some ⟨gs, 0, none⟩), .pointer (some ⟨gk, 0, none⟩)] w fun e w' => e = .returned (.string ⟨(mx key.data.toList n c).toArray⟩) ∧ Below w.heap.size w w' := by
  obtain ⟨i0, hi, hz0, hz1, hz2⟩ := info_parts infoByte
  have HI := Away.mk (And.intro hi (And.intro hz0 (And.intro hz1 hz2)))
  have hsl : key.data.toList.length = key.size := rfl
  have hsd : key.data.size = key.size := rfl
  have Hm0 : Away (mxk key.data.toList n c 0 = key.data.toList ++ List.replicate (n - key.size) 0) := ⟨by rw [mxk_zero, hsl]⟩
  have Hmn : Away (mxk key.data.toList n c n = mx key.data.toList n c) := ⟨mxk_all _ _ _ (by omega)⟩
  have Hml : Away (∀ k, (mxk key.data.toList n c k).length = n) := ⟨fun k => mxk_length _ _ _ _ (by omega)⟩
  have Hmg : Away (∀ k, k < n → ∃ a : UInt8, (mxk key.data.toList n c k)[k]? = some a ∧ mxk key.data.toList n c (k + 1) = (mxk key.data.toList n c k).set k (a ^^^ UInt8.ofNat c)) := ⟨fun k hk2 => mxk_get _ _ _ _ (by omega) hk2⟩
  obtain ⟨M, hM⟩ : ∃ M, mxk key.data.toList n c = M := ⟨_, rfl⟩
  obtain ⟨X, hX⟩ : ∃ X, mx key.data.toList n c = X := ⟨_, rfl⟩
  rw [hM] at Hm0 Hmn Hml Hmg
  rw [hX] at Hmn ⊢
  clear hi hz0 hz1 hz2 hM hX
  go_enter Try.func30, Try.ntmps30
  go_wp2_with (at_make; refine wpList_make_full _ rfl (.tmp 7) (.tmp 7) 52 rfl w.heap.size 5 i0 (.int .u8 0) 1 Try.underlying52 HI.out.1 HI.out.2.1 HI.out.2.2.1 .i64 .i64 n n n rfl rfl rfl rfl (by rw [HI.out.2.2.2]; omega) (by unfold maxLen; omega) (Nat.le_refl _) ?_; intro w1 hown hgrow; have ck1 : w1.cell? ⟨gk, 0, none⟩ = some (.string key) := ((((Below.refl w.heap.size w).grown hgrow (Nat.le_refl _) (fun k hk => by simp at hk)).cell (p := ⟨gk, 0, none⟩) lk).trans ck))
  have hB : Below w.heap.size w w1 := (Below.refl _ _).grown hgrow (Nat.le_refl _) (fun k hk => by simp at hk)
  obtain ⟨cur, hg, hcur, hb0, hcs, hmx⟩ := own_open hown
  have Hg := Away.mk hg
  have Hcl : Away (cur.toList = List.replicate n (Value.int .u8 0)) := ⟨by rw [hcur]; simp [Value.cells, toList_madeCells_one]⟩
  have hg2 : (w1.setRow w.heap.size (Lib.byteCells key.data.toList ++ cur.toList.drop key.size).toArray).heap[w.heap.size]? = some (.cells (Lib.byteCells key.data.toList ++ cur.toList.drop key.size).toArray 5 (0, 0)) := setRow_heap _ _ _ _ _ _ hg
  have hb2 : Below w.heap.size w (w1.setRow w.heap.size (Lib.byteCells key.data.toList ++ cur.toList.drop key.size).toArray) := hB.trans (below_setRow _ _ _ (Nat.le_refl _))
  have ho2 := own_close hg2 (Nat.le_refl _) (M := n) (by rw [List.size_toArray, List.length_append, Lib.byteCells_length, List.length_drop, Array.length_toList, Array.length_toList, hsd, hcs]; omega) hmx
  have hdz : Lib.byteCells key.data.toList ++ cur.toList.drop key.size = Lib.byteCells (M 0) := by
    rw [Hcl.out, List.drop_replicate, Hm0.out, Lib.byteCells_append]
    simp [Lib.byteCells]
  rw [List.toList_toArray, hdz] at ho2
  rw [hdz] at hb2
  have hcp := Lib.run_copy_row_string (P := Try.prog) w1 52 9 3 5 w.heap.size 0 n n key cur 5 Try.underlying52 (by rw [HI.out.1]; show some i0.size = some 1; rw [HI.out.2.2.1]) Hg.out (by omega) (by rw [hcs]; omega)
  rw [List.take_zero, List.nil_append, Nat.zero_add, hdz] at hcp
  obtain ⟨w2, Hw2⟩ := ex_eq (w1.setRow w.heap.size (Lib.byteCells (M 0)).toArray)
  rw [Hw2.out] at ho2 hb2 hcp
  have Ho2 := Away.mk ho2
  have Hb2 := Away.mk hb2
  clear hown hgrow hB hcur hb0 hmx hg hg2 hb2 ho2 hdz hsd
  go_wp2_with fail
  clear hcp
  go_loopw [14] (fun i wx => ∃ j : Nat, j ≤ n ∧ i = .int .i64 j ∧ Away (wx.ownsRow w.heap.size 5 1 (Value.slice (some ⟨w.heap.size, 0, none⟩) n n) n (Lib.byteCells (M j))) ∧ Away (Below w.heap.size w wx)) (fun i _ => n - (intOf i).toNat)
  case atStart => exact ⟨0, Nat.zero_le _, rfl, ⟨Ho2.out⟩, ⟨Hb2.out⟩⟩
  case round =>
    obtain ⟨j, hj, rfl, Ho, Hb⟩ := hrel
    by_cases hlt : j < n
    · obtain ⟨a, ha, hs⟩ := Hmg.out j hlt
      have hce := Ho.out.cellAt j (by omega)
      have hal : a.toNat < 256 := a.toNat_lt
      have hcl : (Lib.byteCells (M j))[j]? = some (.int .u8 (a.toNat : Int)) := by simp [Lib.byteCells, ha]
      rw [hcl] at hce
      have hfz := Ho.out.frozenAt j
      have hst := Ho.out.stored j (.int .u8 (bits .xor .u8 (a.toNat : Int) (c : Int)))
      rw [cells_setU _ _ _ _ (xor_byte a c hc), ← hs] at hst
      have Hst := Away.mk hst
      clear hst hcl hs ha
      go_wp2_with fail
      go_roundw
      case rel => exact ⟨j + 1, by omega, by go_num, ⟨Hst.out.1⟩, ⟨Hb.out.trans ((Below.refl w.heap.size _).setCell (p := ⟨w.heap.size, j, none⟩) (Nat.le_refl _) _)⟩⟩
      case measure => simp [intOf]; omega
    · obtain rfl : j = n := by omega
      have hO := Ho.out
      rw [Hmn.out] at hO
      have hcv := conv_row (by rw [← Hmn.out, Hml.out]) (by omega) hO
      clear hO
      go_wp2_with fail
      go_ret
      exact ⟨rfl, Hb.out⟩

set_option maxRecDepth 100000 in
set_option maxHeartbeats 2000000 in
theorem turned_any (key : ByteArray) (n c : Nat) (w : World) (hk : key.size ≤ n) (h0 : 1 ≤ n) (hn : n ≤ 1000) (hc : c < 256) :
    Calls Try.prog 31 #[.string key, .int .i64 (n : Int), .int .u8 (c : Int)] w fun e w' => e = .returned (.string ⟨(mx key.data.toList n c).toArray⟩) ∧ Below w.heap.size w w' := by
  obtain ⟨i0, hi, hz0, hz1, hz2⟩ := info_parts infoByte
  have HI := Away.mk (And.intro hi (And.intro hz0 (And.intro hz1 hz2)))
  have hsl : key.data.toList.length = key.size := rfl
  have hsd : key.data.size = key.size := rfl
  have Hm0 : Away (mxk key.data.toList n c 0 = key.data.toList ++ List.replicate (n - key.size) 0) := ⟨by rw [mxk_zero, hsl]⟩
  have Hmn : Away (mxk key.data.toList n c n = mx key.data.toList n c) := ⟨mxk_all _ _ _ (by omega)⟩
  have Hml : Away (∀ k, (mxk key.data.toList n c k).length = n) := ⟨fun k => mxk_length _ _ _ _ (by omega)⟩
  have Hmg : Away (∀ k, k < n → ∃ a : UInt8, (mxk key.data.toList n c k)[k]? = some a ∧ mxk key.data.toList n c (k + 1) = (mxk key.data.toList n c k).set k (a ^^^ UInt8.ofNat c)) := ⟨fun k hk2 => mxk_get _ _ _ _ (by omega) hk2⟩
  obtain ⟨M, hM⟩ : ∃ M, mxk key.data.toList n c = M := ⟨_, rfl⟩
  obtain ⟨X, hX⟩ : ∃ X, mx key.data.toList n c = X := ⟨_, rfl⟩
  rw [hM] at Hm0 Hmn Hml Hmg
  rw [hX] at Hmn ⊢
  clear hi hz0 hz1 hz2 hM hX
  go_enter Try.func31, Try.ntmps31
  go_wp2_with (at_make; refine wpList_make_full _ rfl (.tmp 9) (.tmp 9) 52 rfl w.heap.size 5 i0 (.int .u8 0) 1 Try.underlying52 HI.out.1 HI.out.2.1 HI.out.2.2.1 .i64 .i64 n n n rfl rfl rfl rfl (by rw [HI.out.2.2.2]; omega) (by unfold maxLen; omega) (Nat.le_refl _) ?_; intro w1 hown hgrow)
  have hB : Below w.heap.size w w1 := (Below.refl _ _).grown hgrow (Nat.le_refl _) (fun k hk => by simp at hk)
  obtain ⟨cur, hg, hcur, hb0, hcs, hmx⟩ := own_open hown
  have Hg := Away.mk hg
  have Hcl : Away (cur.toList = List.replicate n (Value.int .u8 0)) := ⟨by rw [hcur]; simp [Value.cells, toList_madeCells_one]⟩
  have hg2 : (w1.setRow w.heap.size (Lib.byteCells key.data.toList ++ cur.toList.drop key.size).toArray).heap[w.heap.size]? = some (.cells (Lib.byteCells key.data.toList ++ cur.toList.drop key.size).toArray 5 (0, 0)) := setRow_heap _ _ _ _ _ _ hg
  have hb2 : Below w.heap.size w (w1.setRow w.heap.size (Lib.byteCells key.data.toList ++ cur.toList.drop key.size).toArray) := hB.trans (below_setRow _ _ _ (Nat.le_refl _))
  have ho2 := own_close hg2 (Nat.le_refl _) (M := n) (by rw [List.size_toArray, List.length_append, Lib.byteCells_length, List.length_drop, Array.length_toList, Array.length_toList, hsd, hcs]; omega) hmx
  have hdz : Lib.byteCells key.data.toList ++ cur.toList.drop key.size = Lib.byteCells (M 0) := by
    rw [Hcl.out, List.drop_replicate, Hm0.out, Lib.byteCells_append]
    simp [Lib.byteCells]
  rw [List.toList_toArray, hdz] at ho2
  rw [hdz] at hb2
  have hcp := Lib.run_copy_row_string (P := Try.prog) w1 52 9 3 5 w.heap.size 0 n n key cur 5 Try.underlying52 (by rw [HI.out.1]; show some i0.size = some 1; rw [HI.out.2.2.1]) Hg.out (by omega) (by rw [hcs]; omega)
  rw [List.take_zero, List.nil_append, Nat.zero_add, hdz] at hcp
  obtain ⟨w2, Hw2⟩ := ex_eq (w1.setRow w.heap.size (Lib.byteCells (M 0)).toArray)
  rw [Hw2.out] at ho2 hb2 hcp
  have Ho2 := Away.mk ho2
  have Hb2 := Away.mk hb2
  clear hown hgrow hB hcur hb0 hmx hg hg2 hb2 ho2 hdz hsd
  go_wp2_with fail
  clear hcp
  go_loopw [16] (fun i wx => ∃ j : Nat, j ≤ n ∧ i = .int .i64 j ∧ Away (wx.ownsRow w.heap.size 5 1 (Value.slice (some ⟨w.heap.size, 0, none⟩) n n) n (Lib.byteCells (M j))) ∧ Away (Below w.heap.size w wx)) (fun i _ => n - (intOf i).toNat)
  case atStart => exact ⟨0, Nat.zero_le _, rfl, ⟨Ho2.out⟩, ⟨Hb2.out⟩⟩
  case round =>
    obtain ⟨j, hj, rfl, Ho, Hb⟩ := hrel
    by_cases hlt : j < n
    · obtain ⟨a, ha, hs⟩ := Hmg.out j hlt
      have hce := Ho.out.cellAt j (by omega)
      have hal : a.toNat < 256 := a.toNat_lt
      have hcl : (Lib.byteCells (M j))[j]? = some (.int .u8 (a.toNat : Int)) := by simp [Lib.byteCells, ha]
      rw [hcl] at hce
      have hfz := Ho.out.frozenAt j
      have hst := Ho.out.stored j (.int .u8 (bits .xor .u8 (a.toNat : Int) (c : Int)))
      rw [cells_setU _ _ _ _ (xor_byte a c hc), ← hs] at hst
      have Hst := Away.mk hst
      clear hst hcl hs ha
      go_wp2_with fail
      go_roundw
      case rel => exact ⟨j + 1, by omega, by go_num, ⟨Hst.out.1⟩, ⟨Hb.out.trans ((Below.refl w.heap.size _).setCell (p := ⟨w.heap.size, j, none⟩) (Nat.le_refl _) _)⟩⟩
      case measure => simp [intOf]; omega
    · obtain rfl : j = n := by omega
      have hO := Ho.out
      rw [Hmn.out] at hO
      have hcv := conv_row (by rw [← Hmn.out, Hml.out]) (by omega) hO
      clear hO
      go_wp2_with fail
      go_ret
      exact ⟨rfl, Hb.out⟩
end Go.Proofs.Ythfljfampfioaaa.mix
