/-
  What sha's size, start and through do: through changes a hasher's words by the whole blocks of a string, and returns what is left of it; all other memory that was there stays as it was. Conditions: the words have their bits, and the two pointers point to different blocks of memory.
  What sha's Blocks, padded and written return, and what is in the bytes. Conditions: as each theorem says.
  What sha's end returns: the bytes of the words of a hasher after the padding; memory that was there before stays as it was. Conditions: the words have their bits, the total and the rest are within the document's bounds.
-/
import Derived.Test.YthfljfampfioaaaBlk
import Derived.Test.YthfljfampfioaaaOc
import Derived.Laws.AppendOwn
namespace Go.Proofs.Ythfljfampfioaaa.thru
open Go.RowKit
open Go.Proofs.Ythfljfampfioaaa.oct Go.Proofs.Ythfljfampfioaaa.mem Go.Proofs.Ythfljfampfioaaa.arr Go.Proofs.Ythfljfampfioaaa.sham Go.Proofs.Ythfljfampfioaaa.block

/-- a hasher's cells -/
def HC (wd : Bool) (sm lg : V8) (r : ByteArray) (n : Int) : Array Value :=
  #[.bool wd, .int .u32 sm.a, .int .u32 sm.b, .int .u32 sm.c, .int .u32 sm.d, .int .u32 sm.e, .int .u32 sm.f, .int .u32 sm.g, .int .u32 sm.h,
    .int .u64 lg.a, .int .u64 lg.b, .int .u64 lg.c, .int .u64 lg.d, .int .u64 lg.e, .int .u64 lg.f, .int .u64 lg.g, .int .u64 lg.h, .string r, .int .i64 n]
theorem sp32 (wd : Bool) (sm lg v : V8) (r : ByteArray) (n : Int) : sp (HC wd sm lg r n) 1 (LK .u32 v.l).toList = HC wd v lg r n := by simp [sp, LK, V8.l, HC]
theorem sp64 (wd : Bool) (sm lg v : V8) (r : ByteArray) (n : Int) : sp (HC wd sm lg r n) 9 (LK .u64 v.l).toList = HC wd sm v r n := by simp [sp, LK, V8.l, HC]
theorem hc32 (wd : Bool) (sm lg : V8) (r : ByteArray) (n : Int) (i : Nat) (h : i < 8) : (HC wd sm lg r n)[1 + i]? = some (.int .u32 ((sm.l.getD i 0 : Nat) : Int)) := by
  match i, h with
  | 0, _ => rfl
  | 1, _ => rfl
  | 2, _ => rfl
  | 3, _ => rfl
  | 4, _ => rfl
  | 5, _ => rfl
  | 6, _ => rfl
  | 7, _ => rfl
theorem hc64 (wd : Bool) (sm lg : V8) (r : ByteArray) (n : Int) (i : Nat) (h : i < 8) : (HC wd sm lg r n)[9 + i]? = some (.int .u64 ((lg.l.getD i 0 : Nat) : Int)) := by
  match i, h with
  | 0, _ => rfl
  | 1, _ => rfl
  | 2, _ => rfl
  | 3, _ => rfl
  | 4, _ => rfl
  | 5, _ => rfl
  | 6, _ => rfl
  | 7, _ => rfl
set_option maxRecDepth 100000 in
set_option maxHeartbeats 400000 in
theorem size_any (b : Bool) (w : World) : Calls Try.prog 54 #[.bool b] w fun e w' => e = .returned (.int .i64 (if b then 128 else 64)) ∧ w' = w := by
  cases b
  · go_enter Try.func54, Try.ntmps54
    go_wp2_with fail
    go_ret
    exact ⟨rfl, rfl⟩
  · go_enter Try.func54, Try.ntmps54
    go_wp2_with fail
    go_ret
    exact ⟨rfl, rfl⟩

/-! ### 32 bits -/
/-- eight words behind k blocks -/
def run32 (K : List Nat) (v : V8) (l : List UInt8) : Nat → V8
  | 0 => v
  | k + 1 => bl32 K (run32 K v l k) ((l.drop (64 * k)).take 64)
theorem run_lt32 (K : List Nat) (v : V8) (l : List UInt8) (h : v.lt 4294967296) (k : Nat) : (run32 K v l k).lt 4294967296 := by
  cases k with
  | zero => exact h
  | succ k => exact ad_lt32 _ _
theorem run_app32 (K : List Nat) (v : V8) (a b : List UInt8) (k : Nat) (h : a.length = 64 * k) (m : Nat) : run32 K v (a ++ b) (k + m) = run32 K (run32 K v (a ++ b) k) b m := by
  induction m with
  | zero => rfl
  | succ m ih =>
    rw [← Nat.add_assoc, run32, ih, run32]
    congr 2
    rw [List.drop_append, List.drop_eq_nil_of_le (by rw [h]; omega), List.nil_append, h]
    congr 1
    omega
theorem run_pre32 (K : List Nat) (v : V8) (a b : List UInt8) (k : Nat) (h : 64 * k ≤ a.length) : run32 K v (a ++ b) k = run32 K v a k := by
  induction k with
  | zero => rfl
  | succ k ih =>
    rw [run32, run32, ih (by omega)]
    congr 1
    rw [List.drop_append_of_le_length (by omega), List.take_append_of_le_length (by rw [List.length_drop]; omega)]

set_option maxRecDepth 100000 in
set_option maxHeartbeats 4000000 in
theorem through32 (gt gh : Nat) (K : List Nat) (T : Array Value) (sm lg : V8) (r : ByteArray) (n : Int) (s : ByteArray) (w : World) (hv : sm.lt 4294967296) (hK : ∀ i, K.getD i 0 < 4294967296)
    (ht : w.heap[gt]? = some (.cells T 33 (0, 0))) (hT : ∀ i, i < 64 → T[0 + i]? = some (.int .u32 ((K.getD i 0 : Nat) : Int)))
    (hh : w.heap[gh]? = some (.cells (HC false sm lg r n) 56 (0, 0))) (hne : gt ≠ gh) (hs : s.size ≤ 1099511627776) :
    Calls Try.prog 55 #[.pointer (some ⟨gt, 0, none⟩), .pointer (some ⟨gh, 0, none⟩), .string s] w fun e w' => (∃ b : ByteArray, e = .returned (.string b) ∧ b.data.toList = s.data.toList.drop (64 * (s.size / 64))) ∧ At gh (HC false (run32 K sm s.data.toList (s.size / 64)) lg r n) 56 w w' := by
  have hlt := lt_of_row ht
  have hlh := lt_of_row hh
  have HT := Away.mk hT
  have HK := Away.mk hK
  have Ht := Away.mk ht
  have Hh := Away.mk hh
  have Hv := Away.mk hv
  obtain ⟨l, Hl⟩ := ex_eq s.data.toList
  have Hll : Away (l.length = s.size) := ⟨by rw [← Hl.out]; rfl⟩
  rw [Hl.out]
  have c0 : w.cell? ⟨gh, 0, none⟩ = some (.bool false) := (cell_of_row w gh 0 _ _ (0, 0) hh).trans rfl
  obtain ⟨R, HR⟩ : ∃ R : Nat → Array Value, Away (∀ k, R k = (HC false (run32 K sm l k) lg r n)) := ⟨fun k => (HC false (run32 K sm l k) lg r n), ⟨fun _ => rfl⟩⟩
  rw [← HR.out (s.size / 64)]
  obtain ⟨nb, Hnb⟩ := ex_eq (s.size / 64)
  rw [Hnb.out]
  clear hT hK ht hh hv
  go_enter Try.func55, Try.ntmps55
  go_wp2_with fail
  refine (size_any false _).mono ?_
  rintro e w1 ⟨rfl, rfl⟩
  simp only [if_false, Bool.false_eq_true]
  go_wp2_with fail
  clear c0
  go_loopw [2] (fun x wr => ∃ (b : ByteArray) (k : Nat), x = .string b ∧ 64 * k ≤ s.size ∧ Away (b.data.toList = l.drop (64 * k)) ∧ b.size = s.size - 64 * k ∧ Away (At gh (R k) 56 w1 wr)) (fun x _ => match x with | .string b => b.size | _ => 0)
  case atStart => exact ⟨s, 0, rfl, by omega, ⟨Hl.out⟩, rfl, ⟨by rw [HR.out]; exact At.refl Hh.out⟩⟩
  case round =>
    obtain ⟨b, k, rfl, hk, Hb, hbs, Ha⟩ := hrel
    by_cases hc : 64 ≤ b.size
    · have c0 : wr.cell? ⟨gh, 0, none⟩ = some (.bool false) := by rw [Ha.out.cell, HR.out]; rfl
      have Hrow : Away (wr.heap[gh]? = some (.cells (HC false (run32 K sm l k) lg r n) 56 (0, 0))) := ⟨by rw [← HR.out]; exact Ha.out.row⟩
      have Htt := Away.mk (Ha.out.other hlt hne Ht.out)
      have z1 := Ha.out.size
      have Hcall : Away (∀ w2 : World, w2.heap = wr.heap → Calls Try.prog 71 #[.pointer (some ⟨gt, 0, none⟩), .pointer (some ⟨gh, 1, none⟩), .string (b.extract 0 64)] w2 fun e w' => e = .returned (.tuple #[]) ∧ Below w2.heap.size (w2.setCells gh 1 (LK .u32 (bl32 K (run32 K sm l k) (b.extract 0 64).data.toList).l).toList) w') :=
        ⟨fun w2 hw2 => block32 gt gh K (run32 K sm l k) (b.extract 0 64) w2 (by rw [ByteArray.size_extract]; omega) (run_lt32 K sm l Hv.out k) HK.out
          (fun i hi => (cell_of_row w2 gt (0 + i) _ _ (0, 0) (by rw [hw2]; exact Htt.out)).trans (HT.out i hi))
          (fun i hi => ⟨(cell_of_row w2 gh (1 + i) _ _ (0, 0) (by rw [hw2]; exact Hrow.out)).trans (hc32 _ _ _ _ _ i hi), frozen_of_row w2 gh (1 + i) _ _ (by rw [hw2]; exact Hrow.out)⟩) (by rw [hw2]; omega) (by rw [hw2]; omega)⟩
      have Hbl : Away ((b.extract 0 64).data.toList = (l.drop (64 * k)).take 64) := ⟨by rw [← Hb.out]; simp⟩
      have Hbd : Away ((b.extract 64 b.size).data.toList = l.drop (64 * (k + 1))) := ⟨by
        rw [Nat.mul_add, ← List.drop_drop, ← Hb.out, Nat.mul_one]
        simp only [ByteArray.data_extract, Array.toList_extract, List.take_of_length_le, List.length_drop, Array.length_toList, ByteArray.size_data, Nat.le_refl]⟩
      have hbz : (b.extract 64 b.size).size = b.size - 64 := by rw [ByteArray.size_extract]; omega
      obtain ⟨b2, Hb2⟩ := ex_eq (b.extract 0 64)
      obtain ⟨b3, Hb3⟩ := ex_eq (b.extract 64 b.size)
      have e2 := Hb2.out
      have e3 := Hb3.out
      rw [e2] at Hcall Hbl
      rw [e3] at Hbd hbz
      go_wp2_with fail
      refine still_tail 9 (by kernel_rfl) (by kernel_rfl) ?_
      simp only [List.take_succ_cons, List.take_zero, List.drop_succ_cons, List.drop_zero]
      repeat still_step
      refine wpStill_nil ?_
      go_wp2_with fail
      refine (Hcall.out wr.drew rfl).mono ?_
      rintro e w2 ⟨rfl, hb2⟩
      have hA := At.set (w := wr.drew) (w' := w2) Hrow.out (lt_of_row Hrow.out) hb2
      rw [Hbl.out, sp32] at hA
      have HA : Away (At gh (R (k + 1)) 56 w1 w2) := ⟨Ha.out.trans (b := wr) (by rw [HR.out]; exact ⟨hA.os, hA.tape, hA.output, hA.size, hA.row, hA.block⟩)⟩
      clear hb2 hA c0 Hcall Hrow
      go_wp2_with fail
      go_roundw
      case rel => exact ⟨b3, k + 1, by rw [← hbs, Hb3.out], by omega, Hbd, by omega, HA⟩
      case measure => simp only [ByteArray.size_extract]; omega
    · have hk2 : nb = k := by rw [← Hnb.out]; omega
      subst hk2
      go_wp2_with fail
      go_ret
      exact ⟨⟨b, rfl, Hb.out⟩, Ha.out⟩

/-! ### 64 bits -/
/-- eight words behind k blocks -/
def run64 (K : List Nat) (v : V8) (l : List UInt8) : Nat → V8
  | 0 => v
  | k + 1 => bl64 K (run64 K v l k) ((l.drop (128 * k)).take 128)
theorem run_lt64 (K : List Nat) (v : V8) (l : List UInt8) (h : v.lt 18446744073709551616) (k : Nat) : (run64 K v l k).lt 18446744073709551616 := by
  cases k with
  | zero => exact h
  | succ k => exact ad_lt64 _ _
theorem run_app64 (K : List Nat) (v : V8) (a b : List UInt8) (k : Nat) (h : a.length = 128 * k) (m : Nat) : run64 K v (a ++ b) (k + m) = run64 K (run64 K v (a ++ b) k) b m := by
  induction m with
  | zero => rfl
  | succ m ih =>
    rw [← Nat.add_assoc, run64, ih, run64]
    congr 2
    rw [List.drop_append, List.drop_eq_nil_of_le (by rw [h]; omega), List.nil_append, h]
    congr 1
    omega
theorem run_pre64 (K : List Nat) (v : V8) (a b : List UInt8) (k : Nat) (h : 128 * k ≤ a.length) : run64 K v (a ++ b) k = run64 K v a k := by
  induction k with
  | zero => rfl
  | succ k ih =>
    rw [run64, run64, ih (by omega)]
    congr 1
    rw [List.drop_append_of_le_length (by omega), List.take_append_of_le_length (by rw [List.length_drop]; omega)]

set_option maxRecDepth 100000 in
set_option maxHeartbeats 4000000 in
theorem through64 (gt gh : Nat) (K : List Nat) (T : Array Value) (sm lg : V8) (r : ByteArray) (n : Int) (s : ByteArray) (w : World) (hv : lg.lt 18446744073709551616) (hK : ∀ i, K.getD i 0 < 18446744073709551616)
    (ht : w.heap[gt]? = some (.cells T 33 (0, 0))) (hT : ∀ i, i < 80 → T[72 + i]? = some (.int .u64 ((K.getD i 0 : Nat) : Int)))
    (hh : w.heap[gh]? = some (.cells (HC true sm lg r n) 56 (0, 0))) (hne : gt ≠ gh) (hs : s.size ≤ 1099511627776) :
    Calls Try.prog 55 #[.pointer (some ⟨gt, 0, none⟩), .pointer (some ⟨gh, 0, none⟩), .string s] w fun e w' => (∃ b : ByteArray, e = .returned (.string b) ∧ b.data.toList = s.data.toList.drop (128 * (s.size / 128))) ∧ At gh (HC true sm (run64 K lg s.data.toList (s.size / 128)) r n) 56 w w' := by
  have hlt := lt_of_row ht
  have hlh := lt_of_row hh
  have HT := Away.mk hT
  have HK := Away.mk hK
  have Ht := Away.mk ht
  have Hh := Away.mk hh
  have Hv := Away.mk hv
  obtain ⟨l, Hl⟩ := ex_eq s.data.toList
  have Hll : Away (l.length = s.size) := ⟨by rw [← Hl.out]; rfl⟩
  rw [Hl.out]
  have c0 : w.cell? ⟨gh, 0, none⟩ = some (.bool true) := (cell_of_row w gh 0 _ _ (0, 0) hh).trans rfl
  obtain ⟨R, HR⟩ : ∃ R : Nat → Array Value, Away (∀ k, R k = (HC true sm (run64 K lg l k) r n)) := ⟨fun k => (HC true sm (run64 K lg l k) r n), ⟨fun _ => rfl⟩⟩
  rw [← HR.out (s.size / 128)]
  obtain ⟨nb, Hnb⟩ := ex_eq (s.size / 128)
  rw [Hnb.out]
  clear hT hK ht hh hv
  go_enter Try.func55, Try.ntmps55
  go_wp2_with fail
  refine (size_any true _).mono ?_
  rintro e w1 ⟨rfl, rfl⟩
  simp only [if_true]
  go_wp2_with fail
  clear c0
  go_loopw [2] (fun x wr => ∃ (b : ByteArray) (k : Nat), x = .string b ∧ 128 * k ≤ s.size ∧ Away (b.data.toList = l.drop (128 * k)) ∧ b.size = s.size - 128 * k ∧ Away (At gh (R k) 56 w1 wr)) (fun x _ => match x with | .string b => b.size | _ => 0)
  case atStart => exact ⟨s, 0, rfl, by omega, ⟨Hl.out⟩, rfl, ⟨by rw [HR.out]; exact At.refl Hh.out⟩⟩
  case round =>
    obtain ⟨b, k, rfl, hk, Hb, hbs, Ha⟩ := hrel
    by_cases hc : 128 ≤ b.size
    · have c0 : wr.cell? ⟨gh, 0, none⟩ = some (.bool true) := by rw [Ha.out.cell, HR.out]; rfl
      have Hrow : Away (wr.heap[gh]? = some (.cells (HC true sm (run64 K lg l k) r n) 56 (0, 0))) := ⟨by rw [← HR.out]; exact Ha.out.row⟩
      have Htt := Away.mk (Ha.out.other hlt hne Ht.out)
      have z1 := Ha.out.size
      have Hcall : Away (∀ w2 : World, w2.heap = wr.heap → Calls Try.prog 70 #[.pointer (some ⟨gt, 72, none⟩), .pointer (some ⟨gh, 9, none⟩), .string (b.extract 0 128)] w2 fun e w' => e = .returned (.tuple #[]) ∧ Below w2.heap.size (w2.setCells gh 9 (LK .u64 (bl64 K (run64 K lg l k) (b.extract 0 128).data.toList).l).toList) w') :=
        ⟨fun w2 hw2 => block64 gt gh K (run64 K lg l k) (b.extract 0 128) w2 (by rw [ByteArray.size_extract]; omega) (run_lt64 K lg l Hv.out k) HK.out
          (fun i hi => (cell_of_row w2 gt (72 + i) _ _ (0, 0) (by rw [hw2]; exact Htt.out)).trans (HT.out i hi))
          (fun i hi => ⟨(cell_of_row w2 gh (9 + i) _ _ (0, 0) (by rw [hw2]; exact Hrow.out)).trans (hc64 _ _ _ _ _ i hi), frozen_of_row w2 gh (9 + i) _ _ (by rw [hw2]; exact Hrow.out)⟩) (by rw [hw2]; omega) (by rw [hw2]; omega)⟩
      have Hbl : Away ((b.extract 0 128).data.toList = (l.drop (128 * k)).take 128) := ⟨by rw [← Hb.out]; simp⟩
      have Hbd : Away ((b.extract 128 b.size).data.toList = l.drop (128 * (k + 1))) := ⟨by
        rw [Nat.mul_add, ← List.drop_drop, ← Hb.out, Nat.mul_one]
        simp only [ByteArray.data_extract, Array.toList_extract, List.take_of_length_le, List.length_drop, Array.length_toList, ByteArray.size_data, Nat.le_refl]⟩
      have hbz : (b.extract 128 b.size).size = b.size - 128 := by rw [ByteArray.size_extract]; omega
      obtain ⟨b2, Hb2⟩ := ex_eq (b.extract 0 128)
      obtain ⟨b3, Hb3⟩ := ex_eq (b.extract 128 b.size)
      have e2 := Hb2.out
      have e3 := Hb3.out
      rw [e2] at Hcall Hbl
      rw [e3] at Hbd hbz
      go_wp2_with fail
      refine still_tail 9 (by kernel_rfl) (by kernel_rfl) ?_
      simp only [List.take_succ_cons, List.take_zero, List.drop_succ_cons, List.drop_zero]
      repeat still_step
      refine wpStill_nil ?_
      go_wp2_with fail
      refine (Hcall.out wr.drew rfl).mono ?_
      rintro e w2 ⟨rfl, hb2⟩
      have hA := At.set (w := wr.drew) (w' := w2) Hrow.out (lt_of_row Hrow.out) hb2
      rw [Hbl.out, sp64] at hA
      have HA : Away (At gh (R (k + 1)) 56 w1 w2) := ⟨Ha.out.trans (b := wr) (by rw [HR.out]; exact ⟨hA.os, hA.tape, hA.output, hA.size, hA.row, hA.block⟩)⟩
      clear hb2 hA c0 Hcall Hrow
      go_wp2_with fail
      go_roundw
      case rel => exact ⟨b3, k + 1, by rw [← hbs, Hb3.out], by omega, Hbd, by omega, HA⟩
      case measure => simp only [ByteArray.size_extract]; omega
    · have hk2 : nb = k := by rw [← Hnb.out]; omega
      subst hk2
      go_wp2_with fail
      go_ret
      exact ⟨⟨b, rfl, Hb.out⟩, Ha.out⟩
end Go.Proofs.Ythfljfampfioaaa.thru

namespace Go.Proofs.Ythfljfampfioaaa.pad
open Go.RowKit
open Go.Proofs.Ythfljfampfioaaa.oct Go.Proofs.Ythfljfampfioaaa.arr

/-- how many blocks a padded string fills -/
def bk (n b : Nat) : Nat := (n + b / 8) / b + 1
/-- what follows the rest of a string of n bytes -/
def tail (n b : Nat) : List UInt8 := 128 :: fixL (8 * n) (bk n b * b - n - 1)
theorem tail_length (n b : Nat) (h : n + 1 ≤ bk n b * b) : (tail n b).length = bk n b * b - n := by
  rw [tail, List.length_cons, fixL_length]; omega

set_option maxRecDepth 100000 in
set_option maxHeartbeats 1000000 in
theorem blocks64 (n : Nat) (w : World) (hn : n ≤ 1125899906842624) :
    Calls Try.prog 80 #[.int .i64 (n : Int), .int .i64 64] w fun e w' => e = .returned (.int .i64 ((bk n 64 : Nat) : Int)) ∧ w' = w := by
  go_enter Try.func80, Try.ntmps80
  go_wp2_with fail
  go_ret
  refine ⟨ret_int ?_, rfl⟩
  unfold bk
  omega
set_option maxRecDepth 100000 in
set_option maxHeartbeats 1000000 in
theorem blocks128 (n : Nat) (w : World) (hn : n ≤ 1125899906842624) :
    Calls Try.prog 80 #[.int .i64 (n : Int), .int .i64 128] w fun e w' => e = .returned (.int .i64 ((bk n 128 : Nat) : Int)) ∧ w' = w := by
  go_enter Try.func80, Try.ntmps80
  go_wp2_with fail
  go_ret
  refine ⟨ret_int ?_, rfl⟩
  unfold bk
  omega
theorem cat3 (r : ByteArray) (x : UInt8) (fx : List UInt8) : r ++ (⟨#[x]⟩ : ByteArray) ++ ⟨fx.toArray⟩ = ⟨(r.data.toList ++ x :: fx).toArray⟩ := by
  apply ByteArray.ext
  apply Array.toList_inj.1
  simp
theorem bk_le64 (n : Nat) : n + 9 ≤ bk n 64 * 64 ∧ bk n 64 * 64 ≤ n + 72 := by unfold bk; omega
theorem bk_le128 (n : Nat) : n + 17 ≤ bk n 128 * 128 ∧ bk n 128 * 128 ≤ n + 144 := by unfold bk; omega

set_option maxRecDepth 100000 in
set_option maxHeartbeats 1000000 in
theorem padded64 (r : ByteArray) (n : Nat) (w : World) (hn : n ≤ 1125899906842624) (hr : r.size ≤ 1099511627776) :
    Calls Try.prog 75 #[.string r, .int .i64 (n : Int), .int .i64 64] w fun e w' => e = .returned (.string ⟨(r.data.toList ++ tail n 64).toArray⟩) ∧ Below w.heap.size w w' := by
  have hb := bk_le64 n
  have Hfix := Away.mk (fun w2 : World => fixed.fixed_any (8 * n) ((bk n 64 * 64 - n - 1 : Nat) : Int) w2 (by omega))
  have Hfs : Away (fixS (8 * n) ((bk n 64 * 64 - n - 1 : Nat) : Int) = fixL (8 * n) (bk n 64 * 64 - n - 1)) := ⟨fixS_wd _ _ (by omega)⟩
  have Htl : Away (tail n 64 = 128 :: fixL (8 * n) (bk n 64 * 64 - n - 1)) := ⟨rfl⟩
  have Hfl : Away ((fixL (8 * n) (bk n 64 * 64 - n - 1)).length ≤ 200) := ⟨by rw [fixL_length]; omega⟩
  obtain ⟨tl, HTL⟩ := ex_eq (tail n 64)
  rw [HTL.out] at Htl ⊢
  rw [Hfs.out] at Hfix
  obtain ⟨m, Hm⟩ := ex_eq (bk n 64)
  rw [Hm.out] at hb Hfix Htl Hfl
  obtain ⟨fx, Hfx⟩ := ex_eq (fixL (8 * n) (m * 64 - n - 1))
  rw [Hfx.out] at Hfix Htl Hfl
  clear Hfs
  have Hblk := Away.mk (fun w2 : World => blocks64 n w2 hn)
  rw [Hm.out] at Hblk
  have hfl := Hfl.out
  have hm : m ≤ 1125899906842800 := by omega
  have e1 : ((8 * n : Nat) : Int) = (n : Int) * 8 := by omega
  have e2 : ((m * 64 - n - 1 : Nat) : Int) = (m : Int) * 64 - (n : Int) - 1 := by omega
  rw [e1, e2] at Hfix
  clear e1 e2
  go_enter Try.func75, Try.ntmps75
  go_wp2_with fail
  refine (Hblk.out _).mono ?_
  rintro e w1 ⟨rfl, rfl⟩
  go_wp2_with fail
  refine (Hfix.out _).mono ?_
  rintro e w2 ⟨rfl, hbe⟩
  go_wp2_with fail
  go_ret
  refine ⟨?_, hbe⟩
  rw [Htl.out]
  exact congrArg (fun b => Ending.returned (.string b)) (cat3 r 128 fx)

set_option maxRecDepth 100000 in
set_option maxHeartbeats 1000000 in
theorem padded128 (r : ByteArray) (n : Nat) (w : World) (hn : n ≤ 1125899906842624) (hr : r.size ≤ 1099511627776) :
    Calls Try.prog 75 #[.string r, .int .i64 (n : Int), .int .i64 128] w fun e w' => e = .returned (.string ⟨(r.data.toList ++ tail n 128).toArray⟩) ∧ Below w.heap.size w w' := by
  have hb := bk_le128 n
  have Hfix := Away.mk (fun w2 : World => fixed.fixed_any (8 * n) ((bk n 128 * 128 - n - 1 : Nat) : Int) w2 (by omega))
  have Hfs : Away (fixS (8 * n) ((bk n 128 * 128 - n - 1 : Nat) : Int) = fixL (8 * n) (bk n 128 * 128 - n - 1)) := ⟨fixS_wd _ _ (by omega)⟩
  have Htl : Away (tail n 128 = 128 :: fixL (8 * n) (bk n 128 * 128 - n - 1)) := ⟨rfl⟩
  have Hfl : Away ((fixL (8 * n) (bk n 128 * 128 - n - 1)).length ≤ 200) := ⟨by rw [fixL_length]; omega⟩
  obtain ⟨tl, HTL⟩ := ex_eq (tail n 128)
  rw [HTL.out] at Htl ⊢
  rw [Hfs.out] at Hfix
  obtain ⟨m, Hm⟩ := ex_eq (bk n 128)
  rw [Hm.out] at hb Hfix Htl Hfl
  obtain ⟨fx, Hfx⟩ := ex_eq (fixL (8 * n) (m * 128 - n - 1))
  rw [Hfx.out] at Hfix Htl Hfl
  clear Hfs
  have Hblk := Away.mk (fun w2 : World => blocks128 n w2 hn)
  rw [Hm.out] at Hblk
  have hfl := Hfl.out
  have hm : m ≤ 1125899906842800 := by omega
  have e1 : ((8 * n : Nat) : Int) = (n : Int) * 8 := by omega
  have e2 : ((m * 128 - n - 1 : Nat) : Int) = (m : Int) * 128 - (n : Int) - 1 := by omega
  rw [e1, e2] at Hfix
  clear e1 e2
  go_enter Try.func75, Try.ntmps75
  go_wp2_with fail
  refine (Hblk.out _).mono ?_
  rintro e w1 ⟨rfl, rfl⟩
  go_wp2_with fail
  refine (Hfix.out _).mono ?_
  rintro e w2 ⟨rfl, hbe⟩
  go_wp2_with fail
  go_ret
  refine ⟨?_, hbe⟩
  rw [Htl.out]
  exact congrArg (fun b => Ending.returned (.string b)) (cat3 r 128 fx)

theorem infoByte : (Try.prog.info? 5).map (fun i => (i.zero, i.size, i.bytes)) = some (some (.int .u8 0), 1, 1) := by kernel_rfl
theorem cells4 (x : Nat) (hx : x < 4294967296) : ([.int .u8 ((x : Int) / 16777216), .int .u8 ((x : Int) / 65536 % 256), .int .u8 ((x : Int) / 256 % 256), .int .u8 ((x : Int) % 256)] : List Value) = Lib.byteCells (fixL x 4) := by
  have e : fixL x 4 = [byteAt x 3, byteAt x 2, byteAt x 1, byteAt x 0] := rfl
  rw [e]
  simp only [Lib.byteCells, List.map_cons, List.map_nil, byteAt_toNat, Nat.reducePow, Nat.div_one]
  have h3 : ((x / 16777216 % 256 : Nat) : Int) = (x : Int) / 16777216 := by omega
  have h2 : ((x / 65536 % 256 : Nat) : Int) = (x : Int) / 65536 % 256 := by omega
  have h1 : ((x / 256 % 256 : Nat) : Int) = (x : Int) / 256 % 256 := by omega
  have h0 : ((x % 256 : Nat) : Int) = (x : Int) % 256 := by omega
  rw [h3, h2, h1, h0]
theorem new4 (w : World) (a b c d : Value) (T : TypeId) : ∀ j u, ([a, b, c, d] : List Value)[j]? = some u → (w.alloc (.cells #[a, b, c, d] T)).cell? ((⟨w.heap.size, 0, none⟩ : Addr).add j) = some u := by
  intro j u h
  rw [bits8.addr_add]
  have h2 := cell_of_row (w.alloc (.cells #[a, b, c, d] T)) w.heap.size j #[a, b, c, d] T (0, 0) (heap_at _ _ _ rfl)
  rw [h2, ← h]
  simp
set_option maxRecDepth 100000 in
set_option maxHeartbeats 1000000 in
theorem written_any (v : Value) (base n x : Nat) (xs : List Value) (w : World) (hx : x < 4294967296) (hown : w.ownsRow base 5 1 v n xs) (hb : base ≤ w.heap.size) (hn : n ≤ 1000) :
    Calls Try.prog 76 #[v, .int .u32 (x : Int)] w fun e w' => ∃ v', e = .returned v' ∧ w'.ownsRow base 5 1 v' (n + 4) (xs ++ Lib.byteCells (fixL x 4)) ∧ Below base w w' := by
  obtain ⟨i0, hi, hz0, hz1, hz2⟩ := info_parts infoByte
  have HI := Away.mk (And.intro hi (And.intro hz0 (And.intro hz1 hz2)))
  have Hown := Away.mk hown
  have H4 := Away.mk (cells4 x hx)
  clear hi hz0 hz1 hz2 hown
  have hblk : v.ownBlock = none ∨ ∃ k, v.ownBlock = some k ∧ base ≤ k := by
    cases h : v.ownBlock with
    | none => exact Or.inl rfl
    | some k => exact Or.inr ⟨k, rfl, (Hown.out.lt k h).1⟩
  go_enter Try.func76, Try.ntmps76
  go_wp2_with (at_builtin; refine wpList_append_own _ rfl _ _ 52 rfl base 5 i0 (.int .u8 0) 1 1 Try.underlying52 HI.out.1 HI.out.2.1 HI.out.2.2.1 HI.out.2.2.2 rfl (by decide) _ _ _ rfl (Hown.out.alloc _) ⟨w.heap.size, 0, none⟩ 4 4 [.int .u8 ((x : Int) / 16777216), .int .u8 ((x : Int) / 65536 % 256), .int .u8 ((x : Int) / 256 % 256), .int .u8 ((x : Int) % 256)] rfl rfl (new4 _ _ _ _ _ _) (fun u hu => by simp at hu; rcases hu with rfl | rfl | rfl | rfl <;> rfl) (by unfold maxLen; omega) (by omega) (by simp; omega) ?_)
  intro v' w1 hown' hgrow _
  rw [H4.out] at hown'
  have Hown' := Away.mk hown'
  have Hbel : Away (Below base w w1) := ⟨(((Below.refl base w).alloc hb _)).grown hgrow (by simp; omega) (fun k hk => by
    rcases hblk with h | ⟨k2, h, hk2⟩
    · rw [h] at hk; cases hk
    · rw [h] at hk; cases hk; exact hk2)⟩
  clear hown' hgrow
  go_wp2_with fail
  go_ret
  exact ⟨_, rfl, Hown'.out, Hbel.out⟩
end Go.Proofs.Ythfljfampfioaaa.pad

namespace Go.Proofs.Ythfljfampfioaaa.ends
open Go.RowKit
open Go.Proofs.Ythfljfampfioaaa.oct Go.Proofs.Ythfljfampfioaaa.mem Go.Proofs.Ythfljfampfioaaa.arr Go.Proofs.Ythfljfampfioaaa.sham Go.Proofs.Ythfljfampfioaaa.block Go.Proofs.Ythfljfampfioaaa.thru Go.Proofs.Ythfljfampfioaaa.pad

/-- the bytes of words of n bytes each -/
def flat (n : Nat) (l : List Nat) : List UInt8 := l.flatMap fun x => fixL x n
theorem flat_length (n : Nat) (l : List Nat) : (flat n l).length = n * l.length := by
  induction l with
  | nil => rfl
  | cons x r ih => rw [flat, List.flatMap_cons, List.length_append, fixL_length]; rw [flat] at ih; rw [ih, List.length_cons]; rw [Nat.mul_succ]; omega
theorem flat_snoc (n : Nat) (l : List Nat) (x : Nat) : flat n (l ++ [x]) = flat n l ++ fixL x n := by simp [flat]
theorem take_snocN (l : List Nat) (k : Nat) (h : k < l.length) : l.take (k + 1) = l.take k ++ [l.getD k 0] := by
  rw [List.take_add_one, List.getD_eq_getElem?_getD, List.getElem?_eq_getElem h]; rfl
theorem fix8 (x : Nat) : fixL x 8 = fixL (x / 4294967296) 4 ++ fixL (x % 4294967296) 4 := by
  have e8 : fixL x 8 = [byteAt x 7, byteAt x 6, byteAt x 5, byteAt x 4, byteAt x 3, byteAt x 2, byteAt x 1, byteAt x 0] := rfl
  have e4 : ∀ y, fixL y 4 = [byteAt y 3, byteAt y 2, byteAt y 1, byteAt y 0] := fun _ => rfl
  rw [e8, e4, e4]
  have h : ∀ a i b j, a / 256 ^ i % 256 = b / 256 ^ j % 256 → byteAt a i = byteAt b j := fun a i b j h => by
    apply UInt8.toNat_inj.1; rw [byteAt_toNat, byteAt_toNat, h]
  simp only [List.cons_append, List.nil_append, List.cons.injEq, and_true]
  refine ⟨h _ _ _ _ ?_, h _ _ _ _ ?_, h _ _ _ _ ?_, h _ _ _ _ ?_, h _ _ _ _ ?_, h _ _ _ _ ?_, h _ _ _ _ ?_, h _ _ _ _ ?_⟩ <;> simp only [Nat.reducePow] <;> omega
/-- a string out of a row of the call's own -/
theorem conv_row {w : World} {base : Nat} {v : Value} {n : Nat} {l : List UInt8} (hn : l.length = n) (h0 : n ≠ 0) (h : w.ownsRow base 5 1 v n (Lib.byteCells l)) :
    (convert 52 9 v).run Try.prog w = .ok (.string ⟨l.toArray⟩) w := by
  subst hn
  rcases h.2 with ⟨-, h2⟩ | ⟨g, cap, cur, rfl, -, -, -, -, -, -⟩
  · exact absurd h2 h0
  · refine run_convert_bytes_back (P := Try.prog) w 52 9 5 ⟨g, 0, none⟩ cap l Try.underlying52 Try.underlying5 Try.underlying9 (fun j hj => ?_)
    have := h.cellAt j (by omega)
    rw [bits8.addr_add, this]
    simp [Lib.byteCells, hj]
theorem size32 (w : World) : Calls Try.prog 54 #[.bool false] w fun e w' => e = .returned (.int .i64 64) ∧ w' = w := size_any false w
theorem size64 (w : World) : Calls Try.prog 54 #[.bool true] w fun e w' => e = .returned (.int .i64 128) ∧ w' = w := size_any true w
theorem zHash : (Try.prog.info? 56).map (·.size) = some 19 := by kernel_rfl
theorem z8_32 : (Try.prog.info? 25).map (·.size) = some 8 := by kernel_rfl
theorem z8_64 : (Try.prog.info? 28).map (·.size) = some 8 := by kernel_rfl

/-! ### 32 bits -/
/-- the words at the end -/
def en32 (K : List Nat) (v : V8) (r : List UInt8) (n : Nat) : V8 := run32 K v (r ++ tail n 64) ((r ++ tail n 64).length / 64)

set_option maxRecDepth 100000 in
set_option maxHeartbeats 4000000 in
theorem end32 (gt : Nat) (K : List Nat) (T : Array Value) (sm lg : V8) (r : ByteArray) (n : Nat) (w : World) (hv : sm.lt 4294967296) (hK : ∀ i, K.getD i 0 < 4294967296)
    (ht : w.heap[gt]? = some (.cells T 33 (0, 0))) (hT : ∀ i, i < 64 → T[0 + i]? = some (.int .u32 ((K.getD i 0 : Nat) : Int))) (hn : n ≤ 1125899906842624) (hr : r.size ≤ 1099511627000) :
    Calls Try.prog 66 #[.pointer (some ⟨gt, 0, none⟩), .agg (HC false sm lg r n)] w fun e w' => e = .returned (.string ⟨(flat 4 (en32 K sm r.data.toList n).l).toArray⟩) ∧ Below w.heap.size w w' := by
  have hlt := lt_of_row ht
  obtain ⟨A, HA⟩ := ex_eq (HC false sm lg r n)
  rw [HA.out]
  have a17 : A[17]? = some (.string r) := by rw [← HA.out]; rfl
  have a18 : A[18]? = some (.int .i64 (n : Int)) := by rw [← HA.out]; rfl
  have a0 : A[0]? = some (.bool false) := by rw [← HA.out]; rfl
  have Hs : Away (A.size = 19) := ⟨by rw [← HA.out]; rfl⟩
  obtain ⟨w0, Hw0⟩ := ex_eq (w.alloc (.cells A 56))
  have g0 : w0.heap[w.heap.size]? = some (.cells A 56 (0, 0)) := by rw [← Hw0.out]; exact heap_at _ _ _ rfl
  have c17 : w0.cell? ⟨w.heap.size, 17, none⟩ = some (.string r) := (cell_of_row w0 _ _ _ _ (0, 0) g0).trans a17
  have c18 : w0.cell? ⟨w.heap.size, 18, none⟩ = some (.int .i64 (n : Int)) := (cell_of_row w0 _ _ _ _ (0, 0) g0).trans a18
  have c0 : w0.cell? ⟨w.heap.size, 0, none⟩ = some (.bool false) := (cell_of_row w0 _ _ _ _ (0, 0) g0).trans a0
  have hb0 : Below w.heap.size w w0 := by rw [← Hw0.out]; exact below_alloc _ _
  have hs0 : w0.heap.size = w.heap.size + 1 := by rw [← Hw0.out]; simp
  have Hb0 := Away.mk hb0
  have G0 := Away.mk g0
  have hbk := bk_le64 n
  have htl : (tail n 64).length ≤ 200 := by rw [tail_length _ _ (by omega)]; omega
  have hps : (⟨(r.data.toList ++ tail n 64).toArray⟩ : ByteArray).size ≤ 1099511627776 := by
    show (r.data.toList ++ tail n 64).toArray.size ≤ _
    rw [List.size_toArray, List.length_append]
    have : r.data.toList.length = r.size := rfl
    omega
  have Hthr : Away (∀ w1 : World, Below w0.heap.size w0 w1 → Calls Try.prog 55 #[.pointer (some ⟨gt, 0, none⟩), .pointer (some ⟨w.heap.size, 0, none⟩), .string ⟨(r.data.toList ++ tail n 64).toArray⟩] w1 fun e w' => (∃ b : ByteArray, e = .returned (.string b)) ∧ At w.heap.size (HC false (en32 K sm r.data.toList n) lg r n) 56 w1 w') := ⟨fun w1 hb1 =>
    (through32 gt w.heap.size K T sm lg r n ⟨(r.data.toList ++ tail n 64).toArray⟩ w1 hv hK ((hb1.block gt (by omega)).trans ((hb0.block gt hlt).trans ht)) hT ((hb1.block _ (by omega)).trans (by rw [HA.out]; exact g0)) (by omega) hps).mono fun e w' h => by
      obtain ⟨⟨b, h1, -⟩, h2⟩ := h
      exact ⟨⟨b, h1⟩, h2⟩⟩
  have Hpad := Away.mk (fun w1 : World => padded64 r n w1 hn (by omega))
  obtain ⟨V, HV⟩ := ex_eq (en32 K sm r.data.toList n)
  have hvl : V.lt 4294967296 := by rw [← HV.out]; exact run_lt32 _ _ _ hv _
  rw [show (HC false (en32 K sm r.data.toList n) lg r n) = (HC false V lg r n) from by rw [← HV.out]] at Hthr
  obtain ⟨P, HP⟩ := ex_eq (r.data.toList ++ tail n 64)
  rw [HP.out] at Hthr Hpad
  obtain ⟨C, HC'⟩ := ex_eq (HC false V lg r n)
  have cC17 : C[17]? = some (.string r) := by rw [← HC'.out]; rfl
  have cC18 : C[18]? = some (.int .i64 (n : Int)) := by rw [← HC'.out]; rfl
  have cC0 : C[0]? = some (.bool false) := by rw [← HC'.out]; rfl
  have HCr : Away (∀ i, i < 8 → C[1 + i]? = some (.int .u32 ((V.l.getD i 0 : Nat) : Int))) := ⟨fun i hi => by rw [← HC'.out]; exact hc32 _ _ _ _ _ i hi⟩
  rw [HC'.out] at Hthr
  obtain ⟨L, HL⟩ := ex_eq V.l
  have HLl : Away (L.length = 8) := ⟨by rw [← HL.out]; rfl⟩
  have hLb : ∀ i, L.getD i 0 < 4294967296 := by rw [← HL.out]; exact hvl.get (by decide)
  have HLb := Away.mk hLb
  rw [HL.out] at HCr
  have Hout : Away (flat 4 (en32 K sm r.data.toList n).l = flat 4 L) := ⟨by rw [HV.out, HL.out]⟩
  rw [Hout.out]
  obtain ⟨O, HO⟩ := ex_eq (flat 4 L)
  rw [HO.out]
  have HOl : Away (O.length = 8 * 4) := ⟨by rw [← HO.out, flat_length, HLl.out, Nat.mul_comm]⟩
  obtain ⟨i0, hi, hz0, hz1, hz2⟩ := info_parts infoByte
  have HI := Away.mk (And.intro hi (And.intro hz0 (And.intro hz1 hz2)))
  clear hi hz0 hz1 hz2 hLb hvl hps htl hbk hK hT ht hv a17 a18 a0 hb0 g0 HA hlt Hout HC' HV HL
  go_enter Try.func66, Try.ntmps66
  go_wp2_with fail
  rw [Hw0.out]
  have hs17 := fun (w1 : World) (h : Below w0.heap.size w0 w1) => (h.cell (p := ⟨w.heap.size, 17, none⟩) (by show w.heap.size < _; omega)).trans c17
  have hs18 := fun (w1 : World) (h : Below w0.heap.size w0 w1) => (h.cell (p := ⟨w.heap.size, 18, none⟩) (by show w.heap.size < _; omega)).trans c18
  have hs0 := fun (w1 : World) (h : Below w0.heap.size w0 w1) => (h.cell (p := ⟨w.heap.size, 0, none⟩) (by show w.heap.size < _; omega)).trans c0
  have HS := Away.mk (And.intro hs17 (And.intro hs18 hs0))
  clear hs17 hs18 hs0
  go_region_held3 (fun w' : World => w'.cell? ⟨w.heap.size, 17, none⟩ = some (.string r) ∧ w'.cell? ⟨w.heap.size, 18, none⟩ = some (.int .i64 (n : Int)) ∧ w'.cell? ⟨w.heap.size, 0, none⟩ = some (.bool false)) (first | exact ⟨c17, c18, c0⟩ | exact S1 | exact S2 | assumption) (first
    | (go_at_call 54; refine Calls.mono (size32 _) ?_; rintro e w1 ⟨rfl, rfl⟩)
    | (go_at_call 75; refine Calls.mono (Hpad.out _) ?_; rintro e w1 ⟨rfl, hb1⟩; have Hb1 : Away (Below w0.heap.size w0 w1) := ⟨⟨hb1.os, hb1.tape, hb1.output, hb1.size, hb1.block⟩⟩; have S1 := And.intro (HS.out.1 w1 Hb1.out) (And.intro (HS.out.2.1 w1 Hb1.out) (HS.out.2.2 w1 Hb1.out)))
    | (go_at_call 55; refine Calls.mono (Hthr.out w1 Hb1.out) ?_; rintro e w2 ⟨⟨b, rfl⟩, hA⟩; have S2 := And.intro ((hA.cell 17).trans cC17) (And.intro ((hA.cell 18).trans cC18) ((hA.cell 0).trans cC0))))
  have z1 := Hb1.out.size
  have z2 := hA.size
  have Hw2 : Away (Below w.heap.size w w2) := ⟨Hb0.out.trans ((Hb1.out.mono (by omega)).trans (hA.below (by omega) (Nat.le_refl _)))⟩
  have HA := Away.mk hA
  clear S1 S2
  have c0' : w2.cell? ⟨w.heap.size, 0, none⟩ = some (.bool false) := by rw [hA.cell]; exact cC0
  clear hA hb1 c17 c18 c0
  go_wp2_with (at_make; refine wpList_make_own _ rfl _ _ 52 rfl w2.heap.size 5 i0 (.int .u8 0) 1 Try.underlying52 HI.out.1 HI.out.2.1 HI.out.2.2.1 .i64 .i64 64 64 rfl rfl rfl (by rw [HI.out.2.2.2]; decide) (by decide) (Nat.le_refl _) ?_)
  intro w3 hown hgr
  have hb3 : Below w2.heap.size w2 w3 := (Below.refl _ _).grown hgr (Nat.le_refl _) (fun k hk => by simp at hk)
  have Hb3 := Away.mk hb3
  have Hown := Away.mk hown
  have c03 : w3.cell? ⟨w.heap.size, 0, none⟩ = some (.bool false) := by rw [hb3.cell (p := ⟨w.heap.size, 0, none⟩) (by show w.heap.size < _; omega)]; exact c0'
  have Hrg : Away (w3.rangeAt w.heap.size 1 (LK .u32 L).toList) := ⟨fun j v hj => by
    have hj8 : j < 8 := by
      by_cases h8 : j < 8
      · exact h8
      · rw [List.getElem?_eq_none (by rw [Array.length_toList, lk_size, HLl.out]; omega)] at hj; cases hj
    rw [hb3.cell (p := ⟨w.heap.size, 1 + j, none⟩) (by show w.heap.size < _; omega), HA.out.cell, HCr.out j hj8, ← hj, Array.getElem?_toList, lk_get _ _ _ (by rw [HLl.out]; exact hj8)]⟩
  clear hown hgr hb3 c0'
  go_wp2_with (refine wpList_load_mid rfl 25 _ rfl w.heap.size 1 rfl (LK .u32 L).toList _ Hrg.out Try.underlying25 rfl (by rw [Array.length_toList, lk_size, HLl.out]; exact z8_32) ?_)
  go_loopw [5, 41] (fun v i wr => ∃ k : Nat, k ≤ 8 ∧ i = .int .i64 k ∧ Away (wr.ownsRow w2.heap.size 5 1 v (4 * k) (Lib.byteCells (flat 4 (L.take k)))) ∧ Away (Below w2.heap.size w2 wr)) (fun _ i _ => 8 - (intOf i).toNat)
  case atStart => exact ⟨0, by decide, rfl, Hown, Hb3⟩
  case round =>
    obtain ⟨k, hk, rfl, Ho, Hb⟩ := hrel
    by_cases hlt : k < 8
    · have hag : ∀ w : World, (Instr.index 25 (.agg (LK .u32 L)) (.int .i64 (k : Int))).run Try.prog w = .ok (.int .u32 ((L.getD k 0 : Nat) : Int)) w := idx.index32 L k HLl.out hlt
      have bx := HLb.out k
      have Hsn : Away (flat 4 (L.take (k + 1)) = flat 4 (L.take k) ++ fixL (L.getD k 0) 4) := ⟨by rw [take_snocN L k (by rw [HLl.out]; exact hlt), flat_snoc]⟩
      obtain ⟨x, hx⟩ : ∃ x, L.getD k 0 = x := ⟨_, rfl⟩
      rw [hx] at hag bx Hsn
      clear hx
      have hbs := Hb.out.size
      go_wp2_with fail
      refine (written_any _ w2.heap.size (4 * k) x _ wr bx Ho.out hbs (by omega)).mono ?_
      rintro e w4 ⟨v', rfl, ho4, hb4⟩
      have Hown2 : Away (w4.ownsRow w2.heap.size 5 1 v' (4 * (k + 1)) (Lib.byteCells (flat 4 (L.take (k + 1))))) := ⟨by
        rw [Hsn.out, Lib.byteCells_append, show 4 * (k + 1) = 4 * k + 4 by omega]; exact ho4⟩
      have Hb2 : Away (Below w2.heap.size w2 w4) := ⟨Hb.out.trans hb4⟩
      clear ho4 hb4
      go_wp2_with fail
      go_roundw
      case rel => exact ⟨k + 1, by omega, by go_num, Hown2, Hb2⟩
      case measure => simp [intOf]; omega
    · obtain rfl : k = 8 := by omega
      have hO := Ho.out
      rw [List.take_of_length_le (by rw [HLl.out]; decide), HO.out] at hO
      have hcv := conv_row (by rw [HOl.out, Nat.mul_comm]) (by decide) hO
      have Hb2 : Away (Below w.heap.size w wr) := ⟨Hw2.out.trans (Hb.out.mono (by omega))⟩
      clear hO
      go_wp2_with fail
      go_ret
      exact ⟨rfl, Hb2.out⟩

/-! ### 64 bits -/
/-- the words at the end -/
def en64 (K : List Nat) (v : V8) (r : List UInt8) (n : Nat) : V8 := run64 K v (r ++ tail n 128) ((r ++ tail n 128).length / 128)

set_option maxRecDepth 100000 in
set_option maxHeartbeats 4000000 in
theorem end64 (gt : Nat) (K : List Nat) (T : Array Value) (sm lg : V8) (r : ByteArray) (n : Nat) (w : World) (hv : lg.lt 18446744073709551616) (hK : ∀ i, K.getD i 0 < 18446744073709551616)
    (ht : w.heap[gt]? = some (.cells T 33 (0, 0))) (hT : ∀ i, i < 80 → T[72 + i]? = some (.int .u64 ((K.getD i 0 : Nat) : Int))) (hn : n ≤ 1125899906842624) (hr : r.size ≤ 1099511627000) :
    Calls Try.prog 66 #[.pointer (some ⟨gt, 0, none⟩), .agg (HC true sm lg r n)] w fun e w' => e = .returned (.string ⟨(flat 8 (en64 K lg r.data.toList n).l).toArray⟩) ∧ Below w.heap.size w w' := by
  have hlt := lt_of_row ht
  obtain ⟨A, HA⟩ := ex_eq (HC true sm lg r n)
  rw [HA.out]
  have a17 : A[17]? = some (.string r) := by rw [← HA.out]; rfl
  have a18 : A[18]? = some (.int .i64 (n : Int)) := by rw [← HA.out]; rfl
  have a0 : A[0]? = some (.bool true) := by rw [← HA.out]; rfl
  have Hs : Away (A.size = 19) := ⟨by rw [← HA.out]; rfl⟩
  obtain ⟨w0, Hw0⟩ := ex_eq (w.alloc (.cells A 56))
  have g0 : w0.heap[w.heap.size]? = some (.cells A 56 (0, 0)) := by rw [← Hw0.out]; exact heap_at _ _ _ rfl
  have c17 : w0.cell? ⟨w.heap.size, 17, none⟩ = some (.string r) := (cell_of_row w0 _ _ _ _ (0, 0) g0).trans a17
  have c18 : w0.cell? ⟨w.heap.size, 18, none⟩ = some (.int .i64 (n : Int)) := (cell_of_row w0 _ _ _ _ (0, 0) g0).trans a18
  have c0 : w0.cell? ⟨w.heap.size, 0, none⟩ = some (.bool true) := (cell_of_row w0 _ _ _ _ (0, 0) g0).trans a0
  have hb0 : Below w.heap.size w w0 := by rw [← Hw0.out]; exact below_alloc _ _
  have hs0 : w0.heap.size = w.heap.size + 1 := by rw [← Hw0.out]; simp
  have Hb0 := Away.mk hb0
  have G0 := Away.mk g0
  have hbk := bk_le128 n
  have htl : (tail n 128).length ≤ 200 := by rw [tail_length _ _ (by omega)]; omega
  have hps : (⟨(r.data.toList ++ tail n 128).toArray⟩ : ByteArray).size ≤ 1099511627776 := by
    show (r.data.toList ++ tail n 128).toArray.size ≤ _
    rw [List.size_toArray, List.length_append]
    have : r.data.toList.length = r.size := rfl
    omega
  have Hthr : Away (∀ w1 : World, Below w0.heap.size w0 w1 → Calls Try.prog 55 #[.pointer (some ⟨gt, 0, none⟩), .pointer (some ⟨w.heap.size, 0, none⟩), .string ⟨(r.data.toList ++ tail n 128).toArray⟩] w1 fun e w' => (∃ b : ByteArray, e = .returned (.string b)) ∧ At w.heap.size (HC true sm (en64 K lg r.data.toList n) r n) 56 w1 w') := ⟨fun w1 hb1 =>
    (through64 gt w.heap.size K T sm lg r n ⟨(r.data.toList ++ tail n 128).toArray⟩ w1 hv hK ((hb1.block gt (by omega)).trans ((hb0.block gt hlt).trans ht)) hT ((hb1.block _ (by omega)).trans (by rw [HA.out]; exact g0)) (by omega) hps).mono fun e w' h => by
      obtain ⟨⟨b, h1, -⟩, h2⟩ := h
      exact ⟨⟨b, h1⟩, h2⟩⟩
  have Hpad := Away.mk (fun w1 : World => padded128 r n w1 hn (by omega))
  obtain ⟨V, HV⟩ := ex_eq (en64 K lg r.data.toList n)
  have hvl : V.lt 18446744073709551616 := by rw [← HV.out]; exact run_lt64 _ _ _ hv _
  rw [show (HC true sm (en64 K lg r.data.toList n) r n) = (HC true sm V r n) from by rw [← HV.out]] at Hthr
  obtain ⟨P, HP⟩ := ex_eq (r.data.toList ++ tail n 128)
  rw [HP.out] at Hthr Hpad
  obtain ⟨C, HC'⟩ := ex_eq (HC true sm V r n)
  have cC17 : C[17]? = some (.string r) := by rw [← HC'.out]; rfl
  have cC18 : C[18]? = some (.int .i64 (n : Int)) := by rw [← HC'.out]; rfl
  have cC0 : C[0]? = some (.bool true) := by rw [← HC'.out]; rfl
  have HCr : Away (∀ i, i < 8 → C[9 + i]? = some (.int .u64 ((V.l.getD i 0 : Nat) : Int))) := ⟨fun i hi => by rw [← HC'.out]; exact hc64 _ _ _ _ _ i hi⟩
  rw [HC'.out] at Hthr
  obtain ⟨L, HL⟩ := ex_eq V.l
  have HLl : Away (L.length = 8) := ⟨by rw [← HL.out]; rfl⟩
  have hLb : ∀ i, L.getD i 0 < 18446744073709551616 := by rw [← HL.out]; exact hvl.get (by decide)
  have HLb := Away.mk hLb
  rw [HL.out] at HCr
  have Hout : Away (flat 8 (en64 K lg r.data.toList n).l = flat 8 L) := ⟨by rw [HV.out, HL.out]⟩
  rw [Hout.out]
  obtain ⟨O, HO⟩ := ex_eq (flat 8 L)
  rw [HO.out]
  have HOl : Away (O.length = 8 * 8) := ⟨by rw [← HO.out, flat_length, HLl.out, Nat.mul_comm]⟩
  obtain ⟨i0, hi, hz0, hz1, hz2⟩ := info_parts infoByte
  have HI := Away.mk (And.intro hi (And.intro hz0 (And.intro hz1 hz2)))
  clear hi hz0 hz1 hz2 hLb hvl hps htl hbk hK hT ht hv a17 a18 a0 hb0 g0 HA hlt Hout HC' HV HL
  go_enter Try.func66, Try.ntmps66
  go_wp2_with fail
  rw [Hw0.out]
  have hs17 := fun (w1 : World) (h : Below w0.heap.size w0 w1) => (h.cell (p := ⟨w.heap.size, 17, none⟩) (by show w.heap.size < _; omega)).trans c17
  have hs18 := fun (w1 : World) (h : Below w0.heap.size w0 w1) => (h.cell (p := ⟨w.heap.size, 18, none⟩) (by show w.heap.size < _; omega)).trans c18
  have hs0 := fun (w1 : World) (h : Below w0.heap.size w0 w1) => (h.cell (p := ⟨w.heap.size, 0, none⟩) (by show w.heap.size < _; omega)).trans c0
  have HS := Away.mk (And.intro hs17 (And.intro hs18 hs0))
  clear hs17 hs18 hs0
  go_region_held3 (fun w' : World => w'.cell? ⟨w.heap.size, 17, none⟩ = some (.string r) ∧ w'.cell? ⟨w.heap.size, 18, none⟩ = some (.int .i64 (n : Int)) ∧ w'.cell? ⟨w.heap.size, 0, none⟩ = some (.bool true)) (first | exact ⟨c17, c18, c0⟩ | exact S1 | exact S2 | assumption) (first
    | (go_at_call 54; refine Calls.mono (size64 _) ?_; rintro e w1 ⟨rfl, rfl⟩)
    | (go_at_call 75; refine Calls.mono (Hpad.out _) ?_; rintro e w1 ⟨rfl, hb1⟩; have Hb1 : Away (Below w0.heap.size w0 w1) := ⟨⟨hb1.os, hb1.tape, hb1.output, hb1.size, hb1.block⟩⟩; have S1 := And.intro (HS.out.1 w1 Hb1.out) (And.intro (HS.out.2.1 w1 Hb1.out) (HS.out.2.2 w1 Hb1.out)))
    | (go_at_call 55; refine Calls.mono (Hthr.out w1 Hb1.out) ?_; rintro e w2 ⟨⟨b, rfl⟩, hA⟩; have S2 := And.intro ((hA.cell 17).trans cC17) (And.intro ((hA.cell 18).trans cC18) ((hA.cell 0).trans cC0))))
  have z1 := Hb1.out.size
  have z2 := hA.size
  have Hw2 : Away (Below w.heap.size w w2) := ⟨Hb0.out.trans ((Hb1.out.mono (by omega)).trans (hA.below (by omega) (Nat.le_refl _)))⟩
  have HA := Away.mk hA
  clear S1 S2
  have c0' : w2.cell? ⟨w.heap.size, 0, none⟩ = some (.bool true) := by rw [hA.cell]; exact cC0
  clear hA hb1 c17 c18 c0
  go_wp2_with (at_make; refine wpList_make_own _ rfl _ _ 52 rfl w2.heap.size 5 i0 (.int .u8 0) 1 Try.underlying52 HI.out.1 HI.out.2.1 HI.out.2.2.1 .i64 .i64 64 64 rfl rfl rfl (by rw [HI.out.2.2.2]; decide) (by decide) (Nat.le_refl _) ?_)
  intro w3 hown hgr
  have hb3 : Below w2.heap.size w2 w3 := (Below.refl _ _).grown hgr (Nat.le_refl _) (fun k hk => by simp at hk)
  have Hb3 := Away.mk hb3
  have Hown := Away.mk hown
  have c03 : w3.cell? ⟨w.heap.size, 0, none⟩ = some (.bool true) := by rw [hb3.cell (p := ⟨w.heap.size, 0, none⟩) (by show w.heap.size < _; omega)]; exact c0'
  have Hrg : Away (w3.rangeAt w.heap.size 9 (LK .u64 L).toList) := ⟨fun j v hj => by
    have hj8 : j < 8 := by
      by_cases h8 : j < 8
      · exact h8
      · rw [List.getElem?_eq_none (by rw [Array.length_toList, lk_size, HLl.out]; omega)] at hj; cases hj
    rw [hb3.cell (p := ⟨w.heap.size, 9 + j, none⟩) (by show w.heap.size < _; omega), HA.out.cell, HCr.out j hj8, ← hj, Array.getElem?_toList, lk_get _ _ _ (by rw [HLl.out]; exact hj8)]⟩
  clear hown hgr hb3 c0'
  go_wp2_with (refine wpList_load_mid rfl 28 _ rfl w.heap.size 9 rfl (LK .u64 L).toList _ Hrg.out Try.underlying28 rfl (by rw [Array.length_toList, lk_size, HLl.out]; exact z8_64) ?_)
  go_loopw [5, 25] (fun v i wr => ∃ k : Nat, k ≤ 8 ∧ i = .int .i64 k ∧ Away (wr.ownsRow w2.heap.size 5 1 v (8 * k) (Lib.byteCells (flat 8 (L.take k)))) ∧ Away (Below w2.heap.size w2 wr)) (fun _ i _ => 8 - (intOf i).toNat)
  case atStart => exact ⟨0, by decide, rfl, Hown, Hb3⟩
  case round =>
    obtain ⟨k, hk, rfl, Ho, Hb⟩ := hrel
    by_cases hlt : k < 8
    · have hag : ∀ w : World, (Instr.index 28 (.agg (LK .u64 L)) (.int .i64 (k : Int))).run Try.prog w = .ok (.int .u64 ((L.getD k 0 : Nat) : Int)) w := idx.index64 L k HLl.out hlt
      have bx := HLb.out k
      have Hsn : Away (flat 8 (L.take (k + 1)) = flat 8 (L.take k) ++ fixL (L.getD k 0) 8) := ⟨by rw [take_snocN L k (by rw [HLl.out]; exact hlt), flat_snoc]⟩
      obtain ⟨x, hx⟩ : ∃ x, L.getD k 0 = x := ⟨_, rfl⟩
      rw [hx] at hag bx Hsn
      clear hx
      have hbs := Hb.out.size
      go_wp2_with fail
      refine (written_any _ w2.heap.size (8 * k) (x / 4294967296) _ wr (by omega) Ho.out hbs (by omega)).mono ?_
      rintro e w4 ⟨v', rfl, ho4, hb4⟩
      go_wp2_with fail
      have hb4s := hb4.size
      refine (written_any _ w2.heap.size (8 * k + 4) (x % 4294967296) _ w4 (by omega) ho4 (by omega) (by omega)).mono ?_
      rintro e w5 ⟨v2, rfl, ho5, hb5⟩
      have Hown2 : Away (w5.ownsRow w2.heap.size 5 1 v2 (8 * (k + 1)) (Lib.byteCells (flat 8 (L.take (k + 1))))) := ⟨by
        rw [Hsn.out, fix8, Lib.byteCells_append, Lib.byteCells_append, ← List.append_assoc, show 8 * (k + 1) = 8 * k + 4 + 4 by omega]; exact ho5⟩
      have Hb2 : Away (Below w2.heap.size w2 w5) := ⟨(Hb.out.trans hb4).trans hb5⟩
      clear ho4 hb4 ho5 hb5
      go_wp2_with fail
      go_roundw
      case rel => exact ⟨k + 1, by omega, by go_num, Hown2, Hb2⟩
      case measure => simp [intOf]; omega
    · obtain rfl : k = 8 := by omega
      have hO := Ho.out
      rw [List.take_of_length_le (by rw [HLl.out]; decide), HO.out] at hO
      have hcv := conv_row (by rw [HOl.out, Nat.mul_comm]) (by decide) hO
      have Hb2 : Away (Below w.heap.size w wr) := ⟨Hw2.out.trans (Hb.out.mono (by omega))⟩
      clear hO
      go_wp2_with fail
      go_ret
      exact ⟨rfl, Hb2.out⟩
end Go.Proofs.Ythfljfampfioaaa.ends
