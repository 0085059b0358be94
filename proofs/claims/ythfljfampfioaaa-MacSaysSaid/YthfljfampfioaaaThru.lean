/-
  What sha's size, start and through do: through changes a hasher's words by the whole blocks of a string, and returns what is left of it; all other memory that was there stays as it was. Conditions: the words have their bits, and the two pointers point to different blocks of memory.
-/
import Derived.Test.YthfljfampfioaaaBlock
namespace Go.Proofs.Ythfljfampfioaaa.thru
open Go.RowKit
open Go.Proofs.Ythfljfampfioaaa.oct Go.Proofs.Ythfljfampfioaaa.mem Go.Proofs.Ythfljfampfioaaa.arr Go.Proofs.Ythfljfampfioaaa.sham Go.Proofs.Ythfljfampfioaaa.block

/-- a hasher's cells -/
def HC (wd : Bool) (sm lg : V8) (r : ByteArray) (n : Int) : Array Value :=
  #[.bool wd, .int .u32 sm.a, .int .u32 sm.b, .int .u32 sm.c, .int .u32 sm.d, .int .u32 sm.e, .int .u32 sm.f, .int .u32 sm.g, .int .u32 sm.h,
    .int .u64 lg.a, .int .u64 lg.b, .int .u64 lg.c, .int .u64 lg.d, .int .u64 lg.e, .int .u64 lg.f, .int .u64 lg.g, .int .u64 lg.h, .string r, .int .i64 n]
theorem sp32 (wd : Bool) (sm lg v : V8) (r : ByteArray) (n : Int) : sp (HC wd sm lg r n) 1 (LK .u32 v.l).toList = HC wd v lg r n := by simp [sp, LK, V8.l, HC]
theorem sp64 (wd : Bool) (sm lg v : V8) (r : ByteArray) (n : Int) : sp (HC wd sm lg r n) 9 (LK .u64 v.l).toList = HC wd sm v r n := by simp [sp, LK, V8.l, HC]
theorem hc32 (wd : Bool) (sm lg : V8) (r : ByteArray) (n : Int) (i : Nat) (h : i < 8) : (HC wd sm lg r n)[1 + i]? = some (.int .u32 ((sm.l.getD i 0 : Nat) : Int)) := by
  match i, h with
  | 0, _ => rfl
  | 1, _ => rfl
  | 2, _ => rfl
  | 3, _ => rfl
  | 4, _ => rfl
  | 5, _ => rfl
  | 6, _ => rfl
  | 7, _ => rfl
theorem hc64 (wd : Bool) (sm lg : V8) (r : ByteArray) (n : Int) (i : Nat) (h : i < 8) : (HC wd sm lg r n)[9 + i]? = some (.int .u64 ((lg.l.getD i 0 : Nat) : Int)) := by
  match i, h with
  | 0, _ => rfl
  | 1, _ => rfl
  | 2, _ => rfl
  | 3, _ => rfl
  | 4, _ => rfl
  | 5, _ => rfl
  | 6, _ => rfl
  | 7, _ => rfl
set_option maxRecDepth 100000 in
set_option maxHeartbeats 400000 in
theorem size_any (b : Bool) (w : World) : Calls Try.prog 54 #[.bool b] w fun e w' => e = .returned (.int .i64 (if b then 128 else 64)) ∧ w' = w := by
  cases b
  · go_enter Try.func54, Try.ntmps54
    go_wp2_with fail
    go_ret
    exact ⟨rfl, rfl⟩
  · go_enter Try.func54, Try.ntmps54
    go_wp2_with fail
    go_ret
    exact ⟨rfl, rfl⟩

/-! ### 32 bits -/
/-- eight words behind k blocks -/
def run32 (K : List Nat) (v : V8) (l : List UInt8) : Nat → V8
  | 0 => v
  | k + 1 => bl32 K (run32 K v l k) ((l.drop (64 * k)).take 64)
theorem run_lt32 (K : List Nat) (v : V8) (l : List UInt8) (h : v.lt 4294967296) (k : Nat) : (run32 K v l k).lt 4294967296 := by
  cases k with
  | zero => exact h
  | succ k => exact ad_lt32 _ _
theorem run_app32 (K : List Nat) (v : V8) (a b : List UInt8) (k : Nat) (h : a.length = 64 * k) (m : Nat) : run32 K v (a ++ b) (k + m) = run32 K (run32 K v (a ++ b) k) b m := by
  induction m with
  | zero => rfl
  | succ m ih =>
    rw [← Nat.add_assoc, run32, ih, run32]
    congr 2
    rw [List.drop_append, List.drop_eq_nil_of_le (by rw [h]; omega), List.nil_append, h]
    congr 1
    omega
theorem run_pre32 (K : List Nat) (v : V8) (a b : List UInt8) (k : Nat) (h : 64 * k ≤ a.length) : run32 K v (a ++ b) k = run32 K v a k := by
  induction k with
  | zero => rfl
  | succ k ih =>
    rw [run32, run32, ih (by omega)]
    congr 1
    rw [List.drop_append_of_le_length (by omega), List.take_append_of_le_length (by rw [List.length_drop]; omega)]

set_option maxRecDepth 100000 in
set_option maxHeartbeats 4000000 in
theorem through32 (gt gh : Nat) (K : List Nat) (T : Array Value) (sm lg : V8) (r : ByteArray) (n : Int) (s : ByteArray) (w : World) (hv : sm.lt 4294967296) (hK : ∀ i, K.getD i 0 < 4294967296)
    (ht : w.heap[gt]? = some (.cells T 33 (0, 0))) (hT : ∀ i, i < 64 → T[0 + i]? = some (.int .u32 ((K.getD i 0 : Nat) : Int)))
    (hh : w.heap[gh]? = some (.cells (HC false sm lg r n) 56 (0, 0))) (hne : gt ≠ gh) (hs : s.size ≤ 1099511627776) :
    Calls Try.prog 55 #[.pointer (some ⟨gt, 0, none⟩), .pointer (some ⟨gh, 0, none⟩), .string s] w fun e w' => (∃ b : ByteArray, e = .returned (.string b) ∧ b.data.toList = s.data.toList.drop (64 * (s.size / 64))) ∧ At gh (HC false (run32 K sm s.data.toList (s.size / 64)) lg r n) 56 w w' := by
  have hlt := lt_of_row ht
  have hlh := lt_of_row hh
  have HT := Away.mk hT
  have HK := Away.mk hK
  have Ht := Away.mk ht
  have Hh := Away.mk hh
  have Hv := Away.mk hv
  obtain ⟨l, Hl⟩ := ex_eq s.data.toList
  have Hll : Away (l.length = s.size) := ⟨by rw [← Hl.out]; rfl⟩
  rw [Hl.out]
  have c0 : w.cell? ⟨gh, 0, none⟩ = some (.bool false) := (cell_of_row w gh 0 _ _ (0, 0) hh).trans rfl
  obtain ⟨R, HR⟩ : ∃ R : Nat → Array Value, Away (∀ k, R k = (HC false (run32 K sm l k) lg r n)) := ⟨fun k => (HC false (run32 K sm l k) lg r n), ⟨fun _ => rfl⟩⟩
  rw [← HR.out (s.size / 64)]
  obtain ⟨nb, Hnb⟩ := ex_eq (s.size / 64)
  rw [Hnb.out]
  clear hT hK ht hh hv
  go_enter Try.func55, Try.ntmps55
  go_wp2_with fail
  refine (size_any false _).mono ?_
  rintro e w1 ⟨rfl, rfl⟩
  simp only [if_false, Bool.false_eq_true]
  go_wp2_with fail
  clear c0
  go_loopw [2] (fun x wr => ∃ (b : ByteArray) (k : Nat), x = .string b ∧ 64 * k ≤ s.size ∧ Away (b.data.toList = l.drop (64 * k)) ∧ b.size = s.size - 64 * k ∧ Away (At gh (R k) 56 w1 wr)) (fun x _ => match x with | .string b => b.size | _ => 0)
  case atStart => exact ⟨s, 0, rfl, by omega, ⟨Hl.out⟩, rfl, ⟨by rw [HR.out]; exact At.refl Hh.out⟩⟩
  case round =>
    obtain ⟨b, k, rfl, hk, Hb, hbs, Ha⟩ := hrel
    by_cases hc : 64 ≤ b.size
    · have c0 : wr.cell? ⟨gh, 0, none⟩ = some (.bool false) := by rw [Ha.out.cell, HR.out]; rfl
      have Hrow : Away (wr.heap[gh]? = some (.cells (HC false (run32 K sm l k) lg r n) 56 (0, 0))) := ⟨by rw [← HR.out]; exact Ha.out.row⟩
      have Htt := Away.mk (Ha.out.other hlt hne Ht.out)
      have z1 := Ha.out.size
      have Hcall : Away (∀ w2 : World, w2.heap = wr.heap → Calls Try.prog 71 #[.pointer (some ⟨gt, 0, none⟩), .pointer (some ⟨gh, 1, none⟩), .string (b.extract 0 64)] w2 fun e w' => e = .returned (.tuple #[]) ∧ Below w2.heap.size (w2.setCells gh 1 (LK .u32 (bl32 K (run32 K sm l k) (b.extract 0 64).data.toList).l).toList) w') :=
        ⟨fun w2 hw2 => block32 gt gh K (run32 K sm l k) (b.extract 0 64) w2 (by rw [ByteArray.size_extract]; omega) (run_lt32 K sm l Hv.out k) HK.out
          (fun i hi => (cell_of_row w2 gt (0 + i) _ _ (0, 0) (by rw [hw2]; exact Htt.out)).trans (HT.out i hi))
          (fun i hi => ⟨(cell_of_row w2 gh (1 + i) _ _ (0, 0) (by rw [hw2]; exact Hrow.out)).trans (hc32 _ _ _ _ _ i hi), frozen_of_row w2 gh (1 + i) _ _ (by rw [hw2]; exact Hrow.out)⟩) (by rw [hw2]; omega) (by rw [hw2]; omega)⟩
      have Hbl : Away ((b.extract 0 64).data.toList = (l.drop (64 * k)).take 64) := ⟨by rw [← Hb.out]; simp⟩
      have Hbd : Away ((b.extract 64 b.size).data.toList = l.drop (64 * (k + 1))) := ⟨by
        rw [Nat.mul_add, ← List.drop_drop, ← Hb.out, Nat.mul_one]
        simp only [ByteArray.data_extract, Array.toList_extract, List.take_of_length_le, List.length_drop, Array.length_toList, ByteArray.size_data, Nat.le_refl]⟩
      have hbz : (b.extract 64 b.size).size = b.size - 64 := by rw [ByteArray.size_extract]; omega
      obtain ⟨b2, Hb2⟩ := ex_eq (b.extract 0 64)
      obtain ⟨b3, Hb3⟩ := ex_eq (b.extract 64 b.size)
      have e2 := Hb2.out
      have e3 := Hb3.out
      rw [e2] at Hcall Hbl
      rw [e3] at Hbd hbz
      go_wp2_with fail
      refine still_tail 9 (by kernel_rfl) (by kernel_rfl) ?_
      simp only [List.take_succ_cons, List.take_zero, List.drop_succ_cons, List.drop_zero]
      repeat still_step
      refine wpStill_nil ?_
      go_wp2_with fail
      refine (Hcall.out wr.drew rfl).mono ?_
      rintro e w2 ⟨rfl, hb2⟩
      have hA := At.set (w := wr.drew) (w' := w2) Hrow.out (lt_of_row Hrow.out) hb2
      rw [Hbl.out, sp32] at hA
      have HA : Away (At gh (R (k + 1)) 56 w1 w2) := ⟨Ha.out.trans (b := wr) (by rw [HR.out]; exact ⟨hA.os, hA.tape, hA.output, hA.size, hA.row, hA.block⟩)⟩
      clear hb2 hA c0 Hcall Hrow
      go_wp2_with fail
      go_roundw
      case rel => exact ⟨b3, k + 1, by rw [← hbs, Hb3.out], by omega, Hbd, by omega, HA⟩
      case measure => simp only [ByteArray.size_extract]; omega
    · have hk2 : nb = k := by rw [← Hnb.out]; omega
      subst hk2
      go_wp2_with fail
      go_ret
      exact ⟨⟨b, rfl, Hb.out⟩, Ha.out⟩

/-! ### 64 bits -/
/-- eight words behind k blocks -/
def run64 (K : List Nat) (v : V8) (l : List UInt8) : Nat → V8
  | 0 => v
  | k + 1 => bl64 K (run64 K v l k) ((l.drop (128 * k)).take 128)
theorem run_lt64 (K : List Nat) (v : V8) (l : List UInt8) (h : v.lt 18446744073709551616) (k : Nat) : (run64 K v l k).lt 18446744073709551616 := by
  cases k with
  | zero => exact h
  | succ k => exact ad_lt64 _ _
theorem run_app64 (K : List Nat) (v : V8) (a b : List UInt8) (k : Nat) (h : a.length = 128 * k) (m : Nat) : run64 K v (a ++ b) (k + m) = run64 K (run64 K v (a ++ b) k) b m := by
  induction m with
  | zero => rfl
  | succ m ih =>
    rw [← Nat.add_assoc, run64, ih, run64]
    congr 2
    rw [List.drop_append, List.drop_eq_nil_of_le (by rw [h]; omega), List.nil_append, h]
    congr 1
    omega
theorem run_pre64 (K : List Nat) (v : V8) (a b : List UInt8) (k : Nat) (h : 128 * k ≤ a.length) : run64 K v (a ++ b) k = run64 K v a k := by
  induction k with
  | zero => rfl
  | succ k ih =>
    rw [run64, run64, ih (by omega)]
    congr 1
    rw [List.drop_append_of_le_length (by omega), List.take_append_of_le_length (by rw [List.length_drop]; omega)]

set_option maxRecDepth 100000 in
set_option maxHeartbeats 4000000 in
theorem through64 (gt gh : Nat) (K : List Nat) (T : Array Value) (sm lg : V8) (r : ByteArray) (n : Int) (s : ByteArray) (w : World) (hv : lg.lt 18446744073709551616) (hK : ∀ i, K.getD i 0 < 18446744073709551616)
    (ht : w.heap[gt]? = some (.cells T 33 (0, 0))) (hT : ∀ i, i < 80 → T[72 + i]? = some (.int .u64 ((K.getD i 0 : Nat) : Int)))
    (hh : w.heap[gh]? = some (.cells (HC true sm lg r n) 56 (0, 0))) (hne : gt ≠ gh) (hs : s.size ≤ 1099511627776) :
    Calls Try.prog 55 #[.pointer (some ⟨gt, 0, none⟩), .pointer (some ⟨gh, 0, none⟩), .string s] w fun e w' => (∃ b : ByteArray, e = .returned (.string b) ∧ b.data.toList = s.data.toList.drop (128 * (s.size / 128))) ∧ At gh (HC true sm (run64 K lg s.data.toList (s.size / 128)) r n) 56 w w' := by
  have hlt := lt_of_row ht
  have hlh := lt_of_row hh
  have HT := Away.mk hT
  have HK := Away.mk hK
  have Ht := Away.mk ht
  have Hh := Away.mk hh
  have Hv := Away.mk hv
  obtain ⟨l, Hl⟩ := ex_eq s.data.toList
  have Hll : Away (l.length = s.size) := ⟨by rw [← Hl.out]; rfl⟩
  rw [Hl.out]
  have c0 : w.cell? ⟨gh, 0, none⟩ = some (.bool true) := (cell_of_row w gh 0 _ _ (0, 0) hh).trans rfl
  obtain ⟨R, HR⟩ : ∃ R : Nat → Array Value, Away (∀ k, R k = (HC true sm (run64 K lg l k) r n)) := ⟨fun k => (HC true sm (run64 K lg l k) r n), ⟨fun _ => rfl⟩⟩
  rw [← HR.out (s.size / 128)]
  obtain ⟨nb, Hnb⟩ := ex_eq (s.size / 128)
  rw [Hnb.out]
  clear hT hK ht hh hv
  go_enter Try.func55, Try.ntmps55
  go_wp2_with fail
  refine (size_any true _).mono ?_
  rintro e w1 ⟨rfl, rfl⟩
  simp only [if_true]
  go_wp2_with fail
  clear c0
  go_loopw [2] (fun x wr => ∃ (b : ByteArray) (k : Nat), x = .string b ∧ 128 * k ≤ s.size ∧ Away (b.data.toList = l.drop (128 * k)) ∧ b.size = s.size - 128 * k ∧ Away (At gh (R k) 56 w1 wr)) (fun x _ => match x with | .string b => b.size | _ => 0)
  case atStart => exact ⟨s, 0, rfl, by omega, ⟨Hl.out⟩, rfl, ⟨by rw [HR.out]; exact At.refl Hh.out⟩⟩
  case round =>
    obtain ⟨b, k, rfl, hk, Hb, hbs, Ha⟩ := hrel
    by_cases hc : 128 ≤ b.size
    · have c0 : wr.cell? ⟨gh, 0, none⟩ = some (.bool true) := by rw [Ha.out.cell, HR.out]; rfl
      have Hrow : Away (wr.heap[gh]? = some (.cells (HC true sm (run64 K lg l k) r n) 56 (0, 0))) := ⟨by rw [← HR.out]; exact Ha.out.row⟩
      have Htt := Away.mk (Ha.out.other hlt hne Ht.out)
      have z1 := Ha.out.size
      have Hcall : Away (∀ w2 : World, w2.heap = wr.heap → Calls Try.prog 70 #[.pointer (some ⟨gt, 72, none⟩), .pointer (some ⟨gh, 9, none⟩), .string (b.extract 0 128)] w2 fun e w' => e = .returned (.tuple #[]) ∧ Below w2.heap.size (w2.setCells gh 9 (LK .u64 (bl64 K (run64 K lg l k) (b.extract 0 128).data.toList).l).toList) w') :=
        ⟨fun w2 hw2 => block64 gt gh K (run64 K lg l k) (b.extract 0 128) w2 (by rw [ByteArray.size_extract]; omega) (run_lt64 K lg l Hv.out k) HK.out
          (fun i hi => (cell_of_row w2 gt (72 + i) _ _ (0, 0) (by rw [hw2]; exact Htt.out)).trans (HT.out i hi))
          (fun i hi => ⟨(cell_of_row w2 gh (9 + i) _ _ (0, 0) (by rw [hw2]; exact Hrow.out)).trans (hc64 _ _ _ _ _ i hi), frozen_of_row w2 gh (9 + i) _ _ (by rw [hw2]; exact Hrow.out)⟩) (by rw [hw2]; omega) (by rw [hw2]; omega)⟩
      have Hbl : Away ((b.extract 0 128).data.toList = (l.drop (128 * k)).take 128) := ⟨by rw [← Hb.out]; simp⟩
      have Hbd : Away ((b.extract 128 b.size).data.toList = l.drop (128 * (k + 1))) := ⟨by
        rw [Nat.mul_add, ← List.drop_drop, ← Hb.out, Nat.mul_one]
        simp only [ByteArray.data_extract, Array.toList_extract, List.take_of_length_le, List.length_drop, Array.length_toList, ByteArray.size_data, Nat.le_refl]⟩
      have hbz : (b.extract 128 b.size).size = b.size - 128 := by rw [ByteArray.size_extract]; omega
      obtain ⟨b2, Hb2⟩ := ex_eq (b.extract 0 128)
      obtain ⟨b3, Hb3⟩ := ex_eq (b.extract 128 b.size)
      have e2 := Hb2.out
      have e3 := Hb3.out
      rw [e2] at Hcall Hbl
      rw [e3] at Hbd hbz
      go_wp2_with fail
      refine still_tail 9 (by kernel_rfl) (by kernel_rfl) ?_
      simp only [List.take_succ_cons, List.take_zero, List.drop_succ_cons, List.drop_zero]
      repeat still_step
      refine wpStill_nil ?_
      go_wp2_with fail
      refine (Hcall.out wr.drew rfl).mono ?_
      rintro e w2 ⟨rfl, hb2⟩
      have hA := At.set (w := wr.drew) (w' := w2) Hrow.out (lt_of_row Hrow.out) hb2
      rw [Hbl.out, sp64] at hA
      have HA : Away (At gh (R (k + 1)) 56 w1 w2) := ⟨Ha.out.trans (b := wr) (by rw [HR.out]; exact ⟨hA.os, hA.tape, hA.output, hA.size, hA.row, hA.block⟩)⟩
      clear hb2 hA c0 Hcall Hrow
      go_wp2_with fail
      go_roundw
      case rel => exact ⟨b3, k + 1, by rw [← hbs, Hb3.out], by omega, Hbd, by omega, HA⟩
      case measure => simp only [ByteArray.size_extract]; omega
    · have hk2 : nb = k := by rw [← Hnb.out]; omega
      subst hk2
      go_wp2_with fail
      go_ret
      exact ⟨⟨b, rfl, Hb.out⟩, Ha.out⟩
end Go.Proofs.Ythfljfampfioaaa.thru
