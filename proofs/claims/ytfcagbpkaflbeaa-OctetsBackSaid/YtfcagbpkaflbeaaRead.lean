/-
  What octets.ReadInt and octets.ReadText return, for any string, any offset and any limit: the document's answers; memory that was there before stays as it was. Conditions: none but that the string's length fits an int.
-/
import Derived.Test.YtfcagbpkaflbeaaWorth
import Derived.Test.YtfcagbpkaflbeaaShelf
namespace Go.Proofs.Ytfcagbpkaflbeaa.reads
open Go.RowKit
open Go.Proofs.Ytfcagbpkaflbeaa.oct Go.Proofs.Ytfcagbpkaflbeaa.bits8

def tri (x : Int × Int × Int) : Value := .tuple #[.int .i64 x.1, .int .i64 x.2.1, .int .i64 x.2.2]

theorem getD_byte (s : ByteArray) (q : Nat) (h : q < s.size) : s.data.toList[q]?.getD 0 = s[q] := by
  rw [List.getElem?_eq_getElem (by simpa using h)]
  rfl

section
variable (s : ByteArray) (w : World)
set_option maxHeartbeats 400000 in
theorem readInt_arg (p : Int) (hp : p < 0 ∨ (s.size : Int) < p) :
    Calls Try.prog 16 #[.string s, .int .i64 p] w fun e w' => e = .returned (.tuple #[.int .i64 0, .int .i64 0, .int .i64 1]) ∧ w = w' := by
  by_cases h : p < 0
  · clear hp
    go_enter Try.func16, Try.ntmps16
    go_wp2
    go_ret3
    exact ⟨rfl, rfl⟩
  · have h2 : (s.size : Int) < p := by omega
    clear hp
    go_enter Try.func16, Try.ntmps16
    go_wp2
    go_ret3
    exact ⟨rfl, rfl⟩
set_option maxHeartbeats 400000 in
theorem readInt_end :
    Calls Try.prog 16 #[.string s, .int .i64 s.size] w fun e w' => e = .returned (.tuple #[.int .i64 0, .int .i64 0, .int .i64 2]) ∧ w = w' := by
  go_enter Try.func16, Try.ntmps16
  go_wp2
  go_ret3
  exact ⟨rfl, rfl⟩
variable (hs : s.size ≤ 9223372036854775800) (q : Nat) (hq : q < s.size)
include hs hq
set_option maxHeartbeats 400000 in
theorem readInt_wide (h : 7 < s[q].toNat) :
    Calls Try.prog 16 #[.string s, .int .i64 q] w fun e w' => e = .returned (.tuple #[.int .i64 0, .int .i64 0, .int .i64 3]) ∧ w = w' := by
  have h1 := s[q].toNat_lt
  go_enter Try.func16, Try.ntmps16
  go_wp2
  go_ret3
  exact ⟨rfl, rfl⟩
set_option maxHeartbeats 400000 in
theorem readInt_short (h7 : s[q].toNat ≤ 7) (h : s.size < q + 1 + s[q].toNat) :
    Calls Try.prog 16 #[.string s, .int .i64 q] w fun e w' => e = .returned (.tuple #[.int .i64 0, .int .i64 0, .int .i64 2]) ∧ w = w' := by
  go_enter Try.func16, Try.ntmps16
  go_wp2
  go_ret3
  exact ⟨rfl, rfl⟩
set_option maxHeartbeats 400000 in
theorem readInt_zero (h7 : s[q].toNat ≤ 7) (h : q + 1 + s[q].toNat ≤ s.size) (h0 : 0 < s[q].toNat) (hz : (s[q + 1]'(by omega)).toNat = 0) :
    Calls Try.prog 16 #[.string s, .int .i64 q] w fun e w' => e = .returned (.tuple #[.int .i64 0, .int .i64 0, .int .i64 3]) ∧ w = w' := by
  go_enter Try.func16, Try.ntmps16
  go_wp2
  go_ret3
  exact ⟨rfl, rfl⟩
set_option maxHeartbeats 400000 in
theorem rest_none (h7 : s[q].toNat ≤ 7) (h : q + 1 + s[q].toNat ≤ s.size) (h0 : s[q].toNat ≤ 0) (v : Nat) (hm : v ≤ 1125899906842624) (Hv : Hid (woU (s.extract (q + 1) (q + 1 + s[q].toNat)).data.toList = v)) (Hsz : Hid ((s.extract (q + 1) (q + 1 + s[q].toNat)).size ≤ maxLen)) :
    Calls Try.prog 16 #[.string s, .int .i64 q] w fun e w' => e = .returned (.tuple #[.int .i64 v, .int .i64 (q + 1 + s[q].toNat), .int .i64 0]) ∧ w = w' := by
  go_enter Try.func16, Try.ntmps16
  go_wp2_with fail
  refine (worth.worth_any _ _ Hsz.out).mono ?_
  rintro e w1 ⟨rfl, rfl⟩
  rw [Hv.out]
  go_wp2_with fail
  go_ret3
  exact ⟨rfl, rfl⟩
set_option maxHeartbeats 400000 in
theorem rest_over (h7 : s[q].toNat ≤ 7) (h : q + 1 + s[q].toNat ≤ s.size) (h0 : 0 < s[q].toNat) (h2 : q + 1 < s.size) (hz : 0 < s[q + 1].toNat) (v : Nat) (hm : 1125899906842624 < v) (Hv : Hid (woU (s.extract (q + 1) (q + 1 + s[q].toNat)).data.toList = v)) (Hsz : Hid ((s.extract (q + 1) (q + 1 + s[q].toNat)).size ≤ maxLen)) :
    Calls Try.prog 16 #[.string s, .int .i64 q] w fun e w' => e = .returned (.tuple #[.int .i64 0, .int .i64 0, .int .i64 3]) ∧ w = w' := by
  go_enter Try.func16, Try.ntmps16
  go_wp2_with fail
  refine (worth.worth_any _ _ Hsz.out).mono ?_
  rintro e w1 ⟨rfl, rfl⟩
  rw [Hv.out]
  go_wp2_with fail
  go_ret3
  exact ⟨rfl, rfl⟩
set_option maxHeartbeats 400000 in
theorem rest_good (h7 : s[q].toNat ≤ 7) (h : q + 1 + s[q].toNat ≤ s.size) (h0 : 0 < s[q].toNat) (h2 : q + 1 < s.size) (hz : 0 < s[q + 1].toNat) (v : Nat) (hm : v ≤ 1125899906842624) (Hv : Hid (woU (s.extract (q + 1) (q + 1 + s[q].toNat)).data.toList = v)) (Hsz : Hid ((s.extract (q + 1) (q + 1 + s[q].toNat)).size ≤ maxLen)) :
    Calls Try.prog 16 #[.string s, .int .i64 q] w fun e w' => e = .returned (.tuple #[.int .i64 v, .int .i64 (q + 1 + s[q].toNat), .int .i64 0]) ∧ w = w' := by
  go_enter Try.func16, Try.ntmps16
  go_wp2_with fail
  refine (worth.worth_any _ _ Hsz.out).mono ?_
  rintro e w1 ⟨rfl, rfl⟩
  rw [Hv.out]
  go_wp2_with fail
  go_ret3
  exact ⟨rfl, rfl⟩
end

theorem extract_list (s : ByteArray) (a c : Nat) : (s.extract a (a + c)).data.toList = (s.data.toList.drop a).take c := by
  rw [Lib.extract_data]
  congr 1
  omega

/-- ReadInt, for any string and any offset. -/
theorem readInt_any (s : ByteArray) (p : Int) (w : World) (hs : s.size ≤ 9223372036854775800) :
    Calls Try.prog 16 #[.string s, .int .i64 p] w fun e w' => e = .returned (tri (rdInt s.data.toList p)) ∧ w = w' := by
  have hl : s.data.toList.length = s.size := rfl
  by_cases h1 : p < 0 ∨ (s.size : Int) < p
  · rw [rdInt_arg _ _ (by rw [hl]; exact h1)]
    exact readInt_arg s w p h1
  obtain ⟨q, rfl⟩ := Int.eq_ofNat_of_zero_le (show 0 ≤ p by omega)
  by_cases h2 : q = s.size
  · subst h2
    rw [← hl, rdInt_end]
    exact readInt_end s w
  have hq : q < s.size := by omega
  have hc : (s.data.toList[q]?.getD 0).toNat = s[q].toNat := by rw [getD_byte s q hq]
  by_cases h3 : 7 < s[q].toNat
  · rw [rdInt_wide _ q _ hq hc h3]
    exact readInt_wide s w hs q hq h3
  by_cases h4 : s.size < q + 1 + s[q].toNat
  · rw [rdInt_short _ q _ hq hc (by omega) h4]
    exact readInt_short s w hs q hq (by omega) h4
  by_cases h5 : 0 < s[q].toNat ∧ (s.data.toList[q + 1]?.getD 0).toNat = 0
  · rw [rdInt_zero _ q _ hq hc (by omega) (by rw [hl]; omega) h5.1 h5.2]
    exact readInt_zero s w hs q hq (by omega) (by omega) h5.1 (by rw [← getD_byte s (q + 1) (by omega)]; exact h5.2)
  have hz : 0 < s[q].toNat → (s.data.toList[q + 1]?.getD 0).toNat ≠ 0 := fun a b => h5 ⟨a, b⟩
  have hv : woU (s.extract (q + 1) (q + 1 + s[q].toNat)).data.toList = wo ((s.data.toList.drop (q + 1)).take s[q].toNat) := by
    rw [extract_list, woU_small]
    exact Nat.le_trans (List.length_take_le _ _) (by omega)
  have hsz : (s.extract (q + 1) (q + 1 + s[q].toNat)).size ≤ maxLen := by rw [ByteArray.size_extract]; unfold maxLen; omega
  by_cases h0 : s[q].toNat = 0
  · have hw : wo ((s.data.toList.drop (q + 1)).take s[q].toNat) ≤ 1125899906842624 := by rw [h0, List.take_zero]; decide
    rw [rdInt_good _ q _ hq hc (by omega) (by rw [hl]; omega) hz hw]
    exact rest_none s w hs q hq (by omega) (by omega) (by omega) _ hw (Lib.hid hv) (Lib.hid hsz)
  have hz1 := hz (by omega)
  rw [getD_byte s (q + 1) (by omega)] at hz1
  by_cases h6 : 1125899906842624 < wo ((s.data.toList.drop (q + 1)).take s[q].toNat)
  · rw [rdInt_over _ q _ hq hc (by omega) (by rw [hl]; omega) hz h6]
    exact rest_over s w hs q hq (by omega) (by omega) (by omega) (by omega) (by omega) _ h6 (Lib.hid hv) (Lib.hid hsz)
  · rw [rdInt_good _ q _ hq hc (by omega) (by rw [hl]; omega) hz (by omega)]
    exact rest_good s w hs q hq (by omega) (by omega) (by omega) (by omega) (by omega) _ (by omega) (Lib.hid hv) (Lib.hid hsz)
end Go.Proofs.Ytfcagbpkaflbeaa.reads
