/-
  The statement AdrsDigits (P15.8): digits put together are the string's bits; each goes into its width. Conditions: the string's length fits an int.
-/
import Derived.Test.YthggakbomlgkhaaAwake15
import Derived.Test.YthggakbomlgkhaaSmall15
namespace Go.Proofs.Ythggakbomlgkhaa.l15d
open Go Go.RowKit
open Go.Proofs.Ythggakbomlgkhaa.arr Go.Proofs.Ythggakbomlgkhaa.mem Go.Proofs.Ythggakbomlgkhaa.stil Go.Proofs.Ythggakbomlgkhaa.boxt Go.Proofs.Ythggakbomlgkhaa.polys Go.Proofs.Ythggakbomlgkhaa.adm Go.Proofs.Ythggakbomlgkhaa.adp Go.Proofs.Ythggakbomlgkhaa.adq Go.Proofs.Ythggakbomlgkhaa.addg Go.Proofs.Ythggakbomlgkhaa.awake15 Go.Proofs.Ythggakbomlgkhaa.small15

set_option maxRecDepth 100000 in
set_option maxHeartbeats 1000000 in
theorem far (s : ByteArray) (x : Int) (w : World) (h : 300 < s.size) (hs : s.size ≤ maxLen) :
    Calls Try.prog 5 #[.string s, .int .i64 x] w fun e w' => e = .returned (.bool true) ∧ Below w.heap.size w w' := by
  unfold maxLen at hs
  have HAw := Away.mk (fun w1 => awake_any w1)
  go_enter Try.func5, Try.ntmps5
  go_wp2_with fail
  refine (HAw.out _).mono ?_
  rintro e w1 ⟨rfl, hb⟩
  have HB := Away.mk hb
  clear hb
  go_wp2_with fail
  go_ret
  exact ⟨rfl, HB.out⟩
set_option maxRecDepth 100000 in
set_option maxHeartbeats 4000000 in
theorem near (s : ByteArray) (x : Int) (w : World) (h : s.size ≤ 300) :
    Calls Try.prog 5 #[.string s, .int .i64 x] w fun e w' => e = .returned (.bool true) ∧ Below w.heap.size w w' := by
  have HAw := Away.mk (fun w1 => awake_any w1)
  obtain ⟨v, hv⟩ := Int.eq_ofNat_of_zero_le (a := (IntKind.u64.wrap x).tmod 24) (Int.tmod_nonneg _ (by rw [IntKind.wrap_u64]; omega))
  have hv2 : v < 24 := by
    have := Int.tmod_lt_of_pos (IntKind.u64.wrap x) (show (0 : Int) < 24 by decide)
    omega
  obtain ⟨wd, hwd⟩ : ∃ wd, v + 1 = wd := ⟨_, rfl⟩
  have h1 : 1 ≤ wd := by omega
  have h2 : wd ≤ 24 := by omega
  have hadd : 1 + (v : Int) = (wd : Int) := by omega
  obtain ⟨m, hm⟩ : ∃ m, 8 * s.size / wd = m := ⟨_, rfl⟩
  have hmi : 8 * (s.size : Int) / (wd : Int) = (m : Int) := by rw [← hm]; norm_cast
  have hm3 : m ≤ 2400 := by
    have : 8 * s.size / wd ≤ 8 * s.size := Nat.div_le_self _ _
    omega
  have hmw : m * wd ≤ 8 * s.size := by rw [← hm]; exact Nat.div_mul_le_self _ _
  have HD : Away (∀ w1 : World, Calls Try.prog 19 #[.string s, .int .i64 (wd : Int), .int .i64 (m : Int)] w1 fun e w' => ∃ v, e = .returned v ∧ Ro w' w1.heap.size v m (fun j => (dg (sb s) wd j : Int)) ∧ Below w1.heap.size w1 w') := ⟨fun w1 => addg.digits_good s wd m w1 h1 h2 (by omega) (by unfold maxLen; omega)⟩
  have Hmw := Away.mk hmw
  clear hwd hm hmw
  go_enter Try.func5, Try.ntmps5
  go_wp2_with fail
  refine (HD.out _).mono ?_
  rintro e w1 ⟨v1, rfl, hro, hb1⟩
  have B1 := Away.mk hb1
  obtain ⟨p, cap, rfl, hp⟩ := ro_open hro
  have HP := Away.mk hp
  clear hb1 hro hp
  go_wp2_with fail
  go_loop [6, 29] (fun a i => ∃ n : Nat, n ≤ m ∧ i = .int .i64 (n : Int) ∧ a = .int .i64 ((n * wd : Nat) : Int)) (fun _ i => m - (intOf i).toNat)
  case atStart => exact ⟨0, Nat.zero_le _, rfl, val_int (by omega)⟩
  case round =>
    obtain ⟨n, hn, rfl, rfl⟩ := hrel
    by_cases hlt : n < m
    · obtain ⟨g, rfl, hg, hc⟩ := HP.out n hlt
      have hD := dg_lt (sb s) wd n
      have Hbit := Away.mk (dg_bit (sb s) (sb_lt s) wd n)
      have hy2 : n * wd + wd ≤ m * wd := by rw [← Nat.succ_mul n wd]; exact Nat.mul_le_mul_right _ hlt
      have hy3 : n * wd + wd ≤ 8 * s.size := Nat.le_trans hy2 Hmw.out
      have Hsu := Away.mk (Nat.succ_mul n wd)
      obtain ⟨y, hy⟩ : ∃ y, n * wd = y := ⟨_, rfl⟩
      rw [hy] at hy3 Hbit Hsu ⊢
      have hD2 : dg (sb s) wd n < 16777216 := by
        have h8 : 2 ^ wd ≤ 2 ^ 24 := Nat.pow_le_pow_right (by decide) h2
        exact Nat.lt_of_lt_of_le hD h8
      obtain ⟨D, hDe⟩ : ∃ D, dg (sb s) wd n = D := ⟨_, rfl⟩
      rw [hDe] at hD hD2 Hbit hc
      have hpw := pow_wrap wd (by omega)
      have hDi : ¬ (2 : Int) ^ wd ≤ (D : Int) := by
        have e : ((2 ^ wd : Nat) : Int) = (2 : Int) ^ wd := by norm_cast
        omega
      clear hy hDe hy2 hD
      go_wp2_with fail
      go_loop [6, 9] (fun a k => ∃ j : Nat, j ≤ wd ∧ k = .int .i64 ((wd : Int) - 1 - (j : Int)) ∧ a = .int .i64 ((y + j : Nat) : Int)) (fun _ k => (intOf k + 1).toNat)
      case atStart => exact ⟨0, Nat.zero_le _, val_int (by omega), val_int (by omega)⟩
      case round =>
        obtain ⟨j, hj, rfl, rfl⟩ := hrel
        by_cases hjw : j < wd
        · obtain ⟨k, hk⟩ : ∃ k, wd - 1 - j = k := ⟨_, rfl⟩
          have hki : (wd : Int) - 1 - (j : Int) = (k : Int) := by omega
          have hb := Hbit.out k (by omega)
          rw [show wd - 1 - k = j by omega] at hb
          obtain ⟨A, hA⟩ : ∃ A, y + j = A := ⟨_, rfl⟩
          rw [hA] at hb ⊢
          have hA2 : A < 8 * s.size := by omega
          rw [sb_at s (A / 8) (by omega)] at hb
          have hA8 : A / 8 < s.size := by omega
          obtain ⟨a8, ha8⟩ : ∃ a8, A / 8 = a8 := ⟨_, rfl⟩
          have hq8 : (A : Int) / 8 = (a8 : Int) := by omega
          simp only [ha8] at hb
          rw [ha8] at hA8
          obtain ⟨r8, hr8⟩ : ∃ r8, A % 8 = r8 := ⟨_, rfl⟩
          have hr9 : (A : Int) % 8 = (r8 : Int) := by omega
          have hr7 : r8 ≤ 7 := by omega
          obtain ⟨c, hc2⟩ : ∃ c, 7 - r8 = c := ⟨_, rfl⟩
          rw [hr8, hc2] at hb
          have hci : (7 : Int) - (r8 : Int) = (c : Int) := by omega
          have hc7 : c ≤ 7 := by omega
          have hbl := UInt8.toNat_lt (s[a8])
          have hdv := div_pow (s[a8]).toNat c
          have hbl2 : (s[a8]).toNat / 2 ^ c < 256 := Nat.lt_of_le_of_lt (Nat.div_le_self _ _) hbl
          obtain ⟨bc, hbc⟩ : ∃ bc, (s[a8]).toNat / 2 ^ c = bc := ⟨_, rfl⟩
          rw [hbc] at hdv hbl2 hb
          have hau := and_u8 bc hbl2
          have hdk := div_pow D k
          have hdl2 : D / 2 ^ k ≤ D := Nat.div_le_self _ _
          obtain ⟨dk, hdke⟩ : ∃ dk, D / 2 ^ k = dk := ⟨_, rfl⟩
          rw [hdke] at hdk hdl2 hb
          have hao := and_one dk (by omega)
          rw [hb] at hao
          obtain ⟨β, hβ⟩ : ∃ β, bc % 2 = β := ⟨_, rfl⟩
          have hβ2 : β < 2 := by omega
          rw [hβ] at hau hao
          have hk24 : k < 24 := by omega
          rw [hki]
          have Hk := Away.mk hk
          have HA := Away.mk hA
          clear hb hβ hdke hbc hc2 hr8 ha8 hk hA
          go_wp2_with fail
          go_round
          case rel => exact ⟨j + 1, by omega, val_int (by have := Hk.out; omega), val_int (by have := HA.out; omega)⟩
          case measure => simp [intOf]
        · obtain rfl : j = wd := by omega
          have hneg : (j : Int) - 1 - (j : Int) = -1 := by omega
          go_wp2_with fail
          go_round
          case rel => exact ⟨n + 1, by omega, by go_num, val_int (by rw [← Hsu.out])⟩
          case measure => simp [intOf]; omega
    · obtain rfl : n = m := by omega
      go_wp2_with fail
      refine (HAw.out _).mono ?_
      rintro e w2 ⟨rfl, hb⟩
      have B2 : Away (Below w.heap.size w w2) := ⟨B1.out.trans (hb.mono B1.out.size)⟩
      clear hb
      go_wp2_with fail
      go_ret
      exact ⟨rfl, B2.out⟩
theorem walk (s : ByteArray) (x : Int) (w : World) (hs : s.size ≤ maxLen) (_hx : (Lit.int .i64 x).wf = true) : Calls Try.prog 5 #[.string s, .int .i64 x] w fun e w' => e = .returned (.bool true) ∧ Below w.heap.size w w' := by
  by_cases h : 300 < s.size
  · exact far s x w h hs
  · exact near s x w (by omega)
end Go.Proofs.Ythggakbomlgkhaa.l15d
