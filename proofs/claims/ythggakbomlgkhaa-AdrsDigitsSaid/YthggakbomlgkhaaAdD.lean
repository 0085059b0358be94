/-
  What adrs.Digits returns, for any string, width and number. Conditions: the string's length fits an int.
-/
import Derived.Test.YthggakbomlgkhaaAdS
import Derived.Test.YthggakbomlgkhaaAdP
import Derived.Test.YthggakbomlgkhaaAdQ
import Derived.Test.YthggakbomlgkhaaPoly
namespace Go.Proofs.Ythggakbomlgkhaa.addg
open Go Go.RowKit
open Go.Proofs.Ythggakbomlgkhaa.arr Go.Proofs.Ythggakbomlgkhaa.mem Go.Proofs.Ythggakbomlgkhaa.stil Go.Proofs.Ythggakbomlgkhaa.boxt Go.Proofs.Ythggakbomlgkhaa.polys Go.Proofs.Ythggakbomlgkhaa.adm Go.Proofs.Ythggakbomlgkhaa.adp Go.Proofs.Ythggakbomlgkhaa.adq Go.Proofs.Ythggakbomlgkhaa.ads

/-- a slice of n ints -/
def Ro (w : World) (B : Nat) (v : Value) (n : Nat) (x : Nat → Int) : Prop :=
  (v = .slice none 0 0 ∧ n = 0) ∨ ∃ g cap, ∃ C : Array Value, v = .slice (some ⟨g, 0, none⟩) n cap ∧ B ≤ g ∧ w.heap[g]? = some (.cells C 3 (0, 0)) ∧ ∀ j, j < n → C[j]? = some (.int .i64 (x j))
theorem Ro.later {w w' : World} {B : Nat} {v : Value} {n : Nat} {x : Nat → Int} (h : Ro w B v n x) (hb : Below w.heap.size w w') : Ro w' B v n x :=
  h.imp id fun ⟨g, cap, C, h1, h2, h3, h4⟩ => ⟨g, cap, C, h1, h2, (hb.block _ (lt_of_row h3)).trans h3, h4⟩
theorem own_row {w : World} {B n g : Nat} {e : TypeId} {xs : List Value} (h : w.ownsRow B e 1 (.slice (some ⟨g, 0, none⟩) n n) n xs) : w.heap[g]? = some (.cells xs.toArray e (0, 0)) := by
  obtain ⟨hl, ⟨hv, -⟩ | ⟨g', cap, cur, hv, -, hg, -, -, hc, hx⟩⟩ := h
  · cases hv
  · injection hv with h1 h2 h3
    injection h1 with h1
    injection h1 with h1
    subst h1
    subst h3
    rw [hg]
    congr 2
    rw [Nat.mul_one] at hc hx
    rw [← hx, List.take_of_length_le (by simp [hc])]
theorem infoI : (Try.prog.info? 3).map (fun i => (i.zero, i.size, i.bytes)) = some (some (.int .i64 0), 1, 8) := by kernel_rfl
set_option maxRecDepth 100000 in
set_option maxHeartbeats 1000000 in
theorem digits_bad (s : ByteArray) (wd m : Int) (w : World) (h : ¬ (1 ≤ wd ∧ wd ≤ 24) ∨ ¬ (0 ≤ m ∧ m ≤ 50000)) :
    Calls Try.prog 19 #[.string s, .int .i64 wd, .int .i64 m] w fun e w' => e = .returned (.slice none 0 0) ∧ Below w.heap.size w w' := by
  have H1 : ∀ w1, _ := fun w1 => within_any wd 1 24 w1
  have H2 : ∀ w1, _ := fun w1 => within_any m 0 50000 w1
  by_cases h1 : 1 ≤ wd ∧ wd ≤ 24
  · have h2 := h.resolve_left (fun q => q h1)
    rw [decide_eq_true h1] at H1
    rw [decide_eq_false h2] at H2
    clear h h1 h2
    go_enter Try.func19, Try.ntmps19
    go_wp2_with fail
    refine (H1 _).mono ?_
    rintro e w1 ⟨rfl, hw⟩
    rw [hw]
    clear hw
    go_wp2_with fail
    refine (H2 _).mono ?_
    rintro e w1 ⟨rfl, hw⟩
    rw [hw]
    clear hw
    go_wp2_with fail
    go_ret
    exact ⟨rfl, Below.refl _ _⟩
  · rw [decide_eq_false h1] at H1
    clear h h1 H2
    go_enter Try.func19, Try.ntmps19
    go_wp2_with fail
    refine (H1 _).mono ?_
    rintro e w1 ⟨rfl, hw⟩
    rw [hw]
    clear hw
    go_wp2_with fail
    go_ret
    exact ⟨rfl, Below.refl _ _⟩
set_option maxRecDepth 100000 in
set_option maxHeartbeats 2000000 in
theorem digits_good (s : ByteArray) (wd m : Nat) (w : World) (h1 : 1 ≤ wd) (h2 : wd ≤ 24) (h3 : m ≤ 50000) (hs : s.size ≤ maxLen) :
    Calls Try.prog 19 #[.string s, .int .i64 (wd : Int), .int .i64 (m : Int)] w fun e w' => ∃ v, e = .returned v ∧ Ro w' w.heap.size v m (fun j => (dg (sb s) wd j : Int)) ∧ Below w.heap.size w w' := by
  unfold maxLen at hs
  have H1 : ∀ w1, _ := fun w1 => within_any (wd : Int) 1 24 w1
  have H2 : ∀ w1, _ := fun w1 => within_any (m : Int) 0 50000 w1
  rw [decide_eq_true (by omega)] at H1 H2
  obtain ⟨i0, hi, hz0, hz1, hz2⟩ := info_parts infoI
  go_enter Try.func19, Try.ntmps19
  go_wp2_with fail
  refine (H1 _).mono ?_
  rintro e w1 ⟨rfl, hw⟩
  rw [hw]
  clear hw
  go_wp2_with fail
  refine (H2 _).mono ?_
  rintro e w1 ⟨rfl, hw⟩
  rw [hw]
  clear hw
  go_wp2_with (at_make; refine wpList_make_full _ rfl (.tmp 20) (.tmp 20) 36 rfl w.heap.size 3 i0 (.int .i64 0) 1 Try.underlying36 hi hz0 hz1 .i64 .i64 m m m rfl rfl rfl rfl (by rw [hz2]; omega) (by unfold maxLen; omega) (Nat.le_refl _) ?_; intro w2 hown hgrow)
  have hb1 : Below w.heap.size w w2 := (Below.refl _ _).grown hgrow (Nat.le_refl _) (fun k hk => by simp at hk)
  have hown0 : w2.ownsRow w.heap.size 3 1 (Value.slice (some ⟨w.heap.size, 0, none⟩) m m) m (List.replicate m (.int .i64 0)) := by
    simpa [Value.cells, toList_madeCells_one] using hown
  have hrow := own_row hown0
  have e0 : (List.replicate m (Value.int .i64 0)).toArray = FL .i64 m (pt (fun j => (dg (sb s) wd j : Int)) (fun _ => 0) 0) := by
    rw [pt_zero]
    unfold FL
    congr 1
    exact (List.eq_replicate_iff.2 ⟨by simp, fun v hv => by obtain ⟨_, _, rfl⟩ := List.mem_map.1 hv; rfl⟩).symm
  rw [e0] at hrow
  have Hr2 := Away.mk hrow
  have HB := Away.mk hb1
  clear hown hgrow hown0 hrow e0 hz0 hz1 hz2 hi hb1 H1 H2
  obtain ⟨g, hg⟩ : ∃ g, w.heap.size = g := ⟨_, rfl⟩
  have Hg := Away.mk hg
  rw [hg] at Hr2 HB ⊢
  clear hg
  go_loopw [8, 9, 10, 24] (fun x c a i wr => ∃ n b d : Nat, n ≤ m ∧ i = .int .i64 (n : Int) ∧ c = .int .i64 (d : Int) ∧ a = .int .i64 (b : Int) ∧ x = .int .i64 ((hd (sb s) b % 2 ^ d : Nat) : Int) ∧ 8 * b = n * wd + d ∧ d < 8 ∧ Away (At g (FL .i64 m (pt (fun j => (dg (sb s) wd j : Int)) (fun _ => 0) n)) 3 w2 wr)) (fun _ _ _ i _ => m - (intOf i).toNat)
  case atStart => exact ⟨0, 0, 0, Nat.zero_le _, rfl, rfl, rfl, rfl, by omega, by decide, ⟨At.refl Hr2.out⟩⟩
  case round =>
    obtain ⟨n, b, d, hn, rfl, rfl, rfl, rfl, he, hd8, HA⟩ := hrel
    have hx : hd (sb s) b % 2 ^ d < 256 := by
      have h8 : 2 ^ d ≤ 2 ^ 8 := Nat.pow_le_pow_right (by decide) (by omega)
      exact Nat.lt_of_lt_of_le (Nat.mod_lt _ (Nat.pow_pos (by decide))) h8
    by_cases hlt : n < m
    · have hnw : n * wd ≤ 1200000 := Nat.mul_le_mul (show n ≤ 50000 by omega) h2
      obtain ⟨y, hy⟩ : ∃ y, n * wd = y := ⟨_, rfl⟩
      rw [hy] at he hnw
      have He := Away.mk he
      have Hy := Away.mk hy
      obtain ⟨x, hx2⟩ : ∃ x, hd (sb s) b % 2 ^ d = x := ⟨_, rfl⟩
      rw [hx2] at hx ⊢
      have Hx := Away.mk hx2
      clear hx2 hy he
      go_wp2_with fail
      go_loop [8, 9, 10] (fun x c a => ∃ b d : Nat, c = .int .i64 (d : Int) ∧ a = .int .i64 (b : Int) ∧ x = .int .i64 ((hd (sb s) b % 2 ^ d : Nat) : Int) ∧ 8 * b = y + d ∧ d < wd + 8) (fun _ c _ => wd + 8 - (intOf c).toNat)
      case atStart => exact ⟨b, d, rfl, rfl, by rw [Hx.out], He.out, by omega⟩
      case round =>
        obtain ⟨b, d, rfl, rfl, rfl, he, hd8⟩ := hrel
        by_cases hdw : d < wd
        · have hx : hd (sb s) b % 2 ^ d < 16777216 := by
            have h8 : 2 ^ d ≤ 2 ^ 24 := Nat.pow_le_pow_right (by decide) (by omega)
            exact Nat.lt_of_lt_of_le (Nat.mod_lt _ (Nat.pow_pos (by decide))) h8
          have Hst := Away.mk (hd_step (sb s) b d (sb_lt s b))
          obtain ⟨x, hx2⟩ : ∃ x, hd (sb s) b % 2 ^ d = x := ⟨_, rfl⟩
          rw [hx2] at hx Hst ⊢
          have He := Away.mk he
          clear hx2
          by_cases hb : b < s.size
          · have hor := or_byte x (s[b]).toNat (by omega) (UInt8.toNat_lt _)
            rw [← sb_at s b hb, Hst.out, sb_at s b hb] at hor
            have hw8 : IntKind.i64.wrap ((s[b]).toNat : Int) = ((s[b]).toNat : Int) := by
              have := UInt8.toNat_lt (s[b])
              rw [IntKind.wrap_i64]; omega
            go_wp2_with fail
            go_round
            case rel => exact ⟨b + 1, d + 8, by go_num, by go_num, rfl, by have := He.out; omega, by omega⟩
            case measure => simp [intOf]; omega
          · have hz := sb_past s b (by omega)
            rw [hz] at Hst
            go_wp2_with fail
            go_round
            case rel => exact ⟨b + 1, d + 8, by go_num, by go_num, by rw [← Hst.out]; exact val_int (by omega), by have := He.out; omega, by omega⟩
            case measure => simp [intOf]; omega
        · have hx : hd (sb s) b % 2 ^ d < 2147483648 := by
            have h8 : 2 ^ d ≤ 2 ^ 31 := Nat.pow_le_pow_right (by decide) (by omega)
            exact Nat.lt_of_lt_of_le (Nat.mod_lt _ (Nat.pow_pos (by decide))) h8
          have hdg := dg_is (sb s) wd n b d (by rw [Hy.out]; exact he) (by omega) hd8
          have htk := hd_take (sb s) b d (d - wd) (by omega)
          obtain ⟨q, hq⟩ : ∃ q, d - wd = q := ⟨_, rfl⟩
          obtain ⟨x, hx2⟩ : ∃ x, hd (sb s) b % 2 ^ d = x := ⟨_, rfl⟩
          rw [hq] at hdg htk
          rw [hx2] at hx hdg htk ⊢
          have hdv := div_pow x q
          rw [hdg] at hdv
          have hpw := pow_wrap q (by omega)
          have hma := and_mask x q (by omega) (by omega)
          rw [htk] at hma
          have hqi : (d : Int) - (wd : Int) = (q : Int) := by omega
          have hq7 : q ≤ 7 := by omega
          have He := Away.mk he
          obtain ⟨C, HC⟩ := ex_eq (FL .i64 m (pt (fun j => (dg (sb s) wd j : Int)) (fun _ => 0) n))
          have HCs : Away (C.size = m) := ⟨by rw [← HC.out, fl_size]⟩
          rw [HC.out] at HA
          obtain ⟨D, hD⟩ : ∃ D, dg (sb s) wd n = D := ⟨_, rfl⟩
          rw [hD] at hdv
          have HD := Away.mk hD
          clear hx2 hdg htk he hD
          go_wp2_with (first
            | ((with_reducible refine wpList_put2 (by assumption) rfl _ _ _ rfl rfl ?_); refine ⟨_, _, _, rfl, rfl, rfl, (by rw [HCs.out]; omega), ?_⟩; intro wn HRn))
          go_roundw
          case rel => exact ⟨n + 1, b, q, by omega, by go_num, rfl, rfl, val_int (by
              rw [mask64 q (by omega), hma]), by
            have h8 := He.out
            have h9 := Hy.out
            rw [Nat.succ_mul n wd]
            omega, by omega, ⟨by
            have h9 := HRn.out
            rw [← HC.out, fl_set, pt_upd (fun j => (dg (sb s) wd j : Int)) (fun _ => 0) n (D : Int) (by show (D : Int) = ((dg (sb s) wd n : Nat) : Int); rw [HD.out])] at h9
            exact h9⟩⟩
          case measure => simp [intOf]; omega
    · obtain rfl : n = m := by omega
      rw [fl_all] at HA
      go_wp2_with fail
      go_ret
      exact ⟨_, rfl, Or.inr ⟨g, n, _, rfl, by rw [Hg.out]; exact Nat.le_refl _, HA.out.row, fun j hj => fl_get .i64 n _ j hj⟩, by rw [Hg.out]; exact HB.out.trans (HA.out.below (by rw [← Hg.out]; exact HB.out.size) (Nat.le_refl _))⟩
end Go.Proofs.Ythggakbomlgkhaa.addg
