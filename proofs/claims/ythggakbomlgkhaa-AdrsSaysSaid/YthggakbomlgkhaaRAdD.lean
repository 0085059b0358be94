/-
  What the reference's Digits returns, for any string, width and number. Conditions: the string's length fits an int.
-/
import Derived.Test.YthggakbomlgkhaaAdD
namespace Go.Proofs.Ythggakbomlgkhaa.radd
open Go Go.RowKit
open Go.Proofs.Ythggakbomlgkhaa.arr Go.Proofs.Ythggakbomlgkhaa.mem Go.Proofs.Ythggakbomlgkhaa.stil Go.Proofs.Ythggakbomlgkhaa.boxt Go.Proofs.Ythggakbomlgkhaa.polys Go.Proofs.Ythggakbomlgkhaa.adm Go.Proofs.Ythggakbomlgkhaa.adp Go.Proofs.Ythggakbomlgkhaa.adq Go.Proofs.Ythggakbomlgkhaa.addg

theorem news_at {w : World} {v : Value} {T : Nat} : ∀ j u, [v][j]? = some u → (w.alloc (.cells #[v] T)).cell? ((⟨w.heap.size, 0, none⟩ : Addr).add j) = some u := by
  intro j u hj
  match j, hj with
  | 0, hj =>
    simp at hj
    subst hj
    simp [Addr.add]
theorem owns_some {w : World} {base : Nat} {e : TypeId} {size : Nat} {v : Value} {n : Nat} {xs : List Value} (hn : 0 < n) (h : w.ownsRow base e size v n xs) : ∃ g cap, v = .slice (some ⟨g, 0, none⟩) n cap := by
  rcases h.2 with ⟨-, h0⟩ | ⟨g, cap, cur, hv, -⟩
  · omega
  · exact ⟨g, cap, hv⟩
/-- the first m numbers as cells -/
def cs (f : Nat → Int) (m : Nat) : List Value := (List.range m).map fun i => Value.int .i64 (f i)
theorem cs_succ (f : Nat → Int) (m : Nat) : cs f (m + 1) = cs f m ++ [.int .i64 (f m)] := by simp [cs, List.range_succ]
theorem ro_of {w : World} {B : Nat} {v : Value} {n : Nat} {f : Nat → Int} (h : w.ownsRow B 3 1 v n (cs f n)) : Ro w B v n f := by
  obtain ⟨-, hn | ⟨g, cap, cur, hv, hb, hg, hc, -, hz, hx⟩⟩ := h
  · exact Or.inl hn
  · refine Or.inr ⟨g, cap, cur, hv, hb, hg, fun j hj => ?_⟩
    rw [Nat.mul_one] at hx hz
    have h9 := congrArg (fun l => l[j]?) hx
    simp only [List.getElem?_take, if_pos hj] at h9
    rw [Array.getElem?_toList] at h9
    rw [h9]
    unfold cs
    rw [List.getElem?_map, List.getElem?_range hj]
    rfl
theorem slice_of {w : World} {B e size n : Nat} {v : Value} {xs : List Value} (h : w.ownsRow B e size v n xs) : ∃ p cap, v = .slice p n cap := by
  rcases h.2 with ⟨hv, h0⟩ | ⟨g, cap, cur, hv, -⟩
  · subst h0; exact ⟨_, _, hv⟩
  · exact ⟨_, _, hv⟩
set_option maxRecDepth 100000 in
set_option maxHeartbeats 1000000 in
theorem digits_bad (s : ByteArray) (wd m : Int) (w : World) (h : ¬ (1 ≤ wd ∧ wd ≤ 24) ∨ ¬ (0 ≤ m ∧ m ≤ 50000)) :
    Calls Try.prog 20 #[.string s, .int .i64 wd, .int .i64 m] w fun e w' => e = .returned (.slice none 0 0) ∧ Below w.heap.size w w' := by
  by_cases h1 : wd < 1
  · clear h
    go_enter Try.func20, Try.ntmps20
    go_wp2_with fail
    go_ret
    exact ⟨rfl, Below.refl _ _⟩
  by_cases h2 : 24 < wd
  · clear h
    go_enter Try.func20, Try.ntmps20
    go_wp2_with fail
    go_ret
    exact ⟨rfl, Below.refl _ _⟩
  by_cases h3 : m < 0
  · clear h
    go_enter Try.func20, Try.ntmps20
    go_wp2_with fail
    go_ret
    exact ⟨rfl, Below.refl _ _⟩
  have h4 : 50000 < m := by omega
  clear h
  go_enter Try.func20, Try.ntmps20
  go_wp2_with fail
  go_ret
  exact ⟨rfl, Below.refl _ _⟩
set_option maxRecDepth 100000 in
set_option maxHeartbeats 4000000 in
theorem digits_good (s : ByteArray) (wd m : Nat) (w : World) (h1 : 1 ≤ wd) (h2 : wd ≤ 24) (h3 : m ≤ 50000) (hs : s.size ≤ maxLen) :
    Calls Try.prog 20 #[.string s, .int .i64 (wd : Int), .int .i64 (m : Int)] w fun e w' => ∃ v, e = .returned v ∧ Ro w' w.heap.size v m (fun j => (dg (sb s) wd j : Int)) ∧ Below w.heap.size w w' := by
  unfold maxLen at hs
  obtain ⟨i0, hi, hz0, hz1, hz2⟩ := info_parts infoI
  have HI := Away.mk (And.intro hi (And.intro hz0 (And.intro hz1 hz2)))
  clear hi hz0 hz1 hz2
  obtain ⟨g, hg⟩ : ∃ g, w.heap.size = g := ⟨_, rfl⟩
  have Hg := Away.mk hg
  rw [hg]
  have Hown0 : Away (w.ownsRow g 3 1 (.slice none 0 0) 0 (cs (fun j => (dg (sb s) wd j : Int)) 0)) := ⟨World.ownsRow_nil _ _ _ _⟩
  have HB0 : Away (Below g w w) := ⟨Below.refl _ _⟩
  clear hg
  go_enter Try.func20, Try.ntmps20
  go_wp2_with fail
  go_loopw [7, 8, 9, 10] (fun o x c a wr => ∃ n b d : Nat, n ≤ m ∧ c = .int .i64 (d : Int) ∧ a = .int .i64 (b : Int) ∧ x = .int .i64 ((hd (sb s) b % 2 ^ d : Nat) : Int) ∧ 8 * b = n * wd + d ∧ d < 8 ∧ Away (wr.ownsRow g 3 1 o n (cs (fun j => (dg (sb s) wd j : Int)) n)) ∧ Away (Below g w wr)) (fun o _ _ _ _ => match o with
    | .slice _ n _ => m - n
    | _ => 0)
  case atStart => exact ⟨0, 0, 0, Nat.zero_le _, rfl, rfl, rfl, by omega, by decide, Hown0, HB0⟩
  case round =>
    obtain ⟨n, b, d, hn, rfl, rfl, rfl, he, hd8, Ho, Hb⟩ := hrel
    obtain ⟨p, cap, rfl⟩ := slice_of Ho.out
    have hx : hd (sb s) b % 2 ^ d < 256 := by
      have h8 : 2 ^ d ≤ 2 ^ 8 := Nat.pow_le_pow_right (by decide) (by omega)
      exact Nat.lt_of_lt_of_le (Nat.mod_lt _ (Nat.pow_pos (by decide))) h8
    by_cases hlt : n < m
    · have hnw : n * wd ≤ 1200000 := Nat.mul_le_mul (show n ≤ 50000 by omega) h2
      obtain ⟨y, hy⟩ : ∃ y, n * wd = y := ⟨_, rfl⟩
      rw [hy] at he hnw
      have He := Away.mk he
      have Hy := Away.mk hy
      obtain ⟨x, hx2⟩ : ∃ x, hd (sb s) b % 2 ^ d = x := ⟨_, rfl⟩
      rw [hx2] at hx ⊢
      have Hx := Away.mk hx2
      clear hx2 hy he
      go_wp2_with fail
      go_loop [8, 9, 10] (fun x c a => ∃ b d : Nat, c = .int .i64 (d : Int) ∧ a = .int .i64 (b : Int) ∧ x = .int .i64 ((hd (sb s) b % 2 ^ d : Nat) : Int) ∧ 8 * b = y + d ∧ d < wd + 8) (fun _ c _ => wd + 8 - (intOf c).toNat)
      case atStart => exact ⟨b, d, rfl, rfl, by rw [Hx.out], He.out, by omega⟩
      case round =>
        obtain ⟨b, d, rfl, rfl, rfl, he, hd8⟩ := hrel
        by_cases hdw : d < wd
        · have hx : hd (sb s) b % 2 ^ d < 16777216 := by
            have h8 : 2 ^ d ≤ 2 ^ 24 := Nat.pow_le_pow_right (by decide) (by omega)
            exact Nat.lt_of_lt_of_le (Nat.mod_lt _ (Nat.pow_pos (by decide))) h8
          have Hst := Away.mk (hd_step (sb s) b d (sb_lt s b))
          obtain ⟨x, hx2⟩ : ∃ x, hd (sb s) b % 2 ^ d = x := ⟨_, rfl⟩
          rw [hx2] at hx Hst ⊢
          have He := Away.mk he
          clear hx2
          by_cases hb : b < s.size
          · have hor := or_byte x (s[b]).toNat (by omega) (UInt8.toNat_lt _)
            rw [← sb_at s b hb, Hst.out, sb_at s b hb] at hor
            have hw8 : IntKind.i64.wrap ((s[b]).toNat : Int) = ((s[b]).toNat : Int) := by
              have := UInt8.toNat_lt (s[b])
              rw [IntKind.wrap_i64]; omega
            go_wp2_with fail
            go_round
            case rel => exact ⟨b + 1, d + 8, by go_num, by go_num, rfl, by have := He.out; omega, by omega⟩
            case measure => simp [intOf]; omega
          · have hz := sb_past s b (by omega)
            rw [hz] at Hst
            have hor := or_byte x 0 (by omega) (by decide)
            rw [Hst.out, Int.natCast_zero] at hor
            go_wp2_with fail
            go_round
            case rel => exact ⟨b + 1, d + 8, by go_num, by go_num, rfl, by have := He.out; omega, by omega⟩
            case measure => simp [intOf]; omega
        · have hx : hd (sb s) b % 2 ^ d < 2147483648 := by
            have h8 : 2 ^ d ≤ 2 ^ 31 := Nat.pow_le_pow_right (by decide) (by omega)
            exact Nat.lt_of_lt_of_le (Nat.mod_lt _ (Nat.pow_pos (by decide))) h8
          have hdg := dg_is (sb s) wd n b d (by rw [Hy.out]; exact he) (by omega) hd8
          have htk := hd_take (sb s) b d (d - wd) (by omega)
          obtain ⟨q, hq⟩ : ∃ q, d - wd = q := ⟨_, rfl⟩
          obtain ⟨x, hx2⟩ : ∃ x, hd (sb s) b % 2 ^ d = x := ⟨_, rfl⟩
          rw [hq] at hdg htk
          rw [hx2] at hx hdg htk ⊢
          have hdv := div_pow x q
          rw [hdg] at hdv
          have hpw := pow_wrap q (by omega)
          have hpw2 := pow_wrap wd (by omega)
          have hmk := mask_wrap q (by omega)
          have hmk2 := mask_wrap wd (by omega)
          have hma := and_mask x q (by omega) (by omega)
          rw [htk] at hma
          have hdl := dg_lt (sb s) wd n
          have hdl2 : dg (sb s) wd n < 16777216 := by
            have h8 : 2 ^ wd ≤ 2 ^ 24 := Nat.pow_le_pow_right (by decide) h2
            exact Nat.lt_of_lt_of_le hdl h8
          have hmd := and_mask (dg (sb s) wd n) wd (by omega) (by omega)
          rw [Nat.mod_eq_of_lt hdl] at hmd
          have hqi : (d : Int) - (wd : Int) = (q : Int) := by omega
          have hq7 : q ≤ 7 := by omega
          have He := Away.mk he
          have Hc : Away (cs (fun j => (dg (sb s) wd j : Int)) (n + 1) = cs (fun j => (dg (sb s) wd j : Int)) n ++ [.int .i64 (dg (sb s) wd n : Int)]) := ⟨cs_succ _ _⟩
          obtain ⟨D, hD⟩ : ∃ D, dg (sb s) wd n = D := ⟨_, rfl⟩
          rw [hD] at hdv hmd Hc hdl2
          have hwx := Hb.out.size
          have Hgs : Away (g ≤ w.heap.size) := ⟨by rw [Hg.out]; exact Nat.le_refl _⟩
          clear hx2 hdg htk he hD hdl
          go_wp2_with (at_builtin; refine wpList_append_own _ rfl _ _ 36 rfl g 3 i0 (.int .i64 0) 1 8 Try.underlying36 HI.out.1 HI.out.2.1 HI.out.2.2.1 HI.out.2.2.2 rfl (by decide) _ _ _ rfl (Ho.out.alloc _) ⟨wr.heap.size, 0, none⟩ 1 1 [.int .i64 (D : Int)] rfl rfl news_at (fun u hu => by simp at hu; subst hu; rfl) (by unfold maxLen; omega) (by omega) (by rw [size_alloc]; have := Hgs.out; omega) ?_)
          intro v' w4 hown' hgrow _
          have hgr : g ≤ wr.heap.size := Nat.le_trans Hgs.out hwx
          have hb4 : Below g wr w4 := ((Below.refl g wr).alloc hgr _).grown hgrow (by rw [size_alloc]; omega) (fun k hk => (Ho.out.lt k hk).1)
          have HB4 : Away (Below g w w4) := ⟨Hb.out.trans hb4⟩
          have OY : Away (w4.ownsRow g 3 1 v' (n + 1) (cs (fun j => (dg (sb s) wd j : Int)) (n + 1))) := ⟨by rw [Hc.out]; exact hown'⟩
          obtain ⟨p', cap', rfl⟩ := slice_of OY.out
          clear hown' hgrow hb4 hgr
          go_wp2_with fail
          go_roundw
          case rel => exact ⟨n + 1, b, q, by omega, rfl, rfl, val_int (by norm_cast), by
            have h8 := He.out
            have h9 := Hy.out
            rw [Nat.succ_mul n wd]
            omega, by omega, OY, HB4⟩
          case measure => show m - (n + 1) < m - n; omega
    · obtain rfl : n = m := by omega
      have R := ro_of Ho.out
      have HR := Away.mk R
      clear R
      go_wp2_with fail
      go_ret
      exact ⟨_, rfl, HR.out, Hb.out⟩
end Go.Proofs.Ythggakbomlgkhaa.radd
