/-
  What package bits' Unhints returns. Conditions: none.
-/
import Derived.Test.YtdlolhilmhlklaaDoorPolS
import Derived.Test.YtdlolhilmhlklaaDoorPInc
import Derived.Test.YtdlolhilmhlklaaDoorPSmall
import Derived.Test.YtdlolhilmhlklaaDoorShelfT
namespace Go.Proofs.YtdlolhilmhlklaaDoor.punh
open Go Go.RowKit
open Go.Proofs.YtdlolhilmhlklaaDoor.arr Go.Proofs.YtdlolhilmhlklaaDoor.mem Go.Proofs.YtdlolhilmhlklaaDoor.stil Go.Proofs.YtdlolhilmhlklaaDoor.polys Go.Proofs.YtdlolhilmhlklaaDoor.rbitb Go.Proofs.YtdlolhilmhlklaaDoor.rbitc Go.Proofs.YtdlolhilmhlklaaDoor.rbitd Go.Proofs.YtdlolhilmhlklaaDoor.rbitu Go.Proofs.YtdlolhilmhlklaaDoor.pols Go.Proofs.YtdlolhilmhlklaaDoor.pinc

set_option maxRecDepth 100000 in
set_option maxHeartbeats 4000000 in
theorem unhints_bad (s : ByteArray) (om m : Int) (w : World) (hm : om < 1 ∨ 255 < om ∨ m < 1 ∨ 8 < m ∨ (s.size : Int) ≠ om + m) :
    Calls Tryd.prog 10 #[.string s, .int .i64 om, .int .i64 m] w fun e w' => e = .returned (.tuple #[.slice none 0 0, .int .i64 1]) ∧ Below w.heap.size w w' := by
  by_cases h1 : 1 ≤ om ∧ om ≤ 255 ∧ 1 ≤ m ∧ m ≤ 8
  · have HM : ∀ w1 : World, Calls Tryd.prog 25 #[.int .i64 om, .int .i64 m] w1 fun e w' => e = .returned (.bool true) ∧ w' = w1 := fun w1 => by
      have h := psmall.hints_any om m w1
      rw [decide_eq_true h1] at h
      exact h
    have fw : IntKind.i64.wrap (om + m) = om + m := by rw [IntKind.wrap_i64]; omega
    have hne : (s.size : Int) ≠ om + m := by omega
    have fne : ((s.size : Int) != om + m) = true := by simpa using hne
    clear hm h1 hne
    go_enter Tryd.func10, Tryd.ntmps10
    go_wp2_with fail
    refine (HM _).mono ?_
    rintro e w ⟨rfl, rfl⟩
    go_wp2_with fail
    go_ret2
    exact ⟨rfl, Below.refl _ _⟩
  · have HM : ∀ w1 : World, Calls Tryd.prog 25 #[.int .i64 om, .int .i64 m] w1 fun e w' => e = .returned (.bool false) ∧ w' = w1 := fun w1 => by
      have h := psmall.hints_any om m w1
      rw [decide_eq_false h1] at h
      exact h
    clear hm h1
    go_enter Tryd.func10, Tryd.ntmps10
    go_wp2_with fail
    refine (HM _).mono ?_
    rintro e w ⟨rfl, rfl⟩
    go_wp2_with fail
    go_ret2
    exact ⟨rfl, Below.refl _ _⟩
/-- i polynomials are whole, t places of the next one are marked -/
def PM (β : Nat → Nat) (om i t : Nat) : Nat → Nat → Int := fun i' => if i' < i then ply β om i' else if i' = i then mk β (fr β om i) t else fun _ => 0
theorem pm_zero (β : Nat → Nat) (om : Nat) : PM β om 0 0 = fun _ _ => 0 := by
  funext i'
  unfold PM
  rw [if_neg (by omega)]
  by_cases e : i' = 0
  · rw [if_pos e]; rfl
  · rw [if_neg e]
theorem pm_step (β : Nat → Nat) (om i t : Nat) : (fun i' => if i' = i then upd (PM β om i t i) (β (fr β om i + t)) 1 else PM β om i t i') = PM β om i (t + 1) := by
  funext i'
  unfold PM
  by_cases e : i' = i
  · subst e
    rw [if_pos rfl, if_neg (by omega), if_pos rfl, if_neg (by omega), if_pos rfl]
    rfl
  · rw [if_neg e, if_neg e, if_neg e]
theorem pm_next (β : Nat → Nat) (om i : Nat) : PM β om i (fr β om (i + 1) - fr β om i) = PM β om (i + 1) 0 := by
  funext i'
  unfold PM
  by_cases h1 : i' < i
  · rw [if_pos h1, if_pos (by omega)]
  · rw [if_neg h1]
    by_cases h2 : i' = i
    · subst h2
      rw [if_pos rfl, if_pos (by omega)]
      rfl
    · rw [if_neg h2, if_neg (by omega)]
      by_cases h3 : i' = i + 1
      · rw [if_pos h3]; rfl
      · rw [if_neg h3]
theorem inc_part (s : ByteArray) (n to : Nat) (h1 : n ≤ to) (h2 : to ≤ s.size) : incs (s.extract n to) ↔ ∀ k, n < k → k < to → (bys s).getD (k - 1) 0 < (bys s).getD k 0 := by
  unfold incs
  rw [size_extract s n to h1 h2]
  constructor
  · intro h k hk1 hk2
    have := h (k - n) (by omega) (by omega)
    rw [bys_extract s n to _ (by omega), bys_extract s n to _ (by omega), show n + (k - n - 1) = k - 1 by omega, show n + (k - n) = k by omega] at this
    exact this
  · intro h k hk1 hk2
    have := h (n + k) (by omega) (by omega)
    rw [bys_extract s n to _ (by omega), bys_extract s n to _ (by omega), show n + (k - 1) = n + k - 1 by omega]
    exact this
theorem zero_part (s : ByteArray) (n om : Nat) (h1 : n ≤ om) (h2 : om ≤ s.size) : (∀ b ∈ (s.extract n om).data.toList, b = 0) ↔ ∀ k, n ≤ k → k < om → (bys s).getD k 0 = 0 := by
  have hl : (s.extract n om).data.toList.length = om - n := by rw [← Lib.size_eq, size_extract s n om h1 h2]
  have hg : ∀ j, j < om - n → (bys (s.extract n om)).getD j 0 = ((s.extract n om).data.toList[j]?.map (·.toNat)).getD 0 := fun j _ => by
    unfold bys
    rw [List.getD_eq_getElem?_getD, List.getElem?_map]
  constructor
  · intro h k hk1 hk2
    have e := bys_extract s n om (k - n) (by omega)
    rw [show n + (k - n) = k by omega] at e
    rw [← e, hg _ (by omega), List.getElem?_eq_getElem (by omega)]
    have := h _ (List.getElem_mem (by omega : k - n < (s.extract n om).data.toList.length))
    simp only [Option.map_some, Option.getD_some]
    rw [this]
    rfl
  · intro h b hb
    obtain ⟨j, hj, rfl⟩ := List.getElem_of_mem hb
    have e := bys_extract s n om j (by omega)
    rw [h (n + j) (by omega) (by omega), hg j (by omega), List.getElem?_eq_getElem hj] at e
    have e2 : ((s.extract n om).data.toList[j]).toNat = 0 := e
    exact UInt8.toNat_inj.1 (by rw [e2]; rfl)
theorem own_rowS {w : World} {base g M size : Nat} {e : TypeId} {xs : List Value} (h : w.ownsRow base e size (.slice (some ⟨g, 0, none⟩) M M) M xs) : ∃ cur, w.heap[g]? = some (.cells cur e (0, 0)) ∧ cur.toList = xs := by
  rcases h.2 with ⟨h', -⟩ | ⟨g', cap', cur, h', hb, hg, -, hm, hs, htake⟩
  · simp at h'
  · simp only [Value.slice.injEq, Option.some.injEq, Addr.mk.injEq, and_true, true_and] at h'
    obtain ⟨rfl, rfl⟩ := h'
    refine ⟨cur, hg, ?_⟩
    rw [← htake, List.take_of_length_le (by rw [Array.length_toList]; omega)]
set_option maxRecDepth 100000 in
set_option maxHeartbeats 4000000 in
theorem unhints_any (s : ByteArray) (m om : Nat) (w : World) (hm1 : 1 ≤ m) (hm8 : m ≤ 8) (ho1 : 1 ≤ om) (ho2 : om ≤ 255) (hs : s.size = om + m) :
    Calls Tryd.prog 10 #[.string s, .int .i64 (om : Int), .int .i64 (m : Int)] w fun e w' => ((uok (fun j => (bys s).getD j 0) om m ∧ ∃ v, e = .returned (.tuple #[v, .int .i64 0]) ∧ Holds w' w.heap.size v m (ply (fun j => (bys s).getD j 0) om)) ∨ (¬ uok (fun j => (bys s).getD j 0) om m ∧ e = .returned (.tuple #[.slice none 0 0, .int .i64 3]))) ∧ Below w.heap.size w w' := by
  obtain ⟨i0, hi, hz0, hz1, hz2⟩ := parts infoPoly
  have HM : ∀ w1 : World, Calls Tryd.prog 25 #[.int .i64 (om : Int), .int .i64 (m : Int)] w1 fun e w' => e = .returned (.bool true) ∧ w' = w1 := fun w1 => by
    have h := psmall.hints_any (om : Int) (m : Int) w1
    rw [decide_eq_true (by omega)] at h
    exact h
  have HInc : Away (∀ n to, n ≤ to → to ≤ om → ∀ w1 : World, Calls Tryd.prog 26 #[.string (s.extract n to)] w1 fun e w' => e = .returned (.bool (decide (incs (s.extract n to)))) ∧ Below w1.heap.size w1 w') := ⟨fun n to h1 h2 w1 => pinc.inc_any (s.extract n to) (to - n) (size_extract s n to h1 (by omega)) (by omega) w1⟩
  have HIff : Away (∀ n to, n ≤ to → to ≤ om → (incs (s.extract n to) ↔ ∀ k, n < k → k < to → (bys s).getD (k - 1) 0 < (bys s).getD k 0)) := ⟨fun n to h1 h2 => inc_part s n to h1 (by omega)⟩
  have HTr : Away (∀ n, n ≤ om → ∀ w1 : World, Calls Tryd.prog 27 #[.string (s.extract n om), .string ⟨#[0]⟩] w1 fun e w' => e = .returned (.string ⟨(Lib.trimB (s.extract n om).data.toList 0).toArray⟩) ∧ Below w1.heap.size w1 w') := ⟨fun n h1 w1 => trims.trim_any (s.extract n om) (by rw [size_extract s n om h1 (by omega)]; omega) w1⟩
  have HZr : Away (∀ n, n ≤ om → ((∀ b ∈ (s.extract n om).data.toList, b = 0) ↔ ∀ k, n ≤ k → k < om → (bys s).getD k 0 = 0)) := ⟨fun n h1 => zero_part s n om h1 (by omega)⟩
  obtain ⟨β, Hβ⟩ := ex_eq (fun j => (bys s).getD j 0)
  have Hβ' : Away (∀ k, (bys s).getD k 0 = β k) := ⟨fun k => by rw [← Hβ.out]⟩
  rw [Hβ.out]
  have Hix : Away (∀ j, j < om + m → ∀ w1 : World, (Instr.index 9 (.string s) (.int .i64 (j : Int))).run Tryd.prog w1 = .ok (.int .u8 ((β j : Nat) : Int)) w1) := ⟨fun j hj w1 => byte_of s j _ (by omega) (Hβ'.out j) w1⟩
  have Hb8 : Away (∀ j, β j < 256) := ⟨fun j => by rw [← Hβ'.out]; exact pinc.byte_lt s j⟩
  obtain ⟨z, HZ⟩ := ex_eq (FL .i64 256 fun _ => 0)
  rw [HZ.out] at hz0
  have HI := Away.mk (And.intro hi (And.intro hz0 (And.intro hz1 hz2)))
  obtain ⟨M, hM⟩ : ∃ M, om + m = M := ⟨_, rfl⟩
  have fM : (om : Int) + (m : Int) = (M : Int) := by omega
  have fMw : IntKind.i64.wrap ((om : Int) + (m : Int)) = (M : Int) := by rw [fM, IntKind.wrap_i64]; omega
  have fne : ((s.size : Int) != (M : Int)) = false := by rw [show (s.size : Int) = (M : Int) by omega]; simp
  have HsM : Away (s.size = M) := ⟨by omega⟩
  clear hi hz0 hz1 hz2 hM
  go_enter Tryd.func10, Tryd.ntmps10
  go_wp2_with fail
  refine (HM _).mono ?_
  rintro e w ⟨rfl, rfl⟩
  go_wp2_with (at_make; refine wpList_make_full _ rfl (.tmp 25) (.tmp 25) 30 rfl w.heap.size 25 i0 (.agg z) 256 Tryd.underlying30 HI.out.1 HI.out.2.1 HI.out.2.2.1 .i64 .i64 m m m rfl rfl rfl rfl (by rw [HI.out.2.2.2]; omega) (by unfold maxLen; omega) (Nat.le_refl _) ?_)
  intro w3 hown hgr
  have B3 : Away (Below w.heap.size w w3) := ⟨(Below.refl _ _).grown hgr (Nat.le_refl _) (fun k hk => by simp at hk)⟩
  obtain ⟨cur, hcur, hcl⟩ := own_rowS hown
  have e0 : cur = RW m (PM β om 0 0) := by
    apply Array.ext'
    rw [hcl, pm_zero, ← made_rw, HZ.out]
  rw [e0] at hcur
  have hg3 : Away (w.heap.size < w3.heap.size) := ⟨lt_of_row hcur⟩
  have A3 : Away (At w.heap.size (RW m (PM β om 0 0)) 25 w3 w3) := ⟨At.refl hcur⟩
  clear hown hgr hcl e0 hcur fM fMw fne HM
  go_wp2_with fail
  go_loopw [9, 29] (fun c v wr => ∃ i : Nat, i ≤ m ∧ v = .int .i64 (i : Int) ∧ c = .int .i64 ((fr β om i : Nat) : Int) ∧ fr β om i ≤ om ∧ Away (∀ j, j < i → one β om j) ∧ Away (At w.heap.size (RW m (PM β om i 0)) 25 w3 wr)) (fun _ v _ => m - (intOf v).toNat)
  case atStart => exact ⟨0, Nat.zero_le _, rfl, rfl, Nat.zero_le _, ⟨fun j hj => by omega⟩, A3⟩
  case round =>
    clear A3
    obtain ⟨i, hi, rfl, rfl, hno, Hall, A0⟩ := hrel
    have BE : Away (Below w.heap.size w wr) := ⟨B3.out.trans (A0.out.below (Nat.le_of_lt hg3.out) (Nat.le_refl _))⟩
    by_cases hlt : i < m
    · have hiz : (i : Int) < (m : Int) := by omega
      have Hi := Away.mk hlt
      obtain ⟨n, hn⟩ : ∃ n, fr β om i = n := ⟨_, rfl⟩
      obtain ⟨to, hto⟩ : ∃ to, β (om + i) = to := ⟨_, rfl⟩
      have Hto : Away (fr β om (i + 1) = to) := ⟨hto⟩
      have hto8 : to < 256 := by rw [← hto]; exact Hb8.out _
      have hidx0 := Hix.out (om + i) (by omega)
      obtain ⟨oi, hoi⟩ : ∃ oi, om + i = oi := ⟨_, rfl⟩
      rw [hto, hoi] at hidx0
      rw [hn] at hno ⊢
      have Hn := Away.mk hn
      have foi : (om : Int) + (i : Int) = (oi : Int) := by omega
      have foiw : IntKind.i64.wrap ((om : Int) + (i : Int)) = (oi : Int) := by rw [foi, IntKind.wrap_i64]; omega
      have fto : IntKind.i64.wrap (to : Int) = (to : Int) := by rw [IntKind.wrap_i64]; omega
      clear hn hto hoi foi
      by_cases hnt : to < n
      · have hc : (to : Int) < (n : Int) := by omega
        have hno2 : Away (¬ uok β om m) := ⟨fun h => by have := (h.1 i Hi.out).1; rw [Hn.out, Hto.out] at this; omega⟩
        go_wp2_with fail
        go_ret2
        exact ⟨Or.inr ⟨hno2.out, rfl⟩, BE.out⟩
      · by_cases hto3 : om < to
        · have hc : ¬ (to : Int) < (n : Int) := by omega
          have hc2 : (om : Int) < (to : Int) := by omega
          have hno2 : Away (¬ uok β om m) := ⟨fun h => by have := (h.1 i Hi.out).2.1; rw [Hto.out] at this; omega⟩
          go_wp2_with fail
          go_ret2
          exact ⟨Or.inr ⟨hno2.out, rfl⟩, BE.out⟩
        · have hc : ¬ (to : Int) < (n : Int) := by omega
          have hc2 : ¬ (om : Int) < (to : Int) := by omega
          have hinc := HInc.out n to (by omega) (by omega)
          have hiff := HIff.out n to (by omega) (by omega)
          by_cases hin : incs (s.extract n to)
          · rw [decide_eq_true hin] at hinc
            have hin2 := hiff.1 hin
            have Hone : Away (one β om i) := ⟨by
              unfold one
              rw [Hn.out, Hto.out]
              refine ⟨by omega, by omega, fun k h1 h2 => ?_⟩
              rw [← Hβ'.out, ← Hβ'.out]
              exact hin2 k h1 h2⟩
            have Hinc := Away.mk hinc
            have hsl : to ≤ s.size := by omega
            clear hin hin2 hiff hinc
            go_wp2_with fail
            refine (Hinc.out _).mono ?_
            rintro e w5 ⟨rfl, hb5⟩
            have A5 : Away (At w.heap.size (RW m (PM β om i (n - n))) 25 w3 w5) := ⟨by rw [Nat.sub_self]; exact A0.out.later hb5⟩
            clear hb5 A0 BE hidx0 foiw fto hsl Hinc
            go_wp2_with fail
            go_loopw [12] (fun v wr => ∃ k : Nat, n ≤ k ∧ k ≤ to ∧ v = .int .i64 (k : Int) ∧ Away (At w.heap.size (RW m (PM β om i (k - n))) 25 w3 wr)) (fun v _ => to - (intOf v).toNat)
            case atStart => exact ⟨n, Nat.le_refl _, by omega, rfl, A5⟩
            case round =>
              clear A5
              obtain ⟨k, hnk, hkt, rfl, A0⟩ := hrel
              by_cases hklt : k < to
              · have hkz : (k : Int) < (to : Int) := by omega
                have hidx := Hix.out k (by omega)
                obtain ⟨b, hb⟩ : ∃ b, β k = b := ⟨_, rfl⟩
                have hb8 : b < 256 := by rw [← hb]; exact Hb8.out k
                have hb256 : (b : Int) < 256 := by omega
                rw [hb] at hidx
                have Hset : Away ((RW m (PM β om i (k - n))).setIfInBounds (256 * i + b) (.int .i64 1) = RW m (PM β om i (k + 1 - n))) := ⟨by
                  rw [rw_set m _ i b hb8 1, show k + 1 - n = (k - n) + 1 by omega, ← pm_step, Hn.out, show n + (k - n) = k by omega, hb]⟩
                have Hlt : Away (256 * i + b < (RW m (PM β om i (k - n))).size) := ⟨by rw [rw_size]; have := Hi.out; omega⟩
                obtain ⟨o, ho⟩ : ∃ o, i * 256 = o := ⟨_, rfl⟩
                rw [show 256 * i = o by omega] at Hset Hlt
                have hiz2 : (i : Int) < (m : Int) := by have := Hi.out; omega
                have A1 : Away (At w.heap.size (RW m (PM β om i (k - n))) 25 w3 wr.drew) := ⟨at_drew A0.out⟩
                clear hb
                go_wp2_with fail
                refine still_tail 7 (by kernel_rfl) (by kernel_rfl) ?_
                simp only [List.take_succ_cons, List.take_zero, List.drop_succ_cons, List.drop_zero]
                repeat still_step
                refine wpStill_nil ?_
                clear A0 hidx
                with_reducible refine wpList_put2 A1 rfl _ _ _ rfl rfl ?_
                refine ⟨_, _, _, rfl, rfl, rfl, Hlt.out, ?_⟩
                intro wn HR
                rw [Hset.out] at HR
                go_wp2_with fail
                go_roundw
                case rel => exact ⟨k + 1, by omega, by omega, by go_num, HR⟩
                case measure => simp [intOf]; omega
              · obtain rfl : k = to := by omega
                have A6 : Away (At w.heap.size (RW m (PM β om (i + 1) 0)) 25 w3 wr) := ⟨by rw [← pm_next, Hto.out, Hn.out]; exact A0.out⟩
                have Hall2 : Away (∀ j, j < i + 1 → one β om j) := ⟨fun j hj => by
                  by_cases e : j = i
                  · subst e; exact Hone.out
                  · exact Hall.out j (by omega)⟩
                clear A0
                go_wp2_with fail
                go_roundw
                case rel => exact ⟨i + 1, by have := Hi.out; omega, by go_num, by rw [Hto.out], by rw [Hto.out]; omega, Hall2, A6⟩
                case measure => have := Hi.out; simp [intOf]; omega
          · rw [decide_eq_false hin] at hinc
            have hno2 : Away (¬ uok β om m) := ⟨fun h => by
              have := (h.1 i Hi.out).2.2
              rw [Hn.out, Hto.out] at this
              exact hin (hiff.2 fun k h1 h2 => by rw [Hβ'.out, Hβ'.out]; exact this k h1 h2)⟩
            have Hinc := Away.mk hinc
            have hsl : to ≤ s.size := by omega
            clear hin hiff hinc
            go_wp2_with fail
            refine (Hinc.out _).mono ?_
            rintro e w5 ⟨rfl, hb5⟩
            have BF : Away (Below w.heap.size w w5) := ⟨BE.out.trans (hb5.mono BE.out.size)⟩
            clear hb5 A0
            go_wp2_with fail
            go_ret2
            exact ⟨Or.inr ⟨hno2.out, rfl⟩, BF.out⟩
    · obtain rfl : i = m := by omega
      obtain ⟨n, hn⟩ : ∃ n, fr β om i = n := ⟨_, rfl⟩
      rw [hn] at hno ⊢
      have Hn := Away.mk hn
      have htr := HTr.out n hno
      have hzr := HZr.out n hno
      have hsl : om ≤ s.size := by omega
      clear hn
      by_cases hall : ∀ b ∈ (s.extract n om).data.toList, b = 0
      · rw [trims.trim_nil _ hall] at htr
        have hz := hzr.1 hall
        have hyes : Away (uok β om i) := ⟨Hall.out, fun k h1 h2 => by rw [Hn.out] at h1; rw [← Hβ'.out]; exact hz k h1 h2⟩
        have Htr := Away.mk htr
        clear hall hz hzr htr
        go_wp2_with fail
        refine (Htr.out _).mono ?_
        rintro e w5 ⟨rfl, hb5⟩
        have BF : Away (Below w.heap.size w w5) := ⟨BE.out.trans (hb5.mono BE.out.size)⟩
        have AF : Away (At w.heap.size (RW i (PM β om i 0)) 25 w3 w5) := ⟨A0.out.later hb5⟩
        clear hb5 A0
        go_wp2_with fail
        go_ret2
        refine ⟨Or.inl ⟨hyes.out, _, rfl, _, _, rfl, Nat.le_refl _, lt_of_row AF.out.row, fun j hj k hk => ?_⟩, BF.out⟩
        have := rw_cell AF.out.row j k hj hk
        unfold PM at this
        rw [if_pos hj] at this
        exact this
      · have hne := trims.trim_not _ hall
        have hno2 : Away (¬ uok β om i) := ⟨fun h => hall (hzr.2 fun k h1 h2 => by rw [Hβ'.out]; exact h.2 k (by rw [Hn.out]; exact h1) h2)⟩
        obtain ⟨t, ht⟩ : ∃ t : ByteArray, (⟨(Lib.trimB (s.extract n om).data.toList 0).toArray⟩ : ByteArray) = t := ⟨_, rfl⟩
        have htl : ¬ t.toList = [] := by rw [Lib.toList_data, ← ht]; simpa using hne
        have hte : t.toList.isEmpty = false := by simpa using htl
        rw [ht] at htr
        have Htr := Away.mk htr
        clear hall hne hzr htr ht A0
        go_wp2_with fail
        refine (Htr.out _).mono ?_
        rintro e w5 ⟨rfl, hb5⟩
        have BF : Away (Below w.heap.size w w5) := ⟨BE.out.trans (hb5.mono BE.out.size)⟩
        clear hb5
        go_wp2_with fail
        go_ret2
        exact ⟨Or.inr ⟨hno2.out, rfl⟩, BF.out⟩
end Go.Proofs.YtdlolhilmhlklaaDoor.punh
