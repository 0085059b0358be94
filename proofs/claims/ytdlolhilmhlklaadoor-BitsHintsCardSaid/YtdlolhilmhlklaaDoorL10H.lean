/-
  What the statement BitsHints (P10.8) says is so: hints are read as they were laid, and bytes that are read are those that are laid; its walk. Conditions: none.
-/
import Derived.Test.YtdlolhilmhlklaaDoorAwake10
import Derived.Test.YtdlolhilmhlklaaDoorPUnh
import Derived.Test.YtdlolhilmhlklaaDoorOpenP
import Derived.Test.YtdlolhilmhlklaaDoorHinM
import Derived.Test.YtdlolhilmhlklaaDoorBase
namespace Go.Proofs.YtdlolhilmhlklaaDoor.l10h
set_option linter.unusedVariables false
open Go Go.RowKit
open Go.Proofs.YtdlolhilmhlklaaDoor.arr Go.Proofs.YtdlolhilmhlklaaDoor.mem Go.Proofs.YtdlolhilmhlklaaDoor.stil Go.Proofs.YtdlolhilmhlklaaDoor.qops Go.Proofs.YtdlolhilmhlklaaDoor.polys Go.Proofs.YtdlolhilmhlklaaDoor.rbitb Go.Proofs.YtdlolhilmhlklaaDoor.rbitc Go.Proofs.YtdlolhilmhlklaaDoor.rbith Go.Proofs.YtdlolhilmhlklaaDoor.rbitu Go.Proofs.YtdlolhilmhlklaaDoor.bitp Go.Proofs.YtdlolhilmhlklaaDoor.pols Go.Proofs.YtdlolhilmhlklaaDoor.openp Go.Proofs.YtdlolhilmhlklaaDoor.hinm

theorem Holds_congr {w : World} {B : Nat} {v : Value} {m : Nat} {p p' : Nat → Nat → Int} (h : Holds w B v m p) (e : ∀ i, i < m → ∀ k, k < 256 → p i k = p' i k) : Holds w B v m p' := by
  obtain ⟨g, c, hv, h1, h2, h3⟩ := h
  exact ⟨g, c, hv, h1, h2, fun i hi k hk => by rw [← e i hi k hk]; exact h3 i hi k hk⟩
theorem ext_getD (L M : List Nat) (hl : L.length = M.length) (h : ∀ j, j < L.length → L.getD j 0 = M.getD j 0) : L = M := by
  apply List.ext_getElem hl
  intro i h1 h2
  have := h i h1
  rw [List.getD_eq_getElem?_getD, List.getD_eq_getElem?_getD, List.getElem?_eq_getElem h1, List.getElem?_eq_getElem h2] at this
  exact this
/-- hints: too many, or laid and read -/
theorem way1 (g o n c om : Nat) (q : Nat → Nat → Int) (hn1 : 1 ≤ n) (hn8 : n ≤ 8) (ho1 : 1 ≤ om) (ho2 : om ≤ 255) :
    (∀ w : World, g < w.heap.size → (∀ i, i < n → w.rangeAt g (o + 256 * i) (FL .i64 256 (q i)).toList) → Calls Tryd.prog 13 #[.slice (some ⟨g, o, none⟩) n c, .int .i64 (om : Int)] w fun e w' => e = .returned (.tuple #[.string ⟨#[]⟩, .int .i64 6]) ∧ Below w.heap.size w w') ∨
    (∃ A : ByteArray, (∀ w : World, g < w.heap.size → (∀ i, i < n → w.rangeAt g (o + 256 * i) (FL .i64 256 (q i)).toList) → Calls Tryd.prog 13 #[.slice (some ⟨g, o, none⟩) n c, .int .i64 (om : Int)] w fun e w' => e = .returned (.tuple #[.string A, .int .i64 0]) ∧ Below w.heap.size w w') ∧
      ∀ w : World, Calls Tryd.prog 10 #[.string A, .int .i64 (om : Int), .int .i64 (n : Int)] w fun e w' => (∃ v, e = .returned (.tuple #[v, .int .i64 0]) ∧ Holds w' w.heap.size v n (fun i k => if q i k = 0 then 0 else 1)) ∧ Below w.heap.size w w') := by
  by_cases ht : tot q n ≤ om
  · refine Or.inr ⟨⟨(u8s (lay q om n n)).toArray⟩, fun w hg hr => ?_, fun w => ?_⟩
    · have h := phin.hints_any q g o c n om w hg hn1 hn8 ho1 ho2 hr
      rw [if_pos ht] at h
      exact h
    · have hb : bys ⟨(u8s (lay q om n n)).toArray⟩ = lay q om n n := bys_u8s _ (lay_lt q om n n (by omega))
      have hs : (⟨(u8s (lay q om n n)).toArray⟩ : ByteArray).size = om + n := by rw [← bys_length, hb, lay_length]
      have h := punh.unhints_any ⟨(u8s (lay q om n n)).toArray⟩ n om w hn1 hn8 ho1 ho2 hs
      rw [hb] at h
      refine h.mono fun e w' h => ⟨?_, h.2⟩
      rcases h.1 with ⟨-, v, hv, hh⟩ | ⟨h1, -⟩
      · exact ⟨v, hv, Holds_congr hh fun i hi k hk => ply_lay q om n ht i hi k hk⟩
      · exact absurd (uok_lay q om n ht) h1
  · refine Or.inl fun w hg hr => ?_
    have h := phin.hints_any q g o c n om w hg hn1 hn8 ho1 ho2 hr
    rw [if_neg ht] at h
    exact h
/-- bytes: an error, or read and laid -/
theorem way2 (s : ByteArray) (om : Nat) (ho1 : 1 ≤ om) (ho2 : om ≤ 255) :
    (∃ k : Int, k ≠ 0 ∧ ∀ w : World, Calls Tryd.prog 10 #[.string s, .int .i64 (om : Int), .int .i64 ((s.size : Int) - (om : Int))] w fun e w' => e = .returned (.tuple #[.slice none 0 0, .int .i64 k]) ∧ Below w.heap.size w w') ∨
    (∃ (m : Nat) (p : Nat → Nat → Int), (∀ w : World, Calls Tryd.prog 10 #[.string s, .int .i64 (om : Int), .int .i64 ((s.size : Int) - (om : Int))] w fun e w' => (∃ v, e = .returned (.tuple #[v, .int .i64 0]) ∧ Holds w' w.heap.size v m p) ∧ Below w.heap.size w w') ∧
      ∀ (w : World) (B : Nat) (v : Value), Holds w B v m p → Calls Tryd.prog 13 #[v, .int .i64 (om : Int)] w fun e w' => e = .returned (.tuple #[.string s, .int .i64 0]) ∧ Below w.heap.size w w') := by
  by_cases h0 : (s.size : Int) - (om : Int) < 1 ∨ 8 < (s.size : Int) - (om : Int)
  · exact Or.inl ⟨1, by decide, fun w => punh.unhints_bad s (om : Int) _ w (by omega)⟩
  · obtain ⟨m, hm⟩ : ∃ m : Nat, (s.size : Int) - (om : Int) = (m : Int) := ⟨((s.size : Int) - (om : Int)).toNat, by omega⟩
    have hs : s.size = om + m := by omega
    rw [hm]
    obtain ⟨β, Hβ⟩ : ∃ β, (fun j => (bys s).getD j 0) = β := ⟨_, rfl⟩
    have h8 : ∀ j, β j < 256 := fun j => by rw [← Hβ]; exact pinc.byte_lt s j
    by_cases hu : uok β om m
    · refine Or.inr ⟨m, ply β om, fun w => ?_, fun w B v hv => ?_⟩
      · have h := punh.unhints_any s m om w (by omega) (by omega) ho1 ho2 hs
        rw [Hβ] at h
        refine h.mono fun e w' h => ⟨?_, h.2⟩
        rcases h.1 with ⟨-, h1⟩ | ⟨h1, -⟩
        · exact h1
        · exact absurd hu h1
      · obtain ⟨g, c, rfl, -, hg, hc⟩ := hv
        have h := phin.hints_any (ply β om) g 0 c m om w hg (by omega) (by omega) ho1 ho2 (fun i hi => by rw [Nat.zero_add]; exact Holds.range (hc i hi))
        have e : lay (ply β om) om m m = bys s := ext_getD _ _ (by rw [lay_length, bys_length, hs]) fun j hj => by
          rw [lay_length] at hj
          rw [lay_ply β om m hu h8 j hj, ← Hβ]
        rw [if_pos (tot_le β om m hu h8), e, u8s_bys] at h
        exact h
    · refine Or.inl ⟨3, by decide, fun w => ?_⟩
      have h := punh.unhints_any s m om w (by omega) (by omega) ho1 ho2 hs
      rw [Hβ] at h
      refine h.mono fun e w' h => ⟨?_, h.2⟩
      rcases h.1 with ⟨h1, -⟩ | ⟨-, h1⟩
      · exact absurd h1 hu
      · exact h1
set_option maxRecDepth 100000 in
set_option maxHeartbeats 4000000 in
theorem walk_far (p : Option Addr) (n c : Nat) (s : ByteArray) (om : Int) (w : World) (h : n < 1 ∨ 8 < n ∨ 300 < s.size ∨ om < 1 ∨ 255 < om) :
    Calls Tryd.prog 4 #[.slice p n c, .string s, .int .i64 om] w fun e w' => e = .returned (.bool true) ∧ Below w.heap.size w w' := by
  have HA := Away.mk (fun w1 => awake10.awake_any w1)
  have B0 : Away (Below w.heap.size w w) := ⟨Below.refl _ _⟩
  have h : (n : Int) < 1 ∨ (¬ (n : Int) < 1 ∧ 8 < (n : Int)) ∨ (¬ (n : Int) < 1 ∧ ¬ 8 < (n : Int) ∧ 300 < (s.size : Int)) ∨ (¬ (n : Int) < 1 ∧ ¬ 8 < (n : Int) ∧ ¬ 300 < (s.size : Int) ∧ om < 1) ∨ (¬ (n : Int) < 1 ∧ ¬ 8 < (n : Int) ∧ ¬ 300 < (s.size : Int) ∧ ¬ om < 1 ∧ 255 < om) := by omega
  rcases h with h1 | ⟨h1, h2⟩ | ⟨h1, h2, h3⟩ | ⟨h1, h2, h3, h4⟩ | ⟨h1, h2, h3, h4, h5⟩
  · go_enter Tryd.func4, Tryd.ntmps4
    go_wp2_with fail
    refine (HA.out _).mono ?_
    rintro e w8 ⟨rfl, hb8⟩
    have BZ : Away (Below w.heap.size w w8) := ⟨B0.out.trans (hb8.mono B0.out.size)⟩
    clear hb8
    go_wp2_with fail
    go_ret
    exact ⟨rfl, BZ.out⟩
  · go_enter Tryd.func4, Tryd.ntmps4
    go_wp2_with fail
    refine (HA.out _).mono ?_
    rintro e w8 ⟨rfl, hb8⟩
    have BZ : Away (Below w.heap.size w w8) := ⟨B0.out.trans (hb8.mono B0.out.size)⟩
    clear hb8
    go_wp2_with fail
    go_ret
    exact ⟨rfl, BZ.out⟩
  · go_enter Tryd.func4, Tryd.ntmps4
    go_wp2_with fail
    refine (HA.out _).mono ?_
    rintro e w8 ⟨rfl, hb8⟩
    have BZ : Away (Below w.heap.size w w8) := ⟨B0.out.trans (hb8.mono B0.out.size)⟩
    clear hb8
    go_wp2_with fail
    go_ret
    exact ⟨rfl, BZ.out⟩
  · go_enter Tryd.func4, Tryd.ntmps4
    go_wp2_with fail
    refine (HA.out _).mono ?_
    rintro e w8 ⟨rfl, hb8⟩
    have BZ : Away (Below w.heap.size w w8) := ⟨B0.out.trans (hb8.mono B0.out.size)⟩
    clear hb8
    go_wp2_with fail
    go_ret
    exact ⟨rfl, BZ.out⟩
  · go_enter Tryd.func4, Tryd.ntmps4
    go_wp2_with fail
    refine (HA.out _).mono ?_
    rintro e w8 ⟨rfl, hb8⟩
    have BZ : Away (Below w.heap.size w w8) := ⟨B0.out.trans (hb8.mono B0.out.size)⟩
    clear hb8
    go_wp2_with fail
    go_ret
    exact ⟨rfl, BZ.out⟩
set_option maxRecDepth 100000 in
set_option maxHeartbeats 8000000 in
theorem walk_near (g o n c : Nat) (q : Nat → Nat → Int) (s : ByteArray) (om : Nat) (w : World) (hn1 : 1 ≤ n) (hn8 : n ≤ 8) (hs : s.size ≤ 300) (ho1 : 1 ≤ om) (ho2 : om ≤ 255) (hg : g < w.heap.size) (hr : ∀ i, i < n → w.rangeAt g (o + 256 * i) (FL .i64 256 (q i)).toList) :
    Calls Tryd.prog 4 #[.slice (some ⟨g, o, none⟩) n c, .string s, .int .i64 (om : Int)] w fun e w' => e = .returned (.bool true) ∧ Below w.heap.size w w' := by
  have HA := Away.mk (fun w1 => awake10.awake_any w1)
  have HW2 := Away.mk (way2 s om ho1 ho2)
  have b1 : ¬ (n : Int) < 1 := by omega
  have b2 : ¬ 8 < (n : Int) := by omega
  have b3 : ¬ 300 < (s.size : Int) := by omega
  have b4 : ¬ (om : Int) < 1 := by omega
  have b5 : ¬ 255 < (om : Int) := by omega
  have fm : IntKind.i64.wrap ((s.size : Int) - (om : Int)) = (s.size : Int) - (om : Int) := by rw [IntKind.wrap_i64]; omega
  have Hr := Away.mk hr
  rcases way1 g o n c om q hn1 hn8 ho1 ho2 with k1 | ⟨A, k1, k2⟩
  · have K1 := Away.mk (k1 w hg hr)
    clear k1 hr
    go_enter Tryd.func4, Tryd.ntmps4
    go_wp2_with fail
    refine K1.out.mono ?_
    rintro e w1 ⟨rfl, hb1⟩
    have B1 := Away.mk hb1
    clear hb1
    go_wp2_with fail
    rcases HW2.out with ⟨k, hk, u1⟩ | ⟨m, p, u1, u2⟩
    · have U1 := Away.mk u1
      have fk : (k != 0) = true := by simpa using hk
      clear u1 hk
      refine (U1.out _).mono ?_
      rintro e w6 ⟨rfl, hb6⟩
      have B6 : Away (Below w.heap.size w w6) := ⟨B1.out.trans (hb6.mono B1.out.size)⟩
      clear hb6
      go_wp2_with fail
      refine (HA.out _).mono ?_
      rintro e w8 ⟨rfl, hb8⟩
      have BZ : Away (Below w.heap.size w w8) := ⟨B6.out.trans (hb8.mono B6.out.size)⟩
      clear hb8
      go_wp2_with fail
      go_ret
      exact ⟨rfl, BZ.out⟩
    · have U1 := Away.mk u1
      have U2 := Away.mk u2
      clear u1 u2
      refine (U1.out _).mono ?_
      rintro e w6 ⟨⟨v6, rfl, hv6⟩, hb6⟩
      have B6 : Away (Below w.heap.size w w6) := ⟨B1.out.trans (hb6.mono B1.out.size)⟩
      have HV6 := Away.mk (U2.out _ _ _ hv6)
      clear hb6 hv6
      go_wp2_with fail
      refine HV6.out.mono ?_
      rintro e w7 ⟨rfl, hb7⟩
      have B7 : Away (Below w.heap.size w w7) := ⟨B6.out.trans (hb7.mono B6.out.size)⟩
      clear hb7
      go_wp2_with fail
      refine (HA.out _).mono ?_
      rintro e w8 ⟨rfl, hb8⟩
      have BZ : Away (Below w.heap.size w w8) := ⟨B7.out.trans (hb8.mono B7.out.size)⟩
      clear hb8
      go_wp2_with fail
      go_ret
      exact ⟨rfl, BZ.out⟩
  · have K1 := Away.mk (k1 w hg hr)
    have K2 := Away.mk k2
    clear k1 k2 hr
    go_enter Tryd.func4, Tryd.ntmps4
    go_wp2_with fail
    refine K1.out.mono ?_
    rintro e w1 ⟨rfl, hb1⟩
    have B1 := Away.mk hb1
    clear hb1
    go_wp2_with fail
    refine (K2.out _).mono ?_
    rintro e wm ⟨⟨v, rfl, g2, c2, rfl, -, hg2, hc2⟩, hb2⟩
    have HB : Away (Below w.heap.size w wm) := ⟨B1.out.trans (hb2.mono B1.out.size)⟩
    have HC2 := Away.mk hc2
    have hgm : g < wm.heap.size := Nat.lt_of_lt_of_le hg HB.out.size
    clear hb2 hc2 B1
    go_wp2_with fail
    go_loopw [67] (fun v wr => ∃ i : Nat, i ≤ n ∧ v = .int .i64 (i : Int) ∧ Away (Below wm.heap.size wm wr)) (fun v _ => n - (intOf v).toNat)
    case atStart => exact ⟨0, Nat.zero_le _, rfl, ⟨Below.refl _ _⟩⟩
    case round =>
      obtain ⟨i, hi, rfl, BO⟩ := hrel
      by_cases hlt : i < n
      · have hiz : (i : Int) < (n : Int) := by omega
        have Hi := Away.mk hlt
        go_wp2_with fail
        go_loopw [70] (fun v wr => ∃ k : Nat, k ≤ 256 ∧ v = .int .i64 (k : Int) ∧ Away (Below wm.heap.size wm wr)) (fun v _ => 256 - (intOf v).toNat)
        case atStart => exact ⟨0, Nat.zero_le _, rfl, BO⟩
        case round =>
          clear BO
          obtain ⟨k, hk, rfl, BI⟩ := hrel
          by_cases hkl : k < 256
          · have hkz : (k : Int) < 256 := by omega
            have d1 : wm.cell? ⟨g, o + 256 * i + k, none⟩ = some (.int .i64 (q i k)) := (HB.out.cell (p := ⟨g, o + 256 * i + k, none⟩) hg).trans (Hr.out i Hi.out k _ (by have := fl_get .i64 256 (q i) k hkl; simpa using this))
            have d2 := HC2.out i Hi.out k hkl
            obtain ⟨f, hf⟩ : ∃ f, i * 256 = f := ⟨_, rfl⟩
            rw [show 256 * i = f by omega] at d1 d2
            have c1 : ∀ d os, (Go.Sort.grow (redrawn wr d) os).cell? ⟨g, o + f + k, none⟩ = some (.int .i64 (q i k)) := fun d os => ((below_regrown wr d os).cell (p := ⟨g, o + f + k, none⟩) (Nat.lt_of_lt_of_le hgm BI.out.size)).trans ((BI.out.cell (p := ⟨g, o + f + k, none⟩) hgm).trans d1)
            have c2 : ∀ d os, (Go.Sort.grow (redrawn wr d) os).cell? ⟨g2, f + k, none⟩ = some (.int .i64 (if q i k = 0 then 0 else 1)) := fun d os => ((below_regrown wr d os).cell (p := ⟨g2, f + k, none⟩) (Nat.lt_of_lt_of_le hg2 BI.out.size)).trans ((BI.out.cell (p := ⟨g2, f + k, none⟩) hg2).trans d2)
            clear d1 d2
            by_cases hq : q i k = 0
            · rw [if_pos hq] at c2
              rw [hq] at c1
              clear hq
              go_wp2_with fail
              refine region_quiet_ops (by kernel_rfl) (by kernel_rfl) (fun ops HO => ?_)
              quiet_step (skip)
              quiet_step (skip)
              quiet_step (skip)
              quiet_step (skip)
              quiet_step (skip)
              quiet_step (skip)
              quiet_step (skip)
              quiet_step (skip)
              quiet_step (skip)
              quiet_step (skip)
              quiet_step (skip)
              quiet_step (skip)
              quiet_step (skip)
              quiet_step (skip)
              quiet_step (skip)
              quiet_step (skip)
              refine wpQuiet_want (by rw [← HO.out]; kernel_rfl) (fun K hK => ?_)
              go_simp
              refine hK _ ?_
              clear hK K
              refine wpQuiet_want (by rw [← HO.out]; kernel_rfl) (fun K hK => ?_)
              go_simp
              refine hK _ ?_
              clear hK K
              refine wpQuiet_want (by rw [← HO.out]; kernel_rfl) (fun K hK => ?_)
              go_simp
              refine hK _ ?_
              clear hK K
              refine wpQuiet_want (by rw [← HO.out]; kernel_rfl) (fun K hK => ?_)
              go_simp
              refine hK _ ?_
              clear hK K
              refine wpQuiet_want (by rw [← HO.out]; kernel_rfl) (fun K hK => ?_)
              go_simp
              refine hK _ ?_
              clear hK K
              refine wpQuiet_want (by rw [← HO.out]; kernel_rfl) (fun K hK => ?_)
              go_simp
              refine hK _ ?_
              clear hK K
              refine wpQuiet_want (by rw [← HO.out]; kernel_rfl) (fun K hK => ?_)
              go_simp
              refine hK _ ?_
              clear hK K
              quiet_step (skip)
              quiet_step (skip)
              refine wpQuiet_want (by rw [← HO.out]; kernel_rfl) (fun K hK => ?_)
              go_simp
              refine hK _ ?_
              clear hK K
              refine wpQuiet_want (by rw [← HO.out]; kernel_rfl) (fun K hK => ?_)
              go_simp
              refine hK _ ?_
              clear hK K
              refine wpQuiet_want (by rw [← HO.out]; kernel_rfl) (fun K hK => ?_)
              go_simp
              refine hK _ ?_
              clear hK K
              refine wpQuiet_want (by rw [← HO.out]; kernel_rfl) (fun K hK => ?_)
              go_simp
              refine hK _ ?_
              clear hK K
              refine wpQuiet_want (by rw [← HO.out]; kernel_rfl) (fun K hK => ?_)
              go_simp
              refine hK _ ?_
              clear hK K
              refine wpQuiet_want (by rw [← HO.out]; kernel_rfl) (fun K hK => ?_)
              go_simp
              refine hK _ ?_
              clear hK K
              refine wpQuiet_want (by rw [← HO.out]; kernel_rfl) (fun K hK => ?_)
              go_simp
              refine hK _ ?_
              clear hK K
              quiet_step (skip)
              refine wpQuiet_nil ?_
              intro w9 hC
              have B9 : Away (Below wm.heap.size wm w9) := ⟨BI.out.trans (by obtain ⟨pp, rfl⟩ := hC; exact (below_regrown _ _ _).mono BI.out.size)⟩
              clear hC c1 c2
              go_wp2_with fail
              go_roundw
              case rel => exact ⟨k + 1, by omega, by go_num, B9⟩
              case measure => simp [intOf]; omega
            · rw [if_neg hq] at c2
              obtain ⟨x, hx⟩ : ∃ x, q i k = x := ⟨_, rfl⟩
              rw [hx] at c1 hq
              have fx : (x != 0) = true := by simpa using hq
              clear hq hx
              go_wp2_with fail
              refine region_quiet_ops (by kernel_rfl) (by kernel_rfl) (fun ops HO => ?_)
              quiet_step (skip)
              quiet_step (skip)
              quiet_step (skip)
              quiet_step (skip)
              quiet_step (skip)
              quiet_step (skip)
              quiet_step (skip)
              quiet_step (skip)
              quiet_step (skip)
              quiet_step (skip)
              quiet_step (skip)
              quiet_step (skip)
              quiet_step (skip)
              quiet_step (skip)
              quiet_step (skip)
              quiet_step (skip)
              refine wpQuiet_want (by rw [← HO.out]; kernel_rfl) (fun K hK => ?_)
              go_simp
              refine hK _ ?_
              clear hK K
              refine wpQuiet_want (by rw [← HO.out]; kernel_rfl) (fun K hK => ?_)
              go_simp
              refine hK _ ?_
              clear hK K
              refine wpQuiet_want (by rw [← HO.out]; kernel_rfl) (fun K hK => ?_)
              go_simp
              refine hK _ ?_
              clear hK K
              refine wpQuiet_want (by rw [← HO.out]; kernel_rfl) (fun K hK => ?_)
              go_simp
              refine hK _ ?_
              clear hK K
              refine wpQuiet_want (by rw [← HO.out]; kernel_rfl) (fun K hK => ?_)
              go_simp
              refine hK _ ?_
              clear hK K
              refine wpQuiet_want (by rw [← HO.out]; kernel_rfl) (fun K hK => ?_)
              go_simp
              refine hK _ ?_
              clear hK K
              refine wpQuiet_want (by rw [← HO.out]; kernel_rfl) (fun K hK => ?_)
              go_simp
              refine hK _ ?_
              clear hK K
              quiet_step (skip)
              quiet_step (skip)
              refine wpQuiet_want (by rw [← HO.out]; kernel_rfl) (fun K hK => ?_)
              go_simp
              refine hK _ ?_
              clear hK K
              refine wpQuiet_want (by rw [← HO.out]; kernel_rfl) (fun K hK => ?_)
              go_simp
              refine hK _ ?_
              clear hK K
              refine wpQuiet_want (by rw [← HO.out]; kernel_rfl) (fun K hK => ?_)
              go_simp
              refine hK _ ?_
              clear hK K
              refine wpQuiet_want (by rw [← HO.out]; kernel_rfl) (fun K hK => ?_)
              go_simp
              refine hK _ ?_
              clear hK K
              refine wpQuiet_want (by rw [← HO.out]; kernel_rfl) (fun K hK => ?_)
              go_simp
              refine hK _ ?_
              clear hK K
              refine wpQuiet_want (by rw [← HO.out]; kernel_rfl) (fun K hK => ?_)
              go_simp
              refine hK _ ?_
              clear hK K
              refine wpQuiet_want (by rw [← HO.out]; kernel_rfl) (fun K hK => ?_)
              go_simp
              refine hK _ ?_
              clear hK K
              quiet_step (skip)
              refine wpQuiet_nil ?_
              intro w9 hC
              have B9 : Away (Below wm.heap.size wm w9) := ⟨BI.out.trans (by obtain ⟨pp, rfl⟩ := hC; exact (below_regrown _ _ _).mono BI.out.size)⟩
              clear hC c1 c2
              go_wp2_with fail
              go_roundw
              case rel => exact ⟨k + 1, by omega, by go_num, B9⟩
              case measure => simp [intOf]; omega
          · obtain rfl : k = 256 := by omega
            simp only [Int.cast_ofNat_Int]
            go_wp2_with fail
            go_roundw
            case rel => exact ⟨i + 1, by have := Hi.out; omega, by go_num, BI⟩
            case measure => have := Hi.out; simp [intOf]; omega
      · obtain rfl : i = n := by omega
        have hiz : ¬ (i : Int) < (i : Int) := by omega
        have BZ1 : Away (Below w.heap.size w wr) := ⟨HB.out.trans (BO.out.mono HB.out.size)⟩
        go_wp2_with fail
        rcases HW2.out with ⟨k, hk, u1⟩ | ⟨m, p, u1, u2⟩
        · have U1 := Away.mk u1
          have fk : (k != 0) = true := by simpa using hk
          clear u1 hk
          refine (U1.out _).mono ?_
          rintro e w6 ⟨rfl, hb6⟩
          have B6 : Away (Below w.heap.size w w6) := ⟨BZ1.out.trans (hb6.mono BZ1.out.size)⟩
          clear hb6
          go_wp2_with fail
          refine (HA.out _).mono ?_
          rintro e w8 ⟨rfl, hb8⟩
          have BZ : Away (Below w.heap.size w w8) := ⟨B6.out.trans (hb8.mono B6.out.size)⟩
          clear hb8
          go_wp2_with fail
          go_ret
          exact ⟨rfl, BZ.out⟩
        · have U1 := Away.mk u1
          have U2 := Away.mk u2
          clear u1 u2
          refine (U1.out _).mono ?_
          rintro e w6 ⟨⟨v6, rfl, hv6⟩, hb6⟩
          have B6 : Away (Below w.heap.size w w6) := ⟨BZ1.out.trans (hb6.mono BZ1.out.size)⟩
          have HV6 := Away.mk (U2.out _ _ _ hv6)
          clear hb6 hv6
          go_wp2_with fail
          refine HV6.out.mono ?_
          rintro e w7 ⟨rfl, hb7⟩
          have B7 : Away (Below w.heap.size w w7) := ⟨B6.out.trans (hb7.mono B6.out.size)⟩
          clear hb7
          go_wp2_with fail
          refine (HA.out _).mono ?_
          rintro e w8 ⟨rfl, hb8⟩
          have BZ : Away (Below w.heap.size w w8) := ⟨B7.out.trans (hb8.mono B7.out.size)⟩
          clear hb8
          go_wp2_with fail
          go_ret
          exact ⟨rfl, BZ.out⟩
theorem walk (p : Option Addr) (n c : Nat) (q : Nat → Nat → Int) (s : ByteArray) (om : Int) (w : World) (hl : Lies w p n q) (hs : s.size ≤ maxLen) (ho : (Lit.int .i64 om).wf = true) :
    Calls Tryd.prog 4 #[.slice p n c, .string s, .int .i64 om] w fun e w' => e = .returned (.bool true) ∧ Below w.heap.size w w' := by
  by_cases h : n < 1 ∨ 8 < n ∨ 300 < s.size ∨ om < 1 ∨ 255 < om
  · exact walk_far p n c s om w h
  · obtain ⟨m, rfl⟩ : ∃ m : Nat, om = (m : Int) := ⟨om.toNat, by omega⟩
    rcases hl with h0 | ⟨g, o, rfl, hg, hr⟩
    · omega
    · exact walk_near g o n c q s m w (by omega) (by omega) (by omega) (by omega) (by omega) hg hr
end Go.Proofs.YtdlolhilmhlklaaDoor.l10h
