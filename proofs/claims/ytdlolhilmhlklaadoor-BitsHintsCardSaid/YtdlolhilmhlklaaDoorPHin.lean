/-
  What package bits' Hints returns. Conditions: the slice holds the polynomials.
-/
import Derived.Test.YtdlolhilmhlklaaDoorBiD
import Derived.Test.YtdlolhilmhlklaaDoorPSmall
import Derived.WalkMore
namespace Go.Proofs.YtdlolhilmhlklaaDoor.phin
open Go Go.RowKit
open Go.Proofs.YtdlolhilmhlklaaDoor.arr Go.Proofs.YtdlolhilmhlklaaDoor.mem Go.Proofs.YtdlolhilmhlklaaDoor.stil Go.Proofs.YtdlolhilmhlklaaDoor.bitm Go.Proofs.YtdlolhilmhlklaaDoor.polys Go.Proofs.YtdlolhilmhlklaaDoor.fldm Go.Proofs.YtdlolhilmhlklaaDoor.rbita Go.Proofs.YtdlolhilmhlklaaDoor.rbitb Go.Proofs.YtdlolhilmhlklaaDoor.rbitc Go.Proofs.YtdlolhilmhlklaaDoor.rbitd Go.Proofs.YtdlolhilmhlklaaDoor.rbite Go.Proofs.YtdlolhilmhlklaaDoor.rbith
set_option maxRecDepth 100000 in
set_option maxHeartbeats 4000000 in
theorem hints_bad (p : Option Addr) (m cap : Nat) (om : Int) (w : World) (hm : om < 1 ∨ 255 < om ∨ m < 1 ∨ 8 < m) :
    Calls Tryd.prog 13 #[.slice p m cap, .int .i64 om] w fun e w' => e = .returned (.tuple #[.string ⟨#[]⟩, .int .i64 1]) ∧ Below w.heap.size w w' := by
  have HM : ∀ w1 : World, Calls Tryd.prog 25 #[.int .i64 om, .int .i64 (m : Int)] w1 fun e w' => e = .returned (.bool false) ∧ w' = w1 := fun w1 => by
    have h := psmall.hints_any om (m : Int) w1
    rw [decide_eq_false (by omega)] at h
    exact h
  clear hm
  go_enter Tryd.func13, Tryd.ntmps13
  go_wp2_with fail
  go_step3
  go_wp2_with fail
  refine (HM _).mono ?_
  rintro e w ⟨rfl, rfl⟩
  go_wp2_with fail
  rw [Exit.noGoto_ret]
  go_ret2
  exact ⟨rfl, Below.refl _ _⟩
set_option maxRecDepth 100000 in
set_option maxHeartbeats 4000000 in
theorem hints_any (h : Nat → Nat → Int) (g o cap m om : Nat) (w : World) (hg : g < w.heap.size) (hm1 : 1 ≤ m) (hm8 : m ≤ 8) (ho1 : 1 ≤ om) (ho2 : om ≤ 255) (hr : ∀ i, i < m → w.rangeAt g (o + 256 * i) (FL .i64 256 (h i)).toList) :
    Calls Tryd.prog 13 #[.slice (some ⟨g, o, none⟩) m cap, .int .i64 (om : Int)] w fun e w' => e = .returned (if tot h m ≤ om then .tuple #[.string ⟨(u8s (lay h om m m)).toArray⟩, .int .i64 0] else .tuple #[.string ⟨#[]⟩, .int .i64 6]) ∧ Below w.heap.size w w' := by
  obtain ⟨i0, hi, hz0, hz1, hz2⟩ := parts infoByte
  have HI := Away.mk (And.intro hi (And.intro hz0 (And.intro hz1 hz2)))
  obtain ⟨hz, hsize⟩ := zero_of_info infoP
  obtain ⟨z, HZ⟩ := ex_eq (FL .i64 256 fun _ => 0)
  rw [HZ.out] at hz
  have Hzs : Away (z.size = 256) := ⟨by rw [← HZ.out]; exact fl_size _ _ _⟩
  have HR := Away.mk hr
  obtain ⟨R, HRe⟩ := ex_eq (u8s (lay h om m m))
  obtain ⟨V, HV⟩ := ex_eq (if tot h m ≤ om then Value.tuple #[.string ⟨R.toArray⟩, .int .i64 0] else .tuple #[.string ⟨#[]⟩, .int .i64 6])
  rw [HRe.out, HV.out]
  obtain ⟨M, hM⟩ : ∃ M, om + m = M := ⟨_, rfl⟩
  have fM : (om : Int) + (m : Int) = (M : Int) := by omega
  have fMw : IntKind.i64.wrap ((om : Int) + (m : Int)) = (M : Int) := by rw [fM, IntKind.wrap_i64]; omega
  have HM0 : ∀ w1 : World, Calls Tryd.prog 25 #[.int .i64 (om : Int), .int .i64 (m : Int)] w1 fun e w' => e = .returned (.bool true) ∧ w' = w1 := fun w1 => by
    have h := psmall.hints_any (om : Int) (m : Int) w1
    rw [decide_eq_true (by omega)] at h
    exact h
  have HM := Away.mk hM
  clear hi hz0 hz1 hz2 hr HZ hM
  go_enter Tryd.func13, Tryd.ntmps13
  go_wp2_with fail
  go_step3
  go_wp2_with fail
  refine (HM0 _).mono ?_
  rintro e w ⟨rfl, rfl⟩
  go_wp2_with (at_make; refine wpList_make_full _ rfl (.tmp 19) (.tmp 19) 46 rfl w.heap.size 5 i0 (.int .u8 0) 1 Tryd.underlying46 HI.out.1 HI.out.2.1 HI.out.2.2.1 .i64 .i64 M M M rfl rfl rfl rfl (by rw [HI.out.2.2.2]; omega) (by unfold maxLen; omega) (Nat.le_refl _) ?_)
  intro w3 hown hgr
  have hb3 : Below w.heap.size w w3 := (Below.refl _ _).grown hgr (Nat.le_refl _) (fun k hk => by simp at hk)
  obtain ⟨cur, hcur, hcl⟩ := own_row hown
  have e0 : cur = LK .u8 (lay h om m 0) := by
    apply Array.ext'
    rw [hcl, lay, HM.out]
    simp only [toList_madeCells_one]
    simp [LK]
  rw [e0] at hcur
  have A3 : Away (At w.heap.size (LK .u8 (lay h om m 0)) 5 w3 w3) := ⟨At.refl hcur⟩
  have HB3 := Away.mk hb3
  have h38 := lt_of_row hcur
  clear hown hgr hb3 hcl e0 hcur fM fMw
  go_wp2_with fail
  go_step3
  go_wp2_with fail
  go_loopw [23, 7] (fun v c wr => ∃ i : Nat, i ≤ m ∧ v = .int .i64 (i : Int) ∧ c = .int .i64 ((tot h i : Nat) : Int) ∧ tot h i ≤ om ∧ Away (At w.heap.size (LK .u8 (lay h om m i)) 5 w3 wr)) (fun v _ _ => m - (intOf v).toNat)
  case atStart => exact ⟨0, Nat.zero_le _, rfl, rfl, Nat.zero_le _, A3⟩
  case round =>
    clear A3
    obtain ⟨i, hi, rfl, rfl, hto, A0⟩ := hrel
    by_cases hlt : i < m
    · have hiz : (i : Int) < (m : Int) := by omega
      have BW : Away (Below w.heap.size w wr) := ⟨HB3.out.trans (A0.out.below (by omega) (Nat.le_refl _))⟩
      have Hrg : Away (wr.rangeAt g (o + 256 * i) (FL .i64 256 (h i)).toList) := ⟨fun j v hv => by rw [BW.out.cell (p := ⟨g, o + 256 * i + j, none⟩) hg]; exact HR.out i hlt j v hv⟩
      have Hidx : Away (∀ k : Nat, k < 256 → ∀ w1, (Instr.index 25 (.agg (FL .i64 256 (h i))) (.int .i64 (k : Int))).run Tryd.prog w1 = .ok (.int .i64 (h i k)) w1) := ⟨fun k hk w1 => index_row (P := Tryd.prog) Tryd.underlying25 (by kernel_rfl) (by kernel_rfl) (by kernel_rfl) _ _ k hk (fl_get .i64 256 (h i) k hk) w1⟩
      have Fs : Away ((FL .i64 256 (h i)).size = 256) := ⟨fl_size _ _ _⟩
      have Fo : Away ((FL .i64 256 (h i)).all (·.oneCell') = true) := ⟨fl_one _ _ _⟩
      obtain ⟨F, HF⟩ := ex_eq (FL .i64 256 (h i))
      rw [HF.out] at Hrg Hidx Fs Fo
      have Fi : Away ((Tryd.prog.info? 25).map (·.size) = some F.size) := ⟨by rw [Fs.out]; exact hsize⟩
      have A4 : Away (At w.heap.size (LK .u8 (put (h i) (tot h i) (lay h om m i) 0)) 5 w3 wr) := ⟨by rw [put]; exact A0.out⟩
      obtain ⟨i256, hi256⟩ : ∃ y, 256 * i = y := ⟨_, rfl⟩
      rw [hi256] at Hrg
      have fi256 : i * 256 = i256 := by omega
      clear HF hi256
      go_wp2_with ((with_reducible refine wpList_load_mid rfl 25 _ rfl g (o + i256) ?hx F.toList _ Hrg.out Tryd.underlying25 rfl ?hi ?_); (case hx => rfl); (case hi => rw [Array.length_toList]; exact Fi.out))
      have Hi := Away.mk hlt
      clear A0
      go_loopw [30, 7] (fun v c wr => ∃ k : Nat, k ≤ 256 ∧ v = .int .i64 (k : Int) ∧ c = .int .i64 ((tot h i + cnt (h i) k : Nat) : Int) ∧ tot h i + cnt (h i) k ≤ om ∧ Away (At w.heap.size (LK .u8 (put (h i) (tot h i) (lay h om m i) k)) 5 w3 wr)) (fun v _ _ => 256 - (intOf v).toNat)
      case atStart => exact ⟨0, Nat.zero_le _, rfl, rfl, hto, A4⟩
      case round =>
        clear A4
        obtain ⟨k, hk, rfl, rfl, hto, A0⟩ := hrel
        obtain ⟨n, hn⟩ : ∃ n, tot h i + cnt (h i) k = n := ⟨_, rfl⟩
        rw [hn] at hto ⊢
        by_cases hklt : k < 256
        · have hkz : (k : Int) < 256 := by omega
          have hidx := Hidx.out k hklt
          by_cases hx : h i k = 0
          · rw [hx] at hidx
            have Hn : Away (tot h i + cnt (h i) (k + 1) = n) := ⟨by rw [cnt, if_pos hx, ← hn]; omega⟩
            have A1 : Away (At w.heap.size (LK .u8 (put (h i) (tot h i) (lay h om m i) (k + 1))) 5 w3 wr) := ⟨by rw [put, if_pos hx]; exact A0.out⟩
            clear A0 hn hx
            go_wp2_with fail
            go_roundw
            case rel => exact ⟨k + 1, by omega, by go_num, by rw [Hn.out], by rw [Hn.out]; exact hto, A1⟩
            case measure => simp [intOf]; omega
          · have Hn : Away (tot h i + cnt (h i) (k + 1) = n + 1) := ⟨by rw [cnt, if_neg hx, ← hn]; omega⟩
            have Hs : Away ((put (h i) (tot h i) (lay h om m i) k).set n k = put (h i) (tot h i) (lay h om m i) (k + 1)) := ⟨by rw [put, if_neg hx, hn]⟩
            obtain ⟨x, hxx⟩ : ∃ x, h i k = x := ⟨_, rfl⟩
            rw [hxx] at hidx hx
            have fx : (x == 0) = false := by simpa using hx
            have fn1 : IntKind.i64.wrap ((n : Int) + 1) = ((n + 1 : Nat) : Int) := by rw [IntKind.wrap_i64]; omega
            have fk8 : IntKind.u8.wrap (k : Int) = (k : Int) := by rw [IntKind.wrap_u8]; omega
            have BE : Away (Below w.heap.size w wr) := ⟨HB3.out.trans (A0.out.below (by omega) (Nat.le_refl _))⟩
            clear hx hxx hn
            by_cases he : n = om
            · have hV : Away (V = .tuple #[.string ⟨#[]⟩, .int .i64 6]) := ⟨by
                rw [← HV.out, if_neg]
                have h1 := tot_mono h (i + 1) m (by have := Hi.out; omega)
                have h2 := cnt_mono (h i) (k + 1) 256 (by omega)
                have h3 := Hn.out
                rw [tot] at h1
                omega⟩
              subst he
              go_wp2_with fail
              rw [Exit.noGoto_ret]
              go_ret2
              exact ⟨by rw [hV.out]; rfl, BE.out⟩
            · have fe : ¬ (om : Int) < ((n + 1 : Nat) : Int) := by omega
              have fn2 : IntKind.i64.wrap (((n + 1 : Nat) : Int) - 1) = (n : Int) := by rw [IntKind.wrap_i64]; omega
              have hno : n + 1 ≤ om := by omega
              have hnM : (n : Int) < (M : Int) := by have := HM.out; omega
              have HnM : Away (n < om + m) := ⟨by omega⟩
              clear he
              go_wp2_with ((with_reducible refine wpList_put2 A0 rfl _ _ _ rfl rfl ?_); refine ⟨_, _, _, rfl, rfl, rfl, (by rw [lk_size, put_length, lay_length]; exact HnM.out), ?_⟩; intro wn HRn; rw [lk_set, Hs.out] at HRn)
              go_roundw
              case rel => exact ⟨k + 1, by omega, by go_num, by rw [Hn.out]; go_num, by rw [Hn.out]; exact hno, HRn⟩
              case measure => simp [intOf]; omega
        · obtain rfl : k = 256 := by omega
          simp only [Int.cast_ofNat_Int]
          have Hn : Away (tot h (i + 1) = n) := ⟨by rw [tot, hn]⟩
          have Hs : Away ((put (h i) (tot h i) (lay h om m i) 256).set (om + i) n = lay h om m (i + 1)) := ⟨by rw [lay, Hn.out]⟩
          obtain ⟨oi, hoi⟩ : ∃ oi, om + i = oi := ⟨_, rfl⟩
          rw [hoi] at Hs
          have foi : (om : Int) + (i : Int) = (oi : Int) := by omega
          have foiw : IntKind.i64.wrap ((om : Int) + (i : Int)) = (oi : Int) := by rw [foi, IntKind.wrap_i64]; omega
          have fn8 : IntKind.u8.wrap (n : Int) = (n : Int) := by rw [IntKind.wrap_u8]; omega
          have hnM : (oi : Int) < (M : Int) := by have := HM.out; have := Hi.out; omega
          have HnM : Away (oi < om + m) := ⟨by have := Hi.out; omega⟩
          clear hn hoi
          go_wp2_with ((with_reducible refine wpList_put2 A0 rfl _ _ _ rfl rfl ?_); refine ⟨_, _, _, rfl, rfl, rfl, (by rw [lk_size, put_length, lay_length]; exact HnM.out), ?_⟩; intro wn HRn; rw [lk_set, Hs.out] at HRn)
          go_roundw
          case rel => exact ⟨i + 1, by have := Hi.out; omega, by go_num, by rw [Hn.out], by rw [Hn.out]; exact hto, HRn⟩
          case measure => have := Hi.out; simp [intOf]; omega
    · obtain rfl : i = m := by omega
      have hV : Away (V = .tuple #[.string ⟨R.toArray⟩, .int .i64 0]) := ⟨by rw [← HV.out, if_pos hto]⟩
      have hto2 : ¬ (om : Int) < ((tot h i : Nat) : Int) := by omega
      have hcv := conv_lk (cap := M) (n := M) (by rw [lay_length]; exact HM.out) (lay_lt h om i i (by omega)) A0.out.row
      rw [HRe.out] at hcv
      have BE : Away (Below w.heap.size w wr) := ⟨HB3.out.trans (A0.out.below (by omega) (Nat.le_refl _))⟩
      clear A0
      go_wp2_with fail
      go_ret2
      exact ⟨by rw [hV.out]; rfl, BE.out⟩
end Go.Proofs.YtdlolhilmhlklaaDoor.phin
