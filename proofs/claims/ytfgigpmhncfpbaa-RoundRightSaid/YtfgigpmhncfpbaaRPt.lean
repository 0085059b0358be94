/-
  What round's upTo, rightGamma2 and Parts return. Conditions: none.
-/
import Derived.Test.YtfgigpmhncfpbaaFCn
import Derived.Test.YtfgigpmhncfpbaaRdm
namespace Go.Proofs.Ytfgigpmhncfpbaa.rpart
open Go Go.RowKit
open Go.Proofs.Ytfgigpmhncfpbaa.arr Go.Proofs.Ytfgigpmhncfpbaa.mem Go.Proofs.Ytfgigpmhncfpbaa.fldm Go.Proofs.Ytfgigpmhncfpbaa.fld1 Go.Proofs.Ytfgigpmhncfpbaa.rndm

set_option maxRecDepth 100000 in
set_option maxHeartbeats 1000000 in
theorem gamma_any (g : Int) (w : World) : Calls Try.prog 15 #[.int .i64 g] w fun e w' => e = .returned (.bool (okg g)) ∧ w' = w := by
  unfold okg
  cases h1 : g == 95232
  · cases h2 : g == 261888
    · go_enter Try.func15, Try.ntmps15
      go_wp2_with fail
      go_ret
      exact ⟨rfl, rfl⟩
    · go_enter Try.func15, Try.ntmps15
      go_wp2_with fail
      go_ret
      exact ⟨rfl, rfl⟩
  · go_enter Try.func15, Try.ntmps15
    go_wp2_with fail
    go_ret
    exact ⟨rfl, rfl⟩
set_option maxRecDepth 100000 in
set_option maxHeartbeats 1000000 in
theorem upto_any (n m : Int) (w : World) : Calls Try.prog 14 #[.int .i64 n, .int .i64 m] w fun e w' => e = .returned (.bool (upto n m)) ∧ w' = w := by
  unfold upto
  by_cases h1 : 1 ≤ n
  · rw [decide_eq_true h1]
    by_cases h2 : n ≤ m
    · rw [decide_eq_true h2]
      go_enter Try.func14, Try.ntmps14
      go_wp2_with fail
      go_ret
      exact ⟨rfl, rfl⟩
    · rw [decide_eq_false h2]
      go_enter Try.func14, Try.ntmps14
      go_wp2_with fail
      go_ret
      exact ⟨rfl, rfl⟩
  · rw [decide_eq_false h1]
    go_enter Try.func14, Try.ntmps14
    go_wp2_with fail
    go_ret
    exact ⟨rfl, rfl⟩
set_option maxRecDepth 100000 in
set_option maxHeartbeats 1000000 in
theorem parts_bad (x g : Int) (w : World) (h : okg g = false) : Calls Try.prog 17 #[.int .i64 x, .int .i64 g] w fun e w' => e = .returned (.tuple #[.int .i64 0, .int .i64 0]) ∧ w' = w := by
  have Hg := gamma_any g
  rw [h] at Hg
  go_enter Try.func17, Try.ntmps17
  go_wp2_with fail
  refine (Hg _).mono ?_
  rintro e w1 ⟨rfl, rfl⟩
  go_wp2_with fail
  go_ret2
  exact ⟨rfl, rfl⟩
set_option maxRecDepth 100000 in
set_option maxHeartbeats 1000000 in
theorem parts_95232 (x : Int) (w : World) : Calls Try.prog 17 #[.int .i64 x, .int .i64 95232] w fun e w' => e = .returned (.tuple #[.int .i64 (hgh 95232 x), .int .i64 (lw 95232 x)]) ∧ w' = w := by
  have hb := pl_95232 x
  have HH : Away (hgh 95232 x = if x % 8380417 - pl 95232 x = 8380416 then 0 else (x % 8380417 - pl 95232 x) / (2 * 95232)) := ⟨by unfold hgh; rw [if_pos okg_a]⟩
  have HL : Away (lw 95232 x = if x % 8380417 - pl 95232 x = 8380416 then pl 95232 x - 1 else pl 95232 x) := ⟨by unfold lw; rw [if_pos okg_a]⟩
  obtain ⟨hv, Hhv⟩ := ex_eq (hgh 95232 x)
  obtain ⟨lv, Hlv⟩ := ex_eq (lw 95232 x)
  rw [Hhv.out] at HH ⊢
  rw [Hlv.out] at HL ⊢
  have Hg : ∀ w1 : World, Calls Try.prog 15 #[.int .i64 95232] w1 fun e w' => e = .returned (.bool true) ∧ w' = w1 := fun w1 => by have h := gamma_any 95232 w1; rw [okg_a] at h; exact h
  have Hr := reduce_any x
  have Hc := centre_any (x % 8380417) 190464
  rw [show ce 190464 (x % 8380417) = pl 95232 x from rfl] at Hc
  obtain ⟨l, hl⟩ := ex_eq (pl 95232 x)
  rw [hl.out] at HH HL Hc hb
  have hrb : 0 ≤ x % 8380417 ∧ x % 8380417 < 8380417 := by omega
  obtain ⟨r, hr⟩ := ex_eq (x % 8380417)
  rw [hr.out] at HH HL Hc hb Hr hrb
  obtain ⟨d, hd⟩ : ∃ d, r - l = d := ⟨_, rfl⟩
  have f1 : IntKind.i64.wrap (r - l) = d := by rw [hd, IntKind.wrap_i64]; omega
  have f2 : IntKind.i64.wrap (l - 1) = l - 1 := by rw [IntKind.wrap_i64]; omega
  rw [hd] at HH HL hb
  have hdb : 0 ≤ d ∧ d < 8480417 + 95232 := by omega
  clear hd
  by_cases h1 : d = 8380416
  · obtain rfl : hv = 0 := by rw [HH.out, if_pos h1]
    obtain rfl : lv = l - 1 := by rw [HL.out, if_pos h1]
    subst h1
    clear HH HL hb hr hl
    go_enter Try.func17, Try.ntmps17
    go_wp2_with fail
    refine (Hg _).mono ?_
    rintro e w1 ⟨rfl, rfl⟩
    go_wp2_with fail
    refine (Hr _).mono ?_
    rintro e w1 ⟨rfl, rfl⟩
    go_wp2_with fail
    refine (Hc _).mono ?_
    rintro e w1 ⟨rfl, rfl⟩
    go_wp2_with fail
    go_ret2
    exact ⟨rfl, rfl⟩
  · have hq : d.tdiv 190464 = hv := by rw [HH.out, if_neg h1, Int.tdiv_eq_ediv_of_nonneg hdb.1]; rfl
    have hq2 : d / 190464 = hv := by rw [HH.out, if_neg h1]; rfl
    have hw : IntKind.i64.wrap hv = hv := by rw [← hq2, IntKind.wrap_i64]; omega
    obtain rfl : lv = l := by rw [HL.out, if_neg h1]
    have h2 : (d == 8380416) = false := beq_eq_false_iff_ne.2 h1
    clear HH HL hb hr hl h1
    go_enter Try.func17, Try.ntmps17
    go_wp2_with fail
    refine (Hg _).mono ?_
    rintro e w1 ⟨rfl, rfl⟩
    go_wp2_with fail
    refine (Hr _).mono ?_
    rintro e w1 ⟨rfl, rfl⟩
    go_wp2_with fail
    refine (Hc _).mono ?_
    rintro e w1 ⟨rfl, rfl⟩
    go_wp2_with fail
    go_ret2
    exact ⟨rfl, rfl⟩
set_option maxRecDepth 100000 in
set_option maxHeartbeats 1000000 in
theorem parts_261888 (x : Int) (w : World) : Calls Try.prog 17 #[.int .i64 x, .int .i64 261888] w fun e w' => e = .returned (.tuple #[.int .i64 (hgh 261888 x), .int .i64 (lw 261888 x)]) ∧ w' = w := by
  have hb := pl_261888 x
  have HH : Away (hgh 261888 x = if x % 8380417 - pl 261888 x = 8380416 then 0 else (x % 8380417 - pl 261888 x) / (2 * 261888)) := ⟨by unfold hgh; rw [if_pos okg_b]⟩
  have HL : Away (lw 261888 x = if x % 8380417 - pl 261888 x = 8380416 then pl 261888 x - 1 else pl 261888 x) := ⟨by unfold lw; rw [if_pos okg_b]⟩
  obtain ⟨hv, Hhv⟩ := ex_eq (hgh 261888 x)
  obtain ⟨lv, Hlv⟩ := ex_eq (lw 261888 x)
  rw [Hhv.out] at HH ⊢
  rw [Hlv.out] at HL ⊢
  have Hg : ∀ w1 : World, Calls Try.prog 15 #[.int .i64 261888] w1 fun e w' => e = .returned (.bool true) ∧ w' = w1 := fun w1 => by have h := gamma_any 261888 w1; rw [okg_b] at h; exact h
  have Hr := reduce_any x
  have Hc := centre_any (x % 8380417) 523776
  rw [show ce 523776 (x % 8380417) = pl 261888 x from rfl] at Hc
  obtain ⟨l, hl⟩ := ex_eq (pl 261888 x)
  rw [hl.out] at HH HL Hc hb
  have hrb : 0 ≤ x % 8380417 ∧ x % 8380417 < 8380417 := by omega
  obtain ⟨r, hr⟩ := ex_eq (x % 8380417)
  rw [hr.out] at HH HL Hc hb Hr hrb
  obtain ⟨d, hd⟩ : ∃ d, r - l = d := ⟨_, rfl⟩
  have f1 : IntKind.i64.wrap (r - l) = d := by rw [hd, IntKind.wrap_i64]; omega
  have f2 : IntKind.i64.wrap (l - 1) = l - 1 := by rw [IntKind.wrap_i64]; omega
  rw [hd] at HH HL hb
  have hdb : 0 ≤ d ∧ d < 8480417 + 261888 := by omega
  clear hd
  by_cases h1 : d = 8380416
  · obtain rfl : hv = 0 := by rw [HH.out, if_pos h1]
    obtain rfl : lv = l - 1 := by rw [HL.out, if_pos h1]
    subst h1
    clear HH HL hb hr hl
    go_enter Try.func17, Try.ntmps17
    go_wp2_with fail
    refine (Hg _).mono ?_
    rintro e w1 ⟨rfl, rfl⟩
    go_wp2_with fail
    refine (Hr _).mono ?_
    rintro e w1 ⟨rfl, rfl⟩
    go_wp2_with fail
    refine (Hc _).mono ?_
    rintro e w1 ⟨rfl, rfl⟩
    go_wp2_with fail
    go_ret2
    exact ⟨rfl, rfl⟩
  · have hq : d.tdiv 523776 = hv := by rw [HH.out, if_neg h1, Int.tdiv_eq_ediv_of_nonneg hdb.1]; rfl
    have hq2 : d / 523776 = hv := by rw [HH.out, if_neg h1]; rfl
    have hw : IntKind.i64.wrap hv = hv := by rw [← hq2, IntKind.wrap_i64]; omega
    obtain rfl : lv = l := by rw [HL.out, if_neg h1]
    have h2 : (d == 8380416) = false := beq_eq_false_iff_ne.2 h1
    clear HH HL hb hr hl h1
    go_enter Try.func17, Try.ntmps17
    go_wp2_with fail
    refine (Hg _).mono ?_
    rintro e w1 ⟨rfl, rfl⟩
    go_wp2_with fail
    refine (Hr _).mono ?_
    rintro e w1 ⟨rfl, rfl⟩
    go_wp2_with fail
    refine (Hc _).mono ?_
    rintro e w1 ⟨rfl, rfl⟩
    go_wp2_with fail
    go_ret2
    exact ⟨rfl, rfl⟩
theorem parts_any (x g : Int) (w : World) : Calls Try.prog 17 #[.int .i64 x, .int .i64 g] w fun e w' => e = .returned (.tuple #[.int .i64 (hgh g x), .int .i64 (lw g x)]) ∧ w' = w := by
  cases h : okg g
  · rw [hgh_bad h, lw_bad h]; exact parts_bad x g w h
  · rcases okg_of h with rfl | rfl
    · exact parts_95232 x w
    · exact parts_261888 x w
end Go.Proofs.Ytfgigpmhncfpbaa.rpart
