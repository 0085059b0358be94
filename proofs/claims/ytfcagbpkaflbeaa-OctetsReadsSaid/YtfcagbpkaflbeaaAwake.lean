/-
  The law package's own look at octets ('awake') returns true. Conditions: none.
-/
import Derived.Test.YtfcagbpkaflbeaaText
namespace Go.Proofs.Ytfcagbpkaflbeaa.awake
open Go.RowKit
open Go.Proofs.Ytfcagbpkaflbeaa.oct Go.Proofs.Ytfcagbpkaflbeaa.bits8 Go.Proofs.Ytfcagbpkaflbeaa.reads

set_option maxHeartbeats 1000000 in
theorem awake_any (w : World) :
    Calls Try.prog 7 #[] w fun e w' => e = .returned (.bool true) ∧ Below w.heap.size w w' := by
  go_enter Try.func7, Try.ntmps7
  go_wp2_with fail
  refine (ints.int_any 300 _).mono ?_
  rintro e w1 ⟨rfl, hb1⟩
  rw [show intL 300 = ([2, 1, 44], 0) from by decide]
  go_wp2_with fail
  rw [show (⟨#[120]⟩ : ByteArray) ++ ⟨#[2, 1, 44]⟩ = ⟨#[120, 2, 1, 44]⟩ from rfl]
  refine (reads.readInt_any ⟨#[120, 2, 1, 44]⟩ 1 _ (by decide)).mono ?_
  rintro e w2 ⟨rfl, rfl⟩
  rw [show tri (rdInt (⟨#[120, 2, 1, 44]⟩ : ByteArray).data.toList 1) = .tuple #[.int .i64 300, .int .i64 4, .int .i64 0] from rfl]
  go_wp2_with fail
  refine (texts.text_any ⟨#[97, 98]⟩ 9 _ (by decide)).mono ?_
  rintro e w3 ⟨rfl, hb3⟩
  rw [show textL (⟨#[97, 98]⟩ : ByteArray).data.toList 9 = ([1, 2, 97, 98], 0) from by decide]
  go_wp2_with fail
  refine (texts.readText_any ⟨#[1, 2, 97, 98]⟩ 0 9 _ (by decide)).mono ?_
  rintro e w4 ⟨rfl, hb4⟩
  rw [show rdText (⟨#[1, 2, 97, 98]⟩ : ByteArray).data.toList 0 9 = ([97, 98], 4, 0) from by decide]
  go_wp2_with fail
  refine (texts.text_any ⟨#[97, 98, 99]⟩ 2 _ (by decide)).mono ?_
  rintro e w5 ⟨rfl, hb5⟩
  rw [show textL (⟨#[97, 98, 99]⟩ : ByteArray).data.toList 2 = ([], 5) from by decide]
  go_wp2_with fail
  refine (fixed.fixed_any 300 3 _ (by decide)).mono ?_
  rintro e w6 ⟨rfl, hb6⟩
  rw [show fixS 300 3 = [0, 1, 44] from by decide]
  go_wp2_with fail
  refine (worth.worth_any ⟨#[1, 44]⟩ _ (by decide)).mono ?_
  rintro e w7 ⟨rfl, rfl⟩
  rw [show woU (⟨#[1, 44]⟩ : ByteArray).data.toList = 300 from by decide]
  go_wp2_with fail
  go_ret
  exact ⟨rfl, ((((hb1.trans (hb3.mono hb1.size)).trans (hb4.mono (Nat.le_trans hb1.size hb3.size))).trans (hb5.mono (Nat.le_trans hb1.size (Nat.le_trans hb3.size hb4.size)))).trans
    (hb6.mono (Nat.le_trans hb1.size (Nat.le_trans hb3.size (Nat.le_trans hb4.size hb5.size)))))⟩
end Go.Proofs.Ytfcagbpkaflbeaa.awake
