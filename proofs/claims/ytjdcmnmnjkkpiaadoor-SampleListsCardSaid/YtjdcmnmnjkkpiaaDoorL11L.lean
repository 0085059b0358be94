/-
  The statement SampleLists (P11.4 to P11.6): matrices, secrets and masks out of any seed, for any parameters. Conditions: none, but what the row lists of keccak's variable 'places', which the card ties to the program's text; for every input that the form speaks of.
-/
import Derived.Test.YtjdcmnmnjkkpiaaDoorRows
import Derived.Test.YtjdcmnmnjkkpiaaDoorCards
import Derived.Test.YtjdcmnmnjkkpiaaDoorTie
import Derived.Test.YtjdcmnmnjkkpiaaDoorKq
import Derived.Test.YtjdcmnmnjkkpiaaDoorLists11
import Derived.Test.YtjdcmnmnjkkpiaaDoorRSDx
import Derived.Test.YtjdcmnmnjkkpiaaDoorQAwake
import Derived.ProofKit
import Derived.OpenShut
import Derived.Carry
import Derived.SevenTiedAt
namespace Go.Proofs.YtjdcmnmnjkkpiaaDoor.l11l
open Go Go.ChangeShapes Go.WideShapes Go.ChangeAt Go.RowKit
open Go.Proofs.YtjdcmnmnjkkpiaaDoor.arr Go.Proofs.YtjdcmnmnjkkpiaaDoor.mem Go.Proofs.YtjdcmnmnjkkpiaaDoor.polt Go.Proofs.YtjdcmnmnjkkpiaaDoor.pols Go.Proofs.YtjdcmnmnjkkpiaaDoor.kturn Go.Proofs.YtjdcmnmnjkkpiaaDoor.kstep Go.Proofs.YtjdcmnmnjkkpiaaDoor.rndm Go.Proofs.YtjdcmnmnjkkpiaaDoor.polys Go.Proofs.YtjdcmnmnjkkpiaaDoor.samb Go.Proofs.YtjdcmnmnjkkpiaaDoor.saml Go.Proofs.YtjdcmnmnjkkpiaaDoor.samr Go.Proofs.YtjdcmnmnjkkpiaaDoor.rsdoc
set_option linter.unusedVariables false
theorem own : ownKnob Tryd.prog.godebug = none := by kernel_rfl
theorem laidOut : laidOutB Tryd.prog = true := by kernel_rfl

set_option maxRecDepth 100000 in
set_option maxHeartbeats 4000000 in
theorem far (k l e t a b o s : Int) (sd : ByteArray) (fr : Int) (w : World) (h : 400 < sd.size) (hP : Gp w) :
    Calls Tryd.prog 4 #[.agg #[.int .i64 k, .int .i64 l, .int .i64 e, .int .i64 t, .int .i64 a, .int .i64 b, .int .i64 o, .int .i64 s], .string sd, .int .i64 fr] w fun e w' => e = .returned (.bool true) ∧ Below w.heap.size w w' := by
  have HP := Away.mk hP
  have hz : (400 : Int) < (sd.size : Int) := by omega
  obtain ⟨W0, hW0⟩ : ∃ x, w.alloc (.cells #[.int .i64 k, .int .i64 l, .int .i64 e, .int .i64 t, .int .i64 a, .int .i64 b, .int .i64 o, .int .i64 s] 41) = x := ⟨_, rfl⟩
  obtain ⟨r0, hs0, b0⟩ := one hW0
  have B0 := Away.mk b0
  have HW0 := Away.mk hW0
  clear hW0 r0 hs0 b0 h hP
  go_enter Tryd.func4, Tryd.ntmps4
  go_wp2_with (rw [HW0.out])
  refine (qawake.awake_any _ (HP.out.later B0.out)).mono ?_
  rintro e w3 ⟨rfl, hb⟩
  have HB : Away (Below w.heap.size w w3) := ⟨B0.out.trans (hb.mono B0.out.size)⟩
  clear hb
  go_wp2_with fail
  go_ret
  exact ⟨rfl, HB.out⟩
theorem sl_holds {w : World} {B m : Nat} {v : Value} {q : Nat → Nat → Int} (h1 : 1 ≤ m) (h8 : m ≤ 8) (h : Holds w B v m q) : lsl11.SL w v m q := Or.inr ⟨h1, h8, B, h⟩
theorem walk (k l e t a b o s : Int) (sd : ByteArray) (fr : Int) (w : World) (wb : sd.size ≤ maxLen) (wf : (Lit.int .i64 fr).wf = true) (hP : Gp w) :
    Calls Tryd.prog 4 #[.agg #[.int .i64 k, .int .i64 l, .int .i64 e, .int .i64 t, .int .i64 a, .int .i64 b, .int .i64 o, .int .i64 s], .string sd, .int .i64 fr] w fun e w' => e = .returned (.bool true) ∧ Below w.heap.size w w' := by
  by_cases h : 400 < sd.size
  · exact far k l e t a b o s sd fr w h hP
  have hL : (Tryd.prog.info? 41).map (·.size) = some (#[.int .i64 k, .int .i64 l, .int .i64 e, .int .i64 t, .int .i64 a, .int .i64 b, .int .i64 o, .int .i64 s] : Array Value).size := by kernel_rfl
  by_cases hr : latt k l e t a b o s = true
  · obtain ⟨⟨k1, k8⟩, ⟨l1, l8⟩, -⟩ := latt_of hr
    obtain ⟨kn, rfl⟩ := Int.eq_ofNat_of_zero_le (a := k) (by omega)
    obtain ⟨ln, rfl⟩ := Int.eq_ofNat_of_zero_le (a := l) (by omega)
    by_cases hf : 0 ≤ fr ∧ fr ≤ 65000
    · obtain ⟨fn, rfl⟩ := Int.eq_ofNat_of_zero_le (a := fr) (by omega)
      refine lists11.near _ sd (fn : Int) kn ln ln kn ln (qX sd) (qS sd e) (fun i => qS sd e (ln + i)) (qM sd a fn) w (by omega) hP hL (by omega) (fun _ => by omega) ?_ ?_ ?_ ?_ ?_ ?_ (fun w1 h1 => qawake.awake_any w1 h1)
      · exact fun w1 h1 => qdoc.matrix kn ln e t a b o s sd w1 kecd.kt_doc h1 hr (by omega)
      · exact fun w1 => rsdoc.matrix kn ln e t a b o s sd w1 kecd.kt_doc hr (by omega)
      · exact fun w1 h1 => (qdoc.secrets kn ln e t a b o s sd w1 kecd.kt_doc h1 hr (by omega)).mono fun _ _ ⟨⟨v1, v2, e1, h2, h3⟩, hb⟩ => ⟨⟨v1, v2, e1, sl_holds (by omega) (by omega) h2, sl_holds (by omega) (by omega) h3⟩, hb⟩
      · exact fun w1 => (rsdoc.secrets kn ln e t a b o s sd w1 kecd.kt_doc hr (by omega)).mono fun _ _ ⟨⟨v1, v2, e1, h2, h3⟩, hb⟩ => ⟨⟨v1, v2, e1, lsl11.sl_own (by omega) (by omega) h2, lsl11.sl_own (by omega) (by omega) h3⟩, hb⟩
      · exact fun w1 h1 => (qdoc.masks ln fn kn e t a b o s sd w1 kecd.kt_doc h1 (by omega) hr (by omega)).mono fun _ _ ⟨⟨v1, e1, h2⟩, hb⟩ => ⟨⟨v1, e1, sl_holds (by omega) (by omega) h2⟩, hb⟩
      · exact fun w1 => (rsdoc.masks ln fn kn e t a b o s sd w1 kecd.kt_doc (by omega) hr (by omega)).mono fun _ _ ⟨⟨v1, e1, h2⟩, hb⟩ => ⟨⟨v1, e1, lsl11.sl_own (by omega) (by omega) h2⟩, hb⟩
    · have hn : latt (kn : Int) (ln : Int) e t a b o s = false ∨ fr < 0 ∨ 65000 < fr := Or.inr (by omega)
      refine lists11.near _ sd fr kn ln ln kn 0 (qX sd) (qS sd e) (fun i => qS sd e (ln + i)) (fun _ _ => 0) w (by omega) hP hL (by omega) (fun _ => by omega) ?_ ?_ ?_ ?_ ?_ ?_ (fun w1 h1 => qawake.awake_any w1 h1)
      · exact fun w1 h1 => qdoc.matrix kn ln e t a b o s sd w1 kecd.kt_doc h1 hr (by omega)
      · exact fun w1 => rsdoc.matrix kn ln e t a b o s sd w1 kecd.kt_doc hr (by omega)
      · exact fun w1 h1 => (qdoc.secrets kn ln e t a b o s sd w1 kecd.kt_doc h1 hr (by omega)).mono fun _ _ ⟨⟨v1, v2, e1, h2, h3⟩, hb⟩ => ⟨⟨v1, v2, e1, sl_holds (by omega) (by omega) h2, sl_holds (by omega) (by omega) h3⟩, hb⟩
      · exact fun w1 => (rsdoc.secrets kn ln e t a b o s sd w1 kecd.kt_doc hr (by omega)).mono fun _ _ ⟨⟨v1, v2, e1, h2, h3⟩, hb⟩ => ⟨⟨v1, v2, e1, lsl11.sl_own (by omega) (by omega) h2, lsl11.sl_own (by omega) (by omega) h3⟩, hb⟩
      · exact fun w1 _ => (qmsk.masks_no _ _ e t a b o s fr sd w1 hn).mono fun _ _ ⟨e1, hb⟩ => ⟨⟨_, e1, lsl11.sl_nil _ _⟩, hb⟩
      · exact fun w1 => (rsmsk.masks_no _ _ e t a b o s fr sd w1 hn).mono fun _ _ ⟨e1, hb⟩ => ⟨⟨_, e1, lsl11.sl_nil _ _⟩, hb⟩
  · have hr : latt k l e t a b o s = false := by simpa using hr
    refine lists11.near _ sd fr 0 0 0 0 0 (fun _ _ _ => 0) (fun _ _ => 0) (fun _ _ => 0) (fun _ _ => 0) w (by omega) hP hL (by omega) (fun h => absurd h (by omega)) ?_ ?_ ?_ ?_ ?_ ?_ (fun w1 h1 => qawake.awake_any w1 h1)
    · exact fun w1 _ => (qmat.matrix_no k l e t a b o s sd w1 hr).mono fun _ _ ⟨e1, hb⟩ => ⟨⟨_, [], e1, ⟨rfl, Or.inl ⟨rfl, rfl⟩⟩, rows_nil _ _ _ _ _⟩, hb⟩
    · exact fun w1 => (rsmat.matrix_no k l e t a b o s sd w1 hr).mono fun _ _ ⟨e1, hb⟩ => ⟨⟨_, [], e1, ⟨rfl, Or.inl ⟨rfl, rfl⟩⟩, rows_nil _ _ _ _ _⟩, hb⟩
    · exact fun w1 _ => (qsec.secrets_no k l e t a b o s sd w1 hr).mono fun _ _ ⟨e1, hb⟩ => ⟨⟨_, _, e1, lsl11.sl_nil _ _, lsl11.sl_nil _ _⟩, hb⟩
    · exact fun w1 => (rssec.secrets_no k l e t a b o s sd w1 hr).mono fun _ _ ⟨e1, hb⟩ => ⟨⟨_, _, e1, lsl11.sl_nil _ _, lsl11.sl_nil _ _⟩, hb⟩
    · exact fun w1 _ => (qmsk.masks_no _ _ e t a b o s fr sd w1 (Or.inl hr)).mono fun _ _ ⟨e1, hb⟩ => ⟨⟨_, e1, lsl11.sl_nil _ _⟩, hb⟩
    · exact fun w1 => (rsmsk.masks_no _ _ e t a b o s fr sd w1 (Or.inl hr)).mono fun _ _ ⟨e1, hb⟩ => ⟨⟨_, e1, lsl11.sl_nil _ _⟩, hb⟩
end Go.Proofs.YtjdcmnmnjkkpiaaDoor.l11l
