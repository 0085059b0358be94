/-
  The statement SampleSmall (P11.7): all are right; secrets are at most eta either way, masks at most Gamma1; a ball has at most tau numbers, each 1 or -1. Conditions: none, but what the row lists of keccak's variable 'places', which the card ties to the program's text; for every input that the form speaks of.
-/
import Derived.Test.YtjdcmnmnjkkpiaaDoorRows
import Derived.Test.YtjdcmnmnjkkpiaaDoorCards
import Derived.Test.YtjdcmnmnjkkpiaaDoorTie
import Derived.Test.YtjdcmnmnjkkpiaaDoorKq
import Derived.Test.YtjdcmnmnjkkpiaaDoorSmall11
import Derived.Test.YtjdcmnmnjkkpiaaDoorQAwake
import Derived.ProofKit
import Derived.OpenShut
import Derived.Carry
import Derived.SevenTiedAt
namespace Go.Proofs.YtjdcmnmnjkkpiaaDoor.l11z
open Go Go.ChangeShapes Go.WideShapes Go.ChangeAt Go.RowKit
open Go.Proofs.YtjdcmnmnjkkpiaaDoor.fldm Go.Proofs.YtjdcmnmnjkkpiaaDoor.samm Go.Proofs.YtjdcmnmnjkkpiaaDoor.rbitf Go.Proofs.YtjdcmnmnjkkpiaaDoor.rbitg Go.Proofs.YtjdcmnmnjkkpiaaDoor.arr Go.Proofs.YtjdcmnmnjkkpiaaDoor.mem Go.Proofs.YtjdcmnmnjkkpiaaDoor.polt Go.Proofs.YtjdcmnmnjkkpiaaDoor.pols Go.Proofs.YtjdcmnmnjkkpiaaDoor.kturn Go.Proofs.YtjdcmnmnjkkpiaaDoor.kstep Go.Proofs.YtjdcmnmnjkkpiaaDoor.rndm Go.Proofs.YtjdcmnmnjkkpiaaDoor.polys Go.Proofs.YtjdcmnmnjkkpiaaDoor.samb Go.Proofs.YtjdcmnmnjkkpiaaDoor.saml Go.Proofs.YtjdcmnmnjkkpiaaDoor.samr Go.Proofs.YtjdcmnmnjkkpiaaDoor.rsdoc
set_option linter.unusedVariables false
theorem own : ownKnob Tryd.prog.godebug = none := by kernel_rfl
theorem laidOut : laidOutB Tryd.prog = true := by kernel_rfl

set_option maxRecDepth 100000 in
set_option maxHeartbeats 4000000 in
theorem pick_any (wh : Int) (r : Nat) (hr : (IntKind.u64.wrap wh).tmod 4 = (r : Int)) (h4 : r < 4) (w : World) : Calls Tryd.prog 23 #[.int .i64 wh] w fun e w' => e = .returned (.int .i64 ((r + 1 : Nat) : Int)) ∧ w' = w := by
  have f1 : IntKind.i64.wrap (r : Int) = (r : Int) := by rw [IntKind.wrap_i64]; omega
  have f2 : IntKind.i64.wrap (1 + (r : Int)) = ((r + 1 : Nat) : Int) := by rw [IntKind.wrap_i64]; omega
  go_enter Tryd.func23, Tryd.ntmps23
  go_wp2_with fail
  go_ret
  exact ⟨by first | rfl | simp_all | (congr 2; omega), rfl⟩
set_option maxRecDepth 100000 in
set_option maxHeartbeats 4000000 in
theorem far (b : ByteArray) (fr wh : Int) (w : World) (h : 400 < b.size) (hP : Gp w) :
    Calls Tryd.prog 5 #[.string b, .int .i64 fr, .int .i64 wh] w fun e w' => e = .returned (.bool true) ∧ Below w.heap.size w w' := by
  have HP := Away.mk hP
  have hz : (400 : Int) < (b.size : Int) := by omega
  clear h hP
  go_enter Tryd.func5, Tryd.ntmps5
  go_wp2_with fail
  refine (qawake.awake_any _ HP.out).mono ?_
  rintro e w3 ⟨rfl, hb⟩
  have HB : Away (Below w.heap.size w w3) := ⟨hb⟩
  clear hb
  go_wp2_with fail
  go_ret
  exact ⟨rfl, HB.out⟩
theorem sl_holds {w : World} {B m : Nat} {v : Value} {q : Nat → Nat → Int} (h1 : 1 ≤ m) (h8 : m ≤ 8) (h : Holds w B v m q) : lsl11.SL w v m q := Or.inr ⟨h1, h8, B, h⟩
theorem near (b : ByteArray) (fr wh pk : Int) (kn ln tau : Nat) (e a g o s : Int) (w : World) (hb : b.size ≤ 400) (hP : Gp w) (h : latt (kn : Int) (ln : Int) e (tau : Int) a g o s = true)
    (HPk : ∀ w1 : World, Calls Tryd.prog 23 #[.int .i64 wh] w1 fun e w' => e = .returned (.int .i64 pk) ∧ w' = w1)
    (HSt : ∀ w1 : World, Calls Tryd.prog 22 #[.int .i64 pk] w1 fun e0 w' => e0 = .returned (.tuple #[.agg #[.int .i64 (kn : Int), .int .i64 (ln : Int), .int .i64 e, .int .i64 (tau : Int), .int .i64 a, .int .i64 g, .int .i64 o, .int .i64 s], .int .i64 0]) ∧ Below w1.heap.size w1 w') :
    Calls Tryd.prog 5 #[.string b, .int .i64 fr, .int .i64 wh] w fun e w' => e = .returned (.bool true) ∧ Below w.heap.size w w' := by
  obtain ⟨k1, l1, t1, he, ha⟩ := latt_of h
  obtain ⟨m1, m2, m3⟩ := mw_two a ha
  have hx : 0 ≤ IntKind.u64.wrap fr := by rw [IntKind.wrap_u64]; omega
  obtain ⟨fm, hfm⟩ := Int.eq_ofNat_of_zero_le (a := (IntKind.u64.wrap fr).tmod 5000) (Int.tmod_nonneg _ hx)
  have hfl : fm < 5000 := by
    have := Int.tmod_lt_of_pos (IntKind.u64.wrap fr) (show (0 : Int) < 5000 by decide)
    omega
  refine small11.near b fr wh pk kn ln tau fm e a g o s (qS b e) (fun i => qS b e (ln + i)) (qM b a fm) (dB b (tau : Int)) (dU b) w hb hP _ rfl hfm hfl (by omega) (by omega) (fun i k => sma_red _ _ _) (fun i k => sma_red _ _ _) (fun i k => ?_) (fun k => tre_red (ball_tre _ _ k)) (fun k => uni_red _ _) ?_ ?_ ?_ (ball_nz _ tau (by omega)) ?_ HPk HSt ?_ ?_ ?_ ?_ (fun w1 h1 => qawake.awake_any w1 h1)
  · unfold qM dM un
    omega
  · exact cbs_le _ e (by omega) ln fun j _ => cb_le _ e (by omega) 256 fun i _ => sma_bound _ e he i
  · exact cbs_le _ e (by omega) kn fun j _ => cb_le _ e (by omega) 256 fun i _ => sma_bound _ e he i
  · refine cbs_le _ a (by omega) ln fun j _ => cb_le _ a (by omega) 256 fun i _ => ?_
    unfold qM dM un
    have hu := up_lt (spok.out keca.TL keca.RL 2 (tw b ((fm + j) % 256) ((fm + j) / 256)) (32 * mw a)) (mw a) i
    exact mask_bound _ a (by omega) (by omega) hu.1 (by rw [← m3]; exact hu.2)
  · exact cbs_le _ 1 (by decide) 1 fun j _ => cb_le _ 1 (by decide) 256 fun i _ => tre_bound (ball_tre _ _ i)
  · exact fun w1 h1 => (qdoc.secrets kn ln e (tau : Int) a g o s b w1 kecd.kt_doc h1 h (by omega)).mono fun _ _ ⟨⟨v1, v2, e1, h2, h3⟩, hb⟩ => ⟨⟨v1, v2, e1, sl_holds (by omega) (by omega) h2, sl_holds (by omega) (by omega) h3⟩, hb⟩
  · exact fun w1 h1 => (qdoc.masks ln fm kn e (tau : Int) a g o s b w1 kecd.kt_doc h1 (by omega) h (by omega)).mono fun _ _ ⟨⟨v1, e1, h2⟩, hb⟩ => ⟨⟨v1, e1, sl_holds (by omega) (by omega) h2⟩, hb⟩
  · exact fun w1 h1 => qdoc.ball b (tau : Int) w1 kecd.kt_doc h1 (by omega)
  · exact fun w1 h1 => qdoc.uniform b w1 kecd.kt_doc h1 (by omega)
theorem walk (b : ByteArray) (fr wh : Int) (w : World) (wb : b.size ≤ maxLen) (wf : (Lit.int .i64 fr).wf = true) (ww : (Lit.int .i64 wh).wf = true) (hP : Gp w) :
    Calls Tryd.prog 5 #[.string b, .int .i64 fr, .int .i64 wh] w fun e w' => e = .returned (.bool true) ∧ Below w.heap.size w w' := by
  by_cases h : 400 < b.size
  · exact far b fr wh w h hP
  have hx : 0 ≤ IntKind.u64.wrap wh := by rw [IntKind.wrap_u64]; omega
  obtain ⟨r, hr⟩ := Int.eq_ofNat_of_zero_le (a := (IntKind.u64.wrap wh).tmod 4) (Int.tmod_nonneg _ hx)
  have hr4 : r < 4 := by
    have := Int.tmod_lt_of_pos (IntKind.u64.wrap wh) (show (0 : Int) < 4 by decide)
    omega
  have HPk := fun w1 => pick_any wh r hr hr4 w1
  rcases (show r = 0 ∨ r = 1 ∨ r = 2 ∨ r = 3 by omega) with rfl | rfl | rfl | rfl
  · exact near b fr wh 1 4 4 39 2 131072 95232 80 128 w (by omega) hP (by decide +kernel) HPk (fun w1 => rset.set_1 w1)
  · exact near b fr wh 2 6 5 49 4 524288 261888 55 192 w (by omega) hP (by decide +kernel) HPk (fun w1 => rset.set_2 w1)
  · exact near b fr wh 3 8 7 60 2 524288 261888 75 256 w (by omega) hP (by decide +kernel) HPk (fun w1 => rset.set_3 w1)
  · exact near b fr wh 4 1 1 20 2 131072 95232 60 128 w (by omega) hP (by decide +kernel) HPk (fun w1 => rset.set_4 w1)
end Go.Proofs.YtjdcmnmnjkkpiaaDoor.l11z
