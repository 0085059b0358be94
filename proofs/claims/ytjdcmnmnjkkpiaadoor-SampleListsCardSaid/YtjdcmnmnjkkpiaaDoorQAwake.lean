/-
  The law package's own look at sampling ('awake') returns true. Conditions: keccak's variable 'places' holds what the program's text lays there.
-/
import Derived.Test.YtjdcmnmnjkkpiaaDoorAwake11
import Derived.Test.YtjdcmnmnjkkpiaaDoorQC
import Derived.Test.YtjdcmnmnjkkpiaaDoorKq
namespace Go.Proofs.YtjdcmnmnjkkpiaaDoor.qawake
open Go Go.RowKit
open Go.Proofs.YtjdcmnmnjkkpiaaDoor.rbitb Go.Proofs.YtjdcmnmnjkkpiaaDoor.mem Go.Proofs.YtjdcmnmnjkkpiaaDoor.arr Go.Proofs.YtjdcmnmnjkkpiaaDoor.tabv Go.Proofs.YtjdcmnmnjkkpiaaDoor.built Go.Proofs.YtjdcmnmnjkkpiaaDoor.kturn Go.Proofs.YtjdcmnmnjkkpiaaDoor.kstep Go.Proofs.YtjdcmnmnjkkpiaaDoor.polys Go.Proofs.YtjdcmnmnjkkpiaaDoor.polt Go.Proofs.YtjdcmnmnjkkpiaaDoor.pols Go.Proofs.YtjdcmnmnjkkpiaaDoor.saml Go.Proofs.YtjdcmnmnjkkpiaaDoor.fldm Go.Proofs.YtjdcmnmnjkkpiaaDoor.rndm Go.Proofs.YtjdcmnmnjkkpiaaDoor.samm Go.Proofs.YtjdcmnmnjkkpiaaDoor.samb Go.Proofs.YtjdcmnmnjkkpiaaDoor.samc Go.Proofs.YtjdcmnmnjkkpiaaDoor.rsdoc

theorem own_is {w : World} {B e n : Nat} {v : Value} {vs : List Value} (h : w.ownsRow B e 1 v n vs) : ∃ a c, v = .slice a n c := by
  rcases h.2 with ⟨rfl, rfl⟩ | ⟨g, c, cur, rfl, -⟩
  · exact ⟨_, _, rfl⟩
  · exact ⟨_, _, rfl⟩
theorem latt4 : latt ((1 : Nat) : Int) ((1 : Nat) : Int) 2 20 131072 95232 60 128 = true := by decide +kernel
theorem one_holds {w : World} {B : Nat} {v : Value} {p q : Nat → Nat → Int} (h : Holds w B v 1 p) (hpq : p 0 = q 0) : Holds w B v 1 q := by
  obtain ⟨g, c, e, h1, h2, h3⟩ := h
  refine ⟨g, c, e, h1, h2, fun i hi k hk => ?_⟩
  obtain rfl : i = 0 := by omega
  rw [← hpq]
  exact h3 0 hi k hk
theorem awake_any (w : World) (hP : Gp w) : Calls Tryd.prog 6 #[] w fun e w' => e = .returned (.bool true) ∧ Below w.heap.size w w' := by
  refine awake11.awake_any w hP (fun w1 h1 => qdoc.ball sx 5 w1 kecd.kt_doc h1 (by decide)) (fun w1 h1 => qdoc.uniform su w1 kecd.kt_doc h1 (by decide)) (fun w1 h1 => ?_) (fun w1 h1 => ?_) (fun w1 h1 => ?_)
  · refine (qdoc.matrix 1 1 2 20 131072 95232 60 128 ⟨#[114, 104, 111]⟩ w1 kecd.kt_doc h1 latt4 (by decide)).mono ?_
    rintro e w2 ⟨⟨v, vs, rfl, h2, -⟩, hb⟩
    obtain ⟨x, c, rfl⟩ := own_is h2
    exact ⟨⟨_, _, rfl⟩, hb⟩
  · refine (qdoc.masks 1 0 1 2 20 131072 95232 60 128 ⟨#[109]⟩ w1 kecd.kt_doc h1 (by decide) latt4 (by decide)).mono ?_
    rintro e w2 ⟨⟨v, rfl, g, c, rfl, -⟩, hb⟩
    exact ⟨⟨_, _, rfl⟩, hb⟩
  · refine (qdoc.secrets 1 1 2 20 131072 95232 60 128 ⟨#[115]⟩ w1 kecd.kt_doc h1 latt4 (by decide)).mono ?_
    rintro e w2 ⟨⟨v1, v2, rfl, h2, h3⟩, hb⟩
    exact ⟨⟨_, _, rfl, one_holds h2 rfl, one_holds h3 rfl⟩, hb⟩
end Go.Proofs.YtjdcmnmnjkkpiaaDoor.qawake
