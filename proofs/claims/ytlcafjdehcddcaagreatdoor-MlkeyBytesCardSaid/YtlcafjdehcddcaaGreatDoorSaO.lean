/-
  The sponge's bytes as a list: how many, and the first ones. No function of a program is named here but the sponge's model. Conditions: as each theorem says. Layer 11's polynomials in the sponge's bytes: what Uniform, Small, Ball, Matrix, Secrets and Masks hold. No function of a program is named here. Conditions: as each theorem says.
-/
import Derived.Test.YtlcafjdehcddcaaGreatDoorSpY
import Derived.Test.YtlcafjdehcddcaaGreatDoorPuA
namespace Go.Proofs.YtlcafjdehcddcaaGreatDoor
namespace samc
open Go Go.RowKit
open arr mem kecm kecb keca kstep spgm spmx rspd polys fldm samb spok
theorem out_bys (k : Int) (b : ByteArray) (n : Nat) : rbitc.bys (out TL RL k b n) = sq (PP TL RL) (rate k) (pad (rate k) (spgm.mark k) (abs (PP TL RL) (rate k) ⟨Z, 0⟩ (rspc.bys b))) n := by
 unfold out
 exact bitp.bys_u8s _ (fun x hx => sq_lt _ _ _ _ x hx)
theorem out_size (k : Int) (b : ByteArray) (n : Nat) : (out TL RL k b n).size = n := by
 rw [← rbitc.bys_length, out_bys, sq_length]
theorem out_first (k : Int) (b : ByteArray) (r n : Nat) (l p : List Nat) (hr : rate k = r) (h0 : 0 < r) (hl0 : (pad r (spgm.mark k) (abs (PP TL RL) r ⟨Z, 0⟩ (rspc.bys b))).l = l) (hp : permL (fun i => TL.getD i 0) (fun i => RL.getD i 0) l 24 = p) (hn : r ≤ n) (i : Nat) (hi : i < r) :
 samm.by' (rbitc.bys (out TL RL k b n)) i = gb p i := by
 have hl : pad r (spgm.mark k) (abs (PP TL RL) r ⟨Z, 0⟩ (rspc.bys b)) = ⟨l, r⟩ := by rw [← hl0]; rfl
 have e3 : tn (PP TL RL) r ⟨l, r⟩ = ⟨p, 0⟩ := by unfold tn; rw [if_pos rfl]; show (⟨PP TL RL l, 0⟩ : Sp) = _; unfold PP; rw [hp]
 have e4 := (round_is (PP TL RL) r ⟨l, r⟩ p 0 r h0 e3 h0 (by omega)).2
 rw [out_bys, hr, hl, show n = r + (n - r) by omega, sq_add, e4]
 unfold samm.by'
 rw [List.getD_eq_getElem?_getD, List.getElem?_append_left (by rw [gbs_length]; exact hi)]
 simp [gbs, hi]
end samc
namespace rsdoc
open Go Go.RowKit
open arr mem keca kstep spok polys polt rbita rbitc rbitf rbitg rndm samm samb samc saml
theorem infoT (T : Array Value) (hK : KT T TL RL) : (Tryz.prog.info? 38).map (·.size) = some T.size := by rw [hK.size]; kernel_rfl
def dU (b : ByteArray) : Nat → Int := uni (bys (out TL RL 1 b 1008))
def dS (b : ByteArray) (e : Int) : Nat → Int := sma (bys (out TL RL 2 b 816)) e
def dB (b : ByteArray) (tau : Int) : Nat → Int := ball (bys (out TL RL 2 b 544)) tau
def mw (a : Int) : Nat := lb (a - 1).toNat + 1
def dM (b : ByteArray) (a : Int) : Nat → Int := un (up (out TL RL 2 b (32 * mw a)) (mw a)) a
theorem mw_two (a : Int) (h : a = 131072 ∨ a = 524288) : lb (a - 1 + a).toNat = mw a ∧ mw a ≤ 64 ∧ (2 : Int) ^ mw a = 2 * a := by
 rcases h with rfl | rfl <;> decide +kernel
theorem up_lt (s : ByteArray) (m i : Nat) : 0 ≤ up s m i ∧ up s m i < (2 : Int) ^ m := by
 unfold up rbitc.bt
 have := Nat.mod_lt (bitm.pk 8 (bys s) / 2 ^ (m * i)) (Nat.two_pow_pos m)
 refine ⟨Int.natCast_nonneg _, ?_⟩
 exact_mod_cast this
def qS (sd : ByteArray) (e : Int) (r : Nat) : Nat → Int := dS (tw sd r 0) e
def qM (sd : ByteArray) (a : Int) (fn r : Nat) : Nat → Int := dM (tw sd ((fn + r) % 256) ((fn + r) / 256)) a
def qX (sd : ByteArray) (r c : Nat) : Nat → Int := dU (tw sd c r)
theorem latt_of {k l e t a b o s : Int} (h : latt k l e t a b o s = true) : (1 ≤ k ∧ k ≤ 8) ∧ (1 ≤ l ∧ l ≤ 8) ∧ (1 ≤ t ∧ t ≤ 64) ∧ (e = 2 ∨ e = 4) ∧ (a = 131072 ∨ a = 524288) := by
 unfold latt upto at h
 simp only [Bool.and_eq_true, Bool.or_eq_true, decide_eq_true_eq, beq_iff_eq] at h
 obtain ⟨⟨⟨⟨⟨⟨⟨h1, h2⟩, h3⟩, h4⟩, h5⟩, h6⟩, h7⟩, h8⟩ := h
 exact ⟨h1, h2, h3, h5, h6⟩
end rsdoc
end Go.Proofs.YtlcafjdehcddcaaGreatDoor
