/-
  The first bytes that the sponge gives for the four seeds of layer 11's 'awake', and what they lead to. Conditions: none.
  Layer 11's polynomials in the sponge's bytes: what Uniform, Small, Ball, Matrix, Secrets and Masks hold. No function of a program is named here. Conditions: as each theorem says.
-/
import Derived.Test.YtjdcmnmnjkkpiaaDoorSpY
import Derived.Test.YtjdcmnmnjkkpiaaDoorPuA
import Derived.Test.YtjdcmnmnjkkpiaaDoorSaAx
namespace Go.Proofs.YtjdcmnmnjkkpiaaDoor.samc
open Go Go.RowKit
open Go.Proofs.YtjdcmnmnjkkpiaaDoor.arr Go.Proofs.YtjdcmnmnjkkpiaaDoor.mem Go.Proofs.YtjdcmnmnjkkpiaaDoor.kecm Go.Proofs.YtjdcmnmnjkkpiaaDoor.kecb Go.Proofs.YtjdcmnmnjkkpiaaDoor.keca Go.Proofs.YtjdcmnmnjkkpiaaDoor.kstep Go.Proofs.YtjdcmnmnjkkpiaaDoor.spgm Go.Proofs.YtjdcmnmnjkkpiaaDoor.spmx Go.Proofs.YtjdcmnmnjkkpiaaDoor.rspd Go.Proofs.YtjdcmnmnjkkpiaaDoor.sama Go.Proofs.YtjdcmnmnjkkpiaaDoor.polys Go.Proofs.YtjdcmnmnjkkpiaaDoor.fldm Go.Proofs.YtjdcmnmnjkkpiaaDoor.samb Go.Proofs.YtjdcmnmnjkkpiaaDoor.spok

theorem out_bys (k : Int) (b : ByteArray) (n : Nat) : rbitc.bys (out TL RL k b n) = sq (PP TL RL) (rate k) (pad (rate k) (spgm.mark k) (abs (PP TL RL) (rate k) ⟨Z, 0⟩ (rspc.bys b))) n := by
  unfold out
  exact bitp.bys_u8s _ (fun x hx => sq_lt _ _ _ _ x hx)
theorem out_size (k : Int) (b : ByteArray) (n : Nat) : (out TL RL k b n).size = n := by
  rw [← rbitc.bys_length, out_bys, sq_length]
theorem out_first (k : Int) (b : ByteArray) (r n : Nat) (l p : List Nat) (hr : rate k = r) (h0 : 0 < r) (hl0 : (pad r (spgm.mark k) (abs (PP TL RL) r ⟨Z, 0⟩ (rspc.bys b))).l = l) (hp : permL (fun i => TL.getD i 0) (fun i => RL.getD i 0) l 24 = p) (hn : r ≤ n) (i : Nat) (hi : i < r) :
    samm.by' (rbitc.bys (out TL RL k b n)) i = gb p i := by
  have hl : pad r (spgm.mark k) (abs (PP TL RL) r ⟨Z, 0⟩ (rspc.bys b)) = ⟨l, r⟩ := by rw [← hl0]; rfl
  have e3 : tn (PP TL RL) r ⟨l, r⟩ = ⟨p, 0⟩ := by unfold tn; rw [if_pos rfl]; show (⟨PP TL RL l, 0⟩ : Sp) = _; unfold PP; rw [hp]
  have e4 := (round_is (PP TL RL) r ⟨l, r⟩ p 0 r h0 e3 h0 (by omega)).2
  rw [out_bys, hr, hl, show n = r + (n - r) by omega, sq_add, e4]
  unfold samm.by'
  rw [List.getD_eq_getElem?_getD, List.getElem?_append_left (by rw [gbs_length]; exact hi)]
  simp [gbs, hi]
/-- Ball's seed -/
def sx : ByteArray := ⟨#[120]⟩
def su : ByteArray := ⟨#[117]⟩
def s0 : ByteArray := ⟨#[115, 0, 0]⟩
def s1 : ByteArray := ⟨#[115, 1, 0]⟩
theorem first_x (i : Nat) (hi : i < 136) : samm.by' (rbitc.bys (out TL RL 2 sx 544)) i = gb a24 i := out_first 2 sx 136 544 a0 a24 rfl (by decide) (by decide +kernel) perm_a (by decide) i hi
theorem first_u (i : Nat) (hi : i < 168) : samm.by' (rbitc.bys (out TL RL 1 su 1008)) i = gb b24 i := out_first 1 su 168 1008 b0 b24 rfl (by decide) (by decide +kernel) perm_b (by decide) i hi
theorem first_0 (i : Nat) (hi : i < 136) : samm.by' (rbitc.bys (out TL RL 2 s0 816)) i = gb c24 i := out_first 2 s0 136 816 c0 c24 rfl (by decide) (by decide +kernel) perm_c (by decide) i hi
theorem first_1 (i : Nat) (hi : i < 136) : samm.by' (rbitc.bys (out TL RL 2 s1 816)) i = gb d24 i := out_first 2 s1 136 816 d0 d24 rfl (by decide) (by decide +kernel) perm_d (by decide) i hi
theorem uni_two (B : List Nat) (c0 c1 c2 c3 c4 c5 x y : Nat) (h0 : samm.by' B 0 = c0) (h1 : samm.by' B 1 = c1) (h2 : samm.by' B 2 = c2) (h3 : samm.by' B 3 = c3) (h4 : samm.by' B 4 = c4) (h5 : samm.by' B 5 = c5)
    (hx : c0 + 256 * c1 + 65536 * (c2 % 128) = x) (hy : c3 + 256 * c4 + 65536 * (c5 % 128) = y) (hx1 : x < 8380417) (hy1 : y < 8380417) : samm.uni B 0 = (x : Int) ∧ samm.uni B 1 = (y : Int) := by
  have t0 : samm.tri B (3 * 0) = x := by rw [← hx, ← h0, ← h1, ← h2]; rfl
  have t1 : samm.tri B (3 * 1) = y := by rw [← hy, ← h3, ← h4, ← h5]; rfl
  have e1 : samm.ua B 1 = [x] := by
    rw [samm.ua, samm.ua, t0, if_pos ⟨by show 0 < 256; decide, hx1⟩]; rfl
  have e2 : samm.ua B 2 = [x, y] := by
    rw [samm.ua, e1, t1, if_pos ⟨by show 1 < 256; decide, hy1⟩]; rfl
  obtain ⟨t, ht⟩ := ua_pre B 2 336 (by decide)
  unfold samm.uni
  rw [ht, e2]
  exact ⟨rfl, rfl⟩
theorem sma_two (B : List Nat) (c x y : Nat) (h : samm.by' B 0 = c) (hx : c % 16 = x) (hy : c / 16 = y) (h0 : samm.hok 2 x = true) (h1 : samm.hok 2 y = true) : samm.sma B 2 1 = samm.hv 2 y := by
  have t0 : samm.hf B 0 = x := by rw [← hx, ← h]; rfl
  have t1 : samm.hf B 1 = y := by rw [← hy, ← h]; rfl
  have e1 : samm.sa B 2 1 = [(samm.hv 2 x).toNat] := by
    rw [samm.sa, samm.sa, t0, if_pos ⟨by show 0 < 256; decide, h0⟩]; rfl
  have e2 : samm.sa B 2 2 = [(samm.hv 2 x).toNat, (samm.hv 2 y).toNat] := by
    rw [samm.sa, e1, t1, if_pos ⟨by show 1 < 256; decide, h1⟩]; rfl
  obtain ⟨t, ht⟩ := sa_pre B 2 2 1632 (by decide)
  unfold samm.sma
  rw [ht, e2]
  have := samm.hv_red 2 y
  show (((samm.hv 2 y).toNat : Nat) : Int) = _
  omega
theorem u_differs : samm.uni (rbitc.bys (out TL RL 1 su 1008)) 0 ≠ samm.uni (rbitc.bys (out TL RL 1 su 1008)) 1 := by
  obtain ⟨B, hB⟩ : ∃ B, rbitc.bys (out TL RL 1 su 1008) = B := ⟨_, rfl⟩
  have F : ∀ i, i < 168 → samm.by' B i = gb b24 i := fun i hi => by rw [← hB]; exact first_u i hi
  rw [hB]
  obtain ⟨h0, h1⟩ := uni_two B 74 237 9 135 93 112 650570 7363975
    ((F 0 (by decide)).trans (by decide +kernel)) ((F 1 (by decide)).trans (by decide +kernel)) ((F 2 (by decide)).trans (by decide +kernel))
    ((F 3 (by decide)).trans (by decide +kernel)) ((F 4 (by decide)).trans (by decide +kernel)) ((F 5 (by decide)).trans (by decide +kernel)) (by decide) (by decide) (by decide) (by decide)
  rw [h0, h1]; decide
theorem s_differs : samm.sma (rbitc.bys (out TL RL 2 s0 816)) 2 1 ≠ samm.sma (rbitc.bys (out TL RL 2 s1 816)) 2 1 := by
  obtain ⟨B, hB⟩ : ∃ B, rbitc.bys (out TL RL 2 s0 816) = B := ⟨_, rfl⟩
  obtain ⟨C, hC⟩ : ∃ B, rbitc.bys (out TL RL 2 s1 816) = B := ⟨_, rfl⟩
  have f0 : samm.by' B 0 = gb c24 0 := by rw [← hB]; exact first_0 0 (by decide)
  have f1 : samm.by' C 0 = gb d24 0 := by rw [← hC]; exact first_1 0 (by decide)
  rw [hB, hC, sma_two B 85 5 5 (f0.trans (by decide +kernel)) (by decide) (by decide) (by decide) (by decide), sma_two C 154 10 9 (f1.trans (by decide +kernel)) (by decide) (by decide) (by decide) (by decide)]
  decide
theorem one_of (h : Nat → Int) (h2 : ∀ i, tre (h i)) (h1 : 1 ≤ nz h 256) : cb h 256 = 1 := by
  obtain ⟨i, hi, h3⟩ := nz_some _ 256 h1
  have h4 := tre_one (h2 i) h3
  have h5 := cb_ge h 256 i hi
  have h6 := cb_le h 1 (by decide) 256 (fun j _ => tre_bound (h2 j))
  omega
theorem x_size : cb (samm.bl (rbitc.bys (out TL RL 2 sx 544)) 5 5).1 256 = 1 := by
  obtain ⟨B, hB⟩ : ∃ B, rbitc.bys (out TL RL 2 sx 544) = B := ⟨_, rfl⟩
  have f0 : samm.by' B 8 = gb a24 8 := by rw [← hB]; exact first_x 8 (by decide)
  have f1 : gb a24 8 = 60 := by decide +kernel
  rw [hB]
  exact one_of _ (bl_tre B 5 5) (bl_first B 5 4 (by decide) (by decide) (by omega))
end Go.Proofs.YtjdcmnmnjkkpiaaDoor.samc

namespace Go.Proofs.YtjdcmnmnjkkpiaaDoor.rsdoc
open Go Go.RowKit
open Go.Proofs.YtjdcmnmnjkkpiaaDoor.arr Go.Proofs.YtjdcmnmnjkkpiaaDoor.mem Go.Proofs.YtjdcmnmnjkkpiaaDoor.keca Go.Proofs.YtjdcmnmnjkkpiaaDoor.kstep Go.Proofs.YtjdcmnmnjkkpiaaDoor.spok Go.Proofs.YtjdcmnmnjkkpiaaDoor.polys Go.Proofs.YtjdcmnmnjkkpiaaDoor.polt Go.Proofs.YtjdcmnmnjkkpiaaDoor.rbita Go.Proofs.YtjdcmnmnjkkpiaaDoor.rbitc Go.Proofs.YtjdcmnmnjkkpiaaDoor.rbitf Go.Proofs.YtjdcmnmnjkkpiaaDoor.rbitg Go.Proofs.YtjdcmnmnjkkpiaaDoor.rndm Go.Proofs.YtjdcmnmnjkkpiaaDoor.samm Go.Proofs.YtjdcmnmnjkkpiaaDoor.samb Go.Proofs.YtjdcmnmnjkkpiaaDoor.samc Go.Proofs.YtjdcmnmnjkkpiaaDoor.saml

theorem infoT (T : Array Value) (hK : KT T TL RL) : (Tryd.prog.info? 34).map (·.size) = some T.size := by rw [hK.size]; kernel_rfl
/-- Uniform, Small, Ball of a seed -/
def dU (b : ByteArray) : Nat → Int := uni (bys (out TL RL 1 b 1008))
def dS (b : ByteArray) (e : Int) : Nat → Int := sma (bys (out TL RL 2 b 816)) e
def dB (b : ByteArray) (tau : Int) : Nat → Int := ball (bys (out TL RL 2 b 544)) tau
/-- the width of a mask's numbers; a mask -/
def mw (a : Int) : Nat := lb (a - 1).toNat + 1
def dM (b : ByteArray) (a : Int) : Nat → Int := un (up (out TL RL 2 b (32 * mw a)) (mw a)) a
theorem mw_two (a : Int) (h : a = 131072 ∨ a = 524288) : lb (a - 1 + a).toNat = mw a ∧ mw a ≤ 64 ∧ (2 : Int) ^ mw a = 2 * a := by
  rcases h with rfl | rfl <;> decide +kernel
theorem up_lt (s : ByteArray) (m i : Nat) : 0 ≤ up s m i ∧ up s m i < (2 : Int) ^ m := by
  unfold up rbitc.bt
  have := Nat.mod_lt (bitm.pk 8 (bys s) / 2 ^ (m * i)) (Nat.two_pow_pos m)
  refine ⟨Int.natCast_nonneg _, ?_⟩
  exact_mod_cast this
/-- the polynomials of Secrets, of Masks, of Matrix -/
def qS (sd : ByteArray) (e : Int) (r : Nat) : Nat → Int := dS (tw sd r 0) e
def qM (sd : ByteArray) (a : Int) (fn r : Nat) : Nat → Int := dM (tw sd ((fn + r) % 256) ((fn + r) / 256)) a
def qX (sd : ByteArray) (r c : Nat) : Nat → Int := dU (tw sd c r)
theorem latt_of {k l e t a b o s : Int} (h : latt k l e t a b o s = true) : (1 ≤ k ∧ k ≤ 8) ∧ (1 ≤ l ∧ l ≤ 8) ∧ (1 ≤ t ∧ t ≤ 64) ∧ (e = 2 ∨ e = 4) ∧ (a = 131072 ∨ a = 524288) := by
  unfold latt upto at h
  simp only [Bool.and_eq_true, Bool.or_eq_true, decide_eq_true_eq, beq_iff_eq] at h
  obtain ⟨⟨⟨⟨⟨⟨⟨h1, h2⟩, h3⟩, h4⟩, h5⟩, h6⟩, h7⟩, h8⟩ := h
  exact ⟨h1, h2, h3, h5, h6⟩
end Go.Proofs.YtjdcmnmnjkkpiaaDoor.rsdoc
