/-
  Layer 12's keys as bytes: what the keys of a pair are read as, and what is read of bytes, laid again. No function of a program is named here. Conditions: as each theorem says.
-/
import Derived.Test.YtlcafjdehcddcaaGreatDoorMlk
namespace Go.Proofs.YtlcafjdehcddcaaGreatDoor
namespace kkey
open Go Go.RowKit
open arr mem polys fldm pols rbita rbitd rbite rbitf rbitg bitp rsdoc mlkm mlkb rkpb rksb rkse
theorem ext_all (b : ByteArray) (n : Nat) (h : b.size = n) : b.extract 0 n = b := by
 subst h
 apply ByteArray.ext
 simp
theorem ext_app (a b : ByteArray) (n : Nat) (h : n ≤ a.size) : (a ++ b).extract 0 n = a.extract 0 n := by
 rw [ByteArray.extract_append, show n - a.size = 0 by omega, ext_none, ByteArray.append_empty]
theorem holds_congr {w : World} {B m : Nat} {v : Value} {p q : Nat → Nat → Int} (h : Holds w B v m p) (e : ∀ i, i < m → ∀ k, k < 256 → p i k = q i k) : Holds w B v m q := by
 obtain ⟨g, c, hv, h1, h2, h3⟩ := h
 exact ⟨g, c, hv, h1, h2, fun i hi k hk => by rw [← e i hi k hk]; exact h3 i hi k hk⟩
theorem ext_all' (b : ByteArray) (m n : Nat) (hm : m = 0) (h : n = b.size) : b.extract m n = b := by subst hm; exact ext_all b n h.symm
theorem ext_join (x : ByteArray) (a b c : Nat) (h1 : a ≤ b) (h2 : b ≤ c) : x.extract a b ++ x.extract b c = x.extract a c := by
 rw [ByteArray.extract_append_extract, Nat.min_eq_left h1, Nat.max_eq_right h2]
section
variable (ζ : Nat → Int) (sd : ByteArray) (kn ln : Nat) (e : Int)
theorem pk_rho : (pPk ζ sd kn ln e).extract 0 32 = pRho sd kn ln := by
 unfold pPk
 rw [ext_left _ _ _ _ _ (by rw [pRho_size]; decide)]
 exact ext_all _ _ (pRho_size _ _ _)
theorem pk_high (i : Nat) (hi : i < kn) (k : Nat) (hk : k < 256) : rdU (pPk ζ sd kn ln e) 32 10 i k = pHi ζ sd kn ln e i k := by
 have h := rd_packed (pRho sd kn ln) (pHi ζ sd kn ln e) 1023 kn i (by decide) hi (pHi_in _ _ _ _ _ _) k hk
 rw [pRho_size, lb_1023] at h
 exact h
theorem head_rho : (pHead ζ sd kn ln e).extract 0 32 = pRho sd kn ln := by
 unfold pHead
 rw [ext_app _ _ _ (by rw [ByteArray.size_append, pRho_size, pKey_size]; decide), ext_app _ _ _ (by rw [pRho_size]; decide)]
 exact ext_all _ _ (pRho_size _ _ _)
end
theorem up_in (x : ByteArray) (i : Nat) : inb (rdU x 32 10 i) 1023 := fun j _ => by
 have := rsdoc.up_lt (x.extract (32 + 32 * 10 * i) (32 + 32 * 10 * i + 32 * 10)) 10 j
 unfold rdU
 omega
theorem pb_again (x : ByteArray) (kn : Nat) (hx : x.size = 32 + 320 * kn) : cat (x.extract 0 32) (fun i => packed (rdU x 32 10 i) 1023) kn = x := by
 have h := lay_rd (x.extract 0 32) x 32 1023 kn (by rw [lb_1023]; omega)
 rw [lb_1023] at h
 rw [h, ByteArray.extract_append_extract]
 rw [show min 0 32 = 0 by decide, show max 32 (32 + 32 * 10 * kn) = x.size by omega]
 exact ext_all _ _ rfl
section
variable (kn ln : Nat) (e : Int) (h : ByteArray) (a b l : Nat → Nat → Int) (hh : h.size = 128)
include hh
theorem sk_head : (skB kn ln e h a b l).extract 0 128 = h := by
 unfold skB
 rw [laidS, ext_left _ _ _ _ _ (by rw [laidS_size, laidS_size, hh]; omega), laidS, ext_left _ _ _ _ _ (by rw [laidS_size, hh]; omega), laidS, ext_left _ _ _ _ _ (by rw [hh]; omega)]
 exact ext_all _ _ hh
theorem sk_rd1 (i : Nat) (hi : i < ln) : rdU (skB kn ln e h a b l) 128 (lb (e + e).toNat) i = rdU (laidS h a e e ln) 128 (lb (e + e).toNat) i := by
 have s1 := laidS_size h a e e ln
 have s2 := laidS_size (laidS h a e e ln) b e e kn
 unfold skB
 generalize laidS h a e e ln = L1 at s1 s2 ⊢
 generalize hL2 : laidS L1 b e e kn = L2 at s2 ⊢
 rw [laidS, rd_left L2 _ kn 128 _ i ln hi (by omega), ← hL2, laidS, rd_left L1 _ kn 128 _ i ln hi (by omega)]
theorem sk_rd2 (i : Nat) (hi : i < kn) : rdU (skB kn ln e h a b l) (128 + 32 * lb (e + e).toNat * ln) (lb (e + e).toNat) i = rdU (laidS (laidS h a e e ln) b e e kn) (128 + 32 * lb (e + e).toNat * ln) (lb (e + e).toNat) i := by
 have s1 := laidS_size h a e e ln
 have s2 := laidS_size (laidS h a e e ln) b e e kn
 unfold skB
 generalize laidS h a e e ln = L1 at s1 s2 ⊢
 generalize laidS L1 b e e kn = L2 at s2 ⊢
 rw [laidS, rd_left L2 _ kn _ _ i kn hi (by omega)]
variable (he : e = 2 ∨ e = 4) (ha : ∀ i, i < ln → ins (a i) e e) (hb : ∀ i, i < kn → ins (b i) e e) (hl : ∀ i, i < kn → ins (l i) 4095 4096)
include he ha hb hl
theorem sk_ok : okK (skB kn ln e h a b l) kn ln e := by
 refine ⟨fun i hi => ?_, fun i hi => ?_, ?_⟩
 ·rw [sk_rd1 kn ln e h a b l hh i hi, ← hh]
  exact ok_laid h a e e ln (by omega) ha i hi
 ·rw [sk_rd2 kn ln e h a b l hh i hi, ← hh, ← laidS_size h a e e ln]
  exact ok_laid (laidS h a e e ln) b e e kn (by omega) hb i hi
 ·have h5 := ok_laid (laidS (laidS h a e e ln) b e e kn) l 4095 4096 kn (by decide) hl
  rw [laidS_size, laidS_size, hh, lb_low] at h5
  exact h5
variable (ra : ∀ i k, 0 ≤ a i k ∧ a i k < 8380417) (rb : ∀ i k, 0 ≤ b i k ∧ b i k < 8380417) (rl : ∀ i k, 0 ≤ l i k ∧ l i k < 8380417)
include ra rb rl
theorem sk_read : (∀ i, i < ln → ∀ k, k < 256 → rdS (skB kn ln e h a b l) 128 (lb (e + e).toNat) e i k = a i k)
 ∧ (∀ i, i < kn → ∀ k, k < 256 → rdS (skB kn ln e h a b l) (128 + 32 * lb (e + e).toNat * ln) (lb (e + e).toNat) e i k = b i k)
 ∧ (∀ i, i < kn → ∀ k, k < 256 → rdS (skB kn ln e h a b l) (128 + 32 * lb (e + e).toNat * ln + 32 * lb (e + e).toNat * kn) 13 4096 i k = l i k) := by
 refine ⟨fun i hi k hk => ?_, fun i hi k hk => ?_, fun i hi k hk => ?_⟩
 ·have h5 := rd_laid h a e e ln i (by omega) hi (ha i hi) (fun k => ra i k) k hk
  rw [hh] at h5
  rw [rdS, sk_rd1 kn ln e h a b l hh i hi]
  exact h5
 ·have h5 := rd_laid (laidS h a e e ln) b e e kn i (by omega) hi (hb i hi) (fun k => rb i k) k hk
  rw [laidS_size, hh] at h5
  rw [rdS, sk_rd2 kn ln e h a b l hh i hi]
  exact h5
 ·have h5 := rd_laid (laidS (laidS h a e e ln) b e e kn) l 4095 4096 kn i (by decide) hi (hl i hi) (fun k => rl i k) k hk
  rw [laidS_size, laidS_size, hh, lb_low] at h5
  exact h5
end
theorem ok_rd {s : ByteArray} {at' w n : Nat} {low high : Int} (h1 : 0 ≤ low) (h2 : 1 ≤ high) (h3 : low < 4190208) (h4 : high < 4190208) (h : okU s at' w (low + high) n) : okS (rdS s at' w high) low high n := fun i hi => (sg_un h1 h2 h3 h4 (h i hi)).2
theorem sb_again (x : ByteArray) (kn ln : Nat) (e : Int) (he : e = 2 ∨ e = 4) (hx : x.size = 128 + 32 * lb (e + e).toNat * ln + 32 * lb (e + e).toNat * kn + 416 * kn) (hok : okK x kn ln e) :
 resK kn ln e (x.extract 0 128) (rdS x 128 (lb (e + e).toNat) e) (rdS x (128 + 32 * lb (e + e).toNat * ln) (lb (e + e).toNat) e) (rdS x (128 + 32 * lb (e + e).toNat * ln + 32 * lb (e + e).toNat * kn) 13 4096) = .tuple #[.string x, .int .i64 0] := by
 obtain ⟨o1, o2, o3⟩ := hok
 have k1 := lay_rdS (x.extract 0 128) x 128 e e ln (by omega) (by omega) (by omega) (by omega) (by omega) o1
 have k2 := lay_rdS (x.extract 0 128 ++ x.extract 128 (128 + 32 * lb (e + e).toNat * ln)) x (128 + 32 * lb (e + e).toNat * ln) e e kn (by omega) (by omega) (by omega) (by omega) (by omega) o2
 have o4 : okU x (128 + 32 * lb (e + e).toNat * ln + 32 * lb (e + e).toNat * kn) (lb (4095 + 4096 : Int).toNat) (4095 + 4096) kn := by rw [lb_low]; exact o3
 have k3 := lay_rdS (x.extract 0 128 ++ x.extract 128 (128 + 32 * lb (e + e).toNat * ln) ++ x.extract (128 + 32 * lb (e + e).toNat * ln) (128 + 32 * lb (e + e).toNat * ln + 32 * lb (e + e).toNat * kn)) x (128 + 32 * lb (e + e).toNat * ln + 32 * lb (e + e).toNat * kn) 4095 4096 kn (by decide) (by decide) (by decide) (by decide) (by rw [lb_low]; omega) o4
 rw [lb_low] at k3
 unfold resK
 rw [if_pos ⟨ok_rd (by omega) (by omega) (by omega) (by omega) o1, ok_rd (by omega) (by omega) (by omega) (by omega) o2, ok_rd (by decide) (by decide) (by decide) (by decide) o3⟩]
 unfold skB
 rw [k1, k2, k3]
 generalize 32 * lb (e + e).toNat * ln = p at hx ⊢
 generalize 32 * lb (e + e).toNat * kn = q at hx ⊢
 rw [ext_join x 0 128 _ (by omega) (by omega), ext_join x 0 _ _ (by omega) (by omega), ext_join x 0 _ _ (by omega) (by omega), ext_all' _ _ _ rfl (by omega)]
end kkey
end Go.Proofs.YtlcafjdehcddcaaGreatDoor
