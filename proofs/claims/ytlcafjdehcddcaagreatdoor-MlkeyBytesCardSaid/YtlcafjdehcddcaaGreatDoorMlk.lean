/-
  Layer 12 as plain functions: sizes, rows of a product, a pair of keys as bytes, and what is read of bytes. No function of a program is named here. Conditions: as each theorem says. Layer 12's keys as bytes: what is laid is read, and what is read is laid so again. No function of a program is named here. Conditions: as each theorem says. Layer 12's results as values: the numbers of bytes, keys as bytes, what is read of bytes, a matrix of polynomials in memory, the tables' roots. No function of a program is named here. Conditions: as each theorem says.
-/
import Derived.Test.YtlcafjdehcddcaaGreatDoorSaO
import Derived.Test.YtlcafjdehcddcaaGreatDoorPuA
import Derived.Test.YtlcafjdehcddcaaGreatDoorNtm
import Derived.Test.YtlcafjdehcddcaaGreatDoorPuB
import Derived.Test.YtlcafjdehcddcaaGreatDoorBas
import Derived.Test.YtlcafjdehcddcaaGreatDoorTab
namespace Go.Proofs.YtlcafjdehcddcaaGreatDoor
namespace mlkm
open Go Go.RowKit
open arr mem keca polys fldm spok nttl rbita rbitd rbite rbitf rbitg bitp rndm samb saml rsdoc
def cat (b : ByteArray) (f : Nat → ByteArray) : Nat → ByteArray
 | 0 => b
 | n + 1 => cat b f n ++ f n
theorem cat_size (b : ByteArray) (f : Nat → ByteArray) (m n : Nat) (h : ∀ i, i < n → (f i).size = m) : (cat b f n).size = b.size + m * n := by
 induction n with
 | zero => rfl
 | succ n ih => rw [cat, ByteArray.size_append, ih fun i hi => h i (by omega), h n (by omega), Nat.mul_succ]; omega
theorem cat_nil (b : ByteArray) (f : Nat → ByteArray) (n : Nat) : b ++ cat ByteArray.empty f n = cat b f n := by
 induction n with
 | zero => rw [cat, cat, ByteArray.append_empty]
 | succ n ih => rw [cat, cat, ← ih, ByteArray.append_assoc]
theorem cat_congr (b : ByteArray) {f g : Nat → ByteArray} (n : Nat) (h : ∀ i, i < n → f i = g i) : cat b f n = cat b g n := by
 induction n with
 | zero => rfl
 | succ n ih => rw [cat, cat, ih fun i hi => h i (by omega), h n (by omega)]
theorem cat_cat (b : ByteArray) (f g : Nat → ByteArray) (m n : Nat) : cat (cat b f m) g n = cat b (fun i => if i < m then f i else g (i - m)) (m + n) := by
 induction n with
 | zero =>
  rw [cat, Nat.add_zero]
  exact cat_congr b m fun i hi => by rw [if_pos hi]
 | succ n ih =>
  rw [cat, ih, ← Nat.add_assoc, cat, if_neg (by omega), Nat.add_sub_cancel_left]
def rsum (x th : Nat → Nat → Int) : Nat → Nat → Int
 | 0 => fun _ => 0
 | n + 1 => fun k => (rsum x th n k + (x n k * th n k) % 8380417) % 8380417
def rowv (ζ : Nat → Int) (x v : Nat → Nat → Int) (n : Nat) : Nat → Int := fun k => (backR ζ 8 (rsum x (fun j => thereR ζ 8 (v j)) n) k * 8347681) % 8380417
theorem rsum_congr {x x' th th' : Nat → Nat → Int} (n : Nat) (h : ∀ j, j < n → x j = x' j ∧ th j = th' j) : rsum x th n = rsum x' th' n := by
 induction n with
 | zero => rfl
 | succ n ih => rw [rsum, rsum, ih fun j hj => h j (by omega), (h n (by omega)).1, (h n (by omega)).2]
theorem rowv_congr (ζ : Nat → Int) {x x' v v' : Nat → Nat → Int} (n : Nat) (h : ∀ j, j < n → x j = x' j ∧ v j = v' j) : rowv ζ x v n = rowv ζ x' v' n := by
 unfold rowv
 rw [rsum_congr n fun j hj => ⟨(h j hj).1, by rw [(h j hj).2]⟩]
def sz1 (k : Int) : Int := 32 + 320 * k
def sz2 (k l e : Int) : Int := 128 + 32 * ((lb (2 * e).toNat : Nat) : Int) * (l + k) + 416 * k
def sz3 (k l a o s : Int) : Int := s / 4 + 32 * (((lb (a - 1).toNat : Nat) : Int) + 1) * l + o + k
section
variable (ζ : Nat → Int) (sd : ByteArray) (kn ln : Nat) (e : Int)
def pS : ByteArray := out TL RL 2 (tw sd kn ln) 128
def pRho : ByteArray := (pS sd kn ln).extract 0 32
def pSig : ByteArray := (pS sd kn ln).extract 32 96
def pKey : ByteArray := (pS sd kn ln).extract 96 128
def pT (i : Nat) : Nat → Int := fun k => (rowv ζ (qX (pRho sd kn ln) i) (qS (pSig sd kn ln) e) ln k + qS (pSig sd kn ln) e (ln + i) k) % 8380417
def pHi (i : Nat) : Nat → Int := fun k => sh (pT ζ sd kn ln e i k)
def pLo (i : Nat) : Nat → Int := fun k => sl (pT ζ sd kn ln e i k) % 8380417
def pPk : ByteArray := cat (pRho sd kn ln) (fun i => packed (pHi ζ sd kn ln e i) 1023) kn
def pTr : ByteArray := out TL RL 2 (pPk ζ sd kn ln e) 64
def pHead : ByteArray := pRho sd kn ln ++ pKey sd kn ln ++ pTr ζ sd kn ln e
def laidS (b : ByteArray) (p : Nat → Nat → Int) (low high : Int) (n : Nat) : ByteArray := cat b (fun i => packed (sg (p i) high) (low + high)) n
def skB (h : ByteArray) (a b l : Nat → Nat → Int) : ByteArray := laidS (laidS (laidS h a e e ln) b e e kn) l 4095 4096 kn
def pSk : ByteArray := skB kn ln e (pHead ζ sd kn ln e) (qS (pSig sd kn ln) e) (fun i => qS (pSig sd kn ln) e (ln + i)) (pLo ζ sd kn ln e)
end
theorem pS_size (sd : ByteArray) (kn ln : Nat) : (pS sd kn ln).size = 128 := samc.out_size _ _ _
theorem pRho_size (sd : ByteArray) (kn ln : Nat) : (pRho sd kn ln).size = 32 := by unfold pRho; rw [pols.size_extract _ _ _ (by decide) (by rw [pS_size]; decide)]
theorem pSig_size (sd : ByteArray) (kn ln : Nat) : (pSig sd kn ln).size = 64 := by unfold pSig; rw [pols.size_extract _ _ _ (by decide) (by rw [pS_size]; decide)]
theorem pKey_size (sd : ByteArray) (kn ln : Nat) : (pKey sd kn ln).size = 32 := by unfold pKey; rw [pols.size_extract _ _ _ (by decide) (by rw [pS_size]; decide)]
theorem pHi_in (ζ : Nat → Int) (sd : ByteArray) (kn ln : Nat) (e : Int) (i : Nat) : inb (pHi ζ sd kn ln e i) 1023 := fun _ _ => ⟨(split_is _).1, (split_is _).2.1⟩
theorem pLo_in (ζ : Nat → Int) (sd : ByteArray) (kn ln : Nat) (e : Int) (i : Nat) : ins (pLo ζ sd kn ln e i) 4095 4096 := fun k _ => by
 have h := sl_bound (pT ζ sd kn ln e i k)
 unfold pLo
 rw [ce_back _ (by omega) (by omega)]
 omega
theorem pLo_red (ζ : Nat → Int) (sd : ByteArray) (kn ln : Nat) (e : Int) (i k : Nat) : 0 ≤ pLo ζ sd kn ln e i k ∧ pLo ζ sd kn ln e i k < 8380417 := by unfold pLo; omega
theorem qS_in (sd : ByteArray) (e : Int) (he : e = 2 ∨ e = 4) (i : Nat) : ins (qS sd e i) e e := fun k _ => sma_bound _ e he k
theorem qS_red (sd : ByteArray) (e : Int) (i k : Nat) : 0 ≤ qS sd e i k ∧ qS sd e i k < 8380417 := sma_red _ _ _
theorem lb_1023 : lb (1023 : Int).toNat = 10 := by decide +kernel
theorem lb_low : lb (4095 + 4096 : Int).toNat = 13 := by decide +kernel
theorem lb_eta (e : Int) (he : e = 2 ∨ e = 4) : lb (e + e).toNat = lb (2 * e).toNat ∧ 1 ≤ lb (e + e).toNat ∧ lb (e + e).toNat ≤ 4 := by rcases he with rfl | rfl <;> decide +kernel
theorem pPk_size (ζ : Nat → Int) (sd : ByteArray) (kn ln : Nat) (e : Int) : (pPk ζ sd kn ln e).size = 32 + 320 * kn := by
 unfold pPk
 rw [cat_size _ _ 320 kn fun _ _ => by rw [size_packed, lb_1023], pRho_size]
theorem laidS_size (b : ByteArray) (p : Nat → Nat → Int) (low high : Int) (n : Nat) : (laidS b p low high n).size = b.size + 32 * lb (low + high).toNat * n := cat_size _ _ _ n fun _ _ => size_packed _ _
theorem skB_size (kn ln : Nat) (e : Int) (h : ByteArray) (a b l : Nat → Nat → Int) : (skB kn ln e h a b l).size = h.size + 32 * lb (e + e).toNat * ln + 32 * lb (e + e).toNat * kn + 416 * kn := by
 unfold skB
 rw [laidS_size, laidS_size, laidS_size, lb_low]
theorem pTr_size (ζ : Nat → Int) (sd : ByteArray) (kn ln : Nat) (e : Int) : (pTr ζ sd kn ln e).size = 64 := samc.out_size _ _ _
theorem pHead_size (ζ : Nat → Int) (sd : ByteArray) (kn ln : Nat) (e : Int) : (pHead ζ sd kn ln e).size = 128 := by
 unfold pHead
 rw [ByteArray.size_append, ByteArray.size_append, pRho_size, pKey_size, pTr_size]
theorem holds (ζ : Nat → Int) (sd : ByteArray) (kn ln : Nat) (e : Int) (i k : Nat) : ((pHi ζ sd kn ln e i k * 8192) % 8380417 + pLo ζ sd kn ln e i k) % 8380417 = (rowv ζ (qX (pRho sd kn ln) i) (qS (pSig sd kn ln) e) ln k + qS (pSig sd kn ln) e (ln + i) k) % 8380417 := by
 have h := (split_is (pT ζ sd kn ln e i k)).2.2
 have h2 : pT ζ sd kn ln e i k % 8380417 = pT ζ sd kn ln e i k := by unfold pT; omega
 unfold pHi pLo
 have h3 : pT ζ sd kn ln e i k = (rowv ζ (qX (pRho sd kn ln) i) (qS (pSig sd kn ln) e) ln k + qS (pSig sd kn ln) e (ln + i) k) % 8380417 := rfl
 rw [← h3]
 omega
end mlkm
namespace mlkb
open Go Go.RowKit
open arr mem polys fldm rbita rbitd rbite rbitf rbitg bitp mlkm rndm
theorem ext_none (b : ByteArray) (i : Nat) : b.extract i 0 = ByteArray.empty := ByteArray.extract_eq_empty_iff.2 (by omega)
theorem cat_ext (s : ByteArray) (a m n : Nat) : cat (s.extract 0 a) (fun i => s.extract (a + m * i) (a + m * i + m)) n = s.extract 0 (a + m * n) := by
 induction n with
 | zero => rw [cat, Nat.mul_zero, Nat.add_zero]
 | succ n ih =>
  rw [cat, ih, ByteArray.extract_append_extract, Nat.mul_succ]
  congr 1
  omega
theorem cat_ext2 (b s : ByteArray) (a m n : Nat) : cat b (fun i => s.extract (a + m * i) (a + m * i + m)) n = b ++ s.extract a (a + m * n) := by
 induction n with
 | zero => rw [cat, Nat.mul_zero, Nat.add_zero]; simp
 | succ n ih =>
  rw [cat, ih, ByteArray.append_assoc, ByteArray.extract_append_extract, Nat.mul_succ]
  congr 2
  ·omega
  ·omega
theorem ext_left (b : ByteArray) (f : Nat → ByteArray) (n i j : Nat) (h : j ≤ b.size) : (cat b f n).extract i j = b.extract i j := by
 induction n with
 | zero => rfl
 | succ n ih =>
  have hs : b.size ≤ (cat b f n).size := by
   clear ih
   induction n with
   | zero => exact Nat.le_refl _
   | succ n ih => rw [cat, ByteArray.size_append]; omega
  rw [cat, ByteArray.extract_append, ih, show j - (cat b f n).size = 0 by omega, ext_none, ByteArray.append_empty]
theorem ext_cat (b : ByteArray) (f : Nat → ByteArray) (m n i : Nat) (hf : ∀ i, i < n → (f i).size = m) (hi : i < n) : (cat b f n).extract (b.size + m * i) (b.size + m * i + m) = f i := by
 induction n with
 | zero => omega
 | succ n ih =>
  have hs := cat_size b f m n fun i hi => hf i (by omega)
  by_cases e : i = n
  ·subst e
   rw [cat, ByteArray.extract_append_eq_right hs.symm (by rw [hs, hf i (by omega)])]
  ·have hm : m * (i + 1) ≤ m * n := Nat.mul_le_mul_left m (by omega)
   rw [Nat.mul_succ] at hm
   rw [cat, ByteArray.extract_append, ih (fun i hi => hf i (by omega)) (by omega), show b.size + m * i + m - (cat b f n).size = 0 by rw [hs]; omega, ext_none, ByteArray.append_empty]
theorem packed_congr {f g : Nat → Int} (most : Int) (h : ∀ i, i < 256 → f i = g i) : packed f most = packed g most := by
 unfold packed
 have : ns f = ns g := by
  unfold ns
  exact List.map_congr_left fun i hi => by rw [h i (List.mem_range.1 hi)]
 rw [this]
def rdU (s : ByteArray) (at' w : Nat) (i : Nat) : Nat → Int := up (s.extract (at' + 32 * w * i) (at' + 32 * w * i + 32 * w)) w
def rdS (s : ByteArray) (at' w : Nat) (high : Int) (i : Nat) : Nat → Int := un (rdU s at' w i) high
def okU (s : ByteArray) (at' w : Nat) (most : Int) (n : Nat) : Prop := ∀ i, i < n → inb (rdU s at' w i) most
theorem piece_size (s : ByteArray) (at' w i n : Nat) (hi : i < n) (hs : at' + 32 * w * n ≤ s.size) : (s.extract (at' + 32 * w * i) (at' + 32 * w * i + 32 * w)).size = 32 * w := by
 have hm : 32 * w * (i + 1) ≤ 32 * w * n := Nat.mul_le_mul_left _ (by omega)
 rw [Nat.mul_succ] at hm
 rw [pols.size_extract _ _ _ (by omega) (by omega)]
 omega
theorem rd_packed (b : ByteArray) (f : Nat → Nat → Int) (most : Int) (n i : Nat) (h2 : most < 8380417) (hi : i < n) (hin : inb (f i) most) (k : Nat) (hk : k < 256) : rdU (cat b (fun i => packed (f i) most) n) b.size (lb most.toNat) i k = f i k := by
 unfold rdU
 rw [ext_cat b (fun i => packed (f i) most) (32 * lb most.toNat) n i (fun _ _ => size_packed _ _) hi]
 exact up_packed (f i) most h2 hin k hk
theorem sg_in {f : Nat → Int} {low high : Int} (h : ins f low high) : inb (sg f high) (low + high) := fun i hi => by
 have := h i hi
 unfold sg
 omega
theorem rd_laid (b : ByteArray) (p : Nat → Nat → Int) (low high : Int) (n i : Nat) (h2 : low + high < 8380417) (hi : i < n) (hin : ins (p i) low high) (hr : ∀ k, 0 ≤ p i k ∧ p i k < 8380417) (k : Nat) (hk : k < 256) :
 rdS (laidS b p low high n) b.size (lb (low + high).toNat) high i k = p i k := by
 have h := rd_packed b (fun i => sg (p i) high) (low + high) n i h2 hi (sg_in hin) k hk
 rw [← un_sg (p i) high k (hr k)]
 unfold rdS laidS un
 rw [h]
theorem ok_laid (b : ByteArray) (p : Nat → Nat → Int) (low high : Int) (n : Nat) (h2 : low + high < 8380417) (hin : ∀ i, i < n → ins (p i) low high) : okU (laidS b p low high n) b.size (lb (low + high).toNat) (low + high) n := fun i hi k hk => by
 have h := rd_packed b (fun i => sg (p i) high) (low + high) n i h2 hi (sg_in (hin i hi)) k hk
 unfold laidS
 rw [h]
 exact sg_in (hin i hi) k hk
theorem rd_left (b : ByteArray) (f : Nat → ByteArray) (n at' w i m : Nat) (hi : i < m) (h : at' + 32 * w * m ≤ b.size) : rdU (cat b f n) at' w i = rdU b at' w i := by
 have hm : 32 * w * (i + 1) ≤ 32 * w * m := Nat.mul_le_mul_left _ (by omega)
 rw [Nat.mul_succ] at hm
 unfold rdU
 rw [ext_left _ _ _ _ _ (by omega)]
theorem lay_rd (b s : ByteArray) (at' : Nat) (most : Int) (n : Nat) (hs : at' + 32 * lb most.toNat * n ≤ s.size) : cat b (fun i => packed (rdU s at' (lb most.toNat) i) most) n = b ++ s.extract at' (at' + 32 * lb most.toNat * n) := by
 rw [← cat_ext2]
 exact cat_congr b n fun i hi => packed_up _ most (piece_size s at' _ i n hi hs)
theorem sg_un {f : Nat → Int} {low high : Int} (h1 : 0 ≤ low) (h2 : 1 ≤ high) (h3 : low < 4190208) (h4 : high < 4190208) (hf : inb f (low + high)) : (∀ i, i < 256 → sg (un f high) high i = f i) ∧ ins (un f high) low high := by
 have key : ∀ i, i < 256 → ce 8380417 (un f high i) = high - f i := fun i hi => by
  have := hf i hi
  unfold un
  exact ce_back _ (by omega) (by omega)
 refine ⟨fun i hi => ?_, fun i hi => ?_⟩
 ·unfold sg
  rw [key i hi]
  omega
 ·have := hf i hi
  rw [key i hi]
  omega
theorem lay_rdS (b s : ByteArray) (at' : Nat) (low high : Int) (n : Nat) (h1 : 0 ≤ low) (h2 : 1 ≤ high) (h3 : low < 4190208) (h4 : high < 4190208) (hs : at' + 32 * lb (low + high).toNat * n ≤ s.size) (hok : okU s at' (lb (low + high).toNat) (low + high) n) :
 laidS b (rdS s at' (lb (low + high).toNat) high) low high n = b ++ s.extract at' (at' + 32 * lb (low + high).toNat * n) := by
 rw [← lay_rd b s at' (low + high) n hs]
 exact cat_congr b n fun i hi => packed_congr _ fun k hk => (sg_un h1 h2 h3 h4 (hok i hi)).1 k hk
end mlkb
namespace rksz
open Go Go.RowKit
open arr mem polys polt pols rbita rbitd rbite bitp rndm saml samr lsl11 mlkm mlkb
def szs (k l e t a b o s : Int) : Value := if latt k l e t a b o s = true then .tuple #[.int .i64 (sz1 k), .int .i64 (sz2 k l e), .int .i64 (sz3 k l a o s)] else .tuple #[.int .i64 0, .int .i64 0, .int .i64 0]
theorem latt_all {k l e t a b o s : Int} (h : latt k l e t a b o s = true) : (1 ≤ k ∧ k ≤ 8) ∧ (1 ≤ l ∧ l ≤ 8) ∧ (e = 2 ∨ e = 4) ∧ (a = 131072 ∨ a = 524288) ∧ (1 ≤ o ∧ o ≤ 100) ∧ (s = 128 ∨ s = 192 ∨ s = 256) := by
 unfold latt upto at h
 simp only [Bool.and_eq_true, Bool.or_eq_true, decide_eq_true_eq, beq_iff_eq] at h
 obtain ⟨⟨⟨⟨⟨⟨⟨h1, h2⟩, h3⟩, h4⟩, h5⟩, h6⟩, h7⟩, h8⟩ := h
 exact ⟨h1, h2, h5, h6, h4, by omega⟩
end rksz
namespace rkpb
open Go Go.RowKit
open arr mem polys polt pols rbita rbitd rbite bitp rndm saml samr lsl11 mlkm mlkb
def okP (q : Nat → Nat → Int) (most : Int) (n : Nat) : Prop := ∀ i, i < n → inb (q i) most
instance (q : Nat → Nat → Int) (most : Int) (n : Nat) : Decidable (okP q most n) := by unfold okP; exact inferInstance
def okS (q : Nat → Nat → Int) (low high : Int) (n : Nat) : Prop := ∀ i, i < n → ins (q i) low high
instance (q : Nat → Nat → Int) (low high : Int) (n : Nat) : Decidable (okS q low high n) := by unfold okS; exact inferInstance
def resP (b : ByteArray) (q : Nat → Nat → Int) (most : Int) (n : Nat) : Value := if okP q most n then .tuple #[.string (cat b (fun i => packed (q i) most) n), .int .i64 0] else .tuple #[.string ⟨#[]⟩, .int .i64 6]
def resS (b : ByteArray) (q : Nat → Nat → Int) (low high : Int) (n : Nat) : Value := if okS q low high n then .tuple #[.string (laidS b q low high n), .int .i64 0] else .tuple #[.string ⟨#[]⟩, .int .i64 6]
theorem hd_any {w : World} {B m : Nat} {v : Value} {q : Nat → Nat → Int} (h : Holds w B v m q) : ∃ g c, v = .slice (some ⟨g, 0, none⟩) m c ∧ g < w.heap.size := by
 obtain ⟨g, c, e, -, h2, -⟩ := h
 exact ⟨g, c, e, h2⟩
theorem hd_row {w : World} {B m g c : Nat} {q : Nat → Nat → Int} (h : Holds w B (.slice (some ⟨g, 0, none⟩) m c) m q) (j : Nat) (hj : j < m) : w.rangeAt g (j * 256) (FL .i64 256 (q j)).toList := by
 obtain ⟨g2, c2, e, -, -, h3⟩ := h
 injection e with x1 x2 x3
 injection x1 with x1
 injection x1 with x1
 subst x1
 rw [Nat.mul_comm]
 exact Holds.range (p := q) fun i hi => h3 j hj i hi
end rkpb
namespace rksb
open Go Go.RowKit
open arr mem polys polt pols rbita rbitd rbite bitp rndm saml samr lsl11 mlkm mlkb rkpb
def resK (kn ln : Nat) (e : Int) (h : ByteArray) (p q l : Nat → Nat → Int) : Value := if okS p e e ln ∧ okS q e e kn ∧ okS l 4095 4096 kn then .tuple #[.string (skB kn ln e h p q l), .int .i64 0] else .tuple #[.string ⟨#[]⟩, .int .i64 6]
end rksb
namespace rkse
open Go Go.RowKit
open arr mem polys polt pols rbita rbitd rbite bitp rndm saml samr lsl11 mlkm mlkb
def okK (x : ByteArray) (kn ln : Nat) (e : Int) : Prop := okU x 128 (lb (e + e).toNat) (e + e) ln ∧ okU x (128 + 32 * lb (e + e).toNat * ln) (lb (e + e).toNat) (e + e) kn ∧ okU x (128 + 32 * lb (e + e).toNat * ln + 32 * lb (e + e).toNat * kn) 13 8191 kn
def three (w : World) (v : Value) (x : ByteArray) (kn ln : Nat) (e : Int) : Prop :=
 ∃ g c v1 v2 v3, v = .slice (some ⟨g, 0, none⟩) 3 c ∧ g < w.heap.size ∧ w.cell? ⟨g, 0, none⟩ = some v1 ∧ w.cell? ⟨g, 1, none⟩ = some v2 ∧ w.cell? ⟨g, 2, none⟩ = some v3
  ∧ Holds w 0 v1 ln (rdS x 128 (lb (e + e).toNat) e) ∧ Holds w 0 v2 kn (rdS x (128 + 32 * lb (e + e).toNat * ln) (lb (e + e).toNat) e) ∧ Holds w 0 v3 kn (rdS x (128 + 32 * lb (e + e).toNat * ln + 32 * lb (e + e).toNat * kn) 13 4096)
theorem holds_base {w : World} {B m : Nat} {v : Value} {q : Nat → Nat → Int} (h : Holds w B v m q) : Holds w 0 v m q := by
 obtain ⟨g, c, e, -, r⟩ := h
 exact ⟨g, c, e, Nat.zero_le _, r⟩
end rkse
namespace rkrw
open Go Go.RowKit
open arr mem polys polt pols rbita rbitd rbite bitp rndm saml samr lsl11 mlkm mlkb
def MX (w : World) (v : Value) (R : Nat) (n : Nat → Nat) (x : Nat → Nat → Nat → Int) : Prop :=
 ∃ G C, v = .slice (some ⟨G, 0, none⟩) R C ∧ G < w.heap.size ∧ ∀ r, r < R → ∃ g c, w.cell? ⟨G, r, none⟩ = some (.slice (some ⟨g, 0, none⟩) (n r) c) ∧ g < w.heap.size ∧ ∀ j, j < n r → ∀ k, k < 256 → w.cell? ⟨g, 256 * j + k, none⟩ = some (.int .i64 (x r j k))
theorem range_at {w : World} {g m : Nat} {q : Nat → Int} (h : ∀ k, k < 256 → w.cell? ⟨g, 256 * m + k, none⟩ = some (.int .i64 (q k))) : w.rangeAt g (m * 256) (FL .i64 256 q).toList := by
 rw [Nat.mul_comm]
 exact Holds.range (p := fun _ => q) (i := m) h
theorem wpQuiet_load_mid {P : Program} {ops : Array Oper} {C : World → Prop} {Q : Act → Prop} {rest : List Oper} {o : Oper} {a : Act} (hw : Region.wanted o (yielded ops a.tmps) = true) (ty : TypeId) (x : Operand) (ho : o.op = .load ty x)
 (b n : Nat) (hx : a.eval x = .pointer (some ⟨b, n, none⟩)) (cs : List Value) (d : TypeDesc) (hS : ∀ w, C w → w.rangeAt b n cs)
 (hu : P.underlying ty = some d) (hd : d.isRow = true) (hi : (P.info? ty).map (·.size) = some cs.length)
 (h : wpQuiet P ops C Q rest (a.put o.dst (.agg cs.toArray))) : wpQuiet P ops C Q (o :: rest) a := by
 refine wpQuiet_step fun K hK => ?_
 rw [if_pos hw]
 refine ⟨.agg cs.toArray, fun w hC => ?_, hK _ h⟩
 unfold Oper.quietAt execOp
 simp only [ho, hx, Instr.loadAt, Instr.sureAddr, Sem.run_bind, Sem.run_pure, Result.andThen_ok, run_loadVar_mid w b n ty cs d (hS w hC) hu hd hi]
 exact ⟨rfl, rfl⟩
theorem range_later {w w' : World} {g o : Nat} {L : List Value} (h : w.rangeAt g o L) (hg : g < w.heap.size) (hb : Below w.heap.size w w') : w'.rangeAt g o L := fun j v hv => (hb.cell (p := ⟨g, o + j, none⟩) hg).trans (h j v hv)
end rkrw
namespace mlkd
open Go Go.RowKit
open arr mem polys polt pols rbita rbitd rbite bitp rndm saml samr lsl11 mlkm mlkb tabm tabt tabv rkrw
theorem mx_of {w : World} {B B' e kn ln : Nat} {v : Value} {vs : List Value} {sk : Option Nat} {p : Nat → Nat → Nat → Int} (hk : 1 ≤ kn) (h : w.ownsRow B e 1 v kn vs) (hr : Rowl w B' sk vs ln p) : MX w v kn (fun _ => ln) p := by
 obtain ⟨g, cap, rfl⟩ := owns_some (by omega) h
 refine ⟨g, cap, rfl, (h.lt g rfl).2, fun r hr' => ?_⟩
 have hl : vs.length = kn := by have := h.1; omega
 have hv : vs[r]? = some vs[r] := List.getElem?_eq_getElem (by omega)
 obtain ⟨g2, c2, e2, -, h2, -, h4⟩ := hr r _ hv
 refine ⟨g2, c2, ?_, h2, h4⟩
 rw [h.cellAt r (by omega), hv, e2]
theorem ht_doc : ∀ k, k < 256 → TA[209 + k]? = some (.int .i64 ((zt k : Nat) : Int)) := fun k hk => by rw [ta_get _ (by omega), tv_zetas k hk, zl_get 256 k hk (by decide)]
theorem mx_later {w w' : World} {v : Value} {R : Nat} {n : Nat → Nat} {x : Nat → Nat → Nat → Int} (h : MX w v R n x) (hb : Below w.heap.size w w') : MX w' v R n x := by
 obtain ⟨G, C, e, hG, hr⟩ := h
 refine ⟨G, C, e, Nat.lt_of_lt_of_le hG hb.size, fun r hr2 => ?_⟩
 obtain ⟨g, c, h1, h2, h3⟩ := hr r hr2
 exact ⟨g, c, (hb.cell (p := ⟨G, r, none⟩) hG).trans h1, Nat.lt_of_lt_of_le h2 hb.size, fun j hj k hk => (hb.cell (p := ⟨g, 256 * j + k, none⟩) h2).trans (h3 j hj k hk)⟩
end mlkd
end Go.Proofs.YtlcafjdehcddcaaGreatDoor
