/-
  The law package's own look at keys ('awake') returns true. Conditions: keccak's variable 'places' holds what the program's text lays there. What mlkey's functions return for the keys of a pair, at the document's tables. Conditions: keccak's variable 'places' holds what the program's text lays there; as each theorem says.
-/
import Derived.Test.YtlcafjdehcddcaaGreatDoorAw12
import Derived.Test.YtlcafjdehcddcaaGreatDoorKeB
import Derived.Test.YtlcafjdehcddcaaGreatDoorKeC
import Derived.Test.YtlcafjdehcddcaaGreatDoorKeA
namespace Go.Proofs.YtlcafjdehcddcaaGreatDoor
namespace kaw
open Go Go.RowKit
open rbita mem arr tabv built kturn rndm mlkm mlkd tabm tabt
theorem zt_doc : nthere.ZT TA (fun k => ((zt k : Nat) : Int)) := ⟨ht_doc, ta_size, ta_one⟩
theorem latt4 : latt ((1 : Nat) : Int) ((1 : Nat) : Int) 2 20 131072 95232 60 128 = true := by decide +kernel
theorem szs_1 : rksz.szs 4 4 2 39 131072 95232 80 128 = .tuple #[.int .i64 1312, .int .i64 2560, .int .i64 2420] := by
 have h1 : latt 4 4 2 39 131072 95232 80 128 = true := by decide +kernel
 have h2 : sz1 4 = 1312 := by decide +kernel
 have h3 : sz2 4 4 2 = 2560 := by decide +kernel
 have h4 : sz3 4 4 131072 80 128 = 2420 := by decide +kernel
 unfold rksz.szs
 rw [if_pos h1, h2, h3, h4]
theorem awake_any (w : World) (hP : Gp w) : Calls Tryz.prog 5 #[] w fun e w' => e = .returned (.bool true) ∧ Below w.heap.size w w' := by
 refine awake12.awake_any _ _ w hP ?_ ?_ (fun w1 => ?_) (fun w1 h1 => kpr.pair_any _ 1 1 2 20 131072 95232 60 128 awake12.d32 w1 kecd.kt_doc h1 zt_doc latt4 rfl)
 ·rw [pPk_size]
 ·unfold pSk
  rw [skB_size, pHead_size, show lb ((2 : Int) + 2).toNat = 3 by decide +kernel]
 ·have h := ksz.sizes_any 4 4 2 39 131072 95232 80 128 w1
  rw [szs_1] at h
  exact h
end kaw
namespace kcon
set_option linter.unusedSimpArgs false
open Go Go.RowKit
open arr mem polys polt pols rbita rbite saml samr samc rsdoc kturn mlkm mlkb rksz rkpb rksb rkse rkrw mlkd kkey kaw tabm tabt tabv
open rndm (latt)
def ζd : Nat → Int := fun k => ((zt k : Nat) : Int) % 8380417
structure TH (w : World) (g g1 c1 g2 c2 g3 c3 ln kn : Nat) (p q l : Nat → Nat → Int) : Prop where
 lt : g < w.heap.size
 x0 : w.cell? ⟨g, 0, none⟩ = some (.slice (some ⟨g1, 0, none⟩) ln c1)
 x1 : w.cell? ⟨g, 1, none⟩ = some (.slice (some ⟨g2, 0, none⟩) kn c2)
 x2 : w.cell? ⟨g, 2, none⟩ = some (.slice (some ⟨g3, 0, none⟩) kn c3)
 h0 : Holds w 0 (.slice (some ⟨g1, 0, none⟩) ln c1) ln p
 h1 : Holds w 0 (.slice (some ⟨g2, 0, none⟩) kn c2) kn q
 h2 : Holds w 0 (.slice (some ⟨g3, 0, none⟩) kn c3) kn l
theorem TH.later {w w' : World} {g g1 c1 g2 c2 g3 c3 ln kn : Nat} {p q l : Nat → Nat → Int} (h : TH w g g1 c1 g2 c2 g3 c3 ln kn p q l) (hb : Below w.heap.size w w') : TH w' g g1 c1 g2 c2 g3 c3 ln kn p q l :=
 ⟨Nat.lt_of_lt_of_le h.lt hb.size, (hb.cell (p := ⟨g, 0, none⟩) h.lt).trans h.x0, (hb.cell (p := ⟨g, 1, none⟩) h.lt).trans h.x1, (hb.cell (p := ⟨g, 2, none⟩) h.lt).trans h.x2, h.h0.later hb, h.h1.later hb, h.h2.later hb⟩
theorem th_of {w : World} {v : Value} {x : ByteArray} {kn ln : Nat} {e : Int} (h : three w v x kn ln e) : ∃ g c g1 c1 g2 c2 g3 c3, v = .slice (some ⟨g, 0, none⟩) 3 c ∧ TH w g g1 c1 g2 c2 g3 c3 ln kn (rdS x 128 (lb (e + e).toNat) e) (rdS x (128 + 32 * lb (e + e).toNat * ln) (lb (e + e).toNat) e) (rdS x (128 + 32 * lb (e + e).toNat * ln + 32 * lb (e + e).toNat * kn) 13 4096) := by
 obtain ⟨g, c, v1, v2, v3, e0, hg, x0, x1, x2, h0, h1, h2⟩ := h
 obtain ⟨g1, c1, e1, -⟩ := hd_any h0
 obtain ⟨g2, c2, e2, -⟩ := hd_any h1
 obtain ⟨g3, c3, e3, -⟩ := hd_any h2
 subst e1 e2 e3
 exact ⟨g, c, g1, c1, g2, c2, g3, c3, e0, hg, x0, x1, x2, h0, h1, h2⟩
theorem size_of (kn ln : Nat) (e : Int) (n : Nat) : (n : Int) = sz2 kn ln e ↔ n = 128 + 32 * lb (2 * e).toNat * ln + 32 * lb (2 * e).toNat * kn + 416 * kn := by
 have e1 : 32 * ((lb (2 * e).toNat : Nat) : Int) * ((ln : Int) + (kn : Int)) = ((32 * lb (2 * e).toNat * ln + 32 * lb (2 * e).toNat * kn : Nat) : Int) := by push_cast; rw [Int.mul_add]
 rw [sz2, e1]
 omega
section
variable (kn ln : Nat) (e t a b o s : Int) (sd : ByteArray) (h : latt (kn : Int) (ln : Int) e t a b o s = true)
include h
theorem pair (w : World) (hP : Gp w) (hsd : sd.size = 32) : Calls Tryz.prog 9 #[.agg TA, .agg #[.int .i64 (kn : Int), .int .i64 (ln : Int), .int .i64 e, .int .i64 t, .int .i64 a, .int .i64 b, .int .i64 o, .int .i64 s], .string sd] w fun x w' => x = .returned (.tuple #[.string (pPk ζd sd kn ln e), .string (pSk ζd sd kn ln e), .int .i64 0]) ∧ Below w.heap.size w w' := kpr.pair_any _ kn ln e t a b o s sd w kecd.kt_doc hP zt_doc h hsd
theorem sk_facts : (pSk ζd sd kn ln e).size = 128 + 32 * lb (2 * e).toNat * ln + 32 * lb (2 * e).toNat * kn + 416 * kn ∧ okK (pSk ζd sd kn ln e) kn ln e := by
 obtain ⟨-, -, he, -⟩ := latt_all h
 refine ⟨?_, ?_⟩
 ·unfold pSk
  rw [skB_size, pHead_size, (lb_eta e he).1]
 ·exact sk_ok kn ln e _ _ _ _ (pHead_size _ _ _ _ _) he (fun i _ => qS_in _ e he i) (fun i _ => qS_in _ e he (ln + i)) (fun i _ => pLo_in ζd sd kn ln e i)
theorem pub (w : World) : Calls Tryz.prog 20 #[.agg #[.int .i64 (kn : Int), .int .i64 (ln : Int), .int .i64 e, .int .i64 t, .int .i64 a, .int .i64 b, .int .i64 o, .int .i64 s], .string (pPk ζd sd kn ln e)] w fun r w' => (∃ v, r = .returned (.tuple #[.string (pRho sd kn ln), v, .int .i64 0]) ∧ Holds w' 0 v kn (pHi ζd sd kn ln e)) ∧ Below w.heap.size w w' := by
 refine (kpu.public_good kn ln e t a b o s (pPk ζd sd kn ln e) w h (pPk_size _ _ _ _ _)).mono ?_
 rintro r w' ⟨⟨v, rfl, hv⟩, hb⟩
 rw [pk_rho]
 exact ⟨⟨v, rfl, holds_congr (rkse.holds_base hv) fun i hi k hk => pk_high ζd sd kn ln e i hi k hk⟩, hb⟩
theorem sec (w : World) : Calls Tryz.prog 22 #[.agg #[.int .i64 (kn : Int), .int .i64 (ln : Int), .int .i64 e, .int .i64 t, .int .i64 a, .int .i64 b, .int .i64 o, .int .i64 s], .string (pSk ζd sd kn ln e)] w fun r w' => (∃ g c g1 c1 g2 c2 g3 c3, r = .returned (.tuple #[.string (pHead ζd sd kn ln e), .slice (some ⟨g, 0, none⟩) 3 c, .int .i64 0]) ∧ TH w' g g1 c1 g2 c2 g3 c3 ln kn (qS (pSig sd kn ln) e) (fun i => qS (pSig sd kn ln) e (ln + i)) (pLo ζd sd kn ln e)) ∧ Below w.heap.size w w' := by
 obtain ⟨-, -, he, -⟩ := latt_all h
 obtain ⟨f1, f2⟩ := sk_facts kn ln e t a b o s sd h
 obtain ⟨r1, r2, r3⟩ := sk_read kn ln e (pHead ζd sd kn ln e) (qS (pSig sd kn ln) e) (fun i => qS (pSig sd kn ln) e (ln + i)) (pLo ζd sd kn ln e) (pHead_size _ _ _ _ _) he (fun i _ => qS_in _ e he i) (fun i _ => qS_in _ e he (ln + i)) (fun i _ => pLo_in ζd sd kn ln e i) (fun i k => qS_red _ _ _ _) (fun i k => qS_red _ _ _ _) (fun i k => pLo_red _ _ _ _ _ _ _)
 have hhd : (pSk ζd sd kn ln e).extract 0 128 = pHead ζd sd kn ln e := sk_head kn ln e _ _ _ _ (pHead_size _ _ _ _ _)
 refine (kse.secret_good kn ln e t a b o s (pSk ζd sd kn ln e) w h ((size_of kn ln e _).2 f1)).mono ?_
 rintro r w' ⟨⟨hok, v, rfl, hv⟩ | ⟨hno, -⟩, hb⟩
 ·obtain ⟨g, c, g1, c1, g2, c2, g3, c3, rfl, H⟩ := th_of hv
  rw [hhd]
  exact ⟨⟨g, c, g1, c1, g2, c2, g3, c3, rfl, H.lt, H.x0, H.x1, H.x2, holds_congr H.h0 r1, holds_congr H.h1 r2, holds_congr H.h2 r3⟩, hb⟩
 ·exact absurd f2 hno
theorem mat (w : World) (hP : Gp w) : Calls Tryz.prog 40 #[.agg TA, .agg #[.int .i64 (kn : Int), .int .i64 (ln : Int), .int .i64 e, .int .i64 t, .int .i64 a, .int .i64 b, .int .i64 o, .int .i64 s], .string (pRho sd kn ln)] w fun x w' => (∃ v, x = .returned v ∧ MX w' v kn (fun _ => ln) (qX (pRho sd kn ln))) ∧ Below w.heap.size w w' := by
 obtain ⟨hk, -⟩ := latt_all h
 refine (qdoc.matrix kn ln e t a b o s _ w kecd.kt_doc hP h (by rw [pRho_size]; decide)).mono ?_
 rintro x w' ⟨⟨v, vs, rfl, h1, h2⟩, hb⟩
 exact ⟨⟨v, rfl, mx_of (by omega) h1 h2⟩, hb⟩
theorem rows (w : World) (v vv : Value) (B : Nat) (h1 : MX w v kn (fun _ => ln) (qX (pRho sd kn ln))) (h2 : Holds w B vv ln (qS (pSig sd kn ln) e)) : Calls Tryz.prog 12 #[.agg TA, v, vv] w fun x w' => (∃ v', x = .returned v' ∧ Holds w' 0 v' kn (fun r => rowv ζd (qX (pRho sd kn ln) r) (qS (pSig sd kn ln) e) ln)) ∧ Below w.heap.size w w' := by
 obtain ⟨hk, hl, -⟩ := latt_all h
 have h3 := krw.rows_any TA _ kn ln (fun _ => ln) (qX (pRho sd kn ln)) (qS (pSig sd kn ln) e) v vv B w ta_size zt_doc (by omega) (fun _ _ => by omega) (by omega) h1 h2
 simp only [Nat.min_self] at h3
 refine h3.mono ?_
 rintro x w' ⟨⟨v', rfl, hv⟩, hb⟩
 exact ⟨⟨v', rfl, rkse.holds_base hv⟩, hb⟩
end
theorem cut (sd : ByteArray) (kn ln : Nat) (e : Int) (w : World) : Calls Tryz.prog 15 #[.string (pHead ζd sd kn ln e), .int .i64 32] w fun x w' => x = .returned (.string (pRho sd kn ln)) ∧ Below w.heap.size w w' := by
 have h1 := kpu.cut_first (pHead ζd sd kn ln e) 32 w (by rw [pHead_size]; decide) (by rw [pHead_size]; decide)
 rw [head_rho] at h1
 exact h1
end kcon
end Go.Proofs.YtlcafjdehcddcaaGreatDoor
