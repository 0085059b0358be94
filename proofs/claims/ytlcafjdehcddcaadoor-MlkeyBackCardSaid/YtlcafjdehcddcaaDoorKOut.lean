/-
  What mlkey's Secret and Public answer to any bytes, and SecretBytes and PublicBytes to what was read. Conditions: the parameters are valid; as each theorem says.
-/
import Derived.Test.YtlcafjdehcddcaaDoorKeD
namespace Go.Proofs.YtlcafjdehcddcaaDoor.kout
open Go Go.RowKit
open Go.Proofs.YtlcafjdehcddcaaDoor.arr Go.Proofs.YtlcafjdehcddcaaDoor.mem Go.Proofs.YtlcafjdehcddcaaDoor.polys Go.Proofs.YtlcafjdehcddcaaDoor.polt Go.Proofs.YtlcafjdehcddcaaDoor.pols Go.Proofs.YtlcafjdehcddcaaDoor.rbita Go.Proofs.YtlcafjdehcddcaaDoor.rbite Go.Proofs.YtlcafjdehcddcaaDoor.rsdoc Go.Proofs.YtlcafjdehcddcaaDoor.mlkm Go.Proofs.YtlcafjdehcddcaaDoor.mlkb Go.Proofs.YtlcafjdehcddcaaDoor.rksz Go.Proofs.YtlcafjdehcddcaaDoor.rkpb Go.Proofs.YtlcafjdehcddcaaDoor.rksb Go.Proofs.YtlcafjdehcddcaaDoor.rkse Go.Proofs.YtlcafjdehcddcaaDoor.kkey Go.Proofs.YtlcafjdehcddcaaDoor.kcon
open Go.Proofs.YtlcafjdehcddcaaDoor.rndm (latt)
section
variable (kn ln : Nat) (e t a b o s : Int) (h : latt (kn : Int) (ln : Int) e t a b o s = true)
include h
theorem outS (x : ByteArray) :
 (∃ (HD : ByteArray) (p q l : Nat → Nat → Int), (∀ w : World, Calls Tryd.prog 10 #[.agg #[.int .i64 (kn : Int), .int .i64 (ln : Int), .int .i64 e, .int .i64 t, .int .i64 a, .int .i64 b, .int .i64 o, .int .i64 s], .string x] w fun r w' => (∃ g c g1 c1 g2 c2 g3 c3, r = .returned (.tuple #[.string HD, .slice (some ⟨g, 0, none⟩) 3 c, .int .i64 0]) ∧ TH w' g g1 c1 g2 c2 g3 c3 ln kn p q l) ∧ Below w.heap.size w w')
  ∧ (∀ (w : World) (va vb vl : Value), Holds w 0 va ln p → Holds w 0 vb kn q → Holds w 0 vl kn l → Calls Tryd.prog 11 #[.agg #[.int .i64 (kn : Int), .int .i64 (ln : Int), .int .i64 e, .int .i64 t, .int .i64 a, .int .i64 b, .int .i64 o, .int .i64 s], .string HD, va, vb, vl] w fun r w' => r = .returned (.tuple #[.string x, .int .i64 0]) ∧ Below w.heap.size w w'))
 ∨ ((∀ sd, x ≠ pSk ζd sd kn ln e) ∧ ∀ w : World, Calls Tryd.prog 10 #[.agg #[.int .i64 (kn : Int), .int .i64 (ln : Int), .int .i64 e, .int .i64 t, .int .i64 a, .int .i64 b, .int .i64 o, .int .i64 s], .string x] w fun r w' => r = .returned (.tuple #[.string ⟨#[]⟩, .slice none 0 0, .int .i64 3]) ∧ Below w.heap.size w w') := by
 obtain ⟨hk, hl, he, -⟩ := latt_all h
 by_cases hx : (x.size : Int) = sz2 kn ln e
 ·by_cases hok : okK x kn ln e
  ·have hs := (size_of kn ln e _).1 hx
   refine Or.inl ⟨x.extract 0 128, rdS x 128 (lb (e + e).toNat) e, rdS x (128 + 32 * lb (e + e).toNat * ln) (lb (e + e).toNat) e, rdS x (128 + 32 * lb (e + e).toNat * ln + 32 * lb (e + e).toNat * kn) 13 4096, fun w => ?_, fun w va vb vl h1 h2 h3 => ?_⟩
   ·refine (kse.secret_good kn ln e t a b o s x w h hx).mono ?_
    rintro r w' ⟨⟨-, v, rfl, hv⟩ | ⟨hno, -⟩, hb⟩
    ·obtain ⟨g, c, g1, c1, g2, c2, g3, c3, rfl, H⟩ := th_of hv
     exact ⟨⟨g, c, g1, c1, g2, c2, g3, c3, rfl, H⟩, hb⟩
    ·exact absurd hok hno
   ·have h4 := ksb.sb_any kn ln e t a b o s (x.extract 0 128) va vb vl 0 0 0 _ _ _ w h (by rw [size_extract _ _ _ (by omega) (by omega)]) h1 h2 h3
    rw [sb_again x kn ln e he (by rw [(lb_eta e he).1]; exact hs) hok] at h4
    exact h4
  ·refine Or.inr ⟨fun sd hsd => hok (by rw [hsd]; exact (sk_facts kn ln e t a b o s sd h).2), fun w => ?_⟩
   refine (kse.secret_good kn ln e t a b o s x w h hx).mono ?_
   rintro r w' ⟨⟨hyes, -⟩ | ⟨-, hr⟩, hb⟩
   ·exact absurd hyes hok
   ·exact ⟨hr, hb⟩
 ·exact Or.inr ⟨fun sd hsd => hx (by rw [hsd]; exact (size_of kn ln e _).2 (sk_facts kn ln e t a b o s sd h).1), fun w => kse.secret_len (kn : Int) (ln : Int) e t a b o s x w h hx⟩
theorem outP (x : ByteArray) :
 (∃ (ρ : ByteArray) (q : Nat → Nat → Int), (∀ w : World, Calls Tryd.prog 12 #[.agg #[.int .i64 (kn : Int), .int .i64 (ln : Int), .int .i64 e, .int .i64 t, .int .i64 a, .int .i64 b, .int .i64 o, .int .i64 s], .string x] w fun r w' => (∃ v, r = .returned (.tuple #[.string ρ, v, .int .i64 0]) ∧ Holds w' 0 v kn q) ∧ Below w.heap.size w w')
  ∧ (∀ (w : World) (v : Value), Holds w 0 v kn q → Calls Tryd.prog 13 #[.agg #[.int .i64 (kn : Int), .int .i64 (ln : Int), .int .i64 e, .int .i64 t, .int .i64 a, .int .i64 b, .int .i64 o, .int .i64 s], .string ρ, v] w fun r w' => r = .returned (.tuple #[.string x, .int .i64 0]) ∧ Below w.heap.size w w'))
 ∨ (∀ w : World, Calls Tryd.prog 12 #[.agg #[.int .i64 (kn : Int), .int .i64 (ln : Int), .int .i64 e, .int .i64 t, .int .i64 a, .int .i64 b, .int .i64 o, .int .i64 s], .string x] w fun r w' => r = .returned (.tuple #[.string ⟨#[]⟩, .slice none 0 0, .int .i64 3]) ∧ Below w.heap.size w w') := by
 by_cases hx : (x.size : Int) = sz1 kn
 ·have hs : x.size = 32 + 320 * kn := by unfold sz1 at hx; omega
  refine Or.inl ⟨x.extract 0 32, rdU x 32 10, fun w => ?_, fun w v hv => ?_⟩
  ·refine (kpu.public_good kn ln e t a b o s x w h hs).mono ?_
   rintro r w' ⟨⟨v, rfl, hv⟩, hb⟩
   exact ⟨⟨v, rfl, rkse.holds_base hv⟩, hb⟩
  ·have h4 := kpb.pb_any kn ln e t a b o s (x.extract 0 32) v 0 _ w h (by rw [size_extract _ _ _ (by omega) (by omega)]) hv
   unfold resP at h4
   rw [if_pos (show okP (rdU x 32 10) 1023 kn from fun i _ => up_in x i), pb_again x kn hs] at h4
   exact h4
 ·exact Or.inr fun w => kpu.public_len (kn : Int) ln e t a b o s x w h hx
end
end Go.Proofs.YtlcafjdehcddcaaDoor.kout
