/-
  The contract of the library's Clone at this seat's numbers: one application of the library's own theorem. Conditions: as it says. What mac.Cut returns, for any string and number: the first bytes. Conditions: none but that the string's length fits an int. What mlkey's PublicBytes returns for valid arguments. Conditions: as each theorem says. What mlkey's Public returns. Conditions: as each theorem says. What mlkey's SecretBytes returns for valid arguments. Conditions: as each theorem says. What mlkey's Secret returns. Conditions: as each theorem says. What mlkey's Pair returns. Conditions: the tables hold the constants of the text and the ring's roots; keccak's variable 'places' holds what the program's text lays there; as each theorem says. Layer 12's keys as bytes: what the keys of a pair are read as, and what is read of bytes, laid again. No function of a program is named here. Conditions: as each theorem says. The law package's own look at keys ('awake') returns true. Conditions: keccak's variable 'places' holds what the program's text lays there. What mlkey's functions return for the keys of a pair, at the document's tables. Conditions: keccak's variable 'places' holds what the program's text lays there; as each theorem says.
-/
import Derived.Test.YtlcafjdehcddcaaGreatDoorProg
import Derived.Test.YtlcafjdehcddcaaGreatDoorZs01
import Derived.Test.YtlcafjdehcddcaaGreatDoorZs16
import Derived.Test.YtlcafjdehcddcaaGreatDoorZs03
import Derived.Test.YtlcafjdehcddcaaGreatDoorZs13
import Derived.Test.YtlcafjdehcddcaaGreatDoorZs07
import Derived.Test.YtlcafjdehcddcaaGreatDoorZs15
import Derived.Test.YtlcafjdehcddcaaGreatDoorZs12
import Derived.Shelf.LaysM
import Derived.Shelf.Strconv.Clone
import Derived.Lib.MinMax
import Derived.Maps.AppendAt
namespace Go.Proofs.YtlcafjdehcddcaaGreatDoor
namespace shelfc
open Go.Shelf
def lays316_ren : Go.Shelf.Ren := ⟨fun | 316 => 96 | n => n, fun | 0 => 0 | 3 => 3 | 4 => 4 | 5 => 5 | 9 => 9 | 37 => 78 | 127 => 138 | n => n, fun | n => n⟩
end shelfc
namespace pcut
open Go.RowKit
open oct arr
theorem cut_bytes (s : ByteArray) (m n : Nat) (h : m = min n s.size) : s.extract 0 m = ⟨(s.data.toList.take n).toArray⟩ := by
 subst h
 apply ByteArray.ext
 apply Array.toList_inj.1
 have hs : s.data.toList.length = s.size := rfl
 have h1 : (s.extract 0 (min n s.size)).data.toList = s.data.toList.take (min n s.size) := by simp
 have h2 : min n s.size = min n s.data.toList.length := rfl
 rw [h1, h2, ← List.take_eq_take_min]
end pcut
end Go.Proofs.YtlcafjdehcddcaaGreatDoor
namespace Go.Proofs.YtlcafjdehcddcaaGreatDoor
namespace kpb
set_option linter.unusedSimpArgs false
open Go Go.RowKit
open arr mem stil polys polt pols rbita rbitb rbitd rbite rbitf rbitg bitp rndm saml lsl11 helda qrow mlkm mlkb rksz rkpb rksb rkse rkrw
theorem enc_pb (x : ByteArray) (m : Nat) (v : Value) (B : Nat) (q : Nat → Nat → Int) (w : World) (hm : m ≤ 8) (hv : Holds w B v m q) (hx : x.size ≤ 100000) :
 Calls Tryz.prog 56 #[.string x, v, .func (.func 57) #[] #[]] w fun e w' => e = .returned (resP x q 1023 m) ∧ Below w.heap.size w w' := by
 refine ken.encode_pb x m v B q (fun i => packed (q i) 1023) (fun i => inb (q i) 1023) _ w hm hv hx (fun i _ => by rw [size_packed, lb_1023]; decide) (fun h => ?_) (fun i hi h => ?_) (fun i _ h w1 _ => ?_) (fun i _ h w1 _ => ?_)
 ·unfold resP; rw [if_pos (show okP q 1023 m from h)]
 ·unfold resP; rw [if_neg (show ¬ okP q 1023 m from fun h2 => h (h2 i hi))]
 ·have h1 := ken.clo_pb (q i) w1; rw [if_pos h] at h1; exact h1
 ·have h1 := ken.clo_pb (q i) w1; rw [if_neg h] at h1; exact h1
set_option maxRecDepth 100000 in
set_option maxHeartbeats 8000000 in
theorem pb_any (kn : Nat) (l e t a b o s : Int) (rho : ByteArray) (v : Value) (B : Nat) (q : Nat → Nat → Int) (w : World) (h : latt (kn : Int) l e t a b o s = true) (hrho : rho.size = 32) (hv : Holds w B v kn q) :
 Calls Tryz.prog 16 #[.agg #[.int .i64 (kn : Int), .int .i64 l, .int .i64 e, .int .i64 t, .int .i64 a, .int .i64 b, .int .i64 o, .int .i64 s], .string rho, v] w fun x w' => x = .returned (resP rho q 1023 kn) ∧ Below w.heap.size w w' := by
 have HR0 := fun w1 => rright.right_any (kn : Int) l e t a b o s w1
 simp only [h] at HR0
 obtain ⟨hk, -⟩ := latt_all h
 have HE0 : ∀ w1 : World, Below w.heap.size w w1 → Calls Tryz.prog 56 #[.string rho, v, .func (.func 57) #[] #[]] w1 fun e w' => e = .returned (resP rho q 1023 kn) ∧ Below w1.heap.size w1 w' := fun w1 hb => enc_pb rho kn v B q w1 (by omega) (hv.later hb) (by omega)
 obtain ⟨V1, V2, HV⟩ : ∃ (V1 : ByteArray) (V2 : Int), Away (resP rho q 1023 kn = .tuple #[.string V1, .int .i64 V2]) := by
  unfold resP
  split
  ·exact ⟨_, _, ⟨rfl⟩⟩
  ·exact ⟨_, _, ⟨rfl⟩⟩
 rw [HV.out] at HE0 ⊢
 obtain ⟨g, c, hvs, -⟩ := hd_any hv
 subst hvs
 obtain ⟨C, HC⟩ := ex_eq (#[.int .i64 (kn : Int), .int .i64 l, .int .i64 e, .int .i64 t, .int .i64 a, .int .i64 b, .int .i64 o, .int .i64 s] : Array Value)
 simp only [HC.out] at HR0 ⊢
 have HCs : Away ((Tryz.prog.info? 23).map (·.size) = some C.size) := ⟨by rw [← HC.out]; kernel_rfl⟩
 obtain ⟨W, hW⟩ : ∃ x, w.alloc (.cells C 23) = x := ⟨_, rfl⟩
 obtain ⟨r0, hWs, b0⟩ := one hW
 have CB : Away (∀ w' : World, Below W.heap.size W w' → w'.heap[w.heap.size]? = some (.cells C 23 (0, 0))) := ⟨fun w' hb => (hb.block _ (lt_of_row r0)).trans r0⟩
 have BW := Away.mk b0
 have HW := Away.mk hW
 have cK : Away (∀ w' : World, Below W.heap.size W w' → w'.cell? ⟨w.heap.size, 0, none⟩ = some (.int .i64 (kn : Int))) := ⟨fun w' hb => cell_at (CB.out w' hb) (by rw [← HC.out]; rfl)⟩
 have HR := Away.mk HR0
 have HE := Away.mk HE0
 have hrz : (rho.size : Int) = 32 := by omega
 have hnz : ((kn : Int) != (kn : Int)) = false := by simp
 clear HR0 HE0 hW r0 hWs b0 hv h hk hrho HV
 go_enter Tryz.func16, Tryz.ntmps16
 go_wp2_with (first
  | (rw [HW.out])
  | (refine wpList_load_row rfl 23 _ rfl w.heap.size rfl 23 _ (0, 0) _ (CB.out _ (Below.refl _ _)) Tryz.underlying23 rfl HCs.out ?_))
 refine (HR.out _).mono ?_
 rintro x u1 ⟨rfl, hb1⟩
 have E1 : Away (Below w.heap.size w u1) := ⟨BW.out.trans (hb1.mono BW.out.size)⟩
 have c0 := cK.out u1 hb1
 clear hb1
 go_wp2_with fail
 refine (HE.out _ E1.out).mono ?_
 rintro x u2 ⟨rfl, hb2⟩
 have E2 : Away (Below w.heap.size w u2) := ⟨E1.out.trans (hb2.mono E1.out.size)⟩
 clear hb2
 go_wp2_with fail
 go_ret2
 exact ⟨rfl, E2.out⟩
end kpb
namespace kpu
set_option linter.unusedSimpArgs false
open Go Go.RowKit
open arr mem stil polys polt pols rbita rbitb rbitd rbite rbitf rbitg bitp rndm saml lsl11 helda qrow mlkm mlkb rksz rkpb rksb rkse rkrw
end kpu
namespace ksb
set_option linter.unusedSimpArgs false
open Go Go.RowKit
open arr mem stil polys polt pols rbita rbitb rbitd rbite rbitf rbitg bitp saml lsl11 helda qrow mlkm mlkb rksz rkpb rksb rkse rkrw
open rndm (latt)
open ksz
theorem enc_sb (gc : Nat) (x : ByteArray) (m : Nat) (v : Value) (B : Nat) (q : Nat → Nat → Int) (low high : Int) (w : World) (hm : m ≤ 8) (hv : Holds w B v m q) (hx : x.size ≤ 100000) (h1 : 0 ≤ low) (h2 : 1 ≤ high) (h3 : low < 4190208) (h4 : high < 4190208) (hg : gc < w.heap.size) (hc1 : w.cell? ⟨gc, 1, none⟩ = some (.int .i64 low)) (hc2 : w.cell? ⟨gc, 2, none⟩ = some (.int .i64 high)) :
 Calls Tryz.prog 56 #[.string x, v, .func (.func 60) #[] #[.pointer (some ⟨gc, 0, none⟩)]] w fun e w' => e = .returned (resS x q low high m) ∧ Below w.heap.size w w' := by
 have hb := rbitf.lb_small (low + high) (by omega)
 refine ken.encode_sb gc x m v B q (fun i => packed (sg (q i) high) (low + high)) (fun i => ins (q i) low high) _ w hm hv hx (fun i _ => by rw [size_packed]; omega) (fun h => ?_) (fun i hi h => ?_) (fun i _ h w1 hb1 => ?_) (fun i _ h w1 hb1 => ?_)
 ·unfold resS; rw [if_pos (show okS q low high m from h)]; rfl
 ·unfold resS; rw [if_neg (show ¬ okS q low high m from fun h2 => h (h2 i hi))]
 ·have h5 := ken.clo_sb (q i) gc low high w1 h1 h2 h3 h4 (Nat.lt_of_lt_of_le hg hb1.size) ((hb1.cell (p := ⟨gc, 1, none⟩) hg).trans hc1) ((hb1.cell (p := ⟨gc, 2, none⟩) hg).trans hc2)
  rw [if_pos h] at h5; exact h5
 ·have h5 := ken.clo_sb (q i) gc low high w1 h1 h2 h3 h4 (Nat.lt_of_lt_of_le hg hb1.size) ((hb1.cell (p := ⟨gc, 1, none⟩) hg).trans hc1) ((hb1.cell (p := ⟨gc, 2, none⟩) hg).trans hc2)
  rw [if_neg h] at h5; exact h5
def pq (p q l : Nat → Nat → Int) (r : Nat) : Nat → Nat → Int := if r = 0 then p else if r = 1 then q else l
def mm (kn ln r : Nat) : Nat := if r = 0 then ln else kn
def st (kn ln : Nat) (e : Int) (h : ByteArray) (p q l : Nat → Nat → Int) (r : Nat) : ByteArray :=
 if r = 0 then h else if r = 1 then laidS h p e e ln else if r = 2 then laidS (laidS h p e e ln) q e e kn else skB kn ln e h p q l
theorem st_next (kn ln : Nat) (e : Int) (h : ByteArray) (p q l : Nat → Nat → Int) (r : Nat) (hr : r < 3) : laidS (st kn ln e h p q l r) (pq p q l r) (lw e r) (hg e r) (mm kn ln r) = st kn ln e h p q l (r + 1) := by
 rcases (show r = 0 ∨ r = 1 ∨ r = 2 by omega) with rfl | rfl | rfl <;> rfl
theorem st_size (kn ln : Nat) (e : Int) (h : ByteArray) (p q l : Nat → Nat → Int) (r : Nat) (he : e = 2 ∨ e = 4) (hk : kn ≤ 8) (hl : ln ≤ 8) (hh : h.size = 128) : (st kn ln e h p q l r).size ≤ 100000 := by
 obtain ⟨-, -, b⟩ := lb_eta e he
 have a1 : 32 * lb (e + e).toNat * ln ≤ 128 * 8 := Nat.mul_le_mul (by omega) hl
 have a2 : 32 * lb (e + e).toNat * kn ≤ 128 * 8 := Nat.mul_le_mul (by omega) hk
 unfold st
 split
 ·omega
 ·split
  ·rw [laidS_size]; omega
  ·split
   ·rw [laidS_size, laidS_size]; omega
   ·rw [skB_size]; omega
set_option maxRecDepth 100000 in
set_option maxHeartbeats 8000000 in
theorem sb_any (kn ln : Nat) (e t a b o s : Int) (hd : ByteArray) (va vb vl : Value) (Ba Bb Bl : Nat) (p q lo : Nat → Nat → Int) (w : World) (h : latt (kn : Int) (ln : Int) e t a b o s = true) (hhd : hd.size = 128) (ha : Holds w Ba va ln p) (hb : Holds w Bb vb kn q) (hlo : Holds w Bl vl kn lo) :
 Calls Tryz.prog 18 #[.agg #[.int .i64 (kn : Int), .int .i64 (ln : Int), .int .i64 e, .int .i64 t, .int .i64 a, .int .i64 b, .int .i64 o, .int .i64 s], .string hd, va, vb, vl] w fun x w' => x = .returned (resK kn ln e hd p q lo) ∧ Below w.heap.size w w' := by
 have HR0 := fun w1 => rright.right_any (kn : Int) (ln : Int) e t a b o s w1
 simp only [h] at HR0
 have HL0 := fun w1 => lists_any (kn : Int) (ln : Int) e t a b o s w1
 obtain ⟨hk, hl, he, -⟩ := latt_all h
 have hk : 1 ≤ kn ∧ kn ≤ 8 := by omega
 have hl : 1 ≤ ln ∧ ln ≤ 8 := by omega
 have HQ : Away (∀ r, r < 3 → ∃ B c g, Holds w B (.slice (some ⟨g, 0, none⟩) (mm kn ln r) c) (mm kn ln r) (pq p q lo r) ∧ (#[va, vb, vl] : Array Value)[r]? = some (.slice (some ⟨g, 0, none⟩) (mm kn ln r) c)) := ⟨fun r hr => by
  rcases (show r = 0 ∨ r = 1 ∨ r = 2 by omega) with rfl | rfl | rfl
  ·obtain ⟨g, c, e1, -⟩ := hd_any ha
   subst e1
   exact ⟨Ba, c, g, ha, rfl⟩
  ·obtain ⟨g, c, e1, -⟩ := hd_any hb
   subst e1
   exact ⟨Bb, c, g, hb, rfl⟩
  ·obtain ⟨g, c, e1, -⟩ := hd_any hlo
   subst e1
   exact ⟨Bl, c, g, hlo, rfl⟩⟩
 obtain ⟨ga, ca, e1, -⟩ := hd_any ha
 obtain ⟨gb, cb, e2, -⟩ := hd_any hb
 obtain ⟨gl, cl, e3, -⟩ := hd_any hlo
 subst e1 e2 e3
 have HEn : Away (∀ (r gc : Nat) (v : Value) (B : Nat) (w1 : World), r < 3 → Holds w1 B v (mm kn ln r) (pq p q lo r) → gc < w1.heap.size → w1.cell? ⟨gc, 1, none⟩ = some (.int .i64 (lw e r)) → w1.cell? ⟨gc, 2, none⟩ = some (.int .i64 (hg e r)) →
  Calls Tryz.prog 56 #[.string (st kn ln e hd p q lo r), v, .func (.func 60) #[] #[.pointer (some ⟨gc, 0, none⟩)]] w1 fun x w' => x = .returned (if okS (pq p q lo r) (lw e r) (hg e r) (mm kn ln r) then .tuple #[.string (st kn ln e hd p q lo (r + 1)), .int .i64 0] else .tuple #[.string ⟨#[]⟩, .int .i64 6]) ∧ Below w1.heap.size w1 w') := ⟨fun r gc v B w1 hr hv hg' hc1 hc2 => by
  have h5 := enc_sb gc (st kn ln e hd p q lo r) (mm kn ln r) v B (pq p q lo r) (lw e r) (hg e r) w1 (by unfold mm; split <;> omega) hv (st_size kn ln e hd p q lo r he hk.2 hl.2 hhd) (by unfold lw; split <;> omega) (by unfold hg; split <;> omega) (by unfold lw; split <;> omega) (by unfold hg; split <;> omega) hg' hc1 hc2
  unfold resS at h5
  rw [st_next kn ln e hd p q lo r hr] at h5
  exact h5⟩
 have HNo : Away (∀ r, r < 3 → ¬ okS (pq p q lo r) (lw e r) (hg e r) (mm kn ln r) → resK kn ln e hd p q lo = .tuple #[.string ⟨#[]⟩, .int .i64 6]) := ⟨fun r hr hno => by
  unfold resK
  rw [if_neg]
  rintro ⟨q1, q2, q3⟩
  rcases (show r = 0 ∨ r = 1 ∨ r = 2 by omega) with rfl | rfl | rfl
  ·exact hno q1
  ·exact hno q2
  ·exact hno q3⟩
 have HYes : Away ((∀ r, r < 3 → okS (pq p q lo r) (lw e r) (hg e r) (mm kn ln r)) → resK kn ln e hd p q lo = .tuple #[.string (st kn ln e hd p q lo 3), .int .i64 0]) := ⟨fun h5 => by
  unfold resK
  rw [if_pos ⟨h5 0 (by decide), h5 1 (by decide), h5 2 (by decide)⟩]
  rfl⟩
 have HIx : Away (∀ (r : Nat), r < 3 → ∀ w1 : World, (Instr.index 74 (.agg (lst (kn : Int) (ln : Int) e)) (.int .i64 (r : Int))).run Tryz.prog w1 = .ok (.agg #[.int .i64 (mn (kn : Int) (ln : Int) r), .int .i64 (lw e r), .int .i64 (hg e r)]) w1) := ⟨fun r hr w1 => index_ls (kn : Int) (ln : Int) e r hr w1⟩
 have Hst0 : Away (st kn ln e hd p q lo 0 = hd) := ⟨rfl⟩
 obtain ⟨V, HV⟩ := ex_eq (resK kn ln e hd p q lo)
 simp only [HV.out] at HNo HYes ⊢
 obtain ⟨S, HS⟩ := ex_eq (st kn ln e hd p q lo)
 simp only [HS.out] at HEn HYes Hst0
 obtain ⟨OK, HOK⟩ := ex_eq (fun r => okS (pq p q lo r) (lw e r) (hg e r) (mm kn ln r))
 have HOK2 : ∀ r, okS (pq p q lo r) (lw e r) (hg e r) (mm kn ln r) = OK r := fun r => by rw [← HOK.out]
 have HEc : Away (∀ (r gc : Nat) (v : Value) (B : Nat) (w1 : World), r < 3 → Holds w1 B v (mm kn ln r) (pq p q lo r) → gc < w1.heap.size → w1.cell? ⟨gc, 1, none⟩ = some (.int .i64 (lw e r)) → w1.cell? ⟨gc, 2, none⟩ = some (.int .i64 (hg e r)) →
  (OK r ∧ Calls Tryz.prog 56 #[.string (S r), v, .func (.func 60) #[] #[.pointer (some ⟨gc, 0, none⟩)]] w1 fun x w' => x = .returned (.tuple #[.string (S (r + 1)), .int .i64 0]) ∧ Below w1.heap.size w1 w') ∨ (¬ OK r ∧ Calls Tryz.prog 56 #[.string (S r), v, .func (.func 60) #[] #[.pointer (some ⟨gc, 0, none⟩)]] w1 fun x w' => x = .returned (.tuple #[.string ⟨#[]⟩, .int .i64 6]) ∧ Below w1.heap.size w1 w')) := ⟨fun r gc v B w1 q1 q2 q3 q4 q5 => by
  have h6 := HEn.out r gc v B w1 q1 q2 q3 q4 q5
  by_cases h7 : okS (pq p q lo r) (lw e r) (hg e r) (mm kn ln r)
  ·rw [if_pos h7] at h6; exact Or.inl ⟨by rw [← HOK2 r]; exact h7, h6⟩
  ·rw [if_neg h7] at h6; exact Or.inr ⟨by rw [← HOK2 r]; exact h7, h6⟩⟩
 simp only [HOK2] at HNo HYes
 obtain ⟨mf, hmf⟩ := ex_eq (mn (kn : Int) (ln : Int))
 obtain ⟨lf, hlf⟩ := ex_eq (lw e)
 obtain ⟨gf, hgf⟩ := ex_eq (hg e)
 obtain ⟨Ls, hLs⟩ := ex_eq (lst (kn : Int) (ln : Int) e)
 obtain ⟨mN, hmN⟩ := ex_eq (mm kn ln)
 obtain ⟨pQ, hpQ⟩ := ex_eq (pq p q lo)
 simp only [hmf.out, hlf.out, hgf.out, hLs.out, hmN.out, hpQ.out] at HIx HEc HL0 HQ
 obtain ⟨Arr, HArr⟩ := ex_eq (#[.slice (some ⟨ga, 0, none⟩) ln ca, .slice (some ⟨gb, 0, none⟩) kn cb, .slice (some ⟨gl, 0, none⟩) kn cl] : Array Value)
 simp only [HArr.out] at HQ
 obtain ⟨C, HC⟩ := ex_eq (#[.int .i64 (kn : Int), .int .i64 (ln : Int), .int .i64 e, .int .i64 t, .int .i64 a, .int .i64 b, .int .i64 o, .int .i64 s] : Array Value)
 simp only [HC.out] at HR0 HL0 ⊢
 have HCs : Away ((Tryz.prog.info? 23).map (·.size) = some C.size) := ⟨by rw [← HC.out]; kernel_rfl⟩
 obtain ⟨W, hW⟩ : ∃ x, w.alloc (.cells C 23) = x := ⟨_, rfl⟩
 obtain ⟨r0, hWs, b0⟩ := one hW
 have CB : Away (∀ w' : World, Below W.heap.size W w' → w'.heap[w.heap.size]? = some (.cells C 23 (0, 0))) := ⟨fun w' hb => (hb.block _ (lt_of_row r0)).trans r0⟩
 have BW := Away.mk b0
 have HW := Away.mk hW
 have cK : Away (∀ w' : World, Below W.heap.size W w' → w'.cell? ⟨w.heap.size, 0, none⟩ = some (.int .i64 (kn : Int))) := ⟨fun w' hb => cell_at (CB.out w' hb) (by rw [← HC.out]; rfl)⟩
 have cL : Away (∀ w' : World, Below W.heap.size W w' → w'.cell? ⟨w.heap.size, 1, none⟩ = some (.int .i64 (ln : Int))) := ⟨fun w' hb => cell_at (CB.out w' hb) (by rw [← HC.out]; rfl)⟩
 have HR := Away.mk HR0
 have HL := Away.mk HL0
 have hhz : ((hd.size : Int) != 128) = false := by rw [hhd]; rfl
 have hhi : (hd.size : Int) = 128 := by omega
 have hk2 : ((kn : Int) != (kn : Int)) = false := by simp
 have hl2 : ((ln : Int) != (ln : Int)) = false := by simp
 clear HR0 HL0 hW r0 hWs b0 h hk hl he hhd ha hb hlo HV HS HOK HOK2 HEn hmf hlf hgf hLs hmN hpQ
 go_enter Tryz.func18, Tryz.ntmps18
 go_wp2_with (first
  | (rw [HW.out])
  | (refine wpList_load_row rfl 23 _ rfl w.heap.size rfl 23 _ (0, 0) _ (CB.out _ (Below.refl _ _)) Tryz.underlying23 rfl HCs.out ?_))
 refine (HR.out _).mono ?_
 rintro x u1 ⟨rfl, hb1⟩
 have E1 : Away (Below W.heap.size W u1) := ⟨hb1⟩
 have c0 := cK.out u1 hb1
 have c1 := cL.out u1 hb1
 clear hb1
 obtain ⟨W3, hW3⟩ : ∃ x, u1.alloc (.cells #[.slice (some ⟨ga, 0, none⟩) ln ca, .slice (some ⟨gb, 0, none⟩) kn cb, .slice (some ⟨gl, 0, none⟩) kn cl] 50) = x := ⟨_, rfl⟩
 obtain ⟨r3, hs3, b3⟩ := one hW3
 have E3 : Away (Below W.heap.size W W3) := ⟨E1.out.trans (b3.mono E1.out.size)⟩
 rw [HArr.out] at r3
 have R3 := Away.mk r3
 have HW3 := Away.mk hW3
 clear r3 hs3 b3 hW3
 go_wp2_with (first
  | (rw [HW3.out])
  | (refine wpList_load_row rfl 23 _ rfl w.heap.size rfl 23 _ (0, 0) _ (CB.out _ E3.out) Tryz.underlying23 rfl HCs.out ?_))
 refine (HL.out _).mono ?_
 rintro x u2 ⟨rfl, hb2⟩
 have R2 : Away (u2.heap[u1.heap.size]? = some (.cells Arr 50 (0, 0))) := ⟨(hb2.block _ (lt_of_row R3.out)).trans R3.out⟩
 have E2 : Away (Below W.heap.size W u2) := ⟨E3.out.trans (hb2.mono E3.out.size)⟩
 clear hb2 c0 c1 R3
 go_wp2_with fail
 go_loopw [53, 13, 14] (fun iv sv ev wr => ∃ r : Nat, r ≤ 3 ∧ iv = .int .i64 (r : Int) ∧ sv = .string (S r) ∧ ev = .int .i64 0 ∧ Away (∀ i, i < r → OK i) ∧ Away (Below u2.heap.size u2 wr)) (fun iv _ _ _ => 3 - (intOf iv).toNat)
 case atStart => exact ⟨0, by decide, rfl, by rw [Hst0.out], rfl, ⟨fun i hi => by omega⟩, ⟨Below.refl _ _⟩⟩
 case round =>
  obtain ⟨i, hi, rfl, rfl, rfl, Hok, Hb⟩ := hrel
  have BE : Away (Below W.heap.size W wr) := ⟨E2.out.trans (Hb.out.mono E2.out.size)⟩
  by_cases hlt : i < 3
  ·have hiz : (i : Int) < 3 := by omega
   have hix := HIx.out i hlt
   obtain ⟨Bv, cv, gv, hv, hav⟩ := HQ.out i hlt
   obtain ⟨m, hm⟩ := ex_eq (mf i)
   obtain ⟨lo', hlo'⟩ := ex_eq (lf i)
   obtain ⟨hi', hhi'⟩ := ex_eq (gf i)
   rw [hm.out, hlo'.out, hhi'.out] at hix
   obtain ⟨W4, hW4⟩ : ∃ x, wr.alloc (.cells #[.int .i64 m, .int .i64 lo', .int .i64 hi'] 73) = x := ⟨_, rfl⟩
   obtain ⟨r4, hs4, b4⟩ := one hW4
   have d1 : W4.cell? ⟨wr.heap.size, 1, none⟩ = some (.int .i64 (lf i)) := by rw [hlo'.out]; exact cell_at r4 rfl
   have d2 : W4.cell? ⟨wr.heap.size, 2, none⟩ = some (.int .i64 (gf i)) := by rw [hhi'.out]; exact cell_at r4 rfl
   have B4 : Away (Below u2.heap.size u2 W4) := ⟨Hb.out.trans (b4.mono Hb.out.size)⟩
   have R4 : W4.heap[u1.heap.size]? = some (.cells Arr 50 (0, 0)) := (B4.out.block _ (lt_of_row R2.out)).trans R2.out
   have c4 : W4.cell? ⟨u1.heap.size, i, none⟩ = some (.slice (some ⟨gv, 0, none⟩) (mN i) cv) := cell_at R4 hav
   have hcase := HEc.out i wr.heap.size (.slice (some ⟨gv, 0, none⟩) (mN i) cv) Bv W4 hlt (hv.later (BW.out.trans ((E2.out.trans (B4.out.mono E2.out.size)).mono BW.out.size))) (lt_of_row r4) d1 d2
   have HW4 := Away.mk hW4
   have Hlt := Away.mk hlt
   obtain ⟨nn, hnn⟩ : ∃ nn, mN i = nn := ⟨_, rfl⟩
   rw [hnn] at c4 hcase
   obtain ⟨s0, hs0⟩ := ex_eq (S i)
   rw [hs0.out] at hcase ⊢
   clear r4 hs4 b4 hW4 d1 d2 R4 hv hav hlt hnn
   rcases hcase with ⟨hok, hcall⟩ | ⟨hok, hcall⟩
   ·have HCl := Away.mk hcall
    have Hok2 : Away (∀ j, j < i + 1 → OK j) := ⟨fun j hj => by
     by_cases e : j = i
     ·rw [e]; exact hok
     ·exact Hok.out j (by omega)⟩
    obtain ⟨s1, hs1⟩ := ex_eq (S (i + 1))
    rw [hs1.out] at HCl
    clear hcall hok
    go_wp2_with (rw [HW4.out])
    refine HCl.out.mono ?_
    rintro x w5 ⟨rfl, hb5⟩
    have B5 : Away (Below u2.heap.size u2 w5) := ⟨B4.out.trans (hb5.mono B4.out.size)⟩
    clear hb5 HCl
    go_wp2_with fail
    go_roundw
    case rel => exact ⟨i + 1, by have := Hlt.out; omega, by go_num, by rw [hs1.out], rfl, Hok2, B5⟩
    case measure => have := Hlt.out; simp [intOf]; omega
   ·have HCl := Away.mk hcall
    have hVe : Away (V = .tuple #[.string ⟨#[]⟩, .int .i64 6]) := ⟨HNo.out i Hlt.out hok⟩
    clear hcall hok
    go_wp2_with (rw [HW4.out])
    refine HCl.out.mono ?_
    rintro x w5 ⟨rfl, hb5⟩
    have B5 : Away (Below u2.heap.size u2 w5) := ⟨B4.out.trans (hb5.mono B4.out.size)⟩
    clear hb5 HCl
    go_wp2_with fail
    go_ret2
    exact ⟨by rw [hVe.out]; rfl, BW.out.trans ((E2.out.trans (B5.out.mono E2.out.size)).mono BW.out.size)⟩
  ·obtain rfl : i = 3 := by omega
   have hVe : Away (V = .tuple #[.string (S 3), .int .i64 0]) := ⟨HYes.out fun r hr => Hok.out r hr⟩
   obtain ⟨s3, hs3⟩ := ex_eq (S 3)
   rw [hs3.out] at hVe ⊢
   simp only [Int.cast_ofNat_Int]
   go_wp2_with fail
   go_ret2
   exact ⟨by rw [hVe.out]; rfl, BW.out.trans (BE.out.mono BW.out.size)⟩
end ksb
namespace kse
set_option linter.unusedSimpArgs false
open Go Go.RowKit
open arr mem stil polys polt pols rbita rbitb rbitd rbite rbitf rbitg bitp saml lsl11 helda qrow mlkm mlkb rksz rkpb rksb rkse rkrw
open rndm (latt)
open ksz ksb
def Rowm (w : World) (skip : Option Nat) (vs : List Value) (n : Nat → Nat) (p : Nat → Nat → Nat → Int) : Prop :=
 ∀ i v, vs[i]? = some v → ∃ g c, v = .slice (some ⟨g, 0, none⟩) (n i) c ∧ g < w.heap.size ∧ some g ≠ skip ∧ ∀ s, s < n i → ∀ k, k < 256 → w.cell? ⟨g, 256 * s + k, none⟩ = some (.int .i64 (p i s k))
theorem Rowm.grown {w w' : World} {n : Nat → Nat} {skip skip' : Option Nat} {vs : List Value} {p : Nat → Nat → Nat → Int} (h : Rowm w skip vs n p) (hg : w.grownBy w' skip) (hs : skip' = skip ∨ skip' = some w.heap.size) : Rowm w' skip' vs n p := fun i v hv => by
 obtain ⟨g, c, e, h2, h3, h4⟩ := h i v hv
 refine ⟨g, c, e, Nat.lt_of_lt_of_le h2 hg.size, ?_, fun s hs k hk => hg.cell (h4 s hs k hk) h3⟩
 rcases hs with rfl | rfl
 ·exact h3
 ·intro e2; injection e2 with e2; omega
theorem Rowm.later {w w' : World} {n : Nat → Nat} {skip : Option Nat} {vs : List Value} {p : Nat → Nat → Nat → Int} (h : Rowm w skip vs n p) (hb : Below w.heap.size w w') : Rowm w' skip vs n p := fun i v hv => by
 obtain ⟨g, c, e, h2, h3, h4⟩ := h i v hv
 exact ⟨g, c, e, Nat.lt_of_lt_of_le h2 hb.size, h3, fun s hs k hk => (hb.cell (p := ⟨g, 256 * s + k, none⟩) h2).trans (h4 s hs k hk)⟩
theorem Rowm.snoc {w : World} {B' : Nat} {n : Nat → Nat} {x y : Value} {vs : List Value} {p : Nat → Nat → Nat → Int} (h : Rowm w x.ownBlock vs n p) (hy : Holds w B' y (n vs.length) (p vs.length)) (hx : ∀ k, x.ownBlock = some k → k < B') : Rowm w x.ownBlock (vs ++ [y]) n p := fun i v hv => by
 by_cases e : i < vs.length
 ·exact h i v (by rwa [List.getElem?_append_left e] at hv)
 ·have e2 : i = vs.length := by
   have := (List.getElem?_eq_some_iff.1 hv).1
   rw [List.length_append, List.length_singleton] at this
   omega
  subst e2
  rw [List.getElem?_append_right (Nat.le_refl _), Nat.sub_self] at hv
  have e3 : y = v := by simpa using hv
  subst e3
  obtain ⟨g, c, e, h1, h2, h3⟩ := hy
  exact ⟨g, c, e, h2, fun e4 => by have := hx g e4.symm; omega, h3⟩
def po (kn ln W r : Nat) : Nat := if r = 0 then 128 else if r = 1 then 128 + 32 * W * ln else if r = 2 then 128 + 32 * W * ln + 32 * W * kn else 128 + 32 * W * ln + 32 * W * kn + 416 * kn
def wf (W r : Nat) : Nat := if r = 2 then 13 else W
end kse
namespace kpr
set_option linter.unusedSimpArgs false
open Go Go.RowKit
open arr mem stil polys polt pols rbita rbitb rbitd rbite rbitf rbitg bitp saml lsl11 helda qrow mlkm mlkb rkpb rksb rkrw
open rndm (latt)
open samr samc rsdoc keca kstep kturn spok mlkd
set_option maxRecDepth 100000 in
set_option maxHeartbeats 8000000 in
theorem pair_bad {T : Array Value} (k l e t a b o s : Int) (sd : ByteArray) (w : World) (h : latt k l e t a b o s = false ∨ sd.size ≠ 32) :
 Calls Tryz.prog 9 #[.agg T, .agg #[.int .i64 k, .int .i64 l, .int .i64 e, .int .i64 t, .int .i64 a, .int .i64 b, .int .i64 o, .int .i64 s], .string sd] w fun x w' => x = .returned (.tuple #[.string ⟨#[]⟩, .string ⟨#[]⟩, .int .i64 1]) ∧ Below w.heap.size w w' := by
 obtain ⟨cc, hc⟩ : ∃ c, latt k l e t a b o s = c := ⟨_, rfl⟩
 rw [hc] at h
 have HR0 : ∀ w1 : World, Calls Tryz.prog 32 #[.agg #[.int .i64 k, .int .i64 l, .int .i64 e, .int .i64 t, .int .i64 a, .int .i64 b, .int .i64 o, .int .i64 s]] w1 fun e0 w' => e0 = .returned (.bool cc) ∧ Below w1.heap.size w1 w' := fun w1 => by rw [← hc]; exact rright.right_any k l e t a b o s w1
 obtain ⟨C, HC⟩ := ex_eq (#[.int .i64 k, .int .i64 l, .int .i64 e, .int .i64 t, .int .i64 a, .int .i64 b, .int .i64 o, .int .i64 s] : Array Value)
 simp only [HC.out] at HR0 ⊢
 have HCs : Away ((Tryz.prog.info? 23).map (·.size) = some C.size) := ⟨by rw [← HC.out]; kernel_rfl⟩
 obtain ⟨W, hW⟩ : ∃ x, (w.alloc (.cells T 38)).alloc (.cells C 23) = x := ⟨_, rfl⟩
 obtain ⟨r0, r1, hWs, b0⟩ := two hW
 have TB : Away (∀ w' : World, Below W.heap.size W w' → w'.heap[w.heap.size]? = some (.cells T 38 (0, 0))) := ⟨fun w' hb => (hb.block _ (by rw [hWs]; omega)).trans r0⟩
 have CB : Away (∀ w' : World, Below W.heap.size W w' → w'.heap[w.heap.size + 1]? = some (.cells C 23 (0, 0))) := ⟨fun w' hb => (hb.block _ (by rw [hWs]; omega)).trans r1⟩
 have BW := Away.mk b0
 have HW := Away.mk hW
 have HR := Away.mk HR0
 have h : cc = false ∨ (cc = true ∧ sd.size ≠ 32) := by
  cases cc
  ·exact Or.inl rfl
  ·exact Or.inr ⟨rfl, h.resolve_left (by decide)⟩
 clear HR0 hW r0 r1 hWs b0 hc TB
 rcases h with rfl | ⟨rfl, h1⟩
 ·go_enter Tryz.func9, Tryz.ntmps9
  go_wp2_with (first
   | (rw [HW.out])
   | (refine wpList_load_row rfl 23 _ rfl (w.heap.size + 1) rfl 23 _ (0, 0) _ (CB.out _ (Below.refl _ _)) Tryz.underlying23 rfl HCs.out ?_))
  refine (HR.out _).mono ?_
  rintro x u1 ⟨rfl, hb1⟩
  have E1 : Away (Below w.heap.size w u1) := ⟨BW.out.trans (hb1.mono BW.out.size)⟩
  clear hb1
  go_wp2_with fail
  go_ret3
  exact ⟨rfl, E1.out⟩
 ·have hz : ((sd.size : Int) != 32) = true := by simp; omega
  go_enter Tryz.func9, Tryz.ntmps9
  go_wp2_with (first
   | (rw [HW.out])
   | (refine wpList_load_row rfl 23 _ rfl (w.heap.size + 1) rfl 23 _ (0, 0) _ (CB.out _ (Below.refl _ _)) Tryz.underlying23 rfl HCs.out ?_))
  refine (HR.out _).mono ?_
  rintro x u1 ⟨rfl, hb1⟩
  have E1 : Away (Below w.heap.size w u1) := ⟨BW.out.trans (hb1.mono BW.out.size)⟩
  clear hb1
  go_wp2_with fail
  go_ret3
  exact ⟨rfl, E1.out⟩
set_option maxRecDepth 100000 in
set_option maxHeartbeats 8000000 in
theorem pair_any {T : Array Value} (Z : Nat → Int) (kn ln : Nat) (e t a b o s : Int) (sd : ByteArray) (w : World) (hK : KT T TL RL) (hP : Gp w) (hT : nthere.ZT T Z) (h : latt (kn : Int) (ln : Int) e t a b o s = true) (hsd : sd.size = 32) :
 Calls Tryz.prog 9 #[.agg T, .agg #[.int .i64 (kn : Int), .int .i64 (ln : Int), .int .i64 e, .int .i64 t, .int .i64 a, .int .i64 b, .int .i64 o, .int .i64 s], .string sd] w fun x w' => x = .returned (.tuple #[.string (pPk (fun k => Z k % 8380417) sd kn ln e), .string (pSk (fun k => Z k % 8380417) sd kn ln e), .int .i64 0]) ∧ Below w.heap.size w w' := by
 obtain ⟨hk, hl, -, he, -⟩ := latt_of h
 have hk : 1 ≤ kn ∧ kn ≤ 8 := by omega
 have hl : 1 ≤ ln ∧ ln ≤ 8 := by omega
 have HR0 : ∀ w1 : World, Calls Tryz.prog 32 #[.agg #[.int .i64 (kn : Int), .int .i64 (ln : Int), .int .i64 e, .int .i64 t, .int .i64 a, .int .i64 b, .int .i64 o, .int .i64 s]] w1 fun e0 w' => e0 = .returned (.bool true) ∧ Below w1.heap.size w1 w' := fun w1 => by rw [← h]; exact rright.right_any _ _ e t a b o s w1
 have HSe0 : ∀ w1 : World, Gp w1 → Calls Tryz.prog 38 #[.agg T, .agg #[.int .i64 (kn : Int), .int .i64 (ln : Int), .int .i64 e, .int .i64 t, .int .i64 a, .int .i64 b, .int .i64 o, .int .i64 s], .string (pSig sd kn ln)] w1 fun x w' => (∃ v1 v2, x = .returned (.tuple #[v1, v2]) ∧ Holds w' w1.heap.size v1 ln (qS (pSig sd kn ln) e) ∧ Holds w' w1.heap.size v2 kn (fun i => qS (pSig sd kn ln) e (ln + i))) ∧ Below w1.heap.size w1 w' := fun w1 hg => qdoc.secrets kn ln e t a b o s _ w1 hK hg h (by rw [pSig_size]; decide)
 have HMa0 : ∀ w1 : World, Gp w1 → Calls Tryz.prog 40 #[.agg T, .agg #[.int .i64 (kn : Int), .int .i64 (ln : Int), .int .i64 e, .int .i64 t, .int .i64 a, .int .i64 b, .int .i64 o, .int .i64 s], .string (pRho sd kn ln)] w1 fun x w' => (∃ v, x = .returned v ∧ MX w' v kn (fun _ => ln) (qX (pRho sd kn ln))) ∧ Below w1.heap.size w1 w' := fun w1 hg => by
  refine (qdoc.matrix kn ln e t a b o s _ w1 hK hg h (by rw [pRho_size]; decide)).mono ?_
  rintro x w' ⟨⟨v, vs, rfl, h1, h2⟩, hb⟩
  exact ⟨⟨v, rfl, mx_of hk.1 h1 h2⟩, hb⟩
 obtain ⟨ζ, hζ⟩ := ex_eq (fun k => Z k % 8380417)
 have HRw0 : ∀ (w1 : World) (v vv : Value) (B : Nat), MX w1 v kn (fun _ => ln) (qX (pRho sd kn ln)) → Holds w1 B vv ln (qS (pSig sd kn ln) e) → Calls Tryz.prog 12 #[.agg T, v, vv] w1 fun e' w' => (∃ v', e' = .returned v' ∧ Holds w' w1.heap.size v' kn (fun r => rowv ζ (qX (pRho sd kn ln) r) (qS (pSig sd kn ln) e) ln)) ∧ Below w1.heap.size w1 w' := fun w1 v vv B h1 h2 => by
  have h3 := krw.rows_any T Z kn ln (fun _ => ln) (qX (pRho sd kn ln)) (qS (pSig sd kn ln) e) v vv B w1 hK.size hT hk (fun _ _ => hl.2) hl h1 h2
  simp only [Nat.min_self, hζ.out] at h3
  exact h3
 have HSp0 : ∀ (w1 : World) (v vb : Value) (B B' : Nat), Holds w1 B v kn (fun r => rowv ζ (qX (pRho sd kn ln) r) (qS (pSig sd kn ln) e) ln) → Holds w1 B' vb kn (fun i => qS (pSig sd kn ln) e (ln + i)) → Calls Tryz.prog 39 #[v, vb] w1 fun x w' => (∃ v1 v2, x = .returned (.tuple #[v1, v2]) ∧ Holds w' w1.heap.size v1 kn (pHi ζ sd kn ln e) ∧ Holds w' w1.heap.size v2 kn (pLo ζ sd kn ln e)) ∧ Below w1.heap.size w1 w' := fun w1 v vb B B' h1 h2 => ksp.split_any kn v vb B B' _ _ w1 hk h1 h2
 have HPb0 : ∀ (w1 : World) (v : Value) (B : Nat), Holds w1 B v kn (pHi ζ sd kn ln e) → Calls Tryz.prog 16 #[.agg #[.int .i64 (kn : Int), .int .i64 (ln : Int), .int .i64 e, .int .i64 t, .int .i64 a, .int .i64 b, .int .i64 o, .int .i64 s], .string (pRho sd kn ln), v] w1 fun x w' => x = .returned (.tuple #[.string (pPk ζ sd kn ln e), .int .i64 0]) ∧ Below w1.heap.size w1 w' := fun w1 v B hv => by
  have h1 := kpb.pb_any kn ln e t a b o s (pRho sd kn ln) v B _ w1 h (pRho_size _ _ _) hv
  unfold resP at h1
  rw [if_pos (show okP (pHi ζ sd kn ln e) 1023 kn from fun i _ => pHi_in ζ sd kn ln e i)] at h1
  exact h1
 have HSb0 : ∀ (w1 : World) (va vb vl : Value) (Ba Bb Bl : Nat), Holds w1 Ba va ln (qS (pSig sd kn ln) e) → Holds w1 Bb vb kn (fun i => qS (pSig sd kn ln) e (ln + i)) → Holds w1 Bl vl kn (pLo ζ sd kn ln e) → Calls Tryz.prog 18 #[.agg #[.int .i64 (kn : Int), .int .i64 (ln : Int), .int .i64 e, .int .i64 t, .int .i64 a, .int .i64 b, .int .i64 o, .int .i64 s], .string (pRho sd kn ln ++ pKey sd kn ln ++ pTr ζ sd kn ln e), va, vb, vl] w1 fun x w' => x = .returned (.tuple #[.string (pSk ζ sd kn ln e), .int .i64 0]) ∧ Below w1.heap.size w1 w' := fun w1 va vb vl Ba Bb Bl h1 h2 h3 => by
  have h4 := ksb.sb_any kn ln e t a b o s (pHead ζ sd kn ln e) va vb vl Ba Bb Bl _ _ _ w1 h (pHead_size _ _ _ _ _) h1 h2 h3
  unfold resK at h4
  rw [if_pos ⟨fun i _ => qS_in _ e he i, fun i _ => qS_in _ e he (ln + i), fun i _ => pLo_in ζ sd kn ln e i⟩] at h4
  exact h4
 have HS10 : ∀ w1 : World, Gp w1 → w1.heap[w.heap.size]? = some (.cells T 38 (0, 0)) → Calls Tryz.prog 37 #[.pointer (some ⟨w.heap.size, 0, none⟩), .string (tw sd kn ln), .int .i64 128] w1 fun x w' => x = .returned (.string (pS sd kn ln)) ∧ Below w1.heap.size w1 w' := fun w1 hg hr => ksh.shake_any w.heap.size _ 128 w1 hK hg hr (by decide) (by rw [tw_size]; omega)
 have HS20 : ∀ w1 : World, Gp w1 → w1.heap[w.heap.size]? = some (.cells T 38 (0, 0)) → Calls Tryz.prog 37 #[.pointer (some ⟨w.heap.size, 0, none⟩), .string (pPk ζ sd kn ln e), .int .i64 64] w1 fun x w' => x = .returned (.string (pTr ζ sd kn ln e)) ∧ Below w1.heap.size w1 w' := fun w1 hg hr => ksh.shake_any w.heap.size _ 64 w1 hK hg hr (by decide) (by rw [pPk_size]; omega)
 rw [hζ.out]
 have HTz : Away ((Tryz.prog.info? 38).map (·.size) = some T.size) := ⟨infoT T hK⟩
 have HP := Away.mk hP
 obtain ⟨ρS, hρS⟩ := ex_eq (pS sd kn ln)
 obtain ⟨ρR, hρR⟩ := ex_eq (pRho sd kn ln)
 obtain ⟨ρK, hρK⟩ := ex_eq (pKey sd kn ln)
 obtain ⟨ρG, hρG⟩ := ex_eq (pSig sd kn ln)
 obtain ⟨PK, hPK⟩ := ex_eq (pPk ζ sd kn ln e)
 obtain ⟨SK, hSK⟩ := ex_eq (pSk ζ sd kn ln e)
 obtain ⟨TR, hTR⟩ := ex_eq (pTr ζ sd kn ln e)
 obtain ⟨A, hA⟩ := ex_eq (qS (pSig sd kn ln) e)
 obtain ⟨Bq, hBq⟩ := ex_eq (fun i => qS (pSig sd kn ln) e (ln + i))
 obtain ⟨Y, hY⟩ := ex_eq (fun r => rowv ζ (qX (pRho sd kn ln) r) (qS (pSig sd kn ln) e) ln)
 obtain ⟨X, hX⟩ := ex_eq (qX (pRho sd kn ln))
 obtain ⟨hi, hhi⟩ := ex_eq (pHi ζ sd kn ln e)
 obtain ⟨lo, hlo⟩ := ex_eq (pLo ζ sd kn ln e)
 have sS : ρS.size = 128 := by rw [← hρS.out]; exact pS_size _ _ _
 have sR : ρR.size = 32 := by rw [← hρR.out]; exact pRho_size _ _ _
 have sK : ρK.size = 32 := by rw [← hρK.out]; exact pKey_size _ _ _
 have sT : TR.size = 64 := by rw [← hTR.out]; exact pTr_size _ _ _ _ _
 have eR : ρS.extract 0 32 = ρR := by rw [← hρS.out, ← hρR.out]; rfl
 have eG : ρS.extract 32 96 = ρG := by rw [← hρS.out, ← hρG.out]; rfl
 have eK : ρS.extract 96 128 = ρK := by rw [← hρS.out, ← hρK.out]; rfl
 simp only [hBq.out] at HSe0 HSb0 HSp0
 simp only [hY.out] at HRw0 HSp0
 simp only [hX.out] at HMa0 HRw0
 simp only [hρS.out, hρR.out, hρK.out, hρG.out, hPK.out, hSK.out, hTR.out, hhi.out, hlo.out] at HS10 HS20 HSe0 HMa0 HRw0 HPb0 HSb0 HSp0 hA ⊢
 simp only [hA.out] at HSe0 HRw0 HSb0
 have HeR := Away.mk eR
 have HeG := Away.mk eG
 have HeK := Away.mk eK
 have Hk := Away.mk hk
 have Hl := Away.mk hl
 clear hρS hρR hρK hρG hPK hSK hTR hA hBq hX hhi hlo hY hζ hT hK h he hk hl eR eG eK hP
 obtain ⟨C, HC⟩ := ex_eq (#[.int .i64 (kn : Int), .int .i64 (ln : Int), .int .i64 e, .int .i64 t, .int .i64 a, .int .i64 b, .int .i64 o, .int .i64 s] : Array Value)
 simp only [HC.out] at HR0 HSe0 HMa0 HPb0 HSb0 ⊢
 have HCs : Away ((Tryz.prog.info? 23).map (·.size) = some C.size) := ⟨by rw [← HC.out]; kernel_rfl⟩
 obtain ⟨W, hW⟩ : ∃ x, (w.alloc (.cells T 38)).alloc (.cells C 23) = x := ⟨_, rfl⟩
 obtain ⟨r0, r1, hWs, b0⟩ := two hW
 have TB : Away (∀ w' : World, Below W.heap.size W w' → w'.heap[w.heap.size]? = some (.cells T 38 (0, 0))) := ⟨fun w' hb => (hb.block _ (by rw [hWs]; omega)).trans r0⟩
 have CB : Away (∀ w' : World, Below W.heap.size W w' → w'.heap[w.heap.size + 1]? = some (.cells C 23 (0, 0))) := ⟨fun w' hb => (hb.block _ (by rw [hWs]; omega)).trans r1⟩
 have BW := Away.mk b0
 have HW := Away.mk hW
 have HR := Away.mk HR0
 have HS1 := Away.mk HS10
 have HS2 := Away.mk HS20
 have HSe := Away.mk HSe0
 have HMa := Away.mk HMa0
 have HRw := Away.mk HRw0
 have HSp := Away.mk HSp0
 have HPb := Away.mk HPb0
 have HSb := Away.mk HSb0
 have GP : Away (∀ w' : World, Below W.heap.size W w' → Gp w') := ⟨fun w' hb => HP.out.later (BW.out.trans (hb.mono BW.out.size))⟩
 have hsz : (sd.size : Int) = 32 := by omega
 have hsR : (ρR.size : Int) = 32 := by omega
 have hsdz := hsd
 clear HR0 HS10 HS20 HSe0 HMa0 HRw0 HSp0 HPb0 HSb0 hW r0 r1 hWs b0 hsd
 go_enter Tryz.func9, Tryz.ntmps9
 go_wp2_with (first
  | (rw [HW.out])
  | (refine wpList_load_row rfl 23 _ rfl (w.heap.size + 1) rfl 23 _ (0, 0) _ (CB.out _ (Below.refl _ _)) Tryz.underlying23 rfl HCs.out ?_))
 refine (HR.out _).mono ?_
 rintro x u1 ⟨rfl, hb1⟩
 have E1 : Away (Below W.heap.size W u1) := ⟨hb1⟩
 have cK : u1.cell? ⟨w.heap.size + 1, 0, none⟩ = some (.int .i64 (kn : Int)) := cell_at (CB.out _ hb1) (by rw [← HC.out]; rfl)
 have cL : u1.cell? ⟨w.heap.size + 1, 1, none⟩ = some (.int .i64 (ln : Int)) := cell_at (CB.out _ hb1) (by rw [← HC.out]; rfl)
 have f8k : IntKind.u8.wrap (kn : Int) = (kn : Int) := by rw [IntKind.wrap_u8]; have := Hk.out; omega
 have f8l : IntKind.u8.wrap (ln : Int) = (ln : Int) := by rw [IntKind.wrap_u8]; have := Hl.out; omega
 obtain ⟨W2, hW2⟩ : ∃ x, u1.alloc (.cells #[.int .u8 (kn : Int), .int .u8 (ln : Int)] 5) = x := ⟨_, rfl⟩
 obtain ⟨r2, hs2, b2⟩ := one hW2
 have hcv := conv_lk (t := 5) (l := [kn, ln]) (cap := 2) (n := 2) rfl (by have := Hk.out; have := Hl.out; simp; omega) r2
 obtain ⟨XX, hXX⟩ : ∃ X : ByteArray, ⟨(u8s [kn, ln]).toArray⟩ = X := ⟨_, rfl⟩
 have hXs : XX.size = 2 := by rw [← hXX]; rfl
 have hcat : sd ++ XX = tw sd kn ln := by rw [← hXX]; rfl
 rw [hXX] at hcv
 have E2 : Away (Below W.heap.size W W2) := ⟨hb1.trans (b2.mono hb1.size)⟩
 have HW2 := Away.mk hW2
 have HS1a := HS1.out W2 (GP.out _ E2.out) (TB.out _ E2.out)
 rw [← hcat] at HS1a
 have HS1b := Away.mk HS1a
 clear hXX hcat r2 hs2 b2 hW2 hb1 HS1a
 go_wp2_with (rw [HW2.out])
 refine HS1b.out.mono ?_
 rintro x w3 ⟨rfl, hb3⟩
 have E3 : Away (Below W.heap.size W w3) := ⟨E2.out.trans (hb3.mono E2.out.size)⟩
 clear HS1b hb3 hcv cK cL hXs
 have hsSz : (ρS.size : Int) = 128 := by omega
 have hsSn : ρS.size = 128 := sS
 have e0 := HeR.out
 have e1 := HeG.out
 have e2 := HeK.out
 go_wp2_with fail
 refine still_all (by kernel_rfl) (by kernel_rfl) ?_
 repeat still_step
 refine wpStill_nil ?_
 clear e0 e1 e2
 have E4 : Away (Below W.heap.size W w3.drew) := ⟨E3.out.drew⟩
 go_wp2_with (first
  | (refine wpList_load_row rfl 38 _ rfl w.heap.size rfl 38 T (0, 0) _ (TB.out _ E4.out) Tryz.underlying38 rfl HTz.out ?_)
  | (refine wpList_load_row rfl 23 _ rfl (w.heap.size + 1) rfl 23 _ (0, 0) _ (CB.out _ E4.out) Tryz.underlying23 rfl HCs.out ?_))
 refine (HSe.out _ (GP.out _ E4.out)).mono ?_
 rintro x w5 ⟨⟨va, vb, rfl, ha, hb⟩, hb5⟩
 have E5 : Away (Below W.heap.size W w5) := ⟨E4.out.trans (hb5.mono E4.out.size)⟩
 have Ba := Away.mk ha
 have Bb := Away.mk hb
 obtain ⟨B1, hB1⟩ : ∃ x, w3.drew.heap.size = x := ⟨_, rfl⟩
 rw [hB1] at Ba Bb
 clear hb5 ha hb hB1
 go_wp2_with fail
 have KT5 : Away (∀ w' : World, Below w5.heap.size w5 w' → w'.heap[w.heap.size]? = some (.cells T 38 (0, 0))) := ⟨fun w' hb => TB.out w' (E5.out.trans (hb.mono E5.out.size))⟩
 have KC5 : Away (∀ w' : World, Below w5.heap.size w5 w' → w'.heap[w.heap.size + 1]? = some (.cells C 23 (0, 0))) := ⟨fun w' hb => CB.out w' (E5.out.trans (hb.mono E5.out.size))⟩
 refine hk_begin (w5.heap.size) 14 [0, 1, 2, 3, 5, 7, 4, 6, 8, 9, 10, 11, 12, 13] (by kernel_rfl) rfl rfl (by decide) (fun hS ops HO => ?_)
 simp only [List.filterMap_cons, List.filterMap_nil, List.getElem?_cons_succ, List.getElem?_cons_zero]
 refine hk_load (by rw [← HO.out]; kernel_rfl) (by rw [← HO.out]; kernel_rfl) (by rw [← HO.out]; kernel_rfl) (by rw [← HO.out]; kernel_rfl) (fun _ _ _ _ h => h) 38 _ rfl (w.heap.size) rfl 38 T _ KT5.out Tryz.underlying38 rfl HTz.out (hS) ?_
 simp only [Act.put, List.setIfInBounds_toArray, List.set_cons_zero, List.set_cons_succ]
 refine hk_load (by rw [← HO.out]; kernel_rfl) (by rw [← HO.out]; kernel_rfl) (by rw [← HO.out]; kernel_rfl) (by rw [← HO.out]; kernel_rfl) (fun _ _ _ _ h => h) 38 _ rfl (w.heap.size) rfl 38 T _ KT5.out Tryz.underlying38 rfl HTz.out (hS) ?_
 simp only [Act.put, List.setIfInBounds_toArray, List.set_cons_zero, List.set_cons_succ]
 refine hk_load (by rw [← HO.out]; kernel_rfl) (by rw [← HO.out]; kernel_rfl) (by rw [← HO.out]; kernel_rfl) (by rw [← HO.out]; kernel_rfl) (fun _ _ _ _ h => h) 23 _ rfl (w.heap.size + 1) rfl 23 C _ KC5.out Tryz.underlying23 rfl HCs.out (hS) ?_
 simp only [Act.put, List.setIfInBounds_toArray, List.set_cons_zero, List.set_cons_succ]
 (focus (refine hk_take (v := ?_) (by rw [← HO.out]; kernel_rfl) (by rw [← HO.out]; kernel_rfl) (by rw [← HO.out]; kernel_rfl) (by rw [← HO.out]; kernel_rfl) (fun _ _ _ h => h) ?_ (hS) ?_; rotate_left; focus (intro w9 h9; go_simp; first | done | with_reducible rfl); all_goals skip))
 simp only [Act.put, List.setIfInBounds_toArray, List.set_cons_zero, List.set_cons_succ]
 (focus (refine hk_take (v := ?_) (by rw [← HO.out]; kernel_rfl) (by rw [← HO.out]; kernel_rfl) (by rw [← HO.out]; kernel_rfl) (by rw [← HO.out]; kernel_rfl) (fun _ _ _ h => h) ?_ (hS) ?_; rotate_left; focus (intro w9 h9; go_simp; first | done | with_reducible rfl); all_goals skip))
 simp only [Act.put, List.setIfInBounds_toArray, List.set_cons_zero, List.set_cons_succ]
 (focus (refine hk_take (v := ?_) (by rw [← HO.out]; kernel_rfl) (by rw [← HO.out]; kernel_rfl) (by rw [← HO.out]; kernel_rfl) (by rw [← HO.out]; kernel_rfl) (fun _ _ _ h => h) ?_ (hS) ?_; rotate_left; focus (intro w9 h9; go_simp; first | done | with_reducible rfl); all_goals skip))
 simp only [Act.put, List.setIfInBounds_toArray, List.set_cons_zero, List.set_cons_succ]
 refine hk_step (by rw [← HO.out]; kernel_rfl) (by rw [← HO.out]; kernel_rfl) (fun K hK => ?_)
 go_simp
 refine (HMa.out _ (GP.out _ (E5.out.trans (hS.mono E5.out.size)))).mono ?_
 rintro x w6 ⟨⟨vm, rfl, hm⟩, hb6⟩
 have h6 : Below w5.heap.size w5 w6 := hS.trans (hb6.mono hS.size)
 refine hK _ _ h6 ?_
 clear hK K
 try simp only [Act.put, List.setIfInBounds_toArray, List.set_cons_zero, List.set_cons_succ]
 refine hk_step (by rw [← HO.out]; kernel_rfl) (by rw [← HO.out]; kernel_rfl) (fun K hK => ?_)
 go_simp
 refine (HRw.out _ _ _ _ hm (Ba.out.later h6)).mono ?_
 rintro x w7 ⟨⟨vr, rfl, hr⟩, hb7⟩
 have h7 : Below w5.heap.size w5 w7 := h6.trans (hb7.mono h6.size)
 refine hK _ _ h7 ?_
 clear hK K
 try simp only [Act.put, List.setIfInBounds_toArray, List.set_cons_zero, List.set_cons_succ]
 refine hk_step (by rw [← HO.out]; kernel_rfl) (by rw [← HO.out]; kernel_rfl) (fun K hK => ?_)
 go_simp
 refine (HSp.out _ _ _ _ _ hr (Bb.out.later h7)).mono ?_
 rintro x w8 ⟨⟨vh, vl, rfl, hh, hl⟩, hb8⟩
 have h8 : Below w5.heap.size w5 w8 := h7.trans (hb8.mono h7.size)
 refine hK _ _ h8 ?_
 clear hK K
 try simp only [Act.put, List.setIfInBounds_toArray, List.set_cons_zero, List.set_cons_succ]
 (focus (refine hk_take (v := ?_) (by rw [← HO.out]; kernel_rfl) (by rw [← HO.out]; kernel_rfl) (by rw [← HO.out]; kernel_rfl) (by rw [← HO.out]; kernel_rfl) (fun _ _ _ h => h) ?_ (h8) ?_; rotate_left; focus (intro w9 h9; go_simp; first | done | with_reducible rfl); all_goals skip))
 simp only [Act.put, List.setIfInBounds_toArray, List.set_cons_zero, List.set_cons_succ]
 (focus (refine hk_take (v := ?_) (by rw [← HO.out]; kernel_rfl) (by rw [← HO.out]; kernel_rfl) (by rw [← HO.out]; kernel_rfl) (by rw [← HO.out]; kernel_rfl) (fun _ _ _ h => h) ?_ (h8) ?_; rotate_left; focus (intro w9 h9; go_simp; first | done | with_reducible rfl); all_goals skip))
 simp only [Act.put, List.setIfInBounds_toArray, List.set_cons_zero, List.set_cons_succ]
 (focus (refine hk_take (v := ?_) (by rw [← HO.out]; kernel_rfl) (by rw [← HO.out]; kernel_rfl) (by rw [← HO.out]; kernel_rfl) (by rw [← HO.out]; kernel_rfl) (fun _ _ _ h => h) ?_ (h8) ?_; rotate_left; focus (intro w9 h9; go_simp; first | done | with_reducible rfl); all_goals skip))
 simp only [Act.put, List.setIfInBounds_toArray, List.set_cons_zero, List.set_cons_succ]
 (focus (refine hk_take (v := ?_) (by rw [← HO.out]; kernel_rfl) (by rw [← HO.out]; kernel_rfl) (by rw [← HO.out]; kernel_rfl) (by rw [← HO.out]; kernel_rfl) (fun _ _ _ h => h) ?_ (h8) ?_; rotate_left; focus (intro w9 h9; go_simp; first | done | with_reducible rfl); all_goals skip))
 simp only [Act.put, List.setIfInBounds_toArray, List.set_cons_zero, List.set_cons_succ]
 (focus (refine hk_take (v := ?_) (by rw [← HO.out]; kernel_rfl) (by rw [← HO.out]; kernel_rfl) (by rw [← HO.out]; kernel_rfl) (by rw [← HO.out]; kernel_rfl) (fun _ _ _ h => h) ?_ (h8) ?_; rotate_left; focus (intro w9 h9; go_simp; first | done | with_reducible rfl); all_goals skip))
 simp only [Act.put, List.setIfInBounds_toArray, List.set_cons_zero, List.set_cons_succ]
 refine hk_nil (by rw [← HO.out]; kernel_rfl) ?_
 have E8 : Away (Below W.heap.size W w8) := ⟨E5.out.trans (h8.mono E5.out.size)⟩
 have Bh := Away.mk hh
 have Bl := Away.mk hl
 have Ba8 := Away.mk (Ba.out.later h8)
 have Bb8 := Away.mk (Bb.out.later h8)
 clear hS HO hb6 h6 hm hb7 h7 hr hb8 h8 hh hl KT5 KC5 Ba Bb
 go_wp2_with (refine wpList_load_row rfl 23 _ rfl (w.heap.size + 1) rfl 23 _ (0, 0) _ (CB.out _ E8.out) Tryz.underlying23 rfl HCs.out ?_)
 refine (HPb.out _ _ _ Bh.out).mono ?_
 rintro x w9 ⟨rfl, hb9⟩
 have E9 : Away (Below W.heap.size W w9) := ⟨E8.out.trans (hb9.mono E8.out.size)⟩
 have Ba9 := Away.mk (Ba8.out.later hb9)
 have Bb9 := Away.mk (Bb8.out.later hb9)
 have Bl9 := Away.mk (Bl.out.later hb9)
 clear hb9 Bh Ba8 Bb8 Bl
 go_wp2_with fail
 have KC9 : Away (∀ w' : World, Below w9.heap.size w9 w' → w'.heap[w.heap.size + 1]? = some (.cells C 23 (0, 0))) := ⟨fun w' hb => CB.out w' (E9.out.trans (hb.mono E9.out.size))⟩
 have z1 : ¬ 9223372036854775807 < ρR.size + ρK.size := by omega
 have z2 : (ρR ++ ρK).size = 64 := by rw [ByteArray.size_append]; omega
 obtain ⟨RK, hRK⟩ : ∃ y, ρR ++ ρK = y := ⟨_, rfl⟩
 rw [hRK] at z2
 have z3 : ¬ 9223372036854775807 < RK.size + TR.size := by omega
 have hRK2 : ρR ++ ρK ++ TR = RK ++ TR := by rw [hRK]
 have HRK2 := Away.mk hRK2
 clear hRK2
 refine hk_begin (w9.heap.size) 16 [0, 1, 2, 3, 4, 7, 8, 9, 5, 6, 10, 11, 12, 13, 14, 15] (by kernel_rfl) rfl rfl (by decide) (fun hS ops HO => ?_)
 simp only [List.filterMap_cons, List.filterMap_nil, List.getElem?_cons_succ, List.getElem?_cons_zero]
 refine hk_load (by rw [← HO.out]; kernel_rfl) (by rw [← HO.out]; kernel_rfl) (by rw [← HO.out]; kernel_rfl) (by rw [← HO.out]; kernel_rfl) (fun _ _ _ _ h => h) 23 _ rfl (w.heap.size + 1) rfl 23 C _ KC9.out Tryz.underlying23 rfl HCs.out (hS) ?_
 simp only [Act.put, List.setIfInBounds_toArray, List.set_cons_zero, List.set_cons_succ]
 (focus (refine hk_take (v := ?_) (by rw [← HO.out]; kernel_rfl) (by rw [← HO.out]; kernel_rfl) (by rw [← HO.out]; kernel_rfl) (by rw [← HO.out]; kernel_rfl) (fun _ _ _ h => h) ?_ (hS) ?_; rotate_left; focus (intro w9 h9; go_simp; first | done | with_reducible rfl); all_goals skip))
 simp only [Act.put, List.setIfInBounds_toArray, List.set_cons_zero, List.set_cons_succ]
 (focus (refine hk_take (v := ?_) (by rw [← HO.out]; kernel_rfl) (by rw [← HO.out]; kernel_rfl) (by rw [← HO.out]; kernel_rfl) (by rw [← HO.out]; kernel_rfl) (fun _ _ _ h => h) ?_ (hS) ?_; rotate_left; focus (intro w9 h9; go_simp; first | done | with_reducible rfl); all_goals skip))
 simp only [Act.put, List.setIfInBounds_toArray, List.set_cons_zero, List.set_cons_succ]
 (focus (refine hk_take (v := ?_) (by rw [← HO.out]; kernel_rfl) (by rw [← HO.out]; kernel_rfl) (by rw [← HO.out]; kernel_rfl) (by rw [← HO.out]; kernel_rfl) (fun _ _ _ h => h) ?_ (hS) ?_; rotate_left; focus (intro w9 h9; go_simp; first | done | with_reducible rfl); all_goals skip))
 simp only [Act.put, List.setIfInBounds_toArray, List.set_cons_zero, List.set_cons_succ]
 (focus (refine hk_take (v := ?_) (by rw [← HO.out]; kernel_rfl) (by rw [← HO.out]; kernel_rfl) (by rw [← HO.out]; kernel_rfl) (by rw [← HO.out]; kernel_rfl) (fun _ _ _ h => h) ?_ (hS) ?_; rotate_left; focus (intro w9 h9; go_simp; first | done | with_reducible rfl); all_goals skip))
 simp only [Act.put, List.setIfInBounds_toArray, List.set_cons_zero, List.set_cons_succ]
 (focus (refine hk_take (v := ?_) (by rw [← HO.out]; kernel_rfl) (by rw [← HO.out]; kernel_rfl) (by rw [← HO.out]; kernel_rfl) (by rw [← HO.out]; kernel_rfl) (fun _ _ _ h => h) ?_ (hS) ?_; rotate_left; focus (intro w9 h9; go_simp; first | done | with_reducible rfl); all_goals skip))
 simp only [Act.put, List.setIfInBounds_toArray, List.set_cons_zero, List.set_cons_succ]
 (focus (refine hk_take (v := ?_) (by rw [← HO.out]; kernel_rfl) (by rw [← HO.out]; kernel_rfl) (by rw [← HO.out]; kernel_rfl) (by rw [← HO.out]; kernel_rfl) (fun _ _ _ h => h) ?_ (hS) ?_; rotate_left; focus (intro w9 h9; go_simp; first | done | with_reducible rfl); all_goals skip))
 simp only [Act.put, List.setIfInBounds_toArray, List.set_cons_zero, List.set_cons_succ]
 (focus (refine hk_take (v := ?_) (by rw [← HO.out]; kernel_rfl) (by rw [← HO.out]; kernel_rfl) (by rw [← HO.out]; kernel_rfl) (by rw [← HO.out]; kernel_rfl) (fun _ _ _ h => h) ?_ (hS) ?_; rotate_left; focus (intro w9 h9; go_simp; first | done | with_reducible rfl); all_goals skip))
 simp only [Act.put, List.setIfInBounds_toArray, List.set_cons_zero, List.set_cons_succ]
 refine hk_step (by rw [← HO.out]; kernel_rfl) (by rw [← HO.out]; kernel_rfl) (fun K hK => ?_)
 go_simp
 have b5 := E9.out.trans (hS.mono E9.out.size)
 refine (HS2.out _ (GP.out _ b5) (TB.out _ b5)).mono ?_
 rintro x w10 ⟨rfl, hb10⟩
 have h10 : Below w9.heap.size w9 w10 := hS.trans (hb10.mono hS.size)
 refine hK _ _ h10 ?_
 clear hK K b5
 try simp only [Act.put, List.setIfInBounds_toArray, List.set_cons_zero, List.set_cons_succ]
 (focus (refine hk_take (v := ?_) (by rw [← HO.out]; kernel_rfl) (by rw [← HO.out]; kernel_rfl) (by rw [← HO.out]; kernel_rfl) (by rw [← HO.out]; kernel_rfl) (fun _ _ _ h => h) ?_ (h10) ?_; rotate_left; focus (intro w9 h9; go_simp; first | done | with_reducible rfl); all_goals skip))
 simp only [Act.put, List.setIfInBounds_toArray, List.set_cons_zero, List.set_cons_succ]
 refine hk_step (by rw [← HO.out]; kernel_rfl) (by rw [← HO.out]; kernel_rfl) (fun K hK => ?_)
 go_simp
 have hcl := HSb.out _ _ _ _ _ _ _ (Ba9.out.later h10) (Bb9.out.later h10) (Bl9.out.later h10)
 rw [HRK2.out] at hcl
 refine hcl.mono ?_
 clear hcl
 rintro x w11 ⟨rfl, hb11⟩
 have h11 : Below w9.heap.size w9 w11 := h10.trans (hb11.mono h10.size)
 refine hK _ _ h11 ?_
 clear hK K
 try simp only [Act.put, List.setIfInBounds_toArray, List.set_cons_zero, List.set_cons_succ]
 (focus (refine hk_take (v := ?_) (by rw [← HO.out]; kernel_rfl) (by rw [← HO.out]; kernel_rfl) (by rw [← HO.out]; kernel_rfl) (by rw [← HO.out]; kernel_rfl) (fun _ _ _ h => h) ?_ (h11) ?_; rotate_left; focus (intro w9 h9; go_simp; first | done | with_reducible rfl); all_goals skip))
 simp only [Act.put, List.setIfInBounds_toArray, List.set_cons_zero, List.set_cons_succ]
 (focus (refine hk_take (v := ?_) (by rw [← HO.out]; kernel_rfl) (by rw [← HO.out]; kernel_rfl) (by rw [← HO.out]; kernel_rfl) (by rw [← HO.out]; kernel_rfl) (fun _ _ _ h => h) ?_ (h11) ?_; rotate_left; focus (intro w9 h9; go_simp; first | done | with_reducible rfl); all_goals skip))
 simp only [Act.put, List.setIfInBounds_toArray, List.set_cons_zero, List.set_cons_succ]
 (focus (refine hk_take (v := ?_) (by rw [← HO.out]; kernel_rfl) (by rw [← HO.out]; kernel_rfl) (by rw [← HO.out]; kernel_rfl) (by rw [← HO.out]; kernel_rfl) (fun _ _ _ h => h) ?_ (h11) ?_; rotate_left; focus (intro w9 h9; go_simp; first | done | with_reducible rfl); all_goals skip))
 simp only [Act.put, List.setIfInBounds_toArray, List.set_cons_zero, List.set_cons_succ]
 (focus (refine hk_take (v := ?_) (by rw [← HO.out]; kernel_rfl) (by rw [← HO.out]; kernel_rfl) (by rw [← HO.out]; kernel_rfl) (by rw [← HO.out]; kernel_rfl) (fun _ _ _ h => h) ?_ (h11) ?_; rotate_left; focus (intro w9 h9; go_simp; first | done | with_reducible rfl); all_goals skip))
 simp only [Act.put, List.setIfInBounds_toArray, List.set_cons_zero, List.set_cons_succ]
 (focus (refine hk_take (v := ?_) (by rw [← HO.out]; kernel_rfl) (by rw [← HO.out]; kernel_rfl) (by rw [← HO.out]; kernel_rfl) (by rw [← HO.out]; kernel_rfl) (fun _ _ _ h => h) ?_ (h11) ?_; rotate_left; focus (intro w9 h9; go_simp; first | done | with_reducible rfl); all_goals skip))
 simp only [Act.put, List.setIfInBounds_toArray, List.set_cons_zero, List.set_cons_succ]
 refine hk_nil (by rw [← HO.out]; kernel_rfl) ?_
 have E11 : Away (Below W.heap.size W w11) := ⟨E9.out.trans (h11.mono E9.out.size)⟩
 clear hS HO hb10 h10 hb11 h11 KC9
 go_wp2_with fail
 go_ret3
 exact ⟨rfl, BW.out.trans (E11.out.mono BW.out.size)⟩
end kpr
end Go.Proofs.YtlcafjdehcddcaaGreatDoor
namespace Go.Proofs.YtlcafjdehcddcaaGreatDoor
namespace kkey
open Go Go.RowKit
open arr mem polys fldm pols rbita rbitd rbite rbitf rbitg bitp rsdoc mlkm mlkb rkpb rksb rkse
section
variable (ζ : Nat → Int) (sd : ByteArray) (kn ln : Nat) (e : Int)
end
section
variable (kn ln : Nat) (e : Int) (h : ByteArray) (a b l : Nat → Nat → Int) (hh : h.size = 128)
include hh
theorem sk_rd1 (i : Nat) (hi : i < ln) : rdU (skB kn ln e h a b l) 128 (lb (e + e).toNat) i = rdU (laidS h a e e ln) 128 (lb (e + e).toNat) i := by
 have s1 := laidS_size h a e e ln
 have s2 := laidS_size (laidS h a e e ln) b e e kn
 unfold skB
 generalize laidS h a e e ln = L1 at s1 s2 ⊢
 generalize hL2 : laidS L1 b e e kn = L2 at s2 ⊢
 rw [laidS, rd_left L2 _ kn 128 _ i ln hi (by omega), ← hL2, laidS, rd_left L1 _ kn 128 _ i ln hi (by omega)]
theorem sk_rd2 (i : Nat) (hi : i < kn) : rdU (skB kn ln e h a b l) (128 + 32 * lb (e + e).toNat * ln) (lb (e + e).toNat) i = rdU (laidS (laidS h a e e ln) b e e kn) (128 + 32 * lb (e + e).toNat * ln) (lb (e + e).toNat) i := by
 have s1 := laidS_size h a e e ln
 have s2 := laidS_size (laidS h a e e ln) b e e kn
 unfold skB
 generalize laidS h a e e ln = L1 at s1 s2 ⊢
 generalize laidS L1 b e e kn = L2 at s2 ⊢
 rw [laidS, rd_left L2 _ kn _ _ i kn hi (by omega)]
variable (he : e = 2 ∨ e = 4) (ha : ∀ i, i < ln → ins (a i) e e) (hb : ∀ i, i < kn → ins (b i) e e) (hl : ∀ i, i < kn → ins (l i) 4095 4096)
include he ha hb hl
theorem sk_ok : okK (skB kn ln e h a b l) kn ln e := by
 refine ⟨fun i hi => ?_, fun i hi => ?_, ?_⟩
 ·rw [sk_rd1 kn ln e h a b l hh i hi, ← hh]
  exact ok_laid h a e e ln (by omega) ha i hi
 ·rw [sk_rd2 kn ln e h a b l hh i hi, ← hh, ← laidS_size h a e e ln]
  exact ok_laid (laidS h a e e ln) b e e kn (by omega) hb i hi
 ·have h5 := ok_laid (laidS (laidS h a e e ln) b e e kn) l 4095 4096 kn (by decide) hl
  rw [laidS_size, laidS_size, hh, lb_low] at h5
  exact h5
variable (ra : ∀ i k, 0 ≤ a i k ∧ a i k < 8380417) (rb : ∀ i k, 0 ≤ b i k ∧ b i k < 8380417) (rl : ∀ i k, 0 ≤ l i k ∧ l i k < 8380417)
include ra rb rl
end
end kkey
end Go.Proofs.YtlcafjdehcddcaaGreatDoor
namespace Go.Proofs.YtlcafjdehcddcaaGreatDoor
namespace kaw
open Go Go.RowKit
open rbita mem arr tabv built kturn rndm mlkm mlkd tabm tabt
theorem zt_doc : nthere.ZT TA (fun k => ((zt k : Nat) : Int)) := ⟨ht_doc, ta_size, ta_one⟩
theorem latt4 : latt ((1 : Nat) : Int) ((1 : Nat) : Int) 2 20 131072 95232 60 128 = true := by decide +kernel
theorem szs_1 : rksz.szs 4 4 2 39 131072 95232 80 128 = .tuple #[.int .i64 1312, .int .i64 2560, .int .i64 2420] := by
 have h1 : latt 4 4 2 39 131072 95232 80 128 = true := by decide +kernel
 have h2 : sz1 4 = 1312 := by decide +kernel
 have h3 : sz2 4 4 2 = 2560 := by decide +kernel
 have h4 : sz3 4 4 131072 80 128 = 2420 := by decide +kernel
 unfold rksz.szs
 rw [if_pos h1, h2, h3, h4]
theorem awake_any (w : World) (hP : Gp w) : Calls Tryz.prog 5 #[] w fun e w' => e = .returned (.bool true) ∧ Below w.heap.size w w' := by
 refine awake12.awake_any _ _ w hP ?_ ?_ (fun w1 => ?_) (fun w1 h1 => kpr.pair_any _ 1 1 2 20 131072 95232 60 128 awake12.d32 w1 kecd.kt_doc h1 zt_doc latt4 rfl)
 ·rw [pPk_size]
 ·unfold pSk
  rw [skB_size, pHead_size, show lb ((2 : Int) + 2).toNat = 3 by decide +kernel]
 ·have h := ksz.sizes_any 4 4 2 39 131072 95232 80 128 w1
  rw [szs_1] at h
  exact h
end kaw
namespace kcon
set_option linter.unusedSimpArgs false
open Go Go.RowKit
open arr mem polys polt pols rbita rbite saml samr samc rsdoc kturn mlkm mlkb rksz rkpb rksb rkse rkrw mlkd kkey kaw tabm tabt tabv
open rndm (latt)
def ζd : Nat → Int := fun k => ((zt k : Nat) : Int) % 8380417
structure TH (w : World) (g g1 c1 g2 c2 g3 c3 ln kn : Nat) (p q l : Nat → Nat → Int) : Prop where
 lt : g < w.heap.size
 x0 : w.cell? ⟨g, 0, none⟩ = some (.slice (some ⟨g1, 0, none⟩) ln c1)
 x1 : w.cell? ⟨g, 1, none⟩ = some (.slice (some ⟨g2, 0, none⟩) kn c2)
 x2 : w.cell? ⟨g, 2, none⟩ = some (.slice (some ⟨g3, 0, none⟩) kn c3)
 h0 : Holds w 0 (.slice (some ⟨g1, 0, none⟩) ln c1) ln p
 h1 : Holds w 0 (.slice (some ⟨g2, 0, none⟩) kn c2) kn q
 h2 : Holds w 0 (.slice (some ⟨g3, 0, none⟩) kn c3) kn l
theorem TH.later {w w' : World} {g g1 c1 g2 c2 g3 c3 ln kn : Nat} {p q l : Nat → Nat → Int} (h : TH w g g1 c1 g2 c2 g3 c3 ln kn p q l) (hb : Below w.heap.size w w') : TH w' g g1 c1 g2 c2 g3 c3 ln kn p q l :=
 ⟨Nat.lt_of_lt_of_le h.lt hb.size, (hb.cell (p := ⟨g, 0, none⟩) h.lt).trans h.x0, (hb.cell (p := ⟨g, 1, none⟩) h.lt).trans h.x1, (hb.cell (p := ⟨g, 2, none⟩) h.lt).trans h.x2, h.h0.later hb, h.h1.later hb, h.h2.later hb⟩
section
variable (kn ln : Nat) (e t a b o s : Int) (sd : ByteArray) (h : latt (kn : Int) (ln : Int) e t a b o s = true)
include h
theorem pair (w : World) (hP : Gp w) (hsd : sd.size = 32) : Calls Tryz.prog 9 #[.agg TA, .agg #[.int .i64 (kn : Int), .int .i64 (ln : Int), .int .i64 e, .int .i64 t, .int .i64 a, .int .i64 b, .int .i64 o, .int .i64 s], .string sd] w fun x w' => x = .returned (.tuple #[.string (pPk ζd sd kn ln e), .string (pSk ζd sd kn ln e), .int .i64 0]) ∧ Below w.heap.size w w' := kpr.pair_any _ kn ln e t a b o s sd w kecd.kt_doc hP zt_doc h hsd
end
end kcon
end Go.Proofs.YtlcafjdehcddcaaGreatDoor
