/-
  What the document's own take of layer 12 returns: polynomials of numbers from -low to high, out of bytes from a place on. Conditions: the bytes are there; as each theorem says. What the document's own Public of layer 12 returns. Conditions: as each theorem says. What the document's own Secret of layer 12 returns. Conditions: as each theorem says.
-/
import Derived.Test.YtlcafjdehcddcaaGreatDoorMlk
import Derived.Test.YtlcafjdehcddcaaGreatDoorRBb
import Derived.Test.YtlcafjdehcddcaaGreatDoorPuA
import Derived.Test.YtlcafjdehcddcaaGreatDoorRKz
import Derived.OwnWalk
import Derived.Great.BuildSlice
namespace Go.Proofs.YtlcafjdehcddcaaGreatDoor
namespace rktk
set_option linter.unusedSimpArgs false
open Go Go.RowKit
open arr mem stil polys polt pols rbita rbitb rbitd rbite rbitf rbitg bitp rndm saml mlkm mlkb
theorem unsigned_any (s : ByteArray) (low high : Int) (w : World) (h1 : 0 ≤ low) (h2 : 1 ≤ high) (h3 : low < 4190208) (h4 : high < 4190208) (hs : s.size = 32 * lb (low + high).toNat) :
 Calls Tryz.prog 106 #[.string s, .int .i64 low, .int .i64 high] w fun e w' => e = .returned (if inb (up s (lb (low + high).toNat)) (low + high) then .tuple #[.agg (FL .i64 256 (un (up s (lb (low + high).toNat)) high)), .int .i64 0] else .tuple #[.agg (FL .i64 256 fun _ => 0), .int .i64 3]) ∧ Below w.heap.size w w' := by
 have hu := fun w1 => rbitf.unpack_any s (low + high) w1 (by omega) (by omega) hs
 by_cases hin : inb (up s (lb (low + high).toNat)) (low + high)
 ·simp only [if_pos hin] at hu ⊢
  exact rbitg.unsigned_good s low high w _ h1 h2 h3 h4 hin hu
 ·simp only [if_neg hin] at hu ⊢
  exact rbitg.unsigned_err s low high w 3 h1 h2 h3 h4 (by decide) hu
def TK (w : World) (B : Nat) (s : ByteArray) (p m : Nat) (low high : Int) (x : Value) : Prop :=
 (okU s p (lb (low + high).toNat) (low + high) m ∧ ∃ v, x = .tuple #[v, .int .i64 ((p + 32 * lb (low + high).toNat * m : Nat) : Int), .bool true] ∧ w.ownsRow B 25 256 v m (cq (rdS s p (lb (low + high).toNat) high) m))
 ∨ (¬ okU s p (lb (low + high).toNat) (low + high) m ∧ ∃ z : Int, x = .tuple #[.slice none 0 0, .int .i64 z, .bool false])
set_option maxRecDepth 100000 in
set_option maxHeartbeats 4000000 in
theorem take_any (s : ByteArray) (p m : Nat) (low high : Int) (w : World) (hm : m ≤ 8) (h1 : 0 ≤ low) (h2 : 1 ≤ high) (h3 : low < 4190208) (h4 : high < 4190208) (hs : p + 32 * lb (low + high).toNat * m ≤ s.size) (hs2 : s.size ≤ 100000) :
 Calls Tryz.prog 69 #[.string s, .int .i64 (p : Int), .int .i64 (m : Int), .int .i64 low, .int .i64 high] w fun x w' => (∃ v, x = .returned v ∧ TK w' w.heap.size s p m low high v) ∧ Below w.heap.size w w' := by
 obtain ⟨i0, hi, hz0, hz1, hz2⟩ := rbitb.parts infoPoly
 obtain ⟨hz, hsize⟩ := zero_of_info polt.infoP
 obtain ⟨z, HZ⟩ := ex_eq (FL .i64 256 fun _ => 0)
 rw [HZ.out] at hz hz0
 have HI := Away.mk (And.intro hi (And.intro hz0 (And.intro hz1 hz2)))
 have Hzs : Away (z.size = 256) := ⟨by rw [← HZ.out]; exact fl_size _ _ _⟩
 have Hzc : Away ((Value.agg z).cells.size = 256) := ⟨Hzs.out⟩
 have Hsize := Away.mk hsize
 have hb := rbitf.lb_small (low + high) (by omega)
 have HL : Away (∀ w1 : World, Calls Tryz.prog 36 #[.int .i64 (low + high)] w1 fun e w' => e = .returned (.int .i64 (lb (low + high).toNat : Nat)) ∧ w' = w1) := ⟨fun w1 => rbita.long_any (low + high) (by omega) w1⟩
 have HU : Away (∀ (i : Nat), i < m → ∀ w1 : World, Calls Tryz.prog 106 #[.string (s.extract (p + 32 * lb (low + high).toNat * i) (p + 32 * lb (low + high).toNat * i + 32 * lb (low + high).toNat)), .int .i64 low, .int .i64 high] w1 fun e w' => e = .returned (if inb (rdU s p (lb (low + high).toNat) i) (low + high) then .tuple #[.agg (FL .i64 256 (rdS s p (lb (low + high).toNat) high i)), .int .i64 0] else .tuple #[.agg (FL .i64 256 fun _ => 0), .int .i64 3]) ∧ Below w1.heap.size w1 w') := ⟨fun i hi w1 => unsigned_any _ low high w1 h1 h2 h3 h4 (piece_size s p _ i m hi hs)⟩
 have fs : IntKind.i64.wrap (low + high) = low + high := by rw [IntKind.wrap_i64]; omega
 unfold TK
 obtain ⟨W, hW⟩ : ∃ x, lb (low + high).toNat = x := ⟨_, rfl⟩
 rw [hW] at HL HU hs hb ⊢
 have fw : IntKind.i64.wrap (32 * (W : Int)) = ((32 * W : Nat) : Int) := by rw [IntKind.wrap_i64]; omega
 obtain ⟨S, hS⟩ : ∃ x, 32 * W = x := ⟨_, rfl⟩
 obtain ⟨R, HR⟩ := ex_eq (rdS s p W high)
 obtain ⟨U, HUU⟩ := ex_eq (rdU s p W)
 rw [hS] at HU hs fw ⊢
 simp only [HR.out, HUU.out] at HU
 have okE : Away (okU s p W (low + high) m ↔ ∀ i, i < m → inb (U i) (low + high)) := ⟨by unfold okU; rw [HUU.out]⟩
 rw [HR.out]
 rw [okE.out]
 have Hs := Away.mk hs
 have Hs2 := Away.mk hs2
 have Hm := Away.mk hm
 have hS8 : S ≤ 800 := by omega
 clear hi hz0 hz1 hz2 hsize h1 h2 h3 h4 hs hs2 hW hb HR HUU okE
 go_enter Tryz.func69, Tryz.ntmps69
 go_wp2_with fail
 refine (HL.out _).mono ?_
 rintro e w1 ⟨rfl, hw⟩
 rw [hw]
 clear hw w1
 go_wp2_with fail
 go_loopw [1, 14, 23] (fun av lv iv wr => ∃ r : Nat, r ≤ m ∧ iv = .int .i64 (r : Int) ∧ av = .int .i64 ((p + S * r : Nat) : Int) ∧ Away (∀ i, i < r → inb (U i) (low + high)) ∧ Away (wr.ownsRow w.heap.size 25 256 lv r (cq R r)) ∧ Away (Below w.heap.size w wr)) (fun _ _ iv _ => m - (intOf iv).toNat)
 case atStart => exact ⟨0, Nat.zero_le _, rfl, by rw [Nat.mul_zero, Nat.add_zero], ⟨fun i hi => by omega⟩, ⟨⟨rfl, Or.inl ⟨rfl, rfl⟩⟩⟩, ⟨Below.refl _ _⟩⟩
 case round =>
  obtain ⟨r, hr, rfl, rfl, Hin, Oy, Hb⟩ := hrel
  by_cases hlt : r < m
  ·have hrz : (r : Int) < (m : Int) := by omega
   have hr8 : r < 8 := by have := Hm.out; omega
   have hmul : S * (r + 1) ≤ S * m := Nat.mul_le_mul_left _ hlt
   rw [Nat.mul_succ] at hmul
   obtain ⟨q, hq⟩ : ∃ q, p + S * r = q := ⟨_, rfl⟩
   have hqs : q + S ≤ s.size := by have := Hs.out; omega
   have hqz : q + S ≤ 100000 := by have := Hs2.out; omega
   have fq : IntKind.i64.wrap ((q : Int) + (S : Int)) = ((q + S : Nat) : Int) := by rw [IntKind.wrap_i64]; omega
   have hnext : Away (q + S = p + S * (r + 1)) := ⟨by rw [Nat.mul_succ]; omega⟩
   have HUr := HU.out r hlt
   rw [hq] at HUr ⊢
   obtain ⟨X, HX⟩ := ex_eq (s.extract q (q + S))
   have hex := HX.out
   rw [HX.out] at HUr
   have Hlt := Away.mk hlt
   have Hmul := Away.mk hmul
   clear hmul
   by_cases hok : inb (U r) (low + high)
   ·rw [if_pos hok] at HUr
    have Hin2 : Away (∀ i, i < r + 1 → inb (U i) (low + high)) := ⟨fun i hi => by
     by_cases e : i = r
     ·rw [e]; exact hok
     ·exact Hin.out i (by omega)⟩
    obtain ⟨F, HF⟩ := ex_eq (FL .i64 256 (R r))
    rw [HF.out] at HUr
    have HUr := Away.mk HUr
    have Fs : Away (F.size = 256) := ⟨by rw [← HF.out]; exact fl_size _ _ _⟩
    have Fo : Away (F.all (·.oneCell') = true) := ⟨by rw [← HF.out]; exact fl_one _ _ _⟩
    have Fi : Away ((Tryz.prog.info? 25).map (·.size) = some F.size) := ⟨by rw [Fs.out]; exact Hsize.out⟩
    have Fz : Away (z.size = F.size) := ⟨by rw [Hzs.out, Fs.out]⟩
    clear hok
    go_wp2_with fail
    refine (HUr.out _).mono ?_
    rintro e w3 ⟨rfl, hb3⟩
    obtain ⟨W4, hW4⟩ : ∃ x, w3.alloc (.cells F 25) = x := ⟨_, rfl⟩
    obtain ⟨r4, hs4, b4⟩ := one hW4
    have R4 := Away.mk r4
    have D4 : Away (Below wr.heap.size wr W4) := ⟨hb3.trans (b4.mono hb3.size)⟩
    have B4 : Away (Below w.heap.size w W4) := ⟨Hb.out.trans (D4.out.mono Hb.out.size)⟩
    have O4 : Away (W4.ownsRow w.heap.size 25 256 u14 r (cq R r)) := ⟨own_later Oy.out D4.out⟩
    have hws : w.heap.size ≤ W4.heap.size := B4.out.size
    have HW4 := Away.mk hW4
    clear hb3 hW4 r4 hs4 b4
    go_wp2_with (first
     | (refine wpList_store_new rfl 25 _ _ rfl F rfl rfl Fi.out (by exact Fz.out) Fo.out rfl ?_)
     | (rw [HW4.out])
     | (refine wpList_load_row rfl 25 _ rfl w3.heap.size rfl 25 F (0, 0) _ R4.out Tryz.underlying25 rfl Fi.out ?_))
    refine wp_buildSlice 45 25 1 _ rfl F i0 (.agg z) Tryz.underlying45 HI.out.1 HI.out.2.1 (by rw [HI.out.2.2.1]; decide) (by rw [HI.out.2.2.1]; decide) ?hf ?_
    case hf =>
     go_simp
     exact ⟨⟨decide_eq_false (fun h => h (Fs.out.trans HI.out.2.2.1.symm)), by rw [Fs.out, HI.out.2.2.1]; exact Nat.le_refl _⟩, fold_one F _ Fs.out (by simp [HI.out.2.2.1])⟩
    go_wp2_with (at_builtin; refine wpList_append_own _ rfl _ _ 45 rfl w.heap.size 25 i0 (.agg z) 256 2048 Tryz.underlying45 HI.out.1 HI.out.2.1 HI.out.2.2.1 HI.out.2.2.2 Hzc.out (by decide) _ _ _ rfl (O4.out.alloc _) ⟨W4.heap.size, 0, none⟩ 1 1 F.toList rfl (by rw [Array.length_toList, Fs.out]) (fun j u hu => cell_at_new hu) (fun u hu => all_one Fo.out u hu) (by unfold maxLen; omega) (by omega) (by rw [size_alloc]; omega) ?_)
    intro v' w8 hown' hgrow _
    have hb8 : Below w.heap.size W4 w8 := ((Below.refl w.heap.size W4).alloc hws _).grown hgrow (by rw [size_alloc]; omega) (fun k hk => (O4.out.lt k hk).1)
    have B8 : Away (Below w.heap.size w w8) := ⟨B4.out.trans hb8⟩
    have O8 : Away (w8.ownsRow w.heap.size 25 256 v' (r + 1) (cq R (r + 1))) := ⟨by rw [cq, HF.out]; exact hown'⟩
    clear hown' hgrow hb8
    go_wp2_with fail
    go_roundw
    case rel => exact ⟨r + 1, by have := Hlt.out; omega, by go_num, by rw [← hnext.out, Int.natCast_add], Hin2, O8, B8⟩
    case measure => have := Hlt.out; simp [intOf]; omega
   ·rw [if_neg hok, HZ.out] at HUr
    have HUr := Away.mk HUr
    have Zi : Away ((Tryz.prog.info? 25).map (·.size) = some z.size) := ⟨by rw [Hzs.out]; exact Hsize.out⟩
    have Zo : Away (z.all (·.oneCell') = true) := ⟨by rw [← HZ.out]; exact fl_one _ _ _⟩
    have Hno : Away (¬ ∀ i, i < m → inb (U i) (low + high)) := ⟨fun h => hok (h r Hlt.out)⟩
    clear hok
    go_wp2_with fail
    refine (HUr.out _).mono ?_
    rintro e w3 ⟨rfl, hb3⟩
    obtain ⟨W4, hW4⟩ : ∃ x, w3.alloc (.cells z 25) = x := ⟨_, rfl⟩
    obtain ⟨r4, hs4, b4⟩ := one hW4
    have B4 : Away (Below w.heap.size w W4) := ⟨Hb.out.trans ((hb3.trans (b4.mono hb3.size)).mono Hb.out.size)⟩
    have HW4 := Away.mk hW4
    clear hb3 hW4 r4 hs4 b4
    go_wp2_with (first
     | (refine wpList_store_new rfl 25 _ _ rfl z rfl rfl Zi.out rfl Zo.out rfl ?_)
     | (rw [HW4.out]))
    go_ret3
    exact ⟨⟨_, rfl, Or.inr ⟨Hno.out, _, rfl⟩⟩, B4.out⟩
  ·obtain rfl : r = m := by omega
   go_wp2_with fail
   go_ret3
   exact ⟨⟨_, rfl, Or.inl ⟨Hin.out, _, rfl, Oy.out⟩⟩, Hb.out⟩
end rktk
namespace rkpu
set_option linter.unusedSimpArgs false
open Go Go.RowKit
open arr mem stil polys polt pols rbita rbitb rbitd rbitf rndm saml mlkm mlkb rksz
set_option maxRecDepth 100000 in
set_option maxHeartbeats 4000000 in
theorem public_bad (k l e t a b o s : Int) (x : ByteArray) (w : World) (h : latt k l e t a b o s = false) :
 Calls Tryz.prog 21 #[.agg #[.int .i64 k, .int .i64 l, .int .i64 e, .int .i64 t, .int .i64 a, .int .i64 b, .int .i64 o, .int .i64 s], .string x] w fun r w' => r = .returned (.tuple #[.string ⟨#[]⟩, .slice none 0 0, .int .i64 1]) ∧ Below w.heap.size w w' := by
 have HS : Away (∀ w1 : World, Calls Tryz.prog 8 #[.agg #[.int .i64 k, .int .i64 l, .int .i64 e, .int .i64 t, .int .i64 a, .int .i64 b, .int .i64 o, .int .i64 s]] w1 fun e0 w' => e0 = .returned (.tuple #[.int .i64 0, .int .i64 0, .int .i64 0]) ∧ Below w1.heap.size w1 w') := ⟨fun w1 => by
  have h1 := sizes_any k l e t a b o s w1
  unfold szs at h1
  rw [h, if_neg (by decide)] at h1
  exact h1⟩
 obtain ⟨C, HC⟩ := ex_eq (#[.int .i64 k, .int .i64 l, .int .i64 e, .int .i64 t, .int .i64 a, .int .i64 b, .int .i64 o, .int .i64 s] : Array Value)
 rw [HC.out] at HS ⊢
 have HCs : Away ((Tryz.prog.info? 23).map (·.size) = some C.size) := ⟨by rw [← HC.out]; kernel_rfl⟩
 obtain ⟨W, hW⟩ : ∃ x, w.alloc (.cells C 23) = x := ⟨_, rfl⟩
 obtain ⟨r0, hWs, b0⟩ := one hW
 have L0 : Away (W.heap[w.heap.size]? = some (.cells C 23 (0, 0))) := ⟨r0⟩
 have BW := Away.mk b0
 have HW := Away.mk hW
 clear hW r0 hWs b0 h
 go_enter Tryz.func21, Tryz.ntmps21
 go_wp2_with (first
  | (rw [HW.out])
  | (refine wpList_load_row rfl 23 _ rfl w.heap.size rfl 23 _ (0, 0) _ L0.out Tryz.underlying23 rfl HCs.out ?_))
 refine (HS.out _).mono ?_
 rintro x u1 ⟨rfl, hb1⟩
 have B1 : Away (Below w.heap.size w u1) := ⟨BW.out.trans (hb1.mono BW.out.size)⟩
 clear hb1
 go_wp2_with fail
 go_ret3
 exact ⟨rfl, B1.out⟩
set_option maxRecDepth 100000 in
set_option maxHeartbeats 4000000 in
theorem public_len (k l e t a b o s : Int) (x : ByteArray) (w : World) (h : latt k l e t a b o s = true) (hx : (x.size : Int) ≠ sz1 k) :
 Calls Tryz.prog 21 #[.agg #[.int .i64 k, .int .i64 l, .int .i64 e, .int .i64 t, .int .i64 a, .int .i64 b, .int .i64 o, .int .i64 s], .string x] w fun r w' => r = .returned (.tuple #[.string ⟨#[]⟩, .slice none 0 0, .int .i64 3]) ∧ Below w.heap.size w w' := by
 obtain ⟨hk, -⟩ := latt_all h
 have hn0 : (sz1 k == 0) = false := by unfold sz1; simp; omega
 have hn1 : ((x.size : Int) != sz1 k) = true := by simpa using hx
 have HS : Away (∀ w1 : World, Calls Tryz.prog 8 #[.agg #[.int .i64 k, .int .i64 l, .int .i64 e, .int .i64 t, .int .i64 a, .int .i64 b, .int .i64 o, .int .i64 s]] w1 fun e0 w' => e0 = .returned (.tuple #[.int .i64 (sz1 k), .int .i64 (sz2 k l e), .int .i64 (sz3 k l a o s)]) ∧ Below w1.heap.size w1 w') := ⟨fun w1 => by
  have h1 := sizes_any k l e t a b o s w1
  unfold szs at h1
  rw [if_pos h] at h1
  exact h1⟩
 obtain ⟨C, HC⟩ := ex_eq (#[.int .i64 k, .int .i64 l, .int .i64 e, .int .i64 t, .int .i64 a, .int .i64 b, .int .i64 o, .int .i64 s] : Array Value)
 rw [HC.out] at HS ⊢
 have HCs : Away ((Tryz.prog.info? 23).map (·.size) = some C.size) := ⟨by rw [← HC.out]; kernel_rfl⟩
 obtain ⟨n1, en1⟩ : ∃ y, sz1 k = y := ⟨_, rfl⟩
 obtain ⟨n2, en2⟩ : ∃ y, sz2 k l e = y := ⟨_, rfl⟩
 obtain ⟨n3, en3⟩ : ∃ y, sz3 k l a o s = y := ⟨_, rfl⟩
 rw [en1, en2, en3] at HS
 rw [en1] at hn0 hn1
 obtain ⟨W, hW⟩ : ∃ x, w.alloc (.cells C 23) = x := ⟨_, rfl⟩
 obtain ⟨r0, hWs, b0⟩ := one hW
 have L0 : Away (W.heap[w.heap.size]? = some (.cells C 23 (0, 0))) := ⟨r0⟩
 have BW := Away.mk b0
 have HW := Away.mk hW
 clear hW r0 hWs b0 h hx hk en1 en2 en3
 go_enter Tryz.func21, Tryz.ntmps21
 go_wp2_with (first
  | (rw [HW.out])
  | (refine wpList_load_row rfl 23 _ rfl w.heap.size rfl 23 _ (0, 0) _ L0.out Tryz.underlying23 rfl HCs.out ?_))
 refine (HS.out _).mono ?_
 rintro x u1 ⟨rfl, hb1⟩
 have B1 : Away (Below w.heap.size w u1) := ⟨BW.out.trans (hb1.mono BW.out.size)⟩
 clear hb1
 go_wp2_with fail
 go_ret3
 exact ⟨rfl, B1.out⟩
set_option maxRecDepth 100000 in
set_option maxHeartbeats 4000000 in
theorem public_good (kn : Nat) (l e t a b o s : Int) (x : ByteArray) (w : World) (h : latt (kn : Int) l e t a b o s = true) (hx : x.size = 32 + 320 * kn) :
 Calls Tryz.prog 21 #[.agg #[.int .i64 (kn : Int), .int .i64 l, .int .i64 e, .int .i64 t, .int .i64 a, .int .i64 b, .int .i64 o, .int .i64 s], .string x] w fun r w' => (∃ v, r = .returned (.tuple #[.string (x.extract 0 32), v, .int .i64 0]) ∧ w'.ownsRow w.heap.size 25 256 v kn (cq (rdU x 32 10) kn)) ∧ Below w.heap.size w w' := by
 obtain ⟨hk, -⟩ := latt_all h
 have hk : 1 ≤ kn ∧ kn ≤ 8 := by omega
 have hn0 : (sz1 kn == 0) = false := by unfold sz1; simp; omega
 have hxz : (x.size : Int) = sz1 kn := by unfold sz1; omega
 have hn1 : ((x.size : Int) != sz1 kn) = false := by rw [hxz]; simp
 obtain ⟨i0, hi, hz0, hz1, hz2⟩ := rbitb.parts infoPoly
 obtain ⟨hz, hsize⟩ := zero_of_info polt.infoP
 obtain ⟨z, HZ⟩ := ex_eq (FL .i64 256 fun _ => 0)
 rw [HZ.out] at hz hz0
 have HI := Away.mk (And.intro hi (And.intro hz0 (And.intro hz1 hz2)))
 have Hzs : Away (z.size = 256) := ⟨by rw [← HZ.out]; exact fl_size _ _ _⟩
 have Hzc : Away ((Value.agg z).cells.size = 256) := ⟨Hzs.out⟩
 have Hsize := Away.mk hsize
 have HS : Away (∀ w1 : World, Calls Tryz.prog 8 #[.agg #[.int .i64 (kn : Int), .int .i64 l, .int .i64 e, .int .i64 t, .int .i64 a, .int .i64 b, .int .i64 o, .int .i64 s]] w1 fun e0 w' => e0 = .returned (.tuple #[.int .i64 (sz1 kn), .int .i64 (sz2 kn l e), .int .i64 (sz3 kn l a o s)]) ∧ Below w1.heap.size w1 w') := ⟨fun w1 => by
  have h1 := sizes_any kn l e t a b o s w1
  unfold szs at h1
  rw [if_pos h] at h1
  exact h1⟩
 have HU : Away (∀ (i : Nat), i < kn → ∀ w1 : World, Calls Tryz.prog 66 #[.string (x.extract (32 + 320 * i) (352 + 320 * i)), .int .i64 1023] w1 fun e w' => e = .returned (.tuple #[.agg (FL .i64 256 (rdU x 32 10 i)), .int .i64 0]) ∧ Below w1.heap.size w1 w') := ⟨fun i hi w1 => by
  have hsz : (x.extract (32 + 320 * i) (352 + 320 * i)).size = 320 := by rw [size_extract _ _ _ (by omega) (by omega)]; omega
  have h1 := rbitf.unpack_any (x.extract (32 + 320 * i) (352 + 320 * i)) 1023 w1 (by decide) (by decide) (by rw [hsz, lb_1023])
  rw [lb_1023, if_pos (show inb (up (x.extract (32 + 320 * i) (352 + 320 * i)) 10) 1023 from fun j _ => by
   have := rsdoc.up_lt (x.extract (32 + 320 * i) (352 + 320 * i)) 10 j
   omega)] at h1
  unfold rdU
  rw [show 32 + 32 * 10 * i + 32 * 10 = 352 + 320 * i by omega, show 32 + 32 * 10 * i = 32 + 320 * i by omega]
  exact h1⟩
 obtain ⟨R, HR⟩ := ex_eq (rdU x 32 10)
 simp only [HR.out] at HU
 rw [HR.out]
 obtain ⟨C, HC⟩ := ex_eq (#[.int .i64 (kn : Int), .int .i64 l, .int .i64 e, .int .i64 t, .int .i64 a, .int .i64 b, .int .i64 o, .int .i64 s] : Array Value)
 rw [HC.out] at HS ⊢
 have HCs : Away ((Tryz.prog.info? 23).map (·.size) = some C.size) := ⟨by rw [← HC.out]; kernel_rfl⟩
 obtain ⟨n1, en1⟩ : ∃ y, sz1 kn = y := ⟨_, rfl⟩
 obtain ⟨n2, en2⟩ : ∃ y, sz2 kn l e = y := ⟨_, rfl⟩
 obtain ⟨n3, en3⟩ : ∃ y, sz3 kn l a o s = y := ⟨_, rfl⟩
 rw [en1, en2, en3] at HS
 rw [en1] at hn0 hn1
 obtain ⟨W, hW⟩ : ∃ x, w.alloc (.cells C 23) = x := ⟨_, rfl⟩
 obtain ⟨r0, hWs, b0⟩ := one hW
 have L0 : Away (W.heap[w.heap.size]? = some (.cells C 23 (0, 0))) := ⟨r0⟩
 have BW := Away.mk b0
 have HWs := Away.mk hWs
 have HW := Away.mk hW
 have Hk := Away.mk hk
 have Hx := Away.mk hx
 clear hW r0 hWs b0 h hk en1 en2 en3 hxz hi hz0 hz1 hz2 hsize HR hx
 go_enter Tryz.func21, Tryz.ntmps21
 go_wp2_with (first
  | (rw [HW.out])
  | (refine wpList_load_row rfl 23 _ rfl w.heap.size rfl 23 _ (0, 0) _ L0.out Tryz.underlying23 rfl HCs.out ?_))
 refine (HS.out _).mono ?_
 rintro r u1 ⟨rfl, hb1⟩
 have B1 : Away (Below w.heap.size w u1) := ⟨BW.out.trans (hb1.mono BW.out.size)⟩
 have cK : u1.cell? ⟨w.heap.size, 0, none⟩ = some (.int .i64 (kn : Int)) := cell_at ((hb1.block _ (by rw [HWs.out]; omega)).trans L0.out) (by rw [← HC.out]; rfl)
 clear hb1
 go_wp2_with fail
 clear cK
 go_loopw [10, 28] (fun lv iv wr => ∃ r : Nat, r ≤ kn ∧ iv = .int .i64 (r : Int) ∧ Away (wr.ownsRow w.heap.size 25 256 lv r (cq R r)) ∧ Away (Below w.heap.size w wr)) (fun _ iv _ => kn - (intOf iv).toNat)
 case atStart => exact ⟨0, Nat.zero_le _, rfl, ⟨⟨rfl, Or.inl ⟨rfl, rfl⟩⟩⟩, B1⟩
 case round =>
  obtain ⟨r, hr, rfl, Oy, Hb⟩ := hrel
  by_cases hlt : r < kn
  ·have hrz : (r : Int) < (kn : Int) := by omega
   have hr8 : r < 8 := by have := Hk.out; omega
   have hxs := Hx.out
   have f1 : IntKind.i64.wrap (320 * (r : Int)) = ((320 * r : Nat) : Int) := by rw [IntKind.wrap_i64]; omega
   obtain ⟨q, hq⟩ : ∃ q, 320 * r = q := ⟨_, rfl⟩
   rw [hq] at f1
   have hqs : q + 320 ≤ 320 * kn := by omega
   have hqx : 352 + q ≤ x.size := by omega
   have hqz : ((352 + q : Nat) : Int) ≤ (x.size : Int) := by omega
   clear hxs
   have hq8 : q ≤ 2560 := by omega
   have f2 : IntKind.i64.wrap (32 + (q : Int)) = ((32 + q : Nat) : Int) := by rw [IntKind.wrap_i64]; omega
   have f3 : IntKind.i64.wrap (352 + (q : Int)) = ((352 + q : Nat) : Int) := by rw [IntKind.wrap_i64]; omega
   have HUr := HU.out r hlt
   rw [hq] at HUr
   obtain ⟨X, HX⟩ := ex_eq (x.extract (32 + q) (352 + q))
   have hex := HX.out
   rw [HX.out] at HUr
   obtain ⟨F, HF⟩ := ex_eq (FL .i64 256 (R r))
   rw [HF.out] at HUr
   have HUr := Away.mk HUr
   have Fs : Away (F.size = 256) := ⟨by rw [← HF.out]; exact fl_size _ _ _⟩
   have Fo : Away (F.all (·.oneCell') = true) := ⟨by rw [← HF.out]; exact fl_one _ _ _⟩
   have Fi : Away ((Tryz.prog.info? 25).map (·.size) = some F.size) := ⟨by rw [Fs.out]; exact Hsize.out⟩
   have Fz : Away (z.size = F.size) := ⟨by rw [Hzs.out, Fs.out]⟩
   have Hlt := Away.mk hlt
   clear hq
   go_wp2_with fail
   refine (HUr.out _).mono ?_
   rintro e w3 ⟨rfl, hb3⟩
   obtain ⟨W4, hW4⟩ : ∃ x, w3.alloc (.cells F 25) = x := ⟨_, rfl⟩
   obtain ⟨r4, hs4, b4⟩ := one hW4
   have R4 := Away.mk r4
   have D4 : Away (Below wr.heap.size wr W4) := ⟨hb3.trans (b4.mono hb3.size)⟩
   have B4 : Away (Below w.heap.size w W4) := ⟨Hb.out.trans (D4.out.mono Hb.out.size)⟩
   have O4 : Away (W4.ownsRow w.heap.size 25 256 u10 r (cq R r)) := ⟨own_later Oy.out D4.out⟩
   have hws : w.heap.size ≤ W4.heap.size := B4.out.size
   have HW4 := Away.mk hW4
   clear hb3 hW4 r4 hs4 b4
   go_wp2_with (first
    | (refine wpList_store_new rfl 25 _ _ rfl F rfl rfl Fi.out (by exact Fz.out) Fo.out rfl ?_)
    | (rw [HW4.out])
    | (refine wpList_load_row rfl 25 _ rfl w3.heap.size rfl 25 F (0, 0) _ R4.out Tryz.underlying25 rfl Fi.out ?_))
   refine wp_buildSlice 45 25 1 _ rfl F i0 (.agg z) Tryz.underlying45 HI.out.1 HI.out.2.1 (by rw [HI.out.2.2.1]; decide) (by rw [HI.out.2.2.1]; decide) ?hf ?_
   case hf =>
    go_simp
    exact ⟨⟨decide_eq_false (fun h => h (Fs.out.trans HI.out.2.2.1.symm)), by rw [Fs.out, HI.out.2.2.1]; exact Nat.le_refl _⟩, fold_one F _ Fs.out (by simp [HI.out.2.2.1])⟩
   go_wp2_with (at_builtin; refine wpList_append_own _ rfl _ _ 45 rfl w.heap.size 25 i0 (.agg z) 256 2048 Tryz.underlying45 HI.out.1 HI.out.2.1 HI.out.2.2.1 HI.out.2.2.2 Hzc.out (by decide) _ _ _ rfl (O4.out.alloc _) ⟨W4.heap.size, 0, none⟩ 1 1 F.toList rfl (by rw [Array.length_toList, Fs.out]) (fun j u hu => cell_at_new hu) (fun u hu => all_one Fo.out u hu) (by unfold maxLen; omega) (by omega) (by rw [size_alloc]; omega) ?_)
   intro v' w8 hown' hgrow _
   have hb8 : Below w.heap.size W4 w8 := ((Below.refl w.heap.size W4).alloc hws _).grown hgrow (by rw [size_alloc]; omega) (fun k hk => (O4.out.lt k hk).1)
   have B8 : Away (Below w.heap.size w w8) := ⟨B4.out.trans hb8⟩
   have O8 : Away (w8.ownsRow w.heap.size 25 256 v' (r + 1) (cq R (r + 1))) := ⟨by rw [cq, HF.out]; exact hown'⟩
   clear hown' hgrow hb8
   go_wp2_with fail
   go_roundw
   case rel => exact ⟨r + 1, by have := Hlt.out; omega, by go_num, O8, B8⟩
   case measure => have := Hlt.out; simp [intOf]; omega
  ·obtain rfl : r = kn := by omega
   have hxs : 32 ≤ x.size := by have := Hx.out; omega
   go_wp2_with fail
   go_ret3
   exact ⟨⟨_, rfl, Oy.out⟩, Hb.out⟩
end rkpu
namespace rkse
set_option linter.unusedSimpArgs false
open Go Go.RowKit
open arr mem stil polys polt pols rbita rbitb rbitd rbitf rndm saml mlkm mlkb rksz rktk
set_option maxRecDepth 100000 in
set_option maxHeartbeats 4000000 in
theorem secret_bad (k l e t a b o s : Int) (x : ByteArray) (w : World) (h : latt k l e t a b o s = false) :
 Calls Tryz.prog 23 #[.agg #[.int .i64 k, .int .i64 l, .int .i64 e, .int .i64 t, .int .i64 a, .int .i64 b, .int .i64 o, .int .i64 s], .string x] w fun r w' => r = .returned (.tuple #[.string ⟨#[]⟩, .slice none 0 0, .int .i64 1]) ∧ Below w.heap.size w w' := by
 obtain ⟨n1, n2, n3, HS⟩ : ∃ n1 n2 n3 : Int, Away (n2 = 0) ∧ Away (∀ w1 : World, Calls Tryz.prog 8 #[.agg #[.int .i64 k, .int .i64 l, .int .i64 e, .int .i64 t, .int .i64 a, .int .i64 b, .int .i64 o, .int .i64 s]] w1 fun e0 w' => e0 = .returned (.tuple #[.int .i64 n1, .int .i64 n2, .int .i64 n3]) ∧ Below w1.heap.size w1 w') := ⟨0, 0, 0, ⟨rfl⟩, ⟨fun w1 => by
  have h1 := sizes_any k l e t a b o s w1
  unfold szs at h1
  rw [h, if_neg (by decide)] at h1
  exact h1⟩⟩
 obtain ⟨HN, HS⟩ := HS
 have hn0 : (n2 == 0) = true := by rw [HN.out]; rfl
 obtain ⟨C, HC⟩ := ex_eq (#[.int .i64 k, .int .i64 l, .int .i64 e, .int .i64 t, .int .i64 a, .int .i64 b, .int .i64 o, .int .i64 s] : Array Value)
 rw [HC.out] at HS ⊢
 have HCs : Away ((Tryz.prog.info? 23).map (·.size) = some C.size) := ⟨by rw [← HC.out]; kernel_rfl⟩
 obtain ⟨W, hW⟩ : ∃ x, w.alloc (.cells C 23) = x := ⟨_, rfl⟩
 obtain ⟨r0, hWs, b0⟩ := one hW
 have L0 : Away (W.heap[w.heap.size]? = some (.cells C 23 (0, 0))) := ⟨r0⟩
 have BW := Away.mk b0
 have HW := Away.mk hW
 clear hW r0 hWs b0 h HN
 go_enter Tryz.func23, Tryz.ntmps23
 go_wp2_with (first
  | (rw [HW.out])
  | (refine wpList_load_row rfl 23 _ rfl w.heap.size rfl 23 _ (0, 0) _ L0.out Tryz.underlying23 rfl HCs.out ?_))
 refine (HS.out _).mono ?_
 rintro x u1 ⟨rfl, hb1⟩
 have B1 : Away (Below w.heap.size w u1) := ⟨BW.out.trans (hb1.mono BW.out.size)⟩
 clear hb1
 go_wp2_with fail
 go_ret3
 exact ⟨rfl, B1.out⟩
set_option maxRecDepth 100000 in
set_option maxHeartbeats 4000000 in
theorem secret_len (k l e t a b o s : Int) (x : ByteArray) (w : World) (h : latt k l e t a b o s = true) (hx : (x.size : Int) ≠ sz2 k l e) :
 Calls Tryz.prog 23 #[.agg #[.int .i64 k, .int .i64 l, .int .i64 e, .int .i64 t, .int .i64 a, .int .i64 b, .int .i64 o, .int .i64 s], .string x] w fun r w' => r = .returned (.tuple #[.string ⟨#[]⟩, .slice none 0 0, .int .i64 3]) ∧ Below w.heap.size w w' := by
 obtain ⟨n1, n2, n3, HN, HS⟩ : ∃ n1 n2 n3 : Int, Away (n2 = sz2 k l e) ∧ Away (∀ w1 : World, Calls Tryz.prog 8 #[.agg #[.int .i64 k, .int .i64 l, .int .i64 e, .int .i64 t, .int .i64 a, .int .i64 b, .int .i64 o, .int .i64 s]] w1 fun e0 w' => e0 = .returned (.tuple #[.int .i64 n1, .int .i64 n2, .int .i64 n3]) ∧ Below w1.heap.size w1 w') := ⟨_, _, _, ⟨rfl⟩, ⟨fun w1 => by
  have h1 := sizes_any k l e t a b o s w1
  unfold szs at h1
  rw [if_pos h] at h1
  exact h1⟩⟩
 have hn0 : (n2 == 0) = false := by
  rw [HN.out, sz2]
  obtain ⟨q1, q2, -⟩ := latt_all h
  have : 0 ≤ 32 * ((lb (2 * e).toNat : Nat) : Int) * (l + k) := Int.mul_nonneg (by omega) (by omega)
  simp
  omega
 have hn1 : ((x.size : Int) != n2) = true := by rw [HN.out]; simpa using hx
 obtain ⟨C, HC⟩ := ex_eq (#[.int .i64 k, .int .i64 l, .int .i64 e, .int .i64 t, .int .i64 a, .int .i64 b, .int .i64 o, .int .i64 s] : Array Value)
 rw [HC.out] at HS ⊢
 have HCs : Away ((Tryz.prog.info? 23).map (·.size) = some C.size) := ⟨by rw [← HC.out]; kernel_rfl⟩
 obtain ⟨W, hW⟩ : ∃ x, w.alloc (.cells C 23) = x := ⟨_, rfl⟩
 obtain ⟨r0, hWs, b0⟩ := one hW
 have L0 : Away (W.heap[w.heap.size]? = some (.cells C 23 (0, 0))) := ⟨r0⟩
 have BW := Away.mk b0
 have HW := Away.mk hW
 clear hW r0 hWs b0 h HN
 go_enter Tryz.func23, Tryz.ntmps23
 go_wp2_with (first
  | (rw [HW.out])
  | (refine wpList_load_row rfl 23 _ rfl w.heap.size rfl 23 _ (0, 0) _ L0.out Tryz.underlying23 rfl HCs.out ?_))
 refine (HS.out _).mono ?_
 rintro x u1 ⟨rfl, hb1⟩
 have B1 : Away (Below w.heap.size w u1) := ⟨BW.out.trans (hb1.mono BW.out.size)⟩
 clear hb1
 go_wp2_with fail
 go_ret3
 exact ⟨rfl, B1.out⟩
set_option maxRecDepth 100000 in
set_option maxHeartbeats 8000000 in
theorem secret_good (kn ln : Nat) (e t a b o s : Int) (x : ByteArray) (w : World) (h : latt (kn : Int) (ln : Int) e t a b o s = true) (hx : (x.size : Int) = sz2 kn ln e) :
 Calls Tryz.prog 23 #[.agg #[.int .i64 (kn : Int), .int .i64 (ln : Int), .int .i64 e, .int .i64 t, .int .i64 a, .int .i64 b, .int .i64 o, .int .i64 s], .string x] w fun r w' => ((okK x kn ln e ∧ ∃ v, r = .returned (.tuple #[.string (x.extract 0 128), v, .int .i64 0]) ∧ three w' v x kn ln e) ∨ (¬ okK x kn ln e ∧ r = .returned (.tuple #[.string ⟨#[]⟩, .slice none 0 0, .int .i64 3]))) ∧ Below w.heap.size w w' := by
 obtain ⟨hk, hl, he, -⟩ := latt_all h
 have hk : 1 ≤ kn ∧ kn ≤ 8 := by omega
 have hl : 1 ≤ ln ∧ ln ≤ 8 := by omega
 obtain ⟨le1, le2, le3⟩ := lb_eta e he
 obtain ⟨n1, n2, n3, HN, HS⟩ : ∃ n1 n2 n3 : Int, Away (n2 = sz2 kn ln e) ∧ Away (∀ w1 : World, Calls Tryz.prog 8 #[.agg #[.int .i64 (kn : Int), .int .i64 (ln : Int), .int .i64 e, .int .i64 t, .int .i64 a, .int .i64 b, .int .i64 o, .int .i64 s]] w1 fun e0 w' => e0 = .returned (.tuple #[.int .i64 n1, .int .i64 n2, .int .i64 n3]) ∧ Below w1.heap.size w1 w') := ⟨_, _, _, ⟨rfl⟩, ⟨fun w1 => by
  have h1 := sizes_any kn ln e t a b o s w1
  unfold szs at h1
  rw [if_pos h] at h1
  exact h1⟩⟩
 have hsz : x.size = 128 + 32 * lb (e + e).toNat * ln + 32 * lb (e + e).toNat * kn + 416 * kn := by
  rw [sz2, ← le1] at hx
  have e1 : 32 * ((lb (e + e).toNat : Nat) : Int) * ((ln : Int) + (kn : Int)) = ((32 * lb (e + e).toNat * ln + 32 * lb (e + e).toNat * kn : Nat) : Int) := by push_cast; rw [Int.mul_add]
  omega
 have hn0 : (n2 == 0) = false := by
  rw [HN.out, ← hx]
  exact beq_eq_false_iff_ne.2 (by omega)
 have hn1 : ((x.size : Int) != n2) = false := by rw [HN.out, hx]; simp
 have hbig : x.size ≤ 100000 := by
  have a1 : 32 * lb (e + e).toNat * ln ≤ 128 * 8 := Nat.mul_le_mul (by omega) hl.2
  have a2 : 32 * lb (e + e).toNat * kn ≤ 128 * 8 := Nat.mul_le_mul (by omega) hk.2
  omega
 unfold okK three
 obtain ⟨Wd, hWd⟩ : ∃ y, lb (e + e).toNat = y := ⟨_, rfl⟩
 obtain ⟨p2, hp2⟩ : ∃ y, 128 + 32 * Wd * ln = y := ⟨_, rfl⟩
 obtain ⟨p3, hp3⟩ : ∃ y, p2 + 32 * Wd * kn = y := ⟨_, rfl⟩
 rw [hWd, hp2, hp3] at hsz
 have HT1 : Away (∀ w1 : World, Calls Tryz.prog 69 #[.string x, .int .i64 128, .int .i64 (ln : Int), .int .i64 e, .int .i64 e] w1 fun r w' => (∃ v, r = .returned v ∧ ((okU x 128 Wd (e + e) ln ∧ ∃ v1, v = .tuple #[v1, .int .i64 (p2 : Int), .bool true] ∧ w'.ownsRow w1.heap.size 25 256 v1 ln (cq (rdS x 128 Wd e) ln)) ∨ (¬ okU x 128 Wd (e + e) ln ∧ ∃ zz : Int, v = .tuple #[.slice none 0 0, .int .i64 zz, .bool false]))) ∧ Below w1.heap.size w1 w') := ⟨fun w1 => by
  have h1 := take_any x 128 ln e e w1 hl.2 (by omega) (by omega) (by omega) (by omega) (by rw [hWd, hp2]; omega) hbig
  unfold TK at h1
  rw [hWd, hp2] at h1
  exact h1⟩
 have HT2 : Away (∀ w1 : World, Calls Tryz.prog 69 #[.string x, .int .i64 (p2 : Int), .int .i64 (kn : Int), .int .i64 e, .int .i64 e] w1 fun r w' => (∃ v, r = .returned v ∧ ((okU x p2 Wd (e + e) kn ∧ ∃ v1, v = .tuple #[v1, .int .i64 (p3 : Int), .bool true] ∧ w'.ownsRow w1.heap.size 25 256 v1 kn (cq (rdS x p2 Wd e) kn)) ∨ (¬ okU x p2 Wd (e + e) kn ∧ ∃ zz : Int, v = .tuple #[.slice none 0 0, .int .i64 zz, .bool false]))) ∧ Below w1.heap.size w1 w') := ⟨fun w1 => by
  have h1 := take_any x p2 kn e e w1 hk.2 (by omega) (by omega) (by omega) (by omega) (by rw [hWd, hp3]; omega) hbig
  unfold TK at h1
  rw [hWd, hp3] at h1
  exact h1⟩
 have HT3 : Away (∀ w1 : World, Calls Tryz.prog 69 #[.string x, .int .i64 (p3 : Int), .int .i64 (kn : Int), .int .i64 4095, .int .i64 4096] w1 fun r w' => (∃ v, r = .returned v ∧ ((okU x p3 13 8191 kn ∧ ∃ (v1 : Value) (zz : Int), v = .tuple #[v1, .int .i64 zz, .bool true] ∧ w'.ownsRow w1.heap.size 25 256 v1 kn (cq (rdS x p3 13 4096) kn)) ∨ (¬ okU x p3 13 8191 kn ∧ ∃ zz : Int, v = .tuple #[.slice none 0 0, .int .i64 zz, .bool false]))) ∧ Below w1.heap.size w1 w') := ⟨fun w1 => by
  refine (take_any x p3 kn 4095 4096 w1 hk.2 (by decide) (by decide) (by decide) (by decide) (by rw [lb_low]; omega) hbig).mono ?_
  rintro r w' ⟨⟨v, rfl, hv⟩, hb⟩
  unfold TK at hv
  rw [lb_low] at hv
  refine ⟨⟨v, rfl, ?_⟩, hb⟩
  rcases hv with ⟨q1, v1, q2, q3⟩ | q
  ·exact Or.inl ⟨q1, v1, _, q2, q3⟩
  ·exact Or.inr q⟩
 have h128 : 128 ≤ x.size := by omega
 have h128z : (128 : Int) ≤ (x.size : Int) := by omega
 simp only [hWd, hp2, hp3]
 obtain ⟨R1, HR1⟩ := ex_eq (rdS x 128 Wd e)
 obtain ⟨R2, HR2⟩ := ex_eq (rdS x p2 Wd e)
 obtain ⟨R3, HR3⟩ := ex_eq (rdS x p3 13 4096)
 obtain ⟨O1, HO1⟩ : ∃ P : Prop, Away (okU x 128 Wd (e + e) ln = P) := ⟨_, ⟨rfl⟩⟩
 obtain ⟨O2, HO2⟩ : ∃ P : Prop, Away (okU x p2 Wd (e + e) kn = P) := ⟨_, ⟨rfl⟩⟩
 obtain ⟨O3, HO3⟩ : ∃ P : Prop, Away (okU x p3 13 8191 kn = P) := ⟨_, ⟨rfl⟩⟩
 simp only [HR1.out, HO1.out] at HT1 ⊢
 simp only [HR2.out, HO2.out] at HT2 ⊢
 simp only [HR3.out, HO3.out] at HT3 ⊢
 obtain ⟨C, HC⟩ := ex_eq (#[.int .i64 (kn : Int), .int .i64 (ln : Int), .int .i64 e, .int .i64 t, .int .i64 a, .int .i64 b, .int .i64 o, .int .i64 s] : Array Value)
 rw [HC.out] at HS ⊢
 have HCs : Away ((Tryz.prog.info? 23).map (·.size) = some C.size) := ⟨by rw [← HC.out]; kernel_rfl⟩
 obtain ⟨W, hW⟩ : ∃ x, w.alloc (.cells C 23) = x := ⟨_, rfl⟩
 obtain ⟨r0, hWs, b0⟩ := one hW
 have CB : Away (∀ w' : World, Below W.heap.size W w' → w'.heap[w.heap.size]? = some (.cells C 23 (0, 0))) := ⟨fun w' hb => (hb.block _ (lt_of_row r0)).trans r0⟩
 have cK : Away (∀ w' : World, Below W.heap.size W w' → w'.cell? ⟨w.heap.size, 0, none⟩ = some (.int .i64 (kn : Int))) := ⟨fun w' hb => cell_at (CB.out w' hb) (by rw [← HC.out]; rfl)⟩
 have cL : Away (∀ w' : World, Below W.heap.size W w' → w'.cell? ⟨w.heap.size, 1, none⟩ = some (.int .i64 (ln : Int))) := ⟨fun w' hb => cell_at (CB.out w' hb) (by rw [← HC.out]; rfl)⟩
 have cE : Away (∀ w' : World, Below W.heap.size W w' → w'.cell? ⟨w.heap.size, 2, none⟩ = some (.int .i64 e)) := ⟨fun w' hb => cell_at (CB.out w' hb) (by rw [← HC.out]; rfl)⟩
 have BW := Away.mk b0
 have HW := Away.mk hW
 have Hk := Away.mk hk
 have Hl := Away.mk hl
 clear hW r0 hWs b0 h HN hx hk hl he le1 le2 le3 hsz hbig hWd hp2 hp3 HR1 HR2 HR3 HO1 HO2 HO3
 go_enter Tryz.func23, Tryz.ntmps23
 go_wp2_with (first
  | (rw [HW.out])
  | (refine wpList_load_row rfl 23 _ rfl w.heap.size rfl 23 _ (0, 0) _ (CB.out _ (Below.refl _ _)) Tryz.underlying23 rfl HCs.out ?_))
 refine (HS.out _).mono ?_
 rintro r u1 ⟨rfl, hb1⟩
 have E1 : Away (Below W.heap.size W u1) := ⟨hb1⟩
 have c1 := cL.out u1 hb1
 have c2 := cE.out u1 hb1
 clear hb1
 go_wp2_with fail
 refine (HT1.out _).mono ?_
 rintro r u2 ⟨⟨v, rfl, hv⟩, hb2⟩
 have E2 : Away (Below W.heap.size W u2) := ⟨E1.out.trans (hb2.mono E1.out.size)⟩
 clear hb2 c1 c2
 rcases hv with ⟨o1, v1, rfl, q1⟩ | ⟨o1, z1, rfl⟩
 ·have Q1x := holds_base (own_holds Hl.out.1 q1)
  obtain ⟨g1, c1', rfl⟩ : ∃ g c, v1 = .slice (some ⟨g, 0, none⟩) ln c := by obtain ⟨g, c, e, -⟩ := Q1x; exact ⟨g, c, e⟩
  have Q1 := Away.mk Q1x
  clear q1 Q1x
  have c1 := cK.out u2 E2.out
  have c2 := cE.out u2 E2.out
  go_wp2_with fail
  refine (HT2.out _).mono ?_
  rintro r u3 ⟨⟨v, rfl, hv⟩, hb3⟩
  have E3 : Away (Below W.heap.size W u3) := ⟨E2.out.trans (hb3.mono E2.out.size)⟩
  have Q1b := Away.mk (Q1.out.later hb3)
  clear hb3 c1 c2
  rcases hv with ⟨o2, v2, rfl, q2⟩ | ⟨o2, z2, rfl⟩
  ·have Q2x := holds_base (own_holds Hk.out.1 q2)
   obtain ⟨g2, c2', rfl⟩ : ∃ g c, v2 = .slice (some ⟨g, 0, none⟩) kn c := by obtain ⟨g, c, e, -⟩ := Q2x; exact ⟨g, c, e⟩
   have Q2 := Away.mk Q2x
   clear q2 Q2x
   have c1 := cK.out u3 E3.out
   go_wp2_with fail
   refine (HT3.out _).mono ?_
   rintro r u4 ⟨⟨v, rfl, hv⟩, hb4⟩
   have E4 : Away (Below W.heap.size W u4) := ⟨E3.out.trans (hb4.mono E3.out.size)⟩
   have Q1c := Away.mk (Q1b.out.later hb4)
   have Q2c := Away.mk (Q2.out.later hb4)
   clear hb4 c1
   rcases hv with ⟨o3, v3, z3, rfl, q3⟩ | ⟨o3, z3, rfl⟩
   ·have Q3x := holds_base (own_holds Hk.out.1 q3)
    obtain ⟨g3, c3', rfl⟩ : ∃ g c, v3 = .slice (some ⟨g, 0, none⟩) kn c := by obtain ⟨g, c, e, -⟩ := Q3x; exact ⟨g, c, e⟩
    have Q3 := Away.mk Q3x
    clear q3 Q3x
    obtain ⟨W9, hW9⟩ : ∃ y, u4.alloc (.cells #[.slice (some ⟨g1, 0, none⟩) ln c1', .slice (some ⟨g2, 0, none⟩) kn c2', .slice (some ⟨g3, 0, none⟩) kn c3'] 45) = y := ⟨_, rfl⟩
    obtain ⟨r9, hs9, b9⟩ := one hW9
    have R9 := Away.mk r9
    have B9 := Away.mk b9
    have HW9 := Away.mk hW9
    clear r9 hs9 b9 hW9
    go_wp2_with (rw [HW9.out])
    go_ret3
    exact ⟨Or.inl ⟨⟨o1, o2, o3⟩, _, rfl, _, _, _, _, _, rfl, lt_of_row R9.out, cell_at R9.out rfl, cell_at R9.out rfl, cell_at R9.out rfl, Q1c.out.later B9.out, Q2c.out.later B9.out, Q3.out.later B9.out⟩, BW.out.trans ((E4.out.trans (B9.out.mono E4.out.size)).mono BW.out.size)⟩
   ·go_wp2_with fail
    go_ret3
    exact ⟨Or.inr ⟨fun q => o3 q.2.2, rfl⟩, BW.out.trans (E4.out.mono BW.out.size)⟩
  ·go_wp2_with fail
   go_ret3
   exact ⟨Or.inr ⟨fun q => o2 q.2.1, rfl⟩, BW.out.trans (E3.out.mono BW.out.size)⟩
 ·go_wp2_with fail
  go_ret3
  exact ⟨Or.inr ⟨fun q => o1 q.1, rfl⟩, BW.out.trans (E2.out.mono BW.out.size)⟩
end rkse
end Go.Proofs.YtlcafjdehcddcaaGreatDoor
