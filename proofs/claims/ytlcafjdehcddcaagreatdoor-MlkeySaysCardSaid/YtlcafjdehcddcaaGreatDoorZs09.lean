/-
  What the document's own PublicBytes and lists of layer 12 return. Conditions: as each theorem says. What the document's own SecretBytes of layer 12 returns. Conditions: as each theorem says. What the document's own SecretBytes of layer 12 returns for an argument that isn't valid. Conditions: none. What the document's own Reduce and Centre of layer 7 return. Conditions: none.
-/
import Derived.Test.YtlcafjdehcddcaaGreatDoorZs07
import Derived.Test.YtlcafjdehcddcaaGreatDoorZs08
import Derived.Test.YtlcafjdehcddcaaGreatDoorZs03
import Derived.Test.YtlcafjdehcddcaaGreatDoorProg
import Derived.Great.BuildSlice
namespace Go.Proofs.YtlcafjdehcddcaaGreatDoor
namespace rkpb
open Go Go.RowKit
open arr mem stil polys polt pols rbita rbitd rbite bitp rndm lsl11 mlkm
set_option maxRecDepth 100000 in
set_option maxHeartbeats 4000000 in
theorem pb_any (kn : Nat) (l e t a b o s : Int) (rho : ByteArray) (v : Value) (q : Nat → Nat → Int) (w : World) (hk : 1 ≤ kn ∧ kn ≤ 8) (h : latt (kn : Int) l e t a b o s = true) (hrho : rho.size = 32) (hv : SL w v kn q) :
 Calls Tryz.prog 17 #[.agg #[.int .i64 (kn : Int), .int .i64 l, .int .i64 e, .int .i64 t, .int .i64 a, .int .i64 b, .int .i64 o, .int .i64 s], .string rho, v] w fun x w' => x = .returned (resP rho q 1023 kn) ∧ Below w.heap.size w w' := by
 have HR : Away (∀ w1 : World, Calls Tryz.prog 35 #[.agg #[.int .i64 (kn : Int), .int .i64 l, .int .i64 e, .int .i64 t, .int .i64 a, .int .i64 b, .int .i64 o, .int .i64 s]] w1 fun e0 w' => e0 = .returned (.bool true) ∧ Below w1.heap.size w1 w') := ⟨fun w1 => by rw [← h]; exact rfright.right_any _ l e t a b o s w1⟩
 obtain ⟨hz, hsize⟩ := zero_of_info polt.infoP
 obtain ⟨z, HZ⟩ := ex_eq (FL .i64 256 fun _ => 0)
 rw [HZ.out] at hz
 have Hzs : Away (z.size = 256) := ⟨by rw [← HZ.out]; exact fl_size _ _ _⟩
 have Hsize := Away.mk hsize
 obtain ⟨C, HC⟩ := ex_eq (#[.int .i64 (kn : Int), .int .i64 l, .int .i64 e, .int .i64 t, .int .i64 a, .int .i64 b, .int .i64 o, .int .i64 s] : Array Value)
 rw [HC.out] at HR ⊢
 have HCs : Away ((Tryz.prog.info? 23).map (·.size) = some C.size) := ⟨by rw [← HC.out]; kernel_rfl⟩
 obtain ⟨W, hW⟩ : ∃ x, w.alloc (.cells C 23) = x := ⟨_, rfl⟩
 obtain ⟨r0, hWs, b0⟩ := one hW
 have L0 : Away (W.heap[w.heap.size]? = some (.cells C 23 (0, 0))) := ⟨r0⟩
 have BW := Away.mk b0
 have HWs := Away.mk hWs
 have HW := Away.mk hW
 obtain ⟨x0, c0, hvs⟩ := sl_slice hv
 have Hv := Away.mk hv
 obtain ⟨V, HV⟩ := ex_eq (resP rho q 1023 kn)
 rw [HV.out]
 have Hk := Away.mk hk
 have hrz : (rho.size : Int) = 32 := by omega
 have hnz : ((kn : Int) != (kn : Int)) = false := by simp
 have Hrho := Away.mk hrho
 subst hvs
 clear hW r0 b0 hWs hv h hk HZ hsize hrho
 go_enter Tryz.func17, Tryz.ntmps17
 go_wp2_with (first
  | (rw [HW.out])
  | (refine wpList_load_row rfl 23 _ rfl w.heap.size rfl 23 _ (0, 0) _ L0.out Tryz.underlying23 rfl HCs.out ?_))
 refine (HR.out _).mono ?_
 rintro x u1 ⟨rfl, hb1⟩
 have B1 : Away (Below w.heap.size w u1) := ⟨BW.out.trans (hb1.mono (by rw [HWs.out]; omega))⟩
 have cK : u1.cell? ⟨w.heap.size, 0, none⟩ = some (.int .i64 (kn : Int)) := cell_at ((hb1.block _ (by rw [HWs.out]; omega)).trans L0.out) (by rw [← HC.out]; rfl)
 clear hb1
 go_wp2_with fail
 clear cK
 go_loopw [31, 8] (fun iv sv wr => ∃ r : Nat, r ≤ kn ∧ iv = .int .i64 (r : Int) ∧ sv = .string (cat rho (fun i => packed (q i) 1023) r) ∧ Away (∀ i, i < r → inb (q i) 1023) ∧ Away (Below w.heap.size w wr)) (fun iv _ _ => kn - (intOf iv).toNat)
 case atStart => exact ⟨0, Nat.zero_le _, rfl, rfl, ⟨fun i hi => by omega⟩, B1⟩
 case round =>
  obtain ⟨r, hr, rfl, rfl, Hin, Hb⟩ := hrel
  by_cases hlt : r < kn
  ·have hrz2 : (r : Int) < (kn : Int) := by omega
   have hr8 : r < 8 := by have := Hk.out; omega
   obtain ⟨g, c, he, hrg⟩ := sl_row (Hv.out.later Hb.out) r hlt
   obtain ⟨rfl, rfl⟩ : x0 = some ⟨g, 0, none⟩ ∧ c0 = c := by injection he with x1 x2 x3; exact ⟨x1, x3⟩
   obtain ⟨F, HF⟩ := ex_eq (FL .i64 256 (q r))
   obtain ⟨o6, ho6⟩ : ∃ o6, r * 256 = o6 := ⟨_, rfl⟩
   rw [HF.out, ho6] at hrg
   have Hrg := Away.mk hrg
   have Fs : Away (F.size = 256) := ⟨by rw [← HF.out]; exact fl_size _ _ _⟩
   have Fo : Away (F.all (·.oneCell') = true) := ⟨by rw [← HF.out]; exact fl_one _ _ _⟩
   have Fi : Away ((Tryz.prog.info? 25).map (·.size) = some F.size) := ⟨by rw [Fs.out]; exact Hsize.out⟩
   have Fz : Away (z.size = F.size) := ⟨by rw [Hzs.out, Fs.out]⟩
   obtain ⟨S, HS⟩ := ex_eq (cat rho (fun i => packed (q i) 1023) r)
   have HSs : Away (S.size = 32 + 320 * r) := ⟨by rw [← HS.out, cat_size _ _ 320 r fun i _ => by rw [size_packed, lb_1023], Hrho.out]⟩
   rw [HS.out]
   obtain ⟨W11, hW11⟩ : ∃ x, wr.alloc (.cells F 25) = x := ⟨_, rfl⟩
   obtain ⟨r11, hs11, b11⟩ := one hW11
   have HW11 := Away.mk hW11
   have R11 := Away.mk r11
   have D11 : Away (Below w.heap.size w W11) := ⟨Hb.out.trans (b11.mono Hb.out.size)⟩
   have Hlt := Away.mk hlt
   clear he hrg hW11 r11 hs11 b11
   by_cases hok : inb (q r) 1023
   ·have HPk : Away (∀ w1 : World, Calls Tryz.prog 59 #[.agg F, .int .i64 1023] w1 fun e w' => e = .returned (.tuple #[.string (packed (q r) 1023), .int .i64 0]) ∧ Below w1.heap.size w1 w') := ⟨fun w1 => by
     have h := rbitd.pack_any (q r) 1023 w1 (by decide) (by decide)
     rw [if_pos hok, HF.out] at h
     exact h⟩
    have Hcat : Away (S ++ packed (q r) 1023 = cat rho (fun i => packed (q i) 1023) (r + 1)) := ⟨by rw [← HS.out, cat]⟩
    obtain ⟨X, HX⟩ := ex_eq (packed (q r) 1023)
    have HXs : X.size = 320 := by rw [← HX.out, size_packed, lb_1023]
    rw [HX.out] at HPk Hcat
    have hsz : ¬ 9223372036854775807 < S.size + 320 := by rw [HSs.out]; omega
    have Hin2 : Away (∀ i, i < r + 1 → inb (q i) 1023) := ⟨fun i hi => by
     by_cases e : i = r
     ·rw [e]; exact hok
     ·exact Hin.out i (by omega)⟩
    clear hok
    go_wp2_with (first
     | ((with_reducible refine wpList_load_mid rfl 25 _ rfl g o6 ?hx F.toList _ Hrg.out Tryz.underlying25 rfl ?hi ?_); (case hx => rfl); (case hi => rw [Array.length_toList]; exact Fi.out))
     | (refine wpList_store_new rfl 25 _ _ rfl F rfl rfl Fi.out (by exact Fz.out) Fo.out rfl ?_)
     | (rw [HW11.out])
     | (refine wpList_load_row rfl 25 _ rfl wr.heap.size rfl 25 F (0, 0) _ R11.out Tryz.underlying25 rfl Fi.out ?_))
    refine (HPk.out _).mono ?_
    rintro e w5 ⟨rfl, hb5⟩
    have D5 : Away (Below w.heap.size w w5) := ⟨D11.out.trans (hb5.mono D11.out.size)⟩
    clear hb5
    go_wp2_with fail
    go_roundw
    case rel => exact ⟨r + 1, by have := Hlt.out; omega, by go_num, by rw [Hcat.out], Hin2, D5⟩
    case measure => have := Hlt.out; simp [intOf]; omega
   ·have HPk : Away (∀ w1 : World, Calls Tryz.prog 59 #[.agg F, .int .i64 1023] w1 fun e w' => e = .returned (.tuple #[.string ⟨#[]⟩, .int .i64 6]) ∧ Below w1.heap.size w1 w') := ⟨fun w1 => by
     have h := rbitd.pack_any (q r) 1023 w1 (by decide) (by decide)
     rw [if_neg hok, HF.out] at h
     exact h⟩
    have hVe : Away (V = .tuple #[.string ⟨#[]⟩, .int .i64 6]) := ⟨by rw [← HV.out]; unfold resP; rw [if_neg fun h => hok (h r Hlt.out)]⟩
    clear hok
    go_wp2_with (first
     | ((with_reducible refine wpList_load_mid rfl 25 _ rfl g o6 ?hx F.toList _ Hrg.out Tryz.underlying25 rfl ?hi ?_); (case hx => rfl); (case hi => rw [Array.length_toList]; exact Fi.out))
     | (refine wpList_store_new rfl 25 _ _ rfl F rfl rfl Fi.out (by exact Fz.out) Fo.out rfl ?_)
     | (rw [HW11.out])
     | (refine wpList_load_row rfl 25 _ rfl wr.heap.size rfl 25 F (0, 0) _ R11.out Tryz.underlying25 rfl Fi.out ?_))
    refine (HPk.out _).mono ?_
    rintro e w5 ⟨rfl, hb5⟩
    have D5 : Away (Below w.heap.size w w5) := ⟨D11.out.trans (hb5.mono D11.out.size)⟩
    clear hb5
    go_wp2_with fail
    go_ret2
    exact ⟨by rw [hVe.out]; rfl, D5.out⟩
  ·obtain rfl : r = kn := by omega
   have hVe : Away (V = .tuple #[.string (cat rho (fun i => packed (q i) 1023) r), .int .i64 0]) := ⟨by rw [← HV.out]; unfold resP; rw [if_pos (show okP q 1023 r from fun i hi => Hin.out i hi)]⟩
   obtain ⟨S, HS⟩ := ex_eq (cat rho (fun i => packed (q i) 1023) r)
   rw [HS.out] at hVe ⊢
   go_wp2_with fail
   go_ret2
   exact ⟨by rw [hVe.out]; rfl, Hb.out⟩
set_option maxRecDepth 100000 in
set_option maxHeartbeats 4000000 in
theorem lists_any (m : Nat) (low high : Int) (v : Value) (B : Nat) (q : Nat → Nat → Int) (w : World) (hm : m ≤ 16) (h1 : 0 ≤ low) (h2 : 1 ≤ high) (h3 : low < 4190208) (h4 : high < 4190208) (hv : Holds w B v m q) :
 Calls Tryz.prog 62 #[v, .int .i64 low, .int .i64 high] w fun x w' => x = .returned (resS ByteArray.empty q low high m) ∧ Below w.heap.size w w' := by
 obtain ⟨hz, hsize⟩ := zero_of_info polt.infoP
 obtain ⟨z, HZ⟩ := ex_eq (FL .i64 256 fun _ => 0)
 rw [HZ.out] at hz
 have Hzs : Away (z.size = 256) := ⟨by rw [← HZ.out]; exact fl_size _ _ _⟩
 have Hsize := Away.mk hsize
 obtain ⟨g, c, hvs, -⟩ := hd_any hv
 have Hv := Away.mk hv
 have HSg : Away (∀ f : Nat → Int, ∀ w1 : World, Calls Tryz.prog 102 #[.agg (FL .i64 256 f), .int .i64 low, .int .i64 high] w1 fun e w' => e = .returned (if ins f low high then .tuple #[.string (packed (sg f high) (low + high)), .int .i64 0] else .tuple #[.string ⟨#[]⟩, .int .i64 6]) ∧ Below w1.heap.size w1 w') := ⟨fun f w1 => rbite.signed_any f low high w1 h1 h2 h3 h4⟩
 obtain ⟨M, HM⟩ := ex_eq (32 * lb (low + high).toNat)
 have HM24 : Away (M ≤ 800) := ⟨by have := rbitf.lb_small (low + high) (by omega); rw [← HM.out]; omega⟩
 have HMs : Away (∀ f : Nat → Int, (packed (sg f high) (low + high)).size = M) := ⟨fun f => by rw [size_packed, HM.out]⟩
 obtain ⟨V, HV⟩ := ex_eq (resS ByteArray.empty q low high m)
 rw [HV.out]
 have Hm := Away.mk hm
 subst hvs
 clear hv hm HZ hsize h1 h2 h3 h4 HM
 go_enter Tryz.func62, Tryz.ntmps62
 go_wp2_with fail
 go_loopw [15, 8] (fun iv sv wr => ∃ r : Nat, r ≤ m ∧ iv = .int .i64 (r : Int) ∧ sv = .string (laidS ByteArray.empty q low high r) ∧ Away (∀ i, i < r → ins (q i) low high) ∧ Away (Below w.heap.size w wr)) (fun iv _ _ => m - (intOf iv).toNat)
 case atStart => exact ⟨0, Nat.zero_le _, rfl, rfl, ⟨fun i hi => by omega⟩, ⟨Below.refl _ _⟩⟩
 case round =>
  obtain ⟨r, hr, rfl, rfl, Hin, Hb⟩ := hrel
  by_cases hlt : r < m
  ·have hrz2 : (r : Int) < (m : Int) := by omega
   have hr16 : r < 16 := by have := Hm.out; omega
   have hrg := hd_row (Hv.out.later Hb.out) r hlt
   obtain ⟨F, HF⟩ := ex_eq (FL .i64 256 (q r))
   obtain ⟨o6, ho6⟩ : ∃ o6, r * 256 = o6 := ⟨_, rfl⟩
   rw [HF.out, ho6] at hrg
   have Hrg := Away.mk hrg
   have Fs : Away (F.size = 256) := ⟨by rw [← HF.out]; exact fl_size _ _ _⟩
   have Fo : Away (F.all (·.oneCell') = true) := ⟨by rw [← HF.out]; exact fl_one _ _ _⟩
   have Fi : Away ((Tryz.prog.info? 25).map (·.size) = some F.size) := ⟨by rw [Fs.out]; exact Hsize.out⟩
   have Fz : Away (z.size = F.size) := ⟨by rw [Hzs.out, Fs.out]⟩
   obtain ⟨S, HS⟩ := ex_eq (laidS ByteArray.empty q low high r)
   have HSs : Away (S.size = M * r) := ⟨by rw [← HS.out, laidS, cat_size _ _ M r fun i _ => HMs.out _]; show 0 + _ = _; omega⟩
   have HSm : Away (M * r ≤ 800 * 16) := ⟨Nat.mul_le_mul HM24.out (by omega)⟩
   rw [HS.out]
   obtain ⟨W11, hW11⟩ : ∃ x, wr.alloc (.cells F 25) = x := ⟨_, rfl⟩
   obtain ⟨r11, hs11, b11⟩ := one hW11
   have HW11 := Away.mk hW11
   have R11 := Away.mk r11
   have D11 : Away (Below w.heap.size w W11) := ⟨Hb.out.trans (b11.mono Hb.out.size)⟩
   have Hlt := Away.mk hlt
   clear hrg hW11 r11 hs11 b11
   by_cases hok : ins (q r) low high
   ·have HPk : Away (∀ w1 : World, Calls Tryz.prog 102 #[.agg F, .int .i64 low, .int .i64 high] w1 fun e w' => e = .returned (.tuple #[.string (packed (sg (q r) high) (low + high)), .int .i64 0]) ∧ Below w1.heap.size w1 w') := ⟨fun w1 => by
     have h := HSg.out (q r) w1
     rw [if_pos hok, HF.out] at h
     exact h⟩
    have Hcat : Away (S ++ packed (sg (q r) high) (low + high) = laidS ByteArray.empty q low high (r + 1)) := ⟨by rw [← HS.out, laidS, laidS, cat]⟩
    obtain ⟨X, HX⟩ := ex_eq (packed (sg (q r) high) (low + high))
    have HXs : X.size = M := by rw [← HX.out, HMs.out]
    rw [HX.out] at HPk Hcat
    have hsz : ¬ 9223372036854775807 < S.size + M := by have := HSs.out; have := HSm.out; have := HM24.out; omega
    have Hin2 : Away (∀ i, i < r + 1 → ins (q i) low high) := ⟨fun i hi => by
     by_cases e : i = r
     ·rw [e]; exact hok
     ·exact Hin.out i (by omega)⟩
    clear hok
    go_wp2_with (first
     | ((with_reducible refine wpList_load_mid rfl 25 _ rfl g o6 ?hx F.toList _ Hrg.out Tryz.underlying25 rfl ?hi ?_); (case hx => rfl); (case hi => rw [Array.length_toList]; exact Fi.out))
     | (refine wpList_store_new rfl 25 _ _ rfl F rfl rfl Fi.out (by exact Fz.out) Fo.out rfl ?_)
     | (rw [HW11.out])
     | (refine wpList_load_row rfl 25 _ rfl wr.heap.size rfl 25 F (0, 0) _ R11.out Tryz.underlying25 rfl Fi.out ?_))
    refine (HPk.out _).mono ?_
    rintro e w5 ⟨rfl, hb5⟩
    have D5 : Away (Below w.heap.size w w5) := ⟨D11.out.trans (hb5.mono D11.out.size)⟩
    clear hb5
    go_wp2_with fail
    go_roundw
    case rel => exact ⟨r + 1, by have := Hlt.out; omega, by go_num, by rw [Hcat.out], Hin2, D5⟩
    case measure => have := Hlt.out; simp [intOf]; omega
   ·have HPk : Away (∀ w1 : World, Calls Tryz.prog 102 #[.agg F, .int .i64 low, .int .i64 high] w1 fun e w' => e = .returned (.tuple #[.string ⟨#[]⟩, .int .i64 6]) ∧ Below w1.heap.size w1 w') := ⟨fun w1 => by
     have h := HSg.out (q r) w1
     rw [if_neg hok, HF.out] at h
     exact h⟩
    have hVe : Away (V = .tuple #[.string ⟨#[]⟩, .int .i64 6]) := ⟨by rw [← HV.out]; unfold resS; rw [if_neg fun h => hok (h r Hlt.out)]⟩
    clear hok
    go_wp2_with (first
     | ((with_reducible refine wpList_load_mid rfl 25 _ rfl g o6 ?hx F.toList _ Hrg.out Tryz.underlying25 rfl ?hi ?_); (case hx => rfl); (case hi => rw [Array.length_toList]; exact Fi.out))
     | (refine wpList_store_new rfl 25 _ _ rfl F rfl rfl Fi.out (by exact Fz.out) Fo.out rfl ?_)
     | (rw [HW11.out])
     | (refine wpList_load_row rfl 25 _ rfl wr.heap.size rfl 25 F (0, 0) _ R11.out Tryz.underlying25 rfl Fi.out ?_))
    refine (HPk.out _).mono ?_
    rintro e w5 ⟨rfl, hb5⟩
    have D5 : Away (Below w.heap.size w w5) := ⟨D11.out.trans (hb5.mono D11.out.size)⟩
    clear hb5
    go_wp2_with fail
    go_ret2
    exact ⟨by rw [hVe.out]; rfl, D5.out⟩
  ·obtain rfl : r = m := by omega
   have hVe : Away (V = .tuple #[.string (laidS ByteArray.empty q low high r), .int .i64 0]) := ⟨by rw [← HV.out]; unfold resS; rw [if_pos (show okS q low high r from fun i hi => Hin.out i hi)]⟩
   obtain ⟨S, HS⟩ := ex_eq (laidS ByteArray.empty q low high r)
   rw [HS.out] at hVe ⊢
   go_wp2_with fail
   go_ret2
   exact ⟨by rw [hVe.out]; rfl, Hb.out⟩
end rkpb
namespace rksb
set_option linter.unusedSimpArgs false
open Go Go.RowKit
open arr mem stil polys polt pols rbita rbitb rbitd rbite bitp rndm saml helda mlkm rkpb
def two (p q : Nat → Nat → Int) (m : Nat) : Nat → Nat → Int := fun i => if i < m then p i else q (i - m)
theorem cq_two (p q : Nat → Nat → Int) (m n : Nat) : cq p m ++ cq q n = cq (two p q m) (m + n) := by
 induction n with
 | zero =>
  rw [cq, List.append_nil, Nat.add_zero]
  exact cq_congr m fun i hi => by unfold two; rw [if_pos hi]
 | succ n ih =>
  rw [cq, ← List.append_assoc, ih, ← Nat.add_assoc, cq]
  unfold two
  rw [if_neg (by omega), Nat.add_sub_cancel_left]
theorem cq_one (q : Nat → Nat → Int) (m : Nat) : ∀ u ∈ cq q m, u.oneCell' = true := by
 induction m with
 | zero => intro u hu; cases hu
 | succ m ih =>
  intro u hu
  rw [cq, List.mem_append] at hu
  rcases hu with hu | hu
  ·exact ih u hu
  ·exact all_one (fl_one _ _ _) u hu
theorem holds_news {w : World} {B m g c : Nat} {q : Nat → Nat → Int} (h : Holds w B (.slice (some ⟨g, 0, none⟩) m c) m q) : ∀ j u, (cq q m)[j]? = some u → w.cell? ((⟨g, 0, none⟩ : Addr).add j) = some u := by
 obtain ⟨g2, c2, e, -, -, h3⟩ := h
 injection e with x1 x2 x3
 injection x1 with x1
 injection x1 with x1
 subst x1
 intro j u hu
 have hj : j < 256 * m := by
  have := (List.getElem?_eq_some_iff.1 hu).1
  rwa [cq_length] at this
 have h4 := h3 (j / 256) (by omega) (j % 256) (by omega)
 have h5 := cq_get q m (j / 256) (by omega) (j % 256) (by omega)
 rw [show 256 * (j / 256) + j % 256 = j by omega] at h4 h5
 rw [hu] at h5
 rw [← h5] at h4
 unfold Addr.add
 by_cases e0 : j = 0
 ·rw [if_pos e0]; subst e0; exact h4
 ·rw [if_neg e0]; simpa using h4
theorem okS_two (p q : Nat → Nat → Int) (low high : Int) (m n : Nat) : okS (two p q m) low high (m + n) ↔ okS p low high m ∧ okS q low high n := by
 constructor
 ·intro h
  refine ⟨fun i hi => ?_, fun i hi => ?_⟩
  ·have := h i (by omega)
   unfold two at this
   rwa [if_pos hi] at this
  ·have := h (m + i) (by omega)
   unfold two at this
   rwa [if_neg (by omega), Nat.add_sub_cancel_left] at this
 ·rintro ⟨h1, h2⟩ i hi
  unfold two
  by_cases e : i < m
  ·rw [if_pos e]; exact h1 i e
  ·rw [if_neg e]; exact h2 (i - m) (by omega)
theorem laid_two (h : ByteArray) (p q l : Nat → Nat → Int) (e : Int) (m n k : Nat) : h ++ laidS ByteArray.empty (two p q m) e e (m + n) ++ laidS ByteArray.empty l 4095 4096 k = laidS (laidS (laidS h p e e m) q e e n) l 4095 4096 k := by
 unfold laidS
 rw [cat_nil, cat_nil, cat_cat h (fun i => packed (sg (p i) e) (e + e)) (fun i => packed (sg (q i) e) (e + e)) m n]
 congr 1
 refine cat_congr h (m + n) fun i _ => ?_
 show packed (sg (two p q m i) e) (e + e) = _
 unfold two
 split <;> rfl
set_option maxRecDepth 100000 in
set_option maxHeartbeats 8000000 in
theorem sb_any (kn ln : Nat) (e t a b o s : Int) (hd : ByteArray) (va vb vl : Value) (Ba Bb Bl : Nat) (p q lo : Nat → Nat → Int) (w : World) (hk : 1 ≤ kn ∧ kn ≤ 8) (hl : 1 ≤ ln ∧ ln ≤ 8) (he : e = 2 ∨ e = 4) (h : latt (kn : Int) (ln : Int) e t a b o s = true) (hhd : hd.size = 128) (ha : Holds w Ba va ln p) (hb : Holds w Bb vb kn q) (hlo : Holds w Bl vl kn lo) :
 Calls Tryz.prog 19 #[.agg #[.int .i64 (kn : Int), .int .i64 (ln : Int), .int .i64 e, .int .i64 t, .int .i64 a, .int .i64 b, .int .i64 o, .int .i64 s], .string hd, va, vb, vl] w fun x w' => x = .returned (resK kn ln e hd p q lo) ∧ Below w.heap.size w w' := by
 have HR : Away (∀ w1 : World, Calls Tryz.prog 35 #[.agg #[.int .i64 (kn : Int), .int .i64 (ln : Int), .int .i64 e, .int .i64 t, .int .i64 a, .int .i64 b, .int .i64 o, .int .i64 s]] w1 fun e0 w' => e0 = .returned (.bool true) ∧ Below w1.heap.size w1 w') := ⟨fun w1 => by rw [← h]; exact rfright.right_any _ _ e t a b o s w1⟩
 obtain ⟨i0, hi, hz0, hz1, hz2⟩ := parts infoPoly
 obtain ⟨hz, hsize⟩ := zero_of_info polt.infoP
 obtain ⟨z, HZ⟩ := ex_eq (FL .i64 256 fun _ => 0)
 rw [HZ.out] at hz hz0
 have HI := Away.mk (And.intro hi (And.intro hz0 (And.intro hz1 hz2)))
 have Hzs : Away (z.size = 256) := ⟨by rw [← HZ.out]; exact fl_size _ _ _⟩
 have Hzc : Away ((Value.agg z).cells.size = 256) := ⟨Hzs.out⟩
 have HL1 : Away (∀ (B : Nat) (v : Value) (w1 : World), Holds w1 B v (ln + kn) (two p q ln) → Calls Tryz.prog 62 #[v, .int .i64 e, .int .i64 e] w1 fun x w' => x = .returned (resS ByteArray.empty (two p q ln) e e (ln + kn)) ∧ Below w1.heap.size w1 w') := ⟨fun B v w1 hv => lists_any (ln + kn) e e v B _ w1 (by omega) (by omega) (by omega) (by omega) (by omega) hv⟩
 have HL2 : Away (∀ (w1 : World), Holds w1 Bl vl kn lo → Calls Tryz.prog 62 #[vl, .int .i64 4095, .int .i64 4096] w1 fun x w' => x = .returned (resS ByteArray.empty lo 4095 4096 kn) ∧ Below w1.heap.size w1 w') := ⟨fun w1 hv => lists_any kn 4095 4096 vl Bl _ w1 (by omega) (by decide) (by decide) (by decide) (by decide) hv⟩
 obtain ⟨C, HC⟩ := ex_eq (#[.int .i64 (kn : Int), .int .i64 (ln : Int), .int .i64 e, .int .i64 t, .int .i64 a, .int .i64 b, .int .i64 o, .int .i64 s] : Array Value)
 rw [HC.out] at HR ⊢
 have HCs : Away ((Tryz.prog.info? 23).map (·.size) = some C.size) := ⟨by rw [← HC.out]; kernel_rfl⟩
 obtain ⟨W, hW⟩ : ∃ x, w.alloc (.cells C 23) = x := ⟨_, rfl⟩
 obtain ⟨r0, hWs, b0⟩ := one hW
 have L0 : Away (W.heap[w.heap.size]? = some (.cells C 23 (0, 0))) := ⟨r0⟩
 have BW := Away.mk b0
 have HWs := Away.mk hWs
 have HW := Away.mk hW
 obtain ⟨ga, ca, rfl, hga⟩ := hd_any ha
 obtain ⟨gb, cb, rfl, hgb⟩ := hd_any hb
 obtain ⟨gl, cl, rfl, hgl⟩ := hd_any hlo
 have HA := Away.mk ha
 have HB := Away.mk hb
 have HLo := Away.mk hlo
 obtain ⟨V, HV⟩ := ex_eq (resK kn ln e hd p q lo)
 rw [HV.out]
 have Hk := Away.mk hk
 have Hl := Away.mk hl
 have He := Away.mk he
 have hhz : ((hd.size : Int) != 128) = false := by rw [hhd]; rfl
 have hhi : (hd.size : Int) = 128 := by omega
 have hk2 : ((kn : Int) != (kn : Int)) = false := by simp
 have hl2 : ((ln : Int) != (ln : Int)) = false := by simp
 have Hhd := Away.mk hhd
 clear hW r0 b0 hWs h hk hl HZ hsize hi hz0 hz1 hz2 ha hb hlo hga hgb hgl hhd he
 go_enter Tryz.func19, Tryz.ntmps19
 go_wp2_with (first
  | (rw [HW.out])
  | (refine wpList_load_row rfl 23 _ rfl w.heap.size rfl 23 _ (0, 0) _ L0.out Tryz.underlying23 rfl HCs.out ?_))
 refine (HR.out _).mono ?_
 rintro x u1 ⟨rfl, hb1⟩
 have B1 : Away (Below w.heap.size w u1) := ⟨BW.out.trans (hb1.mono (by rw [HWs.out]; omega))⟩
 have L1 : Away (u1.heap[w.heap.size]? = some (.cells C 23 (0, 0))) := ⟨(hb1.block _ (by rw [HWs.out]; omega)).trans L0.out⟩
 have KC : ∀ w' : World, Below u1.heap.size u1 w' → w'.heap[w.heap.size]? = some (.cells C 23 (0, 0)) := fun w' hb => (hb.block _ (lt_of_row L1.out)).trans L1.out
 have cK : u1.cell? ⟨w.heap.size, 0, none⟩ = some (.int .i64 (kn : Int)) := cell_at L1.out (by rw [← HC.out]; rfl)
 have cL : u1.cell? ⟨w.heap.size, 1, none⟩ = some (.int .i64 (ln : Int)) := cell_at L1.out (by rw [← HC.out]; rfl)
 have KE : Away (∀ w' : World, Below u1.heap.size u1 w' → w'.cell? ⟨w.heap.size, 2, none⟩ = some (.int .i64 e)) := ⟨fun w' hb => cell_at (KC w' hb) (by rw [← HC.out]; rfl)⟩
 clear hb1 KC
 go_wp2_with fail
 clear cK cL
 obtain ⟨B0, hB0⟩ : ∃ x, u1.heap.size = x := ⟨_, rfl⟩
 rw [hB0] at KE
 have HB0 := Away.mk hB0
 have HwB : Away (w.heap.size ≤ B0) := ⟨by have := B1.out.size; omega⟩
 clear hB0
 by_cases h1 : okS (two p q ln) e e (ln + kn)
 rotate_left
 ·have hVe : Away (V = .tuple #[.string ⟨#[]⟩, .int .i64 6]) := ⟨by rw [← HV.out]; unfold resK; rw [if_neg fun hx => h1 ((okS_two p q e e ln kn).2 ⟨hx.1, hx.2.1⟩)]⟩
  have hres : Away (resS ByteArray.empty (two p q ln) e e (ln + kn) = .tuple #[.string ⟨#[]⟩, .int .i64 6]) := ⟨by unfold resS; rw [if_neg h1]⟩
  clear h1
  refine hk_begin B0 15 [1, 3, 5, 6, 7, 8, 0, 2, 4, 9, 10, 11, 12, 13, 14] (by kernel_rfl) rfl rfl (by decide) (fun hS ops HO => ?_)
  simp only [List.filterMap_cons, List.filterMap_nil, List.getElem?_cons_succ, List.getElem?_cons_zero]
  (focus (refine hk_take (v := ?_) (by rw [← HO.out]; kernel_rfl) (by rw [← HO.out]; kernel_rfl) (by rw [← HO.out]; kernel_rfl) (by rw [← HO.out]; kernel_rfl) (fun _ _ _ h => h) ?_ hS ?_; rotate_left; focus (intro w9 h9; go_simp; first | done | with_reducible rfl); all_goals skip))
  simp only [Act.put, List.setIfInBounds_toArray, List.set_cons_zero, List.set_cons_succ]
  (focus (refine hk_take (v := ?_) (by rw [← HO.out]; kernel_rfl) (by rw [← HO.out]; kernel_rfl) (by rw [← HO.out]; kernel_rfl) (by rw [← HO.out]; kernel_rfl) (fun _ _ _ h => h) ?_ hS ?_; rotate_left; focus (intro w9 h9; go_simp; first | done | with_reducible rfl); all_goals skip))
  simp only [Act.put, List.setIfInBounds_toArray, List.set_cons_zero, List.set_cons_succ]
  (focus (refine hk_take (v := ?_) (by rw [← HO.out]; kernel_rfl) (by rw [← HO.out]; kernel_rfl) (by rw [← HO.out]; kernel_rfl) (by rw [← HO.out]; kernel_rfl) (fun _ _ _ h => h) ?_ hS ?_; rotate_left; focus (intro w9 h9; go_simp; first | done | with_reducible rfl); all_goals skip))
  simp only [Act.put, List.setIfInBounds_toArray, List.set_cons_zero, List.set_cons_succ]
  (focus (refine hk_take (v := ?_) (by rw [← HO.out]; kernel_rfl) (by rw [← HO.out]; kernel_rfl) (by rw [← HO.out]; kernel_rfl) (by rw [← HO.out]; kernel_rfl) (fun _ _ _ h => h) ?_ hS ?_; rotate_left; focus (intro w9 h9; have hc := KE.out w9 h9; go_simp; first | done | with_reducible rfl); all_goals skip))
  simp only [Act.put, List.setIfInBounds_toArray, List.set_cons_zero, List.set_cons_succ]
  (focus (refine hk_take (v := ?_) (by rw [← HO.out]; kernel_rfl) (by rw [← HO.out]; kernel_rfl) (by rw [← HO.out]; kernel_rfl) (by rw [← HO.out]; kernel_rfl) (fun _ _ _ h => h) ?_ hS ?_; rotate_left; focus (intro w9 h9; go_simp; first | done | with_reducible rfl); all_goals skip))
  simp only [Act.put, List.setIfInBounds_toArray, List.set_cons_zero, List.set_cons_succ]
  (focus (refine hk_take (v := ?_) (by rw [← HO.out]; kernel_rfl) (by rw [← HO.out]; kernel_rfl) (by rw [← HO.out]; kernel_rfl) (by rw [← HO.out]; kernel_rfl) (fun _ _ _ h => h) ?_ hS ?_; rotate_left; focus (intro w9 h9; have hc := KE.out w9 h9; go_simp; first | done | with_reducible rfl); all_goals skip))
  simp only [Act.put, List.setIfInBounds_toArray, List.set_cons_zero, List.set_cons_succ]
  refine hk_step (by rw [← HO.out]; kernel_rfl) (by rw [← HO.out]; kernel_rfl) (fun K hK => ?_)
  go_simp
  obtain ⟨w2, hw2⟩ : ∃ x, (u1.alloc (.cells #[] 25)).drew = x := ⟨_, rfl⟩
  have r2 : w2.heap[B0]? = some (.cells #[] 25 (0, 0)) := by rw [← hw2, ← HB0.out]; exact heap_at _ _ _ rfl
  have h2 : Below B0 u1 w2 := by rw [← hw2, ← HB0.out]; exact (below_alloc _ _).drew
  rw [hw2]
  refine hK _ _ h2 ?_
  clear hK K
  rw [HB0.out]
  have own0 : w2.ownsRow B0 25 256 (.slice (some ⟨B0, 0, none⟩) 0 0) 0 [] := ⟨rfl, Or.inr ⟨B0, 0, #[], rfl, Nat.le_refl _, r2, Nat.le_refl _, by unfold maxLen; omega, rfl, rfl⟩⟩
  refine hk_step (by rw [← HO.out]; kernel_rfl) (by rw [← HO.out]; kernel_rfl) (fun K hK => ?_)
  refine wp_append_own w2 _ _ 45 rfl B0 25 i0 (.agg z) 256 2048 Tryz.underlying45 HI.out.1 HI.out.2.1 HI.out.2.2.1 HI.out.2.2.2 Hzc.out (by decide) _ 0 [] rfl own0 ⟨ga, 0, none⟩ ln ca (cq p ln) rfl (by rw [cq_length]; omega) (holds_news (HA.out.later (B1.out.trans (h2.mono HwB.out)))) (cq_one _ _) (by unfold maxLen; have := Hl.out; omega) (by have := Hl.out; omega) (Nat.le_of_lt (lt_of_row r2)) ?_
  intro v3 w3 hown3 hgr3 _
  have h3 : Below B0 u1 w3 := h2.trans ((Below.refl B0 w2).grown hgr3 (Nat.le_of_lt (lt_of_row r2)) (fun k hk => (own0.lt k hk).1))
  refine hK _ _ h3 ?_
  clear hK K
  simp only [Act.put, List.setIfInBounds_toArray, List.set_cons_zero, List.set_cons_succ]
  refine hk_step (by rw [← HO.out]; kernel_rfl) (by rw [← HO.out]; kernel_rfl) (fun K hK => ?_)
  refine wp_append_own w3 _ _ 45 rfl B0 25 i0 (.agg z) 256 2048 Tryz.underlying45 HI.out.1 HI.out.2.1 HI.out.2.2.1 HI.out.2.2.2 Hzc.out (by decide) _ (0 + ln) ([] ++ cq p ln) rfl hown3 ⟨gb, 0, none⟩ kn cb (cq q kn) rfl (by rw [cq_length]; omega) (holds_news (HB.out.later (B1.out.trans (h3.mono HwB.out)))) (cq_one _ _) (by unfold maxLen; have := Hl.out; have := Hk.out; omega) (by have := Hl.out; have := Hk.out; omega) (Nat.le_trans (Nat.le_of_lt (lt_of_row r2)) hgr3.size) ?_
  intro v4 w4 hown4 hgr4 _
  have h4 : Below B0 u1 w4 := h3.trans ((Below.refl B0 w3).grown hgr4 (Nat.le_trans (Nat.le_of_lt (lt_of_row r2)) hgr3.size) (fun k hk => (hown3.lt k hk).1))
  have hown5 := hown4
  rw [List.nil_append, cq_two, Nat.zero_add] at hown5
  have hH5 : Holds w4 B0 v4 (ln + kn) (two p q ln) := saml.own_holds (by have := Hl.out; omega) hown5
  refine hK _ _ h4 ?_
  clear hK K
  simp only [Act.put, List.setIfInBounds_toArray, List.set_cons_zero, List.set_cons_succ]
  refine hk_step (by rw [← HO.out]; kernel_rfl) (by rw [← HO.out]; kernel_rfl) (fun K hK => ?_)
  go_simp
  have HLa := HL1.out B0 v4 w4 hH5
  rw [hres.out] at HLa
  refine HLa.mono ?_
  rintro x w5 ⟨rfl, hb5⟩
  have h5 : Below B0 u1 w5 := h4.trans (hb5.mono (by have := h4.size; rw [HB0.out] at this; exact this))
  refine hK _ _ h5 ?_
  clear hK K HLa
  (focus (refine hk_take (v := ?_) (by rw [← HO.out]; kernel_rfl) (by rw [← HO.out]; kernel_rfl) (by rw [← HO.out]; kernel_rfl) (by rw [← HO.out]; kernel_rfl) (fun _ _ _ h => h) ?_ h5 ?_; rotate_left; focus (intro w9 h9; go_simp; first | done | with_reducible rfl); all_goals skip))
  simp only [Act.put, List.setIfInBounds_toArray, List.set_cons_zero, List.set_cons_succ]
  (focus (refine hk_take (v := ?_) (by rw [← HO.out]; kernel_rfl) (by rw [← HO.out]; kernel_rfl) (by rw [← HO.out]; kernel_rfl) (by rw [← HO.out]; kernel_rfl) (fun _ _ _ h => h) ?_ h5 ?_; rotate_left; focus (intro w9 h9; go_simp; first | done | with_reducible rfl); all_goals skip))
  simp only [Act.put, List.setIfInBounds_toArray, List.set_cons_zero, List.set_cons_succ]
  (focus (refine hk_take (v := ?_) (by rw [← HO.out]; kernel_rfl) (by rw [← HO.out]; kernel_rfl) (by rw [← HO.out]; kernel_rfl) (by rw [← HO.out]; kernel_rfl) (fun _ _ _ h => h) ?_ h5 ?_; rotate_left; focus (intro w9 h9; go_simp; first | done | with_reducible rfl); all_goals skip))
  simp only [Act.put, List.setIfInBounds_toArray, List.set_cons_zero, List.set_cons_succ]
  (focus (refine hk_take (v := ?_) (by rw [← HO.out]; kernel_rfl) (by rw [← HO.out]; kernel_rfl) (by rw [← HO.out]; kernel_rfl) (by rw [← HO.out]; kernel_rfl) (fun _ _ _ h => h) ?_ h5 ?_; rotate_left; focus (intro w9 h9; go_simp; first | done | with_reducible rfl); all_goals skip))
  simp only [Act.put, List.setIfInBounds_toArray, List.set_cons_zero, List.set_cons_succ]
  (focus (refine hk_take (v := ?_) (by rw [← HO.out]; kernel_rfl) (by rw [← HO.out]; kernel_rfl) (by rw [← HO.out]; kernel_rfl) (by rw [← HO.out]; kernel_rfl) (fun _ _ _ h => h) ?_ h5 ?_; rotate_left; focus (intro w9 h9; go_simp; first | done | with_reducible rfl); all_goals skip))
  simp only [Act.put, List.setIfInBounds_toArray, List.set_cons_zero, List.set_cons_succ]
  refine hk_nil (by rw [← HO.out]; kernel_rfl) ?_
  obtain ⟨w5, hw5⟩ : ∃ x, w5 = x := ⟨_, rfl⟩
  subst hw5
  have BF : Away (Below w.heap.size w w5) := ⟨B1.out.trans (h5.mono HwB.out)⟩
  clear hown3 hown4 hown5 hH5 hgr3 hgr4 h2 h3 h4 h5 hb5 own0 r2 hw2 hS HO
  go_wp2_with fail
  go_ret2
  exact ⟨by rw [hVe.out]; rfl, BF.out⟩
 have hres : Away (resS ByteArray.empty (two p q ln) e e (ln + kn) = .tuple #[.string (laidS ByteArray.empty (two p q ln) e e (ln + kn)), .int .i64 0]) := ⟨by unfold resS; rw [if_pos h1]⟩
 have HX0 : Away ((laidS ByteArray.empty (two p q ln) e e (ln + kn)).size ≤ 20000) := ⟨by
  rw [laidS_size]
  have := (lb_eta e He.out).2.2
  have h16 : 32 * lb (e + e).toNat * (ln + kn) ≤ 128 * 16 := Nat.mul_le_mul (by omega) (by have := Hk.out; have := Hl.out; omega)
  show 0 + _ ≤ _
  omega⟩
 obtain ⟨X, HX⟩ := ex_eq (laidS ByteArray.empty (two p q ln) e e (ln + kn))
 rw [HX.out] at hres HX0
 have H1 := Away.mk h1
 clear h1
 refine hk_begin B0 15 [1, 3, 5, 6, 7, 8, 0, 2, 4, 9, 10, 11, 12, 13, 14] (by kernel_rfl) rfl rfl (by decide) (fun hS ops HO => ?_)
 simp only [List.filterMap_cons, List.filterMap_nil, List.getElem?_cons_succ, List.getElem?_cons_zero]
 (focus (refine hk_take (v := ?_) (by rw [← HO.out]; kernel_rfl) (by rw [← HO.out]; kernel_rfl) (by rw [← HO.out]; kernel_rfl) (by rw [← HO.out]; kernel_rfl) (fun _ _ _ h => h) ?_ hS ?_; rotate_left; focus (intro w9 h9; go_simp; first | done | with_reducible rfl); all_goals skip))
 simp only [Act.put, List.setIfInBounds_toArray, List.set_cons_zero, List.set_cons_succ]
 (focus (refine hk_take (v := ?_) (by rw [← HO.out]; kernel_rfl) (by rw [← HO.out]; kernel_rfl) (by rw [← HO.out]; kernel_rfl) (by rw [← HO.out]; kernel_rfl) (fun _ _ _ h => h) ?_ hS ?_; rotate_left; focus (intro w9 h9; go_simp; first | done | with_reducible rfl); all_goals skip))
 simp only [Act.put, List.setIfInBounds_toArray, List.set_cons_zero, List.set_cons_succ]
 (focus (refine hk_take (v := ?_) (by rw [← HO.out]; kernel_rfl) (by rw [← HO.out]; kernel_rfl) (by rw [← HO.out]; kernel_rfl) (by rw [← HO.out]; kernel_rfl) (fun _ _ _ h => h) ?_ hS ?_; rotate_left; focus (intro w9 h9; go_simp; first | done | with_reducible rfl); all_goals skip))
 simp only [Act.put, List.setIfInBounds_toArray, List.set_cons_zero, List.set_cons_succ]
 (focus (refine hk_take (v := ?_) (by rw [← HO.out]; kernel_rfl) (by rw [← HO.out]; kernel_rfl) (by rw [← HO.out]; kernel_rfl) (by rw [← HO.out]; kernel_rfl) (fun _ _ _ h => h) ?_ hS ?_; rotate_left; focus (intro w9 h9; have hc := KE.out w9 h9; go_simp; first | done | with_reducible rfl); all_goals skip))
 simp only [Act.put, List.setIfInBounds_toArray, List.set_cons_zero, List.set_cons_succ]
 (focus (refine hk_take (v := ?_) (by rw [← HO.out]; kernel_rfl) (by rw [← HO.out]; kernel_rfl) (by rw [← HO.out]; kernel_rfl) (by rw [← HO.out]; kernel_rfl) (fun _ _ _ h => h) ?_ hS ?_; rotate_left; focus (intro w9 h9; go_simp; first | done | with_reducible rfl); all_goals skip))
 simp only [Act.put, List.setIfInBounds_toArray, List.set_cons_zero, List.set_cons_succ]
 (focus (refine hk_take (v := ?_) (by rw [← HO.out]; kernel_rfl) (by rw [← HO.out]; kernel_rfl) (by rw [← HO.out]; kernel_rfl) (by rw [← HO.out]; kernel_rfl) (fun _ _ _ h => h) ?_ hS ?_; rotate_left; focus (intro w9 h9; have hc := KE.out w9 h9; go_simp; first | done | with_reducible rfl); all_goals skip))
 simp only [Act.put, List.setIfInBounds_toArray, List.set_cons_zero, List.set_cons_succ]
 refine hk_step (by rw [← HO.out]; kernel_rfl) (by rw [← HO.out]; kernel_rfl) (fun K hK => ?_)
 go_simp
 obtain ⟨w2, hw2⟩ : ∃ x, (u1.alloc (.cells #[] 25)).drew = x := ⟨_, rfl⟩
 have r2 : w2.heap[B0]? = some (.cells #[] 25 (0, 0)) := by rw [← hw2, ← HB0.out]; exact heap_at _ _ _ rfl
 have h2 : Below B0 u1 w2 := by rw [← hw2, ← HB0.out]; exact (below_alloc _ _).drew
 rw [hw2]
 refine hK _ _ h2 ?_
 clear hK K
 rw [HB0.out]
 have own0 : w2.ownsRow B0 25 256 (.slice (some ⟨B0, 0, none⟩) 0 0) 0 [] := ⟨rfl, Or.inr ⟨B0, 0, #[], rfl, Nat.le_refl _, r2, Nat.le_refl _, by unfold maxLen; omega, rfl, rfl⟩⟩
 refine hk_step (by rw [← HO.out]; kernel_rfl) (by rw [← HO.out]; kernel_rfl) (fun K hK => ?_)
 refine wp_append_own w2 _ _ 45 rfl B0 25 i0 (.agg z) 256 2048 Tryz.underlying45 HI.out.1 HI.out.2.1 HI.out.2.2.1 HI.out.2.2.2 Hzc.out (by decide) _ 0 [] rfl own0 ⟨ga, 0, none⟩ ln ca (cq p ln) rfl (by rw [cq_length]; omega) (holds_news (HA.out.later (B1.out.trans (h2.mono HwB.out)))) (cq_one _ _) (by unfold maxLen; have := Hl.out; omega) (by have := Hl.out; omega) (Nat.le_of_lt (lt_of_row r2)) ?_
 intro v3 w3 hown3 hgr3 _
 have h3 : Below B0 u1 w3 := h2.trans ((Below.refl B0 w2).grown hgr3 (Nat.le_of_lt (lt_of_row r2)) (fun k hk => (own0.lt k hk).1))
 refine hK _ _ h3 ?_
 clear hK K
 simp only [Act.put, List.setIfInBounds_toArray, List.set_cons_zero, List.set_cons_succ]
 refine hk_step (by rw [← HO.out]; kernel_rfl) (by rw [← HO.out]; kernel_rfl) (fun K hK => ?_)
 refine wp_append_own w3 _ _ 45 rfl B0 25 i0 (.agg z) 256 2048 Tryz.underlying45 HI.out.1 HI.out.2.1 HI.out.2.2.1 HI.out.2.2.2 Hzc.out (by decide) _ (0 + ln) ([] ++ cq p ln) rfl hown3 ⟨gb, 0, none⟩ kn cb (cq q kn) rfl (by rw [cq_length]; omega) (holds_news (HB.out.later (B1.out.trans (h3.mono HwB.out)))) (cq_one _ _) (by unfold maxLen; have := Hl.out; have := Hk.out; omega) (by have := Hl.out; have := Hk.out; omega) (Nat.le_trans (Nat.le_of_lt (lt_of_row r2)) hgr3.size) ?_
 intro v4 w4 hown4 hgr4 _
 have h4 : Below B0 u1 w4 := h3.trans ((Below.refl B0 w3).grown hgr4 (Nat.le_trans (Nat.le_of_lt (lt_of_row r2)) hgr3.size) (fun k hk => (hown3.lt k hk).1))
 have hown5 := hown4
 rw [List.nil_append, cq_two, Nat.zero_add] at hown5
 have hH5 : Holds w4 B0 v4 (ln + kn) (two p q ln) := saml.own_holds (by have := Hl.out; omega) hown5
 refine hK _ _ h4 ?_
 clear hK K
 simp only [Act.put, List.setIfInBounds_toArray, List.set_cons_zero, List.set_cons_succ]
 refine hk_step (by rw [← HO.out]; kernel_rfl) (by rw [← HO.out]; kernel_rfl) (fun K hK => ?_)
 go_simp
 have HLa := HL1.out B0 v4 w4 hH5
 rw [hres.out] at HLa
 refine HLa.mono ?_
 rintro x w5 ⟨rfl, hb5⟩
 have h5 : Below B0 u1 w5 := h4.trans (hb5.mono (by have := h4.size; rw [HB0.out] at this; exact this))
 refine hK _ _ h5 ?_
 clear hK K HLa
 (focus (refine hk_take (v := ?_) (by rw [← HO.out]; kernel_rfl) (by rw [← HO.out]; kernel_rfl) (by rw [← HO.out]; kernel_rfl) (by rw [← HO.out]; kernel_rfl) (fun _ _ _ h => h) ?_ h5 ?_; rotate_left; focus (intro w9 h9; go_simp; first | done | with_reducible rfl); all_goals skip))
 simp only [Act.put, List.setIfInBounds_toArray, List.set_cons_zero, List.set_cons_succ]
 (focus (refine hk_take (v := ?_) (by rw [← HO.out]; kernel_rfl) (by rw [← HO.out]; kernel_rfl) (by rw [← HO.out]; kernel_rfl) (by rw [← HO.out]; kernel_rfl) (fun _ _ _ h => h) ?_ h5 ?_; rotate_left; focus (intro w9 h9; go_simp; first | done | with_reducible rfl); all_goals skip))
 simp only [Act.put, List.setIfInBounds_toArray, List.set_cons_zero, List.set_cons_succ]
 (focus (refine hk_take (v := ?_) (by rw [← HO.out]; kernel_rfl) (by rw [← HO.out]; kernel_rfl) (by rw [← HO.out]; kernel_rfl) (by rw [← HO.out]; kernel_rfl) (fun _ _ _ h => h) ?_ h5 ?_; rotate_left; focus (intro w9 h9; go_simp; first | done | with_reducible rfl); all_goals skip))
 simp only [Act.put, List.setIfInBounds_toArray, List.set_cons_zero, List.set_cons_succ]
 (focus (refine hk_take (v := ?_) (by rw [← HO.out]; kernel_rfl) (by rw [← HO.out]; kernel_rfl) (by rw [← HO.out]; kernel_rfl) (by rw [← HO.out]; kernel_rfl) (fun _ _ _ h => h) ?_ h5 ?_; rotate_left; focus (intro w9 h9; go_simp; first | done | with_reducible rfl); all_goals skip))
 simp only [Act.put, List.setIfInBounds_toArray, List.set_cons_zero, List.set_cons_succ]
 (focus (refine hk_take (v := ?_) (by rw [← HO.out]; kernel_rfl) (by rw [← HO.out]; kernel_rfl) (by rw [← HO.out]; kernel_rfl) (by rw [← HO.out]; kernel_rfl) (fun _ _ _ h => h) ?_ h5 ?_; rotate_left; focus (intro w9 h9; go_simp; first | done | with_reducible rfl); all_goals skip))
 simp only [Act.put, List.setIfInBounds_toArray, List.set_cons_zero, List.set_cons_succ]
 refine hk_nil (by rw [← HO.out]; kernel_rfl) ?_
 obtain ⟨w5, hw5⟩ : ∃ x, w5 = x := ⟨_, rfl⟩
 subst hw5
 have BF : Away (Below w.heap.size w w5) := ⟨B1.out.trans (h5.mono HwB.out)⟩
 clear hown3 hown4 hown5 hH5 hgr3 hgr4 h2 h3 h4 h5 hb5 own0 r2 hw2 hS HO
 by_cases h2 : okS lo 4095 4096 kn
 ·have hres2 : Away (resS ByteArray.empty lo 4095 4096 kn = .tuple #[.string (laidS ByteArray.empty lo 4095 4096 kn), .int .i64 0]) := ⟨by unfold resS; rw [if_pos h2]⟩
  have HY0 : Away ((laidS ByteArray.empty lo 4095 4096 kn).size ≤ 20000) := ⟨by
   rw [laidS_size, lb_low]
   show 0 + _ ≤ _
   have := Hk.out
   omega⟩
  have hVe : Away (V = .tuple #[.string (hd ++ X ++ laidS ByteArray.empty lo 4095 4096 kn), .int .i64 0]) := ⟨by
   rw [← HV.out, ← HX.out, laid_two]
   unfold resK
   have h3 := (okS_two p q e e ln kn).1 H1.out
   rw [if_pos ⟨h3.1, h3.2, h2⟩]
   rfl⟩
  obtain ⟨Y, HY⟩ := ex_eq (laidS ByteArray.empty lo 4095 4096 kn)
  rw [HY.out] at hres2 HY0 hVe
  have hsx : ¬ 9223372036854775807 < hd.size + X.size := by have := HX0.out; have := Hhd.out; omega
  have hsy : ¬ 9223372036854775807 < hd.size + X.size + Y.size := by have := HX0.out; have := HY0.out; have := Hhd.out; omega
  clear h2
  go_wp2_with fail
  have HL2a := HL2.out w5 (HLo.out.later BF.out)
  rw [hres2.out] at HL2a
  refine HL2a.mono ?_
  rintro x w7 ⟨rfl, hb7⟩
  have BG : Away (Below w.heap.size w w7) := ⟨BF.out.trans (hb7.mono BF.out.size)⟩
  clear hb7 HL2a
  go_wp2_with fail
  go_ret2
  exact ⟨by rw [hVe.out]; rfl, BG.out⟩
 ·have hres2 : Away (resS ByteArray.empty lo 4095 4096 kn = .tuple #[.string ⟨#[]⟩, .int .i64 6]) := ⟨by unfold resS; rw [if_neg h2]⟩
  have hVe : Away (V = .tuple #[.string ⟨#[]⟩, .int .i64 6]) := ⟨by rw [← HV.out]; unfold resK; rw [if_neg fun hx => h2 hx.2.2]⟩
  clear h2
  go_wp2_with fail
  have HL2a := HL2.out w5 (HLo.out.later BF.out)
  rw [hres2.out] at HL2a
  refine HL2a.mono ?_
  rintro x w7 ⟨rfl, hb7⟩
  have BG : Away (Below w.heap.size w w7) := ⟨BF.out.trans (hb7.mono BF.out.size)⟩
  clear hb7 HL2a
  go_wp2_with fail
  go_ret2
  exact ⟨by rw [hVe.out]; rfl, BG.out⟩
end rksb
namespace rksd
set_option linter.unusedSimpArgs false
open Go Go.RowKit
open arr mem stil polt rndm
end rksd
end Go.Proofs.YtlcafjdehcddcaaGreatDoor
namespace Go.Proofs.YtlcafjdehcddcaaGreatDoor
namespace rfld
open Go Go.RowKit
open arr mem fldm
set_option maxRecDepth 100000 in
set_option maxHeartbeats 1000000 in
theorem reduce_any (x : Int) (w : World) : Calls Tryz.prog 89 #[.int .i64 x] w fun e w' => e = .returned (.int .i64 (x % 8380417)) ∧ w' = w := by
 obtain ⟨z, hz⟩ : ∃ z, x % 8380417 = z := ⟨_, rfl⟩
 obtain ⟨y, hy⟩ : ∃ y, x.tmod 8380417 = y := ⟨_, rfl⟩
 have h := tmod_is x 8380417 (by decide)
 have hb : 0 ≤ z ∧ z < 8380417 := by omega
 rw [hz, hy] at h
 rw [hz]
 rcases h with ⟨h1, h2⟩ | ⟨h1, h2⟩
 ·subst h2
  have h3 : ¬ y < 0 := by omega
  clear hz hb
  go_enter Tryz.func89, Tryz.ntmps89
  go_wp2_with fail
  go_ret
  exact ⟨rfl, rfl⟩
 ·have hw : IntKind.i64.wrap (y + 8380417) = z := by rw [IntKind.wrap_i64]; omega
  have h2' := Away.mk h2
  clear hz hb h2
  go_enter Tryz.func89, Tryz.ntmps89
  go_wp2_with fail
  go_ret
  exact ⟨by first | rfl | rw [← h2'.out], rfl⟩
end rfld
end Go.Proofs.YtlcafjdehcddcaaGreatDoor
