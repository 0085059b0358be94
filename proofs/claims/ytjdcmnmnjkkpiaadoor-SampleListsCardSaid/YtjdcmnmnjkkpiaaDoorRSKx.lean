/-
  What the document's own Masks of layer 11 returns. Conditions: the tables have their size; what its callees return is handed in.
  What the document's own Matrix of layer 11 returns. Conditions: the tables have their size; what its Uniform returns is handed in.
-/
import Derived.Test.YtjdcmnmnjkkpiaaDoorPuA
import Derived.Test.YtjdcmnmnjkkpiaaDoorRfZ
namespace Go.Proofs.YtjdcmnmnjkkpiaaDoor.rsmsk
open Go Go.RowKit
open Go.Proofs.YtjdcmnmnjkkpiaaDoor.arr Go.Proofs.YtjdcmnmnjkkpiaaDoor.mem Go.Proofs.YtjdcmnmnjkkpiaaDoor.stil Go.Proofs.YtjdcmnmnjkkpiaaDoor.polys Go.Proofs.YtjdcmnmnjkkpiaaDoor.polt Go.Proofs.YtjdcmnmnjkkpiaaDoor.rbitb Go.Proofs.YtjdcmnmnjkkpiaaDoor.rbitc Go.Proofs.YtjdcmnmnjkkpiaaDoor.rndm Go.Proofs.YtjdcmnmnjkkpiaaDoor.saml

set_option maxRecDepth 100000 in
set_option maxHeartbeats 4000000 in
theorem masks_no {T : Array Value} (k l e t a b o s fr : Int) (sd : ByteArray) (w : World) (h : latt k l e t a b o s = false ∨ fr < 0 ∨ 65000 < fr) :
    Calls Tryd.prog 20 #[.agg T, .agg #[.int .i64 k, .int .i64 l, .int .i64 e, .int .i64 t, .int .i64 a, .int .i64 b, .int .i64 o, .int .i64 s], .string sd, .int .i64 fr] w fun x w' => x = .returned (.slice none 0 0) ∧ Below w.heap.size w w' := by
  obtain ⟨c, hc⟩ : ∃ c, latt k l e t a b o s = c := ⟨_, rfl⟩
  rw [hc] at h
  have HR : Away (∀ w1 : World, Calls Tryd.prog 40 #[.agg #[.int .i64 k, .int .i64 l, .int .i64 e, .int .i64 t, .int .i64 a, .int .i64 b, .int .i64 o, .int .i64 s]] w1 fun e0 w' => e0 = .returned (.bool c) ∧ Below w1.heap.size w1 w') := ⟨fun w1 => by rw [← hc]; exact rfright.right_any k l e t a b o s w1⟩
  obtain ⟨W, hW⟩ : ∃ x, (w.alloc (.cells T 34)).alloc (.cells #[.int .i64 k, .int .i64 l, .int .i64 e, .int .i64 t, .int .i64 a, .int .i64 b, .int .i64 o, .int .i64 s] 41) = x := ⟨_, rfl⟩
  obtain ⟨r0, r1, hWs, b0⟩ := two hW
  have L0 : Away (W.heap[w.heap.size + 1]? = some (.cells #[.int .i64 k, .int .i64 l, .int .i64 e, .int .i64 t, .int .i64 a, .int .i64 b, .int .i64 o, .int .i64 s] 41 (0, 0))) := ⟨r1⟩
  have BW := Away.mk b0
  have HW := Away.mk hW
  have h : c = false ∨ (c = true ∧ (fr < 0 ∨ (¬ fr < 0 ∧ 65000 < fr))) := by
    cases c
    · exact Or.inl rfl
    · refine Or.inr ⟨rfl, ?_⟩
      rcases h with h | h | h
      · exact absurd h (by decide)
      · exact Or.inl h
      · exact Or.inr ⟨by omega, h⟩
  clear hW r0 r1 b0 hc
  rcases h with rfl | ⟨rfl, h1 | ⟨h1, h2⟩⟩
  all_goals
    go_enter Tryd.func20, Tryd.ntmps20
    go_wp2_with (first
      | (rw [HW.out])
      | (refine wpList_load_row rfl 41 _ rfl (w.heap.size + 1) rfl 41 _ (0, 0) _ L0.out Tryd.underlying41 rfl (by kernel_rfl) ?_))
    refine (HR.out _).mono ?_
    rintro x u1 ⟨rfl, hb1⟩
    have B1 : Away (Below w.heap.size w u1) := ⟨BW.out.trans (hb1.mono (by rw [hWs]; omega))⟩
    clear hb1
    go_wp2_with fail
    go_ret
    exact ⟨rfl, B1.out⟩
set_option maxRecDepth 100000 in
set_option maxHeartbeats 4000000 in
theorem masks_yes {T : Array Value} (ln fn lw m p : Nat) (k e t a b o s : Int) (sd : ByteArray) (sk : Nat → ByteArray) (q : Nat → Nat → Int) (w : World) (hT : (Tryd.prog.info? 34).map (·.size) = some T.size) (hl : 1 ≤ ln ∧ ln ≤ 8) (hf : fn ≤ 65000) (hlw : lw ≤ 64) (hm : lw + 1 = m) (hp : 32 * m = p) (ha : 1 ≤ a ∧ a ≤ 1048576) (h : latt k (ln : Int) e t a b o s = true) (hsd : sd.size ≤ 1125899906842624)
    (HL : ∀ w1 : World, Calls Tryd.prog 43 #[.int .i64 (a - 1)] w1 fun x w' => x = .returned (.int .i64 (lw : Int)) ∧ w' = w1)
    (HS : ∀ r : Nat, r < 8 → ∀ w1 : World, Calls Tryd.prog 34 #[.agg T, .int .i64 2, .string (tw sd ((fn + r) % 256) ((fn + r) / 256)), .int .i64 (p : Int)] w1 fun x w' => x = .returned (.tuple #[.string (sk r), .int .i64 0]) ∧ Below w1.heap.size w1 w')
    (HU : ∀ r : Nat, r < 8 → ∀ w1 : World, Calls Tryd.prog 44 #[.string (sk r), .int .i64 (a - 1), .int .i64 a] w1 fun x w' => x = .returned (.tuple #[.agg (FL .i64 256 (q r)), .int .i64 0]) ∧ Below w1.heap.size w1 w') :
    Calls Tryd.prog 20 #[.agg T, .agg #[.int .i64 k, .int .i64 (ln : Int), .int .i64 e, .int .i64 t, .int .i64 a, .int .i64 b, .int .i64 o, .int .i64 s], .string sd, .int .i64 (fn : Int)] w fun x w' => (∃ v1, x = .returned v1 ∧ w'.ownsRow w.heap.size 36 256 v1 ln (cq q ln)) ∧ Below w.heap.size w w' := by
  have HR : Away (∀ w1 : World, Calls Tryd.prog 40 #[.agg #[.int .i64 k, .int .i64 (ln : Int), .int .i64 e, .int .i64 t, .int .i64 a, .int .i64 b, .int .i64 o, .int .i64 s]] w1 fun e0 w' => e0 = .returned (.bool true) ∧ Below w1.heap.size w1 w') := ⟨fun w1 => by rw [← h]; exact rfright.right_any _ _ e t a b o s w1⟩
  obtain ⟨i0, hi, hz0, hz1, hz2⟩ := parts infoPoly
  obtain ⟨hz, hsize⟩ := zero_of_info polt.infoP
  obtain ⟨z, HZ⟩ := ex_eq (FL .i64 256 fun _ => 0)
  rw [HZ.out] at hz hz0
  have HI := Away.mk (And.intro hi (And.intro hz0 (And.intro hz1 hz2)))
  have Hzs : Away (z.size = 256) := ⟨by rw [← HZ.out]; exact fl_size _ _ _⟩
  have Hsize := Away.mk hsize
  clear hi hz0 hz1 hz2 hsize
  obtain ⟨C, HC⟩ := ex_eq (#[.int .i64 k, .int .i64 (ln : Int), .int .i64 e, .int .i64 t, .int .i64 a, .int .i64 b, .int .i64 o, .int .i64 s] : Array Value)
  rw [HC.out] at HR ⊢
  have HCs : Away ((Tryd.prog.info? 41).map (·.size) = some C.size) := ⟨by rw [← HC.out]; kernel_rfl⟩
  obtain ⟨W, hW⟩ : ∃ x, (w.alloc (.cells T 34)).alloc (.cells C 41) = x := ⟨_, rfl⟩
  obtain ⟨r0, r1, hWs, b0⟩ := two hW
  have T0 : Away (W.heap[w.heap.size]? = some (.cells T 34 (0, 0))) := ⟨r0⟩
  have L0 : Away (W.heap[w.heap.size + 1]? = some (.cells C 41 (0, 0))) := ⟨r1⟩
  have BW := Away.mk b0
  have HWs := Away.mk hWs
  have HW := Away.mk hW
  have HSm := Away.mk HS
  have HUn := Away.mk HU
  have HLo := Away.mk HL
  have HTz := Away.mk hT
  have Hl := Away.mk hl
  have Hsd := Away.mk hsd
  have Ha := Away.mk ha
  have Hlw := Away.mk hlw
  have g1 : ¬ (fn : Int) < 0 := by omega
  have g2 : ¬ (65000 : Int) < (fn : Int) := by omega
  clear hW r0 r1 b0 h HS HU HL hT hl hsd hWs ha hlw
  go_enter Tryd.func20, Tryd.ntmps20
  go_wp2_with (first
    | (rw [HW.out])
    | (refine wpList_load_row rfl 41 _ rfl (w.heap.size + 1) rfl 41 _ (0, 0) _ L0.out Tryd.underlying41 rfl HCs.out ?_))
  refine (HR.out _).mono ?_
  rintro x u1 ⟨rfl, hb1⟩
  have B1 : Away (Below w.heap.size w u1) := ⟨BW.out.trans (hb1.mono (by rw [HWs.out]; omega))⟩
  have T1 : Away (u1.heap[w.heap.size]? = some (.cells T 34 (0, 0))) := ⟨(hb1.block _ (by rw [HWs.out]; omega)).trans T0.out⟩
  have L1 : Away (u1.heap[w.heap.size + 1]? = some (.cells C 41 (0, 0))) := ⟨(hb1.block _ (by rw [HWs.out]; omega)).trans L0.out⟩
  have cL : ∀ w1 : World, Below u1.heap.size u1 w1 → w1.cell? ⟨w.heap.size + 1, 1, none⟩ = some (.int .i64 (ln : Int)) := fun w1 hb => cell_at ((hb.block _ (lt_of_row L1.out)).trans L1.out) (by rw [← HC.out]; rfl)
  have cA : ∀ w1 : World, Below u1.heap.size u1 w1 → w1.cell? ⟨w.heap.size + 1, 4, none⟩ = some (.int .i64 a) := fun w1 hb => cell_at ((hb.block _ (lt_of_row L1.out)).trans L1.out) (by rw [← HC.out]; rfl)
  have HcA := Away.mk cA
  have cA1 := cA u1 (Below.refl _ _)
  have cL1 := cL u1 (Below.refl _ _)
  have fa : IntKind.i64.wrap (a - 1) = a - 1 := by rw [IntKind.wrap_i64]; have := Ha.out; omega
  have flw : IntKind.i64.wrap ((lw : Int) + 1) = (m : Int) := by rw [IntKind.wrap_i64]; have := Hlw.out; omega
  have fmw : IntKind.i64.wrap (32 * (m : Int)) = (p : Int) := by rw [IntKind.wrap_i64]; have := Hlw.out; omega
  have fmp : 32 * (m : Int) = (p : Int) := by omega
  have hpz : p ≤ 2080 := by have := Hlw.out; omega
  have hpi : (p : Int) ≤ 2080 := by omega
  clear hm hp
  clear hb1 cL cA
  go_wp2_with fail
  refine (HLo.out _).mono ?_
  rintro x u1 ⟨rfl, rfl⟩
  go_wp2_with fail
  clear cA1 cL1
  go_loopw [10, 35] (fun x v wr => ∃ r : Nat, r ≤ ln ∧ v = .int .i64 (r : Int) ∧ Away (wr.ownsRow u1.heap.size 36 256 x r (cq q r)) ∧ Away (Below u1.heap.size u1 wr)) (fun _ v _ => ln - (intOf v).toNat)
  case atStart => exact ⟨0, Nat.zero_le _, rfl, ⟨⟨rfl, Or.inl ⟨rfl, rfl⟩⟩⟩, ⟨Below.refl _ _⟩⟩
  case round =>
    obtain ⟨r, hr, rfl, Ox, Hb⟩ := hrel
    by_cases hlt : r < ln
    · have hltz : (r : Int) < (ln : Int) := by omega
      have hr8 : r < 8 := by have := Hl.out; omega
      obtain ⟨n, hn⟩ : ∃ n, fn + r = n := ⟨_, rfl⟩
      obtain ⟨lo, hlo⟩ : ∃ lo, n % 256 = lo := ⟨_, rfl⟩
      obtain ⟨hi, hhi⟩ : ∃ hi, n / 256 = hi := ⟨_, rfl⟩
      have HSr := HSm.out r hr8
      rw [hn, hlo, hhi] at HSr
      have fnr : (fn : Int) + (r : Int) = (n : Int) := by omega
      have fnw : IntKind.i64.wrap ((fn : Int) + (r : Int)) = (n : Int) := by rw [fnr, IntKind.wrap_i64]; omega
      have flo : IntKind.u8.wrap (n : Int) = (lo : Int) := by rw [IntKind.wrap_u8]; omega
      have fhi : (n : Int) / 256 = (hi : Int) := by omega
      have fhw : IntKind.u8.wrap (hi : Int) = (hi : Int) := by rw [IntKind.wrap_u8]; omega
      have T2 : Away (wr.heap[w.heap.size]? = some (.cells T 34 (0, 0))) := ⟨(Hb.out.block _ (lt_of_row T1.out)).trans T1.out⟩
      obtain ⟨W2, hW2⟩ : ∃ x, wr.alloc (.cells #[.int .u8 (lo : Int), .int .u8 (hi : Int)] 5) = x := ⟨_, rfl⟩
      obtain ⟨r2, hs2, b2⟩ := one hW2
      have hcv := conv_lk (t := 5) (l := [lo, hi]) (cap := 2) (n := 2) rfl (by simp; omega) r2
      obtain ⟨X, hX⟩ : ∃ X : ByteArray, ⟨(u8s [lo, hi]).toArray⟩ = X := ⟨_, rfl⟩
      have hXs : X.size = 2 := by rw [← hX]; rfl
      have hcat : sd ++ X = tw sd lo hi := by rw [← hX]; rfl
      rw [hX] at hcv
      have B2 : Away (Below u1.heap.size u1 W2) := ⟨Hb.out.trans (b2.mono Hb.out.size)⟩
      have HW2 := Away.mk hW2
      have hsd := Hsd.out
      rw [← hcat] at HSr
      have HSr := Away.mk HSr
      have Hlt := Away.mk hlt
      clear hX hcat r2 hs2 b2 hW2 hn hlo hhi
      go_wp2_with fail
      refine wp_load_row 34 _ rfl w.heap.size rfl 34 T (0, 0) _ T2.out Tryd.underlying34 rfl HTz.out ?_
      go_wp2_with (rw [HW2.out])
      refine (HSr.out _).mono ?_
      rintro x1 w3 ⟨rfl, hb3⟩
      have B3 : Away (Below u1.heap.size u1 w3) := ⟨B2.out.trans (hb3.mono B2.out.size)⟩
      have D3 : Away (Below wr.heap.size wr w3) := ⟨by rw [← HW2.out] at hb3; exact (below_alloc _ _).trans (hb3.mono (by rw [size_alloc]; omega))⟩
      have cA3 := HcA.out w3 B3.out
      have HUr := HUn.out r hr8
      obtain ⟨F, HF⟩ := ex_eq (FL .i64 256 (q r))
      have Fs : Away (F.size = 256) := ⟨by rw [← HF.out]; exact fl_size _ _ _⟩
      have Fo : Away (F.all (·.oneCell') = true) := ⟨by rw [← HF.out]; exact fl_one _ _ _⟩
      have Fi : Away ((Tryd.prog.info? 36).map (·.size) = some F.size) := ⟨by rw [Fs.out]; exact Hsize.out⟩
      have Fz : Away (z.size = F.size) := ⟨by rw [Hzs.out, Fs.out]⟩
      rw [HF.out] at HUr
      have HUr := Away.mk HUr
      clear hb3 hcv fnr fnw flo fhi fhw fmw fmp hXs
      go_wp2_with fail
      refine (HUr.out _).mono ?_
      rintro x2 w5 ⟨rfl, hb5⟩
      have B5 : Away (Below u1.heap.size u1 w5) := ⟨B3.out.trans (hb5.mono B3.out.size)⟩
      have D5 : Away (Below wr.heap.size wr w5) := ⟨D3.out.trans (hb5.mono D3.out.size)⟩
      obtain ⟨W4, hW4⟩ : ∃ x, w5.alloc (.cells F 36) = x := ⟨_, rfl⟩
      obtain ⟨r4, hs4, b4⟩ := one hW4
      have B4 : Away (Below u1.heap.size u1 W4) := ⟨B5.out.trans (b4.mono B5.out.size)⟩
      have D4 : Away (Below wr.heap.size wr W4) := ⟨D5.out.trans (b4.mono D5.out.size)⟩
      have R4 : Away (W4.heap[w5.heap.size]? = some (.cells F 36 (0, 0))) := ⟨r4⟩
      have Oxp : Away (W4.ownsRow u1.heap.size 36 256 u10 r (cq q r)) := ⟨own_later Ox.out D4.out⟩
      have HW4 := Away.mk hW4
      have hws : u1.heap.size ≤ W4.heap.size := B4.out.size
      have HF0 : Away (∀ cs : Array Value, cs.size = 256 → Instr.fill (fun i => some (i * i0.size, i0.size)) cs [(0, .agg F)] = some F) := ⟨fun cs hc => by rw [HI.out.2.2.1]; exact fill_one F cs Fs.out hc⟩
      have Hzc : Away ((Value.agg z).cells.size = 256) := ⟨Hzs.out⟩
      clear hb5 hW4 r4 hs4 b4 Ox cA3
      go_wp2_with (first
        | (refine wpList_store_new rfl 36 _ _ rfl F rfl rfl Fi.out (by exact Fz.out) Fo.out rfl ?_)
        | (rw [HW4.out]))
      refine wp_load_row 36 _ rfl w5.heap.size rfl 36 F (0, 0) _ R4.out Tryd.underlying36 rfl Fi.out ?_
      go_wp2_with fail
      refine wp_buildSlice 44 36 1 _ rfl F i0 (.agg z) Tryd.underlying44 HI.out.1 HI.out.2.1 (by rw [HI.out.2.2.1]; decide) (by rw [HI.out.2.2.1]; decide) ?hf ?_
      case hf =>
        go_simp
        exact ⟨⟨decide_eq_false (fun h => h (Fs.out.trans HI.out.2.2.1.symm)), by rw [Fs.out, HI.out.2.2.1]; exact Nat.le_refl _⟩, fold_one F _ Fs.out (by simp [HI.out.2.2.1])⟩
      go_wp2_with (at_builtin; refine wpList_append_own _ rfl _ _ 44 rfl u1.heap.size 36 i0 (.agg z) 256 2048 Tryd.underlying44 HI.out.1 HI.out.2.1 HI.out.2.2.1 HI.out.2.2.2 Hzc.out (by decide) _ _ _ rfl (Oxp.out.alloc _) ⟨W4.heap.size, 0, none⟩ 1 1 F.toList rfl (by rw [Array.length_toList, Fs.out]) (fun j u hu => cell_at_new hu) (fun u hu => all_one Fo.out u hu) (by unfold maxLen; omega) (by omega) (by rw [size_alloc]; omega) ?_)
      intro v' w8 hown' hgrow _
      have hb8 : Below u1.heap.size W4 w8 := ((Below.refl u1.heap.size W4).alloc hws _).grown hgrow (by rw [size_alloc]; omega) (fun k hk => (Oxp.out.lt k hk).1)
      have B8 : Away (Below u1.heap.size u1 w8) := ⟨B4.out.trans hb8⟩
      have O8 : Away (w8.ownsRow u1.heap.size 36 256 v' (r + 1) (cq q (r + 1))) := ⟨by rw [cq, HF.out]; exact hown'⟩
      clear hown' hgrow hb8
      go_wp2_with fail
      go_roundw
      case rel => exact ⟨r + 1, by have := Hlt.out; omega, by go_num, O8, B8⟩
      case measure => have := Hlt.out; simp [intOf]; omega
    · obtain rfl : r = ln := by omega
      have Fx : Away (wr.ownsRow w.heap.size 36 256 u10 r (cq q r)) := ⟨own_base Ox.out B1.out.size⟩
      clear Ox
      go_wp2_with fail
      go_ret
      exact ⟨⟨_, rfl, Fx.out⟩, B1.out.trans (Hb.out.mono B1.out.size)⟩
end Go.Proofs.YtjdcmnmnjkkpiaaDoor.rsmsk

namespace Go.Proofs.YtjdcmnmnjkkpiaaDoor.rsmat
open Go Go.RowKit
open Go.Proofs.YtjdcmnmnjkkpiaaDoor.arr Go.Proofs.YtjdcmnmnjkkpiaaDoor.mem Go.Proofs.YtjdcmnmnjkkpiaaDoor.stil Go.Proofs.YtjdcmnmnjkkpiaaDoor.polys Go.Proofs.YtjdcmnmnjkkpiaaDoor.polt Go.Proofs.YtjdcmnmnjkkpiaaDoor.rbitb Go.Proofs.YtjdcmnmnjkkpiaaDoor.rbitc Go.Proofs.YtjdcmnmnjkkpiaaDoor.rndm Go.Proofs.YtjdcmnmnjkkpiaaDoor.saml Go.Proofs.YtjdcmnmnjkkpiaaDoor.samr

theorem infoSl : (Tryd.prog.info? 44).map (fun i => (i.zero, i.size, i.bytes)) = some (some (.slice none 0 0), 1, 24) := by kernel_rfl
set_option maxRecDepth 100000 in
set_option maxHeartbeats 4000000 in
theorem matrix_no {T : Array Value} (k l e t a b o s : Int) (sd : ByteArray) (w : World) (h : latt k l e t a b o s = false) :
    Calls Tryd.prog 15 #[.agg T, .agg #[.int .i64 k, .int .i64 l, .int .i64 e, .int .i64 t, .int .i64 a, .int .i64 b, .int .i64 o, .int .i64 s], .string sd] w fun x w' => x = .returned (.slice none 0 0) ∧ Below w.heap.size w w' := by
  have HR : Away (∀ w1 : World, Calls Tryd.prog 40 #[.agg #[.int .i64 k, .int .i64 l, .int .i64 e, .int .i64 t, .int .i64 a, .int .i64 b, .int .i64 o, .int .i64 s]] w1 fun e0 w' => e0 = .returned (.bool false) ∧ Below w1.heap.size w1 w') := ⟨fun w1 => by rw [← h]; exact rfright.right_any k l e t a b o s w1⟩
  obtain ⟨W, hW⟩ : ∃ x, (w.alloc (.cells T 34)).alloc (.cells #[.int .i64 k, .int .i64 l, .int .i64 e, .int .i64 t, .int .i64 a, .int .i64 b, .int .i64 o, .int .i64 s] 41) = x := ⟨_, rfl⟩
  obtain ⟨r0, r1, hWs, b0⟩ := two hW
  have L0 : Away (W.heap[w.heap.size + 1]? = some (.cells #[.int .i64 k, .int .i64 l, .int .i64 e, .int .i64 t, .int .i64 a, .int .i64 b, .int .i64 o, .int .i64 s] 41 (0, 0))) := ⟨r1⟩
  have BW := Away.mk b0
  have HW := Away.mk hW
  clear hW r0 r1 b0 h
  go_enter Tryd.func15, Tryd.ntmps15
  go_wp2_with (first
    | (rw [HW.out])
    | (refine wpList_load_row rfl 41 _ rfl (w.heap.size + 1) rfl 41 _ (0, 0) _ L0.out Tryd.underlying41 rfl (by kernel_rfl) ?_))
  refine (HR.out _).mono ?_
  rintro x u1 ⟨rfl, hb1⟩
  have B1 : Away (Below w.heap.size w u1) := ⟨BW.out.trans (hb1.mono (by rw [hWs]; omega))⟩
  clear hb1
  go_wp2_with fail
  go_ret
  exact ⟨rfl, B1.out⟩
set_option maxRecDepth 100000 in
set_option maxHeartbeats 4000000 in
theorem matrix_yes {T : Array Value} (kn ln : Nat) (e t a b o s : Int) (sd : ByteArray) (q : Nat → Nat → Nat → Int) (w : World) (hT : (Tryd.prog.info? 34).map (·.size) = some T.size) (hk : 1 ≤ kn ∧ kn ≤ 8) (hl : 1 ≤ ln ∧ ln ≤ 8) (h : latt (kn : Int) (ln : Int) e t a b o s = true) (hsd : sd.size ≤ 1125899906842624)
    (HS : ∀ r c : Nat, r < 8 → c < 8 → ∀ w1 : World, Calls Tryd.prog 9 #[.agg T, .string (tw sd c r)] w1 fun x w' => x = .returned (.agg (FL .i64 256 (q r c))) ∧ Below w1.heap.size w1 w') :
    Calls Tryd.prog 15 #[.agg T, .agg #[.int .i64 (kn : Int), .int .i64 (ln : Int), .int .i64 e, .int .i64 t, .int .i64 a, .int .i64 b, .int .i64 o, .int .i64 s], .string sd] w fun x w' => (∃ v vs, x = .returned v ∧ w'.ownsRow w.heap.size 44 1 v kn vs ∧ Rowl w' w.heap.size v.ownBlock vs ln q) ∧ Below w.heap.size w w' := by
  have HR : Away (∀ w1 : World, Calls Tryd.prog 40 #[.agg #[.int .i64 (kn : Int), .int .i64 (ln : Int), .int .i64 e, .int .i64 t, .int .i64 a, .int .i64 b, .int .i64 o, .int .i64 s]] w1 fun e0 w' => e0 = .returned (.bool true) ∧ Below w1.heap.size w1 w') := ⟨fun w1 => by rw [← h]; exact rfright.right_any _ _ e t a b o s w1⟩
  obtain ⟨i0, hi, hz0, hz1, hz2⟩ := parts infoPoly
  obtain ⟨hz, hsize⟩ := zero_of_info polt.infoP
  obtain ⟨z, HZ⟩ := ex_eq (FL .i64 256 fun _ => 0)
  rw [HZ.out] at hz hz0
  obtain ⟨j0, hj, hy0, hy1, hy2⟩ := parts infoSl
  have HJ := Away.mk (And.intro hj (And.intro hy0 (And.intro hy1 hy2)))
  have HI := Away.mk (And.intro hi (And.intro hz0 (And.intro hz1 hz2)))
  have Hzs : Away (z.size = 256) := ⟨by rw [← HZ.out]; exact fl_size _ _ _⟩
  have Hsize := Away.mk hsize
  clear hi hz0 hz1 hz2 hsize hj hy0 hy1 hy2
  obtain ⟨C, HC⟩ := ex_eq (#[.int .i64 (kn : Int), .int .i64 (ln : Int), .int .i64 e, .int .i64 t, .int .i64 a, .int .i64 b, .int .i64 o, .int .i64 s] : Array Value)
  rw [HC.out] at HR ⊢
  have HCs : Away ((Tryd.prog.info? 41).map (·.size) = some C.size) := ⟨by rw [← HC.out]; kernel_rfl⟩
  obtain ⟨W, hW⟩ : ∃ x, (w.alloc (.cells T 34)).alloc (.cells C 41) = x := ⟨_, rfl⟩
  obtain ⟨r0, r1, hWs, b0⟩ := two hW
  have T0 : Away (W.heap[w.heap.size]? = some (.cells T 34 (0, 0))) := ⟨r0⟩
  have L0 : Away (W.heap[w.heap.size + 1]? = some (.cells C 41 (0, 0))) := ⟨r1⟩
  have BW := Away.mk b0
  have HWs := Away.mk hWs
  have HW := Away.mk hW
  have HSm := Away.mk HS
  have HTz := Away.mk hT
  have Hk := Away.mk hk
  have Hl := Away.mk hl
  have Hsd := Away.mk hsd
  clear hW r0 r1 b0 h HS hT hk hl hsd hWs
  go_enter Tryd.func15, Tryd.ntmps15
  go_wp2_with (first
    | (rw [HW.out])
    | (refine wpList_load_row rfl 41 _ rfl (w.heap.size + 1) rfl 41 _ (0, 0) _ L0.out Tryd.underlying41 rfl HCs.out ?_))
  refine (HR.out _).mono ?_
  rintro x u1 ⟨rfl, hb1⟩
  have B1 : Away (Below w.heap.size w u1) := ⟨BW.out.trans (hb1.mono (by rw [HWs.out]; omega))⟩
  have T1 : Away (u1.heap[w.heap.size]? = some (.cells T 34 (0, 0))) := ⟨(hb1.block _ (by rw [HWs.out]; omega)).trans T0.out⟩
  have L1 : Away (u1.heap[w.heap.size + 1]? = some (.cells C 41 (0, 0))) := ⟨(hb1.block _ (by rw [HWs.out]; omega)).trans L0.out⟩
  have cK : ∀ w1 : World, Below u1.heap.size u1 w1 → w1.cell? ⟨w.heap.size + 1, 0, none⟩ = some (.int .i64 (kn : Int)) := fun w1 hb => cell_at ((hb.block _ (lt_of_row L1.out)).trans L1.out) (by rw [← HC.out]; rfl)
  have cL : ∀ w1 : World, Below u1.heap.size u1 w1 → w1.cell? ⟨w.heap.size + 1, 1, none⟩ = some (.int .i64 (ln : Int)) := fun w1 hb => cell_at ((hb.block _ (lt_of_row L1.out)).trans L1.out) (by rw [← HC.out]; rfl)
  have HcL := Away.mk cL
  have cK1 := cK u1 (Below.refl _ _)
  clear hb1 cK cL
  go_wp2_with fail
  clear cK1
  go_loopw [7, 16] (fun x v wr => ∃ r : Nat, r ≤ kn ∧ v = .int .i64 (r : Int) ∧ Away (∃ vs, wr.ownsRow u1.heap.size 44 1 x r vs ∧ Rowl wr u1.heap.size x.ownBlock vs ln q) ∧ Away (Below u1.heap.size u1 wr)) (fun _ v _ => kn - (intOf v).toNat)
  case atStart => exact ⟨0, Nat.zero_le _, rfl, ⟨[], ⟨rfl, Or.inl ⟨rfl, rfl⟩⟩, rows_nil _ _ _ _ _⟩, ⟨Below.refl _ _⟩⟩
  case round =>
    rename World => wo
    obtain ⟨r, hr, rfl, HO, Hb⟩ := hrel
    by_cases hlt : r < kn
    · have hltz : (r : Int) < (kn : Int) := by omega
      have hr8 : r < 8 := by have := Hk.out; omega
      have cL1 := HcL.out wo Hb.out
      have Hlt := Away.mk hlt
      go_wp2_with fail
      clear cL1
      go_loopw [9, 21] (fun y v wr => ∃ c : Nat, c ≤ ln ∧ v = .int .i64 (c : Int) ∧ Away (wr.ownsRow wo.heap.size 36 256 y c (cq (q r) c)) ∧ Away (Below wo.heap.size wo wr)) (fun _ v _ => ln - (intOf v).toNat)
      case atStart => exact ⟨0, Nat.zero_le _, rfl, ⟨⟨rfl, Or.inl ⟨rfl, rfl⟩⟩⟩, ⟨Below.refl _ _⟩⟩
      case round =>
        obtain ⟨c, hc, rfl, Oy, Hc⟩ := hrel
        by_cases hclt : c < ln
        · have hcz : (c : Int) < (ln : Int) := by omega
          have hc8 : c < 8 := by have := Hl.out; omega
          have fr8 : IntKind.u8.wrap (r : Int) = (r : Int) := by rw [IntKind.wrap_u8]; omega
          have fc8 : IntKind.u8.wrap (c : Int) = (c : Int) := by rw [IntKind.wrap_u8]; omega
          have BO : Away (Below u1.heap.size u1 wr) := ⟨Hb.out.trans (Hc.out.mono Hb.out.size)⟩
          have T2 : Away (wr.heap[w.heap.size]? = some (.cells T 34 (0, 0))) := ⟨(BO.out.block _ (lt_of_row T1.out)).trans T1.out⟩
          obtain ⟨W2, hW2⟩ : ∃ x, wr.alloc (.cells #[.int .u8 (c : Int), .int .u8 (r : Int)] 5) = x := ⟨_, rfl⟩
          obtain ⟨r2, hs2, b2⟩ := one hW2
          have hcv := conv_lk (t := 5) (l := [c, r]) (cap := 2) (n := 2) rfl (by simp; omega) r2
          obtain ⟨X, hX⟩ : ∃ X : ByteArray, ⟨(u8s [c, r]).toArray⟩ = X := ⟨_, rfl⟩
          have hXs : X.size = 2 := by rw [← hX]; rfl
          have hcat : sd ++ X = tw sd c r := by rw [← hX]; rfl
          rw [hX] at hcv
          have HW2 := Away.mk hW2
          have hsd := Hsd.out
          have HSr := HSm.out r c hr8 hc8
          rw [← hcat] at HSr
          have HSr := Away.mk HSr
          have D2 : Away (Below wr.heap.size wr W2) := ⟨b2⟩
          have Hclt := Away.mk hclt
          clear hX hcat r2 hs2 b2 hW2
          go_wp2_with fail
          refine wp_load_row 34 _ rfl w.heap.size rfl 34 T (0, 0) _ T2.out Tryd.underlying34 rfl HTz.out ?_
          go_wp2_with (rw [HW2.out])
          refine (HSr.out _).mono ?_
          rintro x1 w3 ⟨rfl, hb3⟩
          have D3 : Away (Below wr.heap.size wr w3) := ⟨D2.out.trans (hb3.mono D2.out.size)⟩
          have Oy3 : Away (w3.ownsRow wo.heap.size 36 256 u9 c (cq (q r) c)) := ⟨own_later Oy.out D3.out⟩
          obtain ⟨F, HF⟩ := ex_eq (FL .i64 256 (q r c))
          have Fs : Away (F.size = 256) := ⟨by rw [← HF.out]; exact fl_size _ _ _⟩
          have Fo : Away (F.all (·.oneCell') = true) := ⟨by rw [← HF.out]; exact fl_one _ _ _⟩
          rw [HF.out]
          have hws : wo.heap.size ≤ w3.heap.size := Nat.le_trans Hc.out.size D3.out.size
          have HF0 : Away (∀ cs : Array Value, cs.size = 256 → Instr.fill (fun i => some (i * i0.size, i0.size)) cs [(0, .agg F)] = some F) := ⟨fun cs hc => by rw [HI.out.2.2.1]; exact fill_one F cs Fs.out hc⟩
          have Hzc : Away ((Value.agg z).cells.size = 256) := ⟨Hzs.out⟩
          clear hb3 hcv fr8 fc8 hXs Oy
          go_wp2_with fail
          refine wp_buildSlice 44 36 1 _ rfl F i0 (.agg z) Tryd.underlying44 HI.out.1 HI.out.2.1 (by rw [HI.out.2.2.1]; decide) (by rw [HI.out.2.2.1]; decide) ?hf ?_
          case hf =>
            go_simp
            exact ⟨⟨decide_eq_false (fun h => h (Fs.out.trans HI.out.2.2.1.symm)), by rw [Fs.out, HI.out.2.2.1]; exact Nat.le_refl _⟩, fold_one F _ Fs.out (by simp [HI.out.2.2.1])⟩
          go_wp2_with (at_builtin; refine wpList_append_own _ rfl _ _ 44 rfl wo.heap.size 36 i0 (.agg z) 256 2048 Tryd.underlying44 HI.out.1 HI.out.2.1 HI.out.2.2.1 HI.out.2.2.2 Hzc.out (by decide) _ _ _ rfl (Oy3.out.alloc _) ⟨w3.heap.size, 0, none⟩ 1 1 F.toList rfl (by rw [Array.length_toList, Fs.out]) (fun j u hu => cell_at_new hu) (fun u hu => all_one Fo.out u hu) (by unfold maxLen; omega) (by omega) (by rw [size_alloc]; omega) ?_)
          intro v' w8 hown' hgrow _
          have hb8 : Below wo.heap.size w3 w8 := ((Below.refl wo.heap.size w3).alloc hws _).grown hgrow (by rw [size_alloc]; omega) (fun k hk => (Oy3.out.lt k hk).1)
          have B8 : Away (Below wo.heap.size wo w8) := ⟨Hc.out.trans ((D3.out.mono Hc.out.size).trans hb8)⟩
          have O8 : Away (w8.ownsRow wo.heap.size 36 256 v' (c + 1) (cq (q r) (c + 1))) := ⟨by rw [cq, HF.out]; exact hown'⟩
          clear hown' hgrow hb8
          go_wp2_with fail
          go_roundw
          case rel => exact ⟨c + 1, by have := Hclt.out; omega, by go_num, O8, B8⟩
          case measure => have := Hclt.out; simp [intOf]; omega
        · obtain rfl : c = ln := by omega
          obtain ⟨vs, hov, hrv⟩ := HO.out
          have hvl : vs.length = r := by have := hov.1; omega
          have HH : Away (pols.Holds wr wo.heap.size u9 c (q r)) := ⟨saml.own_holds Hl.out.1 Oy.out⟩
          have ho1 : Away (u9.oneCell' = true) := ⟨holds_one HH.out⟩
          have hrows : Away (Rowl wr u1.heap.size u7.ownBlock (vs ++ [u9]) c q) := ⟨(hrv.later Hc.out).snoc (by rw [hvl]; exact HH.out) Hb.out.size (fun k hk => (hov.lt k hk).2)⟩
          obtain ⟨gi, ci, hu9, -⟩ := HH.out
          have hov2 : Away (wr.ownsRow u1.heap.size 44 1 u7 r vs) := ⟨own_later hov Hc.out⟩
          have hws : u1.heap.size ≤ wr.heap.size := Nat.le_trans Hb.out.size Hc.out.size
          have Hzc : Away ((Value.slice none 0 0).cells.size = 1) := ⟨rfl⟩
          have Hlt2 := Hlt.out
          clear hov hrv Oy hclt HH
          subst hu9
          go_wp2_with (at_builtin; refine wpList_append_own_at _ rfl _ _ 42 rfl u1.heap.size 44 j0 (.slice none 0 0) 1 24 Tryd.underlying42 HJ.out.1 HJ.out.2.1 HJ.out.2.2.1 HJ.out.2.2.2 Hzc.out (by decide) _ _ _ rfl (hov2.out.alloc _) ⟨wr.heap.size, 0, none⟩ 1 1 [.slice (some ⟨gi, 0, none⟩) c ci] rfl rfl (fun j u hu => cell_one_new _ _ _ j u hu) (fun u hu => by rw [List.mem_singleton] at hu; subst hu; exact ho1.out) (by unfold maxLen; omega) (by omega) (by rw [size_alloc]; omega) ?_)
          intro v' w8 hown' hgrow _ hblk
          have hb8 : Below u1.heap.size wr w8 := ((Below.refl u1.heap.size wr).alloc hws _).grown hgrow (by rw [size_alloc]; omega) (fun k hk => (hov2.out.lt k hk).1)
          have B8 : Away (Below u1.heap.size u1 w8) := ⟨Hb.out.trans ((Hc.out.mono Hb.out.size).trans hb8)⟩
          have O8 : Away (∃ vs, w8.ownsRow u1.heap.size 44 1 v' (r + 1) vs ∧ Rowl w8 u1.heap.size v'.ownBlock vs c q) := ⟨_, hown', (hrows.out.later (below_alloc _ _)).grown hgrow (by rw [size_alloc]; exact hblk)⟩
          clear hown' hgrow hb8 hblk
          go_wp2_with fail
          go_roundw
          case rel => exact ⟨r + 1, by omega, by go_num, O8, B8⟩
          case measure => simp [intOf]; omega
    · obtain rfl : r = kn := by omega
      obtain ⟨vs, hov, hrv⟩ := HO.out
      have Fx : Away (wo.ownsRow w.heap.size 44 1 u7 r vs) := ⟨own_base hov B1.out.size⟩
      have Gx : Away (Rowl wo w.heap.size u7.ownBlock vs ln q) := ⟨hrv.base B1.out.size⟩
      clear hov hrv
      go_wp2_with fail
      go_ret
      exact ⟨⟨_, vs, rfl, Fx.out, Gx.out⟩, B1.out.trans (Hb.out.mono B1.out.size)⟩
end Go.Proofs.YtjdcmnmnjkkpiaaDoor.rsmat
