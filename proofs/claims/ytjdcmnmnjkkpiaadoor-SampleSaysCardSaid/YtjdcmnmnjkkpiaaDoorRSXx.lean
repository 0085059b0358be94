/-
  What the document's own Secrets of layer 11 returns. Conditions: the tables have their size; what its Small returns is handed in.
-/
import Derived.Test.YtjdcmnmnjkkpiaaDoorPuA
import Derived.Test.YtjdcmnmnjkkpiaaDoorRfZ
import Derived.Deep.RegionHeld3
namespace Go.Proofs.YtjdcmnmnjkkpiaaDoor.rssec
open Go Go.RowKit
open Go.Proofs.YtjdcmnmnjkkpiaaDoor.arr Go.Proofs.YtjdcmnmnjkkpiaaDoor.mem Go.Proofs.YtjdcmnmnjkkpiaaDoor.stil Go.Proofs.YtjdcmnmnjkkpiaaDoor.polys Go.Proofs.YtjdcmnmnjkkpiaaDoor.polt Go.Proofs.YtjdcmnmnjkkpiaaDoor.rbitb Go.Proofs.YtjdcmnmnjkkpiaaDoor.rbitc Go.Proofs.YtjdcmnmnjkkpiaaDoor.rndm Go.Proofs.YtjdcmnmnjkkpiaaDoor.saml

set_option maxRecDepth 100000 in
set_option maxHeartbeats 4000000 in
theorem secrets_no {T : Array Value} (k l e t a b o s : Int) (sd : ByteArray) (w : World) (h : latt k l e t a b o s = false) :
    Calls Tryd.prog 17 #[.agg T, .agg #[.int .i64 k, .int .i64 l, .int .i64 e, .int .i64 t, .int .i64 a, .int .i64 b, .int .i64 o, .int .i64 s], .string sd] w fun x w' => x = .returned (.tuple #[.slice none 0 0, .slice none 0 0]) ∧ Below w.heap.size w w' := by
  have HR : Away (∀ w1 : World, Calls Tryd.prog 40 #[.agg #[.int .i64 k, .int .i64 l, .int .i64 e, .int .i64 t, .int .i64 a, .int .i64 b, .int .i64 o, .int .i64 s]] w1 fun e0 w' => e0 = .returned (.bool false) ∧ Below w1.heap.size w1 w') := ⟨fun w1 => by rw [← h]; exact rfright.right_any k l e t a b o s w1⟩
  obtain ⟨W, hW⟩ : ∃ x, (w.alloc (.cells T 34)).alloc (.cells #[.int .i64 k, .int .i64 l, .int .i64 e, .int .i64 t, .int .i64 a, .int .i64 b, .int .i64 o, .int .i64 s] 41) = x := ⟨_, rfl⟩
  obtain ⟨r0, r1, hWs, b0⟩ := two hW
  have L0 : Away (W.heap[w.heap.size + 1]? = some (.cells #[.int .i64 k, .int .i64 l, .int .i64 e, .int .i64 t, .int .i64 a, .int .i64 b, .int .i64 o, .int .i64 s] 41 (0, 0))) := ⟨r1⟩
  have BW := Away.mk b0
  have HW := Away.mk hW
  clear hW r0 r1 b0 h
  go_enter Tryd.func17, Tryd.ntmps17
  go_wp2_with (first
    | (rw [HW.out])
    | (refine wpList_load_row rfl 41 _ rfl (w.heap.size + 1) rfl 41 _ (0, 0) _ L0.out Tryd.underlying41 rfl (by kernel_rfl) ?_))
  refine (HR.out _).mono ?_
  rintro x u1 ⟨rfl, hb1⟩
  have B1 : Away (Below w.heap.size w u1) := ⟨BW.out.trans (hb1.mono (by rw [hWs]; omega))⟩
  clear hb1
  go_wp2_with fail
  go_ret2
  exact ⟨rfl, B1.out⟩
set_option maxRecDepth 100000 in
set_option maxHeartbeats 4000000 in
theorem secrets_yes {T : Array Value} (kn ln : Nat) (e t a b o s : Int) (sd : ByteArray) (q : Nat → Nat → Int) (w : World) (hT : (Tryd.prog.info? 34).map (·.size) = some T.size) (hk : 1 ≤ kn ∧ kn ≤ 8) (hl : 1 ≤ ln ∧ ln ≤ 8) (h : latt (kn : Int) (ln : Int) e t a b o s = true) (hsd : sd.size ≤ 1125899906842624)
    (HS : ∀ r : Nat, r < 16 → ∀ w1 : World, Calls Tryd.prog 11 #[.agg T, .string (tw sd r 0), .int .i64 e] w1 fun x w' => x = .returned (.agg (FL .i64 256 (q r))) ∧ Below w1.heap.size w1 w') :
    Calls Tryd.prog 17 #[.agg T, .agg #[.int .i64 (kn : Int), .int .i64 (ln : Int), .int .i64 e, .int .i64 t, .int .i64 a, .int .i64 b, .int .i64 o, .int .i64 s], .string sd] w fun x w' => (∃ v1 v2, x = .returned (.tuple #[v1, v2]) ∧ w'.ownsRow w.heap.size 36 256 v1 ln (cq q ln) ∧ w'.ownsRow w.heap.size 36 256 v2 kn (cq (fun i => q (ln + i)) kn)) ∧ Below w.heap.size w w' := by
  have HR : Away (∀ w1 : World, Calls Tryd.prog 40 #[.agg #[.int .i64 (kn : Int), .int .i64 (ln : Int), .int .i64 e, .int .i64 t, .int .i64 a, .int .i64 b, .int .i64 o, .int .i64 s]] w1 fun e0 w' => e0 = .returned (.bool true) ∧ Below w1.heap.size w1 w') := ⟨fun w1 => by rw [← h]; exact rfright.right_any _ _ e t a b o s w1⟩
  obtain ⟨i0, hi, hz0, hz1, hz2⟩ := parts infoPoly
  obtain ⟨hz, hsize⟩ := zero_of_info polt.infoP
  obtain ⟨z, HZ⟩ := ex_eq (FL .i64 256 fun _ => 0)
  rw [HZ.out] at hz hz0
  have HI := Away.mk (And.intro hi (And.intro hz0 (And.intro hz1 hz2)))
  have Hzs : Away (z.size = 256) := ⟨by rw [← HZ.out]; exact fl_size _ _ _⟩
  have Hsize := Away.mk hsize
  clear hi hz0 hz1 hz2 hsize
  obtain ⟨C, HC⟩ := ex_eq (#[.int .i64 (kn : Int), .int .i64 (ln : Int), .int .i64 e, .int .i64 t, .int .i64 a, .int .i64 b, .int .i64 o, .int .i64 s] : Array Value)
  rw [HC.out] at HR ⊢
  have HCs : Away ((Tryd.prog.info? 41).map (·.size) = some C.size) := ⟨by rw [← HC.out]; kernel_rfl⟩
  obtain ⟨W, hW⟩ : ∃ x, (w.alloc (.cells T 34)).alloc (.cells C 41) = x := ⟨_, rfl⟩
  obtain ⟨r0, r1, hWs, b0⟩ := two hW
  have T0 : Away (W.heap[w.heap.size]? = some (.cells T 34 (0, 0))) := ⟨r0⟩
  have L0 : Away (W.heap[w.heap.size + 1]? = some (.cells C 41 (0, 0))) := ⟨r1⟩
  have BW := Away.mk b0
  have HWs := Away.mk hWs
  have HW := Away.mk hW
  have HSm := Away.mk HS
  have HTz := Away.mk hT
  have Hk := Away.mk hk
  have Hl := Away.mk hl
  have Hsd := Away.mk hsd
  clear hW r0 r1 b0 h HS hT hk hl hsd hWs
  go_enter Tryd.func17, Tryd.ntmps17
  go_wp2_with (first
    | (rw [HW.out])
    | (refine wpList_load_row rfl 41 _ rfl (w.heap.size + 1) rfl 41 _ (0, 0) _ L0.out Tryd.underlying41 rfl HCs.out ?_))
  refine (HR.out _).mono ?_
  rintro x u1 ⟨rfl, hb1⟩
  have B1 : Away (Below w.heap.size w u1) := ⟨BW.out.trans (hb1.mono (by rw [HWs.out]; omega))⟩
  have T1 : Away (u1.heap[w.heap.size]? = some (.cells T 34 (0, 0))) := ⟨(hb1.block _ (by rw [HWs.out]; omega)).trans T0.out⟩
  have L1 : Away (u1.heap[w.heap.size + 1]? = some (.cells C 41 (0, 0))) := ⟨(hb1.block _ (by rw [HWs.out]; omega)).trans L0.out⟩
  have cK : ∀ w1 : World, Below u1.heap.size u1 w1 → w1.cell? ⟨w.heap.size + 1, 0, none⟩ = some (.int .i64 (kn : Int)) := fun w1 hb => cell_at ((hb.block _ (lt_of_row L1.out)).trans L1.out) (by rw [← HC.out]; rfl)
  have cL : ∀ w1 : World, Below u1.heap.size u1 w1 → w1.cell? ⟨w.heap.size + 1, 1, none⟩ = some (.int .i64 (ln : Int)) := fun w1 hb => cell_at ((hb.block _ (lt_of_row L1.out)).trans L1.out) (by rw [← HC.out]; rfl)
  have cE : ∀ w1 : World, Below u1.heap.size u1 w1 → w1.cell? ⟨w.heap.size + 1, 2, none⟩ = some (.int .i64 e) := fun w1 hb => cell_at ((hb.block _ (lt_of_row L1.out)).trans L1.out) (by rw [← HC.out]; rfl)
  have HcK := Away.mk cK
  have HcL := Away.mk cL
  have HcE := Away.mk cE
  have cK1 := cK u1 (Below.refl _ _)
  have cL1 := cL u1 (Below.refl _ _)
  have fs : IntKind.i64.wrap ((ln : Int) + (kn : Int)) = ((ln + kn : Nat) : Int) := by rw [IntKind.wrap_i64]; have := Hk.out; have := Hl.out; omega
  obtain ⟨M, hM⟩ : ∃ M, ln + kn = M := ⟨_, rfl⟩
  rw [hM] at fs
  clear hb1 cK cL cE
  go_wp2_with fail
  clear cK1 cL1
  go_loopw [8, 9, 20] (fun x y v wr => ∃ r : Nat, r ≤ M ∧ v = .int .i64 (r : Int) ∧ (r ≤ ln → y = .slice none 0 0) ∧ Away (∃ B, u1.heap.size ≤ B ∧ B ≤ wr.heap.size ∧ (∀ w' : World, Below B wr w' → w'.ownsRow u1.heap.size 36 256 x (min r ln) (cq q (min r ln))) ∧ wr.ownsRow B 36 256 y (r - ln) (cq (fun i => q (ln + i)) (r - ln))) ∧ Away (Below u1.heap.size u1 wr)) (fun _ _ v _ => M - (intOf v).toNat)
  case atStart => exact ⟨0, Nat.zero_le _, rfl, fun _ => rfl, ⟨u1.heap.size, Nat.le_refl _, Nat.le_refl _, fun w' _ => by rw [Nat.zero_min]; exact ⟨rfl, Or.inl ⟨rfl, rfl⟩⟩, by rw [Nat.zero_sub]; exact ⟨rfl, Or.inl ⟨rfl, rfl⟩⟩⟩, ⟨Below.refl _ _⟩⟩
  case round =>
    obtain ⟨r, hr, rfl, hnil, HB0, Hb⟩ := hrel
    obtain ⟨B, hB1, hB2, Ox, Oy⟩ := HB0.out
    have HOx := Away.mk Ox
    have HOy := Away.mk Oy
    have Hnil := Away.mk hnil
    have HB := Away.mk (And.intro hB1 hB2)
    clear Ox Oy HB0 hB1 hB2 hnil
    by_cases hlt : r < M
    · have hltz : (r : Int) < (M : Int) := by omega
      have hr16 : r < 16 := by have := Hk.out; have := Hl.out; omega
      have fr8 : IntKind.u8.wrap (r : Int) = (r : Int) := by rw [IntKind.wrap_u8]; omega
      have T2 : Away (wr.heap[w.heap.size]? = some (.cells T 34 (0, 0))) := ⟨(Hb.out.block _ (lt_of_row T1.out)).trans T1.out⟩
      obtain ⟨W2, hW2⟩ : ∃ x, wr.alloc (.cells #[.int .u8 (r : Int), .int .u8 0] 5) = x := ⟨_, rfl⟩
      obtain ⟨r2, hs2, b2⟩ := one hW2
      have hcv := conv_lk (t := 5) (l := [r, 0]) (cap := 2) (n := 2) rfl (by simp; omega) r2
      obtain ⟨X, hX⟩ : ∃ X : ByteArray, ⟨(u8s [r, 0]).toArray⟩ = X := ⟨_, rfl⟩
      have hXs : X.size = 2 := by rw [← hX]; rfl
      have hcat : sd ++ X = tw sd r 0 := by rw [← hX]; rfl
      rw [hX] at hcv
      have B2 : Away (Below u1.heap.size u1 W2) := ⟨Hb.out.trans (b2.mono Hb.out.size)⟩
      have cE2 := HcE.out W2 B2.out
      have HW2 := Away.mk hW2
      have Hcat := Away.mk hcat
      have hsd := Hsd.out
      clear hX hcat r2 hs2 b2 hW2
      go_wp2_with fail
      refine wp_load_row 34 _ rfl w.heap.size rfl 34 T (0, 0) _ T2.out Tryd.underlying34 rfl HTz.out ?_
      go_wp2_with (rw [HW2.out])
      have HSr := HSm.out r hr16 W2
      rw [← Hcat.out] at HSr
      refine HSr.mono ?_
      rintro x1 w3 ⟨rfl, hb3⟩
      have B3 : Away (Below u1.heap.size u1 w3) := ⟨B2.out.trans (hb3.mono B2.out.size)⟩
      have D3 : Away (Below wr.heap.size wr w3) := ⟨by rw [← HW2.out] at hb3; exact (below_alloc _ _).trans (hb3.mono (by rw [size_alloc]; omega))⟩
      obtain ⟨F, HF⟩ := ex_eq (FL .i64 256 (q r))
      have Fs : Away (F.size = 256) := ⟨by rw [← HF.out]; exact fl_size _ _ _⟩
      have Fo : Away (F.all (·.oneCell') = true) := ⟨by rw [← HF.out]; exact fl_one _ _ _⟩
      have Fi : Away ((Tryd.prog.info? 36).map (·.size) = some F.size) := ⟨by rw [Fs.out]; exact Hsize.out⟩
      have Fz : Away (z.size = F.size) := ⟨by rw [Hzs.out, Fs.out]⟩
      rw [HF.out]
      obtain ⟨W4, hW4⟩ : ∃ x, w3.alloc (.cells F 36) = x := ⟨_, rfl⟩
      obtain ⟨r4, hs4, b4⟩ := one hW4
      have B4 : Away (Below u1.heap.size u1 W4) := ⟨B3.out.trans (b4.mono B3.out.size)⟩
      have D4 : Away (Below wr.heap.size wr W4) := ⟨D3.out.trans (b4.mono D3.out.size)⟩
      have R4 : Away (W4.heap[w3.heap.size]? = some (.cells F 36 (0, 0))) := ⟨r4⟩
      have cL4 := HcL.out W4 B4.out
      have Ox4 : Away (∀ w' : World, Below B W4 w' → w'.ownsRow u1.heap.size 36 256 u8 (min r ln) (cq q (min r ln))) := ⟨fun w' hb => HOx.out w' ((D4.out.mono HB.out.2).trans hb)⟩
      have Oy4 : Away (W4.ownsRow B 36 256 u9 (r - ln) (cq (fun i => q (ln + i)) (r - ln))) := ⟨own_later HOy.out D4.out⟩
      have HW4 := Away.mk hW4
      have hws : u1.heap.size ≤ W4.heap.size := B4.out.size
      have hws2 : Away (B ≤ W4.heap.size) := ⟨Nat.le_trans HB.out.2 D4.out.size⟩
      have HF0 : Away (∀ cs : Array Value, cs.size = 256 → Instr.fill (fun i => some (i * i0.size, i0.size)) cs [(0, .agg F)] = some F) := ⟨fun cs hc => by rw [HI.out.2.2.1]; exact fill_one F cs Fs.out hc⟩
      have Hzc : Away ((Value.agg z).cells.size = 256) := ⟨Hzs.out⟩
      clear hb3 hW4 r4 hs4 b4 HSr hcv cE2 hXs fr8 hltz HOx HOy
      by_cases hrl : r < ln
      · have hrlz : (r : Int) < (ln : Int) := by omega
        have hm1 : min r ln = r := by omega
        have Oxp : Away (W4.ownsRow u1.heap.size 36 256 u8 r (cq q r)) := ⟨by have := Ox4.out W4 (Below.refl _ _); rwa [hm1] at this⟩
        have hu9 := Hnil.out (by omega)
        subst hu9
        clear hm1
        go_wp2_with (first
          | (refine wpList_store_new rfl 36 _ _ rfl F rfl rfl Fi.out (by exact Fz.out) Fo.out rfl ?_)
          | (rw [HW4.out]))
        refine wp_load_row 36 _ rfl w3.heap.size rfl 36 F (0, 0) _ R4.out Tryd.underlying36 rfl Fi.out ?_
        go_wp2_with fail
        refine wp_buildSlice 44 36 1 _ rfl F i0 (.agg z) Tryd.underlying44 HI.out.1 HI.out.2.1 (by rw [HI.out.2.2.1]; decide) (by rw [HI.out.2.2.1]; decide) ?hf ?_
        case hf =>
          go_simp
          exact ⟨⟨decide_eq_false (fun h => h (Fs.out.trans HI.out.2.2.1.symm)), by rw [Fs.out, HI.out.2.2.1]; exact Nat.le_refl _⟩, fold_one F _ Fs.out (by simp [HI.out.2.2.1])⟩
        go_wp2_with (at_builtin; refine wpList_append_own _ rfl _ _ 44 rfl u1.heap.size 36 i0 (.agg z) 256 2048 Tryd.underlying44 HI.out.1 HI.out.2.1 HI.out.2.2.1 HI.out.2.2.2 Hzc.out (by decide) _ _ _ rfl (Oxp.out.alloc _) ⟨W4.heap.size, 0, none⟩ 1 1 F.toList rfl (by rw [Array.length_toList, Fs.out]) (fun j u hu => cell_at_new hu) (fun u hu => all_one Fo.out u hu) (by unfold maxLen; omega) (by omega) (by rw [size_alloc]; have := hws2.out; omega) ?_)
        intro v' w8 hown' hgrow _
        have hb8 : Below u1.heap.size W4 w8 := ((Below.refl u1.heap.size W4).alloc hws _).grown hgrow (by rw [size_alloc]; have := hws2.out; omega) (fun k hk => (Oxp.out.lt k hk).1)
        have B8 : Away (Below u1.heap.size u1 w8) := ⟨B4.out.trans (hb8.mono (Nat.le_refl _))⟩
        have O8 : Away (w8.ownsRow u1.heap.size 36 256 v' (r + 1) (cq q (r + 1))) := ⟨by rw [cq, HF.out]; exact hown'⟩
        clear hown' hgrow hb8
        go_wp2_with fail
        go_roundw
        case rel => exact ⟨r + 1, by omega, by go_num, fun _ => rfl, ⟨w8.heap.size, B8.out.size, Nat.le_refl _, fun w' hb => by rw [show min (r + 1) ln = r + 1 by omega]; exact own_later O8.out hb, by rw [show r + 1 - ln = 0 by omega]; exact ⟨rfl, Or.inl ⟨rfl, rfl⟩⟩⟩, B8⟩
        case measure => simp [intOf]; omega
      · have hrlz : ¬ (r : Int) < (ln : Int) := by omega
        have hm1 : min r ln = ln := by omega
        obtain ⟨d, hd⟩ : ∃ d, r - ln = d := ⟨_, rfl⟩
        rw [hd] at Oy4
        rw [hm1] at Ox4
        have hrd : r = ln + d := by omega
        have hd16 : d < 16 := by omega
        clear hm1
        go_wp2_with (first
          | (refine wpList_store_new rfl 36 _ _ rfl F rfl rfl Fi.out (by exact Fz.out) Fo.out rfl ?_)
          | (rw [HW4.out]))
        refine wp_load_row 36 _ rfl w3.heap.size rfl 36 F (0, 0) _ R4.out Tryd.underlying36 rfl Fi.out ?_
        go_wp2_with fail
        refine wp_buildSlice 44 36 1 _ rfl F i0 (.agg z) Tryd.underlying44 HI.out.1 HI.out.2.1 (by rw [HI.out.2.2.1]; decide) (by rw [HI.out.2.2.1]; decide) ?hf ?_
        case hf =>
          go_simp
          exact ⟨⟨decide_eq_false (fun h => h (Fs.out.trans HI.out.2.2.1.symm)), by rw [Fs.out, HI.out.2.2.1]; exact Nat.le_refl _⟩, fold_one F _ Fs.out (by simp [HI.out.2.2.1])⟩
        go_wp2_with (at_builtin; refine wpList_append_own _ rfl _ _ 44 rfl B 36 i0 (.agg z) 256 2048 Tryd.underlying44 HI.out.1 HI.out.2.1 HI.out.2.2.1 HI.out.2.2.2 Hzc.out (by decide) _ _ _ rfl (Oy4.out.alloc _) ⟨W4.heap.size, 0, none⟩ 1 1 F.toList rfl (by rw [Array.length_toList, Fs.out]) (fun j u hu => cell_at_new hu) (fun u hu => all_one Fo.out u hu) (by unfold maxLen; omega) (by omega) (by rw [size_alloc]; have := hws2.out; omega) ?_)
        intro v' w8 hown' hgrow _
        have hb8 : Below B W4 w8 := ((Below.refl B W4).alloc hws2.out _).grown hgrow (by rw [size_alloc]; have := hws2.out; omega) (fun k hk => (Oy4.out.lt k hk).1)
        have B8 : Away (Below u1.heap.size u1 w8) := ⟨B4.out.trans (hb8.mono HB.out.1)⟩
        have O8 : Away (w8.ownsRow B 36 256 v' (d + 1) (cq (fun i => q (ln + i)) (d + 1))) := ⟨by rw [cq, ← hrd, HF.out]; exact hown'⟩
        have X8 : Away (∀ w' : World, Below B w8 w' → w'.ownsRow u1.heap.size 36 256 u8 ln (cq q ln)) := ⟨fun w' hb => Ox4.out w' (hb8.trans hb)⟩
        have hB8 : Away (B ≤ w8.heap.size) := ⟨Nat.le_trans hws2.out hb8.size⟩
        clear hown' hgrow hb8
        go_wp2_with fail
        go_roundw
        case rel => exact ⟨r + 1, by omega, by go_num, fun h => by omega, ⟨B, HB.out.1, hB8.out, fun w' hb => by rw [show min (r + 1) ln = ln by omega]; exact X8.out w' hb, by rw [show r + 1 - ln = d + 1 by omega]; exact O8.out⟩, B8⟩
        case measure => simp [intOf]; omega
    · obtain rfl : r = M := by omega
      have hm1 : min r ln = ln := by have := Hk.out; omega
      have hm2 : r - ln = kn := by omega
      have Fx : Away (wr.ownsRow w.heap.size 36 256 u8 ln (cq q ln)) := ⟨by have := own_base (HOx.out wr (Below.refl _ _)) B1.out.size; rwa [hm1] at this⟩
      have Fy : Away (wr.ownsRow w.heap.size 36 256 u9 kn (cq (fun i => q (ln + i)) kn)) := ⟨by have := own_base HOy.out (Nat.le_trans B1.out.size HB.out.1); rwa [hm2] at this⟩
      clear HOx HOy hm1 hm2
      go_wp2_with fail
      go_ret2
      exact ⟨⟨_, _, rfl, Fx.out, Fy.out⟩, B1.out.trans (Hb.out.mono B1.out.size)⟩
end Go.Proofs.YtjdcmnmnjkkpiaaDoor.rssec
