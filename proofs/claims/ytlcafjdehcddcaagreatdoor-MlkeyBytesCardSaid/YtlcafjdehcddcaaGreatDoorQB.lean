/-
  What package sample's Matrix returns. Conditions: the tables have their size; what Uniform returns is handed in. What package sample's Secrets returns. Conditions: the tables have their size; what Small returns is handed in.
-/
import Derived.Test.YtlcafjdehcddcaaGreatDoorQA
import Derived.Test.YtlcafjdehcddcaaGreatDoorPuA
import Derived.Test.YtlcafjdehcddcaaGreatDoorRRA
import Derived.Lib.QuietBelow
import Derived.StillTailTactics
namespace Go.Proofs.YtlcafjdehcddcaaGreatDoor
namespace qmat
open Go Go.RowKit
open arr mem stil polys polt rbitb rbitc rndm pols saml samr qpair qrow
theorem infoSl : (Tryz.prog.info? 45).map (fun i => (i.zero, i.size, i.bytes)) = some (some (.slice none 0 0), 1, 24) := by kernel_rfl
def OU (vs : List Value) (n : Nat) : Array Value := (vs ++ List.replicate n (Value.slice none 0 0)).toArray
theorem ou_size (vs : List Value) (n : Nat) : (OU vs n).size = vs.length + n := by unfold OU; simp
theorem ou_set (vs : List Value) (n : Nat) (v : Value) : (OU vs (n + 1)).setIfInBounds vs.length v = OU (vs ++ [v]) n := by
 unfold OU
 rw [List.setIfInBounds_toArray, List.set_append_right _ _ (Nat.le_refl _), Nat.sub_self, List.replicate_succ, List.set_cons_zero, List.append_assoc]
 rfl
theorem ou_get (vs : List Value) (n i : Nat) (h : i < vs.length) : (OU vs n)[i]? = vs[i]? := by
 unfold OU
 rw [List.getElem?_toArray, List.getElem?_append_left h]
theorem ou_last (vs : List Value) (n : Nat) (v : Value) : (OU (vs ++ [v]) n)[vs.length]? = some v := by
 rw [ou_get _ _ _ (by rw [List.length_append]; exact Nat.lt_succ_self _), List.getElem?_append_right (Nat.le_refl _), Nat.sub_self]
 rfl
theorem made_ou {w w' : World} {B : Nat} {e : TypeId} {n : Nat} (h : w'.ownsRow B e 1 (.slice (some ⟨w.heap.size, 0, none⟩) n n) n (madeCells #[Value.slice none 0 0] n).toList) (hg : w.grownBy w' none) :
 w'.heap[w.heap.size]? = some (.cells (OU [] n) e (0, 0)) ∧ Below w.heap.size w w' := by
 obtain ⟨cur, h1, h2⟩ := own_rowP h
 have e0 : cur = OU [] n := by
  apply Array.ext'
  rw [h2, toList_madeCells_one]
  unfold OU
  simp
 rw [e0] at h1
 exact ⟨h1, (Below.refl _ _).grown hg (Nat.le_refl _) (fun k hk => by simp at hk)⟩
theorem rowl_blocks {w w' : World} {B gm ln : Nat} {vs : List Value} {p : Nat → Nat → Nat → Int} (h : Rowl w B (some gm) vs ln p) (hs : w.heap.size ≤ w'.heap.size) (hb : ∀ g, g < w.heap.size → g ≠ gm → w'.heap[g]? = w.heap[g]?) : Rowl w' B (some gm) vs ln p := fun i v hv => by
 obtain ⟨g, c, e, h1, h2, h3, h4⟩ := h i v hv
 refine ⟨g, c, e, h1, Nat.lt_of_lt_of_le h2 hs, h3, fun s hs k hk => ?_⟩
 rw [← h4 s hs k hk]
 have e2 := hb g h2 (fun e2 => h3 (by rw [e2]))
 simp only [World.cell?, e2]
set_option maxRecDepth 100000 in
set_option maxHeartbeats 4000000 in
theorem matrix_no {T : Array Value} (k l e t a b o s : Int) (sd : ByteArray) (w : World) (h : latt k l e t a b o s = false) :
 Calls Tryz.prog 40 #[.agg T, .agg #[.int .i64 k, .int .i64 l, .int .i64 e, .int .i64 t, .int .i64 a, .int .i64 b, .int .i64 o, .int .i64 s], .string sd] w fun x w' => x = .returned (.slice none 0 0) ∧ Below w.heap.size w w' := by
 have HR : Away (∀ w1 : World, Calls Tryz.prog 32 #[.agg #[.int .i64 k, .int .i64 l, .int .i64 e, .int .i64 t, .int .i64 a, .int .i64 b, .int .i64 o, .int .i64 s]] w1 fun e0 w' => e0 = .returned (.bool false) ∧ Below w1.heap.size w1 w') := ⟨fun w1 => by rw [← h]; exact rright.right_any k l e t a b o s w1⟩
 obtain ⟨W, hW⟩ : ∃ x, (w.alloc (.cells T 38)).alloc (.cells #[.int .i64 k, .int .i64 l, .int .i64 e, .int .i64 t, .int .i64 a, .int .i64 b, .int .i64 o, .int .i64 s] 23) = x := ⟨_, rfl⟩
 obtain ⟨r0, r1, hWs, b0⟩ := two hW
 have L0 : Away (W.heap[w.heap.size + 1]? = some (.cells #[.int .i64 k, .int .i64 l, .int .i64 e, .int .i64 t, .int .i64 a, .int .i64 b, .int .i64 o, .int .i64 s] 23 (0, 0))) := ⟨r1⟩
 have BW := Away.mk b0
 have HW := Away.mk hW
 clear hW r0 r1 b0 h
 go_enter Tryz.func40, Tryz.ntmps40
 go_wp2_with (first
  | (rw [HW.out])
  | (refine wpList_load_row rfl 23 _ rfl (w.heap.size + 1) rfl 23 _ (0, 0) _ L0.out Tryz.underlying23 rfl (by kernel_rfl) ?_))
 refine (HR.out _).mono ?_
 rintro x u1 ⟨rfl, hb1⟩
 have B1 : Away (Below w.heap.size w u1) := ⟨BW.out.trans (hb1.mono (by rw [hWs]; omega))⟩
 clear hb1
 go_wp2_with fail
 go_ret
 exact ⟨rfl, B1.out⟩
set_option maxRecDepth 100000 in
set_option maxHeartbeats 8000000 in
theorem matrix_yes {T : Array Value} (kn ln : Nat) (e t a b o s : Int) (sd : ByteArray) (q : Nat → Nat → Nat → Int) (w : World) (hT : (Tryz.prog.info? 38).map (·.size) = some T.size) (hk : 1 ≤ kn ∧ kn ≤ 8) (hl : 1 ≤ ln ∧ ln ≤ 8) (h : latt (kn : Int) (ln : Int) e t a b o s = true) (hsd : sd.size ≤ 1125899906842624)
 (HS : ∀ r c : Nat, r < 8 → c < 8 → ∀ w1 : World, Below w.heap.size w w1 → Calls Tryz.prog 85 #[.agg T, .string (tw sd c r)] w1 fun x w' => x = .returned (.agg (FL .i64 256 (q r c))) ∧ Below w1.heap.size w1 w') :
 Calls Tryz.prog 40 #[.agg T, .agg #[.int .i64 (kn : Int), .int .i64 (ln : Int), .int .i64 e, .int .i64 t, .int .i64 a, .int .i64 b, .int .i64 o, .int .i64 s], .string sd] w fun x w' => (∃ v vs, x = .returned v ∧ w'.ownsRow w.heap.size 45 1 v kn vs ∧ Rowl w' w.heap.size v.ownBlock vs ln q) ∧ Below w.heap.size w w' := by
 have HR : Away (∀ w1 : World, Calls Tryz.prog 32 #[.agg #[.int .i64 (kn : Int), .int .i64 (ln : Int), .int .i64 e, .int .i64 t, .int .i64 a, .int .i64 b, .int .i64 o, .int .i64 s]] w1 fun e0 w' => e0 = .returned (.bool true) ∧ Below w1.heap.size w1 w') := ⟨fun w1 => by rw [← h]; exact rright.right_any _ _ e t a b o s w1⟩
 obtain ⟨i0, hi, hz0, hz1, hz2⟩ := parts infoPoly
 obtain ⟨hz, hsize⟩ := zero_of_info polt.infoP
 obtain ⟨z, HZ⟩ := ex_eq (FL .i64 256 fun _ => 0)
 rw [HZ.out] at hz hz0
 have HI := Away.mk (And.intro hi (And.intro hz0 (And.intro hz1 hz2)))
 obtain ⟨j0, hj, hy0, hy1, hy2⟩ := parts infoSl
 have HJ := Away.mk (And.intro hj (And.intro hy0 (And.intro hy1 hy2)))
 clear hj hy0 hy1 hy2
 clear hi hz0 hz1 hz2 hsize
 obtain ⟨C, HC⟩ := ex_eq (#[.int .i64 (kn : Int), .int .i64 (ln : Int), .int .i64 e, .int .i64 t, .int .i64 a, .int .i64 b, .int .i64 o, .int .i64 s] : Array Value)
 rw [HC.out] at HR ⊢
 have HCs : Away ((Tryz.prog.info? 23).map (·.size) = some C.size) := ⟨by rw [← HC.out]; kernel_rfl⟩
 obtain ⟨W, hW⟩ : ∃ x, (w.alloc (.cells T 38)).alloc (.cells C 23) = x := ⟨_, rfl⟩
 obtain ⟨r0, r1, hWs, b0⟩ := two hW
 have T0 : Away (W.heap[w.heap.size]? = some (.cells T 38 (0, 0))) := ⟨r0⟩
 have L0 : Away (W.heap[w.heap.size + 1]? = some (.cells C 23 (0, 0))) := ⟨r1⟩
 have BW := Away.mk b0
 have HWs := Away.mk hWs
 have HW := Away.mk hW
 have HSm := Away.mk HS
 have HTz := Away.mk hT
 have Hk := Away.mk hk
 have Hl := Away.mk hl
 have Hsd := Away.mk hsd
 clear hW r0 r1 b0 h HS hT hk hl hsd hWs
 go_enter Tryz.func40, Tryz.ntmps40
 go_wp2_with (first
  | (rw [HW.out])
  | (refine wpList_load_row rfl 23 _ rfl (w.heap.size + 1) rfl 23 _ (0, 0) _ L0.out Tryz.underlying23 rfl HCs.out ?_))
 refine (HR.out _).mono ?_
 rintro x u1 ⟨rfl, hb1⟩
 have B1 : Away (Below w.heap.size w u1) := ⟨BW.out.trans (hb1.mono (by rw [HWs.out]; omega))⟩
 have T1 : Away (u1.heap[w.heap.size]? = some (.cells T 38 (0, 0))) := ⟨(hb1.block _ (by rw [HWs.out]; omega)).trans T0.out⟩
 have L1 : Away (u1.heap[w.heap.size + 1]? = some (.cells C 23 (0, 0))) := ⟨(hb1.block _ (by rw [HWs.out]; omega)).trans L0.out⟩
 have HcK : Away (∀ w1 : World, Below u1.heap.size u1 w1 → w1.cell? ⟨w.heap.size + 1, 0, none⟩ = some (.int .i64 (kn : Int))) := ⟨fun w1 hb => cell_at ((hb.block _ (lt_of_row L1.out)).trans L1.out) (by rw [← HC.out]; rfl)⟩
 have HcL : Away (∀ w1 : World, Below u1.heap.size u1 w1 → w1.cell? ⟨w.heap.size + 1, 1, none⟩ = some (.int .i64 (ln : Int))) := ⟨fun w1 hb => cell_at ((hb.block _ (lt_of_row L1.out)).trans L1.out) (by rw [← HC.out]; rfl)⟩
 have hln8 : ln ≤ 8 := Hl.out.2
 have hkn8 : kn ≤ 8 := Hk.out.2
 have cK1 := HcK.out u1 (Below.refl _ _)
 clear hb1
 go_wp2_with (at_make; refine wpList_make_full _ rfl (.tmp 14) (.tmp 14) 46 rfl u1.heap.size 45 j0 (.slice none 0 0) 1 Tryz.underlying46 HJ.out.1 HJ.out.2.1 HJ.out.2.2.1 .i64 .i64 kn kn kn rfl rfl rfl rfl (by rw [HJ.out.2.2.2]; omega) (by unfold maxLen; omega) (Nat.le_refl _) ?_)
 intro w3 hown hgr
 obtain ⟨hrow, hb3⟩ := made_ou hown hgr
 obtain ⟨gm, hgm⟩ : ∃ x, u1.heap.size = x := ⟨_, rfl⟩
 rw [hgm] at hrow
 have B3 : Away (Below u1.heap.size u1 w3) := ⟨hb3⟩
 have Hgm : Away (u1.heap.size = gm) := ⟨hgm⟩
 have O3 : Away (∃ vs, vs.length = 0 ∧ w3.heap[gm]? = some (.cells (OU vs (kn - 0)) 45 (0, 0)) ∧ Rowl w3 gm (some gm) vs ln q) := ⟨[], rfl, hrow, rows_nil _ _ _ _ _⟩
 rw [hgm]
 clear hown hgr hrow hb3 cK1 hgm
 go_wp2_with fail
 go_loopw [18] (fun v wr => ∃ r : Nat, r ≤ kn ∧ v = .int .i64 (r : Int) ∧ Away (∃ vs, vs.length = r ∧ wr.heap[gm]? = some (.cells (OU vs (kn - r)) 45 (0, 0)) ∧ Rowl wr gm (some gm) vs ln q) ∧ Away (Below u1.heap.size u1 wr)) (fun v _ => kn - (intOf v).toNat)
 case atStart => exact ⟨0, Nat.zero_le _, rfl, O3, B3⟩
 case round =>
  clear O3
  obtain ⟨r, hr, rfl, HO, Hb⟩ := hrel
  rename World => wo
  by_cases hlt : r < kn
  ·have hltz : (r : Int) < (kn : Int) := by omega
   have hr8 : r < 8 := by omega
   obtain ⟨vs, hvl, hov, hrv⟩ := HO.out
   have hgl : gm < wo.heap.size := lt_of_row hov
   have cL1 := HcL.out wo Hb.out
   have Hov := Away.mk hov
   have Hrv := Away.mk hrv
   have Hvl := Away.mk hvl
   clear hov hrv hvl HO
   go_wp2_with (at_make; refine wpList_make_full _ rfl (.tmp 24) (.tmp 24) 45 rfl wo.heap.size 25 i0 (.agg z) 256 Tryz.underlying45 HI.out.1 HI.out.2.1 HI.out.2.2.1 .i64 .i64 ln ln ln rfl rfl rfl rfl (by rw [HI.out.2.2.2]; omega) (by unfold maxLen; omega) (Nat.le_refl _) ?_)
   intro w5 hown hgr
   obtain ⟨hrow, hb5⟩ := made_row HZ.out hown hgr
   obtain ⟨gr, hgr2⟩ : ∃ x, wo.heap.size = x := ⟨_, rfl⟩
   rw [hgr2] at hrow hgl ⊢
   have Hgr : Away (wo.heap.size = gr) := ⟨hgr2⟩
   have A5 : Away (At gm (OU vs (kn - r)) 45 w5 w5) := ⟨At.refl ((hb5.block _ (by rw [hgr2]; exact hgl)).trans Hov.out)⟩
   have R5 : Away (w5.heap[gr]? = some (.cells (RW ln fun _ _ => 0) 25 (0, 0))) := ⟨hrow⟩
   have HB5 : Away (Below wo.heap.size wo w5) := ⟨hb5⟩
   have Hset : Away ((OU vs (kn - r)).setIfInBounds r (.slice (some ⟨gr, 0, none⟩) ln ln) = OU (vs ++ [.slice (some ⟨gr, 0, none⟩) ln ln]) (kn - (r + 1))) := ⟨by
    have := ou_set vs (kn - (r + 1)) (.slice (some ⟨gr, 0, none⟩) ln ln)
    rw [Hvl.out, show kn - (r + 1) + 1 = kn - r by omega] at this
    exact this⟩
   have Hin : Away (r < (OU vs (kn - r)).size) := ⟨by rw [ou_size, Hvl.out]; omega⟩
   clear hown hgr hrow hb5 hgr2 cL1
   go_wp2_with ((with_reducible refine wpList_put A5 rfl _ _ _ rfl r (.slice (some ⟨gr, 0, none⟩) ln ln) rfl rfl ?hz rfl Hin.out rfl ?_); (case hz => kernel_rfl); intro wn A6; rw [Hset.out] at A6; have hcr : wn.cell? ⟨gm, r, none⟩ = some (.slice (some ⟨gr, 0, none⟩) ln ln) := by rw [A6.out.cell, ← Hvl.out]; exact ou_last _ _ _)
   have R6 : Away (wn.heap[gr]? = some (.cells (RW ln fun _ _ => 0) 25 (0, 0))) := ⟨A6.out.other (lt_of_row R5.out) (by omega) R5.out⟩
   have Hbl : Away (∀ g, g < wo.heap.size → g ≠ gm → wn.heap[g]? = wo.heap[g]?) := ⟨fun g h1 h2 => (A6.out.block g (Nat.lt_of_lt_of_le h1 HB5.out.size) h2).trans (HB5.out.block g h1)⟩
   have BN : Away (Below u1.heap.size u1 wn) := ⟨Hb.out.trans ((HB5.out.mono Hb.out.size).trans (A6.out.below (Nat.le_trans Hb.out.size HB5.out.size) (Nat.le_of_eq Hgm.out)))⟩
   have Rm : Away (wn.heap[gm]? = some (.cells (OU (vs ++ [.slice (some ⟨gr, 0, none⟩) ln ln]) (kn - (r + 1))) 45 (0, 0))) := ⟨A6.out.row⟩
   have Hws : Away (wo.heap.size ≤ wn.heap.size) := ⟨Nat.le_trans HB5.out.size A6.out.size⟩
   have A7 : Away (At gr (RW ln (fst (q r) 0)) 25 wn wn) := ⟨by rw [fst_zero]; exact At.refl R6.out⟩
   have Hgu : Away (u1.heap.size ≤ gr) := ⟨by have := Hb.out.size; rw [Hgr.out] at this; exact this⟩
   clear A5 A6 R5 R6 Hset Hin HB5 hcr
   go_loopw [32] (fun v wr => ∃ c : Nat, c ≤ ln ∧ v = .int .i64 (c : Int) ∧ Away (At gr (RW ln (fst (q r) c)) 25 wn wr)) (fun v _ => ln - (intOf v).toNat)
   case atStart => exact ⟨0, Nat.zero_le _, rfl, A7⟩
   case round =>
    clear A7
    obtain ⟨c, hc, rfl, A0⟩ := hrel
    have BU : Away (Below u1.heap.size u1 wr) := ⟨BN.out.trans (A0.out.below BN.out.size Hgu.out)⟩
    have BE : Away (Below w.heap.size w wr) := ⟨B1.out.trans (BU.out.mono B1.out.size)⟩
    by_cases hclt : c < ln
    ·have hcz : (c : Int) < (ln : Int) := by omega
     have hc8 : c < 8 := by omega
     have T2 : Away (wr.heap[w.heap.size]? = some (.cells T 38 (0, 0))) := ⟨(BU.out.block _ (lt_of_row T1.out)).trans T1.out⟩
     have HPr : Away (∀ w1 : World, Calls Tryz.prog 83 #[.int .i64 (c : Int), .int .i64 (r : Int)] w1 fun e w' => e = .returned (.string (x2 c r)) ∧ Below w1.heap.size w1 w') := ⟨fun w1 => pair_any c r (by omega) (by omega) w1⟩
     have HSr : Away (∀ w1 : World, Below w.heap.size w w1 → Calls Tryz.prog 85 #[.agg T, .string (sd ++ x2 c r)] w1 fun x w' => x = .returned (.agg (FL .i64 256 (q r c))) ∧ Below w1.heap.size w1 w') := ⟨fun w1 hb => HSm.out r c hr8 hc8 w1 hb⟩
     have Rw : Away (wr.heap[gm]? = some (.cells (OU (vs ++ [.slice (some ⟨gr, 0, none⟩) ln ln]) (kn - (r + 1))) 45 (0, 0))) := ⟨A0.out.other (lt_of_row Rm.out) (by omega) Rm.out⟩
     have cr2 : ∀ d os, (Go.Sort.grow (redrawn wr d) os).cell? ⟨gm, r, none⟩ = some (.slice (some ⟨gr, 0, none⟩) ln ln) := fun d os => cell_at (((below_regrown wr d os).block _ (lt_of_row Rw.out)).trans Rw.out) (by rw [← Hvl.out]; exact ou_last _ _ _)
     obtain ⟨X, HX⟩ := ex_eq (x2 c r)
     rw [HX.out] at HPr HSr
     have hXs : X.size = 2 := by rw [← HX.out]; rfl
     have hsz : (9223372036854775807 < sd.size + 2) = False := by have := Hsd.out; simp; omega
     obtain ⟨F, HF⟩ := ex_eq (FL .i64 256 (q r c))
     rw [HF.out] at HSr
     obtain ⟨o6, ho6⟩ : ∃ o6, c * 256 = o6 := ⟨_, rfl⟩
     have Ho6 := Away.mk ho6
     have Hclt := Away.mk hclt
     have Hup : Away (ups (fst (q r) c) c (q r c) = fst (q r) (c + 1)) := ⟨ups_fst (q r) c⟩
     clear HX
     go_wp2_with fail
     refine qtail.region_below_tail 12 (by kernel_rfl) (by kernel_rfl) ?_
     quiet_step (skip)
     quiet_step (skip)
     quiet_step (skip)
     quiet_step (skip)
     quiet_step (skip)
     refine wpQuiet_load rfl 38 _ rfl _ rfl 38 _ _ (fun w' hC => heap_regrown T2.out hC) Tryz.underlying38 rfl HTz.out ?_
     quiet_step (skip)
     quiet_step (skip)
     quiet_step (skip)
     quiet_step (exact Calls.regrown_of (HPr.out _))
     quiet_step (skip)
     quiet_step (exact Calls.regrown_of (HSr.out _ (BE.out.trans ((below_regrown _ _ _).mono BE.out.size))))
     refine wpQuiet_nil ?_
     intro w8 hC
     have hbn : Below wr.heap.size wr w8 := by
      obtain ⟨pp, rfl⟩ := hC
      exact below_regrown _ _ _
     have A8 : Away (At gr (RW ln (fst (q r) c)) 25 wn w8) := ⟨A0.out.later hbn⟩
     clear hC hbn A0 hXs hsz HPr HSr cr2
     simp only [List.drop_succ_cons, List.drop_zero]
     go_wp2_with ((with_reducible refine wpList_putp A8 HF.out Hclt.out Ho6.out rfl _ _ rfl rfl ?hx ?hy ?_); (case hx => exact rfl); (case hy => exact rfl); intro w9 A9; rw [Hup.out] at A9)
     go_roundw
     case rel => exact ⟨c + 1, by have := Hclt.out; omega, by go_num, A9⟩
     case measure => have := Hclt.out; simp [intOf]; omega
    ·obtain rfl : c = ln := by omega
     have hbl2 : ∀ g, g < wo.heap.size → g ≠ gm → wr.heap[g]? = wo.heap[g]? := fun g h1 h2 => (A0.out.block g (Nat.lt_of_lt_of_le h1 Hws.out) (by have := Hgr.out; omega)).trans (Hbl.out g h1 h2)
     have Rw : wr.heap[gm]? = some (.cells (OU (vs ++ [.slice (some ⟨gr, 0, none⟩) c c]) (kn - (r + 1))) 45 (0, 0)) := A0.out.other (lt_of_row Rm.out) (by omega) Rm.out
     have hH : Holds wr wo.heap.size (.slice (some ⟨gr, 0, none⟩) c c) c (q r) := row_holds A0.out.row (Nat.le_of_eq Hgr.out) (fun i hi => fst_lt (q r) c i hi)
     have hR1 := rowl_blocks Hrv.out (Nat.le_trans Hws.out A0.out.size) hbl2
     have hR2 := Rowl.snoc (x := .slice (some ⟨gm, 0, none⟩) kn kn) (y := .slice (some ⟨gr, 0, none⟩) c c) hR1 (by rw [Hvl.out]; exact hH) (Nat.le_of_lt (by have := Hgr.out; omega)) (fun k hk => by
      have e : gm = k := by injection hk
      have := Hgr.out
      omega)
     have O8 : Away (∃ vs, vs.length = r + 1 ∧ wr.heap[gm]? = some (.cells (OU vs (kn - (r + 1))) 45 (0, 0)) ∧ Rowl wr gm (some gm) vs c q) := ⟨_, by rw [List.length_append, Hvl.out]; rfl, Rw, hR2⟩
     clear hbl2 Rw hH hR1 hR2 A0
     go_wp2_with fail
     go_roundw
     case rel => exact ⟨r + 1, by omega, by go_num, O8, BU⟩
     case measure => simp [intOf]; omega
  ·obtain rfl : r = kn := by omega
   obtain ⟨vs, hvl, hov, hrv⟩ := HO.out
   rw [Nat.sub_self] at hov
   have Fx : Away (wo.ownsRow w.heap.size 45 1 (.slice (some ⟨gm, 0, none⟩) r r) r vs) := ⟨by omega, Or.inr ⟨gm, r, _, rfl, Nat.le_trans B1.out.size (Nat.le_of_eq Hgm.out), hov, Nat.le_refl _, by unfold maxLen; omega, by rw [ou_size]; omega, by unfold OU; rw [List.replicate_zero, List.append_nil]; show vs.take (r * 1) = vs; exact List.take_of_length_le (by omega)⟩⟩
   have Gx : Away (Rowl wo w.heap.size (some gm) vs ln q) := ⟨hrv.base (Nat.le_trans B1.out.size (Nat.le_of_eq Hgm.out))⟩
   clear hov hrv hvl HO
   go_wp2_with fail
   go_ret
   exact ⟨⟨_, vs, rfl, Fx.out, Gx.out⟩, B1.out.trans (Hb.out.mono B1.out.size)⟩
end qmat
namespace qsec
open Go Go.RowKit
open arr mem stil polys polt rbitb rbitc rndm pols saml qpair qrow helda
section
variable {P : Program} {ops : Array Oper} {Q : Exit → Act → World → Prop} {S : World → Prop}
theorem hk_two {b : Array Bool} {k1 k2 : Nat} {ks : List Nat} {o1 o2 : Oper} {rest : List Oper} {a : Act} {w : World} (hw1 : Region.wanted o1 (yielded ops a.tmps) = true) (hw2 : Region.wanted o2 (yielded ops a.tmps) = true) (hr : Region.ready .any ops b = [k1, k2])
 (h1 : ∀ K : Act → World → Prop, (∀ a' w', S w' → HK P ops Q S (b.setIfInBounds k1 true) (o2 :: rest) (k2 :: ks) a' w' → K a' w') → o1.wp P a w K Q)
 (h2 : ∀ K : Act → World → Prop, (∀ a' w', S w' → HK P ops Q S (b.setIfInBounds k2 true) (o1 :: rest) (k1 :: ks) a' w' → K a' w') → o2.wp P a w K Q) : HK P ops Q S b (o1 :: o2 :: rest) (k1 :: k2 :: ks) a w := fun hl => by
 simp only [List.map_cons, List.cons.injEq] at hl
 obtain ⟨e1, e2, e3⟩ := hl
 refine wpAnyH_all hr (by simp) fun j hj => ?_
 simp only [List.mem_cons, List.not_mem_nil, or_false] at hj
 rcases hj with rfl | rfl
 ·unfold Go.wpOp
  simp only [e1, hw1, if_true]
  exact Or.inl (h1 _ fun a' w' hs hh => ⟨hs, hh (by simp only [List.map_cons, e2, e3])⟩)
 ·unfold Go.wpOp
  simp only [e2, hw2, if_true]
  exact Or.inl (h2 _ fun a' w' hs hh => ⟨hs, hh (by simp only [List.map_cons, e1, e3])⟩)
theorem hk_swap {b : Array Bool} {k1 k2 : Nat} {ks : List Nat} {o1 o2 : Oper} {rest : List Oper} {a : Act} {w : World} (h : HK P ops Q S b (o2 :: o1 :: rest) (k2 :: k1 :: ks) a w) : HK P ops Q S b (o1 :: o2 :: rest) (k1 :: k2 :: ks) a w := fun hl => by
 simp only [List.map_cons, List.cons.injEq] at hl
 exact h (by simp only [List.map_cons, hl.1, hl.2.1, hl.2.2])
end
set_option maxRecDepth 100000 in
set_option maxHeartbeats 4000000 in
theorem secrets_no {T : Array Value} (k l e t a b o s : Int) (sd : ByteArray) (w : World) (h : latt k l e t a b o s = false) :
 Calls Tryz.prog 38 #[.agg T, .agg #[.int .i64 k, .int .i64 l, .int .i64 e, .int .i64 t, .int .i64 a, .int .i64 b, .int .i64 o, .int .i64 s], .string sd] w fun x w' => x = .returned (.tuple #[.slice none 0 0, .slice none 0 0]) ∧ Below w.heap.size w w' := by
 have HR : Away (∀ w1 : World, Calls Tryz.prog 32 #[.agg #[.int .i64 k, .int .i64 l, .int .i64 e, .int .i64 t, .int .i64 a, .int .i64 b, .int .i64 o, .int .i64 s]] w1 fun e0 w' => e0 = .returned (.bool false) ∧ Below w1.heap.size w1 w') := ⟨fun w1 => by rw [← h]; exact rright.right_any k l e t a b o s w1⟩
 obtain ⟨W, hW⟩ : ∃ x, (w.alloc (.cells T 38)).alloc (.cells #[.int .i64 k, .int .i64 l, .int .i64 e, .int .i64 t, .int .i64 a, .int .i64 b, .int .i64 o, .int .i64 s] 23) = x := ⟨_, rfl⟩
 obtain ⟨r0, r1, hWs, b0⟩ := two hW
 have L0 : Away (W.heap[w.heap.size + 1]? = some (.cells #[.int .i64 k, .int .i64 l, .int .i64 e, .int .i64 t, .int .i64 a, .int .i64 b, .int .i64 o, .int .i64 s] 23 (0, 0))) := ⟨r1⟩
 have BW := Away.mk b0
 have HW := Away.mk hW
 clear hW r0 r1 b0 h
 go_enter Tryz.func38, Tryz.ntmps38
 go_wp2_with (first
  | (rw [HW.out])
  | (refine wpList_load_row rfl 23 _ rfl (w.heap.size + 1) rfl 23 _ (0, 0) _ L0.out Tryz.underlying23 rfl (by kernel_rfl) ?_))
 refine (HR.out _).mono ?_
 rintro x u1 ⟨rfl, hb1⟩
 have B1 : Away (Below w.heap.size w u1) := ⟨BW.out.trans (hb1.mono (by rw [hWs]; omega))⟩
 clear hb1
 go_wp2_with fail
 go_ret2
 exact ⟨rfl, B1.out⟩
set_option maxRecDepth 100000 in
set_option maxHeartbeats 8000000 in
theorem secrets_yes {T : Array Value} (kn ln : Nat) (e t a b o s : Int) (sd : ByteArray) (q : Nat → Nat → Int) (w : World) (hT : (Tryz.prog.info? 38).map (·.size) = some T.size) (hk : 1 ≤ kn ∧ kn ≤ 8) (hl : 1 ≤ ln ∧ ln ≤ 8) (h : latt (kn : Int) (ln : Int) e t a b o s = true) (hsd : sd.size ≤ 1125899906842624)
 (HS : ∀ r : Nat, r < 16 → ∀ w1 : World, Below w.heap.size w w1 → Calls Tryz.prog 82 #[.agg T, .string (tw sd r 0), .int .i64 e] w1 fun x w' => x = .returned (.agg (FL .i64 256 (q r))) ∧ Below w1.heap.size w1 w') :
 Calls Tryz.prog 38 #[.agg T, .agg #[.int .i64 (kn : Int), .int .i64 (ln : Int), .int .i64 e, .int .i64 t, .int .i64 a, .int .i64 b, .int .i64 o, .int .i64 s], .string sd] w fun x w' => (∃ v1 v2, x = .returned (.tuple #[v1, v2]) ∧ Holds w' w.heap.size v1 ln q ∧ Holds w' w.heap.size v2 kn (fun i => q (ln + i))) ∧ Below w.heap.size w w' := by
 have HR : Away (∀ w1 : World, Calls Tryz.prog 32 #[.agg #[.int .i64 (kn : Int), .int .i64 (ln : Int), .int .i64 e, .int .i64 t, .int .i64 a, .int .i64 b, .int .i64 o, .int .i64 s]] w1 fun e0 w' => e0 = .returned (.bool true) ∧ Below w1.heap.size w1 w') := ⟨fun w1 => by rw [← h]; exact rright.right_any _ _ e t a b o s w1⟩
 obtain ⟨i0, hi, hz0, hz1, hz2⟩ := parts infoPoly
 obtain ⟨hz, hsize⟩ := zero_of_info polt.infoP
 obtain ⟨z, HZ⟩ := ex_eq (FL .i64 256 fun _ => 0)
 rw [HZ.out] at hz hz0
 have HI := Away.mk (And.intro hi (And.intro hz0 (And.intro hz1 hz2)))
 have hbytes : i0.bytes = 2048 := hz2
 clear hi hz0 hz1 hz2 hsize
 obtain ⟨C, HC⟩ := ex_eq (#[.int .i64 (kn : Int), .int .i64 (ln : Int), .int .i64 e, .int .i64 t, .int .i64 a, .int .i64 b, .int .i64 o, .int .i64 s] : Array Value)
 rw [HC.out] at HR ⊢
 have HCs : Away ((Tryz.prog.info? 23).map (·.size) = some C.size) := ⟨by rw [← HC.out]; kernel_rfl⟩
 obtain ⟨W, hW⟩ : ∃ x, (w.alloc (.cells T 38)).alloc (.cells C 23) = x := ⟨_, rfl⟩
 obtain ⟨r0, r1, hWs, b0⟩ := two hW
 have T0 : Away (W.heap[w.heap.size]? = some (.cells T 38 (0, 0))) := ⟨r0⟩
 have L0 : Away (W.heap[w.heap.size + 1]? = some (.cells C 23 (0, 0))) := ⟨r1⟩
 have BW := Away.mk b0
 have HWs := Away.mk hWs
 have HW := Away.mk hW
 have HSm := Away.mk HS
 have HTz := Away.mk hT
 have Hk := Away.mk hk
 have Hl := Away.mk hl
 have Hsd := Away.mk hsd
 clear hW r0 r1 b0 h HS hT hk hl hsd hWs
 go_enter Tryz.func38, Tryz.ntmps38
 go_wp2_with (first
  | (rw [HW.out])
  | (refine wpList_load_row rfl 23 _ rfl (w.heap.size + 1) rfl 23 _ (0, 0) _ L0.out Tryz.underlying23 rfl HCs.out ?_))
 refine (HR.out _).mono ?_
 rintro x u1 ⟨rfl, hb1⟩
 have B1 : Away (Below w.heap.size w u1) := ⟨BW.out.trans (hb1.mono (by rw [HWs.out]; omega))⟩
 have T1 : Away (u1.heap[w.heap.size]? = some (.cells T 38 (0, 0))) := ⟨(hb1.block _ (by rw [HWs.out]; omega)).trans T0.out⟩
 have L1 : Away (u1.heap[w.heap.size + 1]? = some (.cells C 23 (0, 0))) := ⟨(hb1.block _ (by rw [HWs.out]; omega)).trans L0.out⟩
 have HcK : Away (∀ w1 : World, Below u1.heap.size u1 w1 → w1.cell? ⟨w.heap.size + 1, 0, none⟩ = some (.int .i64 (kn : Int))) := ⟨fun w1 hb => cell_at ((hb.block _ (lt_of_row L1.out)).trans L1.out) (by rw [← HC.out]; rfl)⟩
 have HcL : Away (∀ w1 : World, Below u1.heap.size u1 w1 → w1.cell? ⟨w.heap.size + 1, 1, none⟩ = some (.int .i64 (ln : Int))) := ⟨fun w1 hb => cell_at ((hb.block _ (lt_of_row L1.out)).trans L1.out) (by rw [← HC.out]; rfl)⟩
 have HcE : Away (∀ w1 : World, Below u1.heap.size u1 w1 → w1.cell? ⟨w.heap.size + 1, 2, none⟩ = some (.int .i64 e)) := ⟨fun w1 hb => cell_at ((hb.block _ (lt_of_row L1.out)).trans L1.out) (by rw [← HC.out]; rfl)⟩
 have hln8 : ln ≤ 8 := Hl.out.2
 have hkn8 : kn ≤ 8 := Hk.out.2
 clear hb1
 go_wp2_with fail
 obtain ⟨B0, hB0⟩ : ∃ x, u1.heap.size = x := ⟨_, rfl⟩
 refine hk_begin B0 8 [0, 1, 3, 4, 2, 5, 6, 7] (by kernel_rfl) rfl rfl (by decide) (fun hS ops HO => ?_)
 simp only [List.filterMap_cons, List.filterMap_nil, List.getElem?_cons_succ, List.getElem?_cons_zero]
 (focus (refine hk_take (v := ?_) (by rw [← HO.out]; kernel_rfl) (by rw [← HO.out]; kernel_rfl) (by rw [← HO.out]; kernel_rfl) (by rw [← HO.out]; kernel_rfl) (fun _ _ _ h => h) ?_ hS ?_; rotate_left; focus (intro w9 h9; go_simp; first | done | with_reducible rfl); all_goals skip))
 simp only [Act.put, List.setIfInBounds_toArray, List.set_cons_zero, List.set_cons_succ]
 (focus (refine hk_take (v := ?_) (by rw [← HO.out]; kernel_rfl) (by rw [← HO.out]; kernel_rfl) (by rw [← HO.out]; kernel_rfl) (by rw [← HO.out]; kernel_rfl) (fun _ _ _ h => h) ?_ hS ?_; rotate_left; focus (intro w9 h9; have hc := HcL.out w9 (by rw [hB0]; exact h9); go_simp; first | done | with_reducible rfl); all_goals skip))
 simp only [Act.put, List.setIfInBounds_toArray, List.set_cons_zero, List.set_cons_succ]
 (focus (refine hk_take (v := ?_) (by rw [← HO.out]; kernel_rfl) (by rw [← HO.out]; kernel_rfl) (by rw [← HO.out]; kernel_rfl) (by rw [← HO.out]; kernel_rfl) (fun _ _ _ h => h) ?_ hS ?_; rotate_left; focus (intro w9 h9; go_simp; first | done | with_reducible rfl); all_goals skip))
 simp only [Act.put, List.setIfInBounds_toArray, List.set_cons_zero, List.set_cons_succ]
 (focus (refine hk_take (v := ?_) (by rw [← HO.out]; kernel_rfl) (by rw [← HO.out]; kernel_rfl) (by rw [← HO.out]; kernel_rfl) (by rw [← HO.out]; kernel_rfl) (fun _ _ _ h => h) ?_ hS ?_; rotate_left; focus (intro w9 h9; have hc := HcK.out w9 (by rw [hB0]; exact h9); go_simp; first | done | with_reducible rfl); all_goals skip))
 simp only [Act.put, List.setIfInBounds_toArray, List.set_cons_zero, List.set_cons_succ]
 refine hk_two (by rw [← HO.out]; kernel_rfl) (by rw [← HO.out]; kernel_rfl) (by rw [← HO.out]; kernel_rfl) (fun K hK => ?_) (fun K hK => ?_)
 ·refine wp_make_full (.tmp 16) (.tmp 16) 45 rfl 25 i0 (.agg z) 256 Tryz.underlying45 HI.out.1 HI.out.2.1 HI.out.2.2.1 .i64 .i64 ln rfl rfl (by rw [HI.out.2.2.2]; omega) (by unfold maxLen; omega) ?_
  intro w3 hown hgr
  obtain ⟨hrow, hb3⟩ := made_row HZ.out hown hgr
  have h3 : Below u1.heap.size u1 w3 := (Below.refl _ _).drew.trans hb3
  refine hK _ _ (by rw [← hB0]; exact h3) ?_
  clear hK K
  obtain ⟨ga, hga⟩ : ∃ x, u1.heap.size = x := ⟨_, rfl⟩
  have R1 : w3.heap[ga]? = some (.cells (RW ln fun _ _ => 0) 25 (0, 0)) := by rw [← hga]; exact hrow
  have l1 : ga < w3.heap.size := lt_of_row R1
  show HK _ _ _ _ _ _ _ (Act.put _ _ (.slice (some ⟨u1.heap.size, 0, none⟩) ln ln)) _
  rw [hga]
  simp only [Act.put, List.setIfInBounds_toArray, List.set_cons_zero, List.set_cons_succ]
  refine hk_swap ?_
  (focus (refine hk_take (v := ?_) (by rw [← HO.out]; kernel_rfl) (by rw [← HO.out]; kernel_rfl) (by rw [← HO.out]; kernel_rfl) (by rw [← HO.out]; kernel_rfl) (fun _ _ _ h => h) ?_ (by rw [← hB0]; exact h3) ?_; rotate_left; focus (intro w9 h9; go_simp; first | done | with_reducible rfl); all_goals skip))
  simp only [Act.put, List.setIfInBounds_toArray, List.set_cons_zero, List.set_cons_succ]
  refine hk_step (by rw [← HO.out]; kernel_rfl) (by rw [← HO.out]; kernel_rfl) (fun K hK => ?_)
  refine wp_make_full (.tmp 19) (.tmp 19) 45 rfl 25 i0 (.agg z) 256 Tryz.underlying45 HI.out.1 HI.out.2.1 HI.out.2.2.1 .i64 .i64 kn rfl rfl (by rw [HI.out.2.2.2]; omega) (by unfold maxLen; omega) ?_
  intro w4 hown2 hgr2
  obtain ⟨hrow2, hb4⟩ := made_row HZ.out hown2 hgr2
  have h4 : Below u1.heap.size u1 w4 := h3.trans (hb4.mono h3.size)
  have h5 : Below B0 u1 w4 := by rw [← hB0]; exact h4
  refine hK _ _ h5 ?_
  clear hK K
  obtain ⟨gb, hgb⟩ : ∃ x, w3.heap.size = x := ⟨_, rfl⟩
  have R2 : w4.heap[gb]? = some (.cells (RW kn fun _ _ => 0) 25 (0, 0)) := by rw [← hgb]; exact hrow2
  have R3 : w4.heap[ga]? = some (.cells (RW ln fun _ _ => 0) 25 (0, 0)) := (hb4.block _ l1).trans R1
  rw [hgb]
  simp only [Act.put, List.setIfInBounds_toArray, List.set_cons_zero, List.set_cons_succ]
  (focus (refine hk_take (v := ?_) (by rw [← HO.out]; kernel_rfl) (by rw [← HO.out]; kernel_rfl) (by rw [← HO.out]; kernel_rfl) (by rw [← HO.out]; kernel_rfl) (fun _ _ _ h => h) ?_ h5 ?_; rotate_left; focus (intro w9 h9; go_simp; first | done | with_reducible rfl); all_goals skip))
  simp only [Act.put, List.setIfInBounds_toArray, List.set_cons_zero, List.set_cons_succ]
  refine hk_nil (by rw [← HO.out]; kernel_rfl) ?_
  have G1 : Away (w4.heap[ga]? = some (.cells (RW ln fun _ _ => 0) 25 (0, 0))) := ⟨R3⟩
  have G2 : Away (w4.heap[gb]? = some (.cells (RW kn fun _ _ => 0) 25 (0, 0))) := ⟨R2⟩
  have Hg : Away (ga ≠ gb ∧ u1.heap.size ≤ ga ∧ u1.heap.size ≤ gb) := ⟨by have := h3.size; refine ⟨?_, ?_, ?_⟩ <;> omega⟩
  have B4 := Away.mk h4
  clear hown hgr hrow hb3 h3 hown2 hgr2 hrow2 hb4 h4 R1 R2 R3 l1 HO hS h5 hB0 hga hgb
  go_wp2_with fail
  have Aga : Away (At ga (RW ln (fst q 0)) 25 w4 w4) := ⟨by rw [fst_zero]; exact At.refl G1.out⟩
  have BXga := B4
  go_loopw [23] (fun v wr => ∃ r : Nat, r ≤ ln ∧ v = .int .i64 (r : Int) ∧ Away (At ga (RW ln (fst q r)) 25 w4 wr)) (fun v _ => ln - (intOf v).toNat)
  case atStart => exact ⟨0, Nat.zero_le _, rfl, Aga⟩
  case round =>
   clear Aga
   obtain ⟨r, hr, rfl, A0⟩ := hrel
   have BU : Away (Below u1.heap.size u1 wr) := ⟨BXga.out.trans (A0.out.below BXga.out.size Hg.out.2.1)⟩
   have BE : Away (Below w.heap.size w wr) := ⟨B1.out.trans (BU.out.mono B1.out.size)⟩
   by_cases hlt : r < ln
   ·have hltz : (r : Int) < (ln : Int) := by omega
    have hr16 : r < 16 := by have := Hk.out; have := Hl.out; omega
    have T2 : Away (wr.heap[w.heap.size]? = some (.cells T 38 (0, 0))) := ⟨(BU.out.block _ (lt_of_row T1.out)).trans T1.out⟩
    have HPr : Away (∀ w1 : World, Calls Tryz.prog 83 #[.int .i64 (r : Int), .int .i64 0] w1 fun e w' => e = .returned (.string (x2 r 0)) ∧ Below w1.heap.size w1 w') := ⟨fun w1 => pair_any r 0 (by omega) (by omega) w1⟩
    have HSr : Away (∀ w1 : World, Below w.heap.size w w1 → Calls Tryz.prog 82 #[.agg T, .string (sd ++ x2 r 0), .int .i64 e] w1 fun x w' => x = .returned (.agg (FL .i64 256 (q r))) ∧ Below w1.heap.size w1 w') := ⟨fun w1 hb => by
     have := HSm.out r hr16 w1 hb
     first | exact this | (rw [hM]; exact this)⟩
    have cE2 : ∀ d os, (Go.Sort.grow (redrawn wr d) os).cell? ⟨w.heap.size + 1, 2, none⟩ = some (.int .i64 e) := fun d os => HcE.out _ (BU.out.trans ((below_regrown _ _ _).mono BU.out.size))
    obtain ⟨X, HX⟩ := ex_eq (x2 r 0)
    rw [HX.out] at HPr HSr
    have hXs : X.size = 2 := by rw [← HX.out]; rfl
    have hsz : (9223372036854775807 < sd.size + 2) = False := by have := Hsd.out; simp; omega
    obtain ⟨F, HF⟩ := ex_eq (FL .i64 256 (q r))
    rw [HF.out] at HSr
    obtain ⟨o6, ho6⟩ : ∃ o6, r * 256 = o6 := ⟨_, rfl⟩
    have Ho6 := Away.mk ho6
    have Hlt := Away.mk hlt
    have Hup : Away (ups (fst q r) r (q r) = fst q (r + 1)) := ⟨ups_fst q r⟩
    clear HX
    go_wp2_with fail
    refine qtail.region_below_tail 10 (by kernel_rfl) (by kernel_rfl) ?_
    quiet_step (skip)
    quiet_step (skip)
    refine wpQuiet_load rfl 38 _ rfl _ rfl 38 _ _ (fun w' hC => heap_regrown T2.out hC) Tryz.underlying38 rfl HTz.out ?_
    quiet_step (skip)
    quiet_step (skip)
    quiet_step (exact Calls.regrown_of (HPr.out _))
    quiet_step (skip)
    quiet_step (skip)
    quiet_step (skip)
    quiet_step (exact Calls.regrown_of (HSr.out _ (BE.out.trans ((below_regrown _ _ _).mono BE.out.size))))
    refine wpQuiet_nil ?_
    intro wn hC
    have hbn : Below wr.heap.size wr wn := by
     obtain ⟨pp, rfl⟩ := hC
     exact below_regrown _ _ _
    have A6 : Away (At ga (RW ln (fst q r)) 25 w4 wn) := ⟨A0.out.later hbn⟩
    clear hC hbn A0 hXs hsz HPr HSr cE2
    simp only [List.drop_succ_cons, List.drop_zero]
    go_wp2_with ((with_reducible refine wpList_putp A6 HF.out Hlt.out Ho6.out rfl _ _ rfl rfl ?hx ?hy ?_); (case hx => exact rfl); (case hy => exact rfl); intro w7 A7; rw [Hup.out] at A7)
    go_roundw
    case rel => exact ⟨r + 1, by have := Hlt.out; omega, by go_num, A7⟩
    case measure => have := Hlt.out; simp [intOf]; omega
   ·obtain rfl : r = ln := by omega
    rename World => wo
    have F1 : Away (wo.heap[ga]? = some (.cells (RW r (fst q r)) 25 (0, 0))) := ⟨A0.out.row⟩
    have Agb : Away (At gb (RW kn (fst (fun i => q (r + i)) 0)) 25 wo wo) := ⟨by rw [fst_zero]; exact At.refl (A0.out.other (lt_of_row G2.out) (Ne.symm Hg.out.1) G2.out)⟩
    have BXgb := BU
    clear A0 G1 G2
    go_wp2_with fail
    go_loopw [40] (fun v wr => ∃ r2 : Nat, r2 ≤ kn ∧ v = .int .i64 (r2 : Int) ∧ Away (At gb (RW kn (fst (fun i => q (r + i)) r2)) 25 wo wr)) (fun v _ => kn - (intOf v).toNat)
    case atStart => exact ⟨0, Nat.zero_le _, rfl, Agb⟩
    case round =>
     clear Agb
     obtain ⟨r2, hr, rfl, A0⟩ := hrel
     have BU : Away (Below u1.heap.size u1 wr) := ⟨BXgb.out.trans (A0.out.below BXgb.out.size Hg.out.2.2)⟩
     have BE : Away (Below w.heap.size w wr) := ⟨B1.out.trans (BU.out.mono B1.out.size)⟩
     by_cases hlt : r2 < kn
     ·have hltz : (r2 : Int) < (kn : Int) := by omega
      have hr16 : (r + r2) < 16 := by have := Hk.out; have := Hl.out; omega
      obtain ⟨M, hM⟩ : ∃ M, r + r2 = M := ⟨_, rfl⟩
      have fM : IntKind.i64.wrap ((r : Int) + (r2 : Int)) = (M : Int) := by rw [IntKind.wrap_i64]; omega
      have cL2 : ∀ d os, (Go.Sort.grow (redrawn wr d) os).cell? ⟨w.heap.size + 1, 1, none⟩ = some (.int .i64 (r : Int)) := fun d os => HcL.out _ (BU.out.trans ((below_regrown _ _ _).mono BU.out.size))
      have T2 : Away (wr.heap[w.heap.size]? = some (.cells T 38 (0, 0))) := ⟨(BU.out.block _ (lt_of_row T1.out)).trans T1.out⟩
      have HPr : Away (∀ w1 : World, Calls Tryz.prog 83 #[.int .i64 (M : Int), .int .i64 0] w1 fun e w' => e = .returned (.string (x2 M 0)) ∧ Below w1.heap.size w1 w') := ⟨fun w1 => pair_any M 0 (by omega) (by omega) w1⟩
      have HSr : Away (∀ w1 : World, Below w.heap.size w w1 → Calls Tryz.prog 82 #[.agg T, .string (sd ++ x2 M 0), .int .i64 e] w1 fun x w' => x = .returned (.agg (FL .i64 256 (q (r + r2)))) ∧ Below w1.heap.size w1 w') := ⟨fun w1 hb => by
       have := HSm.out (r + r2) hr16 w1 hb
       rw [hM] at this
       first | exact this | (rw [hM]; exact this)⟩
      have cE2 : ∀ d os, (Go.Sort.grow (redrawn wr d) os).cell? ⟨w.heap.size + 1, 2, none⟩ = some (.int .i64 e) := fun d os => HcE.out _ (BU.out.trans ((below_regrown _ _ _).mono BU.out.size))
      obtain ⟨X, HX⟩ := ex_eq (x2 M 0)
      rw [HX.out] at HPr HSr
      have hXs : X.size = 2 := by rw [← HX.out]; rfl
      have hsz : (9223372036854775807 < sd.size + 2) = False := by have := Hsd.out; simp; omega
      obtain ⟨F, HF⟩ := ex_eq (FL .i64 256 (q (r + r2)))
      rw [HF.out] at HSr
      obtain ⟨o6, ho6⟩ : ∃ o6, r2 * 256 = o6 := ⟨_, rfl⟩
      have Ho6 := Away.mk ho6
      have Hlt := Away.mk hlt
      have Hup : Away (ups (fst (fun i => q (r + i)) r2) r2 (q (r + r2)) = fst (fun i => q (r + i)) (r2 + 1)) := ⟨ups_fst (fun i => q (r + i)) r2⟩
      clear HX
      go_wp2_with fail
      refine qtail.region_below_tail 13 (by kernel_rfl) (by kernel_rfl) ?_
      quiet_step (skip)
      quiet_step (skip)
      refine wpQuiet_load rfl 38 _ rfl _ rfl 38 _ _ (fun w' hC => heap_regrown T2.out hC) Tryz.underlying38 rfl HTz.out ?_
      quiet_step (skip)
      quiet_step (skip)
      quiet_step (skip)
      quiet_step (skip)
      quiet_step (skip)
      quiet_step (exact Calls.regrown_of (HPr.out _))
      quiet_step (skip)
      quiet_step (skip)
      quiet_step (skip)
      quiet_step (exact Calls.regrown_of (HSr.out _ (BE.out.trans ((below_regrown _ _ _).mono BE.out.size))))
      refine wpQuiet_nil ?_
      intro wn hC
      have hbn : Below wr.heap.size wr wn := by
       obtain ⟨pp, rfl⟩ := hC
       exact below_regrown _ _ _
      have A6 : Away (At gb (RW kn (fst (fun i => q (r + i)) r2)) 25 wo wn) := ⟨A0.out.later hbn⟩
      clear hC hbn A0 hXs hsz HPr HSr cE2 fM cL2 hM
      simp only [List.drop_succ_cons, List.drop_zero]
      go_wp2_with ((with_reducible refine wpList_putp A6 HF.out Hlt.out Ho6.out rfl _ _ rfl rfl ?hx ?hy ?_); (case hx => exact rfl); (case hy => exact rfl); intro w7 A7; rw [Hup.out] at A7)
      go_roundw
      case rel => exact ⟨r2 + 1, by have := Hlt.out; omega, by go_num, A7⟩
      case measure => have := Hlt.out; simp [intOf]; omega
     ·obtain rfl : r2 = kn := by omega
      have H1 : Away (Holds wr w.heap.size (.slice (some ⟨ga, 0, none⟩) r r) r q) := ⟨row_holds (A0.out.other (lt_of_row F1.out) Hg.out.1 F1.out) (Nat.le_trans B1.out.size Hg.out.2.1) (fun i hi => fst_lt q r i hi)⟩
      have H2 : Away (Holds wr w.heap.size (.slice (some ⟨gb, 0, none⟩) r2 r2) r2 (fun i => q (r + i))) := ⟨row_holds A0.out.row (Nat.le_trans B1.out.size Hg.out.2.2) (fun i hi => fst_lt (fun i => q (r + i)) r2 i hi)⟩
      clear A0 F1
      go_wp2_with fail
      go_ret2
      exact ⟨⟨_, _, rfl, H1.out, H2.out⟩, BE.out⟩
 ·refine wp_make_full (.tmp 19) (.tmp 19) 45 rfl 25 i0 (.agg z) 256 Tryz.underlying45 HI.out.1 HI.out.2.1 HI.out.2.2.1 .i64 .i64 kn rfl rfl (by rw [HI.out.2.2.2]; omega) (by unfold maxLen; omega) ?_
  intro w3 hown hgr
  obtain ⟨hrow, hb3⟩ := made_row HZ.out hown hgr
  have h3 : Below u1.heap.size u1 w3 := (Below.refl _ _).drew.trans hb3
  refine hK _ _ (by rw [← hB0]; exact h3) ?_
  clear hK K
  obtain ⟨gb, hgb⟩ : ∃ x, u1.heap.size = x := ⟨_, rfl⟩
  have R1 : w3.heap[gb]? = some (.cells (RW kn fun _ _ => 0) 25 (0, 0)) := by rw [← hgb]; exact hrow
  have l1 : gb < w3.heap.size := lt_of_row R1
  show HK _ _ _ _ _ _ _ (Act.put _ _ (.slice (some ⟨u1.heap.size, 0, none⟩) kn kn)) _
  rw [hgb]
  simp only [Act.put, List.setIfInBounds_toArray, List.set_cons_zero, List.set_cons_succ]
  refine hk_step (by rw [← HO.out]; kernel_rfl) (by rw [← HO.out]; kernel_rfl) (fun K hK => ?_)
  refine wp_make_full (.tmp 16) (.tmp 16) 45 rfl 25 i0 (.agg z) 256 Tryz.underlying45 HI.out.1 HI.out.2.1 HI.out.2.2.1 .i64 .i64 ln rfl rfl (by rw [HI.out.2.2.2]; omega) (by unfold maxLen; omega) ?_
  intro w4 hown2 hgr2
  obtain ⟨hrow2, hb4⟩ := made_row HZ.out hown2 hgr2
  have h4 : Below u1.heap.size u1 w4 := h3.trans (hb4.mono h3.size)
  have h5 : Below B0 u1 w4 := by rw [← hB0]; exact h4
  refine hK _ _ h5 ?_
  clear hK K
  obtain ⟨ga, hga⟩ : ∃ x, w3.heap.size = x := ⟨_, rfl⟩
  have R2 : w4.heap[ga]? = some (.cells (RW ln fun _ _ => 0) 25 (0, 0)) := by rw [← hga]; exact hrow2
  have R3 : w4.heap[gb]? = some (.cells (RW kn fun _ _ => 0) 25 (0, 0)) := (hb4.block _ l1).trans R1
  rw [hga]
  simp only [Act.put, List.setIfInBounds_toArray, List.set_cons_zero, List.set_cons_succ]
  (focus (refine hk_take (v := ?_) (by rw [← HO.out]; kernel_rfl) (by rw [← HO.out]; kernel_rfl) (by rw [← HO.out]; kernel_rfl) (by rw [← HO.out]; kernel_rfl) (fun _ _ _ h => h) ?_ h5 ?_; rotate_left; focus (intro w9 h9; go_simp; first | done | with_reducible rfl); all_goals skip))
  simp only [Act.put, List.setIfInBounds_toArray, List.set_cons_zero, List.set_cons_succ]
  (focus (refine hk_take (v := ?_) (by rw [← HO.out]; kernel_rfl) (by rw [← HO.out]; kernel_rfl) (by rw [← HO.out]; kernel_rfl) (by rw [← HO.out]; kernel_rfl) (fun _ _ _ h => h) ?_ h5 ?_; rotate_left; focus (intro w9 h9; go_simp; first | done | with_reducible rfl); all_goals skip))
  simp only [Act.put, List.setIfInBounds_toArray, List.set_cons_zero, List.set_cons_succ]
  refine hk_nil (by rw [← HO.out]; kernel_rfl) ?_
  have G1 : Away (w4.heap[ga]? = some (.cells (RW ln fun _ _ => 0) 25 (0, 0))) := ⟨R2⟩
  have G2 : Away (w4.heap[gb]? = some (.cells (RW kn fun _ _ => 0) 25 (0, 0))) := ⟨R3⟩
  have Hg : Away (ga ≠ gb ∧ u1.heap.size ≤ ga ∧ u1.heap.size ≤ gb) := ⟨by have := h3.size; refine ⟨?_, ?_, ?_⟩ <;> omega⟩
  have B4 := Away.mk h4
  clear hown hgr hrow hb3 h3 hown2 hgr2 hrow2 hb4 h4 R1 R2 R3 l1 HO hS h5 hB0 hgb hga
  go_wp2_with fail
  have Aga : Away (At ga (RW ln (fst q 0)) 25 w4 w4) := ⟨by rw [fst_zero]; exact At.refl G1.out⟩
  have BXga := B4
  go_loopw [23] (fun v wr => ∃ r : Nat, r ≤ ln ∧ v = .int .i64 (r : Int) ∧ Away (At ga (RW ln (fst q r)) 25 w4 wr)) (fun v _ => ln - (intOf v).toNat)
  case atStart => exact ⟨0, Nat.zero_le _, rfl, Aga⟩
  case round =>
   clear Aga
   obtain ⟨r, hr, rfl, A0⟩ := hrel
   have BU : Away (Below u1.heap.size u1 wr) := ⟨BXga.out.trans (A0.out.below BXga.out.size Hg.out.2.1)⟩
   have BE : Away (Below w.heap.size w wr) := ⟨B1.out.trans (BU.out.mono B1.out.size)⟩
   by_cases hlt : r < ln
   ·have hltz : (r : Int) < (ln : Int) := by omega
    have hr16 : r < 16 := by have := Hk.out; have := Hl.out; omega
    have T2 : Away (wr.heap[w.heap.size]? = some (.cells T 38 (0, 0))) := ⟨(BU.out.block _ (lt_of_row T1.out)).trans T1.out⟩
    have HPr : Away (∀ w1 : World, Calls Tryz.prog 83 #[.int .i64 (r : Int), .int .i64 0] w1 fun e w' => e = .returned (.string (x2 r 0)) ∧ Below w1.heap.size w1 w') := ⟨fun w1 => pair_any r 0 (by omega) (by omega) w1⟩
    have HSr : Away (∀ w1 : World, Below w.heap.size w w1 → Calls Tryz.prog 82 #[.agg T, .string (sd ++ x2 r 0), .int .i64 e] w1 fun x w' => x = .returned (.agg (FL .i64 256 (q r))) ∧ Below w1.heap.size w1 w') := ⟨fun w1 hb => by
     have := HSm.out r hr16 w1 hb
     first | exact this | (rw [hM]; exact this)⟩
    have cE2 : ∀ d os, (Go.Sort.grow (redrawn wr d) os).cell? ⟨w.heap.size + 1, 2, none⟩ = some (.int .i64 e) := fun d os => HcE.out _ (BU.out.trans ((below_regrown _ _ _).mono BU.out.size))
    obtain ⟨X, HX⟩ := ex_eq (x2 r 0)
    rw [HX.out] at HPr HSr
    have hXs : X.size = 2 := by rw [← HX.out]; rfl
    have hsz : (9223372036854775807 < sd.size + 2) = False := by have := Hsd.out; simp; omega
    obtain ⟨F, HF⟩ := ex_eq (FL .i64 256 (q r))
    rw [HF.out] at HSr
    obtain ⟨o6, ho6⟩ : ∃ o6, r * 256 = o6 := ⟨_, rfl⟩
    have Ho6 := Away.mk ho6
    have Hlt := Away.mk hlt
    have Hup : Away (ups (fst q r) r (q r) = fst q (r + 1)) := ⟨ups_fst q r⟩
    clear HX
    go_wp2_with fail
    refine qtail.region_below_tail 10 (by kernel_rfl) (by kernel_rfl) ?_
    quiet_step (skip)
    quiet_step (skip)
    refine wpQuiet_load rfl 38 _ rfl _ rfl 38 _ _ (fun w' hC => heap_regrown T2.out hC) Tryz.underlying38 rfl HTz.out ?_
    quiet_step (skip)
    quiet_step (skip)
    quiet_step (exact Calls.regrown_of (HPr.out _))
    quiet_step (skip)
    quiet_step (skip)
    quiet_step (skip)
    quiet_step (exact Calls.regrown_of (HSr.out _ (BE.out.trans ((below_regrown _ _ _).mono BE.out.size))))
    refine wpQuiet_nil ?_
    intro wn hC
    have hbn : Below wr.heap.size wr wn := by
     obtain ⟨pp, rfl⟩ := hC
     exact below_regrown _ _ _
    have A6 : Away (At ga (RW ln (fst q r)) 25 w4 wn) := ⟨A0.out.later hbn⟩
    clear hC hbn A0 hXs hsz HPr HSr cE2
    simp only [List.drop_succ_cons, List.drop_zero]
    go_wp2_with ((with_reducible refine wpList_putp A6 HF.out Hlt.out Ho6.out rfl _ _ rfl rfl ?hx ?hy ?_); (case hx => exact rfl); (case hy => exact rfl); intro w7 A7; rw [Hup.out] at A7)
    go_roundw
    case rel => exact ⟨r + 1, by have := Hlt.out; omega, by go_num, A7⟩
    case measure => have := Hlt.out; simp [intOf]; omega
   ·obtain rfl : r = ln := by omega
    rename World => wo
    have F1 : Away (wo.heap[ga]? = some (.cells (RW r (fst q r)) 25 (0, 0))) := ⟨A0.out.row⟩
    have Agb : Away (At gb (RW kn (fst (fun i => q (r + i)) 0)) 25 wo wo) := ⟨by rw [fst_zero]; exact At.refl (A0.out.other (lt_of_row G2.out) (Ne.symm Hg.out.1) G2.out)⟩
    have BXgb := BU
    clear A0 G1 G2
    go_wp2_with fail
    go_loopw [40] (fun v wr => ∃ r2 : Nat, r2 ≤ kn ∧ v = .int .i64 (r2 : Int) ∧ Away (At gb (RW kn (fst (fun i => q (r + i)) r2)) 25 wo wr)) (fun v _ => kn - (intOf v).toNat)
    case atStart => exact ⟨0, Nat.zero_le _, rfl, Agb⟩
    case round =>
     clear Agb
     obtain ⟨r2, hr, rfl, A0⟩ := hrel
     have BU : Away (Below u1.heap.size u1 wr) := ⟨BXgb.out.trans (A0.out.below BXgb.out.size Hg.out.2.2)⟩
     have BE : Away (Below w.heap.size w wr) := ⟨B1.out.trans (BU.out.mono B1.out.size)⟩
     by_cases hlt : r2 < kn
     ·have hltz : (r2 : Int) < (kn : Int) := by omega
      have hr16 : (r + r2) < 16 := by have := Hk.out; have := Hl.out; omega
      obtain ⟨M, hM⟩ : ∃ M, r + r2 = M := ⟨_, rfl⟩
      have fM : IntKind.i64.wrap ((r : Int) + (r2 : Int)) = (M : Int) := by rw [IntKind.wrap_i64]; omega
      have cL2 : ∀ d os, (Go.Sort.grow (redrawn wr d) os).cell? ⟨w.heap.size + 1, 1, none⟩ = some (.int .i64 (r : Int)) := fun d os => HcL.out _ (BU.out.trans ((below_regrown _ _ _).mono BU.out.size))
      have T2 : Away (wr.heap[w.heap.size]? = some (.cells T 38 (0, 0))) := ⟨(BU.out.block _ (lt_of_row T1.out)).trans T1.out⟩
      have HPr : Away (∀ w1 : World, Calls Tryz.prog 83 #[.int .i64 (M : Int), .int .i64 0] w1 fun e w' => e = .returned (.string (x2 M 0)) ∧ Below w1.heap.size w1 w') := ⟨fun w1 => pair_any M 0 (by omega) (by omega) w1⟩
      have HSr : Away (∀ w1 : World, Below w.heap.size w w1 → Calls Tryz.prog 82 #[.agg T, .string (sd ++ x2 M 0), .int .i64 e] w1 fun x w' => x = .returned (.agg (FL .i64 256 (q (r + r2)))) ∧ Below w1.heap.size w1 w') := ⟨fun w1 hb => by
       have := HSm.out (r + r2) hr16 w1 hb
       rw [hM] at this
       first | exact this | (rw [hM]; exact this)⟩
      have cE2 : ∀ d os, (Go.Sort.grow (redrawn wr d) os).cell? ⟨w.heap.size + 1, 2, none⟩ = some (.int .i64 e) := fun d os => HcE.out _ (BU.out.trans ((below_regrown _ _ _).mono BU.out.size))
      obtain ⟨X, HX⟩ := ex_eq (x2 M 0)
      rw [HX.out] at HPr HSr
      have hXs : X.size = 2 := by rw [← HX.out]; rfl
      have hsz : (9223372036854775807 < sd.size + 2) = False := by have := Hsd.out; simp; omega
      obtain ⟨F, HF⟩ := ex_eq (FL .i64 256 (q (r + r2)))
      rw [HF.out] at HSr
      obtain ⟨o6, ho6⟩ : ∃ o6, r2 * 256 = o6 := ⟨_, rfl⟩
      have Ho6 := Away.mk ho6
      have Hlt := Away.mk hlt
      have Hup : Away (ups (fst (fun i => q (r + i)) r2) r2 (q (r + r2)) = fst (fun i => q (r + i)) (r2 + 1)) := ⟨ups_fst (fun i => q (r + i)) r2⟩
      clear HX
      go_wp2_with fail
      refine qtail.region_below_tail 13 (by kernel_rfl) (by kernel_rfl) ?_
      quiet_step (skip)
      quiet_step (skip)
      refine wpQuiet_load rfl 38 _ rfl _ rfl 38 _ _ (fun w' hC => heap_regrown T2.out hC) Tryz.underlying38 rfl HTz.out ?_
      quiet_step (skip)
      quiet_step (skip)
      quiet_step (skip)
      quiet_step (skip)
      quiet_step (skip)
      quiet_step (exact Calls.regrown_of (HPr.out _))
      quiet_step (skip)
      quiet_step (skip)
      quiet_step (skip)
      quiet_step (exact Calls.regrown_of (HSr.out _ (BE.out.trans ((below_regrown _ _ _).mono BE.out.size))))
      refine wpQuiet_nil ?_
      intro wn hC
      have hbn : Below wr.heap.size wr wn := by
       obtain ⟨pp, rfl⟩ := hC
       exact below_regrown _ _ _
      have A6 : Away (At gb (RW kn (fst (fun i => q (r + i)) r2)) 25 wo wn) := ⟨A0.out.later hbn⟩
      clear hC hbn A0 hXs hsz HPr HSr cE2 fM cL2 hM
      simp only [List.drop_succ_cons, List.drop_zero]
      go_wp2_with ((with_reducible refine wpList_putp A6 HF.out Hlt.out Ho6.out rfl _ _ rfl rfl ?hx ?hy ?_); (case hx => exact rfl); (case hy => exact rfl); intro w7 A7; rw [Hup.out] at A7)
      go_roundw
      case rel => exact ⟨r2 + 1, by have := Hlt.out; omega, by go_num, A7⟩
      case measure => have := Hlt.out; simp [intOf]; omega
     ·obtain rfl : r2 = kn := by omega
      have H1 : Away (Holds wr w.heap.size (.slice (some ⟨ga, 0, none⟩) r r) r q) := ⟨row_holds (A0.out.other (lt_of_row F1.out) Hg.out.1 F1.out) (Nat.le_trans B1.out.size Hg.out.2.1) (fun i hi => fst_lt q r i hi)⟩
      have H2 : Away (Holds wr w.heap.size (.slice (some ⟨gb, 0, none⟩) r2 r2) r2 (fun i => q (r + i))) := ⟨row_holds A0.out.row (Nat.le_trans B1.out.size Hg.out.2.2) (fun i hi => fst_lt (fun i => q (r + i)) r2 i hi)⟩
      clear A0 F1
      go_wp2_with fail
      go_ret2
      exact ⟨⟨_, _, rfl, H1.out, H2.out⟩, BE.out⟩
end qsec
end Go.Proofs.YtlcafjdehcddcaaGreatDoor
