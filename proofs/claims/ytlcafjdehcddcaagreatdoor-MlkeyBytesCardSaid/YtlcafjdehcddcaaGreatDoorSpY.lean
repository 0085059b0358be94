/-
  What squeeze of the sponge does: bytes of a sponge in memory. Conditions: the state has 25 words of 64 bits, the sponge is valid, the tables have their size, and keccak's variable 'places' holds what the program's text lays there. What squeeze of the sponge does with a sponge that is not yet squeezed: it is padded first. Conditions: the state has 25 words of 64 bits, the sponge is valid, the tables have their size, and keccak's variable 'places' holds what the program's text lays there. What Shake of the sponge returns. Conditions: the tables have their size, and keccak's variable 'places' holds what the program's text lays there.
-/
import Derived.Test.YtlcafjdehcddcaaGreatDoorSpX
import Derived.Test.YtlcafjdehcddcaaGreatDoorKq
namespace Go.Proofs.YtlcafjdehcddcaaGreatDoor
namespace spog
open Go Go.RowKit
open arr mem kecm kecb kstep kturn spgm spmx rspa rspc rspd spoa spob spoc spod spoe spof
theorem conv_own {w : World} {base g cap n : Nat} {l : List UInt8} (hn : l.length = n) (h : w.ownsRow base 5 1 (.slice (some ⟨g, 0, none⟩) n cap) n (Lib.byteCells l)) :
 (convert 78 9 (.slice (some ⟨g, 0, none⟩) n cap)).run Tryz.prog w = .ok (.string ⟨l.toArray⟩) w := by
 subst hn
 refine run_convert_bytes_back (P := Tryz.prog) w 78 9 5 ⟨g, 0, none⟩ cap l Tryz.underlying78 Tryz.underlying5 Tryz.underlying9 (fun j hj => ?_)
 have := h.cellAt j (by omega)
 rw [Addr.add_mid, Nat.zero_add, this]
 simp [Lib.byteCells, hj]
theorem any_tail {P : Program} {md : Region.Mode} {l : List Oper} {Q : Exit → Act → World → Prop} {listed : Array Bool} {a : Act} {w : World} (n g : Nat) (hB : Region.seqB md l.toArray g n listed = true) (hg : (l.drop n).length = g)
 (h : wpList P l.toArray Q (l.drop n) a w) : wpAny P md l.toArray Q g listed a w := by
 subst hg
 exact wpAny_of_seq (l.drop n) n listed a w (fun j => by simp [List.getElem?_drop]) hB h
theorem fin_is (k : Int) (h : 0 < rate k) : fin k = spgm.mark k := by
 unfold fin spgm.mark
 unfold rate at h
 by_cases h1 : k = 1
 ·simp [h1]
 ·by_cases h2 : k = 2
  ·simp [h2]
  ·by_cases h3 : k = 3
   ·simp [h3]
   ·by_cases h4 : k = 4
    ·simp [h4]
    ·simp [h1, h2, h3, h4] at h
set_option maxRecDepth 100000 in
set_option maxHeartbeats 4000000 in
theorem squeeze_out {T : Array Value} {ts rs : List Nat} (gt gs : Nat) (k : Int) (p0 n : Nat) (l : List Nat) (w : World) (h : St l) (hK : KT T ts rs) (hP : Gp w) (hT : w.heap[gt]? = some (.cells T 38 (0, 0))) (hne : gt ≠ gs) (hgp : gs ≠ 0) (hr0 : 0 < rate k) (hp : p0 ≤ rate k) (hn : n ≤ 50000)
 (hrow : w.heap[gs]? = some (.cells (SC k l (p0 : Int) true) 130 (0, 0))) :
 Calls Tryz.prog 126 #[.pointer (some ⟨gt, 0, none⟩), .pointer (some ⟨gs, 0, none⟩), .int .i64 (n : Int)] w fun e w' => e = .returned (.string ⟨(u8s (sq (PP ts rs) (rate k) ⟨l, p0⟩ n)).toArray⟩) ∧ At gs (SC k (sk (PP ts rs) (rate k) ⟨l, p0⟩ n).l ((sk (PP ts rs) (rate k) ⟨l, p0⟩ n).at' : Nat) true) 130 w w' := by
 have hr168 := rate_le k
 obtain ⟨r, hr⟩ : ∃ r, rate k = r := ⟨_, rfl⟩
 obtain ⟨f, z, hTr⟩ := traits_is k r hr
 rw [hr] at hp hr168 hr0 ⊢
 obtain ⟨s0, Hs0⟩ := ex_eq (⟨l, p0⟩ : Sp)
 have Hs0k : Away (St s0.l ∧ s0.at' ≤ r) := ⟨by rw [← Hs0.out]; exact ⟨h, hp⟩⟩
 rw [Hs0.out]
 obtain ⟨E, HE⟩ := ex_eq (sk (PP ts rs) r s0 n)
 rw [HE.out]
 obtain ⟨bs, Hbs⟩ := ex_eq (u8s (sq (PP ts rs) r s0 n))
 have Hbl : Away (bs.length = n) := ⟨by rw [← Hbs.out, u8s_length, sq_length]⟩
 rw [Hbs.out]
 obtain ⟨i0, hi, hz0, hz1, hz2⟩ := parts infoByte
 have HI := Away.mk (And.intro hi (And.intro hz0 (And.intro hz1 hz2)))
 have HTr := Away.mk hTr
 have H := Away.mk h
 have HK := Away.mk hK
 have HP := Away.mk hP
 have HT := Away.mk hT
 have HR := Away.mk hrow
 have hgt := lt_of_row hT
 have hgs := lt_of_row hrow
 have c0 : w.cell? ⟨gs, 0, none⟩ = some (.int .i64 k) := cell_at hrow (sc_kind k l _ _)
 have c3 : w.cell? ⟨gs, 27, none⟩ = some (.bool true) := cell_at hrow (sc_out k _ true h.len)
 clear h hK hP hT hrow hTr hr hi hz0 hz1 hz2
 go_enter Tryz.func126, Tryz.ntmps126
 go_wp2_with fail
 refine (HTr.out _).mono ?_
 rintro e w1 ⟨rfl, hb1⟩
 have A1 : Away (At gs (SC k s0.l (s0.at' : Int) true) 130 w w1) := ⟨by rw [← Hs0.out]; exact (At.refl HR.out).later hb1⟩
 obtain ⟨W, hW⟩ : ∃ x, w1.alloc (.cells #[.int .i64 (r : Int), .int .u8 (f : Int), .int .i64 (z : Int)] 124) = x := ⟨_, rfl⟩
 have HW := Away.mk hW
 obtain ⟨gk, hgk⟩ : ∃ x, w1.heap.size = x := ⟨_, rfl⟩
 have hgk2 : gs < gk := by rw [← hgk]; have := A1.out.size; omega
 have A2 : Away (At gs (SC k s0.l (s0.at' : Int) true) 130 w W) := ⟨by rw [← hW]; exact A1.out.later (below_alloc _ _)⟩
 have K2 : Away (W.heap[gk]? = some (.cells #[.int .i64 (r : Int), .int .u8 (f : Int), .int .i64 (z : Int)] 124 (0, 0))) := ⟨by rw [← hW]; exact heap_at _ _ _ hgk.symm⟩
 have c3 : W.cell? ⟨gs, 27, none⟩ = some (.bool true) := cell_at A2.out.row (sc_out k _ true Hs0k.out.1.len)
 clear hb1 c0 HTr HR H Hs0 hW A1
 go_wp2_with (first
  | (rw [HW.out])
  | (at_make; refine wpList_make_own _ rfl _ _ 78 rfl W.heap.size 5 i0 (.int .u8 0) 1 Tryz.underlying78 HI.out.1 HI.out.2.1 HI.out.2.2.1 .i64 .i64 (n : Int) n rfl rfl rfl (by rw [HI.out.2.2.2]; omega) (by unfold maxLen; omega) (Nat.le_refl _) ?_))
 intro w4 hown hgr
 have hb4 : Below W.heap.size W w4 := (Below.refl _ _).grown hgr (Nat.le_refl _) (fun k hk => by simp at hk)
 have hgkW := lt_of_row K2.out
 have AW : Away (At gs (SC k s0.l (s0.at' : Int) true) 130 W w4) := ⟨(At.refl A2.out.row).later hb4⟩
 have OW0 := Away.mk hown
 have PW : Away (Gp W) := ⟨Gp.at HP.out A2.out hgp⟩
 have TW : Away (W.heap[gt]? = some (.cells T 38 (0, 0))) := ⟨A2.out.other hgt hne HT.out⟩
 have hgtW : gt < W.heap.size := lt_of_row TW.out
 have hgsW : gs < W.heap.size := lt_of_row A2.out.row
 clear hown hgr hb4 c3
 go_wp2_with fail
 go_loopw [8] (fun v wr => ∃ j : Nat, j ≤ n ∧ (∃ g cap, v = .slice (some ⟨g, 0, none⟩) j cap) ∧ Away (wr.ownsRow W.heap.size 5 1 v j (Lib.byteCells (u8s (sq (PP ts rs) r s0 j)))) ∧ Away (At gs (SC k (sk (PP ts rs) r s0 j).l ((sk (PP ts rs) r s0 j).at' : Nat) true) 130 W wr)) (fun v _ => n - (match v with | .slice _ m _ => m | _ => 0))
 case atStart => exact ⟨0, Nat.zero_le _, ⟨_, _, rfl⟩, OW0, AW⟩
 case round =>
  clear OW0 AW
  obtain ⟨j, hj, ⟨gv, cap, rfl⟩, OWN, A0⟩ := hrel
  by_cases hlt : j < n
  ·have hjz : (j : Int) < (n : Int) := by omega
   obtain ⟨st, Hst⟩ := ex_eq (sk (PP ts rs) r s0 j)
   have Hso : Away (St st.l ∧ st.at' ≤ r) := ⟨by rw [← Hst.out]; exact sk_ok (fun _ h => pp_st HK.out.br h) hr0 Hs0k.out.1 Hs0k.out.2 j⟩
   rw [Hst.out] at A0
   have Htl : Away (St (tn (PP ts rs) r st).l ∧ (tn (PP ts rs) r st).at' < r) := ⟨tn_ok (fun _ h => pp_st HK.out.br h) hr0 Hso.out.1 Hso.out.2⟩
   obtain ⟨sl, p⟩ := st
   have hsl := Hso.out.1
   have hp' := Hso.out.2
   simp only at hsl hp' A0
   have hp8 : p ≤ 168 := by omega
   have Hsl := Away.mk hsl
   have Hp := Away.mk hp'
   have cp0 : wr.cell? ⟨gs, 26, none⟩ = some (.int .i64 (p : Int)) := cell_at A0.out.row (sc_at k _ true hsl.len)
   have Krow : Away (wr.heap[gk]? = some (.cells #[.int .i64 (r : Int), .int .u8 (f : Int), .int .i64 (z : Int)] 124 (0, 0))) := ⟨A0.out.other hgkW (by omega) K2.out⟩
   have ck0 : wr.cell? ⟨gk, 0, none⟩ = some (.int .i64 (r : Int)) := cell_at Krow.out rfl
   clear hsl hp'
   by_cases he : p = r
   ·have hz : ((p : Int) == (r : Int)) = true := beq_iff_eq.2 (by omega)
    go_wp2_with fail
    refine still_all (by kernel_rfl) (by kernel_rfl) ?_
    repeat still_step
    refine wpStill_nil ?_
    have Ad : Away (At gs (SC k sl (p : Int) true) 130 W wr.drew) := ⟨at_drew A0.out⟩
    go_wp2_with fail
    refine (next_any gt gs k (p : Int) true sl wr.drew Hsl.out HK.out (Gp.at PW.out Ad.out hgp) (Ad.out.other hgtW hne TW.out) Ad.out.row).mono ?_
    rintro e w6 ⟨rfl, h6⟩
    have A6 : Away (At gs (SC k (PP ts rs sl) ((0 : Nat) : Int) true) 130 W w6) := ⟨Ad.out.trans h6⟩
    have O6 : Away (w6.ownsRow W.heap.size 5 1 (.slice (some ⟨gv, 0, none⟩) j cap) j (Lib.byteCells (u8s (sq (PP ts rs) r s0 j)))) := ⟨owns_at (World.ownsRow.drew OWN.out) h6 hgsW⟩
    have Htn : Away (tn (PP ts rs) r ⟨sl, p⟩ = ⟨PP ts rs sl, 0⟩) := ⟨by rw [tn, if_pos he]⟩
    clear h6 cp0 ck0 Krow OWN Ad A0
    obtain ⟨y, hy⟩ : ∃ y : Nat, 0 = y := ⟨_, rfl⟩
    rw [hy] at A6 Htn
    obtain ⟨xl, Hxl⟩ := ex_eq (PP ts rs sl)
    rw [Hxl.out] at A6 Htn
    rw [Htn.out] at Htl
    clear hy Hxl he hz
    go_wp2_with fail
    have HXl : Away (St xl) := ⟨Htl.out.1⟩
    have hyr : y < r := Htl.out.2
    obtain ⟨d, hd⟩ : ∃ d, y + n - j = d := ⟨_, rfl⟩
    obtain ⟨d1, hd1⟩ : ∃ d1, y + n = d1 := ⟨_, rfl⟩
    have fd1 : IntKind.i64.wrap ((y : Int) + (n : Int)) = (d1 : Int) := by rw [IntKind.wrap_i64]; omega
    have fd : IntKind.i64.wrap ((d1 : Int) - (j : Int)) = (d : Int) := by rw [IntKind.wrap_i64]; omega
    have cp1 : w6.cell? ⟨gs, 26, none⟩ = some (.int .i64 (y : Int)) := cell_at A6.out.row (sc_at k _ true HXl.out.len)
    have K6 : Away (w6.heap[gk]? = some (.cells #[.int .i64 (r : Int), .int .u8 (f : Int), .int .i64 (z : Int)] 124 (0, 0))) := ⟨A6.out.other hgkW (by omega) K2.out⟩
    have ck1 : w6.cell? ⟨gk, 0, none⟩ = some (.int .i64 (r : Int)) := cell_at K6.out rfl
    clear Htl
    refine still_all (by kernel_rfl) (by kernel_rfl) ?_
    repeat still_step
    refine wpStill_nil ?_
    obtain ⟨zz, hzz⟩ : ∃ zz, (if r < d then r else d) = zz := ⟨_, rfl⟩
    have hmin : (if r < d then (r : Int) else (d : Int)) = (zz : Int) := by rw [← hzz]; split <;> rfl
    have hz1 : y < zz := by rw [← hzz]; split <;> omega
    have hz2 : zz ≤ r := by rw [← hzz]; split <;> omega
    have hz3 : j + (zz - y) ≤ n := by rw [← hzz]; split <;> omega
    rw [hmin]
    obtain ⟨m, hm⟩ : ∃ m, zz - y = m := ⟨_, rfl⟩
    have HNX : Away (sk (PP ts rs) r s0 (j + m) = ⟨xl, zz⟩ ∧ sq (PP ts rs) r s0 (j + m) = sq (PP ts rs) r s0 j ++ gbs xl y m) := ⟨by
     obtain ⟨k1, k2⟩ := round_is (PP ts rs) r ⟨sl, p⟩ xl y m hr0 Htn.out (by omega) (by omega)
     rw [sk_add, sq_add, Hst.out, k1, k2, show y + m = zz by omega]
     exact ⟨rfl, rfl⟩⟩
    have HC := Away.mk (read_any W.heap.size gs k (y : Int) true xl 130 (sq (PP ts rs) r s0 j) j gv cap y zz w6.drew.drew HXl.out (by omega) (by omega) (by omega) hgsW A6.out.size A6.out.row (World.ownsRow.drew (World.ownsRow.drew O6.out)))
    rw [hm] at HC hz3
    have hA6 := A6.out.size
    clear hzz hmin fd fd1 hd hd1 O6 Htn ck1
    have cp1 : w6.drew.cell? ⟨gs, 26, none⟩ = some (.int .i64 (y : Int)) := cp1
    go_wp2_with fail
    refine still_tail 9 (by kernel_rfl) (by kernel_rfl) ?_
    simp only [List.take_succ_cons, List.take_zero, List.drop_succ_cons, List.drop_zero]
    repeat still_step
    refine wpStill_nil ?_
    clear cp1
    go_wp2_with fail
    refine HC.out.mono ?_
    rintro e w7 ⟨gv', cap', rfl, OY, hb7⟩
    have OY := Away.mk OY
    have A7 : Away (At gs (SC k xl (y : Int) true) 130 W w7) := ⟨at_below (at_drew (at_drew A6.out)) hb7 (Nat.le_refl _) hgsW⟩
    have AR : Away (At gs (SC k xl (y : Int) true) 130 w7 w7) := ⟨At.refl A7.out.row⟩
    clear hb7 HC A6 K6
    go_wp2_with ((with_reducible refine wpList_put2 AR rfl _ _ _ rfl rfl ?_); refine ⟨_, _, _, rfl, rfl, rfl, (by rw [sc_size k _ true HXl.out.len]; decide), ?_⟩; intro w9 HR9; rw [sc_seta k _ _ true HXl.out.len] at HR9)
    have AN : Away (At gs (SC k (sk (PP ts rs) r s0 (j + m)).l ((sk (PP ts rs) r s0 (j + m)).at' : Nat) true) 130 W w9) := ⟨by rw [HNX.out.1]; exact A7.out.trans HR9.out⟩
    have ON : Away (w9.ownsRow W.heap.size 5 1 (.slice (some ⟨gv', 0, none⟩) (j + m) cap') (j + m) (Lib.byteCells (u8s (sq (PP ts rs) r s0 (j + m))))) := ⟨by rw [HNX.out.2]; exact owns_at OY.out HR9.out hgsW⟩
    clear HR9 AR A7 OY
    go_roundw
    case rel => exact ⟨j + m, hz3, ⟨_, _, rfl⟩, ON, AN⟩
    case measure => simp; omega
   ·have hz : ((p : Int) == (r : Int)) = false := beq_eq_false_iff_ne.2 (by omega)
    go_wp2_with fail
    refine still_all (by kernel_rfl) (by kernel_rfl) ?_
    repeat still_step
    refine wpStill_nil ?_
    have A6 : Away (At gs (SC k sl (p : Int) true) 130 W wr.drew) := ⟨at_drew A0.out⟩
    have O6 : Away (wr.drew.ownsRow W.heap.size 5 1 (.slice (some ⟨gv, 0, none⟩) j cap) j (Lib.byteCells (u8s (sq (PP ts rs) r s0 j)))) := ⟨World.ownsRow.drew OWN.out⟩
    have Htn : Away (tn (PP ts rs) r ⟨sl, p⟩ = ⟨sl, p⟩) := ⟨by rw [tn, if_neg he]⟩
    rw [Htn.out] at Htl
    clear cp0 ck0 Krow OWN A0 he
    obtain ⟨w6, hw6⟩ : ∃ x, wr.drew = x := ⟨_, rfl⟩
    rw [hw6] at A6 O6 ⊢
    obtain ⟨xl, Hxl⟩ : ∃ x, sl = x := ⟨_, rfl⟩
    obtain ⟨y, hy⟩ : ∃ x, p = x := ⟨_, rfl⟩
    have Htn : Away (tn (PP ts rs) r ⟨sl, p⟩ = ⟨xl, y⟩) := ⟨by rw [← Hxl, ← hy]; exact Htn.out⟩
    rw [Hxl] at A6 Htl
    rw [hy] at A6 Htl
    clear hw6 Hxl hy
    go_wp2_with fail
    clear hz
    have HXl : Away (St xl) := ⟨Htl.out.1⟩
    have hyr : y < r := Htl.out.2
    obtain ⟨d, hd⟩ : ∃ d, y + n - j = d := ⟨_, rfl⟩
    obtain ⟨d1, hd1⟩ : ∃ d1, y + n = d1 := ⟨_, rfl⟩
    have fd1 : IntKind.i64.wrap ((y : Int) + (n : Int)) = (d1 : Int) := by rw [IntKind.wrap_i64]; omega
    have fd : IntKind.i64.wrap ((d1 : Int) - (j : Int)) = (d : Int) := by rw [IntKind.wrap_i64]; omega
    have cp1 : w6.cell? ⟨gs, 26, none⟩ = some (.int .i64 (y : Int)) := cell_at A6.out.row (sc_at k _ true HXl.out.len)
    have K6 : Away (w6.heap[gk]? = some (.cells #[.int .i64 (r : Int), .int .u8 (f : Int), .int .i64 (z : Int)] 124 (0, 0))) := ⟨A6.out.other hgkW (by omega) K2.out⟩
    have ck1 : w6.cell? ⟨gk, 0, none⟩ = some (.int .i64 (r : Int)) := cell_at K6.out rfl
    clear Htl
    refine still_all (by kernel_rfl) (by kernel_rfl) ?_
    repeat still_step
    refine wpStill_nil ?_
    obtain ⟨zz, hzz⟩ : ∃ zz, (if r < d then r else d) = zz := ⟨_, rfl⟩
    have hmin : (if r < d then (r : Int) else (d : Int)) = (zz : Int) := by rw [← hzz]; split <;> rfl
    have hz1 : y < zz := by rw [← hzz]; split <;> omega
    have hz2 : zz ≤ r := by rw [← hzz]; split <;> omega
    have hz3 : j + (zz - y) ≤ n := by rw [← hzz]; split <;> omega
    rw [hmin]
    obtain ⟨m, hm⟩ : ∃ m, zz - y = m := ⟨_, rfl⟩
    have HNX : Away (sk (PP ts rs) r s0 (j + m) = ⟨xl, zz⟩ ∧ sq (PP ts rs) r s0 (j + m) = sq (PP ts rs) r s0 j ++ gbs xl y m) := ⟨by
     obtain ⟨k1, k2⟩ := round_is (PP ts rs) r ⟨sl, p⟩ xl y m hr0 Htn.out (by omega) (by omega)
     rw [sk_add, sq_add, Hst.out, k1, k2, show y + m = zz by omega]
     exact ⟨rfl, rfl⟩⟩
    have HC := Away.mk (read_any W.heap.size gs k (y : Int) true xl 130 (sq (PP ts rs) r s0 j) j gv cap y zz w6.drew.drew HXl.out (by omega) (by omega) (by omega) hgsW A6.out.size A6.out.row (World.ownsRow.drew (World.ownsRow.drew O6.out)))
    rw [hm] at HC hz3
    have hA6 := A6.out.size
    clear hzz hmin fd fd1 hd hd1 O6 Htn ck1
    have cp1 : w6.drew.cell? ⟨gs, 26, none⟩ = some (.int .i64 (y : Int)) := cp1
    go_wp2_with fail
    refine still_tail 9 (by kernel_rfl) (by kernel_rfl) ?_
    simp only [List.take_succ_cons, List.take_zero, List.drop_succ_cons, List.drop_zero]
    repeat still_step
    refine wpStill_nil ?_
    clear cp1
    go_wp2_with fail
    refine HC.out.mono ?_
    rintro e w7 ⟨gv', cap', rfl, OY, hb7⟩
    have OY := Away.mk OY
    have A7 : Away (At gs (SC k xl (y : Int) true) 130 W w7) := ⟨at_below (at_drew (at_drew A6.out)) hb7 (Nat.le_refl _) hgsW⟩
    have AR : Away (At gs (SC k xl (y : Int) true) 130 w7 w7) := ⟨At.refl A7.out.row⟩
    clear hb7 HC A6 K6
    go_wp2_with ((with_reducible refine wpList_put2 AR rfl _ _ _ rfl rfl ?_); refine ⟨_, _, _, rfl, rfl, rfl, (by rw [sc_size k _ true HXl.out.len]; decide), ?_⟩; intro w9 HR9; rw [sc_seta k _ _ true HXl.out.len] at HR9)
    have AN : Away (At gs (SC k (sk (PP ts rs) r s0 (j + m)).l ((sk (PP ts rs) r s0 (j + m)).at' : Nat) true) 130 W w9) := ⟨by rw [HNX.out.1]; exact A7.out.trans HR9.out⟩
    have ON : Away (w9.ownsRow W.heap.size 5 1 (.slice (some ⟨gv', 0, none⟩) (j + m) cap') (j + m) (Lib.byteCells (u8s (sq (PP ts rs) r s0 (j + m))))) := ⟨by rw [HNX.out.2]; exact owns_at OY.out HR9.out hgsW⟩
    clear HR9 AR A7 OY
    go_roundw
    case rel => exact ⟨j + m, hz3, ⟨_, _, rfl⟩, ON, AN⟩
    case measure => simp; omega
  ·obtain rfl : j = n := by omega
   rw [HE.out] at A0
   rw [Hbs.out] at OWN
   have hcv := conv_own Hbl.out OWN.out
   have AF : Away (At gs (SC k E.l (E.at' : Int) true) 130 w wr) := ⟨A2.out.trans A0.out⟩
   clear A0 OWN
   go_wp2_with fail
   go_ret
   exact ⟨rfl, AF.out⟩
end spog
namespace spoh
open Go Go.RowKit
open arr mem kecm kecb kstep kturn spgm spmx rspa rspc rspd spoa spob spoc spod spoe spof spog
theorem traits_is2 (k : Int) (r : Nat) (hr : rate k = r) (h0 : 0 < r) : ∃ z : Nat, ∀ w1 : World, Calls Tryz.prog 113 #[.int .i64 k] w1 fun e w' => e = .returned (.agg #[.int .i64 (r : Int), .int .u8 ((spgm.mark k : Nat) : Int), .int .i64 (z : Int)]) ∧ Below w1.heap.size w1 w' :=
 ⟨spoa.size k, fun w1 => by have h := traits_any k w1; unfold tr at h; rw [hr, fin_is k (by rw [hr]; exact h0)] at h; exact h⟩
set_option maxRecDepth 100000 in
set_option maxHeartbeats 4000000 in
theorem squeeze_pad {T : Array Value} {ts rs : List Nat} (gt gs : Nat) (k : Int) (p0 n : Nat) (l : List Nat) (w : World) (h : St l) (hK : KT T ts rs) (hP : Gp w) (hT : w.heap[gt]? = some (.cells T 38 (0, 0))) (hne : gt ≠ gs) (hgp : gs ≠ 0) (hr0 : 0 < rate k) (hp : p0 < rate k) (hn : n ≤ 50000)
 (hrow : w.heap[gs]? = some (.cells (SC k l (p0 : Int) false) 130 (0, 0))) :
 Calls Tryz.prog 126 #[.pointer (some ⟨gt, 0, none⟩), .pointer (some ⟨gs, 0, none⟩), .int .i64 (n : Int)] w fun e w' => e = .returned (.string ⟨(u8s (sq (PP ts rs) (rate k) (pad (rate k) (spgm.mark k) ⟨l, p0⟩) n)).toArray⟩) ∧ At gs (SC k (sk (PP ts rs) (rate k) (pad (rate k) (spgm.mark k) ⟨l, p0⟩) n).l ((sk (PP ts rs) (rate k) (pad (rate k) (spgm.mark k) ⟨l, p0⟩) n).at' : Nat) true) 130 w w' := by
 have hr168 := rate_le k
 obtain ⟨r, hr⟩ : ∃ r, rate k = r := ⟨_, rfl⟩
 rw [hr] at hp hr168 hr0 ⊢
 obtain ⟨z, hTr⟩ := traits_is2 k r hr hr0
 have hf := mark_lt k
 obtain ⟨f, hf2⟩ : ∃ f, spgm.mark k = f := ⟨_, rfl⟩
 rw [hf2] at hTr hf ⊢
 obtain ⟨s0, Hs0⟩ := ex_eq (pad r f ⟨l, p0⟩)
 have Hs0k : Away (St s0.l ∧ s0.at' ≤ r) := ⟨by rw [← Hs0.out]; exact pad_ok h⟩
 rw [Hs0.out]
 obtain ⟨E, HE⟩ := ex_eq (sk (PP ts rs) r s0 n)
 rw [HE.out]
 obtain ⟨bs, Hbs⟩ := ex_eq (u8s (sq (PP ts rs) r s0 n))
 have Hbl : Away (bs.length = n) := ⟨by rw [← Hbs.out, u8s_length, sq_length]⟩
 rw [Hbs.out]
 obtain ⟨i0, hi, hz0, hz1, hz2⟩ := parts infoByte
 have HI := Away.mk (And.intro hi (And.intro hz0 (And.intro hz1 hz2)))
 have HTr := Away.mk hTr
 have H := Away.mk h
 have HK := Away.mk hK
 have HP := Away.mk hP
 have HT := Away.mk hT
 have HR := Away.mk hrow
 have hgt := lt_of_row hT
 have hgs := lt_of_row hrow
 have c0 : w.cell? ⟨gs, 0, none⟩ = some (.int .i64 k) := cell_at hrow (sc_kind k l _ _)
 have c3 : w.cell? ⟨gs, 27, none⟩ = some (.bool false) := cell_at hrow (sc_out k _ false h.len)
 clear h hK hP hT hrow hTr hr hi hz0 hz1 hz2
 go_enter Tryz.func126, Tryz.ntmps126
 go_wp2_with fail
 refine (HTr.out _).mono ?_
 rintro e w1 ⟨rfl, hb1⟩
 have A1 : Away (At gs (SC k l (p0 : Int) false) 130 w w1) := ⟨(At.refl HR.out).later hb1⟩
 obtain ⟨W, hW⟩ : ∃ x, w1.alloc (.cells #[.int .i64 (r : Int), .int .u8 (f : Int), .int .i64 (z : Int)] 124) = x := ⟨_, rfl⟩
 have HW := Away.mk hW
 obtain ⟨gk, hgk⟩ : ∃ x, w1.heap.size = x := ⟨_, rfl⟩
 have hgk2 : gs < gk := by rw [← hgk]; have := A1.out.size; omega
 have A2 : Away (At gs (SC k l (p0 : Int) false) 130 w W) := ⟨by rw [← hW]; exact A1.out.later (below_alloc _ _)⟩
 have K2 : Away (W.heap[gk]? = some (.cells #[.int .i64 (r : Int), .int .u8 (f : Int), .int .i64 (z : Int)] 124 (0, 0))) := ⟨by rw [← hW]; exact heap_at _ _ _ hgk.symm⟩
 have hgkW := lt_of_row K2.out
 have c3 : W.cell? ⟨gs, 27, none⟩ = some (.bool false) := cell_at A2.out.row (sc_out k _ false H.out.len)
 have cp : W.cell? ⟨gs, 26, none⟩ = some (.int .i64 (p0 : Int)) := cell_at A2.out.row (sc_at k _ false H.out.len)
 have ck1 : W.cell? ⟨gk, 1, none⟩ = some (.int .u8 (f : Int)) := cell_at K2.out rfl
 clear hb1 c0 HTr HR hW A1
 go_wp2_with (rw [HW.out])
 refine still_tail 9 (by kernel_rfl) (by kernel_rfl) ?_
 simp only [List.take_succ_cons, List.take_zero, List.drop_succ_cons, List.drop_zero]
 repeat still_step
 refine wpStill_nil ?_
 clear c3 cp ck1
 go_wp2_with fail
 refine (mixByte_any gs k (p0 : Int) false l 130 p0 f W.drew H.out (by omega) hf A2.out.row).mono ?_
 rintro e w3 ⟨rfl, h3⟩
 have A3 : Away (At gs (SC k (xb l p0 f) (p0 : Int) false) 130 W w3) := ⟨⟨h3.os, h3.tape, h3.output, h3.size, h3.row, h3.block⟩⟩
 have H3 : Away (St (xb l p0 f)) := ⟨xb_st H.out p0 f⟩
 obtain ⟨l3, Hl3⟩ := ex_eq (xb l p0 f)
 rw [Hl3.out] at A3 H3
 obtain ⟨r1, hr1⟩ : ∃ r1, r - 1 = r1 := ⟨_, rfl⟩
 have fr1 : IntKind.i64.wrap ((r : Int) - 1) = (r1 : Int) := by rw [IntKind.wrap_i64]; omega
 have ck0 : w3.cell? ⟨gk, 0, none⟩ = some (.int .i64 (r : Int)) := cell_at (A3.out.other hgkW (by omega) K2.out) rfl
 clear h3
 go_wp2_with fail
 refine still_tail 6 (by kernel_rfl) (by kernel_rfl) ?_
 simp only [List.take_succ_cons, List.take_zero, List.drop_succ_cons, List.drop_zero]
 repeat still_step
 refine wpStill_nil ?_
 clear fr1 ck0
 go_wp2_with fail
 refine (mixByte_any gs k (p0 : Int) false l3 130 r1 128 w3.drew H3.out (by omega) (by decide) A3.out.row).mono ?_
 rintro e w5 ⟨rfl, h5⟩
 have A5 : Away (At gs (SC k (xb l3 r1 128) (p0 : Int) false) 130 W w5) := ⟨A3.out.trans (b := w3) ⟨h5.os, h5.tape, h5.output, h5.size, h5.row, h5.block⟩⟩
 have H5 : Away (St (xb l3 r1 128)) := ⟨xb_st H3.out r1 128⟩
 have Hpad : Away (s0 = ⟨xb l3 r1 128, r⟩) := ⟨by rw [← Hs0.out, pad, Hl3.out, hr1]⟩
 obtain ⟨l5, Hl5⟩ := ex_eq (xb l3 r1 128)
 rw [Hl5.out] at A5 H5 Hpad
 have ck0 : w5.cell? ⟨gk, 0, none⟩ = some (.int .i64 (r : Int)) := cell_at (A5.out.other hgkW (by omega) K2.out) rfl
 have co : w5.cell? ⟨gs, 27, none⟩ = some (.bool false) := cell_at A5.out.row (sc_out k _ false H5.out.len)
 have fo : w5.frozen? ⟨gs, 27, none⟩ = false := frozen_of_row w5 gs 27 _ _ A5.out.row
 clear h5 Hl3 Hl5 Hs0 hr1 A3 H3
 go_wp2_with fail
 refine wp_region_any (by kernel_rfl) ?_
 change wpAny _ _ _ _ _ _ _ (World.drew _)
 (focus (refine wpAny_take (i := 0) (v := ?_) rfl (by kernel_rfl) (by kernel_rfl) (by kernel_rfl) (fun _ _ _ h => h) (Or.inl ⟨by rfl, ?_⟩) ?_; rotate_left; focus (intro w; go_simp; first | done | with_reducible rfl); all_goals skip))
 (focus (refine wpAny_take (i := 1) (v := ?_) rfl (by kernel_rfl) (by kernel_rfl) (by kernel_rfl) (fun _ _ _ h => h) (Or.inl ⟨by rfl, ?_⟩) ?_; rotate_left; focus (intro w; go_simp; first | done | with_reducible rfl); all_goals skip))
 (focus (refine wpAny_take (i := 2) (v := ?_) rfl (by kernel_rfl) (by kernel_rfl) (by kernel_rfl) (fun _ _ _ h => h) (Or.inl ⟨by rfl, ?_⟩) ?_; rotate_left; focus (intro w; go_simp; first | done | with_reducible rfl); all_goals skip))
 (focus (refine wpAny_take (i := 4) (v := ?_) rfl (by kernel_rfl) (by kernel_rfl) (by kernel_rfl) (fun _ _ _ h => h) (Or.inl ⟨by rfl, ?_⟩) ?_; rotate_left; focus (intro w; go_simp; first | done | with_reducible rfl); all_goals skip))
 (focus (refine wpAny_take (i := 5) (v := ?_) rfl (by kernel_rfl) (by kernel_rfl) (by kernel_rfl) (fun _ _ _ h => h) (Or.inl ⟨by rfl, ?_⟩) ?_; rotate_left; focus (intro w; go_simp; first | done | with_reducible rfl); all_goals skip))
 refine wpAny_ready (rs := [3, 6]) (by kernel_rfl) (by simp) ?_
 refine AllReady.cons rfl (fun K hK => ?_) (AllReady.cons rfl (fun K hK => ?_) AllReady.nil)
 ·(go_simp; refine hK _ _ ?_; clear hK K)
  (refine wpAny_ready (rs := [6]) (by kernel_rfl) (by simp) ?_; refine AllReady.cons rfl (fun K hK => ?_) AllReady.nil; go_simp; refine hK _ _ ?_; clear hK K)
  refine any_tail 7 3 (by kernel_rfl) (by kernel_rfl) ?_
  simp only [List.drop_succ_cons, List.drop_zero]
  have A6 : Away (At gs (SC k l5 (p0 : Int) true) 130 W (w5.setCell ⟨gs, 27, none⟩ (.bool true)).drew) := ⟨by
   have h9 := at_put A5.out 27 (.bool true)
   rw [sc_seto k _ false true H5.out.len] at h9
   exact at_drew h9⟩
  obtain ⟨w7, hw7⟩ : ∃ x, (w5.setCell ⟨gs, 27, none⟩ (.bool true)).drew = x := ⟨_, rfl⟩
  rw [hw7] at A6 ⊢
  clear hw7 ck0 co fo A5
  have c3 : True := trivial
  go_wp2_with (first
   | ((with_reducible refine wpList_put2 A6 rfl _ _ _ rfl rfl ?_); refine ⟨_, _, _, rfl, rfl, rfl, (by rw [sc_size k _ true H5.out.len]; decide), ?_⟩; intro w8 A8; rw [sc_seta k _ _ true H5.out.len] at A8; have A8 : Away (At gs (SC k s0.l (s0.at' : Int) true) 130 W w8) := ⟨by rw [Hpad.out]; exact A8.out⟩; have K2 : Away (w8.heap[gk]? = some (.cells #[.int .i64 (r : Int), .int .u8 (f : Int), .int .i64 (z : Int)] 124 (0, 0))) := ⟨A8.out.other hgkW (by omega) K2.out⟩; have A2 : Away (At gs (SC k s0.l (s0.at' : Int) true) 130 w w8) := ⟨A2.out.trans A8.out⟩; clear A8 A6 Hpad)
   | (at_make; refine wpList_make_own _ rfl _ _ 78 rfl w8.heap.size 5 i0 (.int .u8 0) 1 Tryz.underlying78 HI.out.1 HI.out.2.1 HI.out.2.2.1 .i64 .i64 (n : Int) n rfl rfl rfl (by rw [HI.out.2.2.2]; omega) (by unfold maxLen; omega) (Nat.le_refl _) ?_))
  intro w4 hown hgr
  have hb4 : Below w8.heap.size w8 w4 := (Below.refl _ _).grown hgr (Nat.le_refl _) (fun k hk => by simp at hk)
  have hgkW := lt_of_row K2.out
  have AW : Away (At gs (SC k s0.l (s0.at' : Int) true) 130 w8 w4) := ⟨(At.refl A2.out.row).later hb4⟩
  have OW0 := Away.mk hown
  have PW : Away (Gp w8) := ⟨Gp.at HP.out A2.out hgp⟩
  have TW : Away (w8.heap[gt]? = some (.cells T 38 (0, 0))) := ⟨A2.out.other hgt hne HT.out⟩
  have hgtW : gt < w8.heap.size := lt_of_row TW.out
  have hgsW : gs < w8.heap.size := lt_of_row A2.out.row
  clear hown hgr hb4 c3
  go_wp2_with fail
  go_loopw [8] (fun v wr => ∃ j : Nat, j ≤ n ∧ (∃ g cap, v = .slice (some ⟨g, 0, none⟩) j cap) ∧ Away (wr.ownsRow w8.heap.size 5 1 v j (Lib.byteCells (u8s (sq (PP ts rs) r s0 j)))) ∧ Away (At gs (SC k (sk (PP ts rs) r s0 j).l ((sk (PP ts rs) r s0 j).at' : Nat) true) 130 w8 wr)) (fun v _ => n - (match v with | .slice _ m _ => m | _ => 0))
  case atStart => exact ⟨0, Nat.zero_le _, ⟨_, _, rfl⟩, OW0, AW⟩
  case round =>
   clear OW0 AW
   obtain ⟨j, hj, ⟨gv, cap, rfl⟩, OWN, A0⟩ := hrel
   by_cases hlt : j < n
   ·have hjz : (j : Int) < (n : Int) := by omega
    obtain ⟨st, Hst⟩ := ex_eq (sk (PP ts rs) r s0 j)
    have Hso : Away (St st.l ∧ st.at' ≤ r) := ⟨by rw [← Hst.out]; exact sk_ok (fun _ h => pp_st HK.out.br h) hr0 Hs0k.out.1 Hs0k.out.2 j⟩
    rw [Hst.out] at A0
    have Htl : Away (St (tn (PP ts rs) r st).l ∧ (tn (PP ts rs) r st).at' < r) := ⟨tn_ok (fun _ h => pp_st HK.out.br h) hr0 Hso.out.1 Hso.out.2⟩
    obtain ⟨sl, p⟩ := st
    have hsl := Hso.out.1
    have hp' := Hso.out.2
    simp only at hsl hp' A0
    have hp8 : p ≤ 168 := by omega
    have Hsl := Away.mk hsl
    have Hp := Away.mk hp'
    have cp0 : wr.cell? ⟨gs, 26, none⟩ = some (.int .i64 (p : Int)) := cell_at A0.out.row (sc_at k _ true hsl.len)
    have Krow : Away (wr.heap[gk]? = some (.cells #[.int .i64 (r : Int), .int .u8 (f : Int), .int .i64 (z : Int)] 124 (0, 0))) := ⟨A0.out.other hgkW (by omega) K2.out⟩
    have ck0 : wr.cell? ⟨gk, 0, none⟩ = some (.int .i64 (r : Int)) := cell_at Krow.out rfl
    clear hsl hp'
    by_cases he : p = r
    ·have hz : ((p : Int) == (r : Int)) = true := beq_iff_eq.2 (by omega)
     go_wp2_with fail
     refine still_all (by kernel_rfl) (by kernel_rfl) ?_
     repeat still_step
     refine wpStill_nil ?_
     have Ad : Away (At gs (SC k sl (p : Int) true) 130 w8 wr.drew) := ⟨at_drew A0.out⟩
     go_wp2_with fail
     refine (next_any gt gs k (p : Int) true sl wr.drew Hsl.out HK.out (Gp.at PW.out Ad.out hgp) (Ad.out.other hgtW hne TW.out) Ad.out.row).mono ?_
     rintro e w6 ⟨rfl, h6⟩
     have A6 : Away (At gs (SC k (PP ts rs sl) ((0 : Nat) : Int) true) 130 w8 w6) := ⟨Ad.out.trans h6⟩
     have O6 : Away (w6.ownsRow w8.heap.size 5 1 (.slice (some ⟨gv, 0, none⟩) j cap) j (Lib.byteCells (u8s (sq (PP ts rs) r s0 j)))) := ⟨owns_at (World.ownsRow.drew OWN.out) h6 hgsW⟩
     have Htn : Away (tn (PP ts rs) r ⟨sl, p⟩ = ⟨PP ts rs sl, 0⟩) := ⟨by rw [tn, if_pos he]⟩
     clear h6 cp0 ck0 Krow OWN Ad A0
     obtain ⟨y, hy⟩ : ∃ y : Nat, 0 = y := ⟨_, rfl⟩
     rw [hy] at A6 Htn
     obtain ⟨xl, Hxl⟩ := ex_eq (PP ts rs sl)
     rw [Hxl.out] at A6 Htn
     rw [Htn.out] at Htl
     clear hy Hxl he hz
     go_wp2_with fail
     have HXl : Away (St xl) := ⟨Htl.out.1⟩
     have hyr : y < r := Htl.out.2
     obtain ⟨d, hd⟩ : ∃ d, y + n - j = d := ⟨_, rfl⟩
     obtain ⟨d1, hd1⟩ : ∃ d1, y + n = d1 := ⟨_, rfl⟩
     have fd1 : IntKind.i64.wrap ((y : Int) + (n : Int)) = (d1 : Int) := by rw [IntKind.wrap_i64]; omega
     have fd : IntKind.i64.wrap ((d1 : Int) - (j : Int)) = (d : Int) := by rw [IntKind.wrap_i64]; omega
     have cp1 : w6.cell? ⟨gs, 26, none⟩ = some (.int .i64 (y : Int)) := cell_at A6.out.row (sc_at k _ true HXl.out.len)
     have K6 : Away (w6.heap[gk]? = some (.cells #[.int .i64 (r : Int), .int .u8 (f : Int), .int .i64 (z : Int)] 124 (0, 0))) := ⟨A6.out.other hgkW (by omega) K2.out⟩
     have ck1 : w6.cell? ⟨gk, 0, none⟩ = some (.int .i64 (r : Int)) := cell_at K6.out rfl
     clear Htl
     refine still_all (by kernel_rfl) (by kernel_rfl) ?_
     repeat still_step
     refine wpStill_nil ?_
     obtain ⟨zz, hzz⟩ : ∃ zz, (if r < d then r else d) = zz := ⟨_, rfl⟩
     have hmin : (if r < d then (r : Int) else (d : Int)) = (zz : Int) := by rw [← hzz]; split <;> rfl
     have hz1 : y < zz := by rw [← hzz]; split <;> omega
     have hz2 : zz ≤ r := by rw [← hzz]; split <;> omega
     have hz3 : j + (zz - y) ≤ n := by rw [← hzz]; split <;> omega
     rw [hmin]
     obtain ⟨m, hm⟩ : ∃ m, zz - y = m := ⟨_, rfl⟩
     have HNX : Away (sk (PP ts rs) r s0 (j + m) = ⟨xl, zz⟩ ∧ sq (PP ts rs) r s0 (j + m) = sq (PP ts rs) r s0 j ++ gbs xl y m) := ⟨by
      obtain ⟨k1, k2⟩ := round_is (PP ts rs) r ⟨sl, p⟩ xl y m hr0 Htn.out (by omega) (by omega)
      rw [sk_add, sq_add, Hst.out, k1, k2, show y + m = zz by omega]
      exact ⟨rfl, rfl⟩⟩
     have HC := Away.mk (read_any w8.heap.size gs k (y : Int) true xl 130 (sq (PP ts rs) r s0 j) j gv cap y zz w6.drew.drew HXl.out (by omega) (by omega) (by omega) hgsW A6.out.size A6.out.row (World.ownsRow.drew (World.ownsRow.drew O6.out)))
     rw [hm] at HC hz3
     have hA6 := A6.out.size
     clear hzz hmin fd fd1 hd hd1 O6 Htn ck1
     have cp1 : w6.drew.cell? ⟨gs, 26, none⟩ = some (.int .i64 (y : Int)) := cp1
     go_wp2_with fail
     refine still_tail 9 (by kernel_rfl) (by kernel_rfl) ?_
     simp only [List.take_succ_cons, List.take_zero, List.drop_succ_cons, List.drop_zero]
     repeat still_step
     refine wpStill_nil ?_
     clear cp1
     go_wp2_with fail
     refine HC.out.mono ?_
     rintro e w7 ⟨gv', cap', rfl, OY, hb7⟩
     have OY := Away.mk OY
     have A7 : Away (At gs (SC k xl (y : Int) true) 130 w8 w7) := ⟨at_below (at_drew (at_drew A6.out)) hb7 (Nat.le_refl _) hgsW⟩
     have AR : Away (At gs (SC k xl (y : Int) true) 130 w7 w7) := ⟨At.refl A7.out.row⟩
     clear hb7 HC A6 K6
     go_wp2_with ((with_reducible refine wpList_put2 AR rfl _ _ _ rfl rfl ?_); refine ⟨_, _, _, rfl, rfl, rfl, (by rw [sc_size k _ true HXl.out.len]; decide), ?_⟩; intro w9 HR9; rw [sc_seta k _ _ true HXl.out.len] at HR9)
     have AN : Away (At gs (SC k (sk (PP ts rs) r s0 (j + m)).l ((sk (PP ts rs) r s0 (j + m)).at' : Nat) true) 130 w8 w9) := ⟨by rw [HNX.out.1]; exact A7.out.trans HR9.out⟩
     have ON : Away (w9.ownsRow w8.heap.size 5 1 (.slice (some ⟨gv', 0, none⟩) (j + m) cap') (j + m) (Lib.byteCells (u8s (sq (PP ts rs) r s0 (j + m))))) := ⟨by rw [HNX.out.2]; exact owns_at OY.out HR9.out hgsW⟩
     clear HR9 AR A7 OY
     go_roundw
     case rel => exact ⟨j + m, hz3, ⟨_, _, rfl⟩, ON, AN⟩
     case measure => simp; omega
    ·have hz : ((p : Int) == (r : Int)) = false := beq_eq_false_iff_ne.2 (by omega)
     go_wp2_with fail
     refine still_all (by kernel_rfl) (by kernel_rfl) ?_
     repeat still_step
     refine wpStill_nil ?_
     have A6 : Away (At gs (SC k sl (p : Int) true) 130 w8 wr.drew) := ⟨at_drew A0.out⟩
     have O6 : Away (wr.drew.ownsRow w8.heap.size 5 1 (.slice (some ⟨gv, 0, none⟩) j cap) j (Lib.byteCells (u8s (sq (PP ts rs) r s0 j)))) := ⟨World.ownsRow.drew OWN.out⟩
     have Htn : Away (tn (PP ts rs) r ⟨sl, p⟩ = ⟨sl, p⟩) := ⟨by rw [tn, if_neg he]⟩
     rw [Htn.out] at Htl
     clear cp0 ck0 Krow OWN A0 he
     obtain ⟨w6, hw6⟩ : ∃ x, wr.drew = x := ⟨_, rfl⟩
     rw [hw6] at A6 O6 ⊢
     obtain ⟨xl, Hxl⟩ : ∃ x, sl = x := ⟨_, rfl⟩
     obtain ⟨y, hy⟩ : ∃ x, p = x := ⟨_, rfl⟩
     have Htn : Away (tn (PP ts rs) r ⟨sl, p⟩ = ⟨xl, y⟩) := ⟨by rw [← Hxl, ← hy]; exact Htn.out⟩
     rw [Hxl] at A6 Htl
     rw [hy] at A6 Htl
     clear hw6 Hxl hy
     go_wp2_with fail
     clear hz
     have HXl : Away (St xl) := ⟨Htl.out.1⟩
     have hyr : y < r := Htl.out.2
     obtain ⟨d, hd⟩ : ∃ d, y + n - j = d := ⟨_, rfl⟩
     obtain ⟨d1, hd1⟩ : ∃ d1, y + n = d1 := ⟨_, rfl⟩
     have fd1 : IntKind.i64.wrap ((y : Int) + (n : Int)) = (d1 : Int) := by rw [IntKind.wrap_i64]; omega
     have fd : IntKind.i64.wrap ((d1 : Int) - (j : Int)) = (d : Int) := by rw [IntKind.wrap_i64]; omega
     have cp1 : w6.cell? ⟨gs, 26, none⟩ = some (.int .i64 (y : Int)) := cell_at A6.out.row (sc_at k _ true HXl.out.len)
     have K6 : Away (w6.heap[gk]? = some (.cells #[.int .i64 (r : Int), .int .u8 (f : Int), .int .i64 (z : Int)] 124 (0, 0))) := ⟨A6.out.other hgkW (by omega) K2.out⟩
     have ck1 : w6.cell? ⟨gk, 0, none⟩ = some (.int .i64 (r : Int)) := cell_at K6.out rfl
     clear Htl
     refine still_all (by kernel_rfl) (by kernel_rfl) ?_
     repeat still_step
     refine wpStill_nil ?_
     obtain ⟨zz, hzz⟩ : ∃ zz, (if r < d then r else d) = zz := ⟨_, rfl⟩
     have hmin : (if r < d then (r : Int) else (d : Int)) = (zz : Int) := by rw [← hzz]; split <;> rfl
     have hz1 : y < zz := by rw [← hzz]; split <;> omega
     have hz2 : zz ≤ r := by rw [← hzz]; split <;> omega
     have hz3 : j + (zz - y) ≤ n := by rw [← hzz]; split <;> omega
     rw [hmin]
     obtain ⟨m, hm⟩ : ∃ m, zz - y = m := ⟨_, rfl⟩
     have HNX : Away (sk (PP ts rs) r s0 (j + m) = ⟨xl, zz⟩ ∧ sq (PP ts rs) r s0 (j + m) = sq (PP ts rs) r s0 j ++ gbs xl y m) := ⟨by
      obtain ⟨k1, k2⟩ := round_is (PP ts rs) r ⟨sl, p⟩ xl y m hr0 Htn.out (by omega) (by omega)
      rw [sk_add, sq_add, Hst.out, k1, k2, show y + m = zz by omega]
      exact ⟨rfl, rfl⟩⟩
     have HC := Away.mk (read_any w8.heap.size gs k (y : Int) true xl 130 (sq (PP ts rs) r s0 j) j gv cap y zz w6.drew.drew HXl.out (by omega) (by omega) (by omega) hgsW A6.out.size A6.out.row (World.ownsRow.drew (World.ownsRow.drew O6.out)))
     rw [hm] at HC hz3
     have hA6 := A6.out.size
     clear hzz hmin fd fd1 hd hd1 O6 Htn ck1
     have cp1 : w6.drew.cell? ⟨gs, 26, none⟩ = some (.int .i64 (y : Int)) := cp1
     go_wp2_with fail
     refine still_tail 9 (by kernel_rfl) (by kernel_rfl) ?_
     simp only [List.take_succ_cons, List.take_zero, List.drop_succ_cons, List.drop_zero]
     repeat still_step
     refine wpStill_nil ?_
     clear cp1
     go_wp2_with fail
     refine HC.out.mono ?_
     rintro e w7 ⟨gv', cap', rfl, OY, hb7⟩
     have OY := Away.mk OY
     have A7 : Away (At gs (SC k xl (y : Int) true) 130 w8 w7) := ⟨at_below (at_drew (at_drew A6.out)) hb7 (Nat.le_refl _) hgsW⟩
     have AR : Away (At gs (SC k xl (y : Int) true) 130 w7 w7) := ⟨At.refl A7.out.row⟩
     clear hb7 HC A6 K6
     go_wp2_with ((with_reducible refine wpList_put2 AR rfl _ _ _ rfl rfl ?_); refine ⟨_, _, _, rfl, rfl, rfl, (by rw [sc_size k _ true HXl.out.len]; decide), ?_⟩; intro w9 HR9; rw [sc_seta k _ _ true HXl.out.len] at HR9)
     have AN : Away (At gs (SC k (sk (PP ts rs) r s0 (j + m)).l ((sk (PP ts rs) r s0 (j + m)).at' : Nat) true) 130 w8 w9) := ⟨by rw [HNX.out.1]; exact A7.out.trans HR9.out⟩
     have ON : Away (w9.ownsRow w8.heap.size 5 1 (.slice (some ⟨gv', 0, none⟩) (j + m) cap') (j + m) (Lib.byteCells (u8s (sq (PP ts rs) r s0 (j + m))))) := ⟨by rw [HNX.out.2]; exact owns_at OY.out HR9.out hgsW⟩
     clear HR9 AR A7 OY
     go_roundw
     case rel => exact ⟨j + m, hz3, ⟨_, _, rfl⟩, ON, AN⟩
     case measure => simp; omega
   ·obtain rfl : j = n := by omega
    rw [HE.out] at A0
    rw [Hbs.out] at OWN
    have hcv := conv_own Hbl.out OWN.out
    have AF : Away (At gs (SC k E.l (E.at' : Int) true) 130 w wr) := ⟨A2.out.trans A0.out⟩
    clear A0 OWN
    go_wp2_with fail
    go_ret
    exact ⟨rfl, AF.out⟩
 ·(go_simp; refine hK _ _ ?_; clear hK K)
  (refine wpAny_ready (rs := [3]) (by kernel_rfl) (by simp) ?_; refine AllReady.cons rfl (fun K hK => ?_) AllReady.nil; go_simp; refine hK _ _ ?_; clear hK K)
  refine any_tail 7 3 (by kernel_rfl) (by kernel_rfl) ?_
  simp only [List.drop_succ_cons, List.drop_zero]
  have A6 : Away (At gs (SC k l5 (p0 : Int) true) 130 W (w5.setCell ⟨gs, 27, none⟩ (.bool true)).drew) := ⟨by
   have h9 := at_put A5.out 27 (.bool true)
   rw [sc_seto k _ false true H5.out.len] at h9
   exact at_drew h9⟩
  obtain ⟨w7, hw7⟩ : ∃ x, (w5.setCell ⟨gs, 27, none⟩ (.bool true)).drew = x := ⟨_, rfl⟩
  rw [hw7] at A6 ⊢
  clear hw7 ck0 co fo A5
  have c3 : True := trivial
  go_wp2_with (first
   | ((with_reducible refine wpList_put2 A6 rfl _ _ _ rfl rfl ?_); refine ⟨_, _, _, rfl, rfl, rfl, (by rw [sc_size k _ true H5.out.len]; decide), ?_⟩; intro w8 A8; rw [sc_seta k _ _ true H5.out.len] at A8; have A8 : Away (At gs (SC k s0.l (s0.at' : Int) true) 130 W w8) := ⟨by rw [Hpad.out]; exact A8.out⟩; have K2 : Away (w8.heap[gk]? = some (.cells #[.int .i64 (r : Int), .int .u8 (f : Int), .int .i64 (z : Int)] 124 (0, 0))) := ⟨A8.out.other hgkW (by omega) K2.out⟩; have A2 : Away (At gs (SC k s0.l (s0.at' : Int) true) 130 w w8) := ⟨A2.out.trans A8.out⟩; clear A8 A6 Hpad)
   | (at_make; refine wpList_make_own _ rfl _ _ 78 rfl w8.heap.size 5 i0 (.int .u8 0) 1 Tryz.underlying78 HI.out.1 HI.out.2.1 HI.out.2.2.1 .i64 .i64 (n : Int) n rfl rfl rfl (by rw [HI.out.2.2.2]; omega) (by unfold maxLen; omega) (Nat.le_refl _) ?_))
  intro w4 hown hgr
  have hb4 : Below w8.heap.size w8 w4 := (Below.refl _ _).grown hgr (Nat.le_refl _) (fun k hk => by simp at hk)
  have hgkW := lt_of_row K2.out
  have AW : Away (At gs (SC k s0.l (s0.at' : Int) true) 130 w8 w4) := ⟨(At.refl A2.out.row).later hb4⟩
  have OW0 := Away.mk hown
  have PW : Away (Gp w8) := ⟨Gp.at HP.out A2.out hgp⟩
  have TW : Away (w8.heap[gt]? = some (.cells T 38 (0, 0))) := ⟨A2.out.other hgt hne HT.out⟩
  have hgtW : gt < w8.heap.size := lt_of_row TW.out
  have hgsW : gs < w8.heap.size := lt_of_row A2.out.row
  clear hown hgr hb4 c3
  go_wp2_with fail
  go_loopw [8] (fun v wr => ∃ j : Nat, j ≤ n ∧ (∃ g cap, v = .slice (some ⟨g, 0, none⟩) j cap) ∧ Away (wr.ownsRow w8.heap.size 5 1 v j (Lib.byteCells (u8s (sq (PP ts rs) r s0 j)))) ∧ Away (At gs (SC k (sk (PP ts rs) r s0 j).l ((sk (PP ts rs) r s0 j).at' : Nat) true) 130 w8 wr)) (fun v _ => n - (match v with | .slice _ m _ => m | _ => 0))
  case atStart => exact ⟨0, Nat.zero_le _, ⟨_, _, rfl⟩, OW0, AW⟩
  case round =>
   clear OW0 AW
   obtain ⟨j, hj, ⟨gv, cap, rfl⟩, OWN, A0⟩ := hrel
   by_cases hlt : j < n
   ·have hjz : (j : Int) < (n : Int) := by omega
    obtain ⟨st, Hst⟩ := ex_eq (sk (PP ts rs) r s0 j)
    have Hso : Away (St st.l ∧ st.at' ≤ r) := ⟨by rw [← Hst.out]; exact sk_ok (fun _ h => pp_st HK.out.br h) hr0 Hs0k.out.1 Hs0k.out.2 j⟩
    rw [Hst.out] at A0
    have Htl : Away (St (tn (PP ts rs) r st).l ∧ (tn (PP ts rs) r st).at' < r) := ⟨tn_ok (fun _ h => pp_st HK.out.br h) hr0 Hso.out.1 Hso.out.2⟩
    obtain ⟨sl, p⟩ := st
    have hsl := Hso.out.1
    have hp' := Hso.out.2
    simp only at hsl hp' A0
    have hp8 : p ≤ 168 := by omega
    have Hsl := Away.mk hsl
    have Hp := Away.mk hp'
    have cp0 : wr.cell? ⟨gs, 26, none⟩ = some (.int .i64 (p : Int)) := cell_at A0.out.row (sc_at k _ true hsl.len)
    have Krow : Away (wr.heap[gk]? = some (.cells #[.int .i64 (r : Int), .int .u8 (f : Int), .int .i64 (z : Int)] 124 (0, 0))) := ⟨A0.out.other hgkW (by omega) K2.out⟩
    have ck0 : wr.cell? ⟨gk, 0, none⟩ = some (.int .i64 (r : Int)) := cell_at Krow.out rfl
    clear hsl hp'
    by_cases he : p = r
    ·have hz : ((p : Int) == (r : Int)) = true := beq_iff_eq.2 (by omega)
     go_wp2_with fail
     refine still_all (by kernel_rfl) (by kernel_rfl) ?_
     repeat still_step
     refine wpStill_nil ?_
     have Ad : Away (At gs (SC k sl (p : Int) true) 130 w8 wr.drew) := ⟨at_drew A0.out⟩
     go_wp2_with fail
     refine (next_any gt gs k (p : Int) true sl wr.drew Hsl.out HK.out (Gp.at PW.out Ad.out hgp) (Ad.out.other hgtW hne TW.out) Ad.out.row).mono ?_
     rintro e w6 ⟨rfl, h6⟩
     have A6 : Away (At gs (SC k (PP ts rs sl) ((0 : Nat) : Int) true) 130 w8 w6) := ⟨Ad.out.trans h6⟩
     have O6 : Away (w6.ownsRow w8.heap.size 5 1 (.slice (some ⟨gv, 0, none⟩) j cap) j (Lib.byteCells (u8s (sq (PP ts rs) r s0 j)))) := ⟨owns_at (World.ownsRow.drew OWN.out) h6 hgsW⟩
     have Htn : Away (tn (PP ts rs) r ⟨sl, p⟩ = ⟨PP ts rs sl, 0⟩) := ⟨by rw [tn, if_pos he]⟩
     clear h6 cp0 ck0 Krow OWN Ad A0
     obtain ⟨y, hy⟩ : ∃ y : Nat, 0 = y := ⟨_, rfl⟩
     rw [hy] at A6 Htn
     obtain ⟨xl, Hxl⟩ := ex_eq (PP ts rs sl)
     rw [Hxl.out] at A6 Htn
     rw [Htn.out] at Htl
     clear hy Hxl he hz
     go_wp2_with fail
     have HXl : Away (St xl) := ⟨Htl.out.1⟩
     have hyr : y < r := Htl.out.2
     obtain ⟨d, hd⟩ : ∃ d, y + n - j = d := ⟨_, rfl⟩
     obtain ⟨d1, hd1⟩ : ∃ d1, y + n = d1 := ⟨_, rfl⟩
     have fd1 : IntKind.i64.wrap ((y : Int) + (n : Int)) = (d1 : Int) := by rw [IntKind.wrap_i64]; omega
     have fd : IntKind.i64.wrap ((d1 : Int) - (j : Int)) = (d : Int) := by rw [IntKind.wrap_i64]; omega
     have cp1 : w6.cell? ⟨gs, 26, none⟩ = some (.int .i64 (y : Int)) := cell_at A6.out.row (sc_at k _ true HXl.out.len)
     have K6 : Away (w6.heap[gk]? = some (.cells #[.int .i64 (r : Int), .int .u8 (f : Int), .int .i64 (z : Int)] 124 (0, 0))) := ⟨A6.out.other hgkW (by omega) K2.out⟩
     have ck1 : w6.cell? ⟨gk, 0, none⟩ = some (.int .i64 (r : Int)) := cell_at K6.out rfl
     clear Htl
     refine still_all (by kernel_rfl) (by kernel_rfl) ?_
     repeat still_step
     refine wpStill_nil ?_
     obtain ⟨zz, hzz⟩ : ∃ zz, (if r < d then r else d) = zz := ⟨_, rfl⟩
     have hmin : (if r < d then (r : Int) else (d : Int)) = (zz : Int) := by rw [← hzz]; split <;> rfl
     have hz1 : y < zz := by rw [← hzz]; split <;> omega
     have hz2 : zz ≤ r := by rw [← hzz]; split <;> omega
     have hz3 : j + (zz - y) ≤ n := by rw [← hzz]; split <;> omega
     rw [hmin]
     obtain ⟨m, hm⟩ : ∃ m, zz - y = m := ⟨_, rfl⟩
     have HNX : Away (sk (PP ts rs) r s0 (j + m) = ⟨xl, zz⟩ ∧ sq (PP ts rs) r s0 (j + m) = sq (PP ts rs) r s0 j ++ gbs xl y m) := ⟨by
      obtain ⟨k1, k2⟩ := round_is (PP ts rs) r ⟨sl, p⟩ xl y m hr0 Htn.out (by omega) (by omega)
      rw [sk_add, sq_add, Hst.out, k1, k2, show y + m = zz by omega]
      exact ⟨rfl, rfl⟩⟩
     have HC := Away.mk (read_any w8.heap.size gs k (y : Int) true xl 130 (sq (PP ts rs) r s0 j) j gv cap y zz w6.drew.drew HXl.out (by omega) (by omega) (by omega) hgsW A6.out.size A6.out.row (World.ownsRow.drew (World.ownsRow.drew O6.out)))
     rw [hm] at HC hz3
     have hA6 := A6.out.size
     clear hzz hmin fd fd1 hd hd1 O6 Htn ck1
     have cp1 : w6.drew.cell? ⟨gs, 26, none⟩ = some (.int .i64 (y : Int)) := cp1
     go_wp2_with fail
     refine still_tail 9 (by kernel_rfl) (by kernel_rfl) ?_
     simp only [List.take_succ_cons, List.take_zero, List.drop_succ_cons, List.drop_zero]
     repeat still_step
     refine wpStill_nil ?_
     clear cp1
     go_wp2_with fail
     refine HC.out.mono ?_
     rintro e w7 ⟨gv', cap', rfl, OY, hb7⟩
     have OY := Away.mk OY
     have A7 : Away (At gs (SC k xl (y : Int) true) 130 w8 w7) := ⟨at_below (at_drew (at_drew A6.out)) hb7 (Nat.le_refl _) hgsW⟩
     have AR : Away (At gs (SC k xl (y : Int) true) 130 w7 w7) := ⟨At.refl A7.out.row⟩
     clear hb7 HC A6 K6
     go_wp2_with ((with_reducible refine wpList_put2 AR rfl _ _ _ rfl rfl ?_); refine ⟨_, _, _, rfl, rfl, rfl, (by rw [sc_size k _ true HXl.out.len]; decide), ?_⟩; intro w9 HR9; rw [sc_seta k _ _ true HXl.out.len] at HR9)
     have AN : Away (At gs (SC k (sk (PP ts rs) r s0 (j + m)).l ((sk (PP ts rs) r s0 (j + m)).at' : Nat) true) 130 w8 w9) := ⟨by rw [HNX.out.1]; exact A7.out.trans HR9.out⟩
     have ON : Away (w9.ownsRow w8.heap.size 5 1 (.slice (some ⟨gv', 0, none⟩) (j + m) cap') (j + m) (Lib.byteCells (u8s (sq (PP ts rs) r s0 (j + m))))) := ⟨by rw [HNX.out.2]; exact owns_at OY.out HR9.out hgsW⟩
     clear HR9 AR A7 OY
     go_roundw
     case rel => exact ⟨j + m, hz3, ⟨_, _, rfl⟩, ON, AN⟩
     case measure => simp; omega
    ·have hz : ((p : Int) == (r : Int)) = false := beq_eq_false_iff_ne.2 (by omega)
     go_wp2_with fail
     refine still_all (by kernel_rfl) (by kernel_rfl) ?_
     repeat still_step
     refine wpStill_nil ?_
     have A6 : Away (At gs (SC k sl (p : Int) true) 130 w8 wr.drew) := ⟨at_drew A0.out⟩
     have O6 : Away (wr.drew.ownsRow w8.heap.size 5 1 (.slice (some ⟨gv, 0, none⟩) j cap) j (Lib.byteCells (u8s (sq (PP ts rs) r s0 j)))) := ⟨World.ownsRow.drew OWN.out⟩
     have Htn : Away (tn (PP ts rs) r ⟨sl, p⟩ = ⟨sl, p⟩) := ⟨by rw [tn, if_neg he]⟩
     rw [Htn.out] at Htl
     clear cp0 ck0 Krow OWN A0 he
     obtain ⟨w6, hw6⟩ : ∃ x, wr.drew = x := ⟨_, rfl⟩
     rw [hw6] at A6 O6 ⊢
     obtain ⟨xl, Hxl⟩ : ∃ x, sl = x := ⟨_, rfl⟩
     obtain ⟨y, hy⟩ : ∃ x, p = x := ⟨_, rfl⟩
     have Htn : Away (tn (PP ts rs) r ⟨sl, p⟩ = ⟨xl, y⟩) := ⟨by rw [← Hxl, ← hy]; exact Htn.out⟩
     rw [Hxl] at A6 Htl
     rw [hy] at A6 Htl
     clear hw6 Hxl hy
     go_wp2_with fail
     clear hz
     have HXl : Away (St xl) := ⟨Htl.out.1⟩
     have hyr : y < r := Htl.out.2
     obtain ⟨d, hd⟩ : ∃ d, y + n - j = d := ⟨_, rfl⟩
     obtain ⟨d1, hd1⟩ : ∃ d1, y + n = d1 := ⟨_, rfl⟩
     have fd1 : IntKind.i64.wrap ((y : Int) + (n : Int)) = (d1 : Int) := by rw [IntKind.wrap_i64]; omega
     have fd : IntKind.i64.wrap ((d1 : Int) - (j : Int)) = (d : Int) := by rw [IntKind.wrap_i64]; omega
     have cp1 : w6.cell? ⟨gs, 26, none⟩ = some (.int .i64 (y : Int)) := cell_at A6.out.row (sc_at k _ true HXl.out.len)
     have K6 : Away (w6.heap[gk]? = some (.cells #[.int .i64 (r : Int), .int .u8 (f : Int), .int .i64 (z : Int)] 124 (0, 0))) := ⟨A6.out.other hgkW (by omega) K2.out⟩
     have ck1 : w6.cell? ⟨gk, 0, none⟩ = some (.int .i64 (r : Int)) := cell_at K6.out rfl
     clear Htl
     refine still_all (by kernel_rfl) (by kernel_rfl) ?_
     repeat still_step
     refine wpStill_nil ?_
     obtain ⟨zz, hzz⟩ : ∃ zz, (if r < d then r else d) = zz := ⟨_, rfl⟩
     have hmin : (if r < d then (r : Int) else (d : Int)) = (zz : Int) := by rw [← hzz]; split <;> rfl
     have hz1 : y < zz := by rw [← hzz]; split <;> omega
     have hz2 : zz ≤ r := by rw [← hzz]; split <;> omega
     have hz3 : j + (zz - y) ≤ n := by rw [← hzz]; split <;> omega
     rw [hmin]
     obtain ⟨m, hm⟩ : ∃ m, zz - y = m := ⟨_, rfl⟩
     have HNX : Away (sk (PP ts rs) r s0 (j + m) = ⟨xl, zz⟩ ∧ sq (PP ts rs) r s0 (j + m) = sq (PP ts rs) r s0 j ++ gbs xl y m) := ⟨by
      obtain ⟨k1, k2⟩ := round_is (PP ts rs) r ⟨sl, p⟩ xl y m hr0 Htn.out (by omega) (by omega)
      rw [sk_add, sq_add, Hst.out, k1, k2, show y + m = zz by omega]
      exact ⟨rfl, rfl⟩⟩
     have HC := Away.mk (read_any w8.heap.size gs k (y : Int) true xl 130 (sq (PP ts rs) r s0 j) j gv cap y zz w6.drew.drew HXl.out (by omega) (by omega) (by omega) hgsW A6.out.size A6.out.row (World.ownsRow.drew (World.ownsRow.drew O6.out)))
     rw [hm] at HC hz3
     have hA6 := A6.out.size
     clear hzz hmin fd fd1 hd hd1 O6 Htn ck1
     have cp1 : w6.drew.cell? ⟨gs, 26, none⟩ = some (.int .i64 (y : Int)) := cp1
     go_wp2_with fail
     refine still_tail 9 (by kernel_rfl) (by kernel_rfl) ?_
     simp only [List.take_succ_cons, List.take_zero, List.drop_succ_cons, List.drop_zero]
     repeat still_step
     refine wpStill_nil ?_
     clear cp1
     go_wp2_with fail
     refine HC.out.mono ?_
     rintro e w7 ⟨gv', cap', rfl, OY, hb7⟩
     have OY := Away.mk OY
     have A7 : Away (At gs (SC k xl (y : Int) true) 130 w8 w7) := ⟨at_below (at_drew (at_drew A6.out)) hb7 (Nat.le_refl _) hgsW⟩
     have AR : Away (At gs (SC k xl (y : Int) true) 130 w7 w7) := ⟨At.refl A7.out.row⟩
     clear hb7 HC A6 K6
     go_wp2_with ((with_reducible refine wpList_put2 AR rfl _ _ _ rfl rfl ?_); refine ⟨_, _, _, rfl, rfl, rfl, (by rw [sc_size k _ true HXl.out.len]; decide), ?_⟩; intro w9 HR9; rw [sc_seta k _ _ true HXl.out.len] at HR9)
     have AN : Away (At gs (SC k (sk (PP ts rs) r s0 (j + m)).l ((sk (PP ts rs) r s0 (j + m)).at' : Nat) true) 130 w8 w9) := ⟨by rw [HNX.out.1]; exact A7.out.trans HR9.out⟩
     have ON : Away (w9.ownsRow w8.heap.size 5 1 (.slice (some ⟨gv', 0, none⟩) (j + m) cap') (j + m) (Lib.byteCells (u8s (sq (PP ts rs) r s0 (j + m))))) := ⟨by rw [HNX.out.2]; exact owns_at OY.out HR9.out hgsW⟩
     clear HR9 AR A7 OY
     go_roundw
     case rel => exact ⟨j + m, hz3, ⟨_, _, rfl⟩, ON, AN⟩
     case measure => simp; omega
   ·obtain rfl : j = n := by omega
    rw [HE.out] at A0
    rw [Hbs.out] at OWN
    have hcv := conv_own Hbl.out OWN.out
    have AF : Away (At gs (SC k E.l (E.at' : Int) true) 130 w wr) := ⟨A2.out.trans A0.out⟩
    clear A0 OWN
    go_wp2_with fail
    go_ret
    exact ⟨rfl, AF.out⟩
end spoh
namespace spok
open Go Go.RowKit
open arr mem kecm kecb kstep kturn kfun spgm spmx rspa rspb rspc rspd rspe spoa spob spoe spof spog spoh
theorem z_st : St Z := kecd.st_of z_len (by decide)
def out (ts rs : List Nat) (k : Int) (b : ByteArray) (n : Nat) : ByteArray := ⟨(u8s (sq (PP ts rs) (rate k) (pad (rate k) (spgm.mark k) (abs (PP ts rs) (rate k) ⟨Z, 0⟩ (bys b))) n)).toArray⟩
set_option maxRecDepth 100000 in
set_option maxHeartbeats 2000000 in
theorem whole_any {T : Array Value} {ts rs : List Nat} (gt : Nat) (k : Int) (b : ByteArray) (n : Nat) (w : World) (hK : KT T ts rs) (hP : Gp w) (hT : w.heap[gt]? = some (.cells T 38 (0, 0))) (hr0 : 0 < rate k) (hn : n ≤ 50000) (hb : b.size ≤ 1125899906842624) :
 Calls Tryz.prog 115 #[.pointer (some ⟨gt, 0, none⟩), .int .i64 k, .string b, .int .i64 (n : Int)] w fun e w' => e = .returned (.string (out ts rs k b n)) ∧ Below w.heap.size w w' := by
 obtain ⟨O, HO⟩ := ex_eq (out ts rs k b n)
 rw [HO.out]
 obtain ⟨E, HE⟩ := ex_eq (abs (PP ts rs) (rate k) ⟨Z, 0⟩ (bys b))
 have hEo : St E.l ∧ E.at' < rate k := by rw [← HE.out]; exact abs_ok (fun _ h => pp_st hK.br h) _ z_st hr0
 obtain ⟨F, HF⟩ := ex_eq (SC k Z 0 false)
 have Fi : Away ((Tryz.prog.info? 130).map (·.size) = some F.size) := ⟨by rw [← HF.out]; exact sc_info _ _ _ z_len⟩
 have Fo : Away (F.all (·.oneCell') = true) := ⟨by rw [← HF.out]; exact sc_one _ _ _ _⟩
 have Fz : Away ((#[.int .i64 0, .int .u64 0, .int .u64 0, .int .u64 0, .int .u64 0, .int .u64 0, .int .u64 0, .int .u64 0, .int .u64 0, .int .u64 0, .int .u64 0, .int .u64 0, .int .u64 0, .int .u64 0, .int .u64 0, .int .u64 0, .int .u64 0, .int .u64 0, .int .u64 0, .int .u64 0, .int .u64 0, .int .u64 0, .int .u64 0, .int .u64 0, .int .u64 0, .int .u64 0, .int .i64 0, .bool false] : Array Value).size = F.size) := ⟨by rw [← HF.out, sc_size _ _ _ z_len]; rfl⟩
 have Fb : Away ((#[.int .i64 k, .int .u64 0, .int .u64 0, .int .u64 0, .int .u64 0, .int .u64 0, .int .u64 0, .int .u64 0, .int .u64 0, .int .u64 0, .int .u64 0, .int .u64 0, .int .u64 0, .int .u64 0, .int .u64 0, .int .u64 0, .int .u64 0, .int .u64 0, .int .u64 0, .int .u64 0, .int .u64 0, .int .u64 0, .int .u64 0, .int .u64 0, .int .u64 0, .int .u64 0, .int .i64 0, .bool false] : Array Value) = F) := ⟨by rw [← HF.out]; rfl⟩
 have hgp := gp_lt hP
 have hgt := lt_of_row hT
 obtain ⟨W, hW⟩ : ∃ x, w.alloc (.cells F 130) = x := ⟨_, rfl⟩
 have HW := Away.mk hW
 have hb0 : Below w.heap.size w W := by rw [← hW]; exact below_alloc _ _
 have hrow : W.heap[w.heap.size]? = some (.cells (SC k Z ((0 : Nat) : Int) false) 130 (0, 0)) := by rw [← hW, show SC k Z ((0 : Nat) : Int) false = F from HF.out]; exact heap_at _ _ _ rfl
 have C1 := Away.mk (spoe.absorb_any gt w.heap.size k 0 Z b W z_st hK (hP.later hb0) ((hb0.block _ hgt).trans hT) (by omega) (by omega) hr0 hb hrow)
 rw [HE.out] at C1
 have C2 : Away (∀ w2 : World, At w.heap.size (SC k E.l (E.at' : Nat) false) 130 W w2 → Calls Tryz.prog 126 #[.pointer (some ⟨gt, 0, none⟩), .pointer (some ⟨w.heap.size, 0, none⟩), .int .i64 (n : Int)] w2 fun e w' => e = .returned (.string O) ∧ Below w.heap.size w2 w') := ⟨fun w2 h2 => by
  have hz : W.heap.size = w.heap.size + 1 := by rw [← hW]; exact size_alloc _ _
  refine (spoh.squeeze_pad gt w.heap.size k E.at' n E.l w2 hEo.1 hK (Gp.at (hP.later hb0) h2 (by omega)) (h2.other (by omega) (by omega) ((hb0.block _ hgt).trans hT)) (by omega) (by omega) hr0 hEo.2 hn h2.row).mono ?_
  rintro e w3 ⟨rfl, h3⟩
  refine ⟨?_, h3.below (by have := h2.size; omega) (Nat.le_refl _)⟩
  rw [← HO.out, out, HE.out]⟩
 have HB0 := Away.mk hb0
 clear hrow hb0 hW hEo hK hP hT
 go_enter Tryz.func115, Tryz.ntmps115
 go_wp2_with (first
  | (rw [HW.out])
  | ((with_reducible refine wpList_buildC rfl _ _ rfl #[.int .i64 k, .int .u64 0, .int .u64 0, .int .u64 0, .int .u64 0, .int .u64 0, .int .u64 0, .int .u64 0, .int .u64 0, .int .u64 0, .int .u64 0, .int .u64 0, .int .u64 0, .int .u64 0, .int .u64 0, .int .u64 0, .int .u64 0, .int .u64 0, .int .u64 0, .int .u64 0, .int .u64 0, .int .u64 0, .int .u64 0, .int .u64 0, .int .u64 0, .int .u64 0, .int .i64 0, .bool false] ?hC ?_); (case hC => kernel_rfl); rw [Fb.out])
  | (refine wpList_store_new rfl 130 _ _ rfl F rfl rfl Fi.out (by first | exact Fz.out | rfl) Fo.out rfl ?_))
 refine C1.out.mono ?_
 rintro e w1 ⟨rfl, h1⟩
 have HB1 : Away (Below w.heap.size w w1) := ⟨HB0.out.trans (h1.below (by have := HB0.out.size; omega) (Nat.le_refl _))⟩
 have C3 := Away.mk (C2.out w1 h1)
 clear h1 C1 C2
 go_wp2_with fail
 refine C3.out.mono ?_
 rintro e w2 ⟨rfl, h2⟩
 have HB2 : Away (Below w.heap.size w w2) := ⟨HB1.out.trans h2⟩
 clear h2
 go_wp2_with fail
 go_ret
 exact ⟨rfl, HB2.out⟩
theorem field2 (r f z : Int) (w : World) : (Instr.field 124 (.agg #[.int .i64 r, .int .u8 f, .int .i64 z]) 2).run Tryz.prog w = .ok (.int .i64 z) w := by kernel_rfl
theorem traits_at (k : Int) : ∃ f : Nat, ∀ w1 : World, Calls Tryz.prog 113 #[.int .i64 k] w1 fun e w' => e = .returned (.agg #[.int .i64 ((rate k : Nat) : Int), .int .u8 (f : Int), .int .i64 ((spoa.size k : Nat) : Int)]) ∧ Below w1.heap.size w1 w' := ⟨fin k, traits_any k⟩
set_option maxRecDepth 100000 in
set_option maxHeartbeats 2000000 in
theorem shake_none {T : Array Value} {ts rs : List Nat} (k : Int) (b : ByteArray) (n : Int) (w : World) (hK : KT T ts rs) (h0 : rate k = 0) :
 Calls Tryz.prog 81 #[.agg T, .int .i64 k, .string b, .int .i64 n] w fun e w' => e = .returned (.tuple #[.string ⟨#[]⟩, .int .i64 1]) ∧ Below w.heap.size w w' := by
 obtain ⟨f, hTr⟩ := traits_at k
 obtain ⟨r, hr⟩ : ∃ r, rate k = r := ⟨_, rfl⟩
 obtain ⟨z, hz⟩ : ∃ z, spoa.size k = z := ⟨_, rfl⟩
 rw [hr] at h0 hTr
 rw [hz] at hTr
 subst h0
 have hTr : ∀ w1 : World, Calls Tryz.prog 113 #[.int .i64 k] w1 fun e w' => e = .returned (.agg #[.int .i64 0, .int .u8 (f : Int), .int .i64 (z : Int)]) ∧ Below w1.heap.size w1 w' := hTr
 have HTr := Away.mk hTr
 have HTz : Away ((Tryz.prog.info? 38).map (·.size) = some T.size) := ⟨by rw [hK.size]; exact rspa.sizeT⟩
 clear hTr
 obtain ⟨W, hW⟩ : ∃ x, w.alloc (.cells T 38) = x := ⟨_, rfl⟩
 have HW := Away.mk hW
 have HB0 : Away (Below w.heap.size w W) := ⟨by rw [← hW]; exact below_alloc _ _⟩
 have HT : Away (W.heap[w.heap.size]? = some (.cells T 38 (0, 0))) := ⟨by rw [← hW]; exact heap_at _ _ _ rfl⟩
 have hz1 : W.heap.size = w.heap.size + 1 := by rw [← hW]; exact size_alloc _ _
 clear hW
 go_enter Tryz.func81, Tryz.ntmps81
 go_wp2_with (rw [HW.out])
 refine (HTr.out _).mono ?_
 rintro e w1 ⟨rfl, hb1⟩
 obtain ⟨V, hV⟩ : ∃ x, w1.alloc (.cells #[.int .i64 0, .int .u8 (f : Int), .int .i64 (z : Int)] 124) = x := ⟨_, rfl⟩
 have HV := Away.mk hV
 have HB1 : Away (Below w.heap.size w V) := ⟨(HB0.out.trans (hb1.mono (by omega))).trans ((by rw [← hV]; exact (below_alloc _ _).mono (by have := hb1.size; omega)))⟩
 have HT1 : Away (V.heap[w.heap.size]? = some (.cells T 38 (0, 0))) := ⟨by rw [← hV, heap_past _ _ _ (by have := hb1.size; omega)]; exact (hb1.block _ (by omega)).trans HT.out⟩
 have Hrow : V.heap[w1.heap.size]? = some (.cells #[.int .i64 0, .int .u8 (f : Int), .int .i64 (z : Int)] 124 (0, 0)) := by rw [← hV]; exact heap_at _ _ _ rfl
 have k0 : V.cell? ⟨w1.heap.size, 0, none⟩ = some (.int .i64 0) := cell_at Hrow rfl
 have k2 : V.cell? ⟨w1.heap.size, 2, none⟩ = some (.int .i64 (z : Int)) := cell_at Hrow rfl
 have hz2 : w.heap.size < w1.heap.size := by have := hb1.size; omega
 clear hb1 HTr hV Hrow
 go_wp2_with (rw [HV.out])
 go_ret2
 exact ⟨rfl, HB1.out⟩
set_option maxRecDepth 100000 in
set_option maxHeartbeats 2000000 in
theorem shake_sha {T : Array Value} {ts rs : List Nat} (k : Int) (b : ByteArray) (n : Int) (w : World) (hK : KT T ts rs) (h0 : 0 < rate k) (h1 : 0 < spoa.size k) :
 Calls Tryz.prog 81 #[.agg T, .int .i64 k, .string b, .int .i64 n] w fun e w' => e = .returned (.tuple #[.string ⟨#[]⟩, .int .i64 1]) ∧ Below w.heap.size w w' := by
 obtain ⟨f, hTr⟩ := traits_at k
 obtain ⟨r, hr⟩ : ∃ r, rate k = r := ⟨_, rfl⟩
 obtain ⟨z, hz⟩ : ∃ z, spoa.size k = z := ⟨_, rfl⟩
 rw [hr] at h0 hTr
 rw [hz] at h1 hTr
 have q0 : ((r : Int) == 0) = false := beq_eq_false_iff_ne.2 (by omega)
 have q1 : ((z : Int) == 0) = false := beq_eq_false_iff_ne.2 (by omega)
 have HTr := Away.mk hTr
 have HTz : Away ((Tryz.prog.info? 38).map (·.size) = some T.size) := ⟨by rw [hK.size]; exact rspa.sizeT⟩
 clear hTr
 obtain ⟨W, hW⟩ : ∃ x, w.alloc (.cells T 38) = x := ⟨_, rfl⟩
 have HW := Away.mk hW
 have HB0 : Away (Below w.heap.size w W) := ⟨by rw [← hW]; exact below_alloc _ _⟩
 have HT : Away (W.heap[w.heap.size]? = some (.cells T 38 (0, 0))) := ⟨by rw [← hW]; exact heap_at _ _ _ rfl⟩
 have hz1 : W.heap.size = w.heap.size + 1 := by rw [← hW]; exact size_alloc _ _
 clear hW
 go_enter Tryz.func81, Tryz.ntmps81
 go_wp2_with (rw [HW.out])
 refine (HTr.out _).mono ?_
 rintro e w1 ⟨rfl, hb1⟩
 obtain ⟨V, hV⟩ : ∃ x, w1.alloc (.cells #[.int .i64 (r : Int), .int .u8 (f : Int), .int .i64 (z : Int)] 124) = x := ⟨_, rfl⟩
 have HV := Away.mk hV
 have HB1 : Away (Below w.heap.size w V) := ⟨(HB0.out.trans (hb1.mono (by omega))).trans ((by rw [← hV]; exact (below_alloc _ _).mono (by have := hb1.size; omega)))⟩
 have HT1 : Away (V.heap[w.heap.size]? = some (.cells T 38 (0, 0))) := ⟨by rw [← hV, heap_past _ _ _ (by have := hb1.size; omega)]; exact (hb1.block _ (by omega)).trans HT.out⟩
 have Hrow : V.heap[w1.heap.size]? = some (.cells #[.int .i64 (r : Int), .int .u8 (f : Int), .int .i64 (z : Int)] 124 (0, 0)) := by rw [← hV]; exact heap_at _ _ _ rfl
 have k0 : V.cell? ⟨w1.heap.size, 0, none⟩ = some (.int .i64 (r : Int)) := cell_at Hrow rfl
 have k2 : V.cell? ⟨w1.heap.size, 2, none⟩ = some (.int .i64 (z : Int)) := cell_at Hrow rfl
 have hz2 : w.heap.size < w1.heap.size := by have := hb1.size; omega
 clear hb1 HTr hV Hrow
 go_wp2_with (rw [HV.out])
 go_ret2
 exact ⟨rfl, HB1.out⟩
set_option maxRecDepth 100000 in
set_option maxHeartbeats 2000000 in
theorem shake_far {T : Array Value} {ts rs : List Nat} (k : Int) (b : ByteArray) (n : Int) (w : World) (hK : KT T ts rs) (h0 : 0 < rate k) (h1 : spoa.size k = 0) (hn : n < 0 ∨ 50000 < n) :
 Calls Tryz.prog 81 #[.agg T, .int .i64 k, .string b, .int .i64 n] w fun e w' => e = .returned (.tuple #[.string ⟨#[]⟩, .int .i64 1]) ∧ Below w.heap.size w w' := by
 obtain ⟨f, hTr⟩ := traits_at k
 obtain ⟨r, hr⟩ : ∃ r, rate k = r := ⟨_, rfl⟩
 obtain ⟨z, hz⟩ : ∃ z, spoa.size k = z := ⟨_, rfl⟩
 rw [hr] at h0 hTr
 rw [h1] at hTr
 have q0 : ((r : Int) == 0) = false := beq_eq_false_iff_ne.2 (by omega)
 have hTr : ∀ w1 : World, Calls Tryz.prog 113 #[.int .i64 k] w1 fun e w' => e = .returned (.agg #[.int .i64 (r : Int), .int .u8 (f : Int), .int .i64 0]) ∧ Below w1.heap.size w1 w' := hTr
 have HTr := Away.mk hTr
 have HTz : Away ((Tryz.prog.info? 38).map (·.size) = some T.size) := ⟨by rw [hK.size]; exact rspa.sizeT⟩
 have HF : Away (∀ w1 : World, Calls Tryz.prog 114 #[.int .i64 n] w1 fun e w' => e = .returned (.bool false) ∧ w' = w1) := ⟨fun w1 => by have h9 := fits_any n w1; rw [decide_eq_false (by omega)] at h9; exact h9⟩
 clear hTr
 obtain ⟨W, hW⟩ : ∃ x, w.alloc (.cells T 38) = x := ⟨_, rfl⟩
 have HW := Away.mk hW
 have HB0 : Away (Below w.heap.size w W) := ⟨by rw [← hW]; exact below_alloc _ _⟩
 have HT : Away (W.heap[w.heap.size]? = some (.cells T 38 (0, 0))) := ⟨by rw [← hW]; exact heap_at _ _ _ rfl⟩
 have hz1 : W.heap.size = w.heap.size + 1 := by rw [← hW]; exact size_alloc _ _
 clear hW
 go_enter Tryz.func81, Tryz.ntmps81
 go_wp2_with (rw [HW.out])
 refine (HTr.out _).mono ?_
 rintro e w1 ⟨rfl, hb1⟩
 obtain ⟨V, hV⟩ : ∃ x, w1.alloc (.cells #[.int .i64 (r : Int), .int .u8 (f : Int), .int .i64 0] 124) = x := ⟨_, rfl⟩
 have HV := Away.mk hV
 have HB1 : Away (Below w.heap.size w V) := ⟨(HB0.out.trans (hb1.mono (by omega))).trans ((by rw [← hV]; exact (below_alloc _ _).mono (by have := hb1.size; omega)))⟩
 have HT1 : Away (V.heap[w.heap.size]? = some (.cells T 38 (0, 0))) := ⟨by rw [← hV, heap_past _ _ _ (by have := hb1.size; omega)]; exact (hb1.block _ (by omega)).trans HT.out⟩
 have Hrow : V.heap[w1.heap.size]? = some (.cells #[.int .i64 (r : Int), .int .u8 (f : Int), .int .i64 0] 124 (0, 0)) := by rw [← hV]; exact heap_at _ _ _ rfl
 have k0 : V.cell? ⟨w1.heap.size, 0, none⟩ = some (.int .i64 (r : Int)) := cell_at Hrow rfl
 have k2 : V.cell? ⟨w1.heap.size, 2, none⟩ = some (.int .i64 0) := cell_at Hrow rfl
 have hz2 : w.heap.size < w1.heap.size := by have := hb1.size; omega
 clear hb1 HTr hV Hrow
 go_wp2_with (rw [HV.out])
 refine (HF.out _).mono ?_
 rintro e w2 ⟨rfl, rfl⟩
 go_wp2_with fail
 go_ret2
 exact ⟨rfl, HB1.out⟩
set_option maxRecDepth 100000 in
set_option maxHeartbeats 2000000 in
theorem shake_go {T : Array Value} {ts rs : List Nat} (k : Int) (b : ByteArray) (n : Nat) (w : World) (hK : KT T ts rs) (hP : Gp w) (h0 : 0 < rate k) (h1 : spoa.size k = 0) (hn : n ≤ 50000) (hb : b.size ≤ 1125899906842624) :
 Calls Tryz.prog 81 #[.agg T, .int .i64 k, .string b, .int .i64 (n : Int)] w fun e w' => e = .returned (.tuple #[.string (out ts rs k b n), .int .i64 0]) ∧ Below w.heap.size w w' := by
 obtain ⟨f, hTr⟩ := traits_at k
 obtain ⟨r, hr⟩ : ∃ r, rate k = r := ⟨_, rfl⟩
 obtain ⟨z, hz⟩ : ∃ z, spoa.size k = z := ⟨_, rfl⟩
 rw [hr] at hTr
 rw [h1] at hTr
 have q0 : ((r : Int) == 0) = false := beq_eq_false_iff_ne.2 (by omega)
 have hTr : ∀ w1 : World, Calls Tryz.prog 113 #[.int .i64 k] w1 fun e w' => e = .returned (.agg #[.int .i64 (r : Int), .int .u8 (f : Int), .int .i64 0]) ∧ Below w1.heap.size w1 w' := hTr
 have HTr := Away.mk hTr
 have HTz : Away ((Tryz.prog.info? 38).map (·.size) = some T.size) := ⟨by rw [hK.size]; exact rspa.sizeT⟩
 have HF : Away (∀ w1 : World, Calls Tryz.prog 114 #[.int .i64 (n : Int)] w1 fun e w' => e = .returned (.bool true) ∧ w' = w1) := ⟨fun w1 => by have h9 := fits_any (n : Int) w1; rw [decide_eq_true (by omega)] at h9; exact h9⟩
 have HP := Away.mk hP
 have HK := Away.mk hK
 clear hTr
 obtain ⟨W, hW⟩ : ∃ x, w.alloc (.cells T 38) = x := ⟨_, rfl⟩
 have HW := Away.mk hW
 have HB0 : Away (Below w.heap.size w W) := ⟨by rw [← hW]; exact below_alloc _ _⟩
 have HT : Away (W.heap[w.heap.size]? = some (.cells T 38 (0, 0))) := ⟨by rw [← hW]; exact heap_at _ _ _ rfl⟩
 have hz1 : W.heap.size = w.heap.size + 1 := by rw [← hW]; exact size_alloc _ _
 clear hW
 go_enter Tryz.func81, Tryz.ntmps81
 go_wp2_with (rw [HW.out])
 refine (HTr.out _).mono ?_
 rintro e w1 ⟨rfl, hb1⟩
 obtain ⟨V, hV⟩ : ∃ x, w1.alloc (.cells #[.int .i64 (r : Int), .int .u8 (f : Int), .int .i64 0] 124) = x := ⟨_, rfl⟩
 have HV := Away.mk hV
 have HB1 : Away (Below w.heap.size w V) := ⟨(HB0.out.trans (hb1.mono (by omega))).trans ((by rw [← hV]; exact (below_alloc _ _).mono (by have := hb1.size; omega)))⟩
 have HT1 : Away (V.heap[w.heap.size]? = some (.cells T 38 (0, 0))) := ⟨by rw [← hV, heap_past _ _ _ (by have := hb1.size; omega)]; exact (hb1.block _ (by omega)).trans HT.out⟩
 have Hrow : V.heap[w1.heap.size]? = some (.cells #[.int .i64 (r : Int), .int .u8 (f : Int), .int .i64 0] 124 (0, 0)) := by rw [← hV]; exact heap_at _ _ _ rfl
 have k0 : V.cell? ⟨w1.heap.size, 0, none⟩ = some (.int .i64 (r : Int)) := cell_at Hrow rfl
 have k2 : V.cell? ⟨w1.heap.size, 2, none⟩ = some (.int .i64 0) := cell_at Hrow rfl
 have hz2 : w.heap.size < w1.heap.size := by have := hb1.size; omega
 clear hb1 HTr hV Hrow
 go_wp2_with (rw [HV.out])
 refine (HF.out _).mono ?_
 rintro e w2 ⟨rfl, rfl⟩
 go_wp2_with fail
 refine (whole_any w.heap.size k b n w2 HK.out (HP.out.later HB1.out) HT1.out h0 hn hb).mono ?_
 rintro e w3 ⟨rfl, h3⟩
 have HB3 : Away (Below w.heap.size w w3) := ⟨HB1.out.trans (h3.mono (by have := HB1.out.size; omega))⟩
 clear h3
 go_wp2_with fail
 go_ret2
 exact ⟨rfl, HB3.out⟩
end spok
end Go.Proofs.YtlcafjdehcddcaaGreatDoor
