/-
  What the document's own Unhints of layer 10 returns. Conditions: none.
-/
import Derived.Test.YtdlolhilmhlklaaDoorBiD
namespace Go.Proofs.YtdlolhilmhlklaaDoor.rbitu
open Go Go.RowKit
open Go.Proofs.YtdlolhilmhlklaaDoor.arr Go.Proofs.YtdlolhilmhlklaaDoor.mem Go.Proofs.YtdlolhilmhlklaaDoor.qops Go.Proofs.YtdlolhilmhlklaaDoor.stil Go.Proofs.YtdlolhilmhlklaaDoor.bitm Go.Proofs.YtdlolhilmhlklaaDoor.polys Go.Proofs.YtdlolhilmhlklaaDoor.fldm Go.Proofs.YtdlolhilmhlklaaDoor.rbita Go.Proofs.YtdlolhilmhlklaaDoor.rbitb Go.Proofs.YtdlolhilmhlklaaDoor.rbitc Go.Proofs.YtdlolhilmhlklaaDoor.rbitd Go.Proofs.YtdlolhilmhlklaaDoor.rbite
set_option maxRecDepth 100000 in
set_option maxHeartbeats 4000000 in
theorem unhints_any (s : ByteArray) (m om : Nat) (w : World) (hm1 : 1 ≤ m) (hm8 : m ≤ 8) (ho1 : 1 ≤ om) (ho2 : om ≤ 255) (hs : s.size = om + m) :
    Calls Tryd.prog 11 #[.string s, .int .i64 (om : Int), .int .i64 (m : Int)] w fun e w' => ((uok (fun j => (bys s).getD j 0) om m ∧ ∃ v, e = .returned (.tuple #[v, .int .i64 0]) ∧ w'.ownsRow w.heap.size 25 256 v m (cl (fun j => (bys s).getD j 0) om m)) ∨ (¬ uok (fun j => (bys s).getD j 0) om m ∧ e = .returned (.tuple #[.slice none 0 0, .int .i64 3]))) ∧ Below w.heap.size w w' := by
  obtain ⟨i0, hi, hz0, hz1, hz2⟩ := parts infoPoly
  obtain ⟨hz, hsize⟩ := zero_of_info infoP
  obtain ⟨β, Hβ⟩ := ex_eq (fun j => (bys s).getD j 0)
  rw [Hβ.out]
  have Hix : Away (∀ j, j < om + m → ∀ w1 : World, (Instr.index 9 (.string s) (.int .i64 (j : Int))).run Tryd.prog w1 = .ok (.int .u8 ((β j : Nat) : Int)) w1) := ⟨fun j hj w1 => byte_of s j _ (by omega) (by rw [← Hβ.out]) w1⟩
  have Hb8 : Away (∀ j, β j < 256) := ⟨fun j => by
    rw [← Hβ.out]
    show (bys s).getD j 0 < 256
    by_cases hj : j < (bys s).length
    · rw [List.getD_eq_getElem?_getD, List.getElem?_eq_getElem hj]
      exact bys_lt s _ (List.getElem_mem _)
    · rw [List.getD_eq_getElem?_getD, List.getElem?_eq_none (by omega)]
      decide⟩
  obtain ⟨z, HZ⟩ := ex_eq (FL .i64 256 fun _ => 0)
  rw [HZ.out] at hz hz0
  have HI := Away.mk (And.intro hi (And.intro hz0 (And.intro hz1 hz2)))
  have Hzs : Away (z.size = 256) := ⟨by rw [← HZ.out]; exact fl_size _ _ _⟩
  obtain ⟨M, hM⟩ : ∃ M, om + m = M := ⟨_, rfl⟩
  have fM : (om : Int) + (m : Int) = (M : Int) := by omega
  have fMw : IntKind.i64.wrap ((om : Int) + (m : Int)) = (M : Int) := by rw [fM, IntKind.wrap_i64]; omega
  obtain ⟨q, hq⟩ := ex_eq s.size
  have fne : ((s.size : Int) != (M : Int)) = false := by rw [show (s.size : Int) = (M : Int) by omega]; simp
  have g1 : ¬ (om : Int) < 1 := by omega
  have g2 : ¬ (255 : Int) < (om : Int) := by omega
  have g3 : ¬ (m : Int) < 1 := by omega
  have g4 : ¬ (8 : Int) < (m : Int) := by omega
  clear hi hz0 hz1 hz2 hM hs
  go_enter Tryd.func11, Tryd.ntmps11
  go_wp2_with fail
  clear fM fMw fne
  go_loopw [38, 8, 9] (fun v sl c wr => ∃ i : Nat, i ≤ m ∧ v = .int .i64 (i : Int) ∧ c = .int .i64 ((fr β om i : Nat) : Int) ∧ fr β om i ≤ om ∧ Away (∀ j, j < i → one β om j) ∧ Away (wr.ownsRow w.heap.size 25 256 sl i (cl β om i)) ∧ Away (Below w.heap.size w wr)) (fun v _ _ _ => m - (intOf v).toNat)
  case atStart => exact ⟨0, Nat.zero_le _, rfl, rfl, Nat.zero_le _, ⟨fun j hj => by omega⟩, ⟨⟨rfl, Or.inl ⟨rfl, rfl⟩⟩⟩, ⟨Below.refl _ _⟩⟩
  case round =>
    rename World => wo
    obtain ⟨i, hi, rfl, rfl, hno, Hall, Ho, Hb⟩ := hrel
    by_cases hlt : i < m
    · have hiz : (i : Int) < (m : Int) := by omega
      have Hi := Away.mk hlt
      obtain ⟨n, hn⟩ : ∃ n, fr β om i = n := ⟨_, rfl⟩
      obtain ⟨to, hto⟩ : ∃ to, β (om + i) = to := ⟨_, rfl⟩
      have hto2 : fr β om (i + 1) = to := hto
      have hto8 : to < 256 := by rw [← hto]; exact Hb8.out _
      have hidx0 := Hix.out (om + i) (by omega)
      obtain ⟨oi, hoi⟩ : ∃ oi, om + i = oi := ⟨_, rfl⟩
      rw [hto, hoi] at hidx0
      rw [hn] at hno ⊢
      have foi : (om : Int) + (i : Int) = (oi : Int) := by omega
      have foiw : IntKind.i64.wrap ((om : Int) + (i : Int)) = (oi : Int) := by rw [foi, IntKind.wrap_i64]; omega
      have fto : IntKind.i64.wrap (to : Int) = (to : Int) := by rw [IntKind.wrap_i64]; omega
      obtain ⟨W4, hW4⟩ : ∃ x, wo.alloc (.cells z 25) = x := ⟨_, rfl⟩
      have HW4 := Away.mk hW4
      have r4 : Away (W4.heap[wo.heap.size]? = some (.cells z 25 (0, 0))) := ⟨by rw [← hW4]; exact heap_at _ _ _ rfl⟩
      have A4 : Away (At wo.heap.size (FL .i64 256 (mk β n 0)) 25 W4 W4) := ⟨by rw [mk, HZ.out]; exact At.refl r4.out⟩
      have B4 : Away (Below wo.heap.size wo W4) := ⟨by rw [← hW4]; exact below_alloc _ _⟩
      have Hn := Away.mk hn
      have Hto := Away.mk hto2
      clear hn hto hto2 hoi hW4
      by_cases hbad : to < n ∨ om < to
      · have hno2 : Away (¬ uok β om m) := ⟨fun h => by have h1 := (h.1 i Hi.out).1; have h2 := (h.1 i Hi.out).2.1; rw [Hn.out, Hto.out] at h1; rw [Hto.out] at h2; omega⟩
        have BE : Away (Below w.heap.size w W4) := ⟨Hb.out.trans (B4.out.mono Hb.out.size)⟩
        have hbad : ((to : Int) < (n : Int)) ∨ (¬ (to : Int) < (n : Int) ∧ (om : Int) < (to : Int)) := by omega
        rcases hbad with h1 | ⟨h1, h2⟩
        · go_wp2_with (rw [HW4.out])
          go_ret2
          exact ⟨Or.inr ⟨hno2.out, rfl⟩, BE.out⟩
        · go_wp2_with (rw [HW4.out])
          go_ret2
          exact ⟨Or.inr ⟨hno2.out, rfl⟩, BE.out⟩
      · have h1 : ¬ (to : Int) < (n : Int) := by omega
        have h2 : ¬ (om : Int) < (to : Int) := by omega
        have hnt : n ≤ to := by omega
        have hto3 : to ≤ om := by omega
        clear hbad
        go_wp2_with (rw [HW4.out])
        clear hidx0 foi foiw fto
        go_loopw [13] (fun v wr => ∃ t : Nat, n + t ≤ to ∧ v = .int .i64 ((n + t : Nat) : Int) ∧ Away (∀ k, n < k → k < n + t → β (k - 1) < β k) ∧ Away (At wo.heap.size (FL .i64 256 (mk β n t)) 25 W4 wr)) (fun v _ => to - (intOf v).toNat)
        case atStart => exact ⟨0, by omega, rfl, ⟨fun k h1 h2 => by omega⟩, A4⟩
        case round =>
          clear A4
          obtain ⟨t, hk, rfl, Hin, A0⟩ := hrel
          obtain ⟨k, hkk⟩ : ∃ k, n + t = k := ⟨_, rfl⟩
          rw [hkk] at hk ⊢
          have BE : Away (Below w.heap.size w wr) := ⟨Hb.out.trans ((B4.out.trans (A0.out.below B4.out.size (Nat.le_refl _))).mono Hb.out.size)⟩
          by_cases hklt : k < to
          · have hkz : (k : Int) < (to : Int) := by omega
            have hidx := Hix.out k (by omega)
            have hb8 := Hb8.out k
            have hbu : Away (upd (mk β n t) (β k) 1 = mk β n (t + 1)) := ⟨by rw [mk, hkk]⟩
            have Hk := Away.mk hkk
            by_cases ht : n < k
            · have hidx1 := Hix.out (k - 1) (by omega)
              have ha8 := Hb8.out (k - 1)
              have Hstep : Away (β (k - 1) < β k → ∀ k', n < k' → k' < k + 1 → β (k' - 1) < β k') := ⟨fun h k' h1 h2 => by
                by_cases e : k' = k
                · subst e; exact h
                · exact Hin.out k' h1 (by rw [hkk]; omega)⟩
              have Hno : Away (β k ≤ β (k - 1) → ¬ uok β om m) := ⟨fun h hu => by
                have h1 := (hu.1 i Hi.out).2.2 k (by rw [Hn.out]; exact ht) (by rw [Hto.out]; omega)
                omega⟩
              obtain ⟨b, hb⟩ : ∃ b, β k = b := ⟨_, rfl⟩
              obtain ⟨a, ha⟩ : ∃ a, β (k - 1) = a := ⟨_, rfl⟩
              rw [hb] at hidx hb8 hbu Hstep Hno
              rw [ha] at hidx1 ha8 Hstep Hno
              obtain ⟨k1, hk1⟩ : ∃ k1, k - 1 = k1 := ⟨_, rfl⟩
              rw [hk1] at hidx1
              have fk1 : IntKind.i64.wrap ((k : Int) - 1) = (k1 : Int) := by rw [IntKind.wrap_i64]; omega
              have hd : decide (n < k) = true := decide_eq_true (by omega)
              by_cases hab : b ≤ a
              · have hge : decide (b ≤ a) = true := decide_eq_true (by omega)
                have hno2 := Away.mk (Hno.out hab)
                clear hkk hk1 ht hb ha hab
                go_wp2_with fail
                refine region_quiet_ops (by kernel_rfl) (by kernel_rfl) (fun ops HO => ?_)
                quiet_step (skip)
                quiet_step (skip)
                quiet_step (skip)
                quiet_step (skip)
                refine wpQuiet_want (by rw [← HO.out]; kernel_rfl) (fun K hK => ?_)
                go_simp
                refine hK _ ?_
                clear hK K
                refine wpQuiet_want (by rw [← HO.out]; kernel_rfl) (fun K hK => ?_)
                go_simp
                refine hK _ ?_
                clear hK K
                refine wpQuiet_want (by rw [← HO.out]; kernel_rfl) (fun K hK => ?_)
                go_simp
                refine hK _ ?_
                clear hK K
                refine wpQuiet_want (by rw [← HO.out]; kernel_rfl) (fun K hK => ?_)
                go_simp
                refine hK _ ?_
                clear hK K
                refine wpQuiet_want (by rw [← HO.out]; kernel_rfl) (fun K hK => ?_)
                go_simp
                refine hK _ ?_
                clear hK K
                refine wpQuiet_want (by rw [← HO.out]; kernel_rfl) (fun K hK => ?_)
                go_simp
                refine hK _ ?_
                clear hK K
                refine wpQuiet_want (by rw [← HO.out]; kernel_rfl) (fun K hK => ?_)
                go_simp
                refine hK _ ?_
                clear hK K
                refine wpQuiet_want (by rw [← HO.out]; kernel_rfl) (fun K hK => ?_)
                go_simp
                refine hK _ ?_
                clear hK K
                quiet_step (skip)
                refine wpQuiet_nil ?_
                intro w7 hC
                have BW7 : Away (Below w.heap.size w w7) := ⟨by obtain ⟨pp, rfl⟩ := hC; exact BE.out.trans ((below_regrown _ _ _).mono BE.out.size)⟩
                clear hC
                go_wp2_with fail
                go_ret2
                exact ⟨Or.inr ⟨hno2.out, rfl⟩, BW7.out⟩
              · have hge : decide (b ≤ a) = false := decide_eq_false (by omega)
                have Hin2 : Away (∀ k', n < k' → k' < n + (t + 1) → β (k' - 1) < β k') := ⟨fun k' h1 h2 => Hstep.out (by omega) k' h1 (by have := Hk.out; omega)⟩
                have hb256 : (b : Int) < 256 := by omega
                clear hkk hk1 ht hb ha hab
                go_wp2_with fail
                refine region_quiet_ops (by kernel_rfl) (by kernel_rfl) (fun ops HO => ?_)
                quiet_step (skip)
                quiet_step (skip)
                quiet_step (skip)
                quiet_step (skip)
                refine wpQuiet_want (by rw [← HO.out]; kernel_rfl) (fun K hK => ?_)
                go_simp
                refine hK _ ?_
                clear hK K
                refine wpQuiet_want (by rw [← HO.out]; kernel_rfl) (fun K hK => ?_)
                go_simp
                refine hK _ ?_
                clear hK K
                refine wpQuiet_want (by rw [← HO.out]; kernel_rfl) (fun K hK => ?_)
                go_simp
                refine hK _ ?_
                clear hK K
                refine wpQuiet_want (by rw [← HO.out]; kernel_rfl) (fun K hK => ?_)
                go_simp
                refine hK _ ?_
                clear hK K
                refine wpQuiet_want (by rw [← HO.out]; kernel_rfl) (fun K hK => ?_)
                go_simp
                refine hK _ ?_
                clear hK K
                refine wpQuiet_want (by rw [← HO.out]; kernel_rfl) (fun K hK => ?_)
                go_simp
                refine hK _ ?_
                clear hK K
                refine wpQuiet_want (by rw [← HO.out]; kernel_rfl) (fun K hK => ?_)
                go_simp
                refine hK _ ?_
                clear hK K
                refine wpQuiet_want (by rw [← HO.out]; kernel_rfl) (fun K hK => ?_)
                go_simp
                refine hK _ ?_
                clear hK K
                quiet_step (skip)
                refine wpQuiet_nil ?_
                intro w7 hC
                have A7 : Away (At wo.heap.size (FL .i64 256 (mk β n t)) 25 W4 w7) := ⟨by obtain ⟨pp, rfl⟩ := hC; exact A0.out.later (below_regrown _ _ _)⟩
                clear hC A0 BE
                go_wp2_with ((with_reducible refine wpList_put2 A7 rfl _ _ _ rfl rfl ?_); refine ⟨_, _, _, rfl, rfl, rfl, (by rw [fl_size]; exact hb8), ?_⟩; intro wn HRn; rw [fl_set, hbu.out] at HRn)
                go_roundw
                case rel => exact ⟨t + 1, by have := Hk.out; omega, by have := Hk.out; go_num, Hin2, HRn⟩
                case measure => simp [intOf]; omega
            · have hkn : k = n := by omega
              have ht0 : t = 0 := by omega
              obtain ⟨b, hb⟩ : ∃ b, β k = b := ⟨_, rfl⟩
              rw [hb] at hidx hb8 hbu
              have hb256 : (b : Int) < 256 := by omega
              have hd : decide (n < k) = false := decide_eq_false ht
              have Hin2 : Away (∀ k', n < k' → k' < n + (t + 1) → β (k' - 1) < β k') := ⟨fun k' h1 h2 => by omega⟩
              clear hkk ht hkn ht0 hb
              go_wp2_with fail
              refine region_quiet_ops (by kernel_rfl) (by kernel_rfl) (fun ops HO => ?_)
              quiet_step (skip)
              quiet_step (skip)
              quiet_step (skip)
              quiet_step (skip)
              refine wpQuiet_skip (by rw [← HO.out]; kernel_rfl) ?_
              refine wpQuiet_skip (by rw [← HO.out]; kernel_rfl) ?_
              refine wpQuiet_skip (by rw [← HO.out]; kernel_rfl) ?_
              refine wpQuiet_skip (by rw [← HO.out]; kernel_rfl) ?_
              refine wpQuiet_skip (by rw [← HO.out]; kernel_rfl) ?_
              refine wpQuiet_skip (by rw [← HO.out]; kernel_rfl) ?_
              refine wpQuiet_skip (by rw [← HO.out]; kernel_rfl) ?_
              refine wpQuiet_skip (by rw [← HO.out]; kernel_rfl) ?_
              quiet_step (skip)
              refine wpQuiet_nil ?_
              intro w7 hC
              have A7 : Away (At wo.heap.size (FL .i64 256 (mk β n t)) 25 W4 w7) := ⟨by obtain ⟨pp, rfl⟩ := hC; exact A0.out.later (below_regrown _ _ _)⟩
              clear hC A0 BE
              go_wp2_with ((with_reducible refine wpList_put2 A7 rfl _ _ _ rfl rfl ?_); refine ⟨_, _, _, rfl, rfl, rfl, (by rw [fl_size]; exact hb8), ?_⟩; intro wn HRn; rw [fl_set, hbu.out] at HRn)
              go_roundw
              case rel => exact ⟨t + 1, by have := Hk.out; omega, by have := Hk.out; go_num, Hin2, HRn⟩
              case measure => simp [intOf]; omega
          · obtain rfl : k = to := by omega
            have Hone : Away (one β om i) := ⟨by unfold one; rw [Hn.out, Hto.out]; exact ⟨hnt, hto3, fun k' h1 h2 => Hin.out k' h1 (by rw [hkk]; exact h2)⟩⟩
            have Hall2 : Away (∀ j, j < i + 1 → one β om j) := ⟨fun j hj => by
              by_cases e : j = i
              · subst e; exact Hone.out
              · exact Hall.out j (by omega)⟩
            have Hply : Away (mk β n t = ply β om i) := ⟨by unfold ply; rw [Hn.out, Hto.out, show k - n = t by omega]⟩
            rw [Hply.out] at A0
            have Ho2 : Away (wr.ownsRow w.heap.size 25 256 u8 i (cl β om i)) := ⟨own_later Ho.out (B4.out.trans (A0.out.below B4.out.size (Nat.le_refl _)))⟩
            have Fs : Away ((FL .i64 256 (ply β om i)).size = 256) := ⟨fl_size _ _ _⟩
            have Fo : Away ((FL .i64 256 (ply β om i)).all (·.oneCell') = true) := ⟨fl_one _ _ _⟩
            obtain ⟨F, HF⟩ := ex_eq (FL .i64 256 (ply β om i))
            rw [HF.out] at A0 Fs Fo
            have Hcl : Away (cl β om (i + 1) = cl β om i ++ F.toList) := ⟨by rw [cl, HF.out]⟩
            have Fi : Away ((Tryd.prog.info? 25).map (·.size) = some F.size) := ⟨by rw [Fs.out]; exact hsize⟩
            have rF := Away.mk A0.out.row
            have hws := BE.out.size
            clear A0 hkk hklt HF
            have Hzc : Away ((Value.agg z).cells.size = 256) := ⟨Hzs.out⟩
            have HF0 : Away (∀ cs : Array Value, cs.size = 256 → Instr.fill (fun i => some (i * i0.size, i0.size)) cs [(0, .agg F)] = some F) := ⟨fun cs hc => by rw [HI.out.2.2.1]; exact fill_one F cs Fs.out hc⟩
            go_wp2_with (refine wpList_load_row rfl 25 _ rfl wo.heap.size rfl 25 F (0, 0) _ rF.out Tryd.underlying25 rfl Fi.out ?_)
            refine wp_buildSlice 30 25 1 _ rfl F i0 (.agg z) Tryd.underlying30 HI.out.1 HI.out.2.1 (by rw [HI.out.2.2.1]; decide) (by rw [HI.out.2.2.1]; decide) ?hf ?_
            case hf =>
              go_simp
              exact ⟨⟨decide_eq_false (fun h => h (Fs.out.trans HI.out.2.2.1.symm)), by rw [Fs.out, HI.out.2.2.1]; exact Nat.le_refl _⟩, fold_one F _ Fs.out (by simp [HI.out.2.2.1])⟩
            go_wp2_with (at_builtin; refine wpList_append_own _ rfl _ _ 30 rfl w.heap.size 25 i0 (.agg z) 256 2048 Tryd.underlying30 HI.out.1 HI.out.2.1 HI.out.2.2.1 HI.out.2.2.2 Hzc.out (by decide) _ _ _ rfl (Ho2.out.alloc _) ⟨wr.heap.size, 0, none⟩ 1 1 F.toList rfl (by rw [Array.length_toList, Fs.out]) (fun j u hu => cell_at_new hu) (fun u hu => all_one Fo.out u hu) (by unfold maxLen; omega) (by omega) (by rw [size_alloc]; omega) ?_)
            intro v' w8 hown' hgrow _
            have hb8 : Below w.heap.size wr w8 := ((Below.refl w.heap.size wr).alloc hws _).grown hgrow (by rw [size_alloc]; omega) (fun k hk => (Ho2.out.lt k hk).1)
            have HB8 : Away (Below w.heap.size w w8) := ⟨BE.out.trans hb8⟩
            have OY : Away (w8.ownsRow w.heap.size 25 256 v' (i + 1) (cl β om (i + 1))) := ⟨by rw [Hcl.out]; exact hown'⟩
            clear hown' hgrow hb8
            go_wp2_with fail
            go_roundw
            case rel => exact ⟨i + 1, by have := Hi.out; omega, by go_num, by rw [Hto.out], by rw [Hto.out]; exact hto3, Hall2, OY, HB8⟩
            case measure => have := Hi.out; simp [intOf]; omega
    · obtain rfl : i = m := by omega
      obtain ⟨n, hn⟩ : ∃ n, fr β om i = n := ⟨_, rfl⟩
      rw [hn] at hno ⊢
      have Hn := Away.mk hn
      clear hn
      go_wp2_with fail
      go_loopw [14] (fun v wr => ∃ k : Nat, n ≤ k ∧ k ≤ om ∧ v = .int .i64 (k : Int) ∧ Away (∀ j, n ≤ j → j < k → β j = 0) ∧ wo = wr) (fun v _ => om - (intOf v).toNat)
      case atStart => exact ⟨n, Nat.le_refl _, hno, rfl, ⟨fun j h1 h2 => by omega⟩, rfl⟩
      case round =>
        obtain ⟨k, hk1, hk2, rfl, Hin, rfl⟩ := hrel
        by_cases hklt : k < om
        · have hkz : (k : Int) < (om : Int) := by omega
          have hidx := Hix.out k (by omega)
          by_cases hb : β k = 0
          · have Hin2 : Away (∀ j, n ≤ j → j < k + 1 → β j = 0) := ⟨fun j h1 h2 => by
              by_cases e : j = k
              · subst e; exact hb
              · exact Hin.out j h1 (by omega)⟩
            rw [hb] at hidx
            clear hb
            go_wp2_with fail
            go_roundw
            case rel => exact ⟨k + 1, by omega, by omega, by go_num, Hin2, trivial⟩
            case measure => simp [intOf]; omega
          · have hno2 : Away (¬ uok β om i) := ⟨fun h => hb (h.2 k (by rw [Hn.out]; exact hk1) hklt)⟩
            obtain ⟨b, hbb⟩ : ∃ b, β k = b := ⟨_, rfl⟩
            rw [hbb] at hidx hb
            have fb : ((b : Int) != 0) = true := by simp only [bne_iff_ne, ne_eq]; omega
            clear hbb
            go_wp2_with fail
            go_ret2
            exact ⟨Or.inr ⟨hno2.out, rfl⟩, Hb.out⟩
        · obtain rfl : k = om := by omega
          have hyes : Away (uok β k i) := ⟨Hall.out, fun j h1 h2 => Hin.out j (by rw [← Hn.out]; exact h1) h2⟩
          go_wp2_with fail
          go_ret2
          exact ⟨Or.inl ⟨hyes.out, _, rfl, Ho.out⟩, Hb.out⟩
end Go.Proofs.YtdlolhilmhlklaaDoor.rbitu
