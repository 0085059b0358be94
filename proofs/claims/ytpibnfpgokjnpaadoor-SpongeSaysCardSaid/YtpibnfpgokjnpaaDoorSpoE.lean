/-
  What absorb of the sponge does: a string's bytes are absorbed by a sponge in memory. Conditions: the state has 25 words of 64 bits, the sponge is valid and not squeezed, the tables have their size, and keccak's variable 'places' holds what the program's text lays there.
-/
import Derived.Test.YtpibnfpgokjnpaaDoorSpoD
namespace Go.Proofs.YtpibnfpgokjnpaaDoor.spoe
open Go Go.RowKit
open Go.Proofs.YtpibnfpgokjnpaaDoor.arr Go.Proofs.YtpibnfpgokjnpaaDoor.mem Go.Proofs.YtpibnfpgokjnpaaDoor.kecm Go.Proofs.YtpibnfpgokjnpaaDoor.kecb Go.Proofs.YtpibnfpgokjnpaaDoor.kstep Go.Proofs.YtpibnfpgokjnpaaDoor.kturn Go.Proofs.YtpibnfpgokjnpaaDoor.spgm Go.Proofs.YtpibnfpgokjnpaaDoor.spmx Go.Proofs.YtpibnfpgokjnpaaDoor.rspa Go.Proofs.YtpibnfpgokjnpaaDoor.rspc Go.Proofs.YtpibnfpgokjnpaaDoor.rspd Go.Proofs.YtpibnfpgokjnpaaDoor.spoa Go.Proofs.YtpibnfpgokjnpaaDoor.spob Go.Proofs.YtpibnfpgokjnpaaDoor.spoc Go.Proofs.YtpibnfpgokjnpaaDoor.spod

/-- what traitsOf returns of a kind with this rate -/
theorem traits_is (k : Int) (r : Nat) (hr : rate k = r) : ∃ f z : Nat, ∀ w1 : World, Calls Tryd.prog 33 #[.int .i64 k] w1 fun e w' => e = .returned (.agg #[.int .i64 (r : Int), .int .u8 (f : Int), .int .i64 (z : Int)]) ∧ Below w1.heap.size w1 w' :=
  ⟨fin k, spoa.size k, fun w1 => by have h := traits_any k w1; unfold tr at h; rw [hr] at h; exact h⟩
theorem field0 (r f z : Int) (w : World) : (Instr.field 69 (.agg #[.int .i64 r, .int .u8 f, .int .i64 z]) 0).run Tryd.prog w = .ok (.int .i64 r) w := by kernel_rfl
theorem abs_two (P : List Nat → List Nat) (r : Nat) (l : List Nat) (p : Nat) (s : ByteArray) (n : Nat) : abs P r ⟨l, p⟩ (bys s) = abs P r (abs P r ⟨l, p⟩ (bys (s.extract 0 n))) (bys (s.extract n s.size)) := by
  rw [← abs_append, bys_head, bys_tail, List.take_append_drop]
set_option maxRecDepth 100000 in
set_option maxHeartbeats 2000000 in
theorem absorb_any {T : Array Value} {ts rs : List Nat} (gt gs : Nat) (k : Int) (p0 : Nat) (l : List Nat) (b : ByteArray) (w : World) (h : St l) (hK : KT T ts rs) (hP : Gp w) (hT : w.heap[gt]? = some (.cells T 36 (0, 0))) (hne : gt ≠ gs) (hgp : gs ≠ 0) (hp : p0 < rate k) (hb : b.size ≤ 1125899906842624)
    (hrow : w.heap[gs]? = some (.cells (SC k l (p0 : Int) false) 25 (0, 0))) :
    Calls Tryd.prog 27 #[.pointer (some ⟨gt, 0, none⟩), .pointer (some ⟨gs, 0, none⟩), .string b] w fun e w' => e = .returned (.tuple #[]) ∧ At gs (SC k (abs (PP ts rs) (rate k) ⟨l, p0⟩ (bys b)).l ((abs (PP ts rs) (rate k) ⟨l, p0⟩ (bys b)).at' : Nat) false) 25 w w' := by
  have hr168 := rate_le k
  obtain ⟨r, hr⟩ : ∃ r, rate k = r := ⟨_, rfl⟩
  obtain ⟨f, z, hTr⟩ := traits_is k r hr
  rw [hr] at hp hr168 ⊢
  obtain ⟨E, HE⟩ := ex_eq (abs (PP ts rs) r ⟨l, p0⟩ (bys b))
  rw [HE.out]
  have HTr := Away.mk hTr
  have hfd := field0 (r : Int) (f : Int) (z : Int)
  have H := Away.mk h
  have HK := Away.mk hK
  have HP := Away.mk hP
  have HT := Away.mk hT
  have HR := Away.mk hrow
  have Hp := Away.mk hp
  have hgt := lt_of_row hT
  have hgs := lt_of_row hrow
  have c0 : w.cell? ⟨gs, 0, none⟩ = some (.int .i64 k) := cell_at hrow (sc_kind k l _ _)
  clear h hK hP hT hrow hTr hr
  go_enter Tryd.func27, Tryd.ntmps27
  go_wp2_with fail
  refine (HTr.out _).mono ?_
  rintro e w1 ⟨rfl, hb1⟩
  have A00 : Away (At gs (SC k l (p0 : Int) false) 25 w w1) := ⟨(At.refl HR.out).later hb1⟩
  clear hb1 c0 HTr HR
  go_wp2_with fail
  clear hfd
  go_loopw [2] (fun x wr => ∃ (s : ByteArray) (l' : List Nat) (p : Nat), x = .string s ∧ s.size ≤ b.size ∧ p < r ∧ Away (abs (PP ts rs) r ⟨l', p⟩ (bys s) = E) ∧ Away (St l') ∧ Away (At gs (SC k l' (p : Int) false) 25 w wr)) (fun x _ => match x with | .string s => s.size | _ => 0)
  case atStart => exact ⟨b, l, p0, rfl, Nat.le_refl _, Hp.out, HE, H, A00⟩
  case round =>
    clear A00 H HE
    obtain ⟨s, l', p, rfl, hs, hp', HE, H, A0⟩ := hrel
    by_cases hc : 0 < s.size
    · have hcz : (0 : Int) < (s.size : Int) := by omega
      have cp : wr.cell? ⟨gs, 26, none⟩ = some (.int .i64 (p : Int)) := cell_at A0.out.row (sc_at k _ false H.out.len)
      obtain ⟨d, hd⟩ : ∃ d, r - p = d := ⟨_, rfl⟩
      have fd : (r : Int) - (p : Int) = (d : Int) := by omega
      have fdw : IntKind.i64.wrap ((r : Int) - (p : Int)) = (d : Int) := by rw [fd, IntKind.wrap_i64]; omega
      have hd2 : p + d = r := by omega
      have hs50 : s.size ≤ 1125899906842624 := by omega
      clear hd
      rcases Nat.lt_trichotomy s.size d with hlt | heq | hgt2
      · have hN : s.size ≤ s.size := by omega
        have hN2 : p + s.size ≤ r := by omega
        have HM : Away (∀ w2 : World, w2.heap = wr.heap → Calls Tryd.prog 43 #[.pointer (some ⟨gs, 1, none⟩), .int .i64 (p : Int), .string (s.extract 0 (s.size))] w2 fun e w' => e = .returned (.tuple #[]) ∧ At gs (SC k (xbs l' p (bys (s.extract 0 (s.size)))) (p : Int) false) 25 w2 w') :=
          ⟨fun w2 hw2 => mix_any gs k (p : Int) false l' 25 p (s.extract 0 (s.size)) w2 H.out (by rw [ByteArray.size_extract]; omega) (by rw [hw2]; exact A0.out.row)⟩
        have HX : Away (St (xbs l' p (bys (s.extract 0 (s.size))))) := ⟨xbs_st _ H.out p⟩
        have HT2 := abs_two (PP ts rs) r l' p s (s.size)
        rw [HE.out] at HT2
        have hz3 : (s.extract s.size s.size).size = s.size - (s.size) := by rw [ByteArray.size_extract]; omega
        have hl2 : (bys (s.extract 0 (s.size))).length = s.size := by rw [bys_length, ByteArray.size_extract]; omega
        obtain ⟨m2, Hm2⟩ := ex_eq (s.extract 0 (s.size))
        have e2 := Hm2.out
        have e3 : s.extract s.size s.size = ByteArray.empty := by simp
        rw [e2] at HM HX HT2 hl2
        rw [e3] at hz3 HT2
        rw [abs_lt (PP ts rs) r (bys m2) l' p (by omega), hl2] at HT2
        obtain ⟨xl, Hxl⟩ := ex_eq (xbs l' p (bys m2))
        rw [Hxl.out] at HM HX HT2
        have HT2 := Away.mk HT2.symm
        have hpr : ((p : Int) + ((s.size : Nat) : Int) == (r : Int)) = false := beq_eq_false_iff_ne.2 (by omega)
        clear hl2 Hxl
        go_wp2_with fail
        refine still_tail 10 (by kernel_rfl) (by kernel_rfl) ?_
        simp only [List.take_succ_cons, List.take_zero, List.drop_succ_cons, List.drop_zero]
        repeat still_step
        refine wpStill_nil ?_
        go_wp2_with fail
        refine (HM.out wr.drew rfl).mono ?_
        rintro e w2 ⟨rfl, h2⟩
        have A1 : Away (At gs (SC k xl (p : Int) false) 25 w w2) := ⟨A0.out.trans (b := wr) ⟨h2.os, h2.tape, h2.output, h2.size, h2.row, h2.block⟩⟩
        have cp1 : w2.cell? ⟨gs, 26, none⟩ = some (.int .i64 (p : Int)) := cell_at A1.out.row (sc_at k _ false HX.out.len)
        clear h2 cp HM
        go_wp2_with ((with_reducible refine wpList_put2 A1 rfl _ _ _ rfl rfl ?_); refine ⟨_, _, _, rfl, rfl, rfl, (by rw [sc_size k _ false HX.out.len]; decide), ?_⟩; intro w5 HR2; rw [sc_seta k _ _ false HX.out.len] at HR2; have cp2 : w5.cell? ⟨gs, 26, none⟩ = some (.int .i64 ((p : Int) + ((s.size : Nat) : Int))) := cell_at HR2.out.row (sc_at k _ false HX.out.len))
        go_roundw
        case rel => exact ⟨ByteArray.empty, _, p + (s.size), rfl, Nat.zero_le _, by omega, HT2, HX, HR2⟩
        case measure => simp; omega
      · subst heq
        have hN : s.size ≤ s.size := by omega
        have hN2 : p + s.size ≤ r := by omega
        have HM : Away (∀ w2 : World, w2.heap = wr.heap → Calls Tryd.prog 43 #[.pointer (some ⟨gs, 1, none⟩), .int .i64 (p : Int), .string (s.extract 0 (s.size))] w2 fun e w' => e = .returned (.tuple #[]) ∧ At gs (SC k (xbs l' p (bys (s.extract 0 (s.size)))) (p : Int) false) 25 w2 w') :=
          ⟨fun w2 hw2 => mix_any gs k (p : Int) false l' 25 p (s.extract 0 (s.size)) w2 H.out (by rw [ByteArray.size_extract]; omega) (by rw [hw2]; exact A0.out.row)⟩
        have HX : Away (St (xbs l' p (bys (s.extract 0 (s.size))))) := ⟨xbs_st _ H.out p⟩
        have HT2 := abs_two (PP ts rs) r l' p s (s.size)
        rw [HE.out] at HT2
        have hz3 : (s.extract s.size s.size).size = s.size - (s.size) := by rw [ByteArray.size_extract]; omega
        have hl2 : (bys (s.extract 0 (s.size))).length = s.size := by rw [bys_length, ByteArray.size_extract]; omega
        obtain ⟨m2, Hm2⟩ := ex_eq (s.extract 0 (s.size))
        have e2 := Hm2.out
        have e3 : s.extract s.size s.size = ByteArray.empty := by simp
        rw [e2] at HM HX HT2 hl2
        rw [e3] at hz3 HT2
        rw [abs_eq (PP ts rs) r (bys m2) l' p (fun h9 => by rw [h9] at hl2; simp at hl2; omega) (by omega)] at HT2
        obtain ⟨xl, Hxl⟩ := ex_eq (xbs l' p (bys m2))
        rw [Hxl.out] at HM HX HT2
        have HT2 := Away.mk HT2.symm
        have hpr : (p : Int) + ((s.size : Nat) : Int) = (r : Int) := by omega
        clear hl2 Hxl
        go_wp2_with fail
        refine still_tail 10 (by kernel_rfl) (by kernel_rfl) ?_
        simp only [List.take_succ_cons, List.take_zero, List.drop_succ_cons, List.drop_zero]
        repeat still_step
        refine wpStill_nil ?_
        go_wp2_with fail
        refine (HM.out wr.drew rfl).mono ?_
        rintro e w2 ⟨rfl, h2⟩
        have A1 : Away (At gs (SC k xl (p : Int) false) 25 w w2) := ⟨A0.out.trans (b := wr) ⟨h2.os, h2.tape, h2.output, h2.size, h2.row, h2.block⟩⟩
        have cp1 : w2.cell? ⟨gs, 26, none⟩ = some (.int .i64 (p : Int)) := cell_at A1.out.row (sc_at k _ false HX.out.len)
        clear h2 cp HM
        go_wp2_with ((with_reducible refine wpList_put2 A1 rfl _ _ _ rfl rfl ?_); refine ⟨_, _, _, rfl, rfl, rfl, (by rw [sc_size k _ false HX.out.len]; decide), ?_⟩; intro w5 HR2; rw [sc_seta k _ _ false HX.out.len] at HR2; have cp2 : w5.cell? ⟨gs, 26, none⟩ = some (.int .i64 (r : Int)) := cell_at HR2.out.row (sc_at k _ false HX.out.len))
        refine (next_any gt gs k (r : Int) false xl w5 HX.out HK.out (Gp.at HP.out HR2.out hgp) (HR2.out.other hgt hne HT.out) HR2.out.row).mono ?_
        rintro e w6 ⟨rfl, h6⟩
        have A2 : Away (At gs (SC k (PP ts rs xl) ((0 : Nat) : Int) false) 25 w w6) := ⟨HR2.out.trans h6⟩
        clear h6 cp2 cp1 A1
        go_wp2_with fail
        go_roundw
        case rel => exact ⟨ByteArray.empty, _, 0, rfl, Nat.zero_le _, by omega, HT2, ⟨pp_st HK.out.br HX.out⟩, A2⟩
        case measure => simp; omega
      · have hN : d ≤ s.size := by omega
        have hN2 : p + d ≤ r := by omega
        have HM : Away (∀ w2 : World, w2.heap = wr.heap → Calls Tryd.prog 43 #[.pointer (some ⟨gs, 1, none⟩), .int .i64 (p : Int), .string (s.extract 0 (d))] w2 fun e w' => e = .returned (.tuple #[]) ∧ At gs (SC k (xbs l' p (bys (s.extract 0 (d)))) (p : Int) false) 25 w2 w') :=
          ⟨fun w2 hw2 => mix_any gs k (p : Int) false l' 25 p (s.extract 0 (d)) w2 H.out (by rw [ByteArray.size_extract]; omega) (by rw [hw2]; exact A0.out.row)⟩
        have HX : Away (St (xbs l' p (bys (s.extract 0 (d))))) := ⟨xbs_st _ H.out p⟩
        have HT2 := abs_two (PP ts rs) r l' p s (d)
        rw [HE.out] at HT2
        have hz3 : (s.extract (d) s.size).size = s.size - (d) := by rw [ByteArray.size_extract]; omega
        have hl2 : (bys (s.extract 0 (d))).length = d := by rw [bys_length, ByteArray.size_extract]; omega
        obtain ⟨m2, Hm2⟩ := ex_eq (s.extract 0 (d))
        obtain ⟨s3, Hs3⟩ := ex_eq (s.extract (d) s.size)
        have e2 := Hm2.out
        have e3 := Hs3.out
        rw [e2] at HM HX HT2 hl2
        rw [e3] at hz3 HT2
        rw [abs_eq (PP ts rs) r (bys m2) l' p (fun h9 => by rw [h9] at hl2; simp at hl2; omega) (by omega)] at HT2
        obtain ⟨xl, Hxl⟩ := ex_eq (xbs l' p (bys m2))
        rw [Hxl.out] at HM HX HT2
        have HT2 := Away.mk HT2.symm
        have hpr : (p : Int) + ((d : Nat) : Int) = (r : Int) := by omega
        clear hl2 Hxl
        go_wp2_with fail
        refine still_tail 10 (by kernel_rfl) (by kernel_rfl) ?_
        simp only [List.take_succ_cons, List.take_zero, List.drop_succ_cons, List.drop_zero]
        repeat still_step
        refine wpStill_nil ?_
        go_wp2_with fail
        refine (HM.out wr.drew rfl).mono ?_
        rintro e w2 ⟨rfl, h2⟩
        have A1 : Away (At gs (SC k xl (p : Int) false) 25 w w2) := ⟨A0.out.trans (b := wr) ⟨h2.os, h2.tape, h2.output, h2.size, h2.row, h2.block⟩⟩
        have cp1 : w2.cell? ⟨gs, 26, none⟩ = some (.int .i64 (p : Int)) := cell_at A1.out.row (sc_at k _ false HX.out.len)
        clear h2 cp HM
        go_wp2_with ((with_reducible refine wpList_put2 A1 rfl _ _ _ rfl rfl ?_); refine ⟨_, _, _, rfl, rfl, rfl, (by rw [sc_size k _ false HX.out.len]; decide), ?_⟩; intro w5 HR2; rw [sc_seta k _ _ false HX.out.len] at HR2; have cp2 : w5.cell? ⟨gs, 26, none⟩ = some (.int .i64 (r : Int)) := cell_at HR2.out.row (sc_at k _ false HX.out.len))
        refine (next_any gt gs k (r : Int) false xl w5 HX.out HK.out (Gp.at HP.out HR2.out hgp) (HR2.out.other hgt hne HT.out) HR2.out.row).mono ?_
        rintro e w6 ⟨rfl, h6⟩
        have A2 : Away (At gs (SC k (PP ts rs xl) ((0 : Nat) : Int) false) 25 w w6) := ⟨HR2.out.trans h6⟩
        clear h6 cp2 cp1 A1
        go_wp2_with fail
        go_roundw
        case rel => exact ⟨s3, _, 0, rfl, by omega, by omega, HT2, ⟨pp_st HK.out.br HX.out⟩, A2⟩
        case measure => simp only; omega
    · have hs0 : s.size = 0 := by omega
      have HF : Away ((⟨l', p⟩ : Sp) = E) := ⟨by
        have h9 := HE.out
        rw [List.eq_nil_of_length_eq_zero (show (bys s).length = 0 by rw [bys_length]; exact hs0)] at h9
        exact h9⟩
      have A1 : Away (At gs (SC k E.l (E.at' : Int) false) 25 w wr) := ⟨by rw [← HF.out]; exact A0.out⟩
      clear A0 HF HE
      go_wp2_with fail
      go_end0
      exact ⟨rfl, A1.out⟩
end Go.Proofs.YtpibnfpgokjnpaaDoor.spoe
