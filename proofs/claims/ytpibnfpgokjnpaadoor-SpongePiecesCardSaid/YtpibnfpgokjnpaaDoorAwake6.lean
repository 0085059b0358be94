/-
  The law package's own look at the sponge ('awake') returns true. Conditions: keccak's variable 'places' holds what the program's text lays there.
-/
import Derived.Test.YtpibnfpgokjnpaaDoorSp3
import Derived.Test.YtpibnfpgokjnpaaDoorSpa
import Derived.Test.YtpibnfpgokjnpaaDoorKd
import Derived.Test.YtpibnfpgokjnpaaDoorTMc
namespace Go.Proofs.YtpibnfpgokjnpaaDoor.awake6
open Go Go.RowKit
open Go.Proofs.YtpibnfpgokjnpaaDoor.mem Go.Proofs.YtpibnfpgokjnpaaDoor.arr Go.Proofs.YtpibnfpgokjnpaaDoor.tabv Go.Proofs.YtpibnfpgokjnpaaDoor.built Go.Proofs.YtpibnfpgokjnpaaDoor.kecm Go.Proofs.YtpibnfpgokjnpaaDoor.kecb Go.Proofs.YtpibnfpgokjnpaaDoor.keca Go.Proofs.YtpibnfpgokjnpaaDoor.kturn Go.Proofs.YtpibnfpgokjnpaaDoor.kstep Go.Proofs.YtpibnfpgokjnpaaDoor.kfun Go.Proofs.YtpibnfpgokjnpaaDoor.spgm Go.Proofs.YtpibnfpgokjnpaaDoor.spmx Go.Proofs.YtpibnfpgokjnpaaDoor.spga Go.Proofs.YtpibnfpgokjnpaaDoor.rspa Go.Proofs.YtpibnfpgokjnpaaDoor.rspc Go.Proofs.YtpibnfpgokjnpaaDoor.rspd Go.Proofs.YtpibnfpgokjnpaaDoor.spoa Go.Proofs.YtpibnfpgokjnpaaDoor.spof Go.Proofs.YtpibnfpgokjnpaaDoor.spok

theorem out_small (k : Int) (r m n : Nat) (l p : List Nat) (hr : rate k = r) (hm : spgm.mark k = m) (hl : xb (xb Z 0 m) (r - 1) 128 = l) (hp : permL (fun i => TL.getD i 0) (fun i => RL.getD i 0) l 24 = p) (h0 : 0 < n) (hn : n ≤ r) : out TL RL k ⟨#[]⟩ n = ⟨(u8s (gbs p 0 n)).toArray⟩ := by
  have e : abs (PP TL RL) r ⟨Z, 0⟩ (bys ⟨#[]⟩) = ⟨Z, 0⟩ := rfl
  have e2 : pad r m ⟨Z, 0⟩ = ⟨l, r⟩ := by unfold pad; rw [hl]
  have e3 : tn (PP TL RL) r ⟨l, r⟩ = ⟨p, 0⟩ := by unfold tn; rw [if_pos rfl]; show (⟨PP TL RL l, 0⟩ : Sp) = _; unfold PP; rw [hp]
  unfold out
  rw [hr, hm, e, e2, (round_is (PP TL RL) r ⟨l, r⟩ p 0 n (by omega) e3 h0 (by omega)).2]
theorem look_a : ∃ A : ByteArray, out TL RL 3 ⟨#[]⟩ 32 = A ∧ A.size = 32 ∧ A.extract 0 4 = ⟨#[167, 255, 198, 248]⟩ := ⟨_, out_small 3 136 6 32 _ _ rfl rfl (by decide +kernel) perm_a (by decide) (by decide), by decide +kernel, by decide +kernel⟩
theorem look_b : out TL RL 1 ⟨#[]⟩ 4 = ⟨#[127, 156, 43, 164]⟩ := (out_small 1 168 31 4 _ _ rfl rfl (by decide +kernel) perm_b (by decide) (by decide)).trans (by decide +kernel)
theorem look_c : out TL RL 2 ⟨#[]⟩ 4 = ⟨#[70, 185, 221, 43]⟩ := (out_small 2 136 31 4 _ _ rfl rfl (by decide +kernel) perm_c (by decide) (by decide)).trans (by decide +kernel)

set_option maxRecDepth 100000 in
set_option maxHeartbeats 2000000 in
theorem awake_any (w : World) (hP : Gp w) :
    Calls Tryd.prog 6 #[] w fun e w' => e = .returned (.bool true) ∧ Below w.heap.size w w' := by
  have HP := Away.mk hP
  obtain ⟨hz, hsize⟩ := zero_of_info infoT
  obtain ⟨Zt, HZ⟩ := ex_eq TZ
  rw [HZ.out] at hz
  have HZs : Away (Zt.size = 465) := ⟨by rw [← HZ.out]; exact tz_size⟩
  have Hsize := Away.mk hsize
  clear hsize hP
  have hkt := kecd.kt_doc
  obtain ⟨T, HT⟩ := ex_eq TA
  rw [HT.out] at hkt
  have HTs : Away (T.size = 465) := ⟨by rw [← HT.out]; exact ta_size⟩
  have HTo : Away (T.all (·.oneCell') = true) := ⟨by rw [← HT.out]; exact ta_one⟩
  have HK := Away.mk hkt
  clear hkt
  obtain ⟨A, ha, hA1, hA2⟩ := look_a
  have HA1 := Away.mk hA1
  have HA2 := Away.mk hA2
  have H1 : Away (∀ w1 : World, Gp w1 → Calls Tryd.prog 14 #[.agg T, .int .i64 3, .string ⟨#[]⟩] w1 fun e w' => e = .returned (.tuple #[.string A, .int .i64 0]) ∧ Below w1.heap.size w1 w') := ⟨fun w1 h => by rw [← ha]; exact spok.sha3_go 3 ⟨#[]⟩ w1 HK.out h (by decide) (by decide) (by decide) (by decide)⟩
  have H2 : Away (∀ w1 : World, Gp w1 → Calls Tryd.prog 12 #[.agg T, .int .i64 1, .string ⟨#[]⟩, .int .i64 4] w1 fun e w' => e = .returned (.tuple #[.string ⟨#[127, 156, 43, 164]⟩, .int .i64 0]) ∧ Below w1.heap.size w1 w') := ⟨fun w1 h => by rw [← look_b]; exact spok.shake_go 1 ⟨#[]⟩ 4 w1 HK.out h (by decide) (by decide) (by decide) (by decide)⟩
  have H3 : Away (∀ w1 : World, Gp w1 → Calls Tryd.prog 12 #[.agg T, .int .i64 2, .string ⟨#[]⟩, .int .i64 4] w1 fun e w' => e = .returned (.tuple #[.string ⟨#[70, 185, 221, 43]⟩, .int .i64 0]) ∧ Below w1.heap.size w1 w') := ⟨fun w1 h => by rw [← look_c]; exact spok.shake_go 2 ⟨#[]⟩ 4 w1 HK.out h (by decide) (by decide) (by decide) (by decide)⟩
  have H4 : Away (∀ w1 : World, Calls Tryd.prog 16 #[.int .i64 9] w1 fun e w' => e = .returned (.tuple #[.agg (SC 0 Z 0 false), .int .i64 1]) ∧ Below w1.heap.size w1 w') := ⟨fun w1 => spoi.new_bad 9 w1 (by decide)⟩
  have Hmk : Away (∀ w1 : World, Calls Tryd.prog 20 #[] w1 fun e w' => e = .returned (.agg T) ∧ Below w1.heap.size w1 w') := ⟨fun w1 => by rw [← HT.out]; exact make.make_any w1⟩
  have HTz : Away ((Tryd.prog.info? 36).map (·.size) = some T.size) := ⟨by rw [HTs.out]; exact Hsize.out⟩
  obtain ⟨F, HF⟩ := ex_eq (SC 0 Z 0 false)
  have Fi : Away ((Tryd.prog.info? 25).map (·.size) = some F.size) := ⟨by rw [← HF.out]; exact sc_info _ _ _ z_len⟩
  have Fo : Away (F.all (·.oneCell') = true) := ⟨by rw [← HF.out]; exact sc_one _ _ _ _⟩
  have Fz : Away (28 = F.size) := ⟨by rw [← HF.out, sc_size _ _ _ z_len]⟩
  rw [HF.out] at H4
  clear ha HT HZ hA1 hA2 HF
  go_enter Tryd.func6, Tryd.ntmps6
  go_wp2_with fail
  refine (Hmk.out _).mono ?_
  rintro e w1 ⟨rfl, hb1⟩
  obtain ⟨W, hW⟩ : ∃ W, w1.alloc (.cells T 36) = W := ⟨_, rfl⟩
  have HW := Away.mk hW
  have Hg : Away (W.heap[w1.heap.size]? = some (.cells T 36 (0, 0))) := ⟨by rw [← hW, heap_at _ _ _ rfl]⟩
  have Hb : Away (Below w.heap.size w W) := ⟨by rw [← hW]; exact hb1.alloc hb1.size _⟩
  have P1 : Away (Gp W) := ⟨HP.out.later Hb.out⟩
  have hgl := lt_of_row Hg.out
  clear hW hb1
  go_wp2_with (first
    | (refine wpList_store_new rfl 36 _ _ rfl _ rfl rfl (by rw [HTs.out]; exact Hsize.out) (by rw [HTs.out]; exact HZs.out) HTo.out rfl ?_)
    | (rw [HW.out])
    | (refine wpList_load_row rfl 36 _ rfl w1.heap.size rfl 36 T (0, 0) _ Hg.out Tryd.underlying36 rfl HTz.out ?_))
  refine (H1.out _ P1.out).mono ?_
  rintro e w2 ⟨rfl, hb2⟩
  have G2 : Away (w2.heap[w1.heap.size]? = some (.cells T 36 (0, 0))) := ⟨(hb2.block _ hgl).trans Hg.out⟩
  have P2 : Away (Gp w2) := ⟨P1.out.later hb2⟩
  have B2 : Away (Below w.heap.size w w2) := ⟨Hb.out.trans (hb2.mono Hb.out.size)⟩
  clear hb2 H1 Hg HW
  go_wp2_with (refine wpList_load_row rfl 36 _ rfl w1.heap.size rfl 36 T (0, 0) _ G2.out Tryd.underlying36 rfl HTz.out ?_)
  refine (H2.out _ P2.out).mono ?_
  rintro e w3 ⟨rfl, hb3⟩
  have hg2 := lt_of_row G2.out
  have G3 : Away (w3.heap[w1.heap.size]? = some (.cells T 36 (0, 0))) := ⟨(hb3.block _ hg2).trans G2.out⟩
  have P3 : Away (Gp w3) := ⟨P2.out.later hb3⟩
  have B3 : Away (Below w.heap.size w w3) := ⟨B2.out.trans (hb3.mono B2.out.size)⟩
  clear hb3 H2 G2 P2
  go_wp2_with (refine wpList_load_row rfl 36 _ rfl w1.heap.size rfl 36 T (0, 0) _ G3.out Tryd.underlying36 rfl HTz.out ?_)
  refine (H3.out _ P3.out).mono ?_
  rintro e w4 ⟨rfl, hb4⟩
  have B4 : Away (Below w.heap.size w w4) := ⟨B3.out.trans (hb4.mono B3.out.size)⟩
  clear hb4 H3 G3 P3
  go_wp2_with fail
  refine (H4.out _).mono ?_
  rintro e w5 ⟨rfl, hb5⟩
  have B5 : Away (Below w.heap.size w w5) := ⟨B4.out.trans (hb5.mono B4.out.size)⟩
  clear hb5 H4
  have ha1 := HA1.out
  have ha2 := HA2.out
  go_wp2_with (refine wpList_store_new rfl 25 _ _ rfl F rfl rfl Fi.out (by exact Fz.out) Fo.out rfl ?_)
  go_ret
  exact ⟨rfl, B5.out.alloc B5.out.size _⟩
end Go.Proofs.YtpibnfpgokjnpaaDoor.awake6
