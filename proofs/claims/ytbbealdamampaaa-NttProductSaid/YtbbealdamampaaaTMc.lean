/-
  What tables.Make returns: all tables as the document asks; memory that was there before stays as it was. Conditions: none.
-/
import Derived.Test.YtbbealdamampaaaTMb
import Derived.Test.YtbbealdamampaaaTMa
namespace Go.Proofs.Ytbbealdamampaaa.make
open Go.RowKit
open Go.Proofs.Ytbbealdamampaaa.tabd Go.Proofs.Ytbbealdamampaaa.primm Go.Proofs.Ytbbealdamampaaa.tabt Go.Proofs.Ytbbealdamampaaa.arr Go.Proofs.Ytbbealdamampaaa.tabv Go.Proofs.Ytbbealdamampaaa.built Go.Proofs.Ytbbealdamampaaa.root Go.Proofs.Ytbbealdamampaaa.primes

/-- the primes' block beside the tables' block at g -/
structure Pc (gp n g : Nat) (wr : World) : Prop where
  cs : ∀ j, j < n → wr.cell? ⟨gp, j, none⟩ = some (.int .i64 (ph.getD j 0 : Nat))
  ne : gp ≠ g
  lt : gp < wr.heap.size
theorem Pc.call {gp n g : Nat} {wr w1 : World} (h : Pc gp n g wr) (hb : Below wr.heap.size wr w1) : Pc gp n g w1 :=
  ⟨fun j hj => (hb.cell (p := ⟨gp, j, none⟩) h.lt).trans (h.cs j hj), h.ne, Nat.lt_of_lt_of_le h.lt hb.size⟩
theorem Pc.set {gp n g : Nat} {wr : World} (h : Pc gp n g wr) (a : Nat) (v : Value) : Pc gp n g (wr.setCell ⟨g, a, none⟩ v) :=
  ⟨fun j hj => by rw [World.cell?_setCell_other _ _ _ _ (by intro e; injection e with e1; exact h.ne e1.symm)]; exact h.cs j hj, h.ne, by rw [size_setCell]; exact h.lt⟩
theorem ph_get_le (j : Nat) : ph.getD j 0 ≤ 541 := by
  rw [List.getD_eq_getElem?_getD]
  by_cases h : j < ph.length
  · rw [List.getElem?_eq_getElem h]; exact (ph_pos _ (List.getElem_mem h)).2
  · rw [List.getElem?_eq_none (by omega)]; decide
theorem rootV_at (j : Nat) (k : Nat) (hk : k = 2 ∨ k = 3) : rootV ((ph.getD j 0 : Nat) : Int) (k : Int) = rootN (ph.getD j 0) k % 18446744073709551616 := by
  have := ph_get_le j
  unfold rootV
  rw [if_neg (by omega), Int.toNat_natCast, Int.toNat_natCast]
theorem rootV_3 (j : Nat) : rootV ((ph.getD j 0 : Nat) : Int) 3 = r3 j := rootV_at j 3 (.inr rfl)
theorem rootV_2 (j : Nat) : rootV ((ph.getD j 0 : Nat) : Int) 2 = r2 j := rootV_at j 2 (.inl rfl)
theorem pc_of {w wr : World} {n : Nat} {v : Value} {g : Nat} (hn : n ≤ 100) (h0 : 0 < n) (h : Holds w (pr (n : Int)) v wr) (hg : g < w.heap.size) : ∃ gp cap, v = .slice (some ⟨gp, 0, none⟩) n cap ∧ Pc gp n g wr ∧ n ≤ cap := by
  have hl : (pr (n : Int)).length = n := by unfold pr; rw [Int.toNat_natCast, List.length_take, ph_length]; omega
  rcases holds_open h with ⟨-, h1⟩ | ⟨gp, cap, rfl, h1, h2, h3, h4⟩
  · rw [h1] at hl; simp at hl; omega
  · rw [hl] at h3 h4 ⊢
    refine ⟨gp, cap, rfl, ⟨fun j hj => ?_, by omega, h2⟩, h3⟩
    rw [h4 j hj]
    unfold pr
    rw [Int.toNat_natCast, List.getD_eq_getElem?_getD, List.getElem?_take_of_lt hj, ← List.getD_eq_getElem?_getD]
/-- a block that was built: which of its cells are written -/
theorem ms_start {w w3 : World} {C Z : Array Value} (hZ : Z.size = 465) (hz : w3.heap[w.heap.size]? = some (.cells Z 33 (0, 0))) (hlt : w.heap.size < w3.heap.size) (hb : Below w.heap.size w w3) (hC : C.size = 465)
    (c1 : ∀ j, j < 24 → C[160 + j]? = (LK .u64 (rl 168))[j]?) (c2 : ∀ j, j < 25 → C[184 + j]? = (LK .i64 (tl 24))[j]?) (c3 : ∀ j, j < 256 → C[209 + j]? = (LK .i64 (zl 256))[j]?) :
    Ms 33 w w3.heap.size (fun i => 160 ≤ i) (w3.alloc (.cells C 33)) := by
  have hg := heap_at w3 (.cells C 33) _ rfl
  have hc : ∀ i, i < 465 → (w3.alloc (.cells C 33)).cell? ⟨w3.heap.size, i, none⟩ = C[i]? := fun i _ => cell_of_row _ _ i C _ (0, 0) hg
  refine ⟨⟨Z, hZ, by rw [heap_past _ _ _ hlt]; exact hz⟩, fun i hi => ⟨⟨C[i], by rw [hc i hi, Array.getElem?_eq_getElem (by omega)]⟩, frozen_of_row _ _ i C _ hg⟩, fun i hi hS => ?_, ⟨hlt, by simp⟩, hb.alloc (by omega) _⟩
  rw [hc i hi]
  by_cases h1 : i < 184
  · obtain ⟨j, rfl⟩ : ∃ j, i = 160 + j := ⟨i - 160, by omega⟩
    rw [c1 j (by omega), tv_rounds j (by omega), lk_get _ _ _ (by rw [rl_length]; omega)]
  by_cases h2 : i < 209
  · obtain ⟨j, rfl⟩ : ∃ j, i = 184 + j := ⟨i - 184, by omega⟩
    rw [c2 j (by omega), tv_turns j (by omega), lk_get _ _ _ (by rw [tl_length]; omega)]
  · obtain ⟨j, rfl⟩ : ∃ j, i = 209 + j := ⟨i - 209, by omega⟩
    rw [c3 j (by omega), tv_zetas j (by omega), lk_get _ _ _ (by rw [zl_length]; omega)]
def S1 (k i : Nat) : Prop := 160 ≤ i ∨ (72 ≤ i ∧ i < 72 + k)
def S2 (k i : Nat) : Prop := 160 ≤ i ∨ (72 ≤ i ∧ i < 152) ∨ i < k
def S3 (k i : Nat) : Prop := 160 ≤ i ∨ (72 ≤ i ∧ i < 152) ∨ i < 64 ∨ (152 ≤ i ∧ i < 152 + k) ∨ (64 ≤ i ∧ i < 64 + k)

set_option maxRecDepth 100000 in
set_option maxHeartbeats 1000000 in
theorem make_any (w : World) :
    Calls Try.prog 5 #[] w fun e w' => e = .returned (.agg TA) ∧ Below w.heap.size w w' := by
  obtain ⟨hz, hsize⟩ := zero_of_info infoT
  obtain ⟨Z, HZ⟩ := ex_eq TZ
  rw [HZ.out] at hz
  have HZs : Away (Z.size = 465) := ⟨by rw [← HZ.out]; exact tz_size⟩
  have Hsize := Away.mk hsize
  clear hsize
  obtain ⟨R, HR⟩ := ex_eq (LK .u64 (rl 168))
  obtain ⟨U, HU⟩ := ex_eq (LK .i64 (tl 24))
  obtain ⟨V, HV⟩ := ex_eq (LK .i64 (zl 256))
  obtain ⟨C, hC, hCs, c1, c2, c3, hC1⟩ := built_tables R U V (by rw [← HR.out, lk_size, rl_length]) (by rw [← HU.out, lk_size, tl_length]) (by rw [← HV.out, lk_size, zl_length]) (by rw [← HR.out]; exact lk_one _ _) (by rw [← HU.out]; exact lk_one _ _) (by rw [← HV.out]; exact lk_one _ _)
  have HC := Away.mk hC
  have HCs := Away.mk hCs
  have HCC := Away.mk (And.intro c1 (And.intro c2 c3))
  have HC1 := Away.mk hC1
  clear hC hCs c1 c2 c3 hC1
  go_enter Try.func5, Try.ntmps5
  go_wp2_with fail
  refine (rounds.rounds_any _).mono ?_
  rintro e w1 ⟨rfl, hb1⟩
  rw [HR.out]
  go_wp2_with fail
  refine (turns.turns_any _).mono ?_
  rintro e w2 ⟨rfl, hb2⟩
  rw [HU.out]
  go_wp2_with fail
  refine (zetas.zetas_any _).mono ?_
  rintro e w3 ⟨rfl, hb3⟩
  rw [HV.out]
  have hbA : Below (w.alloc (.cells Z 33)).heap.size (w.alloc (.cells Z 33)) w3 := (hb1.trans (hb2.mono hb1.size)).trans (hb3.mono (Nat.le_trans hb1.size hb2.size))
  have hz3 := (hbA.block w.heap.size (by simp)).trans (heap_at w (.cells Z 33) _ rfl)
  have hlt3 : w.heap.size < w3.heap.size := by have := hbA.size; simp at this; omega
  have hb4 : Below w.heap.size w w3 := ((Below.refl _ _).alloc (Nat.le_refl _) _).trans (hbA.mono (by simp))
  have Hms := Away.mk (ms_start HZs.out hz3 hlt3 hb4 HCs.out (by rw [HR.out]; exact HCC.out.1) (by rw [HU.out]; exact HCC.out.2.1) (by rw [HV.out]; exact HCC.out.2.2))
  clear hb1 hb2 hb3 hbA hz3 hb4 HCC
  go_wp2_with (first | (refine wpList_build3 rfl 33 4 5 6 _ _ _ rfl (.agg R) (.agg U) (.agg V) rfl rfl rfl C HC.out ?_) | (refine wpList_store_new rfl 33 _ _ rfl _ rfl rfl (by rw [HCs.out]; exact Hsize.out) (by rw [HCs.out]; exact HZs.out) HC1.out rfl ?_))
  clear hz
  refine (primes_any 80 _).mono ?_
  rintro e w5 ⟨v, rfl, hh⟩
  obtain ⟨gp, cap, rfl, hpc, hcap⟩ := pc_of (n := 80) (g := w3.heap.size) (by decide) (by decide) hh (by simp)
  have Hms5 : Away (Ms 33 w w3.heap.size (S1 0) w5) := ⟨(Hms.out.call hh.2).mono (by unfold S1; omega)⟩
  have Hpc := Away.mk hpc
  obtain ⟨g, Hg⟩ := ex_eq w3.heap.size
  rw [Hg.out] at Hms5 Hpc hlt3 ⊢
  clear hh hpc Hms HC HCs HC1
  go_wp2_with fail
  go_loopw [13] (fun i wr => ∃ k : Nat, k ≤ 80 ∧ i = .int .i64 k ∧ Away (Ms 33 w g (S1 k) wr) ∧ Away (Pc gp 80 g wr)) (fun i _ => 80 - (intOf i).toNat)
  case atStart => exact ⟨0, by decide, rfl, Hms5, Hpc⟩
  case round =>
    obtain ⟨k, hk, rfl, Hm, Hp⟩ := hrel
    clear Hms5 Hpc
    by_cases hlt : k < 80
    · have hpk := Hp.out.cs k hlt
      have Hr := Away.mk (rootV_3 k)
      obtain ⟨q, hq⟩ : ∃ q, ph.getD k 0 = q := ⟨_, rfl⟩
      rw [hq] at hpk Hr
      clear hq
      go_wp2_with fail
      refine (root_any q 3 _).mono ?_
      rintro e w6 ⟨rfl, hb6⟩
      rw [Hr.out]
      have Hm6 := Away.mk (Hm.out.call hb6)
      have Hp6 := Away.mk (Hp.out.call hb6)
      obtain ⟨⟨old, hold⟩, hfz⟩ := Hm6.out.th (72 + k) (by omega)
      have Hset := Away.mk (Hm6.out.set (72 + k) (by omega) (tv_large k hlt).symm)
      clear hb6 hpk
      go_wp2_with fail
      go_roundw
      case rel => exact ⟨k + 1, by omega, by go_num, ⟨Hset.out.mono (by unfold S1; omega)⟩, ⟨Hp6.out.set _ _⟩⟩
      case measure => simp [intOf]; omega
    · obtain rfl : k = 80 := by omega
      have Hm2 : Away (Ms 33 w g (S2 0) wr) := ⟨Hm.out.mono (by unfold S1 S2; omega)⟩
      clear Hm Hp
      go_wp2_with fail
      go_loopw [24] (fun i wr => ∃ k : Nat, k ≤ 64 ∧ i = .int .i64 k ∧ Away (Ms 33 w g (S2 k) wr)) (fun i _ => 64 - (intOf i).toNat)
      case atStart => exact ⟨0, by decide, rfl, Hm2⟩
      case round =>
        obtain ⟨k, hk, rfl, Hm⟩ := hrel
        clear Hm2
        by_cases hlt : k < 64
        · have hread := Hm.out.vs (72 + k) (by omega) (by unfold S2; omega)
          rw [tv_large k (by omega)] at hread
          obtain ⟨⟨old, hold⟩, hfz⟩ := Hm.out.th k (by omega)
          have Hset := Away.mk (Hm.out.set k (by omega) (v := .int .u32 (((r3 k : Nat) : Int) / 4294967296)) (by rw [tv_small k hlt]; exact val_int (by omega)))
          have hr := r3_lt k
          obtain ⟨a, ha⟩ : ∃ a, r3 k = a := ⟨_, rfl⟩
          rw [ha] at hread Hset hr
          clear ha
          go_wp2_with fail
          go_roundw
          case rel => exact ⟨k + 1, by omega, by go_num, ⟨Hset.out.mono (by unfold S2; omega)⟩⟩
          case measure => simp [intOf]; omega
        · obtain rfl : k = 64 := by omega
          go_wp2_with fail
          refine (primes_any 8 _).mono ?_
          rintro e w5 ⟨v, rfl, hh⟩
          obtain ⟨gp, cap, rfl, hpc, hcap⟩ := pc_of (n := 8) (g := g) (by decide) (by decide) hh Hm.out.lt.2
          have Hms5 : Away (Ms 33 w g (S3 0) w5) := ⟨(Hm.out.call hh.2).mono (by unfold S2 S3; omega)⟩
          have Hpc := Away.mk hpc
          clear hh hpc Hm
          go_wp2_with fail
          go_loopw [39] (fun i wr => ∃ k : Nat, k ≤ 8 ∧ i = .int .i64 k ∧ Away (Ms 33 w g (S3 k) wr) ∧ Away (Pc gp 8 g wr)) (fun i _ => 8 - (intOf i).toNat)
          case atStart => exact ⟨0, by decide, rfl, Hms5, Hpc⟩
          case round =>
            obtain ⟨k, hk, rfl, Hm, Hp⟩ := hrel
            clear Hms5 Hpc
            by_cases hlt : k < 8
            · have hpk := Hp.out.cs k hlt
              have Hr := Away.mk (rootV_2 k)
              obtain ⟨q, hq⟩ : ∃ q, ph.getD k 0 = q := ⟨_, rfl⟩
              rw [hq] at hpk Hr
              clear hq
              go_wp2_with fail
              refine (root_any q 2 _).mono ?_
              rintro e w6 ⟨rfl, hb6⟩
              rw [Hr.out]
              have Hm6 := Away.mk (Hm.out.call hb6)
              have Hp6 := Away.mk (Hp.out.call hb6)
              obtain ⟨⟨old, hold⟩, hfz⟩ := Hm6.out.th (152 + k) (by omega)
              obtain ⟨⟨old2, hold2⟩, hfz2⟩ := Hm6.out.th (64 + k) (by omega)
              have Hset := Away.mk ((Hm6.out.set (152 + k) (by omega) (tv_lstart k hlt).symm).set (64 + k) (by omega) (v := .int .u32 (((r2 k : Nat) : Int) / 4294967296)) (by rw [tv_sstart k hlt]; exact val_int (by omega)))
              have hr := r2_lt k
              obtain ⟨a, ha⟩ : ∃ a, r2 k = a := ⟨_, rfl⟩
              rw [ha] at Hset hr ⊢
              have hn := World.cell?_setCell_same w6 ⟨g, 152 + k, none⟩ (.int .u64 (a : Int)) hold
              have hn2 : (w6.setCell ⟨g, 152 + k, none⟩ (.int .u64 (a : Int))).cell? ⟨g, 64 + k, none⟩ = some old2 := by
                rw [World.cell?_setCell_other _ _ _ _ (by intro e2; injection e2; omega)]; exact hold2
              clear hb6 hpk ha
              go_wp2_with fail
              go_roundw
              case rel => exact ⟨k + 1, by omega, by go_num, ⟨Hset.out.mono (by unfold S3; omega)⟩, ⟨(Hp6.out.set _ _).set _ _⟩⟩
              case measure => simp [intOf]; omega
            · obtain rfl : k = 8 := by omega
              have hall : ∀ i, i < 465 → S3 8 i := by unfold S3; omega
              have hrg := Hm.out.range hall
              obtain ⟨Z0, hZ0, hz0⟩ := Hm.out.z
              have HZ0 := Away.mk hZ0
              have Hb := Away.mk Hm.out.be
              obtain ⟨T, HT⟩ := ex_eq TA
              have Hts : Away (T.size = 465) := ⟨by rw [← HT.out]; exact ta_size⟩
              have Hto : Away (T.all (·.oneCell') = true) := ⟨by rw [← HT.out]; exact ta_one⟩
              rw [HT.out] at hrg
              clear hall Hm Hp hZ0
              go_wp2_with (first | (refine wpList_load_mid rfl 33 _ rfl g 0 rfl T.toList _ hrg Try.underlying33 rfl (by rw [Array.length_toList, Hts.out]; exact Hsize.out) ?_) | (refine wpList_store_row rfl 33 _ _ rfl _ T rfl (by simp [go_sem]) 33 _ hz0 (by rw [Hts.out]; exact Hsize.out) (by rw [Hts.out]; exact HZ0.out) Hto.out ?_))
              refine bodyPost_ret_by (v := .agg T) (results_cell_row rfl _ _ w.heap.size 33 _ (0, 0) _ rfl (setRow_heap _ _ _ _ _ _ hz0) Try.underlying33 rfl (by rw [Hts.out]; exact Hsize.out)) rfl ?_
              exact ⟨by rw [HT.out], Hb.out.trans (below_setRow _ _ _ (Nat.le_refl _))⟩
end Go.Proofs.Ytbbealdamampaaa.make
