/-
  What mix of the sponge does: a string's bytes mixed into a state in memory, by whole lanes where it can. Conditions: the state has 25 words of 64 bits, the bytes lie within it.
-/
import Derived.Test.YtpibnfpgokjnpaaDoorSpoC
namespace Go.Proofs.YtpibnfpgokjnpaaDoor.spod
open Go Go.RowKit
open Go.Proofs.YtpibnfpgokjnpaaDoor.arr Go.Proofs.YtpibnfpgokjnpaaDoor.mem Go.Proofs.YtpibnfpgokjnpaaDoor.kecm Go.Proofs.YtpibnfpgokjnpaaDoor.kecb Go.Proofs.YtpibnfpgokjnpaaDoor.spgm Go.Proofs.YtpibnfpgokjnpaaDoor.spmx Go.Proofs.YtpibnfpgokjnpaaDoor.rspa Go.Proofs.YtpibnfpgokjnpaaDoor.rspc Go.Proofs.YtpibnfpgokjnpaaDoor.spoa Go.Proofs.YtpibnfpgokjnpaaDoor.spob Go.Proofs.YtpibnfpgokjnpaaDoor.spoc

theorem bys_cons (b : ByteArray) (j : Nat) (h : j < b.size) : (bys b).drop j = (bys b).getD j 0 :: (bys b).drop (j + 1) := by
  rw [List.drop_eq_getElem_cons (by rw [bys_length]; exact h), List.getD_eq_getElem?_getD, List.getElem?_eq_getElem (by rw [bys_length]; exact h)]
  rfl
theorem bys_tail (b : ByteArray) (j : Nat) : bys (b.extract j b.size) = (bys b).drop j := by
  unfold bys
  simp only [ByteArray.data_extract, Array.toList_extract]
  rw [List.extract_eq_take_drop, List.map_take, List.map_drop, List.take_of_length_le (by simp)]
theorem bys_head (b : ByteArray) (j : Nat) : bys (b.extract 0 j) = (bys b).take j := by
  unfold bys
  simp only [ByteArray.data_extract, Array.toList_extract, List.map_take]
  simp
/-- one lane further -/
theorem lane_step {l : List Nat} (h : St l) (q : Nat) (hq : q < 25) (s : ByteArray) (hs : 8 ≤ s.size) (R : List Nat) (hR : xbs l (8 * q) (bys s) = R) :
    xbs (l.set q (g l q ^^^ w8 ((bys s).getD 0 0) ((bys s).getD 1 0) ((bys s).getD 2 0) ((bys s).getD 3 0) ((bys s).getD 4 0) ((bys s).getD 5 0) ((bys s).getD 6 0) ((bys s).getD 7 0))) (8 * q + 8) (bys (s.extract 8 s.size)) = R := by
  rw [← xbs_lane (by rw [h.len]; exact hq) (bys_lt s 0) (bys_lt s 1) (bys_lt s 2) (bys_lt s 3) (bys_lt s 4) (bys_lt s 5) (bys_lt s 6) (bys_lt s 7), bys_tail]
  have e : bys s = [(bys s).getD 0 0, (bys s).getD 1 0, (bys s).getD 2 0, (bys s).getD 3 0, (bys s).getD 4 0, (bys s).getD 5 0, (bys s).getD 6 0, (bys s).getD 7 0] ++ (bys s).drop 8 := by
    show bys s = (bys s).getD 0 0 :: (bys s).getD 1 0 :: (bys s).getD 2 0 :: (bys s).getD 3 0 :: (bys s).getD 4 0 :: (bys s).getD 5 0 :: (bys s).getD 6 0 :: (bys s).getD 7 0 :: (bys s).drop 8
    rw [← bys_cons s 7 (by omega), ← bys_cons s 6 (by omega), ← bys_cons s 5 (by omega), ← bys_cons s 4 (by omega), ← bys_cons s 3 (by omega), ← bys_cons s 2 (by omega), ← bys_cons s 1 (by omega), ← bys_cons s 0 (by omega)]
    rfl
  rw [← hR]
  generalize hd : (bys s).drop 8 = d at e
  conv => rhs; rw [e]
  rw [xbs_append]
  rfl
theorem byte_step (l : List Nat) (p i : Nat) (s : ByteArray) (hi : i < s.size) (R : List Nat) (hR : xbs l (p + i) ((bys s).drop i) = R) : xbs (xb l (p + i) ((bys s).getD i 0)) (p + (i + 1)) ((bys s).drop (i + 1)) = R := by
  rw [bys_cons s i hi] at hR
  exact hR
set_option maxRecDepth 100000 in
set_option maxHeartbeats 2000000 in
theorem mix_any (gs : Nat) (k a : Int) (o : Bool) (l : List Nat) (t : TypeId) (p0 : Nat) (b : ByteArray) (w : World) (h : St l) (hp : p0 + b.size ≤ 200) (hrow : w.heap[gs]? = some (.cells (SC k l a o) t (0, 0))) :
    Calls Tryd.prog 43 #[.pointer (some ⟨gs, 1, none⟩), .int .i64 (p0 : Int), .string b] w fun e w' => e = .returned (.tuple #[]) ∧ At gs (SC k (xbs l p0 (bys b)) a o) t w w' := by
  obtain ⟨R, HR⟩ := ex_eq (xbs l p0 (bys b))
  rw [HR.out]
  have H := Away.mk h
  have A00 := Away.mk (At.refl hrow)
  clear hrow h
  go_enter Tryd.func43, Tryd.ntmps43
  go_wp2_with fail
  go_loopw [1, 2] (fun v x wr => ∃ (p : Nat) (s : ByteArray) (l' : List Nat), v = .int .i64 (p : Int) ∧ x = .string s ∧ p + s.size = p0 + b.size ∧ Away (xbs l' p (bys s) = R) ∧ Away (St l') ∧ Away (At gs (SC k l' a o) t w wr)) (fun _ x _ => match x with | .string s => s.size | _ => 0)
  case atStart => exact ⟨p0, b, l, rfl, rfl, rfl, HR, H, A00⟩
  case round =>
    clear A00 H HR
    obtain ⟨p, s, l', rfl, rfl, hps, HR, H, A0⟩ := hrel
    obtain ⟨m, hm⟩ : ∃ m, p % 8 = m := ⟨_, rfl⟩
    have fm : (p : Int).tmod 8 = (m : Int) := by rw [Int.tmod_eq_emod_of_nonneg (by omega)]; omega
    have fm2 : (p : Int) % 8 = (m : Int) := by omega
    by_cases hc : m = 0 ∧ 8 ≤ s.size
    · obtain ⟨h0, h8⟩ := hc
      subst h0
      have fm : (p : Int).tmod 8 = 0 := fm
      have fm2 : (p : Int) % 8 = 0 := fm2
      obtain ⟨q, hq⟩ : ∃ q, p / 8 = q := ⟨_, rfl⟩
      obtain rfl : p = 8 * q := by omega
      have fq : ((8 * q : Nat) : Int).tdiv 8 = (q : Int) := by rw [Int.tdiv_eq_ediv_of_nonneg (by omega)]; omega
      obtain ⟨p, hp8⟩ : ∃ p, 8 * q = p := ⟨_, rfl⟩
      rw [hp8] at fq fm fm2 hps HR
      have fqw : IntKind.i64.wrap ((p : Int).tdiv 8) = (q : Int) := by rw [fq, IntKind.wrap_i64]; omega
      have fq2 : (p : Int) / 8 = (q : Int) := by omega
      have fq3 : IntKind.i64.wrap (q : Int) = (q : Int) := by rw [IntKind.wrap_i64]; omega
      have hq25 : q < 25 := by omega
      have hqz : (q : Int) < 25 := by omega
      obtain ⟨y, Hy⟩ := ex_eq (w8 ((bys s).getD 0 0) ((bys s).getD 1 0) ((bys s).getD 2 0) ((bys s).getD 3 0) ((bys s).getD 4 0) ((bys s).getD 5 0) ((bys s).getD 6 0) ((bys s).getD 7 0))
      have by' : y < 18446744073709551616 := by rw [← Hy.out]; exact (w8_parts (bys_lt s 0) (bys_lt s 1) (bys_lt s 2) (bys_lt s 3) (bys_lt s 4) (bys_lt s 5) (bys_lt s 6) (bys_lt s 7)).2.2.2.2.2.2
      obtain ⟨x, hx⟩ : ∃ x, g l' q = x := ⟨_, rfl⟩
      have bx : x < 18446744073709551616 := hx ▸ H.out.lt q
      obtain ⟨v, hv⟩ : ∃ v, x ^^^ y = v := ⟨_, rfl⟩
      have V := xor2 x y v bx by' hv
      have HN : Away (xbs (l'.set q v) (p + 8) (bys (s.extract 8 s.size)) = R) := ⟨by rw [← hv, ← hx, ← Hy.out, ← hp8]; exact lane_step H.out q hq25 s h8 R (by rw [hp8]; exact HR.out)⟩
      have HW : Away (∀ w1 : World, Calls Tryd.prog 53 #[.string s] w1 fun e w' => e = .returned (.int .u64 (y : Int)) ∧ Below w1.heap.size w1 w') := ⟨fun w1 => by rw [← Hy.out]; exact worth_any s _ _ _ _ _ _ _ _ w1 h8 rfl rfl rfl rfl rfl rfl rfl rfl⟩
      have HX : Away (St (l'.set q v)) := ⟨⟨by rw [List.length_set, H.out.len], fun j => by rw [g_set]; split <;> first | (rw [← hv]; exact xor_lt _ _ bx by') | exact H.out.lt j⟩⟩
      have cx : ∀ d os, (Sort.grow (redrawn wr d) os).cell? ⟨gs, 1 + q, none⟩ = some (.int .u64 (x : Int)) := fun d os => by rw [← hx]; exact cell_at (heap_regrown A0.out.row ⟨⟨d, os⟩, rfl⟩) (sc_lane k a o H.out.len q hq25)
      have hsz : (s.extract 8 s.size).size = s.size - 8 := by rw [ByteArray.size_extract]; omega
      obtain ⟨s3, Hs3⟩ := ex_eq (s.extract 8 s.size)
      have e3 := Hs3.out
      rw [e3] at HN hsz
      have Hq25 := Away.mk hq25
      clear hq hp8 hx hv hm Hy
      go_wp2_with fail
      refine qtail.region_below_tail 11 (by kernel_rfl) (by kernel_rfl) ?_
      simp only [List.take_succ_cons, List.take_zero, List.drop_succ_cons, List.drop_zero]
      quiet_step (skip)
      quiet_step (skip)
      quiet_step (skip)
      quiet_step (skip)
      quiet_step (skip)
      quiet_step (skip)
      quiet_step (skip)
      quiet_step (exact Calls.regrown_of (HW.out _))
      quiet_step (skip)
      quiet_step (skip)
      quiet_step (skip)
      refine wpQuiet_nil ?_
      rintro w1 ⟨pp, rfl⟩
      have A1 : Away (At gs (SC k l' a o) t w _) := ⟨A0.out.later (below_regrown wr pp.d pp.os)⟩
      obtain ⟨w1, hw1⟩ : ∃ x, Sort.grow (redrawn wr pp.d) pp.os = x := ⟨_, rfl⟩
      rw [hw1] at A1 ⊢
      clear hw1 HW cx V fqw fq3 A0
      go_wp2_with ((with_reducible refine wpList_put2 A1 rfl _ _ _ rfl rfl ?_); refine ⟨_, _, _, rfl, rfl, rfl, (by rw [sc_size k a o H.out.len]; have := Hq25.out; omega), ?_⟩; intro w8 HR5; rw [sc_setl k a o H.out.len q v Hq25.out] at HR5)
      go_roundw
      case rel => exact ⟨p + 8, s3, _, by go_num, rfl, by omega, HN, HX, HR5⟩
      case measure => simp only; omega
    · have h2 : m ≠ 0 ∨ m = 0 ∧ s.size < 8 := by omega
      clear hc
      rcases h2 with hc | hc
      · have hcz : ((m : Int) == 0) = false := beq_eq_false_iff_ne.2 (by omega)
        go_wp2_with fail
        obtain ⟨B, HB⟩ := ex_eq (bys s)
        rw [HB.out] at HR
        go_loopw [32] (fun v wr => ∃ (i : Nat) (l2 : List Nat), i ≤ s.size ∧ v = .int .i64 (i : Int) ∧ Away (xbs l2 (p + i) (B.drop i) = R) ∧ Away (St l2) ∧ Away (At gs (SC k l2 a o) t w wr)) (fun v _ => s.size - (intOf v).toNat)
        case atStart => exact ⟨0, l', Nat.zero_le _, rfl, HR, H, A0⟩
        case round =>
          clear A0 H HR
          obtain ⟨i, l2, hi, rfl, HR, H, A0⟩ := hrel
          by_cases hlt : i < s.size
          · have hiz : (i : Int) < (s.size : Int) := by omega
            obtain ⟨β, hβ⟩ : ∃ β, (bys s).getD i 0 = β := ⟨_, rfl⟩
            have hidx := byte_of s i β hlt hβ
            obtain ⟨n, hn⟩ : ∃ n, p + i = n := ⟨_, rfl⟩
            have fn : (p : Int) + (i : Int) = (n : Int) := by omega
            have fnw : IntKind.i64.wrap ((p : Int) + (i : Int)) = (n : Int) := by rw [fn, IntKind.wrap_i64]; omega
            have HN : Away (xbs (xb l2 n β) (p + (i + 1)) (B.drop (i + 1)) = R) := ⟨by rw [← hn, ← hβ, ← HB.out]; exact byte_step l2 p i s hlt R (by rw [HB.out]; exact HR.out)⟩
            have HX : Away (St (xb l2 n β)) := ⟨xb_st H.out n β⟩
            have HC := Away.mk (mixByte_any gs k a o l2 t n β wr H.out (by omega) (hβ ▸ bys_lt s i) A0.out.row)
            clear hβ hn
            go_wp2_with fail
            refine HC.out.mono ?_
            rintro e w1 ⟨rfl, h1⟩
            have A1 : Away (At gs (SC k (xb l2 n β) a o) t w w1) := ⟨A0.out.trans h1⟩
            clear h1
            go_wp2_with fail
            go_roundw
            case rel => exact ⟨i + 1, _, by omega, by go_num, HN, HX, A1⟩
            case measure => simp [intOf]; omega
          · obtain rfl : i = s.size := by omega
            have HE : Away (l2 = R) := ⟨by
              have h9 := HR.out
              rw [List.drop_of_length_le (by rw [← HB.out, bys_length]; exact Nat.le_refl _)] at h9
              exact h9⟩
            rw [HE.out] at A0
            go_wp2_with fail
            go_end0
            exact ⟨rfl, A0.out⟩
      · obtain ⟨h0, hc⟩ := hc
        subst h0
        have fm : (p : Int).tmod 8 = 0 := fm
        have fm2 : (p : Int) % 8 = 0 := fm2
        go_wp2_with fail
        obtain ⟨B, HB⟩ := ex_eq (bys s)
        rw [HB.out] at HR
        go_loopw [32] (fun v wr => ∃ (i : Nat) (l2 : List Nat), i ≤ s.size ∧ v = .int .i64 (i : Int) ∧ Away (xbs l2 (p + i) (B.drop i) = R) ∧ Away (St l2) ∧ Away (At gs (SC k l2 a o) t w wr)) (fun v _ => s.size - (intOf v).toNat)
        case atStart => exact ⟨0, l', Nat.zero_le _, rfl, HR, H, A0⟩
        case round =>
          clear A0 H HR
          obtain ⟨i, l2, hi, rfl, HR, H, A0⟩ := hrel
          by_cases hlt : i < s.size
          · have hiz : (i : Int) < (s.size : Int) := by omega
            obtain ⟨β, hβ⟩ : ∃ β, (bys s).getD i 0 = β := ⟨_, rfl⟩
            have hidx := byte_of s i β hlt hβ
            obtain ⟨n, hn⟩ : ∃ n, p + i = n := ⟨_, rfl⟩
            have fn : (p : Int) + (i : Int) = (n : Int) := by omega
            have fnw : IntKind.i64.wrap ((p : Int) + (i : Int)) = (n : Int) := by rw [fn, IntKind.wrap_i64]; omega
            have HN : Away (xbs (xb l2 n β) (p + (i + 1)) (B.drop (i + 1)) = R) := ⟨by rw [← hn, ← hβ, ← HB.out]; exact byte_step l2 p i s hlt R (by rw [HB.out]; exact HR.out)⟩
            have HX : Away (St (xb l2 n β)) := ⟨xb_st H.out n β⟩
            have HC := Away.mk (mixByte_any gs k a o l2 t n β wr H.out (by omega) (hβ ▸ bys_lt s i) A0.out.row)
            clear hβ hn
            go_wp2_with fail
            refine HC.out.mono ?_
            rintro e w1 ⟨rfl, h1⟩
            have A1 : Away (At gs (SC k (xb l2 n β) a o) t w w1) := ⟨A0.out.trans h1⟩
            clear h1
            go_wp2_with fail
            go_roundw
            case rel => exact ⟨i + 1, _, by omega, by go_num, HN, HX, A1⟩
            case measure => simp [intOf]; omega
          · obtain rfl : i = s.size := by omega
            have HE : Away (l2 = R) := ⟨by
              have h9 := HR.out
              rw [List.drop_of_length_le (by rw [← HB.out, bys_length]; exact Nat.le_refl _)] at h9
              exact h9⟩
            rw [HE.out] at A0
            go_wp2_with fail
            go_end0
            exact ⟨rfl, A0.out⟩
end Go.Proofs.YtpibnfpgokjnpaaDoor.spod
