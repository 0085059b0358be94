/-
  What the reference's Primes returns for any number: a slice of its own that holds the first primes, at most 100, none below 1; memory that was there before stays as it was. Conditions: none but that the number is an int.
-/
import Derived.Test.YtnllnhnpoehclaaPrimes
namespace Go.Proofs.Ytnllnhnpoehclaa.primes
open Go.RowKit
open Go.Proofs.Ytnllnhnpoehclaa.primm Go.Proofs.Ytnllnhnpoehclaa.arr

set_option maxRecDepth 100000 in
set_option maxHeartbeats 1000000 in
theorem rprimes_in (n : Nat) (h1 : 1 ≤ n) (h2 : n ≤ 100) (w : World) :
    Calls Try.prog 22 #[.int .i64 (n : Int)] w fun e w' => ∃ v, e = .returned v ∧ Holds w (pr (n : Int)) v w' := by
  obtain ⟨i0, hi, hz0, hz1, hz2⟩ := info_parts infoInt
  have HI := Away.mk (And.intro hi (And.intro hz0 (And.intro hz1 hz2)))
  clear hi hz0 hz1 hz2
  have hst := holds_start w
  rw [← pl_two] at hst
  have Hst := Away.mk hst
  clear hst
  go_enter Try.func22, Try.ntmps22
  go_wp2_with fail
  go_loopw [3, 4] (fun v i wr => ∃ x : Nat, 2 ≤ x ∧ x ≤ 542 ∧ i = .int .i64 x ∧ Away (Holds w (pl x) v wr) ∧ (pl x).length ≤ n) (fun _ i _ => 542 - (intOf i).toNat)
  case atStart => exact ⟨2, by decide, by decide, rfl, Hst, by rw [pl_two]; exact Nat.zero_le _⟩
  case round =>
    obtain ⟨x, hx2, hx5, rfl, hf, hle⟩ := hrel
    clear Hst
    obtain ⟨L, HL⟩ := ex_eq (pl x).length
    rw [HL.out] at hle
    by_cases hlt : L < n
    · have hx : x < 542 := pl_room hx5 (by rw [HL.out]; omega)
      obtain ⟨xs, Hxs⟩ := ex_eq (pl x)
      have Hpos : Away (∀ p ∈ xs, 2 ≤ p ∧ p ≤ 541) := ⟨fun p hp => pl_pos (x := x) (by rw [Hxs.out]; exact hp)⟩
      rw [Hxs.out] at hf HL
      have hL := pl_le x
      rw [Hxs.out, HL.out] at hL
      have hsz := holds_lt hf.out
      rcases holds_open hf.out with ⟨rfl, rfl⟩ | ⟨g, cap, rfl, hg1, hg2, hcap, hcell⟩
      · have Hnew : Away (pl (x + 1) = [] ++ [x]) := ⟨by rw [pl_new hx2 hx (by rw [Hxs.out]; rfl), Hxs.out]⟩
        obtain rfl : L = 0 := HL.out.symm
        go_wp2_with fail
        refine wp_loop_rounds 1 ?_
        rw [rounds_succ]
        go_wp2_with (at_builtin; refine wpList_append_own _ rfl _ _ 50 rfl w.heap.size 3 i0 (.int .i64 0) 1 8 Try.underlying50 HI.out.1 HI.out.2.1 HI.out.2.2.1 HI.out.2.2.2 rfl (by decide) _ _ _ rfl (hf.out.1.alloc _) ⟨wr.heap.size, 0, none⟩ 1 1 [.int .i64 (x : Int)] rfl rfl news_at (fun u hu => by simp at hu; subst hu; rfl) (by simp [maxLen]) (by simp) (by simp; omega) ?_)
        intro v' w1 hown' hgrow _
        have R := holds_new hf.out hown' hgrow
        rw [← Hnew.out] at R
        have HR := Away.mk R
        clear hown' hgrow R
        go_wp2_with fail
        go_roundw
        case rel => exact ⟨x + 1, by omega, by omega, by go_num, HR, by rw [Hnew.out]; exact hlt⟩
        case measure => simp [intOf]; omega
      · rw [HL.out] at hcap hcell ⊢
        have Hown := Away.mk hf.out.1
        rw [HL.out] at Hown
        have HC := Away.mk hcell
        clear hcell
        go_wp2_with fail
        go_loop [5, 17] (fun b i => ∃ (k : Nat) (c : Bool), k ≤ L ∧ i = .int .i64 k ∧ b = .bool c ∧ Away (c = !(dvd (xs.take k) x))) (fun _ i => L - (intOf i).toNat)
        case atStart => exact ⟨0, true, Nat.zero_le _, rfl, rfl, ⟨rfl⟩⟩
        case round =>
          obtain ⟨k, c, hk, rfl, rfl, Hc⟩ := hrel
          by_cases hkl : k < L
          · have hcell := HC.out k hkl
            have hb : 2 ≤ xs.getD k 0 ∧ xs.getD k 0 ≤ 541 := Hpos.out _ (by
              rw [List.getD_eq_getElem?_getD, List.getElem?_eq_getElem (by rw [HL.out]; exact hkl)]; exact List.getElem_mem _)
            have Hs := Away.mk (take_snoc (l := xs) (k := k) (by rw [HL.out]; exact hkl))
            obtain ⟨p, hpp⟩ : ∃ p, xs.getD k 0 = p := ⟨_, rfl⟩
            rw [hpp] at hcell hb Hs
            clear hpp
            cases c
            · have Hn2 : Away (false = !(dvd (xs.take (k + 1)) x)) := ⟨by
                have h := Hc.out
                rw [Hs.out, dvd_snoc]
                revert h
                cases dvd (xs.take k) x <;> simp⟩
              go_wp2_with fail
              go_round
              case rel => exact ⟨k + 1, false, by omega, by go_num, rfl, Hn2⟩
              case measure => simp [intOf]; omega
            · by_cases hm : x % p = 0
              · have b1 : ((x : Int) % (p : Int) != 0) = false := bne_eq_false_iff_eq.2 (by exact_mod_cast hm)
                have Hn2 : Away (false = !(dvd (xs.take (k + 1)) x)) := ⟨by rw [Hs.out, dvd_snoc, hm]; simp⟩
                clear hm
                go_wp2_with fail
                go_round
                case rel => exact ⟨k + 1, false, by omega, by go_num, rfl, Hn2⟩
                case measure => simp [intOf]; omega
              · have b1 : ((x : Int) % (p : Int) != 0) = true := bne_iff_ne.2 (by exact_mod_cast hm)
                have Hn2 : Away (true = !(dvd (xs.take (k + 1)) x)) := ⟨by
                  have h := Hc.out
                  rw [Hs.out, dvd_snoc, beq_false_of_ne hm, Bool.or_false]
                  exact h⟩
                clear hm
                go_wp2_with fail
                go_round
                case rel => exact ⟨k + 1, true, by omega, by go_num, rfl, Hn2⟩
                case measure => simp [intOf]; omega
          · obtain rfl : k = L := by omega
            have Hd : Away (c = !(dvd xs x)) := ⟨by rw [Hc.out, List.take_of_length_le (by rw [HL.out]; exact Nat.le_refl _)]⟩
            cases c
            · have Hnew : Away (pl (x + 1) = xs) := ⟨by rw [pl_hit hx2 hx (by rw [Hxs.out]; have := Hd.out; revert this; cases dvd xs x <;> simp), Hxs.out]⟩
              rw [HL.out] at hf
              have R := hf.out
              rw [← Hnew.out] at R
              have HR := Away.mk R
              clear R
              go_wp2_with fail
              go_roundw
              case rel => exact ⟨x + 1, by omega, by omega, by go_num, HR, by rw [Hnew.out, HL.out]; exact hle⟩
              case measure => simp [intOf]; omega
            · have Hnew : Away (pl (x + 1) = xs ++ [x]) := ⟨by rw [pl_new hx2 hx (by rw [Hxs.out]; have := Hd.out; revert this; cases dvd xs x <;> simp), Hxs.out]⟩
              go_wp2_with (at_builtin; refine wpList_append_own _ rfl _ _ 50 rfl w.heap.size 3 i0 (.int .i64 0) 1 8 Try.underlying50 HI.out.1 HI.out.2.1 HI.out.2.2.1 HI.out.2.2.2 rfl (by decide) _ _ _ rfl (Hown.out.alloc _) ⟨wr.heap.size, 0, none⟩ 1 1 [.int .i64 (x : Int)] rfl rfl news_at (fun u hu => by simp at hu; subst hu; rfl) (by unfold maxLen; omega) (by omega) (by simp; omega) ?_)
              intro v' w1 hown' hgrow _
              rw [← HL.out] at hown' hgrow
              have R := holds_new hf.out hown' hgrow
              rw [← Hnew.out] at R
              have HR := Away.mk R
              clear hown' hgrow R
              go_wp2_with fail
              go_roundw
              case rel => exact ⟨x + 1, by omega, by omega, by go_num, HR, by rw [Hnew.out, List.length_append, HL.out]; exact hlt⟩
              case measure => simp [intOf]; omega
    · obtain rfl : n = L := by omega
      have Hpr : Away (pl x = pr (n : Int)) := ⟨pr_of hx2 hx5 (by intro _; rw [HL.out]; simp) (by intro h; rw [HL.out]; omega)⟩
      rw [Hpr.out] at hf HL
      rcases holds_open hf.out with ⟨rfl, hnil⟩ | ⟨g, cap, rfl, hg1, hg2, hcap, hcell⟩
      · have h0 := HL.out
        rw [hnil] at h0
        simp at h0
        omega
      · rw [HL.out] at hf ⊢
        clear hcell hcap
        go_wp2_with fail
        go_ret
        exact ⟨_, rfl, hf.out⟩

set_option maxRecDepth 100000 in
set_option maxHeartbeats 1000000 in
theorem rprimes_over (n : Int) (h1 : 100 < n) (w : World) :
    Calls Try.prog 22 #[.int .i64 n] w fun e w' => ∃ v, e = .returned v ∧ Holds w (pr n) v w' := by
  obtain ⟨i0, hi, hz0, hz1, hz2⟩ := info_parts infoInt
  have HI := Away.mk (And.intro hi (And.intro hz0 (And.intro hz1 hz2)))
  clear hi hz0 hz1 hz2
  have hst := holds_start w
  rw [← pl_two] at hst
  have Hst := Away.mk hst
  clear hst
  go_enter Try.func22, Try.ntmps22
  go_wp2_with fail
  go_loopw [3, 4] (fun v i wr => ∃ x : Nat, 2 ≤ x ∧ x ≤ 542 ∧ i = .int .i64 x ∧ Away (Holds w (pl x) v wr) ∧ (pl x).length ≤ 100) (fun _ i _ => 542 - (intOf i).toNat)
  case atStart => exact ⟨2, by decide, by decide, rfl, Hst, by rw [pl_two]; exact Nat.zero_le _⟩
  case round =>
    obtain ⟨x, hx2, hx5, rfl, hf, hle⟩ := hrel
    clear Hst
    obtain ⟨L, HL⟩ := ex_eq (pl x).length
    rw [HL.out] at hle
    by_cases hlt : L < 100
    · have hx : x < 542 := pl_room hx5 (by rw [HL.out]; omega)
      obtain ⟨xs, Hxs⟩ := ex_eq (pl x)
      have Hpos : Away (∀ p ∈ xs, 2 ≤ p ∧ p ≤ 541) := ⟨fun p hp => pl_pos (x := x) (by rw [Hxs.out]; exact hp)⟩
      rw [Hxs.out] at hf HL
      have hL := pl_le x
      rw [Hxs.out, HL.out] at hL
      have hsz := holds_lt hf.out
      rcases holds_open hf.out with ⟨rfl, rfl⟩ | ⟨g, cap, rfl, hg1, hg2, hcap, hcell⟩
      · have Hnew : Away (pl (x + 1) = [] ++ [x]) := ⟨by rw [pl_new hx2 hx (by rw [Hxs.out]; rfl), Hxs.out]⟩
        obtain rfl : L = 0 := HL.out.symm
        go_wp2_with fail
        refine wp_loop_rounds 1 ?_
        rw [rounds_succ]
        go_wp2_with (at_builtin; refine wpList_append_own _ rfl _ _ 50 rfl w.heap.size 3 i0 (.int .i64 0) 1 8 Try.underlying50 HI.out.1 HI.out.2.1 HI.out.2.2.1 HI.out.2.2.2 rfl (by decide) _ _ _ rfl (hf.out.1.alloc _) ⟨wr.heap.size, 0, none⟩ 1 1 [.int .i64 (x : Int)] rfl rfl news_at (fun u hu => by simp at hu; subst hu; rfl) (by simp [maxLen]) (by simp) (by simp; omega) ?_)
        intro v' w1 hown' hgrow _
        have R := holds_new hf.out hown' hgrow
        rw [← Hnew.out] at R
        have HR := Away.mk R
        clear hown' hgrow R
        go_wp2_with fail
        go_roundw
        case rel => exact ⟨x + 1, by omega, by omega, by go_num, HR, by rw [Hnew.out]; exact hlt⟩
        case measure => simp [intOf]; omega
      · rw [HL.out] at hcap hcell ⊢
        have Hown := Away.mk hf.out.1
        rw [HL.out] at Hown
        have HC := Away.mk hcell
        clear hcell
        go_wp2_with fail
        go_loop [5, 17] (fun b i => ∃ (k : Nat) (c : Bool), k ≤ L ∧ i = .int .i64 k ∧ b = .bool c ∧ Away (c = !(dvd (xs.take k) x))) (fun _ i => L - (intOf i).toNat)
        case atStart => exact ⟨0, true, Nat.zero_le _, rfl, rfl, ⟨rfl⟩⟩
        case round =>
          obtain ⟨k, c, hk, rfl, rfl, Hc⟩ := hrel
          by_cases hkl : k < L
          · have hcell := HC.out k hkl
            have hb : 2 ≤ xs.getD k 0 ∧ xs.getD k 0 ≤ 541 := Hpos.out _ (by
              rw [List.getD_eq_getElem?_getD, List.getElem?_eq_getElem (by rw [HL.out]; exact hkl)]; exact List.getElem_mem _)
            have Hs := Away.mk (take_snoc (l := xs) (k := k) (by rw [HL.out]; exact hkl))
            obtain ⟨p, hpp⟩ : ∃ p, xs.getD k 0 = p := ⟨_, rfl⟩
            rw [hpp] at hcell hb Hs
            clear hpp
            cases c
            · have Hn2 : Away (false = !(dvd (xs.take (k + 1)) x)) := ⟨by
                have h := Hc.out
                rw [Hs.out, dvd_snoc]
                revert h
                cases dvd (xs.take k) x <;> simp⟩
              go_wp2_with fail
              go_round
              case rel => exact ⟨k + 1, false, by omega, by go_num, rfl, Hn2⟩
              case measure => simp [intOf]; omega
            · by_cases hm : x % p = 0
              · have b1 : ((x : Int) % (p : Int) != 0) = false := bne_eq_false_iff_eq.2 (by exact_mod_cast hm)
                have Hn2 : Away (false = !(dvd (xs.take (k + 1)) x)) := ⟨by rw [Hs.out, dvd_snoc, hm]; simp⟩
                clear hm
                go_wp2_with fail
                go_round
                case rel => exact ⟨k + 1, false, by omega, by go_num, rfl, Hn2⟩
                case measure => simp [intOf]; omega
              · have b1 : ((x : Int) % (p : Int) != 0) = true := bne_iff_ne.2 (by exact_mod_cast hm)
                have Hn2 : Away (true = !(dvd (xs.take (k + 1)) x)) := ⟨by
                  have h := Hc.out
                  rw [Hs.out, dvd_snoc, beq_false_of_ne hm, Bool.or_false]
                  exact h⟩
                clear hm
                go_wp2_with fail
                go_round
                case rel => exact ⟨k + 1, true, by omega, by go_num, rfl, Hn2⟩
                case measure => simp [intOf]; omega
          · obtain rfl : k = L := by omega
            have Hd : Away (c = !(dvd xs x)) := ⟨by rw [Hc.out, List.take_of_length_le (by rw [HL.out]; exact Nat.le_refl _)]⟩
            cases c
            · have Hnew : Away (pl (x + 1) = xs) := ⟨by rw [pl_hit hx2 hx (by rw [Hxs.out]; have := Hd.out; revert this; cases dvd xs x <;> simp), Hxs.out]⟩
              rw [HL.out] at hf
              have R := hf.out
              rw [← Hnew.out] at R
              have HR := Away.mk R
              clear R
              go_wp2_with fail
              go_roundw
              case rel => exact ⟨x + 1, by omega, by omega, by go_num, HR, by rw [Hnew.out, HL.out]; exact hle⟩
              case measure => simp [intOf]; omega
            · have Hnew : Away (pl (x + 1) = xs ++ [x]) := ⟨by rw [pl_new hx2 hx (by rw [Hxs.out]; have := Hd.out; revert this; cases dvd xs x <;> simp), Hxs.out]⟩
              go_wp2_with (at_builtin; refine wpList_append_own _ rfl _ _ 50 rfl w.heap.size 3 i0 (.int .i64 0) 1 8 Try.underlying50 HI.out.1 HI.out.2.1 HI.out.2.2.1 HI.out.2.2.2 rfl (by decide) _ _ _ rfl (Hown.out.alloc _) ⟨wr.heap.size, 0, none⟩ 1 1 [.int .i64 (x : Int)] rfl rfl news_at (fun u hu => by simp at hu; subst hu; rfl) (by unfold maxLen; omega) (by omega) (by simp; omega) ?_)
              intro v' w1 hown' hgrow _
              rw [← HL.out] at hown' hgrow
              have R := holds_new hf.out hown' hgrow
              rw [← Hnew.out] at R
              have HR := Away.mk R
              clear hown' hgrow R
              go_wp2_with fail
              go_roundw
              case rel => exact ⟨x + 1, by omega, by omega, by go_num, HR, by rw [Hnew.out, List.length_append, HL.out]; exact hlt⟩
              case measure => simp [intOf]; omega
    · obtain rfl : L = 100 := by omega
      have Hpr : Away (pl x = pr n) := ⟨pr_of hx2 hx5 (by intro _; rw [HL.out]; omega) (by intro h; rw [HL.out])⟩
      rw [Hpr.out] at hf HL
      rcases holds_open hf.out with ⟨rfl, hnil⟩ | ⟨g, cap, rfl, hg1, hg2, hcap, hcell⟩
      · have h0 := HL.out
        rw [hnil] at h0
        simp at h0
      · rw [HL.out] at hf ⊢
        clear hcell hcap
        go_wp2_with fail
        go_ret
        exact ⟨_, rfl, hf.out⟩

set_option maxRecDepth 100000 in
set_option maxHeartbeats 400000 in
theorem rprimes_low (n : Int) (w : World) (h : n ≤ 0) :
    Calls Try.prog 22 #[.int .i64 n] w fun e w' => ∃ v, e = .returned v ∧ Holds w (pr n) v w' := by
  have hp : pr n = [] := by unfold pr; rw [show n.toNat = 0 by omega]; rfl
  have hst := holds_start w
  rw [← hp] at hst
  have Hst := Away.mk hst
  clear hst hp
  go_enter Try.func22, Try.ntmps22
  go_wp2_with fail
  refine wp_loop_rounds 1 ?_
  rw [rounds_succ]
  go_wp2_with fail
  go_ret
  exact ⟨_, rfl, Hst.out⟩

theorem rprimes_any (n : Int) (w : World) :
    Calls Try.prog 22 #[.int .i64 n] w fun e w' => ∃ v, e = .returned v ∧ Holds w (pr n) v w' := by
  by_cases h : n ≤ 0
  · exact rprimes_low n w h
  by_cases h1 : 100 < n
  · exact rprimes_over n h1 w
  obtain ⟨m, rfl⟩ := Int.eq_ofNat_of_zero_le (show 0 ≤ n by omega)
  exact rprimes_in m (by omega) (by omega) w

end Go.Proofs.Ytnllnhnpoehclaa.primes
