/-
  What tables.Primes and the reference's Primes return for any number: a slice of their own that holds the first primes, at most 100, none below 1; memory that was there before stays as it was. Conditions: none but that the number is an int.
-/
import Derived.Test.YthfljfampfioaaaDivided
namespace Go.Proofs.Ythfljfampfioaaa.primes
open Go.RowKit
open Go.Proofs.Ythfljfampfioaaa.primm Go.Proofs.Ythfljfampfioaaa.arr Go.Proofs.Ythfljfampfioaaa.divided

def pv (p : Nat) : Value := .int .i64 (p : Int)
/-- v holds the numbers xs in memory of the call's own -/
def Holds (w : World) (xs : List Nat) (v : Value) (wr : World) : Prop :=
  wr.ownsRow w.heap.size 3 1 v xs.length (xs.map pv) ∧ Below w.heap.size w wr
theorem holds_start (w : World) : Holds w [] (.slice none 0 0) w := ⟨World.ownsRow_nil _ _ _ _, Below.refl _ _⟩
theorem holds_open {w wr : World} {xs : List Nat} {v : Value} (h : Holds w xs v wr) :
    (v = .slice none 0 0 ∧ xs = []) ∨ ∃ g cap, v = .slice (some ⟨g, 0, none⟩) xs.length cap ∧ w.heap.size ≤ g ∧ g < wr.heap.size ∧ xs.length ≤ cap ∧ ∀ j, j < xs.length → wr.cell? ⟨g, j, none⟩ = some (.int .i64 (xs.getD j 0 : Nat)) := by
  obtain ⟨⟨h1, h2⟩, h3⟩ := h
  rcases h2 with ⟨rfl, h0⟩ | ⟨g, cap, cur, rfl, hb, hg, hn, hm, hs, ht⟩
  · exact .inl ⟨rfl, List.length_eq_zero_iff.1 h0⟩
  · refine .inr ⟨g, cap, rfl, hb, ?_, hn, fun j hj => ?_⟩
    · by_cases hlt : g < wr.heap.size
      · exact hlt
      · rw [Array.getElem?_eq_none (by omega)] at hg; cases hg
    · rw [cell_of_row wr g j cur _ (0, 0) hg]
      have e : cur[j]? = (cur.toList.take (xs.length * 1))[j]? := by
        rw [List.getElem?_take_of_lt (by omega)]; simp
      rw [e, ht, List.getElem?_map, List.getElem?_eq_getElem hj, List.getD_eq_getElem?_getD, List.getElem?_eq_getElem hj]
      rfl
theorem holds_new {w wr w1 : World} {xs : List Nat} {v v' : Value} {x : Nat} {o : Obj} (h : Holds w xs v wr) (hown : w1.ownsRow w.heap.size 3 1 v' (xs.length + 1) (xs.map pv ++ [.int .i64 (x : Int)])) (hg : (wr.alloc o).grownBy w1 v.ownBlock) :
    Holds w (xs ++ [x]) v' w1 := by
  refine ⟨?_, ?_⟩
  · rw [List.length_append, List.map_append]; exact hown
  · have hs := h.2.size
    exact (h.2.alloc hs o).grown hg (by rw [size_alloc]; omega) (fun k hk => (h.1.lt k hk).1)
theorem holds_lt {w wr : World} {xs : List Nat} {v : Value} (h : Holds w xs v wr) : w.heap.size ≤ wr.heap.size := h.2.size
theorem infoInt : (Try.prog.info? 3).map (fun i => (i.zero, i.size, i.bytes)) = some (some (.int .i64 0), 1, 8) := by kernel_rfl
theorem news_at {w : World} {v : Value} {T : Nat} : ∀ j u, [v][j]? = some u → (w.alloc (.cells #[v] T)).cell? ((⟨w.heap.size, 0, none⟩ : Addr).add j) = some u := by
  intro j u hj
  match j, hj with
  | 0, hj =>
    simp at hj
    subst hj
    simp [Addr.add]

set_option maxRecDepth 100000 in
set_option maxHeartbeats 1000000 in
theorem primes_in (n : Nat) (h1 : 1 ≤ n) (h2 : n ≤ 100) (w : World) :
    Calls Try.prog 43 #[.int .i64 (n : Int)] w fun e w' => ∃ v, e = .returned v ∧ Holds w (pr (n : Int)) v w' := by
  obtain ⟨i0, hi, hz0, hz1, hz2⟩ := info_parts infoInt
  have HI := Away.mk (And.intro hi (And.intro hz0 (And.intro hz1 hz2)))
  clear hi hz0 hz1 hz2
  have hst := holds_start w
  rw [← pl_two] at hst
  have Hst := Away.mk hst
  clear hst
  go_enter Try.func43, Try.ntmps43
  go_wp2_with fail
  go_loopw [3, 4] (fun v i wr => ∃ x : Nat, 2 ≤ x ∧ x ≤ 542 ∧ i = .int .i64 x ∧ Away (Holds w (pl x) v wr) ∧ (pl x).length ≤ n) (fun _ i _ => 542 - (intOf i).toNat)
  case atStart => exact ⟨2, by decide, by decide, rfl, Hst, by rw [pl_two]; exact Nat.zero_le _⟩
  case round =>
    obtain ⟨x, hx2, hx5, rfl, hf, hle⟩ := hrel
    clear Hst
    obtain ⟨L, HL⟩ := ex_eq (pl x).length
    rw [HL.out] at hle
    by_cases hlt : L < n
    · have hx : x < 542 := pl_room hx5 (by rw [HL.out]; omega)
      obtain ⟨xs, Hxs⟩ := ex_eq (pl x)
      have Hpos : Away (∀ p ∈ xs, 2 ≤ p ∧ p ≤ 541) := ⟨fun p hp => pl_pos (x := x) (by rw [Hxs.out]; exact hp)⟩
      rw [Hxs.out] at hf HL
      cases hd : dvd xs x
      · have Hnew : Away (pl (x + 1) = xs ++ [x]) := ⟨by rw [pl_new hx2 hx (by rw [Hxs.out]; exact hd), Hxs.out]⟩
        have HD := Away.mk hd
        clear hd
        have hsz := holds_lt hf.out
        rcases holds_open hf.out with ⟨rfl, rfl⟩ | ⟨g, cap, rfl, hg1, hg2, hcap, hcell⟩
        · obtain rfl : L = 0 := HL.out.symm
          go_wp2_with fail
          refine (divided_nil _ _).mono ?_
          rintro e w0 ⟨rfl, rfl⟩
          go_wp2_with (at_builtin; refine wpList_append_own _ rfl _ _ 43 rfl w.heap.size 3 i0 (.int .i64 0) 1 8 Try.underlying43 HI.out.1 HI.out.2.1 HI.out.2.2.1 HI.out.2.2.2 rfl (by decide) _ _ _ rfl (hf.out.1.alloc _) ⟨wr.heap.size, 0, none⟩ 1 1 [.int .i64 (x : Int)] rfl rfl news_at (fun u hu => by simp at hu; subst hu; rfl) (by simp [maxLen]) (by simp) (by simp; omega) ?_)
          intro v' w1 hown' hgrow _
          have R := holds_new hf.out hown' hgrow
          rw [← Hnew.out] at R
          have HR := Away.mk R
          clear hown' hgrow R
          go_wp2_with fail
          go_roundw
          case rel => exact ⟨x + 1, by omega, by omega, by go_num, HR, by rw [Hnew.out]; exact hlt⟩
          case measure => simp [intOf]; omega
        · rw [HL.out] at hcap hcell ⊢
          have Hown := Away.mk hf.out.1
          rw [HL.out] at Hown
          have HC := Away.mk hcell
          clear hcell
          have hL := pl_le x
          rw [Hxs.out, HL.out] at hL
          go_wp2_with fail
          rw [← HL.out]
          refine (divided_some x g cap xs _ (by omega) (by rw [HL.out]; exact hL) Hpos.out (by rw [HL.out]; exact HC.out)).mono ?_
          rintro e w0 ⟨rfl, rfl⟩
          rw [HD.out, HL.out]
          go_wp2_with (at_builtin; refine wpList_append_own _ rfl _ _ 43 rfl w.heap.size 3 i0 (.int .i64 0) 1 8 Try.underlying43 HI.out.1 HI.out.2.1 HI.out.2.2.1 HI.out.2.2.2 rfl (by decide) _ _ _ rfl (Hown.out.alloc _) ⟨wr.heap.size, 0, none⟩ 1 1 [.int .i64 (x : Int)] rfl rfl news_at (fun u hu => by simp at hu; subst hu; rfl) (by unfold maxLen; omega) (by omega) (by simp; omega) ?_)
          intro v' w1 hown' hgrow _
          rw [← HL.out] at hown' hgrow
          have R := holds_new hf.out hown' hgrow
          rw [← Hnew.out] at R
          have HR := Away.mk R
          clear hown' hgrow R
          go_wp2_with fail
          go_roundw
          case rel => exact ⟨x + 1, by omega, by omega, by go_num, HR, by rw [Hnew.out, List.length_append, HL.out]; exact hlt⟩
          case measure => simp [intOf]; omega
      · have Hnew : Away (pl (x + 1) = xs) := ⟨by rw [pl_hit hx2 hx (by rw [Hxs.out]; exact hd), Hxs.out]⟩
        have HD := Away.mk hd
        clear hd
        rcases holds_open hf.out with ⟨rfl, rfl⟩ | ⟨g, cap, rfl, hg1, hg2, hcap, hcell⟩
        · exact absurd HD.out (by simp [dvd])
        · rw [HL.out] at hcap hcell hf ⊢
          have HC := Away.mk hcell
          clear hcell
          have hL := pl_le x
          rw [Hxs.out, HL.out] at hL
          go_wp2_with fail
          rw [← HL.out]
          refine (divided_some x g cap xs _ (by omega) (by rw [HL.out]; exact hL) Hpos.out (by rw [HL.out]; exact HC.out)).mono ?_
          rintro e w0 ⟨rfl, rfl⟩
          rw [HD.out, HL.out]
          have R := hf.out
          rw [← Hnew.out] at R
          have HR := Away.mk R
          clear R
          go_wp2_with fail
          go_roundw
          case rel => exact ⟨x + 1, by omega, by omega, by go_num, HR, by rw [Hnew.out, HL.out]; exact hle⟩
          case measure => simp [intOf]; omega
    · obtain rfl : n = L := by omega
      have Hpr : Away (pl x = pr (n : Int)) := ⟨pr_of hx2 hx5 (by intro _; rw [HL.out]; simp) (by intro h; rw [HL.out]; omega)⟩
      rw [Hpr.out] at hf HL
      rcases holds_open hf.out with ⟨rfl, hnil⟩ | ⟨g, cap, rfl, hg1, hg2, hcap, hcell⟩
      · have h0 := HL.out
        rw [hnil] at h0
        simp at h0
        omega
      · rw [HL.out] at hf ⊢
        clear hcell hcap
        go_wp2_with fail
        go_ret
        exact ⟨_, rfl, hf.out⟩

set_option maxRecDepth 100000 in
set_option maxHeartbeats 1000000 in
theorem primes_over (n : Int) (h1 : 100 < n) (w : World) :
    Calls Try.prog 43 #[.int .i64 n] w fun e w' => ∃ v, e = .returned v ∧ Holds w (pr n) v w' := by
  obtain ⟨i0, hi, hz0, hz1, hz2⟩ := info_parts infoInt
  have HI := Away.mk (And.intro hi (And.intro hz0 (And.intro hz1 hz2)))
  clear hi hz0 hz1 hz2
  have hst := holds_start w
  rw [← pl_two] at hst
  have Hst := Away.mk hst
  clear hst
  go_enter Try.func43, Try.ntmps43
  go_wp2_with fail
  go_loopw [3, 4] (fun v i wr => ∃ x : Nat, 2 ≤ x ∧ x ≤ 542 ∧ i = .int .i64 x ∧ Away (Holds w (pl x) v wr) ∧ (pl x).length ≤ 100) (fun _ i _ => 542 - (intOf i).toNat)
  case atStart => exact ⟨2, by decide, by decide, rfl, Hst, by rw [pl_two]; exact Nat.zero_le _⟩
  case round =>
    obtain ⟨x, hx2, hx5, rfl, hf, hle⟩ := hrel
    clear Hst
    obtain ⟨L, HL⟩ := ex_eq (pl x).length
    rw [HL.out] at hle
    by_cases hlt : L < 100
    · have hx : x < 542 := pl_room hx5 (by rw [HL.out]; omega)
      obtain ⟨xs, Hxs⟩ := ex_eq (pl x)
      have Hpos : Away (∀ p ∈ xs, 2 ≤ p ∧ p ≤ 541) := ⟨fun p hp => pl_pos (x := x) (by rw [Hxs.out]; exact hp)⟩
      rw [Hxs.out] at hf HL
      cases hd : dvd xs x
      · have Hnew : Away (pl (x + 1) = xs ++ [x]) := ⟨by rw [pl_new hx2 hx (by rw [Hxs.out]; exact hd), Hxs.out]⟩
        have HD := Away.mk hd
        clear hd
        have hsz := holds_lt hf.out
        rcases holds_open hf.out with ⟨rfl, rfl⟩ | ⟨g, cap, rfl, hg1, hg2, hcap, hcell⟩
        · obtain rfl : L = 0 := HL.out.symm
          go_wp2_with fail
          refine (divided_nil _ _).mono ?_
          rintro e w0 ⟨rfl, rfl⟩
          go_wp2_with (at_builtin; refine wpList_append_own _ rfl _ _ 43 rfl w.heap.size 3 i0 (.int .i64 0) 1 8 Try.underlying43 HI.out.1 HI.out.2.1 HI.out.2.2.1 HI.out.2.2.2 rfl (by decide) _ _ _ rfl (hf.out.1.alloc _) ⟨wr.heap.size, 0, none⟩ 1 1 [.int .i64 (x : Int)] rfl rfl news_at (fun u hu => by simp at hu; subst hu; rfl) (by simp [maxLen]) (by simp) (by simp; omega) ?_)
          intro v' w1 hown' hgrow _
          have R := holds_new hf.out hown' hgrow
          rw [← Hnew.out] at R
          have HR := Away.mk R
          clear hown' hgrow R
          go_wp2_with fail
          go_roundw
          case rel => exact ⟨x + 1, by omega, by omega, by go_num, HR, by rw [Hnew.out]; exact hlt⟩
          case measure => simp [intOf]; omega
        · rw [HL.out] at hcap hcell ⊢
          have Hown := Away.mk hf.out.1
          rw [HL.out] at Hown
          have HC := Away.mk hcell
          clear hcell
          have hL := pl_le x
          rw [Hxs.out, HL.out] at hL
          go_wp2_with fail
          rw [← HL.out]
          refine (divided_some x g cap xs _ (by omega) (by rw [HL.out]; exact hL) Hpos.out (by rw [HL.out]; exact HC.out)).mono ?_
          rintro e w0 ⟨rfl, rfl⟩
          rw [HD.out, HL.out]
          go_wp2_with (at_builtin; refine wpList_append_own _ rfl _ _ 43 rfl w.heap.size 3 i0 (.int .i64 0) 1 8 Try.underlying43 HI.out.1 HI.out.2.1 HI.out.2.2.1 HI.out.2.2.2 rfl (by decide) _ _ _ rfl (Hown.out.alloc _) ⟨wr.heap.size, 0, none⟩ 1 1 [.int .i64 (x : Int)] rfl rfl news_at (fun u hu => by simp at hu; subst hu; rfl) (by unfold maxLen; omega) (by omega) (by simp; omega) ?_)
          intro v' w1 hown' hgrow _
          rw [← HL.out] at hown' hgrow
          have R := holds_new hf.out hown' hgrow
          rw [← Hnew.out] at R
          have HR := Away.mk R
          clear hown' hgrow R
          go_wp2_with fail
          go_roundw
          case rel => exact ⟨x + 1, by omega, by omega, by go_num, HR, by rw [Hnew.out, List.length_append, HL.out]; exact hlt⟩
          case measure => simp [intOf]; omega
      · have Hnew : Away (pl (x + 1) = xs) := ⟨by rw [pl_hit hx2 hx (by rw [Hxs.out]; exact hd), Hxs.out]⟩
        have HD := Away.mk hd
        clear hd
        rcases holds_open hf.out with ⟨rfl, rfl⟩ | ⟨g, cap, rfl, hg1, hg2, hcap, hcell⟩
        · exact absurd HD.out (by simp [dvd])
        · rw [HL.out] at hcap hcell hf ⊢
          have HC := Away.mk hcell
          clear hcell
          have hL := pl_le x
          rw [Hxs.out, HL.out] at hL
          go_wp2_with fail
          rw [← HL.out]
          refine (divided_some x g cap xs _ (by omega) (by rw [HL.out]; exact hL) Hpos.out (by rw [HL.out]; exact HC.out)).mono ?_
          rintro e w0 ⟨rfl, rfl⟩
          rw [HD.out, HL.out]
          have R := hf.out
          rw [← Hnew.out] at R
          have HR := Away.mk R
          clear R
          go_wp2_with fail
          go_roundw
          case rel => exact ⟨x + 1, by omega, by omega, by go_num, HR, by rw [Hnew.out, HL.out]; exact hle⟩
          case measure => simp [intOf]; omega
    · obtain rfl : L = 100 := by omega
      have Hpr : Away (pl x = pr n) := ⟨pr_of hx2 hx5 (by intro _; rw [HL.out]; omega) (by intro h; rw [HL.out])⟩
      rw [Hpr.out] at hf HL
      rcases holds_open hf.out with ⟨rfl, hnil⟩ | ⟨g, cap, rfl, hg1, hg2, hcap, hcell⟩
      · have h0 := HL.out
        rw [hnil] at h0
        simp at h0
      · rw [HL.out] at hf ⊢
        clear hcell hcap
        go_wp2_with fail
        go_ret
        exact ⟨_, rfl, hf.out⟩

set_option maxRecDepth 100000 in
set_option maxHeartbeats 400000 in
theorem primes_low (n : Int) (w : World) (h : n ≤ 0) :
    Calls Try.prog 43 #[.int .i64 n] w fun e w' => ∃ v, e = .returned v ∧ Holds w (pr n) v w' := by
  have hp : pr n = [] := by unfold pr; rw [show n.toNat = 0 by omega]; rfl
  have hst := holds_start w
  rw [← hp] at hst
  have Hst := Away.mk hst
  clear hst hp
  go_enter Try.func43, Try.ntmps43
  go_wp2_with fail
  refine wp_loop_rounds 1 ?_
  rw [rounds_succ]
  go_wp2_with fail
  go_ret
  exact ⟨_, rfl, Hst.out⟩

theorem primes_any (n : Int) (w : World) :
    Calls Try.prog 43 #[.int .i64 n] w fun e w' => ∃ v, e = .returned v ∧ Holds w (pr n) v w' := by
  by_cases h : n ≤ 0
  · exact primes_low n w h
  by_cases h1 : 100 < n
  · exact primes_over n h1 w
  obtain ⟨m, rfl⟩ := Int.eq_ofNat_of_zero_le (show 0 ≤ n by omega)
  exact primes_in m (by omega) (by omega) w

end Go.Proofs.Ythfljfampfioaaa.primes
