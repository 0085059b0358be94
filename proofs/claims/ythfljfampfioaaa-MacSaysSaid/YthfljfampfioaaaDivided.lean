/-
  What tables.divided returns for a number and a slice of primes: whether one of them divides it. Conditions: the slice's elements are from 2 to 541, and at most 100.
-/
import Derived.Test.YthfljfampfioaaaProg
import Derived.Test.YthfljfampfioaaaPrimM
import Derived.Test.YthfljfampfioaaaArr
namespace Go.Proofs.Ythfljfampfioaaa.divided
open Go.RowKit
open Go.Proofs.Ythfljfampfioaaa.primm Go.Proofs.Ythfljfampfioaaa.arr

set_option maxHeartbeats 400000 in
theorem divided_nil (x : Nat) (w : World) :
    Calls Try.prog 62 #[.int .i64 x, .slice none 0 0] w fun e w' => e = .returned (.bool false) ∧ w = w' := by
  go_enter Try.func62, Try.ntmps62
  go_wp2_with fail
  refine wp_loop_rounds 1 ?_
  rw [rounds_succ]
  go_wp2_with fail
  go_ret
  exact ⟨rfl, rfl⟩
set_option maxHeartbeats 400000 in
theorem divided_some (x g cap : Nat) (xs : List Nat) (w : World) (hx : x ≤ 1000) (hl : xs.length ≤ 100) (hp : ∀ p ∈ xs, 2 ≤ p ∧ p ≤ 541)
    (hc : ∀ j, j < xs.length → w.cell? ⟨g, j, none⟩ = some (.int .i64 (xs.getD j 0 : Nat))) :
    Calls Try.prog 62 #[.int .i64 x, .slice (some ⟨g, 0, none⟩) xs.length cap] w fun e w' => e = .returned (.bool (dvd xs x)) ∧ w = w' := by
  have Hp := Away.mk hp
  have Hc := Away.mk hc
  clear hp hc
  obtain ⟨n, Hn⟩ := ex_eq xs.length
  rw [Hn.out] at hl ⊢
  go_enter Try.func62, Try.ntmps62
  go_wp2_with fail
  go_loop [9] (fun i => ∃ k : Nat, k ≤ n ∧ i = .int .i64 k ∧ Away (dvd (xs.take k) x = false)) (fun i => n - (intOf i).toNat)
  case atStart => exact ⟨0, Nat.zero_le _, rfl, ⟨rfl⟩⟩
  case round =>
    obtain ⟨k, hk, rfl, Hd⟩ := hrel
    by_cases hlt : k < n
    · have hcell := Hc.out k (by rw [Hn.out]; exact hlt)
      have hb : 2 ≤ xs.getD k 0 ∧ xs.getD k 0 ≤ 541 := Hp.out _ (by
        rw [List.getD_eq_getElem?_getD, List.getElem?_eq_getElem (by rw [Hn.out]; exact hlt)]; exact List.getElem_mem _)
      have Hs := Away.mk (take_snoc (l := xs) (k := k) (by rw [Hn.out]; exact hlt))
      have hit := dvd_hit (l := xs) (k := k) (x := x) (by rw [Hn.out]; exact hlt)
      obtain ⟨p, hpp⟩ : ∃ p, xs.getD k 0 = p := ⟨_, rfl⟩
      rw [hpp] at hcell hb Hs hit
      clear hpp
      by_cases hm : x % p = 0
      · have Hh := Away.mk (hit hm)
        have b1 : ((x : Int) % (p : Int) == 0) = true := beq_iff_eq.2 (by exact_mod_cast hm)
        clear hit hm
        go_wp2_with fail
        go_ret
        exact ⟨ret_b Hh.out.symm, rfl⟩
      · have b1 : ((x : Int) % (p : Int) == 0) = false := beq_eq_false_iff_ne.2 (by exact_mod_cast hm)
        have Hn2 : Away (dvd (xs.take (k + 1)) x = false) := ⟨by rw [Hs.out, dvd_snoc, Hd.out]; simpa using hm⟩
        clear hit hm
        go_wp2_with fail
        go_round
        case rel => exact ⟨k + 1, by omega, by go_num, Hn2⟩
        case measure => simp [intOf]; omega
    · obtain rfl : k = n := by omega
      have Hh : Away (dvd xs x = false) := ⟨by rw [← Hd.out, List.take_of_length_le (by rw [Hn.out]; exact Nat.le_refl _)]⟩
      go_wp2_with fail
      go_ret
      exact ⟨ret_b Hh.out.symm, rfl⟩
end Go.Proofs.Ythfljfampfioaaa.divided
