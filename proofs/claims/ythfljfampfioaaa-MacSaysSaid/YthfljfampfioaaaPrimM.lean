/-
  Plain facts on the first hundred primes (layer 2). No program is named here. Conditions: as each theorem says.
-/
import Derived.Below
namespace Go.Proofs.Ythfljfampfioaaa.primm

/-- the first hundred primes -/
def ph : List Nat := [2, 3, 5, 7, 11, 13, 17, 19, 23, 29, 31, 37, 41, 43, 47, 53, 59, 61, 67, 71, 73, 79, 83, 89, 97, 101, 103, 107, 109, 113, 127, 131, 137, 139, 149, 151, 157, 163, 167, 173, 179, 181, 191, 193, 197, 199, 211, 223, 227, 229, 233, 239, 241, 251, 257, 263, 269, 271, 277, 281, 283, 293, 307, 311, 313, 317, 331, 337, 347, 349, 353, 359, 367, 373, 379, 383, 389, 397, 401, 409, 419, 421, 431, 433, 439, 443, 449, 457, 461, 463, 467, 479, 487, 491, 499, 503, 509, 521, 523, 541]
/-- those below x -/
def pl (x : Nat) : List Nat := ph.filter (fun p => p < x)
/-- does one of them divide x? -/
def dvd (l : List Nat) (x : Nat) : Bool := l.any (fun p => x % p == 0)
/-- the first n of them -/
def pr (n : Int) : List Nat := ph.take n.toNat

theorem ph_length : ph.length = 100 := by decide
theorem ph_pos : ∀ p ∈ ph, 2 ≤ p ∧ p ≤ 541 := by decide
def okAt (x : Nat) : Bool :=
  if dvd (pl x) x then pl (x + 1) == pl x else pl (x + 1) == pl x ++ [x]
set_option maxRecDepth 100000 in
theorem ok_all : (List.range 542).all (fun x => x < 2 || (okAt x && (pl x == ph.take (pl x).length))) = true := by decide +kernel
theorem ok_at {x : Nat} (h1 : 2 ≤ x) (h2 : x < 542) : okAt x = true ∧ pl x = ph.take (pl x).length := by
  have h := List.all_eq_true.1 ok_all x (by simpa using h2)
  simp only [Bool.or_eq_true, decide_eq_true_eq, Bool.and_eq_true, beq_iff_eq] at h
  rcases h with h | h
  · omega
  · exact h
theorem pl_two : pl 2 = [] := by decide
set_option maxRecDepth 100000 in
theorem pl_end : pl 542 = ph := by decide +kernel
theorem pl_hit {x : Nat} (h1 : 2 ≤ x) (h2 : x < 542) (hd : dvd (pl x) x = true) : pl (x + 1) = pl x := by
  have h := (ok_at h1 h2).1
  unfold okAt at h
  rw [if_pos hd] at h
  simpa using h
theorem pl_new {x : Nat} (h1 : 2 ≤ x) (h2 : x < 542) (hd : dvd (pl x) x = false) : pl (x + 1) = pl x ++ [x] := by
  have h := (ok_at h1 h2).1
  unfold okAt at h
  rw [if_neg (by simp [hd])] at h
  simpa using h
theorem pl_take {x : Nat} (h1 : 2 ≤ x) (h2 : x ≤ 542) : pl x = ph.take (pl x).length := by
  by_cases h : x < 542
  · exact (ok_at h1 h).2
  · obtain rfl : x = 542 := by omega
    rw [pl_end, List.take_length]
theorem pl_le (x : Nat) : (pl x).length ≤ 100 := by
  rw [← ph_length]; exact List.length_filter_le _ _
theorem pl_pos {x p : Nat} (h : p ∈ pl x) : 2 ≤ p ∧ p ≤ 541 := ph_pos p (List.mem_filter.1 h).1
theorem pl_room {x : Nat} (h2 : x ≤ 542) (hl : (pl x).length < 100) : x < 542 := by
  by_cases h : x < 542
  · exact h
  · obtain rfl : x = 542 := by omega
    rw [pl_end, ph_length] at hl; omega
theorem pr_of {x : Nat} {n : Int} (h1 : 2 ≤ x) (h2 : x ≤ 542) (hl : n ≤ 100 → (pl x).length = n.toNat) (hg : 100 < n → (pl x).length = 100) : pl x = pr n := by
  have h := pl_take h1 h2
  unfold pr
  by_cases hn : n ≤ 100
  · rw [hl hn] at h; exact h
  · rw [hg (by omega)] at h
    rw [h, List.take_of_length_le (by rw [ph_length]; omega), List.take_of_length_le (by rw [ph_length]; omega)]
theorem dvd_nil (x : Nat) : dvd [] x = false := rfl
theorem dvd_snoc (l : List Nat) (p x : Nat) : dvd (l ++ [p]) x = (dvd l x || (x % p == 0)) := by simp [dvd]
theorem dvd_hit {l : List Nat} {k x : Nat} (hk : k < l.length) (h : x % l.getD k 0 = 0) : dvd l x = true := by
  rw [List.getD_eq_getElem?_getD, List.getElem?_eq_getElem hk] at h
  exact List.any_eq_true.2 ⟨l[k], List.getElem_mem hk, by simpa using h⟩
theorem take_snoc {l : List Nat} {k : Nat} (hk : k < l.length) : l.take (k + 1) = l.take k ++ [l.getD k 0] := by
  rw [List.take_succ_eq_append_getElem hk, List.getD_eq_getElem?_getD, List.getElem?_eq_getElem hk]; rfl
end Go.Proofs.Ythfljfampfioaaa.primm
