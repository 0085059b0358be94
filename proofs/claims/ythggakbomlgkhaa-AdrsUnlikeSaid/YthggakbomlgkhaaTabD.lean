/-
  Plain facts on long numbers as lists of parts of 32 bits, the lowest first (layer 2): their value, a product part by part, a comparison, roots bit by bit. No program is named here. Conditions: as each theorem says.
-/
import Derived.Below
namespace Go.Proofs.Ythggakbomlgkhaa.tabd

/-- the number whose parts are ds -/
def val : List Nat → Nat
  | [] => 0
  | d :: ds => d + 4294967296 * val ds
/-- the n lowest parts of v -/
def dg : Nat → Nat → List Nat
  | 0, _ => []
  | n + 1, v => v % 4294967296 :: dg n (v / 4294967296)
/-- 2 to the power 32 k -/
def bp (k : Nat) : Nat := 4294967296 ^ k
theorem bp_zero : bp 0 = 1 := rfl
theorem bp_succ (k : Nat) : bp (k + 1) = 4294967296 * bp k := by unfold bp; rw [Nat.pow_succ, Nat.mul_comm]
theorem bp_add (i j : Nat) : bp (i + j) = bp i * bp j := by unfold bp; rw [Nat.pow_add]
theorem bp_pos (k : Nat) : 0 < bp k := by unfold bp; exact Nat.pow_pos (by decide)
def Small (ds : List Nat) : Prop := ∀ d ∈ ds, d < 4294967296

theorem dg_length (n : Nat) : ∀ v, (dg n v).length = n := by
  induction n with
  | zero => intro v; rfl
  | succ n ih => intro v; simp [dg, ih]
theorem dg_small (n : Nat) : ∀ v, Small (dg n v) := by
  induction n with
  | zero => intro v d hd; simp [dg] at hd
  | succ n ih =>
    intro v d hd
    simp only [dg, List.mem_cons] at hd
    rcases hd with rfl | hd
    · omega
    · exact ih _ d hd
theorem val_dg (n : Nat) : ∀ v, val (dg n v) = v % bp n := by
  induction n with
  | zero => intro v; simp [dg, val, bp_zero, Nat.mod_one]
  | succ n ih =>
    intro v
    rw [dg, val, ih, bp_succ, Nat.mod_mul]
theorem dg_val (ds : List Nat) (h : Small ds) : dg ds.length (val ds) = ds := by
  induction ds with
  | nil => rfl
  | cons d ds ih =>
    have h1 : d < 4294967296 := h d (by simp)
    have h2 : Small ds := fun x hx => h x (by simp [hx])
    rw [List.length_cons, dg, val, Nat.add_mul_mod_self_left, Nat.mod_eq_of_lt h1, Nat.add_mul_div_left _ _ (by decide), Nat.div_eq_of_lt h1, Nat.zero_add, ih h2]
theorem dg_mod (n v : Nat) : dg n (v % bp n) = dg n v := by
  rw [← val_dg]
  have := dg_val (dg n v) (dg_small n v)
  rwa [dg_length] at this
theorem val_lt (ds : List Nat) (h : Small ds) : val ds < bp ds.length := by
  induction ds with
  | nil => simp [val, bp_zero]
  | cons d ds ih =>
    have h1 : d < 4294967296 := h d (by simp)
    have h2 := ih (fun x hx => h x (by simp [hx]))
    rw [List.length_cons, bp_succ, val]
    have := Nat.mul_le_mul_left 4294967296 (Nat.succ_le_of_lt h2)
    rw [Nat.mul_succ] at this
    omega
theorem small_set {ds : List Nat} (h : Small ds) (k : Nat) {x : Nat} (hx : x < 4294967296) : Small (ds.set k x) := by
  intro d hd
  rcases List.mem_or_eq_of_mem_set hd with h1 | h1
  · exact h d h1
  · omega
theorem val_set (ds : List Nat) : ∀ (k x : Nat), k < ds.length → val (ds.set k x) + ds.getD k 0 * bp k = val ds + x * bp k := by
  induction ds with
  | nil => intro k x h; simp at h
  | cons d ds ih =>
    intro k x h
    cases k with
    | zero => simp [val, bp_zero]; omega
    | succ k =>
      have := ih k x (by simpa using h)
      simp only [List.set_cons_succ, val, List.getD_cons_succ, bp_succ]
      have e1 : ds.getD k 0 * (4294967296 * bp k) = 4294967296 * (ds.getD k 0 * bp k) := by rw [Nat.mul_left_comm]
      have e2 : x * (4294967296 * bp k) = 4294967296 * (x * bp k) := by rw [Nat.mul_left_comm]
      rw [e1, e2]
      omega
theorem val_take_succ (ds : List Nat) : ∀ k, k < ds.length → val (ds.take (k + 1)) = val (ds.take k) + ds.getD k 0 * bp k := by
  induction ds with
  | nil => intro k h; simp at h
  | cons d ds ih =>
    intro k h
    cases k with
    | zero => simp [val, bp_zero]
    | succ k =>
      have := ih k (by simpa using h)
      simp only [List.take_succ_cons, val, List.getD_cons_succ, bp_succ]
      rw [this]
      have e1 : ds.getD k 0 * (4294967296 * bp k) = 4294967296 * (ds.getD k 0 * bp k) := by rw [Nat.mul_left_comm]
      rw [e1]
      omega
theorem val_split (ds : List Nat) : ∀ k, k ≤ ds.length → val ds = val (ds.take k) + bp k * val (ds.drop k) := by
  induction ds with
  | nil => intro k h; simp at h; subst h; simp [val]
  | cons d ds ih =>
    intro k h
    cases k with
    | zero => simp [val, bp_zero]
    | succ k =>
      have := ih k (by simpa using h)
      simp only [List.take_succ_cons, List.drop_succ_cons, val, bp_succ]
      rw [this, Nat.mul_add, Nat.mul_assoc]
      omega
theorem getD_small {ds : List Nat} (h : Small ds) (k : Nat) : ds.getD k 0 < 4294967296 := by
  rw [List.getD_eq_getElem?_getD]
  by_cases hk : k < ds.length
  · rw [List.getElem?_eq_getElem hk]; exact h _ (List.getElem_mem hk)
  · rw [List.getElem?_eq_none (by omega)]; decide

/-! ### A product, part by part -/
/-- before step j of round i: what the parts ds and the carry c stand for; N: what the parts stood for when the round began; x: part i of the first factor -/
def Mid (vs : List Nat) (N x i j : Nat) (ds : List Nat) (c : Nat) : Prop :=
  ds.length = 8 ∧ Small ds ∧ c < 4294967296 ∧ val ds + c * bp (i + j) = N + x * bp i * val (vs.take j)
theorem mid_start (vs ds : List Nat) (x i : Nat) (h : ds.length = 8) (hs : Small ds) : Mid vs (val ds) x i 0 ds 0 := by
  refine ⟨h, hs, by decide, ?_⟩
  simp [val]
theorem mid_step {vs : List Nat} {N x i j : Nat} {ds : List Nat} {c : Nat} (h : Mid vs N x i j ds c) (hx : x < 4294967296) (hvs : Small vs) (hl : j < vs.length) (hij : i + j < 8) :
    Mid vs N x i (j + 1) (ds.set (i + j) ((x * vs.getD j 0 + ds.getD (i + j) 0 + c) % 4294967296)) ((x * vs.getD j 0 + ds.getD (i + j) 0 + c) / 4294967296) := by
  obtain ⟨h1, h2, h3, h4⟩ := h
  have hv := getD_small hvs j
  have hd := getD_small h2 (i + j)
  have hp : x * vs.getD j 0 ≤ 4294967295 * 4294967295 := Nat.mul_le_mul (by omega) (by omega)
  refine ⟨by simpa using h1, small_set h2 _ (Nat.mod_lt _ (by decide)), by omega, ?_⟩
  rw [val_take_succ vs j hl, Nat.mul_add]
  have hs := val_set ds (i + j) ((x * vs.getD j 0 + ds.getD (i + j) 0 + c) % 4294967296) (by omega)
  generalize hd' : ds.getD (i + j) 0 = d at *
  generalize hv' : vs.getD j 0 = v at *
  generalize hq : x * v + d + c = q at *
  rw [show i + (j + 1) = (i + j) + 1 from rfl, bp_succ]
  have e1 : x * bp i * (v * bp j) = x * v * bp (i + j) := by
    rw [bp_add, Nat.mul_assoc, Nat.mul_assoc, Nat.mul_left_comm (bp i)]
  rw [e1]
  have e2 : q / 4294967296 * (4294967296 * bp (i + j)) + q % 4294967296 * bp (i + j) = (x * v) * bp (i + j) + d * bp (i + j) + c * bp (i + j) := by
    rw [← Nat.mul_assoc, ← Nat.add_mul, Nat.mul_comm (q / 4294967296), Nat.div_add_mod, ← hq, Nat.add_mul, Nat.add_mul]
  omega
theorem mid_bd {vs ds : List Nat} {x c j k : Nat} (hx : x < 4294967296) (hvs : Small vs) (hds : Small ds) (hc : c < 4294967296) :
    x * vs.getD j 0 ≤ 18446744065119617025 ∧ x * vs.getD j 0 + ds.getD k 0 ≤ 18446744069414584320 ∧ x * vs.getD j 0 + ds.getD k 0 + c ≤ 18446744073709551615 := by
  have hv := getD_small hvs j
  have hd := getD_small hds k
  have hp : x * vs.getD j 0 ≤ 4294967295 * 4294967295 := Nat.mul_le_mul (by omega) (by omega)
  omega
/-- before round i -/
def Top (us vs : List Nat) (i : Nat) (ds : List Nat) : Prop := ds.length = 8 ∧ Small ds ∧ val ds = val (us.take i) * val vs % bp 8
theorem top_start (us vs : List Nat) : Top us vs 0 (List.replicate 8 0) := ⟨rfl, by intro d hd; simp at hd; omega, by simp [val]⟩
theorem top_step {us vs ds' : List Nat} {N i c : Nat} (hN : N = val (us.take i) * val vs % bp 8) (hu : i < us.length) (hi : i ≤ 8) (hvl : vs.length = 8) (h : Mid vs N (us.getD i 0) i (8 - i) ds' c) : Top us vs (i + 1) ds' := by
  obtain ⟨h1, h2, h3, h4⟩ := h
  refine ⟨h1, h2, ?_⟩
  have hlt := val_lt ds' h2
  rw [h1] at hlt
  rw [show i + (8 - i) = 8 by omega] at h4
  rw [val_take_succ us i hu, Nat.add_mul]
  have hs := val_split vs (8 - i) (by omega)
  have e : us.getD i 0 * bp i * val vs = us.getD i 0 * bp i * val (vs.take (8 - i)) + bp 8 * (us.getD i 0 * val (vs.drop (8 - i))) := by
    rw [hs, Nat.mul_add]
    congr 1
    rw [show bp 8 = bp i * bp (8 - i) by rw [← bp_add]; congr 1; omega]
    simp only [Nat.mul_assoc, Nat.mul_left_comm]
  rw [e, ← Nat.add_assoc, Nat.add_mul_mod_self_left, Nat.add_mod, ← hN, Nat.add_mod_mod, ← h4, Nat.mul_comm c, Nat.add_mul_mod_self_left, Nat.mod_eq_of_lt hlt]
theorem top_end {us vs ds : List Nat} (hu : us.length = 8) (h : Top us vs 8 ds) : ds = dg 8 (val us * val vs) := by
  obtain ⟨h1, h2, h3⟩ := h
  rw [List.take_of_length_le (by omega)] at h3
  rw [← dg_mod, ← h3, ← h1]
  exact (dg_val ds h2).symm

/-! ### A comparison, from the highest part down -/
/-- the parts from k on are the same -/
def Same (a b : List Nat) (k : Nat) : Prop := a.drop k = b.drop k
theorem same_step {a b : List Nat} {k : Nat} (h : Same a b (k + 1)) (ha : k < a.length) (hb : k < b.length) (he : a.getD k 0 = b.getD k 0) : Same a b k := by
  unfold Same at *
  rw [List.drop_eq_getElem_cons ha, List.drop_eq_getElem_cons hb, h]
  simp only [List.getD_eq_getElem?_getD, List.getElem?_eq_getElem ha, List.getElem?_eq_getElem hb, Option.getD_some] at he
  rw [he]
theorem same_lt {a b : List Nat} {k : Nat} (h : Same a b (k + 1)) (ha : k < a.length) (hb : k < b.length) (sa : Small a) (hl : a.getD k 0 < b.getD k 0) : val a < val b := by
  rw [val_split a (k + 1) (by omega), val_split b (k + 1) (by omega), h, val_take_succ a k ha, val_take_succ b k hb]
  have h1 := val_lt (a.take k) (fun d hd => sa d (List.mem_of_mem_take hd))
  rw [List.length_take, Nat.min_eq_left (by omega)] at h1
  have h2 := Nat.mul_le_mul_right (bp k) (Nat.succ_le_of_lt hl)
  rw [Nat.succ_mul] at h2
  omega
theorem same_zero {a b : List Nat} (h : Same a b 0) : val a = val b := by unfold Same at h; simpa using congrArg val h

/-! ### Roots, bit by bit -/
/-- the greatest number of s bits whose power k is at most X, from its highest bit down: after n bits -/
def rt (s X k : Nat) : Nat → Nat
  | 0 => 0
  | n + 1 => if (rt s X k n + 2 ^ (s - 1 - n)) ^ k ≤ X then rt s X k n + 2 ^ (s - 1 - n) else rt s X k n
theorem rt_spec (s X k : Nat) (hk : k ≠ 0) (hX : X < (2 ^ s) ^ k) : ∀ n, n ≤ s → 2 ^ (s - n) ∣ rt s X k n ∧ rt s X k n + 2 ^ (s - n) ≤ 2 ^ s ∧ rt s X k n ^ k ≤ X ∧ X < (rt s X k n + 2 ^ (s - n)) ^ k := by
  intro n
  induction n with
  | zero => intro _; refine ⟨⟨0, rfl⟩, ?_, ?_, ?_⟩ <;> simp [rt, hX, Nat.zero_pow (Nat.pos_of_ne_zero hk)]
  | succ n ih =>
    intro hn
    obtain ⟨h1, h2, h3, h4⟩ := ih (by omega)
    have e1 : s - n = s - 1 - n + 1 := by omega
    have e2 : s - (n + 1) = s - 1 - n := by omega
    rw [e1, Nat.pow_succ] at h1 h2 h4
    rw [e2, rt]
    have hd : 2 ^ (s - 1 - n) ∣ rt s X k n := Nat.dvd_trans ⟨2, rfl⟩ h1
    split
    · rename_i hc
      refine ⟨Nat.dvd_add hd (Nat.dvd_refl _), by omega, hc, ?_⟩
      rw [Nat.add_assoc, ← Nat.mul_two]; exact h4
    · rename_i hc
      exact ⟨hd, by omega, h3, by omega⟩
theorem root_unique {a b X k : Nat} (h1 : a ^ k ≤ X) (h2 : X < (b + 1) ^ k) : a ≤ b := by
  by_cases h : a ≤ b
  · exact h
  · exfalso
    have : (b + 1) ^ k ≤ a ^ k := Nat.pow_le_pow_left (by omega) k
    omega
theorem rt_unique (s X k y : Nat) (hk : k ≠ 0) (hX : X < (2 ^ s) ^ k) (h1 : y ^ k ≤ X) (h2 : X < (y + 1) ^ k) : rt s X k s = y := by
  obtain ⟨-, -, h3, h4⟩ := rt_spec s X k hk hX s (Nat.le_refl _)
  rw [Nat.sub_self, Nat.pow_zero] at h4
  exact Nat.le_antisymm (root_unique h3 h2) (root_unique h1 h4)
/-- the whole part of p's root of power k, with 64 bits of its fraction in front of the point -/
def rootN (p k : Nat) : Nat := rt 69 (p * bp (2 * k)) k 69
theorem root_bd (p k s : Nat) (hp : p ≤ 1000) (hk : k = 2 ∨ k = 3) (hs : 69 ≤ s) : p * bp (2 * k) < (2 ^ s) ^ k := by
  have h1 : p * bp (2 * k) < (2 ^ 69) ^ k := by
    have h0 : p * bp (2 * k) ≤ 1000 * bp (2 * k) := Nat.mul_le_mul_right _ hp
    rcases hk with rfl | rfl
    · exact Nat.lt_of_le_of_lt h0 (by decide)
    · exact Nat.lt_of_le_of_lt h0 (by decide)
  exact Nat.lt_of_lt_of_le h1 (Nat.pow_le_pow_left (Nat.pow_le_pow_right (by decide) hs) k)
theorem rootN_of (p k s : Nat) (hp : p ≤ 1000) (hk : k = 2 ∨ k = 3) (hs : 69 ≤ s) : rt s (p * bp (2 * k)) k s = rootN p k := by
  have hk0 : k ≠ 0 := by omega
  obtain ⟨-, -, h3, h4⟩ := rt_spec 69 _ k hk0 (root_bd p k 69 hp hk (by omega)) 69 (Nat.le_refl _)
  rw [Nat.sub_self, Nat.pow_zero] at h4
  exact rt_unique s _ k _ hk0 (root_bd p k s hp hk hs) h3 h4
theorem rootN_is (p k y : Nat) (hp : p ≤ 1000) (hk : k = 2 ∨ k = 3) (h1 : y ^ k ≤ p * bp (2 * k)) (h2 : p * bp (2 * k) < (y + 1) ^ k) : rootN p k = y :=
  rt_unique 69 _ k y (by omega) (root_bd p k 69 hp hk (by omega)) h1 h2

theorem getD_dg (n : Nat) : ∀ v k, k < n → (dg n v).getD k 0 = v / bp k % 4294967296 := by
  induction n with
  | zero => intro v k h; omega
  | succ n ih =>
    intro v k h
    cases k with
    | zero => simp [dg, bp_zero]
    | succ k =>
      rw [dg, List.getD_cons_succ, ih _ _ (by omega), bp_succ, Nat.div_div_eq_div_mul]
theorem bp_pow (k : Nat) : bp k = 2 ^ (32 * k) := by
  unfold bp; rw [Nat.pow_mul]
/-- a bit that is set below all bits of a long number -/
theorem dg_bit (y b : Nat) (hb : b < 256) (hy : 2 ^ (b + 1) ∣ y) (hlt : y + 2 ^ b < bp 8) :
    (dg 8 y).set (b / 32) ((dg 8 y).getD (b / 32) 0 ||| 2 ^ (b % 32)) = dg 8 (y + 2 ^ b) ∧ (dg 8 y).getD (b / 32) 0 ||| 2 ^ (b % 32) < 4294967296 := by
  have hq : b / 32 < 8 := by omega
  have hd := getD_dg 8 y (b / 32) hq
  have hdl := getD_small (dg_small 8 y) (b / 32)
  have hdv : (dg 8 y).getD (b / 32) 0 % 2 ^ (b % 32 + 1) = 0 := by
    obtain ⟨t, rfl⟩ := hy
    rw [hd, bp_pow, show b + 1 = 32 * (b / 32) + (b % 32 + 1) by omega, Nat.pow_add, Nat.mul_assoc, Nat.mul_div_cancel_left _ (Nat.two_pow_pos _)]
    rw [show (4294967296 : Nat) = 2 ^ (b % 32 + 1) * 2 ^ (32 - (b % 32 + 1)) by rw [← Nat.pow_add, show b % 32 + 1 + (32 - (b % 32 + 1)) = 32 by omega]]
    rw [Nat.mod_mul_right_mod, Nat.mul_mod_right]
  have hor : (dg 8 y).getD (b / 32) 0 ||| 2 ^ (b % 32) = (dg 8 y).getD (b / 32) 0 + 2 ^ (b % 32) := by
    have hp : 2 ^ (b % 32) < 2 ^ (b % 32 + 1) := Nat.pow_lt_pow_right (by decide) (by omega)
    obtain ⟨c, hc⟩ := Nat.dvd_of_mod_eq_zero hdv
    have h := Nat.shiftLeft_add_eq_or_of_lt (i := b % 32 + 1) (b := 2 ^ (b % 32)) hp c
    rw [Nat.shiftLeft_eq] at h
    rw [hc, Nat.mul_comm]
    exact h.symm
  have hol : (dg 8 y).getD (b / 32) 0 ||| 2 ^ (b % 32) < 4294967296 := by
    have : (2 : Nat) ^ (b % 32) < 2 ^ 32 := Nat.pow_lt_pow_right (by decide) (by omega)
    exact Nat.or_lt_two_pow (n := 32) (by simpa using hdl) this
  refine ⟨?_, hol⟩
  have hv := val_set (dg 8 y) (b / 32) ((dg 8 y).getD (b / 32) 0 ||| 2 ^ (b % 32)) (by rw [dg_length]; exact hq)
  have hv2 : val ((dg 8 y).set (b / 32) ((dg 8 y).getD (b / 32) 0 ||| 2 ^ (b % 32))) = y + 2 ^ b := by
    have e3 : 2 ^ (b % 32) * bp (b / 32) = 2 ^ b := by rw [bp_pow, ← Nat.pow_add]; congr 1; omega
    have e4 : val (dg 8 y) = y := by rw [val_dg]; exact Nat.mod_eq_of_lt (by omega)
    rw [e4] at hv
    rw [show ((dg 8 y).getD (b / 32) 0 ||| 2 ^ (b % 32)) * bp (b / 32) = (dg 8 y).getD (b / 32) 0 * bp (b / 32) + 2 ^ b by rw [hor, Nat.add_mul, e3]] at hv
    omega
  have hs := dg_val _ (small_set (dg_small 8 y) (b / 32) hol)
  rw [List.length_set, dg_length, hv2] at hs
  exact hs.symm
/-- the parts of p times 2 to the power 64 k -/
def top (p k : Nat) : List Nat := if k = 2 then [0, 0, 0, 0, p, 0, 0, 0] else [0, 0, 0, 0, 0, 0, p, 0]
theorem top_length (p k : Nat) : (top p k).length = 8 := by unfold top; split <;> rfl
theorem top_small (p k : Nat) (hp : p ≤ 1000) : Small (top p k) := by
  unfold top
  split <;> (intro d hd; simp at hd; omega)
theorem val_top (p k : Nat) (hk : k = 2 ∨ k = 3) : val (top p k) = p * bp (2 * k) := by
  rcases hk with rfl | rfl <;> (simp [top, val, bp]; omega)
/-- what one round of the search needs to know of s bits -/
theorem rt_round {s p k n y : Nat} (hk : k = 2 ∨ k = 3) (hp : p ≤ 1000) (hs : 69 ≤ s) (hs2 : s ≤ 70) (hn : n < s) (hy : rt s (p * bp (2 * k)) k n = y) :
    2 ^ (s - 1 - n + 1) ∣ y ∧ y + 2 ^ (s - 1 - n) < bp 8 ∧ val (dg 8 (y + 2 ^ (s - 1 - n))) = y + 2 ^ (s - 1 - n) ∧
    val (dg 8 ((y + 2 ^ (s - 1 - n)) ^ k)) = (y + 2 ^ (s - 1 - n)) ^ k ∧
    rt s (p * bp (2 * k)) k (n + 1) = if (y + 2 ^ (s - 1 - n)) ^ k ≤ p * bp (2 * k) then y + 2 ^ (s - 1 - n) else y := by
  obtain ⟨h1, h2, -, -⟩ := rt_spec s (p * bp (2 * k)) k (by omega) (root_bd p k s hp hk hs) n (by omega)
  rw [hy] at h1 h2
  have e1 : s - n = s - 1 - n + 1 := by omega
  rw [e1] at h1 h2
  rw [Nat.pow_succ] at h2
  have h3 : (2 : Nat) ^ s ≤ 2 ^ 70 := Nat.pow_le_pow_right (by decide) hs2
  have hb : (2 : Nat) ^ 70 < bp 8 := by decide
  have hlt : y + 2 ^ (s - 1 - n) ≤ 2 ^ 70 := by omega
  have hpow : (y + 2 ^ (s - 1 - n)) ^ k < bp 8 := by
    refine Nat.lt_of_le_of_lt (Nat.pow_le_pow_left hlt k) ?_
    rcases hk with rfl | rfl <;> decide
  refine ⟨h1, by omega, by rw [val_dg]; exact Nat.mod_eq_of_lt (by omega), by rw [val_dg]; exact Nat.mod_eq_of_lt hpow, ?_⟩
  rw [rt, hy]
/-- the two lowest parts together -/
theorem low_parts (y : Nat) : (dg 8 y).getD 1 0 * 4294967296 + (dg 8 y).getD 0 0 = y % 18446744073709551616 := by
  rw [getD_dg 8 y 1 (by decide), getD_dg 8 y 0 (by decide)]
  simp only [bp, Nat.pow_one, Nat.pow_zero, Nat.div_one]
  omega
end Go.Proofs.Ythggakbomlgkhaa.tabd
