/-
  Hints as bytes, and bytes as hints: what is laid is read, and what is read is laid so again. No function of a program is named here. Conditions: as each theorem says.
-/
import Derived.Test.YtdlolhilmhlklaaDoorBiD
namespace Go.Proofs.YtdlolhilmhlklaaDoor.hinm
open Go Go.RowKit
open Go.Proofs.YtdlolhilmhlklaaDoor.arr Go.Proofs.YtdlolhilmhlklaaDoor.mem Go.Proofs.YtdlolhilmhlklaaDoor.polys Go.Proofs.YtdlolhilmhlklaaDoor.rbitb Go.Proofs.YtdlolhilmhlklaaDoor.rbitc Go.Proofs.YtdlolhilmhlklaaDoor.rbith Go.Proofs.YtdlolhilmhlklaaDoor.rbitu

theorem getD_set (L : List Nat) (i v j : Nat) : (L.set i v).getD j 0 = if i = j ∧ i < L.length then v else L.getD j 0 := by
  simp only [List.getD_eq_getElem?_getD, List.getElem?_set]
  by_cases h : i = j
  · subst h
    by_cases h2 : i < L.length
    · simp [h2]
    · simp [h2]
  · simp [h]
/-! ### What is laid -/
theorem cnt_lt (f : Nat → Int) {k k' : Nat} (h : f k ≠ 0) (hk : k < k') : cnt f k + 1 ≤ cnt f k' := by
  have := cnt_mono f (k + 1) k' hk
  rw [cnt, if_neg h] at this
  exact this
theorem put_at (f : Nat → Int) (n : Nat) (S : List Nat) (k : Nat) (hS : n + cnt f k ≤ S.length) :
    (∀ x, x < k → f x ≠ 0 → (put f n S k).getD (n + cnt f x) 0 = x) ∧ ∀ j, (j < n ∨ n + cnt f k ≤ j) → (put f n S k).getD j 0 = S.getD j 0 := by
  induction k with
  | zero => exact ⟨fun x hx => by omega, fun j _ => rfl⟩
  | succ k ih =>
    rw [cnt] at hS ⊢
    by_cases hf : f k = 0
    · rw [if_pos hf, Nat.add_zero] at hS ⊢
      obtain ⟨h1, h2⟩ := ih hS
      rw [put, if_pos hf]
      refine ⟨fun x hx hx0 => h1 x ?_ hx0, h2⟩
      rcases Nat.lt_or_ge x k with h | h
      · exact h
      · exact absurd (show f x = 0 by rw [show x = k by omega]; exact hf) hx0
    · rw [if_neg hf] at hS ⊢
      obtain ⟨h1, h2⟩ := ih (by omega)
      rw [put, if_neg hf]
      refine ⟨fun x hx hx0 => ?_, fun j hj => ?_⟩
      · rw [getD_set]
        by_cases e : x = k
        · subst e
          rw [if_pos ⟨rfl, by rw [put_length]; omega⟩]
        · have := cnt_lt f hx0 (show x < k by omega)
          rw [if_neg (by omega)]
          exact h1 x (by omega) hx0
      · rw [getD_set, if_neg (by omega)]
        exact h2 j (by omega)
theorem lay_at (q : Nat → Nat → Int) (om m i : Nat) (hi : i ≤ m) (ht : tot q i ≤ om) :
    (∀ a, a < i → (lay q om m i).getD (om + a) 0 = tot q (a + 1)) ∧
    (∀ a, a < i → ∀ x, x < 256 → q a x ≠ 0 → (lay q om m i).getD (tot q a + cnt (q a) x) 0 = x) ∧
    ∀ j, tot q i ≤ j → j < om → (lay q om m i).getD j 0 = 0 := by
  induction i with
  | zero =>
    refine ⟨fun a h => by omega, fun a h => by omega, fun j _ hj => ?_⟩
    rw [lay, List.getD_eq_getElem?_getD, List.getElem?_replicate, if_pos (by omega)]
    rfl
  | succ i ih =>
    have ht2 : tot q i + cnt (q i) 256 ≤ om := ht
    obtain ⟨h1, h2, h3⟩ := ih (by omega) (by omega)
    obtain ⟨p1, p2⟩ := put_at (q i) (tot q i) (lay q om m i) 256 (by rw [lay_length]; omega)
    refine ⟨fun a ha => ?_, fun a ha x hx hx0 => ?_, fun j hj1 hj2 => ?_⟩
    · rw [lay, getD_set]
      by_cases e : a = i
      · subst e
        rw [if_pos ⟨rfl, by rw [put_length, lay_length]; omega⟩]
      · rw [if_neg (by omega), p2 _ (Or.inr (by omega))]
        exact h1 a (by omega)
    · rw [lay, getD_set]
      by_cases e : a = i
      · subst e
        have := cnt_lt (q a) hx0 (show x < 256 by omega)
        rw [if_neg (by omega)]
        exact p1 x hx hx0
      · have h4 := tot_mono q (a + 1) i (by omega)
        have h5 := cnt_lt (q a) hx0 (show x < 256 by omega)
        have h6 : tot q (a + 1) = tot q a + cnt (q a) 256 := rfl
        rw [if_neg (by omega), p2 _ (Or.inl (by omega))]
        exact h2 a (by omega) x hx hx0
    · have hj1' : tot q i + cnt (q i) 256 ≤ j := hj1
      rw [lay, getD_set, if_neg (by omega), p2 _ (Or.inr hj1')]
      exact h3 j (by omega) hj2
theorem cnt_hit (f : Nat → Int) (K r : Nat) (h : r < cnt f K) : ∃ x, x < K ∧ f x ≠ 0 ∧ cnt f x = r := by
  induction K with
  | zero => simp [cnt] at h
  | succ K ih =>
    rw [cnt] at h
    by_cases hf : f K = 0
    · rw [if_pos hf] at h
      obtain ⟨x, h1, h2⟩ := ih h
      exact ⟨x, by omega, h2⟩
    · rw [if_neg hf] at h
      by_cases hr : r < cnt f K
      · obtain ⟨x, h1, h2⟩ := ih hr
        exact ⟨x, by omega, h2⟩
      · exact ⟨K, by omega, hf, by omega⟩
theorem mk_is (β : Nat → Nat) (a t x : Nat) : (mk β a t x = 1 ∧ ∃ j, j < t ∧ β (a + j) = x) ∨ (mk β a t x = 0 ∧ ∀ j, j < t → β (a + j) ≠ x) := by
  induction t with
  | zero => exact Or.inr ⟨rfl, fun j h => by omega⟩
  | succ t ih =>
    rw [mk]
    unfold upd
    by_cases e : x = β (a + t)
    · rw [if_pos e]
      exact Or.inl ⟨rfl, t, by omega, e.symm⟩
    · rw [if_neg e]
      rcases ih with ⟨h1, j, h2, h3⟩ | ⟨h1, h2⟩
      · exact Or.inl ⟨h1, j, by omega, h3⟩
      · refine Or.inr ⟨h1, fun j hj => ?_⟩
        by_cases ej : j = t
        · subst ej; exact fun h => e h.symm
        · exact h2 j (by omega)
section
variable (q : Nat → Nat → Int) (om m : Nat) (ht : tot q m ≤ om)
include ht
theorem fr_lay (i : Nat) (hi : i ≤ m) : fr (fun j => (lay q om m m).getD j 0) om i = tot q i := by
  cases i with
  | zero => rfl
  | succ i => exact (lay_at q om m m (Nat.le_refl _) ht).1 i (by omega)
theorem uok_lay : uok (fun j => (lay q om m m).getD j 0) om m := by
  obtain ⟨h1, h2, h3⟩ := lay_at q om m m (Nat.le_refl _) ht
  refine ⟨fun i hi => ?_, fun k hk1 hk2 => ?_⟩
  · unfold one
    rw [fr_lay q om m ht i (by omega), fr_lay q om m ht (i + 1) (by omega)]
    have e : tot q (i + 1) = tot q i + cnt (q i) 256 := rfl
    have hm := tot_mono q (i + 1) m (by omega)
    refine ⟨by omega, by omega, fun k hk1 hk2 => ?_⟩
    obtain ⟨x, x1, x2, x3⟩ := cnt_hit (q i) 256 (k - tot q i) (by omega)
    obtain ⟨y, y1, y2, y3⟩ := cnt_hit (q i) 256 (k - 1 - tot q i) (by omega)
    have e1 := h2 i hi x x1 x2
    have e2 := h2 i hi y y1 y2
    rw [x3, show tot q i + (k - tot q i) = k by omega] at e1
    rw [y3, show tot q i + (k - 1 - tot q i) = k - 1 by omega] at e2
    show (lay q om m m).getD (k - 1) 0 < (lay q om m m).getD k 0
    rw [e1, e2]
    rcases Nat.lt_or_ge y x with h | h
    · exact h
    · have := cnt_mono (q i) x y h
      omega
  · rw [fr_lay q om m ht m (Nat.le_refl _)] at hk1
    exact h3 k hk1 hk2
theorem ply_lay (i : Nat) (hi : i < m) (x : Nat) (hx : x < 256) : ply (fun j => (lay q om m m).getD j 0) om i x = if q i x = 0 then 0 else 1 := by
  obtain ⟨h1, h2, h3⟩ := lay_at q om m m (Nat.le_refl _) ht
  unfold ply
  rw [fr_lay q om m ht i (by omega), fr_lay q om m ht (i + 1) (by omega)]
  have e : tot q (i + 1) = tot q i + cnt (q i) 256 := rfl
  rw [show tot q (i + 1) - tot q i = cnt (q i) 256 by omega]
  rcases mk_is (fun j => (lay q om m m).getD j 0) (tot q i) (cnt (q i) 256) x with ⟨g1, j, g2, g3⟩ | ⟨g1, g2⟩
  · rw [g1, if_neg]
    intro hq
    obtain ⟨y, y1, y2, y3⟩ := cnt_hit (q i) 256 j g2
    have e1 := h2 i hi y y1 y2
    rw [y3] at e1
    have e2 : y = x := e1.symm.trans g3
    rw [e2] at y2
    exact y2 hq
  · rw [g1]
    by_cases hq : q i x = 0
    · rw [if_pos hq]
    · exact absurd (h2 i hi x hx hq) (g2 _ (by have := cnt_lt (q i) hq hx; omega))
end
/-! ### What is read -/
theorem up_of (b : Nat → Nat) (c : Nat) (h : ∀ j, j + 1 < c → b j < b (j + 1)) (i j : Nat) (hij : i < j) (hj : j < c) : b i < b j := by
  induction j with
  | zero => omega
  | succ j ih =>
    rcases Nat.lt_or_ge i j with h1 | h1
    · exact Nat.lt_trans (ih h1 (by omega)) (h j hj)
    · rw [show i = j by omega]; exact h j hj
theorem cnt_up (f : Nat → Int) (b : Nat → Nat) (c : Nat) (hb : ∀ i j, i < j → j < c → b i < b j) (hf : ∀ x, f x ≠ 0 ↔ ∃ j, j < c ∧ b j = x) (k : Nat) :
    cnt f k ≤ c ∧ (∀ j, j < cnt f k → b j < k) ∧ ∀ j, cnt f k ≤ j → j < c → k ≤ b j := by
  induction k with
  | zero => exact ⟨Nat.zero_le _, fun j h => by simp [cnt] at h, fun j _ _ => Nat.zero_le _⟩
  | succ k ih =>
    obtain ⟨h1, h2, h3⟩ := ih
    rw [cnt]
    by_cases hk : f k = 0
    · rw [if_pos hk, Nat.add_zero]
      refine ⟨h1, fun j hj => by have := h2 j hj; omega, fun j hj hc => ?_⟩
      have h4 := h3 j hj hc
      have h5 : b j ≠ k := fun e => (hf k).2 ⟨j, hc, e⟩ hk
      omega
    · rw [if_neg hk]
      obtain ⟨j0, hj0, e0⟩ := (hf k).1 hk
      have hge : cnt f k ≤ j0 := by
        rcases Nat.lt_or_ge j0 (cnt f k) with h | h
        · have := h2 j0 h; omega
        · exact h
      have ht := h3 (cnt f k) (Nat.le_refl _) (by omega)
      have hj : j0 = cnt f k := by
        rcases Nat.lt_or_ge (cnt f k) j0 with h | h
        · have := hb (cnt f k) j0 h hj0; omega
        · omega
      refine ⟨by omega, fun j hj2 => ?_, fun j hj2 hc => ?_⟩
      · rcases Nat.lt_or_ge j (cnt f k) with h | h
        · have := h2 j h; omega
        · rw [show j = j0 by omega, e0]; omega
      · have := hb j0 j (by omega) hc
        omega
theorem cnt_all (f : Nat → Int) (b : Nat → Nat) (c : Nat) (hb : ∀ i j, i < j → j < c → b i < b j) (hl : ∀ j, j < c → b j < 256) (hf : ∀ x, f x ≠ 0 ↔ ∃ j, j < c ∧ b j = x) : cnt f 256 = c ∧ ∀ j, j < c → cnt f (b j) = j := by
  constructor
  · obtain ⟨h1, -, h3⟩ := cnt_up f b c hb hf 256
    rcases Nat.lt_or_ge (cnt f 256) c with h | h
    · have h4 := h3 _ (Nat.le_refl _) h
      have := hl _ h
      omega
    · omega
  · intro j hj
    obtain ⟨h1, h2, h3⟩ := cnt_up f b c hb hf (b j)
    rcases Nat.lt_trichotomy (cnt f (b j)) j with h | h | h
    · have h4 := h3 _ (Nat.le_refl _) (by omega)
      have := hb _ _ h hj
      omega
    · exact h
    · have := h2 j h
      omega
section
variable (β : Nat → Nat) (om m : Nat) (hu : uok β om m) (h8 : ∀ j, β j < 256)
include hu h8
theorem ply_cnt (i : Nat) (hi : i < m) : cnt (ply β om i) 256 = fr β om (i + 1) - fr β om i ∧ (∀ j, j < fr β om (i + 1) - fr β om i → cnt (ply β om i) (β (fr β om i + j)) = j ∧ ply β om i (β (fr β om i + j)) ≠ 0) := by
  obtain ⟨o1, o2, o3⟩ := hu.1 i hi
  have hb : ∀ a b, a < b → b < fr β om (i + 1) - fr β om i → β (fr β om i + a) < β (fr β om i + b) := up_of (fun j => β (fr β om i + j)) _ (fun j hj => by
    have := o3 (fr β om i + (j + 1)) (by omega) (by omega)
    rw [show fr β om i + (j + 1) - 1 = fr β om i + j by omega] at this
    exact this)
  have hf : ∀ x, ply β om i x ≠ 0 ↔ ∃ j, j < fr β om (i + 1) - fr β om i ∧ β (fr β om i + j) = x := by
    intro x
    unfold ply
    rcases mk_is β (fr β om i) (fr β om (i + 1) - fr β om i) x with ⟨g1, g2⟩ | ⟨g1, g2⟩
    · rw [g1]; exact ⟨fun _ => g2, fun _ => by decide⟩
    · rw [g1]
      refine ⟨fun h => absurd rfl h, fun ⟨j, j1, j2⟩ => absurd j2 (g2 j j1)⟩
  obtain ⟨c1, c2⟩ := cnt_all (ply β om i) (fun j => β (fr β om i + j)) _ hb (fun j _ => h8 _) hf
  exact ⟨c1, fun j hj => ⟨c2 j hj, (hf _).2 ⟨j, hj, rfl⟩⟩⟩
theorem tot_ply (i : Nat) (hi : i ≤ m) : tot (ply β om) i = fr β om i := by
  induction i with
  | zero => rfl
  | succ i ih =>
    rw [tot, ih (by omega), (ply_cnt β om m hu h8 i (by omega)).1]
    have := (hu.1 i (by omega)).1
    omega
omit h8 in
theorem fr_le (i : Nat) (hi : i ≤ m) : fr β om i ≤ om := by
  cases i with
  | zero => exact Nat.zero_le _
  | succ i => exact (hu.1 i (by omega)).2.1
omit hu h8 in
theorem fr_find (i : Nat) (hi : i ≤ m) (j : Nat) (hj : j < fr β om i) : ∃ a, a < i ∧ fr β om a ≤ j ∧ j < fr β om (a + 1) := by
  induction i with
  | zero => simp [fr] at hj
  | succ i ih =>
    rcases Nat.lt_or_ge j (fr β om i) with h | h
    · obtain ⟨a, h1, h2⟩ := ih (by omega) h
      exact ⟨a, by omega, h2⟩
    · exact ⟨i, by omega, h, hj⟩
theorem lay_ply (j : Nat) (hj : j < om + m) : (lay (ply β om) om m m).getD j 0 = β j := by
  have ht : tot (ply β om) m ≤ om := by rw [tot_ply β om m hu h8 m (Nat.le_refl _)]; exact fr_le β om m hu m (Nat.le_refl _)
  obtain ⟨h1, h2, h3⟩ := lay_at (ply β om) om m m (Nat.le_refl _) ht
  rcases Nat.lt_or_ge j om with h | h
  · rcases Nat.lt_or_ge j (fr β om m) with hf | hf
    · obtain ⟨a, a1, a2, a3⟩ := fr_find β om m m (Nat.le_refl _) j hf
      obtain ⟨c1, c2⟩ := (ply_cnt β om m hu h8 a a1).2 (j - fr β om a) (by omega)
      rw [show fr β om a + (j - fr β om a) = j by omega] at c1 c2
      have := h2 a a1 (β j) (h8 _) c2
      rw [c1, tot_ply β om m hu h8 a (by omega), show fr β om a + (j - fr β om a) = j by omega] at this
      exact this
    · rw [h3 j (by rw [tot_ply β om m hu h8 m (Nat.le_refl _)]; exact hf) h, hu.2 j hf h]
  · have := h1 (j - om) (by omega)
    rw [show om + (j - om) = j by omega, tot_ply β om m hu h8 (j - om + 1) (by omega)] at this
    rw [this, fr, show om + (j - om) = j by omega]
theorem tot_le : tot (ply β om) m ≤ om := by rw [tot_ply β om m hu h8 m (Nat.le_refl _)]; exact fr_le β om m hu m (Nat.le_refl _)
end
end Go.Proofs.YtdlolhilmhlklaaDoor.hinm
