/-
  Plain facts for walks: a region that draws its order, in which operations float beside those that write memory. The floating ones are taken first (they look at no memory); then operations that leave the memory as it is, in any order; then those that write it, in a row. No function of a program is named. Conditions: as each theorem says.
-/
import Derived.Test.YtfgigpmhncfpbaaSti
namespace Go.Proofs.Ytfgigpmhncfpbaa.floa
open Go Go.RowKit
variable {P : Program} {ops : Array Oper} {md : Region.Mode} {w : World}

/-- one after the other, nothing else can come up -/
def seqD (md : Region.Mode) (ops : Array Oper) : List Nat → Array Bool → Bool
  | [], listed => (Region.ready md ops listed).isEmpty
  | k :: ks, listed => decide (Region.ready md ops listed = [k]) && seqD md ops ks (listed.setIfInBounds k true)
/-- the head in this order is one that may come up, each of it apart from what else is left -/
def lexD (md : Region.Mode) (ops : Array Oper) (tl : List Nat) : List Nat → Array Bool → Bool
  | [], listed => seqD md ops tl listed
  | k :: ks, listed => (Region.ready md ops listed).contains k && Region.free md ops listed k && lexD md ops tl ks (listed.setIfInBounds k true)
/-- each of the head is waited for by a later one, or by the first that writes -/
def sinkD (md : Region.Mode) (ops : Array Oper) (hd : List Nat) (t0 : Nat) : Bool :=
  hd.all fun i => (t0 :: hd).any fun j => decide (i < j) && Region.waitsFor md ops j i
/-- each that writes waits for the one before it -/
def chainD (md : Region.Mode) (ops : Array Oper) : Nat → List Nat → Bool
  | _, [] => true
  | t, u :: us => Region.waitsFor md ops u t && chainD md ops u us
/-- what is listed has all that it waits for listed -/
def closedD (md : Region.Mode) (ops : Array Oper) (listed : Array Bool) : Bool :=
  (List.range ops.size).all fun j => !listed.getD j false || match ops[j]? with
    | some o => o.after.all fun e => !Region.binds md e || listed.getD e.on false
    | none => true
/-- the head, those that write, and those that are done make all -/
def partsD (ops : Array Oper) (listed : Array Bool) (hd tl : List Nat) : Bool :=
  decide (listed.size = ops.size) && (tl.all fun t => !hd.contains t && !listed.getD t true && decide (t < ops.size)) && (List.range ops.size).all fun j => hd.contains j || tl.contains j || listed.getD j true
def allD (md : Region.Mode) (ops : Array Oper) (listed : Array Bool) (hd : List Nat) (t0 : Nat) (ts : List Nat) : Bool :=
  Region.noSelect ops && partsD ops listed hd (t0 :: ts) && closedD md ops listed && sinkD md ops hd t0 && chainD md ops t0 ts && lexD md ops (t0 :: ts) hd listed

structure InvD (md : Region.Mode) (ops : Array Oper) (hd tl : List Nat) (listed : Array Bool) : Prop where
  size : listed.size = ops.size
  closed : ∀ j oj, ops[j]? = some oj → listed.getD j false = true → ∀ e ∈ oj.after, Region.binds md e = true → listed.getD e.on false = true
  tail : ∀ t ∈ tl, listed.getD t true = false
  all : ∀ j, j < ops.size → j ∈ hd ∨ j ∈ tl ∨ listed.getD j true = true

theorem getD_up {listed : Array Bool} {j : Nat} (h : listed.getD j true = true) (hj : j < listed.size) : listed.getD j false = true := by simp [hj] at h ⊢; exact h
theorem InvD.set {hd tl : List Nat} {i : Nat} {listed : Array Bool} (inv : InvD md ops hd tl listed) (hi : i ∈ Region.ready md ops listed) (hin : i ∉ tl) : InvD md ops hd tl (listed.setIfInBounds i true) := by
  obtain ⟨_, oi, hoi, hall⟩ := mem_ready.1 hi
  have hlt : i < ops.size := (Array.getElem?_eq_some_iff.1 hoi).1
  refine ⟨by simp [inv.size], fun j oj hj hl e he hb => ?_, fun t ht => ?_, fun j hj => ?_⟩
  · by_cases hij : i = j
    · subst hij
      obtain rfl : oj = oi := Option.some.inj (hj.symm.trans hoi)
      exact getD_set_true (hall e he hb)
    · rw [getD_set_ne false hij] at hl
      exact getD_set_true (inv.closed j oj hj hl e he hb)
  · have hne : i ≠ t := fun h => hin (by rw [h]; exact ht)
    rw [getD_set_ne true hne]
    exact inv.tail t ht
  · by_cases hij : i = j
    · subst hij
      refine Or.inr (Or.inr ?_)
      have hs : i < listed.size := by rw [inv.size]; exact hlt
      simp [hs]
    · rw [getD_set_ne true hij]
      exact inv.all j hj

/-- as long as one of the head is left, nothing that writes comes up -/
theorem waits {hd : List Nat} {t0 : Nat} {ts : List Nat} {listed : Array Bool} (hs : sinkD md ops hd t0 = true) (hc : chainD md ops t0 ts = true) (inv : InvD md ops hd (t0 :: ts) listed) (hhd : ∀ j ∈ hd, j < ops.size) :
    ∀ (d i : Nat), i ∈ hd → ops.size - i = d → listed.getD i true = false → ∀ t ∈ t0 :: ts, t ∉ Region.ready md ops listed := by
  have notyet : ∀ (j i : Nat), Region.waitsFor md ops j i = true → listed.getD i true = false → j ∉ Region.ready md ops listed ∧ listed.getD j false = false := by
    intro j i hw hu
    obtain ⟨oj, hoj, e, he, hb, hon⟩ := Region.waitsFor_spec hw
    constructor
    · intro hr
      obtain ⟨_, o', ho', hall⟩ := mem_ready.1 hr
      obtain rfl : oj = o' := Option.some.inj (hoj.symm.trans ho')
      have h2 := hall e he hb
      rw [hon, getD_both hu] at h2
      cases h2
    · cases hl : listed.getD j false with
      | false => rfl
      | true =>
        have h2 := inv.closed j oj hoj hl e he hb
        rw [hon, getD_both hu] at h2
        cases h2
  have first : ∀ (d i : Nat), i ∈ hd → ops.size - i = d → listed.getD i true = false → t0 ∉ Region.ready md ops listed := by
    intro d
    induction d using Nat.strongRecOn with
    | _ d ih =>
      intro i hi hd0 hu
      obtain ⟨j, hj, hj2⟩ := List.any_eq_true.1 (List.all_eq_true.1 hs i hi)
      simp only [Bool.and_eq_true, decide_eq_true_eq] at hj2
      obtain ⟨h1, h2⟩ := notyet j i hj2.2 hu
      rcases List.mem_cons.1 hj with h | h
      · subst h; exact h1
      · have hjs := hhd j h
        exact ih (ops.size - j) (by omega) j h rfl (getD_in (by rw [inv.size]; exact hjs) h2)
  intro d i hi hd0 hu t ht
  rcases List.mem_cons.1 ht with h | h
  · subst h; exact first d i hi hd0 hu
  · have go : ∀ (us : List Nat) (u : Nat), chainD md ops u us = true → listed.getD u true = false → (∀ x ∈ us, listed.getD x true = false) → ∀ x ∈ us, x ∉ Region.ready md ops listed := by
      intro us
      induction us with
      | nil => intro _ _ _ _ x hx; cases hx
      | cons v vs ih =>
        intro u hcu hu' hall x hx
        simp only [chainD, Bool.and_eq_true] at hcu
        rcases List.mem_cons.1 hx with h | h
        · subst h; exact (notyet x u hcu.1 hu').1
        · exact ih v hcu.2 (hall v (by simp)) (fun y hy => hall y (by simp [hy])) x h
    exact go ts t0 hc (inv.tail t0 (by simp)) (fun x hx => inv.tail x (by simp [hx])) t h

/-- the head alone, in any order, each leaving the memory as it is -/
def wpAnyD (P : Program) (md : Region.Mode) (ops : Array Oper) (w : World) (hd : List Nat) (L : Array Bool → Act → Prop) : Nat → Array Bool → Act → Prop
  | 0, listed, a => L listed a
  | f + 1, listed, a => Region.ready md ops listed ≠ [] ∧ ∀ i ∈ Region.ready md ops listed, i ∈ hd ∧ stOp P ops w i (wpAnyD P md ops w hd L f (listed.setIfInBounds i true)) a

theorem of_headD {hd : List Nat} {g : Nat} {L : Array Bool → Act → Prop} {Q' : Exit → Act → World → Prop} (hL : ∀ listed a, L listed a → wpAny P md ops Q' g listed a w) :
    ∀ (f : Nat) (listed : Array Bool) (a : Act), wpAnyD P md ops w hd L f listed a → wpAny P md ops Q' (f + g) listed a w
  | 0, listed, a, h => by rw [Nat.zero_add]; exact hL _ _ h
  | f + 1, listed, a, h => by
    rw [show f + 1 + g = (f + g) + 1 by omega]
    exact ⟨fun h0 => absurd h0 h.1, fun i hi => wpOp_of_stOp (fun a' h' => of_headD hL f _ a' h') (h.2 i hi).2⟩

theorem firstD {hd : List Nat} {t0 : Nat} {ts : List Nat} {i : Nat} {oi : Oper} {v : Value} {L : Array Bool → Act → Prop} (hi : ops[i]? = some oi) (hsel : ∀ (j : Nat) (o : Oper) cs b, ops[j]? = some o → o.op ≠ .select cs b)
    (hs : sinkD md ops hd t0 = true) (hc : chainD md ops t0 ts = true) (hhd : ∀ j ∈ hd, j < ops.size) (hdis : ∀ t ∈ t0 :: ts, t ∉ hd) (hin : i ∈ hd)
    (hdone : ∀ listed a, L listed a → ∀ j ∈ Region.ready md ops listed, j ∉ hd) :
    ∀ (f : Nat) (listed : Array Bool) (a : Act), InvD md ops hd (t0 :: ts) listed →
      (∀ j oj, ops[j]? = some oj → j ≠ i → listed.getD j true = false → (∀ e ∈ oj.after, Region.binds md e = true → e.on ≠ i) → oi.apart ops oj = true) →
      i ∈ Region.ready md ops listed → YieldsAt P ops w oi v a →
      wpAnyD P md ops w hd L f (listed.setIfInBounds i true) (a.put oi.dst v) → wpAnyD P md ops w hd L (f + 1) listed a := by
  have inhd : ∀ (listed : Array Bool), InvD md ops hd (t0 :: ts) listed → i ∈ Region.ready md ops listed → ∀ j ∈ Region.ready md ops listed, j ∈ hd := by
    intro listed inv hr j hj
    obtain ⟨hju, oj, hoj, _⟩ := mem_ready.1 hj
    rcases inv.all j (Array.getElem?_eq_some_iff.1 hoj).1 with h | h | h
    · exact h
    · exact absurd hj (waits hs hc inv hhd _ i hin rfl (mem_ready.1 hr).1 j h)
    · rw [hju] at h; cases h
  intro f
  induction f with
  | zero =>
    intro listed a inv _ hr hy H
    refine ⟨fun h => (by rw [h] at hr; cases hr), fun j hj => ?_⟩
    have hjh := inhd listed inv hr j hj
    refine ⟨hjh, ?_⟩
    by_cases hji : j = i
    · subst hji; exact hy.stOp hi H
    · exact absurd hjh (hdone _ _ H j (ready_mono hj hji))
  | succ f ih =>
    intro listed a inv hfree hr hy H
    refine ⟨fun h => (by rw [h] at hr; cases hr), fun j hj => ?_⟩
    have hjh := inhd listed inv hr j hj
    refine ⟨hjh, ?_⟩
    by_cases hji : j = i
    · subst hji; exact hy.stOp hi H
    · have h1 := (H.2 j (ready_mono hj hji)).2
      obtain ⟨hjun, oj, hoj, hall⟩ := mem_ready.1 hj
      have hnot : ∀ e ∈ oj.after, Region.binds md e = true → e.on ≠ i := fun e he hb heq => by
        have h1 := hall e he hb
        rw [heq, getD_both (mem_ready.1 hr).1] at h1
        cases h1
      have h2 := stOp_put hoj (hfree j oj hoj hji hjun hnot) (fun cs b => hsel i oi cs b hi) (fun cs b => hsel j oj cs b hoj) hy h1
      have hfree' : ∀ k ok, ops[k]? = some ok → k ≠ i → (listed.setIfInBounds j true).getD k true = false →
          (∀ e ∈ ok.after, Region.binds md e = true → e.on ≠ i) → oi.apart ops ok = true := fun k ok hk hki hun hno => by
        refine hfree k ok hk hki ?_ hno
        by_cases hjk : j = k
        · subst hjk; exact hjun
        · rw [getD_set_ne true hjk] at hun; exact hun
      refine stOp_mono (fun a' h3 => ih (listed.setIfInBounds j true) a' (inv.set hj (fun h => hdis j h hjh)) hfree' (ready_mono hr (Ne.symm hji)) h3.1 ?_) h2
      rw [Array.setIfInBounds_comm _ _ hji]
      exact h3.2

/-- the operations of these numbers -/
def pick (l : List Oper) (ks : List Nat) : List Oper := ks.filterMap fun k => l[k]?
theorem lexD_still {hd : List Nat} {t0 : Nat} {ts : List Nat} {Lq : Act → Prop} {l : List Oper} (hsel : Region.noSelect l.toArray = true) (hs : sinkD md l.toArray hd t0 = true) (hc : chainD md l.toArray t0 ts = true)
    (hhd : ∀ j ∈ hd, j < l.toArray.size) (hdis : ∀ t ∈ t0 :: ts, t ∉ hd) :
    ∀ (ks : List Nat) (listed : Array Bool) (a : Act), (∀ k ∈ ks, k ∈ hd) → InvD md l.toArray hd (t0 :: ts) listed → lexD md l.toArray (t0 :: ts) ks listed = true → wpStill P l.toArray w Lq (pick l ks) a →
    wpAnyD P md l.toArray w hd (fun listed' a' => seqD md l.toArray (t0 :: ts) listed' = true ∧ Lq a') ks.length listed a
  | [], listed, a, _, _, hB, h => ⟨hB, h⟩
  | k :: ks, listed, a, hk, inv, hB, h => by
    simp only [lexD, Bool.and_eq_true] at hB
    obtain ⟨⟨hr, hf⟩, hB'⟩ := hB
    have hr' : k ∈ Region.ready md l.toArray listed := by simpa using hr
    obtain ⟨_, o, ho, _⟩ := mem_ready.1 hr'
    have hkh : k ∈ hd := hk k (by simp)
    have ho' : l[k]? = some o := by simpa using ho
    have hst : stOp P l.toArray w k (wpStill P l.toArray w Lq (pick l ks)) a := by
      unfold stOp
      simp only [ho]
      have e : pick l (k :: ks) = o :: pick l ks := by unfold pick; rw [List.filterMap_cons, ho']
      rw [e] at h
      exact h
    obtain ⟨v, hy, hK⟩ := yieldsAt_of_stOp ho hst
    refine firstD ho (Region.noSelect_spec hsel) hs hc hhd hdis hkh (fun listed' a' hL j hj => ?_) ks.length listed a inv (Region.free_spec ho hf) hr' hy
      (lexD_still hsel hs hc hhd hdis ks _ _ (fun x hx => hk x (by simp [hx])) (inv.set hr' (fun h => hdis k h hkh)) hB' hK)
    have h1 := hL.1
    simp only [seqD, Bool.and_eq_true, decide_eq_true_eq] at h1
    rw [h1.1] at hj
    rw [List.mem_singleton.1 hj]
    exact hdis t0 (by simp)
theorem of_seqD {Q' : Exit → Act → World → Prop} {l : List Oper} : ∀ (ks : List Nat) (listed : Array Bool) (a : Act) (w : World), (∀ k ∈ ks, k < l.toArray.size) →
    seqD md l.toArray ks listed = true → wpList P l.toArray Q' (pick l ks) a w → wpAny P md l.toArray Q' ks.length listed a w
  | [], listed, a, w, _, hB, h => ⟨by simpa [seqD] using hB, h⟩
  | k :: ks, listed, a, w, hlt, hB, h => by
    obtain ⟨o, ho⟩ : ∃ o, l.toArray[k]? = some o := ⟨_, Array.getElem?_eq_getElem (hlt k (by simp))⟩
    have ho' : l[k]? = some o := by simpa using ho
    have e : pick l (k :: ks) = o :: pick l ks := by unfold pick; rw [List.filterMap_cons, ho']
    rw [e] at h
    simp only [seqD, Bool.and_eq_true, decide_eq_true_eq] at hB
    refine ⟨fun h1 => (by rw [hB.1] at h1; cases h1), fun i hi => ?_⟩
    rw [hB.1] at hi
    obtain rfl : i = k := by simpa using hi
    have hw : wpOp P l.toArray Q' i (wpList P l.toArray Q' (pick l ks)) a w := by unfold wpOp; simp only [ho]; exact h
    exact wpOp_mono (fun a' w' h' => of_seqD ks _ a' w' (fun x hx => hlt x (by simp [hx])) hB.2 h') hw
/-- from a state in which the floating ones are done: the head hd at the memory that is there, then those that write -/
theorem any_still {Q : Exit → Act → World → Prop} {l : List Oper} {listed : Array Bool} {a : Act} {n : Nat} (hd : List Nat) (t0 : Nat) (ts : List Nat) (hn : n = hd.length + (t0 :: ts).length) (hB : allD md l.toArray listed hd t0 ts = true)
    (h : wpStill P l.toArray w (fun a' => wpList P l.toArray Q (pick l (t0 :: ts)) a' w) (pick l hd) a) : wpAny P md l.toArray Q n listed a w := by
  subst hn
  simp only [allD, Bool.and_eq_true] at hB
  obtain ⟨⟨⟨⟨⟨hsel, hp⟩, hcl⟩, hs⟩, hc⟩, hlex⟩ := hB
  simp only [partsD, Bool.and_eq_true, decide_eq_true_eq] at hp
  obtain ⟨⟨hsz, htl⟩, hall⟩ := hp
  have htl' : ∀ t ∈ t0 :: ts, t ∉ hd ∧ listed.getD t true = false ∧ t < l.toArray.size := fun t ht => by
    have h1 := List.all_eq_true.1 htl t ht
    simp only [Bool.and_eq_true, Bool.not_eq_true', decide_eq_true_eq] at h1
    exact ⟨by simpa using h1.1.1, h1.1.2, h1.2⟩
  have hhd : ∀ j ∈ hd, j < l.toArray.size := by
    have go : ∀ (ks : List Nat) (listed : Array Bool), lexD md l.toArray (t0 :: ts) ks listed = true → ∀ j ∈ ks, j < l.toArray.size := by
      intro ks
      induction ks with
      | nil => intro _ _ j hj; cases hj
      | cons k ks ih =>
        intro listed hB j hj
        simp only [lexD, Bool.and_eq_true] at hB
        rcases List.mem_cons.1 hj with h | h
        · subst h
          have hr' : j ∈ Region.ready md l.toArray listed := by simpa using hB.1.1
          obtain ⟨_, o, ho, _⟩ := mem_ready.1 hr'
          exact (Array.getElem?_eq_some_iff.1 ho).1
        · exact ih _ hB.2 j h
    exact go hd listed hlex
  have inv : InvD md l.toArray hd (t0 :: ts) listed := by
    refine ⟨hsz, fun j oj hj hl e he hb => ?_, fun t ht => (htl' t ht).2.1, fun j hj => ?_⟩
    · have h1 := List.all_eq_true.1 hcl j (List.mem_range.2 (Array.getElem?_eq_some_iff.1 hj).1)
      simp only [hl, hj, Bool.not_true, Bool.false_or] at h1
      have h2 := (Array.all_eq_true_iff_forall_mem.1 h1) e he
      simpa [hb] using h2
    · have h1 := List.all_eq_true.1 hall j (List.mem_range.2 hj)
      simp only [Bool.or_eq_true] at h1
      rcases h1 with (h1 | h1) | h1
      · exact Or.inl (by simpa using h1)
      · exact Or.inr (Or.inl (by simpa using h1))
      · exact Or.inr (Or.inr h1)
  have H := lexD_still (P := P) (w := w) hsel hs hc hhd (fun t ht => (htl' t ht).1) hd listed a (fun k hk => hk) inv hlex h
  exact of_headD (fun listed' a' hL => of_seqD (t0 :: ts) listed' a' w (fun t ht => (htl' t ht).2.2) hL.1 hL.2) hd.length listed a H
/-- one that looks at no memory is taken first -/
theorem any_begin {id : Nat} {Q : Exit → Act → World → Prop} {a : Act} {l : List Oper} (hm : P.follows .mixedOrders = true)
    (h : wpAny P .any l.toArray Q l.toArray.size (Array.replicate l.toArray.size false) a w.drew) : (Code.region id l.toArray true).wp P Q a w := wp_region_any hm h
end Go.Proofs.Ytfgigpmhncfpbaa.floa
