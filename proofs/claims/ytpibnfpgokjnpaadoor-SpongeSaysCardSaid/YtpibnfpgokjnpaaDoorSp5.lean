/-
  The sponge and the document's own sponge return the same: Absorb, Squeeze, Shake, Sha3, New, of any sponge whose state has 25 words of 64 bits, with the document's tables. Conditions: keccak's variable 'places' holds what the program's text lays there.
-/
import Derived.Test.YtpibnfpgokjnpaaDoorRSk
import Derived.Test.YtpibnfpgokjnpaaDoorSp4
import Derived.Test.YtpibnfpgokjnpaaDoorKd
namespace Go.Proofs.YtpibnfpgokjnpaaDoor.spom
open Go Go.RowKit
open Go.Proofs.YtpibnfpgokjnpaaDoor.arr Go.Proofs.YtpibnfpgokjnpaaDoor.mem Go.Proofs.YtpibnfpgokjnpaaDoor.tabv Go.Proofs.YtpibnfpgokjnpaaDoor.kecm Go.Proofs.YtpibnfpgokjnpaaDoor.kecb Go.Proofs.YtpibnfpgokjnpaaDoor.keca Go.Proofs.YtpibnfpgokjnpaaDoor.kturn Go.Proofs.YtpibnfpgokjnpaaDoor.kstep Go.Proofs.YtpibnfpgokjnpaaDoor.kfun Go.Proofs.YtpibnfpgokjnpaaDoor.spgm Go.Proofs.YtpibnfpgokjnpaaDoor.rspa Go.Proofs.YtpibnfpgokjnpaaDoor.rspb Go.Proofs.YtpibnfpgokjnpaaDoor.rspc Go.Proofs.YtpibnfpgokjnpaaDoor.rspd Go.Proofs.YtpibnfpgokjnpaaDoor.spof Go.Proofs.YtpibnfpgokjnpaaDoor.spok Go.Proofs.YtpibnfpgokjnpaaDoor.spol

/-- a sponge's cells that '==' knows -/
structure Sg (X : Array Value) : Prop where
  size : X.size = 28
  one : X.all (·.oneCell') = true
  eq : ∀ w, (binOp .eql 25 (.agg X) (.agg X)).run Tryd.prog w = .ok (.bool true) w
theorem sg_of (k a : Int) (o : Bool) {l : List Nat} (h : l.length = 25) : Sg (SC k l a o) := ⟨sc_size k a o h, sc_one k l a o, eql_sp k a o h⟩
theorem ok_nat {k a : Int} {o : Bool} (h : ok k a o = true) : ∃ n : Nat, a = (n : Int) ∧ 0 < rate k ∧ n ≤ rate k ∧ (o = false → n < rate k) := by
  unfold ok at h
  generalize rate k = r at h
  simp only [Bool.and_eq_true, decide_eq_true_eq, Bool.or_eq_true] at h
  obtain ⟨h1, h2, h3⟩ := h
  refine ⟨a.toNat, by omega, h1, by rcases h3 with h3 | ⟨-, h3⟩ <;> omega, fun ho => ?_⟩
  rcases h3 with h3 | ⟨h3, -⟩
  · omega
  · rw [ho] at h3; cases h3
theorem absorb_both (k a : Int) (o : Bool) (l : List Nat) (b : ByteArray) (h : St l) (hb : b.size ≤ 2000) : ∃ (X : Array Value) (e : Int), Sg X ∧
    (∀ w, Gp w → Calls Tryd.prog 8 #[.agg TA, .agg (SC k l a o), .string b] w fun r w' => r = .returned (.tuple #[.agg X, .int .i64 e]) ∧ Below w.heap.size w w') ∧
    (∀ w, Calls Tryd.prog 9 #[.agg TA, .agg (SC k l a o), .string b] w fun r w' => r = .returned (.tuple #[.agg X, .int .i64 e]) ∧ Below w.heap.size w w') := by
  by_cases hk : ok k a o = true
  · obtain ⟨n, rfl, h0, h1, h2⟩ := ok_nat hk
    cases o with
    | true => exact ⟨SC k l n true, 16, sg_of k n true h.len, fun w _ => spoj.absorb_out k n l b w h kecd.kt_doc hk, fun w => rspd.absorb_out k n l b w h kecd.kt_doc hk⟩
    | false =>
      have hE := (abs_ok (P := PP TL RL) (fun _ h => pp_st kecd.rl_lt h) (bys b) (s := ⟨l, n⟩) h (h2 rfl)).1
      exact ⟨_, 0, sg_of k _ false hE.len, fun w hp => spoj.absorb_go k n l b w h kecd.kt_doc hp hk (by omega), fun w => rspd.absorb_go k n l b w h kecd.kt_doc hk (by omega)⟩
  · have hk : ok k a o = false := by simpa using hk
    exact ⟨SC k l a o, 1, sg_of k a o h.len, fun w _ => spoj.absorb_bad k a o l b w h kecd.kt_doc hk, fun w => rspd.absorb_bad k a o l b w h kecd.kt_doc hk⟩
theorem squeeze_both (k a : Int) (o : Bool) (l : List Nat) (n : Int) (h : St l) : ∃ (X : Array Value) (s : ByteArray) (e : Int), Sg X ∧
    (∀ w, Gp w → Calls Tryd.prog 10 #[.agg TA, .agg (SC k l a o), .int .i64 n] w fun r w' => r = .returned (.tuple #[.agg X, .string s, .int .i64 e]) ∧ Below w.heap.size w w') ∧
    (∀ w, Calls Tryd.prog 11 #[.agg TA, .agg (SC k l a o), .int .i64 n] w fun r w' => r = .returned (.tuple #[.agg X, .string s, .int .i64 e]) ∧ Below w.heap.size w w') := by
  by_cases hk : ok k a o = true
  · by_cases hn : n < 0
    · exact ⟨SC k l a o, ⟨#[]⟩, 1, sg_of k a o h.len, fun w _ => spoj.squeeze_far k a o l n w h kecd.kt_doc hk (Or.inl hn), fun w => rspg.squeeze_neg k a o l n w h hk hn⟩
    · by_cases hn2 : 50000 < n
      · exact ⟨SC k l a o, ⟨#[]⟩, 1, sg_of k a o h.len, fun w _ => spoj.squeeze_far k a o l n w h kecd.kt_doc hk (Or.inr hn2), fun w => rspg.squeeze_far k a o l n w h hk hn2⟩
      · obtain ⟨m, rfl, h0, h1, h2⟩ := ok_nat hk
        obtain ⟨q, rfl⟩ : ∃ q : Nat, n = (q : Int) := ⟨n.toNat, by omega⟩
        have hP : ∀ l, St l → St (PP TL RL l) := fun _ h => pp_st kecd.rl_lt h
        cases o with
        | true =>
          have hE := (sk_ok hP h0 (s := ⟨l, m⟩) h h1 q).1
          exact ⟨_, _, 0, sg_of k _ true hE.len, fun w hp => spoj.squeeze_go k m q l w h kecd.kt_doc hp hk (by omega), fun w => rspf.squeeze_out k m q l w h kecd.kt_doc hk ⟨h0, h1, rate_le k⟩ (by omega)⟩
        | false =>
          have hE := (sk_ok hP h0 (pad_ok (r := rate k) (m := spgm.mark k) (s := ⟨l, m⟩) h).1 (pad_ok (r := rate k) (m := spgm.mark k) (s := ⟨l, m⟩) h).2 q).1
          exact ⟨_, _, 0, sg_of k _ true hE.len, fun w hp => spoj.squeeze_pad k m q l w h kecd.kt_doc hp hk (by omega), fun w => rspg.squeeze_pad k m q l w h kecd.kt_doc hk ⟨h0, h2 rfl, rate_le k⟩ (by omega)⟩
  · have hk : ok k a o = false := by simpa using hk
    exact ⟨SC k l a o, ⟨#[]⟩, 1, sg_of k a o h.len, fun w _ => spoj.squeeze_bad k a o l n w h kecd.kt_doc hk, fun w => rspg.squeeze_bad k a o l n w h hk⟩
theorem rate_zero (k : Int) (h1 : k ≠ 1) (h2 : k ≠ 2) (h3 : k ≠ 3) (h4 : k ≠ 4) : rate k = 0 := by unfold rate; simp [h1, h2, h3, h4]
theorem shake_both (k : Int) (b : ByteArray) (n : Int) (hb : b.size ≤ 2000) : ∃ (s : ByteArray) (e : Int),
    (∀ w, Gp w → Calls Tryd.prog 12 #[.agg TA, .int .i64 k, .string b, .int .i64 n] w fun r w' => r = .returned (.tuple #[.string s, .int .i64 e]) ∧ Below w.heap.size w w') ∧
    (∀ w, Calls Tryd.prog 13 #[.agg TA, .int .i64 k, .string b, .int .i64 n] w fun r w' => r = .returned (.tuple #[.string s, .int .i64 e]) ∧ Below w.heap.size w w') := by
  by_cases h1 : k = 1
  · by_cases hn : n < 0 ∨ 50000 < n
    · exact ⟨⟨#[]⟩, 1, fun w _ => spok.shake_far k b n w kecd.kt_doc (by rw [h1]; decide) (by rw [h1]; decide) hn, fun w => rsph.shake_far1 k b n w kecd.kt_doc h1 hn (by omega)⟩
    · obtain ⟨q, rfl⟩ : ∃ q : Nat, n = (q : Int) := ⟨n.toNat, by omega⟩
      exact ⟨_, 0, fun w hp => spok.shake_go k b q w kecd.kt_doc hp (by rw [h1]; decide) (by rw [h1]; decide) (by omega) (by omega), fun w => rsph.shake_go1 k b q w kecd.kt_doc h1 (by omega) (by omega)⟩
  · by_cases h2 : k = 2
    · by_cases hn : n < 0 ∨ 50000 < n
      · exact ⟨⟨#[]⟩, 1, fun w _ => spok.shake_far k b n w kecd.kt_doc (by rw [h2]; decide) (by rw [h2]; decide) hn, fun w => rsph.shake_far2 k b n w kecd.kt_doc h2 hn (by omega)⟩
      · obtain ⟨q, rfl⟩ : ∃ q : Nat, n = (q : Int) := ⟨n.toNat, by omega⟩
        exact ⟨_, 0, fun w hp => spok.shake_go k b q w kecd.kt_doc hp (by rw [h2]; decide) (by rw [h2]; decide) (by omega) (by omega), fun w => rsph.shake_go2 k b q w kecd.kt_doc h2 (by omega) (by omega)⟩
    · refine ⟨⟨#[]⟩, 1, fun w _ => ?_, fun w => rsph.shake_none k b n w h1 h2⟩
      by_cases h3 : k = 3
      · exact spok.shake_sha k b n w kecd.kt_doc (by rw [h3]; decide) (by rw [h3]; decide)
      · by_cases h4 : k = 4
        · exact spok.shake_sha k b n w kecd.kt_doc (by rw [h4]; decide) (by rw [h4]; decide)
        · exact spok.shake_none k b n w kecd.kt_doc (rate_zero k h1 h2 h3 h4)
theorem sha3_both (k : Int) (b : ByteArray) (hb : b.size ≤ 2000) : ∃ (s : ByteArray) (e : Int),
    (∀ w, Gp w → Calls Tryd.prog 14 #[.agg TA, .int .i64 k, .string b] w fun r w' => r = .returned (.tuple #[.string s, .int .i64 e]) ∧ Below w.heap.size w w') ∧
    (∀ w, Calls Tryd.prog 15 #[.agg TA, .int .i64 k, .string b] w fun r w' => r = .returned (.tuple #[.string s, .int .i64 e]) ∧ Below w.heap.size w w') := by
  by_cases h3 : k = 3
  · subst h3
    exact ⟨_, 0, fun w hp => spok.sha3_go 3 b w kecd.kt_doc hp (by decide) (by decide) (by decide) (by omega), fun w => rsph.sha3_go3 3 b w kecd.kt_doc rfl (by omega)⟩
  · by_cases h4 : k = 4
    · subst h4
      exact ⟨_, 0, fun w hp => spok.sha3_go 4 b w kecd.kt_doc hp (by decide) (by decide) (by decide) (by omega), fun w => rsph.sha3_go4 4 b w kecd.kt_doc rfl (by omega)⟩
    · exact ⟨⟨#[]⟩, 1, fun w _ => spok.sha3_none k b w kecd.kt_doc (by unfold spoa.size; rw [if_neg h3, if_neg h4]), fun w => rsph.sha3_none k b w h3 h4⟩
theorem new_both (k : Int) : ∃ (X : Array Value) (e : Int), Sg X ∧
    (∀ w, Calls Tryd.prog 16 #[.int .i64 k] w fun r w' => r = .returned (.tuple #[.agg X, .int .i64 e]) ∧ Below w.heap.size w w') ∧
    (∀ w, Calls Tryd.prog 17 #[.int .i64 k] w fun r w' => r = .returned (.tuple #[.agg X, .int .i64 e]) ∧ Below w.heap.size w w') := by
  by_cases h : rate k = 0
  · exact ⟨SC 0 Z 0 false, 1, sg_of 0 0 false z_len, fun w => spoi.new_bad k w h, fun w => rspe.new_bad k w h⟩
  · exact ⟨SC k Z 0 false, 0, sg_of k 0 false z_len, fun w => spoi.new_good k w (by omega), fun w => rspe.new_good k w (by omega)⟩
end Go.Proofs.YtpibnfpgokjnpaaDoor.spom
