/-
  What sha's Feed returns for a hasher that was fed with one string: the hasher that was fed with both. Conditions: the tables' words have their bits, the strings have at most 2^39 bytes together.
-/
import Derived.Test.YthfljfampfioaaaFeedA
namespace Go.Proofs.Ythfljfampfioaaa.feedb
open Go.RowKit
open Go.Proofs.Ythfljfampfioaaa.oct Go.Proofs.Ythfljfampfioaaa.mem Go.Proofs.Ythfljfampfioaaa.arr Go.Proofs.Ythfljfampfioaaa.sham Go.Proofs.Ythfljfampfioaaa.thru Go.Proofs.Ythfljfampfioaaa.hashs

/-! ### 32 bits -/
theorem step_b32 (K : List Nat) (S : V8) (A l : List UInt8) (k : Nat) (hk : A.length = 64 * k) :
    run32 K (run32 K S A k) l (l.length / 64) = run32 K S (A ++ l) ((A ++ l).length / 64) ∧ l.drop (64 * (l.length / 64)) = (A ++ l).drop (64 * ((A ++ l).length / 64)) := by
  have e : (A ++ l).length / 64 = k + l.length / 64 := by rw [List.length_append, hk, Nat.mul_add_div (by decide)]
  rw [e]
  refine ⟨?_, ?_⟩
  · rw [run_app32 K S A l k hk, run_pre32 K S A l k (by omega)]
  · rw [Nat.mul_add, ← hk, ← List.drop_drop, List.drop_left]
theorem step_c32 (K : List Nat) (S : V8) (A l : List UInt8) (h : A.length % 64 + l.length < 64) :
    run32 K (run32 K S A (A.length / 64)) l (l.length / 64) = run32 K S (A ++ l) ((A ++ l).length / 64) ∧ A.drop (64 * (A.length / 64)) ++ l.drop (64 * (l.length / 64)) = (A ++ l).drop (64 * ((A ++ l).length / 64)) := by
  have e : (A ++ l).length / 64 = A.length / 64 := by rw [List.length_append]; omega
  have e0 : l.length / 64 = 0 := by omega
  rw [e, e0]
  refine ⟨?_, ?_⟩
  · rw [run_pre32 K S A l _ (by omega)]; rfl
  · rw [List.drop_append_of_le_length (by omega)]; rfl
theorem step_a32 (K : List Nat) (S : V8) (A l R : List UInt8) (m : Nat) (hR : R = A.drop (64 * (A.length / 64))) (hm : R.length + m = 64) (hl : m ≤ l.length) :
    run32 K (run32 K (run32 K S A (A.length / 64)) (R ++ l.take m) 1) (l.drop m) ((l.drop m).length / 64) = run32 K S (A ++ l) ((A ++ l).length / 64) ∧ (l.drop m).drop (64 * ((l.drop m).length / 64)) = (A ++ l).drop (64 * ((A ++ l).length / 64)) := by
  obtain ⟨k, hk⟩ : ∃ k, A.length / 64 = k := ⟨_, rfl⟩
  rw [hk] at hR ⊢
  have hkl : 64 * k ≤ A.length := by omega
  have ha : (A.take (64 * k)).length = 64 * k := by rw [List.length_take]; omega
  have hb : (R ++ l.take m).length = 64 * 1 := by rw [List.length_append, List.length_take]; omega
  have e : A ++ l = A.take (64 * k) ++ ((R ++ l.take m) ++ l.drop m) := by
    rw [List.append_assoc, List.take_append_drop, hR, ← List.append_assoc, List.take_append_drop]
  have e2 : (A ++ l).length / 64 = k + (1 + (l.drop m).length / 64) := by
    rw [e, List.length_append, ha, List.length_append, hb, Nat.mul_add_div (by decide), Nat.mul_add_div (by decide)]
  rw [e2]
  refine ⟨?_, ?_⟩
  · have e3 : run32 K S (A ++ l) (k + (1 + (l.drop m).length / 64)) = run32 K (run32 K S (A ++ l) k) ((R ++ l.take m) ++ l.drop m) (1 + (l.drop m).length / 64) := by
      have := run_app32 K S (A.take (64 * k)) ((R ++ l.take m) ++ l.drop m) k ha (1 + (l.drop m).length / 64)
      rw [← e] at this
      exact this
    rw [e3, run_pre32 K S A l k hkl, run_app32 K _ (R ++ l.take m) (l.drop m) 1 hb, run_pre32 K _ (R ++ l.take m) (l.drop m) 1 (by omega)]
  · rw [Nat.mul_add, Nat.mul_add, ← List.drop_drop, ← List.drop_drop]
    have d1 : (A ++ l).drop (64 * k) = (R ++ l.take m) ++ l.drop m := by
      rw [List.drop_append_of_le_length hkl, ← hR, List.append_assoc, List.take_append_drop]
    rw [d1, ← hb, List.drop_left]

theorem feed_any32 (T : Array Value) (K3 K6 : List Nat) (S3 S6 : V8) (A : List UInt8) (r s : ByteArray) (w : World) (h : TF T K3 S3 K6 S6) (hr : r.data.toList = A.drop (64 * (A.length / 64))) (hA : A.length + s.size ≤ 549755813888) :
    Calls Try.prog 32 #[.agg T, .agg (HC false (run32 K3 S3 A (A.length / 64)) V0 r (A.length : Int)), .string s] w fun e w' => (∃ r' : ByteArray, e = .returned (.tuple #[.agg (HC false (run32 K3 S3 (A ++ s.data.toList) ((A ++ s.data.toList).length / 64)) V0 r' ((A ++ s.data.toList).length : Int)), .int .i64 0]) ∧ r'.data.toList = (A ++ s.data.toList).drop (64 * ((A ++ s.data.toList).length / 64))) ∧ Below w.heap.size w w' := by
  have h1 : r.data.toList.length = r.size := rfl
  have h2 : s.data.toList.length = s.size := rfl
  have hrs : r.size = A.length % 64 := by rw [← h1, hr, List.length_drop]; omega
  have hc : (A.length : Int) + (s.size : Int) = ((A ++ s.data.toList).length : Int) := by rw [List.length_append, h2]; omega
  have hv : (run32 K3 S3 A (A.length / 64)).lt 4294967296 := run_lt32 _ _ _ h.bs32 _
  by_cases ha : 0 < r.size ∧ 64 - r.size ≤ s.size
  · have hf := feeda.feed_a32 T K3 K6 S3 S6 _ A.length r s w h hv hrs (by omega) (by omega) ha
    have st := step_a32 K3 S3 A s.data.toList r.data.toList (64 - r.size) hr (by rw [h1]; omega) (by rw [h2]; exact ha.2)
    rw [st.1, st.2, hc] at hf
    exact hf
  · have hcase : r = ⟨#[]⟩ ∨ (r ≠ ⟨#[]⟩ ∧ s.size < 64 - r.size) := by
      by_cases h0 : r.size = 0
      · left
        have : r.data.toList = [] := List.eq_nil_of_length_eq_zero (h1.trans h0)
        apply ByteArray.ext
        apply Array.toList_inj.1
        exact this
      · right
        exact ⟨fun e => h0 (by rw [e]; rfl), by omega⟩
    have hf := feed.feed_c32 T K3 K6 S3 S6 _ A.length r s w h hv hrs (by omega) (by omega) hcase
    have st : run32 K3 (run32 K3 S3 A (A.length / 64)) s.data.toList (s.size / 64) = run32 K3 S3 (A ++ s.data.toList) ((A ++ s.data.toList).length / 64) ∧ r.data.toList ++ s.data.toList.drop (64 * (s.size / 64)) = (A ++ s.data.toList).drop (64 * ((A ++ s.data.toList).length / 64)) := by
      rw [hr, ← h2]
      by_cases h0 : r.size = 0
      · have hk : A.length = 64 * (A.length / 64) := by omega
        have sb := step_b32 K3 S3 A s.data.toList (A.length / 64) hk
        rw [← hk, List.drop_length, List.nil_append]
        exact sb
      · exact step_c32 K3 S3 A s.data.toList (by rw [h2]; omega)
    rw [st.1, st.2, hc] at hf
    exact hf

/-! ### 64 bits -/
theorem step_b64 (K : List Nat) (S : V8) (A l : List UInt8) (k : Nat) (hk : A.length = 128 * k) :
    run64 K (run64 K S A k) l (l.length / 128) = run64 K S (A ++ l) ((A ++ l).length / 128) ∧ l.drop (128 * (l.length / 128)) = (A ++ l).drop (128 * ((A ++ l).length / 128)) := by
  have e : (A ++ l).length / 128 = k + l.length / 128 := by rw [List.length_append, hk, Nat.mul_add_div (by decide)]
  rw [e]
  refine ⟨?_, ?_⟩
  · rw [run_app64 K S A l k hk, run_pre64 K S A l k (by omega)]
  · rw [Nat.mul_add, ← hk, ← List.drop_drop, List.drop_left]
theorem step_c64 (K : List Nat) (S : V8) (A l : List UInt8) (h : A.length % 128 + l.length < 128) :
    run64 K (run64 K S A (A.length / 128)) l (l.length / 128) = run64 K S (A ++ l) ((A ++ l).length / 128) ∧ A.drop (128 * (A.length / 128)) ++ l.drop (128 * (l.length / 128)) = (A ++ l).drop (128 * ((A ++ l).length / 128)) := by
  have e : (A ++ l).length / 128 = A.length / 128 := by rw [List.length_append]; omega
  have e0 : l.length / 128 = 0 := by omega
  rw [e, e0]
  refine ⟨?_, ?_⟩
  · rw [run_pre64 K S A l _ (by omega)]; rfl
  · rw [List.drop_append_of_le_length (by omega)]; rfl
theorem step_a64 (K : List Nat) (S : V8) (A l R : List UInt8) (m : Nat) (hR : R = A.drop (128 * (A.length / 128))) (hm : R.length + m = 128) (hl : m ≤ l.length) :
    run64 K (run64 K (run64 K S A (A.length / 128)) (R ++ l.take m) 1) (l.drop m) ((l.drop m).length / 128) = run64 K S (A ++ l) ((A ++ l).length / 128) ∧ (l.drop m).drop (128 * ((l.drop m).length / 128)) = (A ++ l).drop (128 * ((A ++ l).length / 128)) := by
  obtain ⟨k, hk⟩ : ∃ k, A.length / 128 = k := ⟨_, rfl⟩
  rw [hk] at hR ⊢
  have hkl : 128 * k ≤ A.length := by omega
  have ha : (A.take (128 * k)).length = 128 * k := by rw [List.length_take]; omega
  have hb : (R ++ l.take m).length = 128 * 1 := by rw [List.length_append, List.length_take]; omega
  have e : A ++ l = A.take (128 * k) ++ ((R ++ l.take m) ++ l.drop m) := by
    rw [List.append_assoc, List.take_append_drop, hR, ← List.append_assoc, List.take_append_drop]
  have e2 : (A ++ l).length / 128 = k + (1 + (l.drop m).length / 128) := by
    rw [e, List.length_append, ha, List.length_append, hb, Nat.mul_add_div (by decide), Nat.mul_add_div (by decide)]
  rw [e2]
  refine ⟨?_, ?_⟩
  · have e3 : run64 K S (A ++ l) (k + (1 + (l.drop m).length / 128)) = run64 K (run64 K S (A ++ l) k) ((R ++ l.take m) ++ l.drop m) (1 + (l.drop m).length / 128) := by
      have := run_app64 K S (A.take (128 * k)) ((R ++ l.take m) ++ l.drop m) k ha (1 + (l.drop m).length / 128)
      rw [← e] at this
      exact this
    rw [e3, run_pre64 K S A l k hkl, run_app64 K _ (R ++ l.take m) (l.drop m) 1 hb, run_pre64 K _ (R ++ l.take m) (l.drop m) 1 (by omega)]
  · rw [Nat.mul_add, Nat.mul_add, ← List.drop_drop, ← List.drop_drop]
    have d1 : (A ++ l).drop (128 * k) = (R ++ l.take m) ++ l.drop m := by
      rw [List.drop_append_of_le_length hkl, ← hR, List.append_assoc, List.take_append_drop]
    rw [d1, ← hb, List.drop_left]

theorem feed_any64 (T : Array Value) (K3 K6 : List Nat) (S3 S6 : V8) (A : List UInt8) (r s : ByteArray) (w : World) (h : TF T K3 S3 K6 S6) (hr : r.data.toList = A.drop (128 * (A.length / 128))) (hA : A.length + s.size ≤ 549755813888) :
    Calls Try.prog 32 #[.agg T, .agg (HC true V0 (run64 K6 S6 A (A.length / 128)) r (A.length : Int)), .string s] w fun e w' => (∃ r' : ByteArray, e = .returned (.tuple #[.agg (HC true V0 (run64 K6 S6 (A ++ s.data.toList) ((A ++ s.data.toList).length / 128)) r' ((A ++ s.data.toList).length : Int)), .int .i64 0]) ∧ r'.data.toList = (A ++ s.data.toList).drop (128 * ((A ++ s.data.toList).length / 128))) ∧ Below w.heap.size w w' := by
  have h1 : r.data.toList.length = r.size := rfl
  have h2 : s.data.toList.length = s.size := rfl
  have hrs : r.size = A.length % 128 := by rw [← h1, hr, List.length_drop]; omega
  have hc : (A.length : Int) + (s.size : Int) = ((A ++ s.data.toList).length : Int) := by rw [List.length_append, h2]; omega
  have hv : (run64 K6 S6 A (A.length / 128)).lt 18446744073709551616 := run_lt64 _ _ _ h.bs64 _
  by_cases ha : 0 < r.size ∧ 128 - r.size ≤ s.size
  · have hf := feeda.feed_a64 T K3 K6 S3 S6 _ A.length r s w h hv hrs (by omega) (by omega) ha
    have st := step_a64 K6 S6 A s.data.toList r.data.toList (128 - r.size) hr (by rw [h1]; omega) (by rw [h2]; exact ha.2)
    rw [st.1, st.2, hc] at hf
    exact hf
  · have hcase : r = ⟨#[]⟩ ∨ (r ≠ ⟨#[]⟩ ∧ s.size < 128 - r.size) := by
      by_cases h0 : r.size = 0
      · left
        have : r.data.toList = [] := List.eq_nil_of_length_eq_zero (h1.trans h0)
        apply ByteArray.ext
        apply Array.toList_inj.1
        exact this
      · right
        exact ⟨fun e => h0 (by rw [e]; rfl), by omega⟩
    have hf := feed.feed_c64 T K3 K6 S3 S6 _ A.length r s w h hv hrs (by omega) (by omega) hcase
    have st : run64 K6 (run64 K6 S6 A (A.length / 128)) s.data.toList (s.size / 128) = run64 K6 S6 (A ++ s.data.toList) ((A ++ s.data.toList).length / 128) ∧ r.data.toList ++ s.data.toList.drop (128 * (s.size / 128)) = (A ++ s.data.toList).drop (128 * ((A ++ s.data.toList).length / 128)) := by
      rw [hr, ← h2]
      by_cases h0 : r.size = 0
      · have hk : A.length = 128 * (A.length / 128) := by omega
        have sb := step_b64 K6 S6 A s.data.toList (A.length / 128) hk
        rw [← hk, List.drop_length, List.nil_append]
        exact sb
      · exact step_c64 K6 S6 A s.data.toList (by rw [h2]; omega)
    rw [st.1, st.2, hc] at hf
    exact hf
end Go.Proofs.Ythfljfampfioaaa.feedb
