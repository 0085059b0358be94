/-
  Plain definitions and facts on layer 4: a key's block, HMAC, masks, as lists of bytes (no function of the program is named here). Conditions: as each theorem says.
-/
import Derived.Test.YthfljfampfioaaaTabs
namespace Go.Proofs.Ythfljfampfioaaa.macm
open Go.RowKit
open Go.Proofs.Ythfljfampfioaaa.oct Go.Proofs.Ythfljfampfioaaa.arr Go.Proofs.Ythfljfampfioaaa.sham Go.Proofs.Ythfljfampfioaaa.thru Go.Proofs.Ythfljfampfioaaa.hashs Go.Proofs.Ythfljfampfioaaa.tabs

/-- the words of tables that the hash functions use -/
structure Wd where
  k3 : List Nat
  s3 : V8
  k6 : List Nat
  s6 : V8
/-- tables hold these words -/
def TX (T : Array Value) (x : Wd) : Prop := TF T x.k3 x.s3 x.k6 x.s6
/-- the document's tables' words -/
def wx : Wd := ⟨k32, s32, k64, s64⟩
/-- a hash -/
def hx (x : Wd) (b : Bool) (l : List UInt8) : List UInt8 := if b then hs64 x.k6 x.s6 l else hs32 x.k3 x.s3 l
/-- its length -/
def hN (b : Bool) : Nat := if b then 64 else 32
/-- a block's length -/
def bN (b : Bool) : Nat := if b then 128 else 64
theorem hx_length (x : Wd) (b : Bool) (l : List UInt8) : (hx x b l).length = hN b := by
  cases b
  · exact hs_length32 _ _ _
  · exact hs_length64 _ _ _
theorem hN_f : hN false = 32 := rfl
theorem hN_t : hN true = 64 := rfl
theorem hN_le (b : Bool) : 32 ≤ hN b ∧ hN b ≤ 64 := by cases b <;> decide
theorem bN_le (b : Bool) : 64 ≤ bN b ∧ bN b ≤ 128 ∧ bN b = 2 * hN b := by cases b <;> decide
/-- a key filled up to n bytes, each mixed with c -/
def mx (l : List UInt8) (n c : Nat) : List UInt8 := (l ++ List.replicate (n - l.length) 0).map (· ^^^ UInt8.ofNat c)
theorem mx_length (l : List UInt8) (n c : Nat) (h : l.length ≤ n) : (mx l n c).length = n := by simp [mx]; omega
/-- the first k bytes are mixed -/
def mxk (l : List UInt8) (n c k : Nat) : List UInt8 := ((l ++ List.replicate (n - l.length) 0).take k).map (· ^^^ UInt8.ofNat c) ++ (l ++ List.replicate (n - l.length) 0).drop k
theorem mxk_length (l : List UInt8) (n c k : Nat) (h : l.length ≤ n) : (mxk l n c k).length = n := by simp [mxk]; omega
theorem mxk_zero (l : List UInt8) (n c : Nat) : mxk l n c 0 = l ++ List.replicate (n - l.length) 0 := by simp [mxk]
theorem mxk_all (l : List UInt8) (n c : Nat) (h : l.length ≤ n) : mxk l n c n = mx l n c := by
  have hl : (l ++ List.replicate (n - l.length) (0 : UInt8)).length = n := by simp; omega
  rw [mxk, List.take_of_length_le (by omega), List.drop_of_length_le (by omega), List.append_nil]; rfl
theorem mxk_get (l : List UInt8) (n c k : Nat) (h : l.length ≤ n) (hk : k < n) : ∃ a : UInt8, (mxk l n c k)[k]? = some a ∧ mxk l n c (k + 1) = (mxk l n c k).set k (a ^^^ UInt8.ofNat c) := by
  obtain ⟨P, hP⟩ : ∃ P, l ++ List.replicate (n - l.length) (0 : UInt8) = P := ⟨_, rfl⟩
  have hl : P.length = n := by rw [← hP]; simp; omega
  have hkl : k < P.length := by omega
  refine ⟨P[k], ?_, ?_⟩
  · unfold mxk
    rw [hP, List.getElem?_append_right (by simp; omega), List.length_map, List.length_take, Nat.min_eq_left (by omega), Nat.sub_self, List.getElem?_drop, Nat.add_zero, List.getElem?_eq_getElem hkl]
  · unfold mxk
    rw [hP, List.take_succ_eq_append_getElem hkl, List.map_append, List.append_assoc, List.set_append_right _ _ (by simp; omega), List.length_map, List.length_take, Nat.min_eq_left (by omega), Nat.sub_self, List.drop_eq_getElem_cons hkl, List.set_cons_zero]
    rfl
theorem xor_byte (a : UInt8) (c : Nat) (hc : c < 256) : bits .xor .u8 (a.toNat : Int) (c : Int) = ((a ^^^ UInt8.ofNat c).toNat : Int) := by
  have h1 := a.toNat_lt
  have h := u8_xor_nat a.toNat c h1 hc
  rw [h, UInt8.toNat_xor]
  simp [Nat.mod_eq_of_lt hc]
/-- the key as HMAC takes it -/
def ky (x : Wd) (b : Bool) (key : List UInt8) : List UInt8 := if bN b < key.length then hx x b key else key
theorem ky_le (x : Wd) (b : Bool) (key : List UInt8) : (ky x b key).length ≤ bN b := by
  have := bN_le b
  have := hN_le b
  unfold ky
  split
  · rw [hx_length]; omega
  · omega
/-- HMAC -/
def hm (x : Wd) (b : Bool) (key s : List UInt8) : List UInt8 := hx x b (mx (ky x b key) (bN b) 92 ++ hx x b (mx (ky x b key) (bN b) 54 ++ s))
theorem hm_length (x : Wd) (b : Bool) (key s : List UInt8) : (hm x b key s).length = hN b := hx_length _ _ _
/-- k hashes of seed and number -/
def mk (x : Wd) (b : Bool) (seed : List UInt8) : Nat → List UInt8
  | 0 => []
  | k + 1 => mk x b seed k ++ hx x b (seed ++ fixL k 4)
theorem mk_length (x : Wd) (b : Bool) (seed : List UInt8) (k : Nat) : (mk x b seed k).length = hN b * k := by
  induction k with
  | zero => rfl
  | succ k ih => rw [mk, List.length_append, hx_length, ih, Nat.mul_succ]
theorem mk_pre (x : Wd) (b : Bool) (seed : List UInt8) (j : Nat) : ∀ k, j ≤ k → (mk x b seed k).take (hN b * j) = mk x b seed j := by
  intro k
  induction k with
  | zero => intro h; have : j = 0 := by omega
            subst this; rfl
  | succ k ih =>
    intro h
    by_cases hj : j = k + 1
    · subst hj; rw [List.take_of_length_le (by rw [mk_length]; exact Nat.le_refl _)]
    · rw [mk, List.take_append_of_le_length (by rw [mk_length]; exact Nat.mul_le_mul_left _ (by omega)), ih (by omega)]
/-- how many hashes a mask of n bytes needs -/
def mn (b : Bool) (n : Int) : Nat := ((min n 50000).toNat + (hN b - 1)) / hN b
theorem mn_le (b : Bool) (n : Int) : mn b n ≤ 1600 := by
  unfold mn
  rcases b with _ | _ <;> simp only [hN_f, hN_t] <;> omega
/-- a mask -/
def ms (x : Wd) (b : Bool) (seed : List UInt8) (n : Int) : List UInt8 := (mk x b seed (mn b n)).take n.toNat
theorem ms_length (x : Wd) (b : Bool) (seed : List UInt8) (n : Nat) (h : n ≤ 50000) : (ms x b seed n).length = n := by
  rw [ms, List.length_take, mk_length, mn]
  rcases b with _ | _ <;> simp only [hN_f, hN_t] <;> omega
theorem ms_pre (x : Wd) (b : Bool) (seed : List UInt8) (n m : Nat) (h : n + m ≤ 50000) : (ms x b seed ((n + m : Nat) : Int)).take n = ms x b seed n := by
  have hle : mn b n ≤ mn b ((n + m : Nat) : Int) := by unfold mn; apply Nat.div_le_div_right; omega
  have hg : n ≤ hN b * mn b n := by unfold mn; rcases b with _ | _ <;> simp only [hN_f, hN_t] <;> omega
  rw [ms, ms, List.take_take, Int.toNat_natCast, Int.toNat_natCast, Nat.min_eq_left (by omega), ← mk_pre x b seed (mn b n) (mn b ((n + m : Nat) : Int)) hle, List.take_take, Nat.min_eq_left hg]
end Go.Proofs.Ythfljfampfioaaa.macm
