/-
  Plain definitions and facts on layer 4: a key's block, HMAC, masks, as lists of bytes (no function of the program is named here). Conditions: as each theorem says.
  What mac.Hash returns: the hash; memory that was there before stays as it was. Conditions: the tables hold the words, the string has at most 2^40 - 1000 bytes.
  What the closure in mac.Hmac and the reference's turned return: the key filled up with noughts, each byte mixed with another; memory that was there before stays as it was. Conditions: the key fits into the block.
  What mac.Hmac returns: the document's code; memory that was there before stays as it was. Conditions: the tables hold the words, key and string have at most 2^39 bytes.
-/
import Derived.Test.YthfljfampfioaaaSh3
import Derived.Test.YthfljfampfioaaaRSh
namespace Go.Proofs.Ythfljfampfioaaa.macm
open Go.RowKit
open Go.Proofs.Ythfljfampfioaaa.oct Go.Proofs.Ythfljfampfioaaa.arr Go.Proofs.Ythfljfampfioaaa.sham Go.Proofs.Ythfljfampfioaaa.thru Go.Proofs.Ythfljfampfioaaa.hashs Go.Proofs.Ythfljfampfioaaa.tabs

/-- the words of tables that the hash functions use -/
structure Wd where
  k3 : List Nat
  s3 : V8
  k6 : List Nat
  s6 : V8
/-- tables hold these words -/
def TX (T : Array Value) (x : Wd) : Prop := TF T x.k3 x.s3 x.k6 x.s6
/-- the document's tables' words -/
def wx : Wd := ⟨k32, s32, k64, s64⟩
/-- a hash -/
def hx (x : Wd) (b : Bool) (l : List UInt8) : List UInt8 := if b then hs64 x.k6 x.s6 l else hs32 x.k3 x.s3 l
/-- its length -/
def hN (b : Bool) : Nat := if b then 64 else 32
/-- a block's length -/
def bN (b : Bool) : Nat := if b then 128 else 64
theorem hx_length (x : Wd) (b : Bool) (l : List UInt8) : (hx x b l).length = hN b := by
  cases b
  · exact hs_length32 _ _ _
  · exact hs_length64 _ _ _
theorem hN_f : hN false = 32 := rfl
theorem hN_t : hN true = 64 := rfl
theorem hN_le (b : Bool) : 32 ≤ hN b ∧ hN b ≤ 64 := by cases b <;> decide
theorem bN_le (b : Bool) : 64 ≤ bN b ∧ bN b ≤ 128 ∧ bN b = 2 * hN b := by cases b <;> decide
/-- a key filled up to n bytes, each mixed with c -/
def mx (l : List UInt8) (n c : Nat) : List UInt8 := (l ++ List.replicate (n - l.length) 0).map (· ^^^ UInt8.ofNat c)
theorem mx_length (l : List UInt8) (n c : Nat) (h : l.length ≤ n) : (mx l n c).length = n := by simp [mx]; omega
/-- the first k bytes are mixed -/
def mxk (l : List UInt8) (n c k : Nat) : List UInt8 := ((l ++ List.replicate (n - l.length) 0).take k).map (· ^^^ UInt8.ofNat c) ++ (l ++ List.replicate (n - l.length) 0).drop k
theorem mxk_length (l : List UInt8) (n c k : Nat) (h : l.length ≤ n) : (mxk l n c k).length = n := by simp [mxk]; omega
theorem mxk_zero (l : List UInt8) (n c : Nat) : mxk l n c 0 = l ++ List.replicate (n - l.length) 0 := by simp [mxk]
theorem mxk_all (l : List UInt8) (n c : Nat) (h : l.length ≤ n) : mxk l n c n = mx l n c := by
  have hl : (l ++ List.replicate (n - l.length) (0 : UInt8)).length = n := by simp; omega
  rw [mxk, List.take_of_length_le (by omega), List.drop_of_length_le (by omega), List.append_nil]; rfl
theorem mxk_get (l : List UInt8) (n c k : Nat) (h : l.length ≤ n) (hk : k < n) : ∃ a : UInt8, (mxk l n c k)[k]? = some a ∧ mxk l n c (k + 1) = (mxk l n c k).set k (a ^^^ UInt8.ofNat c) := by
  obtain ⟨P, hP⟩ : ∃ P, l ++ List.replicate (n - l.length) (0 : UInt8) = P := ⟨_, rfl⟩
  have hl : P.length = n := by rw [← hP]; simp; omega
  have hkl : k < P.length := by omega
  refine ⟨P[k], ?_, ?_⟩
  · unfold mxk
    rw [hP, List.getElem?_append_right (by simp; omega), List.length_map, List.length_take, Nat.min_eq_left (by omega), Nat.sub_self, List.getElem?_drop, Nat.add_zero, List.getElem?_eq_getElem hkl]
  · unfold mxk
    rw [hP, List.take_succ_eq_append_getElem hkl, List.map_append, List.append_assoc, List.set_append_right _ _ (by simp; omega), List.length_map, List.length_take, Nat.min_eq_left (by omega), Nat.sub_self, List.drop_eq_getElem_cons hkl, List.set_cons_zero]
    rfl
theorem xor_byte (a : UInt8) (c : Nat) (hc : c < 256) : bits .xor .u8 (a.toNat : Int) (c : Int) = ((a ^^^ UInt8.ofNat c).toNat : Int) := by
  have h1 := a.toNat_lt
  have h := u8_xor_nat a.toNat c h1 hc
  rw [h, UInt8.toNat_xor]
  simp [Nat.mod_eq_of_lt hc]
/-- the key as HMAC takes it -/
def ky (x : Wd) (b : Bool) (key : List UInt8) : List UInt8 := if bN b < key.length then hx x b key else key
theorem ky_le (x : Wd) (b : Bool) (key : List UInt8) : (ky x b key).length ≤ bN b := by
  have := bN_le b
  have := hN_le b
  unfold ky
  split
  · rw [hx_length]; omega
  · omega
/-- HMAC -/
def hm (x : Wd) (b : Bool) (key s : List UInt8) : List UInt8 := hx x b (mx (ky x b key) (bN b) 92 ++ hx x b (mx (ky x b key) (bN b) 54 ++ s))
theorem hm_length (x : Wd) (b : Bool) (key s : List UInt8) : (hm x b key s).length = hN b := hx_length _ _ _
/-- k hashes of seed and number -/
def mk (x : Wd) (b : Bool) (seed : List UInt8) : Nat → List UInt8
  | 0 => []
  | k + 1 => mk x b seed k ++ hx x b (seed ++ fixL k 4)
theorem mk_length (x : Wd) (b : Bool) (seed : List UInt8) (k : Nat) : (mk x b seed k).length = hN b * k := by
  induction k with
  | zero => rfl
  | succ k ih => rw [mk, List.length_append, hx_length, ih, Nat.mul_succ]
theorem mk_pre (x : Wd) (b : Bool) (seed : List UInt8) (j : Nat) : ∀ k, j ≤ k → (mk x b seed k).take (hN b * j) = mk x b seed j := by
  intro k
  induction k with
  | zero => intro h; have : j = 0 := by omega
            subst this; rfl
  | succ k ih =>
    intro h
    by_cases hj : j = k + 1
    · subst hj; rw [List.take_of_length_le (by rw [mk_length]; exact Nat.le_refl _)]
    · rw [mk, List.take_append_of_le_length (by rw [mk_length]; exact Nat.mul_le_mul_left _ (by omega)), ih (by omega)]
/-- how many hashes a mask of n bytes needs -/
def mn (b : Bool) (n : Int) : Nat := ((min n 50000).toNat + (hN b - 1)) / hN b
theorem mn_le (b : Bool) (n : Int) : mn b n ≤ 1600 := by
  unfold mn
  rcases b with _ | _ <;> simp only [hN_f, hN_t] <;> omega
/-- a mask -/
def ms (x : Wd) (b : Bool) (seed : List UInt8) (n : Int) : List UInt8 := (mk x b seed (mn b n)).take n.toNat
theorem ms_length (x : Wd) (b : Bool) (seed : List UInt8) (n : Nat) (h : n ≤ 50000) : (ms x b seed n).length = n := by
  rw [ms, List.length_take, mk_length, mn]
  rcases b with _ | _ <;> simp only [hN_f, hN_t] <;> omega
theorem ms_pre (x : Wd) (b : Bool) (seed : List UInt8) (n m : Nat) (h : n + m ≤ 50000) : (ms x b seed ((n + m : Nat) : Int)).take n = ms x b seed n := by
  have hle : mn b n ≤ mn b ((n + m : Nat) : Int) := by unfold mn; apply Nat.div_le_div_right; omega
  have hg : n ≤ hN b * mn b n := by unfold mn; rcases b with _ | _ <;> simp only [hN_f, hN_t] <;> omega
  rw [ms, ms, List.take_take, Int.toNat_natCast, Int.toNat_natCast, Nat.min_eq_left (by omega), ← mk_pre x b seed (mn b n) (mn b ((n + m : Nat) : Int)) hle, List.take_take, Nat.min_eq_left hg]
end Go.Proofs.Ythfljfampfioaaa.macm

namespace Go.Proofs.Ythfljfampfioaaa.mach
open Go.RowKit
open Go.Proofs.Ythfljfampfioaaa.oct Go.Proofs.Ythfljfampfioaaa.mem Go.Proofs.Ythfljfampfioaaa.arr Go.Proofs.Ythfljfampfioaaa.sham Go.Proofs.Ythfljfampfioaaa.thru Go.Proofs.Ythfljfampfioaaa.hashs Go.Proofs.Ythfljfampfioaaa.macm

set_option maxRecDepth 100000 in
set_option maxHeartbeats 1000000 in
theorem hash_false (T : Array Value) (x : Wd) (s : ByteArray) (w : World) (h : TX T x) (hs : s.size ≤ 1099511626000) :
    Calls Try.prog 9 #[.agg T, .bool false, .string s] w fun e w' => e = .returned (.string ⟨(hx x false s.data.toList).toArray⟩) ∧ Below w.heap.size w w' := by
  have Hc : Away (∀ w1 : World, Calls Try.prog 27 #[.agg T, .string s] w1 fun e w' => e = .returned (.string ⟨(hx x false s.data.toList).toArray⟩) ∧ Below w1.heap.size w1 w') := ⟨fun w1 => hashs.whole32 T x.k3 x.k6 x.s3 x.s6 s w1 h hs⟩
  obtain ⟨H, HH⟩ := ex_eq (hx x false s.data.toList)
  rw [HH.out] at Hc ⊢
  have HTs : Away (T.size = 465) := ⟨h.size⟩
  clear HH h
  have G0 : Away ((w.alloc (.cells T 33)).heap[w.heap.size]? = some (.cells T 33 (0, 0))) := ⟨heap_at _ _ _ rfl⟩
  go_enter Try.func9, Try.ntmps9
  go_wp2_with (refine wpList_load_row rfl 33 _ rfl w.heap.size rfl 33 T (0, 0) _ G0.out Try.underlying33 rfl (by rw [HTs.out]; exact sizeT) ?_)
  refine (Hc.out _).mono ?_
  rintro e w1 ⟨rfl, hb⟩
  have Hb : Away (Below w.heap.size w w1) := ⟨(below_alloc w _).trans (hb.mono (by simp))⟩
  clear hb
  go_wp2_with fail
  go_ret
  exact ⟨rfl, Hb.out⟩

set_option maxRecDepth 100000 in
set_option maxHeartbeats 1000000 in
theorem hash_true (T : Array Value) (x : Wd) (s : ByteArray) (w : World) (h : TX T x) (hs : s.size ≤ 1099511626000) :
    Calls Try.prog 9 #[.agg T, .bool true, .string s] w fun e w' => e = .returned (.string ⟨(hx x true s.data.toList).toArray⟩) ∧ Below w.heap.size w w' := by
  have Hc : Away (∀ w1 : World, Calls Try.prog 26 #[.agg T, .string s] w1 fun e w' => e = .returned (.string ⟨(hx x true s.data.toList).toArray⟩) ∧ Below w1.heap.size w1 w') := ⟨fun w1 => hashs.whole64 T x.k3 x.k6 x.s3 x.s6 s w1 h hs⟩
  obtain ⟨H, HH⟩ := ex_eq (hx x true s.data.toList)
  rw [HH.out] at Hc ⊢
  have HTs : Away (T.size = 465) := ⟨h.size⟩
  clear HH h
  have G0 : Away ((w.alloc (.cells T 33)).heap[w.heap.size]? = some (.cells T 33 (0, 0))) := ⟨heap_at _ _ _ rfl⟩
  go_enter Try.func9, Try.ntmps9
  go_wp2_with (refine wpList_load_row rfl 33 _ rfl w.heap.size rfl 33 T (0, 0) _ G0.out Try.underlying33 rfl (by rw [HTs.out]; exact sizeT) ?_)
  refine (Hc.out _).mono ?_
  rintro e w1 ⟨rfl, hb⟩
  have Hb : Away (Below w.heap.size w w1) := ⟨(below_alloc w _).trans (hb.mono (by simp))⟩
  clear hb
  go_wp2_with fail
  go_ret
  exact ⟨rfl, Hb.out⟩

theorem hash_any (T : Array Value) (x : Wd) (b : Bool) (s : ByteArray) (w : World) (h : TX T x) (hs : s.size ≤ 1099511626000) :
    Calls Try.prog 9 #[.agg T, .bool b, .string s] w fun e w' => e = .returned (.string ⟨(hx x b s.data.toList).toArray⟩) ∧ Below w.heap.size w w' := by
  cases b
  · exact hash_false T x s w h hs
  · exact hash_true T x s w h hs
end Go.Proofs.Ythfljfampfioaaa.mach

namespace Go.Proofs.Ythfljfampfioaaa.mix
open Go.RowKit
open Go.Proofs.Ythfljfampfioaaa.oct Go.Proofs.Ythfljfampfioaaa.mem Go.Proofs.Ythfljfampfioaaa.arr Go.Proofs.Ythfljfampfioaaa.pad Go.Proofs.Ythfljfampfioaaa.ends Go.Proofs.Ythfljfampfioaaa.r01m Go.Proofs.Ythfljfampfioaaa.rpad Go.Proofs.Ythfljfampfioaaa.macm

theorem cells_setU (l : List UInt8) (k : Nat) (v : UInt8) (x : Int) (h : x = (v.toNat : Int)) : (Lib.byteCells l).set k (.int .u8 x) = Lib.byteCells (l.set k v) := by
  subst h; simp [Lib.byteCells, List.map_set]

set_option maxRecDepth 100000 in
set_option maxHeartbeats 2000000 in
theorem clo_any (gs gk : Nat) (key : ByteArray) (n c : Nat) (w : World) (cs : w.cell? ⟨gs, 0, none⟩ = some (.int .i64 (n : Int))) (ck : w.cell? ⟨gk, 0, none⟩ = some (.string key)) (lk : gk < w.heap.size) (hk : key.size ≤ n) (h0 : 1 ≤ n) (hn : n ≤ 1000) (hc : c < 256) :
    Calls Try.prog 30 #[.int .u8 (c : Int), .pointer (some ⟨gs, 0, none⟩), .pointer (some ⟨gk, 0, none⟩)] w fun e w' => e = .returned (.string ⟨(mx key.data.toList n c).toArray⟩) ∧ Below w.heap.size w w' := by
  obtain ⟨i0, hi, hz0, hz1, hz2⟩ := info_parts infoByte
  have HI := Away.mk (And.intro hi (And.intro hz0 (And.intro hz1 hz2)))
  have hsl : key.data.toList.length = key.size := rfl
  have hsd : key.data.size = key.size := rfl
  have Hm0 : Away (mxk key.data.toList n c 0 = key.data.toList ++ List.replicate (n - key.size) 0) := ⟨by rw [mxk_zero, hsl]⟩
  have Hmn : Away (mxk key.data.toList n c n = mx key.data.toList n c) := ⟨mxk_all _ _ _ (by omega)⟩
  have Hml : Away (∀ k, (mxk key.data.toList n c k).length = n) := ⟨fun k => mxk_length _ _ _ _ (by omega)⟩
  have Hmg : Away (∀ k, k < n → ∃ a : UInt8, (mxk key.data.toList n c k)[k]? = some a ∧ mxk key.data.toList n c (k + 1) = (mxk key.data.toList n c k).set k (a ^^^ UInt8.ofNat c)) := ⟨fun k hk2 => mxk_get _ _ _ _ (by omega) hk2⟩
  obtain ⟨M, hM⟩ : ∃ M, mxk key.data.toList n c = M := ⟨_, rfl⟩
  obtain ⟨X, hX⟩ : ∃ X, mx key.data.toList n c = X := ⟨_, rfl⟩
  rw [hM] at Hm0 Hmn Hml Hmg
  rw [hX] at Hmn ⊢
  clear hi hz0 hz1 hz2 hM hX
  go_enter Try.func30, Try.ntmps30
  go_wp2_with (at_make; refine wpList_make_full _ rfl (.tmp 7) (.tmp 7) 52 rfl w.heap.size 5 i0 (.int .u8 0) 1 Try.underlying52 HI.out.1 HI.out.2.1 HI.out.2.2.1 .i64 .i64 n n n rfl rfl rfl rfl (by rw [HI.out.2.2.2]; omega) (by unfold maxLen; omega) (Nat.le_refl _) ?_; intro w1 hown hgrow; have ck1 : w1.cell? ⟨gk, 0, none⟩ = some (.string key) := ((((Below.refl w.heap.size w).grown hgrow (Nat.le_refl _) (fun k hk => by simp at hk)).cell (p := ⟨gk, 0, none⟩) lk).trans ck))
  have hB : Below w.heap.size w w1 := (Below.refl _ _).grown hgrow (Nat.le_refl _) (fun k hk => by simp at hk)
  obtain ⟨cur, hg, hcur, hb0, hcs, hmx⟩ := own_open hown
  have Hg := Away.mk hg
  have Hcl : Away (cur.toList = List.replicate n (Value.int .u8 0)) := ⟨by rw [hcur]; simp [Value.cells, toList_madeCells_one]⟩
  have hg2 : (w1.setRow w.heap.size (Lib.byteCells key.data.toList ++ cur.toList.drop key.size).toArray).heap[w.heap.size]? = some (.cells (Lib.byteCells key.data.toList ++ cur.toList.drop key.size).toArray 5 (0, 0)) := setRow_heap _ _ _ _ _ _ hg
  have hb2 : Below w.heap.size w (w1.setRow w.heap.size (Lib.byteCells key.data.toList ++ cur.toList.drop key.size).toArray) := hB.trans (below_setRow _ _ _ (Nat.le_refl _))
  have ho2 := own_close hg2 (Nat.le_refl _) (M := n) (by rw [List.size_toArray, List.length_append, Lib.byteCells_length, List.length_drop, Array.length_toList, Array.length_toList, hsd, hcs]; omega) hmx
  have hdz : Lib.byteCells key.data.toList ++ cur.toList.drop key.size = Lib.byteCells (M 0) := by
    rw [Hcl.out, List.drop_replicate, Hm0.out, Lib.byteCells_append]
    simp [Lib.byteCells]
  rw [List.toList_toArray, hdz] at ho2
  rw [hdz] at hb2
  have hcp := Lib.run_copy_row_string (P := Try.prog) w1 52 9 3 5 w.heap.size 0 n n key cur 5 Try.underlying52 (by rw [HI.out.1]; show some i0.size = some 1; rw [HI.out.2.2.1]) Hg.out (by omega) (by rw [hcs]; omega)
  rw [List.take_zero, List.nil_append, Nat.zero_add, hdz] at hcp
  obtain ⟨w2, Hw2⟩ := ex_eq (w1.setRow w.heap.size (Lib.byteCells (M 0)).toArray)
  rw [Hw2.out] at ho2 hb2 hcp
  have Ho2 := Away.mk ho2
  have Hb2 := Away.mk hb2
  clear hown hgrow hB hcur hb0 hmx hg hg2 hb2 ho2 hdz hsd
  go_wp2_with fail
  clear hcp
  go_loopw [14] (fun i wx => ∃ j : Nat, j ≤ n ∧ i = .int .i64 j ∧ Away (wx.ownsRow w.heap.size 5 1 (Value.slice (some ⟨w.heap.size, 0, none⟩) n n) n (Lib.byteCells (M j))) ∧ Away (Below w.heap.size w wx)) (fun i _ => n - (intOf i).toNat)
  case atStart => exact ⟨0, Nat.zero_le _, rfl, ⟨Ho2.out⟩, ⟨Hb2.out⟩⟩
  case round =>
    obtain ⟨j, hj, rfl, Ho, Hb⟩ := hrel
    by_cases hlt : j < n
    · obtain ⟨a, ha, hs⟩ := Hmg.out j hlt
      have hce := Ho.out.cellAt j (by omega)
      have hal : a.toNat < 256 := a.toNat_lt
      have hcl : (Lib.byteCells (M j))[j]? = some (.int .u8 (a.toNat : Int)) := by simp [Lib.byteCells, ha]
      rw [hcl] at hce
      have hfz := Ho.out.frozenAt j
      have hst := Ho.out.stored j (.int .u8 (bits .xor .u8 (a.toNat : Int) (c : Int)))
      rw [cells_setU _ _ _ _ (xor_byte a c hc), ← hs] at hst
      have Hst := Away.mk hst
      clear hst hcl hs ha
      go_wp2_with fail
      go_roundw
      case rel => exact ⟨j + 1, by omega, by go_num, ⟨Hst.out.1⟩, ⟨Hb.out.trans ((Below.refl w.heap.size _).setCell (p := ⟨w.heap.size, j, none⟩) (Nat.le_refl _) _)⟩⟩
      case measure => simp [intOf]; omega
    · obtain rfl : j = n := by omega
      have hO := Ho.out
      rw [Hmn.out] at hO
      have hcv := conv_row (by rw [← Hmn.out, Hml.out]) (by omega) hO
      clear hO
      go_wp2_with fail
      go_ret
      exact ⟨rfl, Hb.out⟩

set_option maxRecDepth 100000 in
set_option maxHeartbeats 2000000 in
theorem turned_any (key : ByteArray) (n c : Nat) (w : World) (hk : key.size ≤ n) (h0 : 1 ≤ n) (hn : n ≤ 1000) (hc : c < 256) :
    Calls Try.prog 31 #[.string key, .int .i64 (n : Int), .int .u8 (c : Int)] w fun e w' => e = .returned (.string ⟨(mx key.data.toList n c).toArray⟩) ∧ Below w.heap.size w w' := by
  obtain ⟨i0, hi, hz0, hz1, hz2⟩ := info_parts infoByte
  have HI := Away.mk (And.intro hi (And.intro hz0 (And.intro hz1 hz2)))
  have hsl : key.data.toList.length = key.size := rfl
  have hsd : key.data.size = key.size := rfl
  have Hm0 : Away (mxk key.data.toList n c 0 = key.data.toList ++ List.replicate (n - key.size) 0) := ⟨by rw [mxk_zero, hsl]⟩
  have Hmn : Away (mxk key.data.toList n c n = mx key.data.toList n c) := ⟨mxk_all _ _ _ (by omega)⟩
  have Hml : Away (∀ k, (mxk key.data.toList n c k).length = n) := ⟨fun k => mxk_length _ _ _ _ (by omega)⟩
  have Hmg : Away (∀ k, k < n → ∃ a : UInt8, (mxk key.data.toList n c k)[k]? = some a ∧ mxk key.data.toList n c (k + 1) = (mxk key.data.toList n c k).set k (a ^^^ UInt8.ofNat c)) := ⟨fun k hk2 => mxk_get _ _ _ _ (by omega) hk2⟩
  obtain ⟨M, hM⟩ : ∃ M, mxk key.data.toList n c = M := ⟨_, rfl⟩
  obtain ⟨X, hX⟩ : ∃ X, mx key.data.toList n c = X := ⟨_, rfl⟩
  rw [hM] at Hm0 Hmn Hml Hmg
  rw [hX] at Hmn ⊢
  clear hi hz0 hz1 hz2 hM hX
  go_enter Try.func31, Try.ntmps31
  go_wp2_with (at_make; refine wpList_make_full _ rfl (.tmp 9) (.tmp 9) 52 rfl w.heap.size 5 i0 (.int .u8 0) 1 Try.underlying52 HI.out.1 HI.out.2.1 HI.out.2.2.1 .i64 .i64 n n n rfl rfl rfl rfl (by rw [HI.out.2.2.2]; omega) (by unfold maxLen; omega) (Nat.le_refl _) ?_; intro w1 hown hgrow)
  have hB : Below w.heap.size w w1 := (Below.refl _ _).grown hgrow (Nat.le_refl _) (fun k hk => by simp at hk)
  obtain ⟨cur, hg, hcur, hb0, hcs, hmx⟩ := own_open hown
  have Hg := Away.mk hg
  have Hcl : Away (cur.toList = List.replicate n (Value.int .u8 0)) := ⟨by rw [hcur]; simp [Value.cells, toList_madeCells_one]⟩
  have hg2 : (w1.setRow w.heap.size (Lib.byteCells key.data.toList ++ cur.toList.drop key.size).toArray).heap[w.heap.size]? = some (.cells (Lib.byteCells key.data.toList ++ cur.toList.drop key.size).toArray 5 (0, 0)) := setRow_heap _ _ _ _ _ _ hg
  have hb2 : Below w.heap.size w (w1.setRow w.heap.size (Lib.byteCells key.data.toList ++ cur.toList.drop key.size).toArray) := hB.trans (below_setRow _ _ _ (Nat.le_refl _))
  have ho2 := own_close hg2 (Nat.le_refl _) (M := n) (by rw [List.size_toArray, List.length_append, Lib.byteCells_length, List.length_drop, Array.length_toList, Array.length_toList, hsd, hcs]; omega) hmx
  have hdz : Lib.byteCells key.data.toList ++ cur.toList.drop key.size = Lib.byteCells (M 0) := by
    rw [Hcl.out, List.drop_replicate, Hm0.out, Lib.byteCells_append]
    simp [Lib.byteCells]
  rw [List.toList_toArray, hdz] at ho2
  rw [hdz] at hb2
  have hcp := Lib.run_copy_row_string (P := Try.prog) w1 52 9 3 5 w.heap.size 0 n n key cur 5 Try.underlying52 (by rw [HI.out.1]; show some i0.size = some 1; rw [HI.out.2.2.1]) Hg.out (by omega) (by rw [hcs]; omega)
  rw [List.take_zero, List.nil_append, Nat.zero_add, hdz] at hcp
  obtain ⟨w2, Hw2⟩ := ex_eq (w1.setRow w.heap.size (Lib.byteCells (M 0)).toArray)
  rw [Hw2.out] at ho2 hb2 hcp
  have Ho2 := Away.mk ho2
  have Hb2 := Away.mk hb2
  clear hown hgrow hB hcur hb0 hmx hg hg2 hb2 ho2 hdz hsd
  go_wp2_with fail
  clear hcp
  go_loopw [16] (fun i wx => ∃ j : Nat, j ≤ n ∧ i = .int .i64 j ∧ Away (wx.ownsRow w.heap.size 5 1 (Value.slice (some ⟨w.heap.size, 0, none⟩) n n) n (Lib.byteCells (M j))) ∧ Away (Below w.heap.size w wx)) (fun i _ => n - (intOf i).toNat)
  case atStart => exact ⟨0, Nat.zero_le _, rfl, ⟨Ho2.out⟩, ⟨Hb2.out⟩⟩
  case round =>
    obtain ⟨j, hj, rfl, Ho, Hb⟩ := hrel
    by_cases hlt : j < n
    · obtain ⟨a, ha, hs⟩ := Hmg.out j hlt
      have hce := Ho.out.cellAt j (by omega)
      have hal : a.toNat < 256 := a.toNat_lt
      have hcl : (Lib.byteCells (M j))[j]? = some (.int .u8 (a.toNat : Int)) := by simp [Lib.byteCells, ha]
      rw [hcl] at hce
      have hfz := Ho.out.frozenAt j
      have hst := Ho.out.stored j (.int .u8 (bits .xor .u8 (a.toNat : Int) (c : Int)))
      rw [cells_setU _ _ _ _ (xor_byte a c hc), ← hs] at hst
      have Hst := Away.mk hst
      clear hst hcl hs ha
      go_wp2_with fail
      go_roundw
      case rel => exact ⟨j + 1, by omega, by go_num, ⟨Hst.out.1⟩, ⟨Hb.out.trans ((Below.refl w.heap.size _).setCell (p := ⟨w.heap.size, j, none⟩) (Nat.le_refl _) _)⟩⟩
      case measure => simp [intOf]; omega
    · obtain rfl : j = n := by omega
      have hO := Ho.out
      rw [Hmn.out] at hO
      have hcv := conv_row (by rw [← Hmn.out, Hml.out]) (by omega) hO
      clear hO
      go_wp2_with fail
      go_ret
      exact ⟨rfl, Hb.out⟩
end Go.Proofs.Ythfljfampfioaaa.mix

namespace Go.Proofs.Ythfljfampfioaaa.hmac
open Go.RowKit
open Go.Proofs.Ythfljfampfioaaa.oct Go.Proofs.Ythfljfampfioaaa.mem Go.Proofs.Ythfljfampfioaaa.arr Go.Proofs.Ythfljfampfioaaa.hashs Go.Proofs.Ythfljfampfioaaa.macm
theorem catD (l : List UInt8) (s : ByteArray) : ((⟨l.toArray⟩ : ByteArray) ++ s).data.toList = l ++ s.data.toList := by simp
theorem ky_short (x : Wd) (b : Bool) (key : List UInt8) (h : key.length ≤ bN b) : ky x b key = key := if_neg (by omega)
theorem ky_long (x : Wd) (b : Bool) (key : List UInt8) (h : bN b < key.length) : ky x b key = hx x b key := if_pos h

set_option maxRecDepth 100000 in
set_option maxHeartbeats 2000000 in
theorem hm_false_short (T : Array Value) (x : Wd) (key s : ByteArray) (w : World) (h : TX T x) (hk : key.size ≤ 64) (hkb : key.size ≤ 549755813888) (hs : s.size ≤ 549755813888) :
    Calls Try.prog 11 #[.agg T, .bool false, .string key, .string s] w fun e w' => e = .returned (.string ⟨(hm x false key.data.toList s.data.toList).toArray⟩) ∧ Below w.heap.size w w' := by
  have HTs : Away (T.size = 465) := ⟨h.size⟩
  have hkl : key.data.toList.length = key.size := rfl
  have hsl : s.data.toList.length = s.size := rfl
  have hky : ky x false key.data.toList = key.data.toList := ky_short _ _ _ (by rw [hkl]; exact hk)
  obtain ⟨q, hq⟩ : ∃ q : ByteArray, q = key := ⟨_, rfl⟩
  have hql : q.data.toList = ky x false key.data.toList := by rw [hq, hky]
  have hqs : q.size ≤ 64 := by rw [hq]; exact hk
  obtain ⟨A, hA⟩ : ∃ A, mx (ky x false key.data.toList) 64 92 = A := ⟨_, rfl⟩
  obtain ⟨B, hB⟩ : ∃ B, mx (ky x false key.data.toList) 64 54 = B := ⟨_, rfl⟩
  have hAl : A.length = 64 := by rw [← hA]; exact mx_length _ _ _ (ky_le x false _)
  have hBl : B.length = 64 := by rw [← hB]; exact mx_length _ _ _ (ky_le x false _)
  have hhm : hm x false key.data.toList s.data.toList = hx x false (A ++ hx x false (B ++ s.data.toList)) := by rw [← hA, ← hB]; rfl
  have HA : Away (∀ w1 : World, w1.cell? ⟨w.heap.size + 1 + 1, 0, none⟩ = some (.int .i64 64) → w1.cell? ⟨w.heap.size + 1, 0, none⟩ = some (.string q) → w.heap.size + 1 < w1.heap.size → Calls Try.prog 30 #[.int .u8 92, .pointer (some ⟨w.heap.size + 1 + 1, 0, none⟩), .pointer (some ⟨w.heap.size + 1, 0, none⟩)] w1 fun e w' => e = .returned (.string ⟨A.toArray⟩) ∧ Below w1.heap.size w1 w') := ⟨fun w1 c1 c2 l => by
    rw [← hA, ← hql]; exact mix.clo_any _ _ q 64 92 w1 c1 c2 l (by omega) (by decide) (by decide) (by decide)⟩
  have HB : Away (∀ w1 : World, w1.cell? ⟨w.heap.size + 1 + 1, 0, none⟩ = some (.int .i64 64) → w1.cell? ⟨w.heap.size + 1, 0, none⟩ = some (.string q) → w.heap.size + 1 < w1.heap.size → Calls Try.prog 30 #[.int .u8 54, .pointer (some ⟨w.heap.size + 1 + 1, 0, none⟩), .pointer (some ⟨w.heap.size + 1, 0, none⟩)] w1 fun e w' => e = .returned (.string ⟨B.toArray⟩) ∧ Below w1.heap.size w1 w') := ⟨fun w1 c1 c2 l => by
    rw [← hB, ← hql]; exact mix.clo_any _ _ q 64 54 w1 c1 c2 l (by omega) (by decide) (by decide) (by decide)⟩
  have HI : Away (∀ w1 : World, Calls Try.prog 9 #[.agg T, .bool false, .string ((⟨B.toArray⟩ : ByteArray) ++ s)] w1 fun e w' => e = .returned (.string ⟨(hx x false (B ++ s.data.toList)).toArray⟩) ∧ Below w1.heap.size w1 w') := ⟨fun w1 => by
    have hh := mach.hash_any T x false ((⟨B.toArray⟩ : ByteArray) ++ s) w1 h (by rw [ByteArray.size_append]; show B.toArray.size + _ ≤ _; rw [List.size_toArray]; omega)
    rw [catD] at hh; exact hh⟩
  have hIl : (hx x false (B ++ s.data.toList)).length = 32 := hx_length _ _ _
  rw [hhm]
  obtain ⟨I, hI⟩ : ∃ I, hx x false (B ++ s.data.toList) = I := ⟨_, rfl⟩
  rw [hI] at HI hIl ⊢
  have HO : Away (∀ w1 : World, Calls Try.prog 9 #[.agg T, .bool false, .string ((⟨A.toArray⟩ : ByteArray) ++ ⟨I.toArray⟩)] w1 fun e w' => e = .returned (.string ⟨(hx x false (A ++ I)).toArray⟩) ∧ Below w1.heap.size w1 w') := ⟨fun w1 => by
    have hh := mach.hash_any T x false ((⟨A.toArray⟩ : ByteArray) ++ ⟨I.toArray⟩) w1 h (by rw [ByteArray.size_append]; show A.toArray.size + I.toArray.size ≤ _; rw [List.size_toArray, List.size_toArray]; omega)
    rw [catD] at hh; exact hh⟩
  obtain ⟨R, hR⟩ : ∃ R, hx x false (A ++ I) = R := ⟨_, rfl⟩
  rw [hR] at HO ⊢
  have HAl := Away.mk hAl
  have HBl := Away.mk hBl
  have HIl := Away.mk hIl
  obtain ⟨A', hA'⟩ : ∃ A' : ByteArray, (⟨A.toArray⟩ : ByteArray) = A' := ⟨_, rfl⟩
  obtain ⟨B', hB'⟩ : ∃ B' : ByteArray, (⟨B.toArray⟩ : ByteArray) = B' := ⟨_, rfl⟩
  obtain ⟨I', hI'⟩ : ∃ I' : ByteArray, (⟨I.toArray⟩ : ByteArray) = I' := ⟨_, rfl⟩
  have sA : A'.size = 64 := by rw [← hA']; show A.toArray.size = _; rw [List.size_toArray]; exact hAl
  have sB : B'.size = 64 := by rw [← hB']; show B.toArray.size = _; rw [List.size_toArray]; exact hBl
  have sI : I'.size = 32 := by rw [← hI']; show I.toArray.size = _; rw [List.size_toArray]; exact hIl
  rw [hA'] at HA HO
  rw [hB'] at HB HI
  rw [hI'] at HI HO
  clear h hky hql hA hB hhm hI hR hA' hB' hI' HAl HBl HIl hAl hBl hIl
  subst hq
  obtain ⟨W, HW⟩ := ex_eq (((w.alloc (.cells T 33)).alloc (.cells #[.string q] 9)).alloc (.cells #[.int .i64 64] 3))
  have E0 : Away (W.heap[w.heap.size]? = some (.cells T 33 (0, 0))) := ⟨by rw [← HW.out, heap_past _ _ _ (by simp; omega), heap_past _ _ _ (by simp), heap_at _ _ _ rfl]⟩
  have E1 : Away (W.heap[w.heap.size + 1]? = some (.cells #[.string q] 9 (0, 0))) := ⟨by rw [← HW.out, heap_past _ _ _ (by simp), heap_at _ _ _ (by simp)]⟩
  have E2 : Away (W.heap[w.heap.size + 1 + 1]? = some (.cells #[.int .i64 64] 3 (0, 0))) := ⟨by rw [← HW.out, heap_at _ _ _ (by simp)]⟩
  have EB : Away (Below w.heap.size w W) := ⟨by rw [← HW.out]; exact ((((Below.refl _ _).alloc (Nat.le_refl _) _).alloc (by simp) _).alloc (by simp; omega) _)⟩
  go_enter Try.func11, Try.ntmps11
  go_wp2_with fail
  rw [HW.out]
  have C1 : Away (W.cell? ⟨w.heap.size + 1, 0, none⟩ = some (.string q)) := ⟨(cell_of_row W _ 0 _ _ (0, 0) E1.out).trans rfl⟩
  have C2 : Away (W.cell? ⟨w.heap.size + 1 + 1, 0, none⟩ = some (.int .i64 64)) := ⟨(cell_of_row W _ 0 _ _ (0, 0) E2.out).trans rfl⟩
  have L1 : Away (∀ d os, w.heap.size + 1 < (Go.Sort.grow (redrawn W d) os).heap.size) := ⟨fun d os => Nat.lt_of_lt_of_le (lt_of_row E1.out) (below_regrown W d os).size⟩
  have n1 : ¬ 9223372036854775807 < 64 + s.size := by omega
  have n2 : (9223372036854775807 < 64 + s.size) = False := eq_false n1
  refine wp_region_quiet_below (by kernel_rfl) (by kernel_rfl) ?_
  refine wpQuiet_load rfl 33 _ rfl _ rfl 33 _ _ (fun w' hC => heap_regrown E0.out hC) Try.underlying33 rfl (by rw [HTs.out]; exact sizeT) ?_
  quiet_step (skip)
  quiet_step (skip)
  quiet_step (exact Calls.regrown_of (HA.out _ (cell_regrown C2.out _ _) (cell_regrown C1.out _ _) (L1.out _ _)))
  refine wpQuiet_load rfl 33 _ rfl _ rfl 33 _ _ (fun w' hC => heap_regrown E0.out hC) Try.underlying33 rfl (by rw [HTs.out]; exact sizeT) ?_
  quiet_step (skip)
  quiet_step (skip)
  quiet_step (exact Calls.regrown_of (HB.out _ (cell_regrown C2.out _ _) (cell_regrown C1.out _ _) (L1.out _ _)))
  quiet_step (skip)
  quiet_step (skip)
  quiet_step (exact Calls.regrown_of (HI.out _))
  quiet_step (skip)
  quiet_step (exact Calls.regrown_of (HO.out _))
  quiet_step (skip)
  refine wpQuiet_nil ?_
  intro w3 hC
  have hb3 : Away (Below W.heap.size W w3) := ⟨by
    obtain ⟨pp, rfl⟩ := hC
    exact below_regrown _ _ _⟩
  clear hC
  go_wp2_with fail
  go_ret
  exact ⟨rfl, EB.out.trans (hb3.out.mono EB.out.size)⟩

set_option maxRecDepth 100000 in
set_option maxHeartbeats 2000000 in
theorem hm_false_long (T : Array Value) (x : Wd) (key s : ByteArray) (w : World) (h : TX T x) (hk : 64 < key.size) (hkb : key.size ≤ 549755813888) (hs : s.size ≤ 549755813888) :
    Calls Try.prog 11 #[.agg T, .bool false, .string key, .string s] w fun e w' => e = .returned (.string ⟨(hm x false key.data.toList s.data.toList).toArray⟩) ∧ Below w.heap.size w w' := by
  have HTs : Away (T.size = 465) := ⟨h.size⟩
  have hkl : key.data.toList.length = key.size := rfl
  have hsl : s.data.toList.length = s.size := rfl
  have hky : ky x false key.data.toList = hx x false key.data.toList := ky_long _ _ _ (by rw [hkl]; exact hk)
  have Hkh : Away (∀ w1 : World, Calls Try.prog 9 #[.agg T, .bool false, .string key] w1 fun e w' => e = .returned (.string ⟨(hx x false key.data.toList).toArray⟩) ∧ Below w1.heap.size w1 w') := ⟨fun w1 => mach.hash_any T x false key w1 h (by omega)⟩
  obtain ⟨q, Hq⟩ := ex_eq (⟨(hx x false key.data.toList).toArray⟩ : ByteArray)
  have hql : q.data.toList = ky x false key.data.toList := by rw [← Hq.out, hky]
  have hqs : q.size = 32 := by
    have e : q.data.toList.length = q.size := rfl
    rw [← e, hql, hky, hx_length]; rfl
  rw [Hq.out] at Hkh
  obtain ⟨A, hA⟩ : ∃ A, mx (ky x false key.data.toList) 64 92 = A := ⟨_, rfl⟩
  obtain ⟨B, hB⟩ : ∃ B, mx (ky x false key.data.toList) 64 54 = B := ⟨_, rfl⟩
  have hAl : A.length = 64 := by rw [← hA]; exact mx_length _ _ _ (ky_le x false _)
  have hBl : B.length = 64 := by rw [← hB]; exact mx_length _ _ _ (ky_le x false _)
  have hhm : hm x false key.data.toList s.data.toList = hx x false (A ++ hx x false (B ++ s.data.toList)) := by rw [← hA, ← hB]; rfl
  have HA : Away (∀ w1 : World, w1.cell? ⟨w.heap.size + 1 + 1, 0, none⟩ = some (.int .i64 64) → w1.cell? ⟨w.heap.size + 1, 0, none⟩ = some (.string q) → w.heap.size + 1 < w1.heap.size → Calls Try.prog 30 #[.int .u8 92, .pointer (some ⟨w.heap.size + 1 + 1, 0, none⟩), .pointer (some ⟨w.heap.size + 1, 0, none⟩)] w1 fun e w' => e = .returned (.string ⟨A.toArray⟩) ∧ Below w1.heap.size w1 w') := ⟨fun w1 c1 c2 l => by
    rw [← hA, ← hql]; exact mix.clo_any _ _ q 64 92 w1 c1 c2 l (by omega) (by decide) (by decide) (by decide)⟩
  have HB : Away (∀ w1 : World, w1.cell? ⟨w.heap.size + 1 + 1, 0, none⟩ = some (.int .i64 64) → w1.cell? ⟨w.heap.size + 1, 0, none⟩ = some (.string q) → w.heap.size + 1 < w1.heap.size → Calls Try.prog 30 #[.int .u8 54, .pointer (some ⟨w.heap.size + 1 + 1, 0, none⟩), .pointer (some ⟨w.heap.size + 1, 0, none⟩)] w1 fun e w' => e = .returned (.string ⟨B.toArray⟩) ∧ Below w1.heap.size w1 w') := ⟨fun w1 c1 c2 l => by
    rw [← hB, ← hql]; exact mix.clo_any _ _ q 64 54 w1 c1 c2 l (by omega) (by decide) (by decide) (by decide)⟩
  have HI : Away (∀ w1 : World, Calls Try.prog 9 #[.agg T, .bool false, .string ((⟨B.toArray⟩ : ByteArray) ++ s)] w1 fun e w' => e = .returned (.string ⟨(hx x false (B ++ s.data.toList)).toArray⟩) ∧ Below w1.heap.size w1 w') := ⟨fun w1 => by
    have hh := mach.hash_any T x false ((⟨B.toArray⟩ : ByteArray) ++ s) w1 h (by rw [ByteArray.size_append]; show B.toArray.size + _ ≤ _; rw [List.size_toArray]; omega)
    rw [catD] at hh; exact hh⟩
  have hIl : (hx x false (B ++ s.data.toList)).length = 32 := hx_length _ _ _
  rw [hhm]
  obtain ⟨I, hI⟩ : ∃ I, hx x false (B ++ s.data.toList) = I := ⟨_, rfl⟩
  rw [hI] at HI hIl ⊢
  have HO : Away (∀ w1 : World, Calls Try.prog 9 #[.agg T, .bool false, .string ((⟨A.toArray⟩ : ByteArray) ++ ⟨I.toArray⟩)] w1 fun e w' => e = .returned (.string ⟨(hx x false (A ++ I)).toArray⟩) ∧ Below w1.heap.size w1 w') := ⟨fun w1 => by
    have hh := mach.hash_any T x false ((⟨A.toArray⟩ : ByteArray) ++ ⟨I.toArray⟩) w1 h (by rw [ByteArray.size_append]; show A.toArray.size + I.toArray.size ≤ _; rw [List.size_toArray, List.size_toArray]; omega)
    rw [catD] at hh; exact hh⟩
  obtain ⟨R, hR⟩ : ∃ R, hx x false (A ++ I) = R := ⟨_, rfl⟩
  rw [hR] at HO ⊢
  have HAl := Away.mk hAl
  have HBl := Away.mk hBl
  have HIl := Away.mk hIl
  obtain ⟨A', hA'⟩ : ∃ A' : ByteArray, (⟨A.toArray⟩ : ByteArray) = A' := ⟨_, rfl⟩
  obtain ⟨B', hB'⟩ : ∃ B' : ByteArray, (⟨B.toArray⟩ : ByteArray) = B' := ⟨_, rfl⟩
  obtain ⟨I', hI'⟩ : ∃ I' : ByteArray, (⟨I.toArray⟩ : ByteArray) = I' := ⟨_, rfl⟩
  have sA : A'.size = 64 := by rw [← hA']; show A.toArray.size = _; rw [List.size_toArray]; exact hAl
  have sB : B'.size = 64 := by rw [← hB']; show B.toArray.size = _; rw [List.size_toArray]; exact hBl
  have sI : I'.size = 32 := by rw [← hI']; show I.toArray.size = _; rw [List.size_toArray]; exact hIl
  rw [hA'] at HA HO
  rw [hB'] at HB HI
  rw [hI'] at HI HO
  clear h hky hql hA hB hhm hI hR hA' hB' hI' HAl HBl HIl hAl hBl hIl
  clear Hq
  obtain ⟨w0, Hw0⟩ := ex_eq (((w.alloc (.cells T 33)).alloc (.cells #[.string key] 9)).alloc (.cells #[.int .i64 64] 3))
  have g0 : w0.heap[w.heap.size]? = some (.cells T 33 (0, 0)) := by rw [← Hw0.out, heap_past _ _ _ (by simp; omega), heap_past _ _ _ (by simp), heap_at _ _ _ rfl]
  have g1 : w0.heap[w.heap.size + 1]? = some (.cells #[.string key] 9 (0, 0)) := by rw [← Hw0.out, heap_past _ _ _ (by simp), heap_at _ _ _ (by simp)]
  have g2 : w0.heap[w.heap.size + 1 + 1]? = some (.cells #[.int .i64 64] 3 (0, 0)) := by rw [← Hw0.out, heap_at _ _ _ (by simp)]
  have hb0 : Below w.heap.size w w0 := by rw [← Hw0.out]; exact ((((Below.refl _ _).alloc (Nat.le_refl _) _).alloc (by simp) _).alloc (by simp; omega) _)
  have z0 : w0.heap.size = w.heap.size + 3 := by rw [← Hw0.out]; simp
  have G0 : Away ((((w.alloc (.cells T 33)).alloc (.cells #[.string key] 9)).alloc (.cells #[.int .i64 64] 3)).heap[w.heap.size]? = some (.cells T 33 (0, 0))) := ⟨by rw [Hw0.out]; exact g0⟩
  have G := Away.mk (And.intro g0 (And.intro g1 (And.intro g2 hb0)))
  clear g0 g1 g2 hb0
  go_enter Try.func11, Try.ntmps11
  go_wp2_with (refine wpList_load_row rfl 33 _ rfl w.heap.size rfl 33 T (0, 0) _ G0.out Try.underlying33 rfl (by rw [HTs.out]; exact sizeT) ?_)
  rw [Hw0.out]
  refine (Hkh.out _).mono ?_
  rintro e w1 ⟨rfl, hb1⟩
  have h0 := (hb1.block w.heap.size (by omega)).trans G.out.1
  have h1 := (hb1.block (w.heap.size + 1) (by omega)).trans G.out.2.1
  have h2 := (hb1.block (w.heap.size + 1 + 1) (by omega)).trans G.out.2.2.1
  have hb := G.out.2.2.2.trans (hb1.mono (by omega))
  have z1 : w.heap.size + 3 ≤ w1.heap.size := by have := hb1.size; omega
  have e1 : (w1.setCell ⟨w.heap.size + 1, 0, none⟩ (.string q)).heap[w.heap.size + 1]? = some (.cells #[.string q] 9 (0, 0)) := heap_setCell h1 0 (.string q)
  have c1 : w1.cell? ⟨w.heap.size + 1, 0, none⟩ = some (.string key) := (cell_of_row w1 _ 0 _ _ (0, 0) h1).trans rfl
  have f1 : w1.frozen? ⟨w.heap.size + 1, 0, none⟩ = false := frozen_of_row w1 _ 0 _ _ h1
  have e0 : (w1.setCell ⟨w.heap.size + 1, 0, none⟩ (.string q)).heap[w.heap.size]? = some (.cells T 33 (0, 0)) := (Below.heap_setCell _ _ _ _ (by show w.heap.size ≠ w.heap.size + 1; omega)).trans h0
  have e2 : (w1.setCell ⟨w.heap.size + 1, 0, none⟩ (.string q)).heap[w.heap.size + 1 + 1]? = some (.cells #[.int .i64 64] 3 (0, 0)) := (Below.heap_setCell _ _ _ _ (by show w.heap.size + 1 + 1 ≠ w.heap.size + 1; omega)).trans h2
  have eb : Below w.heap.size w (w1.setCell ⟨w.heap.size + 1, 0, none⟩ (.string q)) := hb.setCell (p := ⟨w.heap.size + 1, 0, none⟩) (by show w.heap.size ≤ w.heap.size + 1; omega) _
  have ez : (w1.setCell ⟨w.heap.size + 1, 0, none⟩ (.string q)).heap.size = w1.heap.size := by simp [World.setCell]
  obtain ⟨W, HW⟩ := ex_eq (w1.setCell ⟨w.heap.size + 1, 0, none⟩ (.string q))
  rw [HW.out] at e0 e1 e2 eb ez
  have E0 := Away.mk e0
  have E1 := Away.mk e1
  have E2 := Away.mk e2
  have EB := Away.mk eb
  clear h0 h1 h2 hb hb1 e0 e1 e2 eb
  go_wp2_with fail
  rw [HW.out]
  have C1 : Away (W.cell? ⟨w.heap.size + 1, 0, none⟩ = some (.string q)) := ⟨(cell_of_row W _ 0 _ _ (0, 0) E1.out).trans rfl⟩
  have C2 : Away (W.cell? ⟨w.heap.size + 1 + 1, 0, none⟩ = some (.int .i64 64)) := ⟨(cell_of_row W _ 0 _ _ (0, 0) E2.out).trans rfl⟩
  have L1 : Away (∀ d os, w.heap.size + 1 < (Go.Sort.grow (redrawn W d) os).heap.size) := ⟨fun d os => Nat.lt_of_lt_of_le (lt_of_row E1.out) (below_regrown W d os).size⟩
  have n1 : ¬ 9223372036854775807 < 64 + s.size := by omega
  have n2 : (9223372036854775807 < 64 + s.size) = False := eq_false n1
  refine wp_region_quiet_below (by kernel_rfl) (by kernel_rfl) ?_
  refine wpQuiet_load rfl 33 _ rfl _ rfl 33 _ _ (fun w' hC => heap_regrown E0.out hC) Try.underlying33 rfl (by rw [HTs.out]; exact sizeT) ?_
  quiet_step (skip)
  quiet_step (skip)
  quiet_step (exact Calls.regrown_of (HA.out _ (cell_regrown C2.out _ _) (cell_regrown C1.out _ _) (L1.out _ _)))
  refine wpQuiet_load rfl 33 _ rfl _ rfl 33 _ _ (fun w' hC => heap_regrown E0.out hC) Try.underlying33 rfl (by rw [HTs.out]; exact sizeT) ?_
  quiet_step (skip)
  quiet_step (skip)
  quiet_step (exact Calls.regrown_of (HB.out _ (cell_regrown C2.out _ _) (cell_regrown C1.out _ _) (L1.out _ _)))
  quiet_step (skip)
  quiet_step (skip)
  quiet_step (exact Calls.regrown_of (HI.out _))
  quiet_step (skip)
  quiet_step (exact Calls.regrown_of (HO.out _))
  quiet_step (skip)
  refine wpQuiet_nil ?_
  intro w3 hC
  have hb3 : Away (Below W.heap.size W w3) := ⟨by
    obtain ⟨pp, rfl⟩ := hC
    exact below_regrown _ _ _⟩
  clear hC
  go_wp2_with fail
  go_ret
  exact ⟨rfl, EB.out.trans (hb3.out.mono EB.out.size)⟩

set_option maxRecDepth 100000 in
set_option maxHeartbeats 2000000 in
theorem hm_true_short (T : Array Value) (x : Wd) (key s : ByteArray) (w : World) (h : TX T x) (hk : key.size ≤ 128) (hkb : key.size ≤ 549755813888) (hs : s.size ≤ 549755813888) :
    Calls Try.prog 11 #[.agg T, .bool true, .string key, .string s] w fun e w' => e = .returned (.string ⟨(hm x true key.data.toList s.data.toList).toArray⟩) ∧ Below w.heap.size w w' := by
  have HTs : Away (T.size = 465) := ⟨h.size⟩
  have hkl : key.data.toList.length = key.size := rfl
  have hsl : s.data.toList.length = s.size := rfl
  have hky : ky x true key.data.toList = key.data.toList := ky_short _ _ _ (by rw [hkl]; exact hk)
  obtain ⟨q, hq⟩ : ∃ q : ByteArray, q = key := ⟨_, rfl⟩
  have hql : q.data.toList = ky x true key.data.toList := by rw [hq, hky]
  have hqs : q.size ≤ 128 := by rw [hq]; exact hk
  obtain ⟨A, hA⟩ : ∃ A, mx (ky x true key.data.toList) 128 92 = A := ⟨_, rfl⟩
  obtain ⟨B, hB⟩ : ∃ B, mx (ky x true key.data.toList) 128 54 = B := ⟨_, rfl⟩
  have hAl : A.length = 128 := by rw [← hA]; exact mx_length _ _ _ (ky_le x true _)
  have hBl : B.length = 128 := by rw [← hB]; exact mx_length _ _ _ (ky_le x true _)
  have hhm : hm x true key.data.toList s.data.toList = hx x true (A ++ hx x true (B ++ s.data.toList)) := by rw [← hA, ← hB]; rfl
  have HA : Away (∀ w1 : World, w1.cell? ⟨w.heap.size + 1 + 1, 0, none⟩ = some (.int .i64 128) → w1.cell? ⟨w.heap.size + 1, 0, none⟩ = some (.string q) → w.heap.size + 1 < w1.heap.size → Calls Try.prog 30 #[.int .u8 92, .pointer (some ⟨w.heap.size + 1 + 1, 0, none⟩), .pointer (some ⟨w.heap.size + 1, 0, none⟩)] w1 fun e w' => e = .returned (.string ⟨A.toArray⟩) ∧ Below w1.heap.size w1 w') := ⟨fun w1 c1 c2 l => by
    rw [← hA, ← hql]; exact mix.clo_any _ _ q 128 92 w1 c1 c2 l (by omega) (by decide) (by decide) (by decide)⟩
  have HB : Away (∀ w1 : World, w1.cell? ⟨w.heap.size + 1 + 1, 0, none⟩ = some (.int .i64 128) → w1.cell? ⟨w.heap.size + 1, 0, none⟩ = some (.string q) → w.heap.size + 1 < w1.heap.size → Calls Try.prog 30 #[.int .u8 54, .pointer (some ⟨w.heap.size + 1 + 1, 0, none⟩), .pointer (some ⟨w.heap.size + 1, 0, none⟩)] w1 fun e w' => e = .returned (.string ⟨B.toArray⟩) ∧ Below w1.heap.size w1 w') := ⟨fun w1 c1 c2 l => by
    rw [← hB, ← hql]; exact mix.clo_any _ _ q 128 54 w1 c1 c2 l (by omega) (by decide) (by decide) (by decide)⟩
  have HI : Away (∀ w1 : World, Calls Try.prog 9 #[.agg T, .bool true, .string ((⟨B.toArray⟩ : ByteArray) ++ s)] w1 fun e w' => e = .returned (.string ⟨(hx x true (B ++ s.data.toList)).toArray⟩) ∧ Below w1.heap.size w1 w') := ⟨fun w1 => by
    have hh := mach.hash_any T x true ((⟨B.toArray⟩ : ByteArray) ++ s) w1 h (by rw [ByteArray.size_append]; show B.toArray.size + _ ≤ _; rw [List.size_toArray]; omega)
    rw [catD] at hh; exact hh⟩
  have hIl : (hx x true (B ++ s.data.toList)).length = 64 := hx_length _ _ _
  rw [hhm]
  obtain ⟨I, hI⟩ : ∃ I, hx x true (B ++ s.data.toList) = I := ⟨_, rfl⟩
  rw [hI] at HI hIl ⊢
  have HO : Away (∀ w1 : World, Calls Try.prog 9 #[.agg T, .bool true, .string ((⟨A.toArray⟩ : ByteArray) ++ ⟨I.toArray⟩)] w1 fun e w' => e = .returned (.string ⟨(hx x true (A ++ I)).toArray⟩) ∧ Below w1.heap.size w1 w') := ⟨fun w1 => by
    have hh := mach.hash_any T x true ((⟨A.toArray⟩ : ByteArray) ++ ⟨I.toArray⟩) w1 h (by rw [ByteArray.size_append]; show A.toArray.size + I.toArray.size ≤ _; rw [List.size_toArray, List.size_toArray]; omega)
    rw [catD] at hh; exact hh⟩
  obtain ⟨R, hR⟩ : ∃ R, hx x true (A ++ I) = R := ⟨_, rfl⟩
  rw [hR] at HO ⊢
  have HAl := Away.mk hAl
  have HBl := Away.mk hBl
  have HIl := Away.mk hIl
  obtain ⟨A', hA'⟩ : ∃ A' : ByteArray, (⟨A.toArray⟩ : ByteArray) = A' := ⟨_, rfl⟩
  obtain ⟨B', hB'⟩ : ∃ B' : ByteArray, (⟨B.toArray⟩ : ByteArray) = B' := ⟨_, rfl⟩
  obtain ⟨I', hI'⟩ : ∃ I' : ByteArray, (⟨I.toArray⟩ : ByteArray) = I' := ⟨_, rfl⟩
  have sA : A'.size = 128 := by rw [← hA']; show A.toArray.size = _; rw [List.size_toArray]; exact hAl
  have sB : B'.size = 128 := by rw [← hB']; show B.toArray.size = _; rw [List.size_toArray]; exact hBl
  have sI : I'.size = 64 := by rw [← hI']; show I.toArray.size = _; rw [List.size_toArray]; exact hIl
  rw [hA'] at HA HO
  rw [hB'] at HB HI
  rw [hI'] at HI HO
  clear h hky hql hA hB hhm hI hR hA' hB' hI' HAl HBl HIl hAl hBl hIl
  subst hq
  obtain ⟨W, HW⟩ := ex_eq (((w.alloc (.cells T 33)).alloc (.cells #[.string q] 9)).alloc (.cells #[.int .i64 128] 3))
  have E0 : Away (W.heap[w.heap.size]? = some (.cells T 33 (0, 0))) := ⟨by rw [← HW.out, heap_past _ _ _ (by simp; omega), heap_past _ _ _ (by simp), heap_at _ _ _ rfl]⟩
  have E1 : Away (W.heap[w.heap.size + 1]? = some (.cells #[.string q] 9 (0, 0))) := ⟨by rw [← HW.out, heap_past _ _ _ (by simp), heap_at _ _ _ (by simp)]⟩
  have E2 : Away (W.heap[w.heap.size + 1 + 1]? = some (.cells #[.int .i64 128] 3 (0, 0))) := ⟨by rw [← HW.out, heap_at _ _ _ (by simp)]⟩
  have EB : Away (Below w.heap.size w W) := ⟨by rw [← HW.out]; exact ((((Below.refl _ _).alloc (Nat.le_refl _) _).alloc (by simp) _).alloc (by simp; omega) _)⟩
  go_enter Try.func11, Try.ntmps11
  go_wp2_with fail
  rw [HW.out]
  have C1 : Away (W.cell? ⟨w.heap.size + 1, 0, none⟩ = some (.string q)) := ⟨(cell_of_row W _ 0 _ _ (0, 0) E1.out).trans rfl⟩
  have C2 : Away (W.cell? ⟨w.heap.size + 1 + 1, 0, none⟩ = some (.int .i64 128)) := ⟨(cell_of_row W _ 0 _ _ (0, 0) E2.out).trans rfl⟩
  have L1 : Away (∀ d os, w.heap.size + 1 < (Go.Sort.grow (redrawn W d) os).heap.size) := ⟨fun d os => Nat.lt_of_lt_of_le (lt_of_row E1.out) (below_regrown W d os).size⟩
  have n1 : ¬ 9223372036854775807 < 128 + s.size := by omega
  have n2 : (9223372036854775807 < 128 + s.size) = False := eq_false n1
  refine wp_region_quiet_below (by kernel_rfl) (by kernel_rfl) ?_
  refine wpQuiet_load rfl 33 _ rfl _ rfl 33 _ _ (fun w' hC => heap_regrown E0.out hC) Try.underlying33 rfl (by rw [HTs.out]; exact sizeT) ?_
  quiet_step (skip)
  quiet_step (skip)
  quiet_step (exact Calls.regrown_of (HA.out _ (cell_regrown C2.out _ _) (cell_regrown C1.out _ _) (L1.out _ _)))
  refine wpQuiet_load rfl 33 _ rfl _ rfl 33 _ _ (fun w' hC => heap_regrown E0.out hC) Try.underlying33 rfl (by rw [HTs.out]; exact sizeT) ?_
  quiet_step (skip)
  quiet_step (skip)
  quiet_step (exact Calls.regrown_of (HB.out _ (cell_regrown C2.out _ _) (cell_regrown C1.out _ _) (L1.out _ _)))
  quiet_step (skip)
  quiet_step (skip)
  quiet_step (exact Calls.regrown_of (HI.out _))
  quiet_step (skip)
  quiet_step (exact Calls.regrown_of (HO.out _))
  quiet_step (skip)
  refine wpQuiet_nil ?_
  intro w3 hC
  have hb3 : Away (Below W.heap.size W w3) := ⟨by
    obtain ⟨pp, rfl⟩ := hC
    exact below_regrown _ _ _⟩
  clear hC
  go_wp2_with fail
  go_ret
  exact ⟨rfl, EB.out.trans (hb3.out.mono EB.out.size)⟩

set_option maxRecDepth 100000 in
set_option maxHeartbeats 2000000 in
theorem hm_true_long (T : Array Value) (x : Wd) (key s : ByteArray) (w : World) (h : TX T x) (hk : 128 < key.size) (hkb : key.size ≤ 549755813888) (hs : s.size ≤ 549755813888) :
    Calls Try.prog 11 #[.agg T, .bool true, .string key, .string s] w fun e w' => e = .returned (.string ⟨(hm x true key.data.toList s.data.toList).toArray⟩) ∧ Below w.heap.size w w' := by
  have HTs : Away (T.size = 465) := ⟨h.size⟩
  have hkl : key.data.toList.length = key.size := rfl
  have hsl : s.data.toList.length = s.size := rfl
  have hky : ky x true key.data.toList = hx x true key.data.toList := ky_long _ _ _ (by rw [hkl]; exact hk)
  have Hkh : Away (∀ w1 : World, Calls Try.prog 9 #[.agg T, .bool true, .string key] w1 fun e w' => e = .returned (.string ⟨(hx x true key.data.toList).toArray⟩) ∧ Below w1.heap.size w1 w') := ⟨fun w1 => mach.hash_any T x true key w1 h (by omega)⟩
  obtain ⟨q, Hq⟩ := ex_eq (⟨(hx x true key.data.toList).toArray⟩ : ByteArray)
  have hql : q.data.toList = ky x true key.data.toList := by rw [← Hq.out, hky]
  have hqs : q.size = 64 := by
    have e : q.data.toList.length = q.size := rfl
    rw [← e, hql, hky, hx_length]; rfl
  rw [Hq.out] at Hkh
  obtain ⟨A, hA⟩ : ∃ A, mx (ky x true key.data.toList) 128 92 = A := ⟨_, rfl⟩
  obtain ⟨B, hB⟩ : ∃ B, mx (ky x true key.data.toList) 128 54 = B := ⟨_, rfl⟩
  have hAl : A.length = 128 := by rw [← hA]; exact mx_length _ _ _ (ky_le x true _)
  have hBl : B.length = 128 := by rw [← hB]; exact mx_length _ _ _ (ky_le x true _)
  have hhm : hm x true key.data.toList s.data.toList = hx x true (A ++ hx x true (B ++ s.data.toList)) := by rw [← hA, ← hB]; rfl
  have HA : Away (∀ w1 : World, w1.cell? ⟨w.heap.size + 1 + 1, 0, none⟩ = some (.int .i64 128) → w1.cell? ⟨w.heap.size + 1, 0, none⟩ = some (.string q) → w.heap.size + 1 < w1.heap.size → Calls Try.prog 30 #[.int .u8 92, .pointer (some ⟨w.heap.size + 1 + 1, 0, none⟩), .pointer (some ⟨w.heap.size + 1, 0, none⟩)] w1 fun e w' => e = .returned (.string ⟨A.toArray⟩) ∧ Below w1.heap.size w1 w') := ⟨fun w1 c1 c2 l => by
    rw [← hA, ← hql]; exact mix.clo_any _ _ q 128 92 w1 c1 c2 l (by omega) (by decide) (by decide) (by decide)⟩
  have HB : Away (∀ w1 : World, w1.cell? ⟨w.heap.size + 1 + 1, 0, none⟩ = some (.int .i64 128) → w1.cell? ⟨w.heap.size + 1, 0, none⟩ = some (.string q) → w.heap.size + 1 < w1.heap.size → Calls Try.prog 30 #[.int .u8 54, .pointer (some ⟨w.heap.size + 1 + 1, 0, none⟩), .pointer (some ⟨w.heap.size + 1, 0, none⟩)] w1 fun e w' => e = .returned (.string ⟨B.toArray⟩) ∧ Below w1.heap.size w1 w') := ⟨fun w1 c1 c2 l => by
    rw [← hB, ← hql]; exact mix.clo_any _ _ q 128 54 w1 c1 c2 l (by omega) (by decide) (by decide) (by decide)⟩
  have HI : Away (∀ w1 : World, Calls Try.prog 9 #[.agg T, .bool true, .string ((⟨B.toArray⟩ : ByteArray) ++ s)] w1 fun e w' => e = .returned (.string ⟨(hx x true (B ++ s.data.toList)).toArray⟩) ∧ Below w1.heap.size w1 w') := ⟨fun w1 => by
    have hh := mach.hash_any T x true ((⟨B.toArray⟩ : ByteArray) ++ s) w1 h (by rw [ByteArray.size_append]; show B.toArray.size + _ ≤ _; rw [List.size_toArray]; omega)
    rw [catD] at hh; exact hh⟩
  have hIl : (hx x true (B ++ s.data.toList)).length = 64 := hx_length _ _ _
  rw [hhm]
  obtain ⟨I, hI⟩ : ∃ I, hx x true (B ++ s.data.toList) = I := ⟨_, rfl⟩
  rw [hI] at HI hIl ⊢
  have HO : Away (∀ w1 : World, Calls Try.prog 9 #[.agg T, .bool true, .string ((⟨A.toArray⟩ : ByteArray) ++ ⟨I.toArray⟩)] w1 fun e w' => e = .returned (.string ⟨(hx x true (A ++ I)).toArray⟩) ∧ Below w1.heap.size w1 w') := ⟨fun w1 => by
    have hh := mach.hash_any T x true ((⟨A.toArray⟩ : ByteArray) ++ ⟨I.toArray⟩) w1 h (by rw [ByteArray.size_append]; show A.toArray.size + I.toArray.size ≤ _; rw [List.size_toArray, List.size_toArray]; omega)
    rw [catD] at hh; exact hh⟩
  obtain ⟨R, hR⟩ : ∃ R, hx x true (A ++ I) = R := ⟨_, rfl⟩
  rw [hR] at HO ⊢
  have HAl := Away.mk hAl
  have HBl := Away.mk hBl
  have HIl := Away.mk hIl
  obtain ⟨A', hA'⟩ : ∃ A' : ByteArray, (⟨A.toArray⟩ : ByteArray) = A' := ⟨_, rfl⟩
  obtain ⟨B', hB'⟩ : ∃ B' : ByteArray, (⟨B.toArray⟩ : ByteArray) = B' := ⟨_, rfl⟩
  obtain ⟨I', hI'⟩ : ∃ I' : ByteArray, (⟨I.toArray⟩ : ByteArray) = I' := ⟨_, rfl⟩
  have sA : A'.size = 128 := by rw [← hA']; show A.toArray.size = _; rw [List.size_toArray]; exact hAl
  have sB : B'.size = 128 := by rw [← hB']; show B.toArray.size = _; rw [List.size_toArray]; exact hBl
  have sI : I'.size = 64 := by rw [← hI']; show I.toArray.size = _; rw [List.size_toArray]; exact hIl
  rw [hA'] at HA HO
  rw [hB'] at HB HI
  rw [hI'] at HI HO
  clear h hky hql hA hB hhm hI hR hA' hB' hI' HAl HBl HIl hAl hBl hIl
  clear Hq
  obtain ⟨w0, Hw0⟩ := ex_eq (((w.alloc (.cells T 33)).alloc (.cells #[.string key] 9)).alloc (.cells #[.int .i64 128] 3))
  have g0 : w0.heap[w.heap.size]? = some (.cells T 33 (0, 0)) := by rw [← Hw0.out, heap_past _ _ _ (by simp; omega), heap_past _ _ _ (by simp), heap_at _ _ _ rfl]
  have g1 : w0.heap[w.heap.size + 1]? = some (.cells #[.string key] 9 (0, 0)) := by rw [← Hw0.out, heap_past _ _ _ (by simp), heap_at _ _ _ (by simp)]
  have g2 : w0.heap[w.heap.size + 1 + 1]? = some (.cells #[.int .i64 128] 3 (0, 0)) := by rw [← Hw0.out, heap_at _ _ _ (by simp)]
  have hb0 : Below w.heap.size w w0 := by rw [← Hw0.out]; exact ((((Below.refl _ _).alloc (Nat.le_refl _) _).alloc (by simp) _).alloc (by simp; omega) _)
  have z0 : w0.heap.size = w.heap.size + 3 := by rw [← Hw0.out]; simp
  have G0 : Away ((((w.alloc (.cells T 33)).alloc (.cells #[.string key] 9)).alloc (.cells #[.int .i64 128] 3)).heap[w.heap.size]? = some (.cells T 33 (0, 0))) := ⟨by rw [Hw0.out]; exact g0⟩
  have G := Away.mk (And.intro g0 (And.intro g1 (And.intro g2 hb0)))
  clear g0 g1 g2 hb0
  go_enter Try.func11, Try.ntmps11
  go_wp2_with (refine wpList_load_row rfl 33 _ rfl w.heap.size rfl 33 T (0, 0) _ G0.out Try.underlying33 rfl (by rw [HTs.out]; exact sizeT) ?_)
  rw [Hw0.out]
  refine (Hkh.out _).mono ?_
  rintro e w1 ⟨rfl, hb1⟩
  have h0 := (hb1.block w.heap.size (by omega)).trans G.out.1
  have h1 := (hb1.block (w.heap.size + 1) (by omega)).trans G.out.2.1
  have h2 := (hb1.block (w.heap.size + 1 + 1) (by omega)).trans G.out.2.2.1
  have hb := G.out.2.2.2.trans (hb1.mono (by omega))
  have z1 : w.heap.size + 3 ≤ w1.heap.size := by have := hb1.size; omega
  have e1 : (w1.setCell ⟨w.heap.size + 1, 0, none⟩ (.string q)).heap[w.heap.size + 1]? = some (.cells #[.string q] 9 (0, 0)) := heap_setCell h1 0 (.string q)
  have c1 : w1.cell? ⟨w.heap.size + 1, 0, none⟩ = some (.string key) := (cell_of_row w1 _ 0 _ _ (0, 0) h1).trans rfl
  have f1 : w1.frozen? ⟨w.heap.size + 1, 0, none⟩ = false := frozen_of_row w1 _ 0 _ _ h1
  have e0 : (w1.setCell ⟨w.heap.size + 1, 0, none⟩ (.string q)).heap[w.heap.size]? = some (.cells T 33 (0, 0)) := (Below.heap_setCell _ _ _ _ (by show w.heap.size ≠ w.heap.size + 1; omega)).trans h0
  have e2 : (w1.setCell ⟨w.heap.size + 1, 0, none⟩ (.string q)).heap[w.heap.size + 1 + 1]? = some (.cells #[.int .i64 128] 3 (0, 0)) := (Below.heap_setCell _ _ _ _ (by show w.heap.size + 1 + 1 ≠ w.heap.size + 1; omega)).trans h2
  have eb : Below w.heap.size w (w1.setCell ⟨w.heap.size + 1, 0, none⟩ (.string q)) := hb.setCell (p := ⟨w.heap.size + 1, 0, none⟩) (by show w.heap.size ≤ w.heap.size + 1; omega) _
  have ez : (w1.setCell ⟨w.heap.size + 1, 0, none⟩ (.string q)).heap.size = w1.heap.size := by simp [World.setCell]
  obtain ⟨W, HW⟩ := ex_eq (w1.setCell ⟨w.heap.size + 1, 0, none⟩ (.string q))
  rw [HW.out] at e0 e1 e2 eb ez
  have E0 := Away.mk e0
  have E1 := Away.mk e1
  have E2 := Away.mk e2
  have EB := Away.mk eb
  clear h0 h1 h2 hb hb1 e0 e1 e2 eb
  go_wp2_with fail
  rw [HW.out]
  have C1 : Away (W.cell? ⟨w.heap.size + 1, 0, none⟩ = some (.string q)) := ⟨(cell_of_row W _ 0 _ _ (0, 0) E1.out).trans rfl⟩
  have C2 : Away (W.cell? ⟨w.heap.size + 1 + 1, 0, none⟩ = some (.int .i64 128)) := ⟨(cell_of_row W _ 0 _ _ (0, 0) E2.out).trans rfl⟩
  have L1 : Away (∀ d os, w.heap.size + 1 < (Go.Sort.grow (redrawn W d) os).heap.size) := ⟨fun d os => Nat.lt_of_lt_of_le (lt_of_row E1.out) (below_regrown W d os).size⟩
  have n1 : ¬ 9223372036854775807 < 128 + s.size := by omega
  have n2 : (9223372036854775807 < 128 + s.size) = False := eq_false n1
  refine wp_region_quiet_below (by kernel_rfl) (by kernel_rfl) ?_
  refine wpQuiet_load rfl 33 _ rfl _ rfl 33 _ _ (fun w' hC => heap_regrown E0.out hC) Try.underlying33 rfl (by rw [HTs.out]; exact sizeT) ?_
  quiet_step (skip)
  quiet_step (skip)
  quiet_step (exact Calls.regrown_of (HA.out _ (cell_regrown C2.out _ _) (cell_regrown C1.out _ _) (L1.out _ _)))
  refine wpQuiet_load rfl 33 _ rfl _ rfl 33 _ _ (fun w' hC => heap_regrown E0.out hC) Try.underlying33 rfl (by rw [HTs.out]; exact sizeT) ?_
  quiet_step (skip)
  quiet_step (skip)
  quiet_step (exact Calls.regrown_of (HB.out _ (cell_regrown C2.out _ _) (cell_regrown C1.out _ _) (L1.out _ _)))
  quiet_step (skip)
  quiet_step (skip)
  quiet_step (exact Calls.regrown_of (HI.out _))
  quiet_step (skip)
  quiet_step (exact Calls.regrown_of (HO.out _))
  quiet_step (skip)
  refine wpQuiet_nil ?_
  intro w3 hC
  have hb3 : Away (Below W.heap.size W w3) := ⟨by
    obtain ⟨pp, rfl⟩ := hC
    exact below_regrown _ _ _⟩
  clear hC
  go_wp2_with fail
  go_ret
  exact ⟨rfl, EB.out.trans (hb3.out.mono EB.out.size)⟩

theorem hmac_any (T : Array Value) (x : Wd) (b : Bool) (key s : ByteArray) (w : World) (h : TX T x) (hkb : key.size ≤ 549755813888) (hs : s.size ≤ 549755813888) :
    Calls Try.prog 11 #[.agg T, .bool b, .string key, .string s] w fun e w' => e = .returned (.string ⟨(hm x b key.data.toList s.data.toList).toArray⟩) ∧ Below w.heap.size w w' := by
  cases b
  · by_cases hk : key.size ≤ 64
    · exact hm_false_short T x key s w h hk hkb hs
    · exact hm_false_long T x key s w h (by omega) hkb hs
  · by_cases hk : key.size ≤ 128
    · exact hm_true_short T x key s w h hk hkb hs
    · exact hm_true_long T x key s w h (by omega) hkb hs
end Go.Proofs.Ythfljfampfioaaa.hmac
