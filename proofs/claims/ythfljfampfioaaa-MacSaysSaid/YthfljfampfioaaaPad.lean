/-
  What sha's Blocks, padded and written return, and what is in the bytes. Conditions: as each theorem says.
-/
import Derived.Test.YthfljfampfioaaaThru
import Derived.Test.YthfljfampfioaaaFixed
import Derived.Laws.AppendOwn
namespace Go.Proofs.Ythfljfampfioaaa.pad
open Go.RowKit
open Go.Proofs.Ythfljfampfioaaa.oct Go.Proofs.Ythfljfampfioaaa.arr

/-- how many blocks a padded string fills -/
def bk (n b : Nat) : Nat := (n + b / 8) / b + 1
/-- what follows the rest of a string of n bytes -/
def tail (n b : Nat) : List UInt8 := 128 :: fixL (8 * n) (bk n b * b - n - 1)
theorem tail_length (n b : Nat) (h : n + 1 ≤ bk n b * b) : (tail n b).length = bk n b * b - n := by
  rw [tail, List.length_cons, fixL_length]; omega

set_option maxRecDepth 100000 in
set_option maxHeartbeats 1000000 in
theorem blocks64 (n : Nat) (w : World) (hn : n ≤ 1125899906842624) :
    Calls Try.prog 80 #[.int .i64 (n : Int), .int .i64 64] w fun e w' => e = .returned (.int .i64 ((bk n 64 : Nat) : Int)) ∧ w' = w := by
  go_enter Try.func80, Try.ntmps80
  go_wp2_with fail
  go_ret
  refine ⟨ret_int ?_, rfl⟩
  unfold bk
  omega
set_option maxRecDepth 100000 in
set_option maxHeartbeats 1000000 in
theorem blocks128 (n : Nat) (w : World) (hn : n ≤ 1125899906842624) :
    Calls Try.prog 80 #[.int .i64 (n : Int), .int .i64 128] w fun e w' => e = .returned (.int .i64 ((bk n 128 : Nat) : Int)) ∧ w' = w := by
  go_enter Try.func80, Try.ntmps80
  go_wp2_with fail
  go_ret
  refine ⟨ret_int ?_, rfl⟩
  unfold bk
  omega
theorem cat3 (r : ByteArray) (x : UInt8) (fx : List UInt8) : r ++ (⟨#[x]⟩ : ByteArray) ++ ⟨fx.toArray⟩ = ⟨(r.data.toList ++ x :: fx).toArray⟩ := by
  apply ByteArray.ext
  apply Array.toList_inj.1
  simp
theorem bk_le64 (n : Nat) : n + 9 ≤ bk n 64 * 64 ∧ bk n 64 * 64 ≤ n + 72 := by unfold bk; omega
theorem bk_le128 (n : Nat) : n + 17 ≤ bk n 128 * 128 ∧ bk n 128 * 128 ≤ n + 144 := by unfold bk; omega

set_option maxRecDepth 100000 in
set_option maxHeartbeats 1000000 in
theorem padded64 (r : ByteArray) (n : Nat) (w : World) (hn : n ≤ 1125899906842624) (hr : r.size ≤ 1099511627776) :
    Calls Try.prog 75 #[.string r, .int .i64 (n : Int), .int .i64 64] w fun e w' => e = .returned (.string ⟨(r.data.toList ++ tail n 64).toArray⟩) ∧ Below w.heap.size w w' := by
  have hb := bk_le64 n
  have Hfix := Away.mk (fun w2 : World => fixed.fixed_any (8 * n) ((bk n 64 * 64 - n - 1 : Nat) : Int) w2 (by omega))
  have Hfs : Away (fixS (8 * n) ((bk n 64 * 64 - n - 1 : Nat) : Int) = fixL (8 * n) (bk n 64 * 64 - n - 1)) := ⟨fixS_wd _ _ (by omega)⟩
  have Htl : Away (tail n 64 = 128 :: fixL (8 * n) (bk n 64 * 64 - n - 1)) := ⟨rfl⟩
  have Hfl : Away ((fixL (8 * n) (bk n 64 * 64 - n - 1)).length ≤ 200) := ⟨by rw [fixL_length]; omega⟩
  obtain ⟨tl, HTL⟩ := ex_eq (tail n 64)
  rw [HTL.out] at Htl ⊢
  rw [Hfs.out] at Hfix
  obtain ⟨m, Hm⟩ := ex_eq (bk n 64)
  rw [Hm.out] at hb Hfix Htl Hfl
  obtain ⟨fx, Hfx⟩ := ex_eq (fixL (8 * n) (m * 64 - n - 1))
  rw [Hfx.out] at Hfix Htl Hfl
  clear Hfs
  have Hblk := Away.mk (fun w2 : World => blocks64 n w2 hn)
  rw [Hm.out] at Hblk
  have hfl := Hfl.out
  have hm : m ≤ 1125899906842800 := by omega
  have e1 : ((8 * n : Nat) : Int) = (n : Int) * 8 := by omega
  have e2 : ((m * 64 - n - 1 : Nat) : Int) = (m : Int) * 64 - (n : Int) - 1 := by omega
  rw [e1, e2] at Hfix
  clear e1 e2
  go_enter Try.func75, Try.ntmps75
  go_wp2_with fail
  refine (Hblk.out _).mono ?_
  rintro e w1 ⟨rfl, rfl⟩
  go_wp2_with fail
  refine (Hfix.out _).mono ?_
  rintro e w2 ⟨rfl, hbe⟩
  go_wp2_with fail
  go_ret
  refine ⟨?_, hbe⟩
  rw [Htl.out]
  exact congrArg (fun b => Ending.returned (.string b)) (cat3 r 128 fx)

set_option maxRecDepth 100000 in
set_option maxHeartbeats 1000000 in
theorem padded128 (r : ByteArray) (n : Nat) (w : World) (hn : n ≤ 1125899906842624) (hr : r.size ≤ 1099511627776) :
    Calls Try.prog 75 #[.string r, .int .i64 (n : Int), .int .i64 128] w fun e w' => e = .returned (.string ⟨(r.data.toList ++ tail n 128).toArray⟩) ∧ Below w.heap.size w w' := by
  have hb := bk_le128 n
  have Hfix := Away.mk (fun w2 : World => fixed.fixed_any (8 * n) ((bk n 128 * 128 - n - 1 : Nat) : Int) w2 (by omega))
  have Hfs : Away (fixS (8 * n) ((bk n 128 * 128 - n - 1 : Nat) : Int) = fixL (8 * n) (bk n 128 * 128 - n - 1)) := ⟨fixS_wd _ _ (by omega)⟩
  have Htl : Away (tail n 128 = 128 :: fixL (8 * n) (bk n 128 * 128 - n - 1)) := ⟨rfl⟩
  have Hfl : Away ((fixL (8 * n) (bk n 128 * 128 - n - 1)).length ≤ 200) := ⟨by rw [fixL_length]; omega⟩
  obtain ⟨tl, HTL⟩ := ex_eq (tail n 128)
  rw [HTL.out] at Htl ⊢
  rw [Hfs.out] at Hfix
  obtain ⟨m, Hm⟩ := ex_eq (bk n 128)
  rw [Hm.out] at hb Hfix Htl Hfl
  obtain ⟨fx, Hfx⟩ := ex_eq (fixL (8 * n) (m * 128 - n - 1))
  rw [Hfx.out] at Hfix Htl Hfl
  clear Hfs
  have Hblk := Away.mk (fun w2 : World => blocks128 n w2 hn)
  rw [Hm.out] at Hblk
  have hfl := Hfl.out
  have hm : m ≤ 1125899906842800 := by omega
  have e1 : ((8 * n : Nat) : Int) = (n : Int) * 8 := by omega
  have e2 : ((m * 128 - n - 1 : Nat) : Int) = (m : Int) * 128 - (n : Int) - 1 := by omega
  rw [e1, e2] at Hfix
  clear e1 e2
  go_enter Try.func75, Try.ntmps75
  go_wp2_with fail
  refine (Hblk.out _).mono ?_
  rintro e w1 ⟨rfl, rfl⟩
  go_wp2_with fail
  refine (Hfix.out _).mono ?_
  rintro e w2 ⟨rfl, hbe⟩
  go_wp2_with fail
  go_ret
  refine ⟨?_, hbe⟩
  rw [Htl.out]
  exact congrArg (fun b => Ending.returned (.string b)) (cat3 r 128 fx)

theorem infoByte : (Try.prog.info? 5).map (fun i => (i.zero, i.size, i.bytes)) = some (some (.int .u8 0), 1, 1) := by kernel_rfl
theorem cells4 (x : Nat) (hx : x < 4294967296) : ([.int .u8 ((x : Int) / 16777216), .int .u8 ((x : Int) / 65536 % 256), .int .u8 ((x : Int) / 256 % 256), .int .u8 ((x : Int) % 256)] : List Value) = Lib.byteCells (fixL x 4) := by
  have e : fixL x 4 = [byteAt x 3, byteAt x 2, byteAt x 1, byteAt x 0] := rfl
  rw [e]
  simp only [Lib.byteCells, List.map_cons, List.map_nil, byteAt_toNat, Nat.reducePow, Nat.div_one]
  have h3 : ((x / 16777216 % 256 : Nat) : Int) = (x : Int) / 16777216 := by omega
  have h2 : ((x / 65536 % 256 : Nat) : Int) = (x : Int) / 65536 % 256 := by omega
  have h1 : ((x / 256 % 256 : Nat) : Int) = (x : Int) / 256 % 256 := by omega
  have h0 : ((x % 256 : Nat) : Int) = (x : Int) % 256 := by omega
  rw [h3, h2, h1, h0]
theorem new4 (w : World) (a b c d : Value) (T : TypeId) : ∀ j u, ([a, b, c, d] : List Value)[j]? = some u → (w.alloc (.cells #[a, b, c, d] T)).cell? ((⟨w.heap.size, 0, none⟩ : Addr).add j) = some u := by
  intro j u h
  rw [bits8.addr_add]
  have h2 := cell_of_row (w.alloc (.cells #[a, b, c, d] T)) w.heap.size j #[a, b, c, d] T (0, 0) (heap_at _ _ _ rfl)
  rw [h2, ← h]
  simp
set_option maxRecDepth 100000 in
set_option maxHeartbeats 1000000 in
theorem written_any (v : Value) (base n x : Nat) (xs : List Value) (w : World) (hx : x < 4294967296) (hown : w.ownsRow base 5 1 v n xs) (hb : base ≤ w.heap.size) (hn : n ≤ 1000) :
    Calls Try.prog 76 #[v, .int .u32 (x : Int)] w fun e w' => ∃ v', e = .returned v' ∧ w'.ownsRow base 5 1 v' (n + 4) (xs ++ Lib.byteCells (fixL x 4)) ∧ Below base w w' := by
  obtain ⟨i0, hi, hz0, hz1, hz2⟩ := info_parts infoByte
  have HI := Away.mk (And.intro hi (And.intro hz0 (And.intro hz1 hz2)))
  have Hown := Away.mk hown
  have H4 := Away.mk (cells4 x hx)
  clear hi hz0 hz1 hz2 hown
  have hblk : v.ownBlock = none ∨ ∃ k, v.ownBlock = some k ∧ base ≤ k := by
    cases h : v.ownBlock with
    | none => exact Or.inl rfl
    | some k => exact Or.inr ⟨k, rfl, (Hown.out.lt k h).1⟩
  go_enter Try.func76, Try.ntmps76
  go_wp2_with (at_builtin; refine wpList_append_own _ rfl _ _ 52 rfl base 5 i0 (.int .u8 0) 1 1 Try.underlying52 HI.out.1 HI.out.2.1 HI.out.2.2.1 HI.out.2.2.2 rfl (by decide) _ _ _ rfl (Hown.out.alloc _) ⟨w.heap.size, 0, none⟩ 4 4 [.int .u8 ((x : Int) / 16777216), .int .u8 ((x : Int) / 65536 % 256), .int .u8 ((x : Int) / 256 % 256), .int .u8 ((x : Int) % 256)] rfl rfl (new4 _ _ _ _ _ _) (fun u hu => by simp at hu; rcases hu with rfl | rfl | rfl | rfl <;> rfl) (by unfold maxLen; omega) (by omega) (by simp; omega) ?_)
  intro v' w1 hown' hgrow _
  rw [H4.out] at hown'
  have Hown' := Away.mk hown'
  have Hbel : Away (Below base w w1) := ⟨(((Below.refl base w).alloc hb _)).grown hgrow (by simp; omega) (fun k hk => by
    rcases hblk with h | ⟨k2, h, hk2⟩
    · rw [h] at hk; cases hk
    · rw [h] at hk; cases hk; exact hk2)⟩
  clear hown' hgrow
  go_wp2_with fail
  go_ret
  exact ⟨_, rfl, Hown'.out, Hbel.out⟩
end Go.Proofs.Ythfljfampfioaaa.pad
