/-
  The contracts of the library's trimLeftByte and trimRightByte at this seat's numbers, and what strings.Trim of zero bytes returns. Conditions: as each says.
-/
import Derived.Shelf.Strings.Trim
import Derived.Test.YtdlolhilmhlklaaDoorSti
import Derived.Test.YtdlolhilmhlklaaDoorProg
namespace Go.Proofs.YtdlolhilmhlklaaDoor.shelft
open Go.Shelf
def laysL_ren : Go.Shelf.Ren := ⟨fun | 231 => 32 | n => n, fun | 3 => 3 | 4 => 4 | 5 => 5 | 9 => 9 | n => n, fun | n => n⟩
theorem laysL : Go.Proofs.Lays.n231 Tryd.prog laysL_ren := {
  mixed := by kernel_rfl
  f231 := Tryd.func32.trans (congrArg some (by kernel_rfl))
  t3 := Tryd.underlying3
  a3 := Tryd.isAgg3
  z3 := Tryd.sizeOf3
  v3 := Tryd.zeroValue3
  t4 := Tryd.underlying4
  a4 := Tryd.isAgg4
  z4 := Tryd.sizeOf4
  v4 := Tryd.zeroValue4
  t5 := Tryd.underlying5
  a5 := Tryd.isAgg5
  z5 := Tryd.sizeOf5
  v5 := Tryd.zeroValue5
  t9 := Tryd.underlying9
  a9 := Tryd.isAgg9
  z9 := Tryd.sizeOf9
  v9 := Tryd.zeroValue9 }
def laysR_ren : Go.Shelf.Ren := ⟨fun | 232 => 33 | n => n, fun | 3 => 3 | 4 => 4 | 5 => 5 | 9 => 9 | n => n, fun | n => n⟩
theorem laysR : Go.Proofs.Lays.n232 Tryd.prog laysR_ren := {
  mixed := by kernel_rfl
  f232 := Tryd.func33.trans (congrArg some (by kernel_rfl))
  t3 := Tryd.underlying3
  a3 := Tryd.isAgg3
  z3 := Tryd.sizeOf3
  v3 := Tryd.zeroValue3
  t4 := Tryd.underlying4
  a4 := Tryd.isAgg4
  z4 := Tryd.sizeOf4
  v4 := Tryd.zeroValue4
  t5 := Tryd.underlying5
  a5 := Tryd.isAgg5
  z5 := Tryd.sizeOf5
  v5 := Tryd.zeroValue5
  t9 := Tryd.underlying9
  a9 := Tryd.isAgg9
  z9 := Tryd.sizeOf9
  v9 := Tryd.zeroValue9 }
open Go.RowKit in
theorem left0 (s : ByteArray) (w : World) : Calls Tryd.prog 32 #[.string s, .int .u8 0] w fun e w' => e = .returned (.string ⟨(Lib.trimLeftB s.data.toList 0).toArray⟩) ∧ w' = w := Any.strings_trimLeftByte laysL s 0 w
open Go.RowKit in
theorem right0 (s : ByteArray) (hs : s.size ≤ 9223372036854775807) (w : World) : Calls Tryd.prog 33 #[.string s, .int .u8 0] w fun e w' => e = .returned (.string ⟨(Lib.trimRightB s.data.toList 0).toArray⟩) ∧ w' = w := Any.strings_trimRightByte laysR s 0 w hs
end Go.Proofs.YtdlolhilmhlklaaDoor.shelft
namespace Go.Proofs.YtdlolhilmhlklaaDoor.trims
open Go Go.RowKit
open Go.Proofs.YtdlolhilmhlklaaDoor.arr Go.Proofs.YtdlolhilmhlklaaDoor.mem Go.Proofs.YtdlolhilmhlklaaDoor.stil

theorem dw_nil (l : List UInt8) : l.dropWhile (· == (0 : UInt8)) = [] ↔ ∀ b ∈ l, b = 0 := by
  induction l with
  | nil => simp
  | cons x l ih =>
    rw [List.dropWhile_cons]
    by_cases h : x = 0
    · subst h; simp [ih]
    · have : (x == (0 : UInt8)) = false := by simpa using h
      rw [this]
      simp [h]
theorem dw_head (l : List UInt8) (x : UInt8) (r : List UInt8) (h : l.dropWhile (· == (0 : UInt8)) = x :: r) : x ≠ 0 ∧ x ∈ l := by
  induction l with
  | nil => simp at h
  | cons y l ih =>
    rw [List.dropWhile_cons] at h
    by_cases e : y = 0
    · subst e
      simp at h
      exact ⟨(ih h).1, List.mem_cons_of_mem _ (ih h).2⟩
    · have e2 : (y == (0 : UInt8)) = false := by simpa using e
      rw [e2] at h
      simp at h
      rw [← h.1]
      exact ⟨e, by simp⟩
theorem trim_nil (l : List UInt8) (h : ∀ b ∈ l, b = 0) : Lib.trimB l 0 = [] := by
  have h1 : l.reverse.dropWhile (· == (0 : UInt8)) = [] := (dw_nil _).2 fun b hb => h b (by simpa using hb)
  unfold Lib.trimB Lib.trimRightB Lib.trimLeftB
  rw [h1]
  rfl
theorem trim_not (l : List UInt8) (h : ¬ ∀ b ∈ l, b = 0) : Lib.trimB l 0 ≠ [] := by
  intro e
  unfold Lib.trimB Lib.trimRightB Lib.trimLeftB at e
  have e1 := (dw_nil _).1 e
  rcases hq : l.reverse.dropWhile (· == (0 : UInt8)) with _ | ⟨x, r⟩
  · exact h fun b hb => (dw_nil _).1 hq b (by simpa using hb)
  · exact (dw_head _ _ _ hq).1 (e1 x (by rw [hq]; simp))
set_option maxRecDepth 100000 in
set_option maxHeartbeats 2000000 in
theorem trim_any (s : ByteArray) (hs : s.size ≤ 9223372036854775807) (w : World) : Calls Tryd.prog 27 #[.string s, .string ⟨#[0]⟩] w fun e w' => e = .returned (.string ⟨(Lib.trimB s.data.toList 0).toArray⟩) ∧ Below w.heap.size w w' := by
  by_cases h0 : s.data.toList = []
  · have hs0 : s = ⟨#[]⟩ := by rw [← Lib.mk_data s, h0]
    subst hs0
    go_enter Tryd.func27, Tryd.ntmps27
    go_wp2_with fail
    go_ret
    exact ⟨rfl, Below.refl _ _⟩
  · have HR := fun w1 => shelft.right0 s hs w1
    have HL := fun w1 => shelft.left0 ⟨(Lib.trimRightB s.data.toList 0).toArray⟩ w1
    obtain ⟨t, ht⟩ : ∃ t : ByteArray, (⟨(Lib.trimRightB s.data.toList 0).toArray⟩ : ByteArray) = t := ⟨_, rfl⟩
    obtain ⟨u, hu⟩ : ∃ u : ByteArray, (⟨(Lib.trimB s.data.toList 0).toArray⟩ : ByteArray) = u := ⟨_, rfl⟩
    have e1 : (⟨(Lib.trimLeftB t.data.toList 0).toArray⟩ : ByteArray) = u := by rw [← hu, ← ht]; rfl
    rw [ht] at HR HL
    rw [e1] at HL
    rw [hu]
    have he1 : ¬ s.toList = [] := by rw [Lib.toList_data]; exact h0
    have he : s.toList.isEmpty = false := by simpa using he1
    clear ht hu e1 h0
    go_enter Tryd.func27, Tryd.ntmps27
    go_wp2_with fail
    refine still_all (by kernel_rfl) (by kernel_rfl) ?_
    repeat still_step
    still_call (HR _)
    repeat still_step
    still_call (HL _)
    repeat still_step
    refine wpStill_nil ?_
    go_wp2_with fail
    go_ret
    exact ⟨rfl, (Below.refl _ _).drew⟩
end Go.Proofs.YtdlolhilmhlklaaDoor.trims
