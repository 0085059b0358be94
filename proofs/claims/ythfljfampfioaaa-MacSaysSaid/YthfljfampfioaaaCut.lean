/-
  What mac.Cut and the reference's Cut return, for any string and number: the first bytes. Conditions: none but that the string's length fits an int.
-/
import Derived.Test.YthfljfampfioaaaOct
import Derived.Test.YthfljfampfioaaaArr
import Derived.Test.YthfljfampfioaaaShelf
namespace Go.Proofs.Ythfljfampfioaaa.cut
open Go.RowKit
open Go.Proofs.Ythfljfampfioaaa.oct Go.Proofs.Ythfljfampfioaaa.arr
theorem cut_bytes (s : ByteArray) (m n : Nat) (h : m = min n s.size) : s.extract 0 m = ⟨(s.data.toList.take n).toArray⟩ := by
  subst h
  apply ByteArray.ext
  apply Array.toList_inj.1
  have hs : s.data.toList.length = s.size := rfl
  have h1 : (s.extract 0 (min n s.size)).data.toList = s.data.toList.take (min n s.size) := by simp
  have h2 : min n s.size = min n s.data.toList.length := rfl
  rw [h1, h2, ← List.take_eq_take_min]
set_option maxRecDepth 100000 in
set_option maxHeartbeats 1000000 in
theorem sclone (x : ByteArray) (w : World) (h : x.size ≤ 281474976710656) : Calls Try.prog 39 #[.string x] w fun e w' => e = .returned (.string x) ∧ Below w.heap.size w w' := by
  have H := Away.mk (fun w1 : World => shelf.clone x w1 h)
  clear h
  go_enter Try.func39, Try.ntmps39
  go_wp2_with fail
  refine (H.out _).mono ?_
  rintro e w1 ⟨rfl, hb⟩
  go_wp2_with fail
  go_ret
  exact ⟨rfl, hb⟩
set_option maxRecDepth 100000 in
set_option maxHeartbeats 1000000 in
theorem cut_any (s : ByteArray) (n : Int) (w : World) (hs : s.size ≤ 140737488355328) :
    Calls Try.prog 15 #[.string s, .int .i64 n] w fun e w' => e = .returned (.string ⟨(s.data.toList.take n.toNat).toArray⟩) ∧ Below w.heap.size w w' := by
  have hc := cut_bytes s _ n.toNat rfl
  rw [← hc]
  clear hc
  obtain ⟨m, hm⟩ : ∃ m, min n.toNat s.size = m := ⟨_, rfl⟩
  have h1 : min (max n 0) (s.size : Int) = (m : Int) := by omega
  have h2 : min (s.size : Int) (max n 0) = (m : Int) := by omega
  have h3 : m ≤ s.size := by omega
  rw [hm]
  have Hcl := Away.mk (fun w1 : World => sclone (s.extract 0 m) w1 (by rw [ByteArray.size_extract]; omega))
  clear hm
  go_enter Try.func15, Try.ntmps15
  go_wp2_with fail
  refine (Hcl.out _).mono ?_
  rintro e w1 ⟨rfl, hb⟩
  go_wp2_with fail
  go_ret
  exact ⟨rfl, hb⟩
set_option maxRecDepth 100000 in
set_option maxHeartbeats 1000000 in
theorem rcut_any (s : ByteArray) (n : Int) (w : World) (hs : s.size ≤ 140737488355328) :
    Calls Try.prog 16 #[.string s, .int .i64 n] w fun e w' => e = .returned (.string ⟨(s.data.toList.take n.toNat).toArray⟩) ∧ w' = w := by
  have hc := cut_bytes s _ n.toNat rfl
  rw [← hc]
  clear hc
  obtain ⟨m, hm⟩ : ∃ m, min n.toNat s.size = m := ⟨_, rfl⟩
  have h1 : max 0 (min n (s.size : Int)) = (m : Int) := by omega
  have h3 : m ≤ s.size := by omega
  rw [hm]
  clear hm
  go_enter Try.func16, Try.ntmps16
  go_wp2_with fail
  go_ret
  exact ⟨rfl, rfl⟩
end Go.Proofs.Ythfljfampfioaaa.cut
