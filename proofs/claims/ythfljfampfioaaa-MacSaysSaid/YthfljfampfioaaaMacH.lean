/-
  What mac.Hash returns: the hash; memory that was there before stays as it was. Conditions: the tables hold the words, the string has at most 2^40 - 1000 bytes.
-/
import Derived.Test.YthfljfampfioaaaMacM
import Derived.Test.YthfljfampfioaaaHash
namespace Go.Proofs.Ythfljfampfioaaa.mach
open Go.RowKit
open Go.Proofs.Ythfljfampfioaaa.oct Go.Proofs.Ythfljfampfioaaa.mem Go.Proofs.Ythfljfampfioaaa.arr Go.Proofs.Ythfljfampfioaaa.sham Go.Proofs.Ythfljfampfioaaa.thru Go.Proofs.Ythfljfampfioaaa.hashs Go.Proofs.Ythfljfampfioaaa.macm

set_option maxRecDepth 100000 in
set_option maxHeartbeats 1000000 in
theorem hash_false (T : Array Value) (x : Wd) (s : ByteArray) (w : World) (h : TX T x) (hs : s.size ≤ 1099511626000) :
    Calls Try.prog 9 #[.agg T, .bool false, .string s] w fun e w' => e = .returned (.string ⟨(hx x false s.data.toList).toArray⟩) ∧ Below w.heap.size w w' := by
  have Hc : Away (∀ w1 : World, Calls Try.prog 27 #[.agg T, .string s] w1 fun e w' => e = .returned (.string ⟨(hx x false s.data.toList).toArray⟩) ∧ Below w1.heap.size w1 w') := ⟨fun w1 => hashs.whole32 T x.k3 x.k6 x.s3 x.s6 s w1 h hs⟩
  obtain ⟨H, HH⟩ := ex_eq (hx x false s.data.toList)
  rw [HH.out] at Hc ⊢
  have HTs : Away (T.size = 465) := ⟨h.size⟩
  clear HH h
  have G0 : Away ((w.alloc (.cells T 33)).heap[w.heap.size]? = some (.cells T 33 (0, 0))) := ⟨heap_at _ _ _ rfl⟩
  go_enter Try.func9, Try.ntmps9
  go_wp2_with (refine wpList_load_row rfl 33 _ rfl w.heap.size rfl 33 T (0, 0) _ G0.out Try.underlying33 rfl (by rw [HTs.out]; exact sizeT) ?_)
  refine (Hc.out _).mono ?_
  rintro e w1 ⟨rfl, hb⟩
  have Hb : Away (Below w.heap.size w w1) := ⟨(below_alloc w _).trans (hb.mono (by simp))⟩
  clear hb
  go_wp2_with fail
  go_ret
  exact ⟨rfl, Hb.out⟩

set_option maxRecDepth 100000 in
set_option maxHeartbeats 1000000 in
theorem hash_true (T : Array Value) (x : Wd) (s : ByteArray) (w : World) (h : TX T x) (hs : s.size ≤ 1099511626000) :
    Calls Try.prog 9 #[.agg T, .bool true, .string s] w fun e w' => e = .returned (.string ⟨(hx x true s.data.toList).toArray⟩) ∧ Below w.heap.size w w' := by
  have Hc : Away (∀ w1 : World, Calls Try.prog 26 #[.agg T, .string s] w1 fun e w' => e = .returned (.string ⟨(hx x true s.data.toList).toArray⟩) ∧ Below w1.heap.size w1 w') := ⟨fun w1 => hashs.whole64 T x.k3 x.k6 x.s3 x.s6 s w1 h hs⟩
  obtain ⟨H, HH⟩ := ex_eq (hx x true s.data.toList)
  rw [HH.out] at Hc ⊢
  have HTs : Away (T.size = 465) := ⟨h.size⟩
  clear HH h
  have G0 : Away ((w.alloc (.cells T 33)).heap[w.heap.size]? = some (.cells T 33 (0, 0))) := ⟨heap_at _ _ _ rfl⟩
  go_enter Try.func9, Try.ntmps9
  go_wp2_with (refine wpList_load_row rfl 33 _ rfl w.heap.size rfl 33 T (0, 0) _ G0.out Try.underlying33 rfl (by rw [HTs.out]; exact sizeT) ?_)
  refine (Hc.out _).mono ?_
  rintro e w1 ⟨rfl, hb⟩
  have Hb : Away (Below w.heap.size w w1) := ⟨(below_alloc w _).trans (hb.mono (by simp))⟩
  clear hb
  go_wp2_with fail
  go_ret
  exact ⟨rfl, Hb.out⟩

theorem hash_any (T : Array Value) (x : Wd) (b : Bool) (s : ByteArray) (w : World) (h : TX T x) (hs : s.size ≤ 1099511626000) :
    Calls Try.prog 9 #[.agg T, .bool b, .string s] w fun e w' => e = .returned (.string ⟨(hx x b s.data.toList).toArray⟩) ∧ Below w.heap.size w w' := by
  cases b
  · exact hash_false T x s w h hs
  · exact hash_true T x s w h hs
end Go.Proofs.Ythfljfampfioaaa.mach
