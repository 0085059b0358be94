/-
  What mac.ended returns: the hash of what the hasher was fed with, followed by the string. Conditions: the tables hold the words, the strings have together at most 2^39 bytes.
-/
import Derived.Test.YthfljfampfioaaaMacF
namespace Go.Proofs.Ythfljfampfioaaa.ended
open Go.RowKit
open Go.Proofs.Ythfljfampfioaaa.oct Go.Proofs.Ythfljfampfioaaa.mem Go.Proofs.Ythfljfampfioaaa.arr Go.Proofs.Ythfljfampfioaaa.sham Go.Proofs.Ythfljfampfioaaa.thru Go.Proofs.Ythfljfampfioaaa.ends Go.Proofs.Ythfljfampfioaaa.hashs Go.Proofs.Ythfljfampfioaaa.macm Go.Proofs.Ythfljfampfioaaa.macf

set_option maxRecDepth 100000 in
set_option maxHeartbeats 1000000 in
theorem ended_any (T : Array Value) (x : Wd) (b : Bool) (A : List UInt8) (s : ByteArray) (w : World) (h : TX T x) (hA : A.length + s.size ≤ 549755813888) :
    Calls Try.prog 36 #[.agg T, .agg (HX x b A), .string s] w fun e w' => e = .returned (.string ⟨(hx x b (A ++ s.data.toList)).toArray⟩) ∧ Below w.heap.size w w' := by
  have HTs : Away (T.size = 465) := ⟨h.size⟩
  have hsl : s.data.toList.length = s.size := rfl
  have Hf : Away (∀ w1 : World, Calls Try.prog 32 #[.agg T, .agg (HX x b A), .string s] w1 fun e w' => e = .returned (.tuple #[.agg (HX x b (A ++ s.data.toList)), .int .i64 0]) ∧ Below w1.heap.size w1 w') := ⟨fun w1 => feed_any T x b A s w1 h hA⟩
  have He : Away (∀ w1 : World, Calls Try.prog 58 #[.agg T, .agg (HX x b (A ++ s.data.toList))] w1 fun e w' => e = .returned (.tuple #[.string ⟨(hx x b (A ++ s.data.toList)).toArray⟩, .int .i64 0]) ∧ Below w1.heap.size w1 w') := ⟨fun w1 => end_any T x b (A ++ s.data.toList) w1 h (by rw [List.length_append, hsl]; exact hA)⟩
  have Cs : Away ((HX x b A).size = 19) := ⟨HX_size _ _ _⟩
  have Ds : Away ((HX x b (A ++ s.data.toList)).size = 19) := ⟨HX_size _ _ _⟩
  have Do : Away ((HX x b (A ++ s.data.toList)).all (·.oneCell') = true) := ⟨HX_one _ _ _⟩
  obtain ⟨C, hC⟩ : ∃ C, HX x b A = C := ⟨_, rfl⟩
  obtain ⟨D, hD⟩ : ∃ D, HX x b (A ++ s.data.toList) = D := ⟨_, rfl⟩
  obtain ⟨R, hR⟩ : ∃ R, hx x b (A ++ s.data.toList) = R := ⟨_, rfl⟩
  rw [hC] at Hf Cs ⊢
  rw [hD] at Hf He Ds Do
  rw [hR] at He ⊢
  clear hC hD hR h hsl
  obtain ⟨w0, Hw0⟩ := ex_eq ((w.alloc (.cells T 33)).alloc (.cells C 56))
  have g0 : Away (w0.heap[w.heap.size]? = some (.cells T 33 (0, 0))) := ⟨by rw [← Hw0.out, heap_past _ _ _ (by simp), heap_at _ _ _ rfl]⟩
  have g1 : Away (w0.heap[w.heap.size + 1]? = some (.cells C 56 (0, 0))) := ⟨by rw [← Hw0.out, heap_at _ _ _ (by simp)]⟩
  have hb0 : Away (Below w.heap.size w w0) := ⟨by rw [← Hw0.out]; exact ((Below.refl _ _).alloc (Nat.le_refl _) _).alloc (by simp) _⟩
  have z0 : w0.heap.size = w.heap.size + 2 := by rw [← Hw0.out]; simp
  have G0' : Away (((w.alloc (.cells T 33)).alloc (.cells C 56)).heap[w.heap.size]? = some (.cells T 33 (0, 0))) := ⟨by rw [Hw0.out]; exact g0.out⟩
  have G1' : Away (((w.alloc (.cells T 33)).alloc (.cells C 56)).heap[w.heap.size + 1]? = some (.cells C 56 (0, 0))) := ⟨by rw [Hw0.out]; exact g1.out⟩
  go_enter Try.func36, Try.ntmps36
  go_wp2_with (first
    | (refine wpList_load_row rfl 33 _ rfl w.heap.size rfl 33 T (0, 0) _ G0'.out Try.underlying33 rfl (by rw [HTs.out]; exact sizeT) ?_)
    | (refine wpList_load_row rfl 56 _ rfl (w.heap.size + 1) rfl 56 C (0, 0) _ G1'.out Try.underlying56 rfl (by rw [Cs.out]; exact zHash) ?_))
  rw [Hw0.out]
  refine (Hf.out w0).mono ?_
  rintro e w1 ⟨rfl, hb1⟩
  have h0 := (hb1.block w.heap.size (by omega)).trans g0.out
  have h1 := (hb1.block (w.heap.size + 1) (by omega)).trans g1.out
  have Hb1 : Away (Below w.heap.size w (w1.setRow (w.heap.size + 1) D)) := ⟨(hb0.out.trans (hb1.mono (by omega))).trans (below_setRow _ _ _ (by omega))⟩
  have K0 : Away ((w1.setRow (w.heap.size + 1) D).heap[w.heap.size]? = some (.cells T 33 (0, 0))) := ⟨(setRow_other w1 _ _ _ (by omega)).trans h0⟩
  have K1 : Away ((w1.setRow (w.heap.size + 1) D).heap[w.heap.size + 1]? = some (.cells D 56 (0, 0))) := ⟨setRow_heap _ _ _ _ _ _ h1⟩
  have H1 := Away.mk h1
  clear h0 h1 hb1
  go_wp2_with (first
    | (refine wpList_store_row rfl 56 _ _ rfl (w.heap.size + 1) D rfl rfl 56 _ H1.out (by rw [Ds.out]; exact zHash) (by rw [Cs.out, Ds.out]) Do.out ?_)
    | (refine wpList_load_row rfl 33 _ rfl w.heap.size rfl 33 T (0, 0) _ K0.out Try.underlying33 rfl (by rw [HTs.out]; exact sizeT) ?_)
    | (refine wpList_load_row rfl 56 _ rfl (w.heap.size + 1) rfl 56 D (0, 0) _ K1.out Try.underlying56 rfl (by rw [Ds.out]; exact zHash) ?_))
  refine (He.out _).mono ?_
  rintro e w2 ⟨rfl, hb2⟩
  have Hb2 : Away (Below w.heap.size w w2) := ⟨Hb1.out.trans (hb2.mono Hb1.out.size)⟩
  clear hb2
  go_wp2_with fail
  go_ret
  exact ⟨rfl, Hb2.out⟩
end Go.Proofs.Ythfljfampfioaaa.ended
