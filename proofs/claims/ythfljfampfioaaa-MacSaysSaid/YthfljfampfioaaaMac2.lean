/-
  The contracts of strings.Builder (WriteString, Len) at this seat's numbers: each is one application of the library's own theorem. Conditions: as each says.
  What sha.Start, Feed and End return, for both hash functions alike: a hasher is told by the string that it was fed with. Conditions: the tables hold the words, the strings have together at most 2^39 bytes.
  What mac.ended returns: the hash of what the hasher was fed with, followed by the string. Conditions: the tables hold the words, the strings have together at most 2^39 bytes.
  What mac.Cut and the reference's Cut return, for any string and number: the first bytes. Conditions: none but that the string's length fits an int.
  What mac.Mask returns: the document's mask; memory that was there before stays as it was. Conditions: the tables hold the words, the seed has at most 2^38 bytes.
-/
import Derived.Test.YthfljfampfioaaaProg
import Derived.Test.YthfljfampfioaaaMac1
import Derived.Test.YthfljfampfioaaaShF
import Derived.Test.YthfljfampfioaaaBase
import Derived.Test.YthfljfampfioaaaOc
import Derived.Test.YthfljfampfioaaaVr
import Derived.Shelf.Strings.Builder1
import Derived.Shelf.Strings.Builder2
namespace Go.Proofs.Ythfljfampfioaaa.shelf
open Go.Shelf
def lays166_ren : Go.Shelf.Ren := ⟨fun | 166 => 35 | 240 => 57 | 276 => 72 | n => n, fun | 0 => 0 | 3 => 3 | 4 => 4 | 5 => 5 | 9 => 9 | 20 => 20 | 37 => 52 | 70 => 61 | 72 => 63 | 75 => 66 | 80 => 70 | 164 => 106 | n => n, fun | n => n⟩
theorem lays166 : Go.Proofs.Lays.n166 Try.prog lays166_ren := {
  mixed := by kernel_rfl
  f166 := Try.func35.trans (congrArg some (by kernel_rfl))
  f240 := Try.func57.trans (congrArg some (by kernel_rfl))
  f276 := Try.func72.trans (congrArg some (by kernel_rfl))
  t0 := Try.underlying0
  a0 := Try.isAgg0
  z0 := Try.sizeOf0
  v0 := Try.zeroValue0
  t3 := Try.underlying3
  a3 := Try.isAgg3
  z3 := Try.sizeOf3
  v3 := Try.zeroValue3
  t4 := Try.underlying4
  a4 := Try.isAgg4
  z4 := Try.sizeOf4
  v4 := Try.zeroValue4
  t9 := Try.underlying9
  a9 := Try.isAgg9
  z9 := Try.sizeOf9
  v9 := Try.zeroValue9
  t20 := Try.underlying20
  a20 := Try.isAgg20
  z20 := Try.sizeOf20
  v20 := Try.zeroValue20
  t37 := Try.underlying52
  a37 := Try.isAgg52
  z37 := Try.sizeOf52
  v37 := Try.zeroValue52
  t70 := Try.underlying61
  a70 := Try.isAgg61
  z70 := Try.sizeOf61
  v70 := Try.zeroValue61
  t72 := Try.underlying63
  a72 := Try.isAgg63
  z72 := Try.sizeOf63
  v72 := Try.zeroValue63
  t75 := Try.underlying66
  a75 := Try.isAgg66
  z75 := Try.sizeOf66
  v75 := Try.zeroValue66
  t164 := Try.underlying106
  a164 := Try.isAgg106
  z164 := Try.sizeOf106
  v164 := Try.zeroValue106 }
theorem extra166 : Builder.Extra Try.prog lays166_ren := {
  sizeBuilder := by kernel_rfl
  liesBuilder := by kernel_rfl
  t5 := Try.underlying5
  a5 := Try.isAgg5
  z5 := Try.sizeOf5
  v5 := Try.zeroValue5
  infoByte := by kernel_rfl
  cellsByte := by kernel_rfl
  sizeByte := by kernel_rfl
  neB5 := by decide }
open Go.RowKit in
theorem writeString (B b : Nat) (bs : List Value) (s : ByteArray) (w : World) (h : Lib.IsBuilder 63 5 B b bs w) (hlen : bs.length + s.size ≤ 140737488355328) (hBw : B ≤ w.heap.size) :
    Calls Try.prog 35 #[.pointer (some ⟨b, 0, none⟩), .string s] w fun e w' => e = .returned (.tuple #[.int .i64 s.size, .nilIface]) ∧ (Lib.BuilderAt 63 5 B b (.pointer (some ⟨b, 0, none⟩)) (bs ++ Lib.strCells s) w' ∧ Below B w w') := Any.Builder_WriteString lays166 extra166 B b bs s w h hlen hBw
def lays170_ren : Go.Shelf.Ren := ⟨fun | 170 => 34 | n => n, fun | 0 => 0 | 3 => 3 | 5 => 5 | 37 => 52 | 70 => 61 | 72 => 63 | n => n, fun | n => n⟩
theorem lays170 : Go.Proofs.Lays.n170 Try.prog lays170_ren := {
  mixed := by kernel_rfl
  f170 := Try.func34.trans (congrArg some (by kernel_rfl))
  t0 := Try.underlying0
  a0 := Try.isAgg0
  z0 := Try.sizeOf0
  v0 := Try.zeroValue0
  t3 := Try.underlying3
  a3 := Try.isAgg3
  z3 := Try.sizeOf3
  v3 := Try.zeroValue3
  t37 := Try.underlying52
  a37 := Try.isAgg52
  z37 := Try.sizeOf52
  v37 := Try.zeroValue52
  t70 := Try.underlying61
  a70 := Try.isAgg61
  z70 := Try.sizeOf61
  v70 := Try.zeroValue61
  t72 := Try.underlying63
  a72 := Try.isAgg63
  z72 := Try.sizeOf63
  v72 := Try.zeroValue63 }
open Go.RowKit in
theorem builderLen (B b : Nat) (bs : List Value) (w : World) (h : Lib.IsBuilder 63 5 B b bs w) :
    Calls Try.prog 34 #[.pointer (some ⟨b, 0, none⟩)] w fun e w' => e = .returned (.int .i64 bs.length) ∧ w' = w := Any.Builder_Len lays170 B b bs w h
end Go.Proofs.Ythfljfampfioaaa.shelf

namespace Go.Proofs.Ythfljfampfioaaa.macf
open Go.RowKit
open Go.Proofs.Ythfljfampfioaaa.oct Go.Proofs.Ythfljfampfioaaa.mem Go.Proofs.Ythfljfampfioaaa.arr Go.Proofs.Ythfljfampfioaaa.sham Go.Proofs.Ythfljfampfioaaa.thru Go.Proofs.Ythfljfampfioaaa.hashs Go.Proofs.Ythfljfampfioaaa.macm

/-- what is left of A behind its whole blocks -/
def rest (b : Bool) (A : List UInt8) : ByteArray := ⟨(A.drop (bN b * (A.length / bN b))).toArray⟩
/-- a hasher that was fed with A -/
def HX (x : Wd) (b : Bool) (A : List UInt8) : Array Value :=
  if b then HC true V0 (run64 x.k6 x.s6 A (A.length / 128)) (rest true A) (A.length : Int) else HC false (run32 x.k3 x.s3 A (A.length / 64)) V0 (rest false A) (A.length : Int)
theorem hx_false (x : Wd) (A : List UInt8) : HX x false A = HC false (run32 x.k3 x.s3 A (A.length / 64)) V0 (rest false A) (A.length : Int) := rfl
theorem hx_true (x : Wd) (A : List UInt8) : HX x true A = HC true V0 (run64 x.k6 x.s6 A (A.length / 128)) (rest true A) (A.length : Int) := rfl
theorem HX_size (x : Wd) (b : Bool) (A : List UInt8) : (HX x b A).size = 19 := by cases b <;> rfl
theorem HX_one (x : Wd) (b : Bool) (A : List UInt8) : (HX x b A).all (·.oneCell') = true := by cases b <;> exact hc_one _ _ _ _ _
theorem rest_is (b : Bool) (A : List UInt8) (r : ByteArray) (h : r.data.toList = A.drop (bN b * (A.length / bN b))) : r = rest b A := by
  apply ByteArray.ext
  apply Array.toList_inj.1
  rw [h, rest]

theorem start_any (T : Array Value) (x : Wd) (b : Bool) (w : World) (h : TX T x) :
    Calls Try.prog 33 #[.agg T, .bool b] w fun e w' => e = .returned (.agg (HX x b [])) ∧ Below w.heap.size w w' := by
  cases b
  · exact feed.newhash32 T x.k3 x.k6 x.s3 x.s6 w h
  · exact feed.newhash64 T x.k3 x.k6 x.s3 x.s6 w h
theorem feed_any (T : Array Value) (x : Wd) (b : Bool) (A : List UInt8) (s : ByteArray) (w : World) (h : TX T x) (hA : A.length + s.size ≤ 549755813888) :
    Calls Try.prog 32 #[.agg T, .agg (HX x b A), .string s] w fun e w' => e = .returned (.tuple #[.agg (HX x b (A ++ s.data.toList)), .int .i64 0]) ∧ Below w.heap.size w w' := by
  cases b
  · refine (feedb.feed_any32 T x.k3 x.k6 x.s3 x.s6 A (rest false A) s w h rfl hA).mono ?_
    rintro e w' ⟨⟨r, rfl, hr⟩, hb⟩
    exact ⟨by rw [rest_is false _ r hr, hx_false], hb⟩
  · refine (feedb.feed_any64 T x.k3 x.k6 x.s3 x.s6 A (rest true A) s w h rfl hA).mono ?_
    rintro e w' ⟨⟨r, rfl, hr⟩, hb⟩
    exact ⟨by rw [rest_is true _ r hr, hx_true], hb⟩
theorem end_any (T : Array Value) (x : Wd) (b : Bool) (A : List UInt8) (w : World) (h : TX T x) (hA : A.length ≤ 549755813888) :
    Calls Try.prog 58 #[.agg T, .agg (HX x b A)] w fun e w' => e = .returned (.tuple #[.string ⟨(hx x b A).toArray⟩, .int .i64 0]) ∧ Below w.heap.size w w' := by
  cases b
  · exact feed.ended32 T x.k3 x.k6 x.s3 x.s6 A (rest false A) w h rfl hA
  · exact feed.ended64 T x.k3 x.k6 x.s3 x.s6 A (rest true A) w h rfl hA
end Go.Proofs.Ythfljfampfioaaa.macf

namespace Go.Proofs.Ythfljfampfioaaa.ended
open Go.RowKit
open Go.Proofs.Ythfljfampfioaaa.oct Go.Proofs.Ythfljfampfioaaa.mem Go.Proofs.Ythfljfampfioaaa.arr Go.Proofs.Ythfljfampfioaaa.sham Go.Proofs.Ythfljfampfioaaa.thru Go.Proofs.Ythfljfampfioaaa.ends Go.Proofs.Ythfljfampfioaaa.hashs Go.Proofs.Ythfljfampfioaaa.macm Go.Proofs.Ythfljfampfioaaa.macf

set_option maxRecDepth 100000 in
set_option maxHeartbeats 1000000 in
theorem ended_any (T : Array Value) (x : Wd) (b : Bool) (A : List UInt8) (s : ByteArray) (w : World) (h : TX T x) (hA : A.length + s.size ≤ 549755813888) :
    Calls Try.prog 36 #[.agg T, .agg (HX x b A), .string s] w fun e w' => e = .returned (.string ⟨(hx x b (A ++ s.data.toList)).toArray⟩) ∧ Below w.heap.size w w' := by
  have HTs : Away (T.size = 465) := ⟨h.size⟩
  have hsl : s.data.toList.length = s.size := rfl
  have Hf : Away (∀ w1 : World, Calls Try.prog 32 #[.agg T, .agg (HX x b A), .string s] w1 fun e w' => e = .returned (.tuple #[.agg (HX x b (A ++ s.data.toList)), .int .i64 0]) ∧ Below w1.heap.size w1 w') := ⟨fun w1 => feed_any T x b A s w1 h hA⟩
  have He : Away (∀ w1 : World, Calls Try.prog 58 #[.agg T, .agg (HX x b (A ++ s.data.toList))] w1 fun e w' => e = .returned (.tuple #[.string ⟨(hx x b (A ++ s.data.toList)).toArray⟩, .int .i64 0]) ∧ Below w1.heap.size w1 w') := ⟨fun w1 => end_any T x b (A ++ s.data.toList) w1 h (by rw [List.length_append, hsl]; exact hA)⟩
  have Cs : Away ((HX x b A).size = 19) := ⟨HX_size _ _ _⟩
  have Ds : Away ((HX x b (A ++ s.data.toList)).size = 19) := ⟨HX_size _ _ _⟩
  have Do : Away ((HX x b (A ++ s.data.toList)).all (·.oneCell') = true) := ⟨HX_one _ _ _⟩
  obtain ⟨C, hC⟩ : ∃ C, HX x b A = C := ⟨_, rfl⟩
  obtain ⟨D, hD⟩ : ∃ D, HX x b (A ++ s.data.toList) = D := ⟨_, rfl⟩
  obtain ⟨R, hR⟩ : ∃ R, hx x b (A ++ s.data.toList) = R := ⟨_, rfl⟩
  rw [hC] at Hf Cs ⊢
  rw [hD] at Hf He Ds Do
  rw [hR] at He ⊢
  clear hC hD hR h hsl
  obtain ⟨w0, Hw0⟩ := ex_eq ((w.alloc (.cells T 33)).alloc (.cells C 56))
  have g0 : Away (w0.heap[w.heap.size]? = some (.cells T 33 (0, 0))) := ⟨by rw [← Hw0.out, heap_past _ _ _ (by simp), heap_at _ _ _ rfl]⟩
  have g1 : Away (w0.heap[w.heap.size + 1]? = some (.cells C 56 (0, 0))) := ⟨by rw [← Hw0.out, heap_at _ _ _ (by simp)]⟩
  have hb0 : Away (Below w.heap.size w w0) := ⟨by rw [← Hw0.out]; exact ((Below.refl _ _).alloc (Nat.le_refl _) _).alloc (by simp) _⟩
  have z0 : w0.heap.size = w.heap.size + 2 := by rw [← Hw0.out]; simp
  have G0' : Away (((w.alloc (.cells T 33)).alloc (.cells C 56)).heap[w.heap.size]? = some (.cells T 33 (0, 0))) := ⟨by rw [Hw0.out]; exact g0.out⟩
  have G1' : Away (((w.alloc (.cells T 33)).alloc (.cells C 56)).heap[w.heap.size + 1]? = some (.cells C 56 (0, 0))) := ⟨by rw [Hw0.out]; exact g1.out⟩
  go_enter Try.func36, Try.ntmps36
  go_wp2_with (first
    | (refine wpList_load_row rfl 33 _ rfl w.heap.size rfl 33 T (0, 0) _ G0'.out Try.underlying33 rfl (by rw [HTs.out]; exact sizeT) ?_)
    | (refine wpList_load_row rfl 56 _ rfl (w.heap.size + 1) rfl 56 C (0, 0) _ G1'.out Try.underlying56 rfl (by rw [Cs.out]; exact zHash) ?_))
  rw [Hw0.out]
  refine (Hf.out w0).mono ?_
  rintro e w1 ⟨rfl, hb1⟩
  have h0 := (hb1.block w.heap.size (by omega)).trans g0.out
  have h1 := (hb1.block (w.heap.size + 1) (by omega)).trans g1.out
  have Hb1 : Away (Below w.heap.size w (w1.setRow (w.heap.size + 1) D)) := ⟨(hb0.out.trans (hb1.mono (by omega))).trans (below_setRow _ _ _ (by omega))⟩
  have K0 : Away ((w1.setRow (w.heap.size + 1) D).heap[w.heap.size]? = some (.cells T 33 (0, 0))) := ⟨(setRow_other w1 _ _ _ (by omega)).trans h0⟩
  have K1 : Away ((w1.setRow (w.heap.size + 1) D).heap[w.heap.size + 1]? = some (.cells D 56 (0, 0))) := ⟨setRow_heap _ _ _ _ _ _ h1⟩
  have H1 := Away.mk h1
  clear h0 h1 hb1
  go_wp2_with (first
    | (refine wpList_store_row rfl 56 _ _ rfl (w.heap.size + 1) D rfl rfl 56 _ H1.out (by rw [Ds.out]; exact zHash) (by rw [Cs.out, Ds.out]) Do.out ?_)
    | (refine wpList_load_row rfl 33 _ rfl w.heap.size rfl 33 T (0, 0) _ K0.out Try.underlying33 rfl (by rw [HTs.out]; exact sizeT) ?_)
    | (refine wpList_load_row rfl 56 _ rfl (w.heap.size + 1) rfl 56 D (0, 0) _ K1.out Try.underlying56 rfl (by rw [Ds.out]; exact zHash) ?_))
  refine (He.out _).mono ?_
  rintro e w2 ⟨rfl, hb2⟩
  have Hb2 : Away (Below w.heap.size w w2) := ⟨Hb1.out.trans (hb2.mono Hb1.out.size)⟩
  clear hb2
  go_wp2_with fail
  go_ret
  exact ⟨rfl, Hb2.out⟩
end Go.Proofs.Ythfljfampfioaaa.ended

namespace Go.Proofs.Ythfljfampfioaaa.cut
open Go.RowKit
open Go.Proofs.Ythfljfampfioaaa.oct Go.Proofs.Ythfljfampfioaaa.arr
theorem cut_bytes (s : ByteArray) (m n : Nat) (h : m = min n s.size) : s.extract 0 m = ⟨(s.data.toList.take n).toArray⟩ := by
  subst h
  apply ByteArray.ext
  apply Array.toList_inj.1
  have hs : s.data.toList.length = s.size := rfl
  have h1 : (s.extract 0 (min n s.size)).data.toList = s.data.toList.take (min n s.size) := by simp
  have h2 : min n s.size = min n s.data.toList.length := rfl
  rw [h1, h2, ← List.take_eq_take_min]
set_option maxRecDepth 100000 in
set_option maxHeartbeats 1000000 in
theorem sclone (x : ByteArray) (w : World) (h : x.size ≤ 281474976710656) : Calls Try.prog 39 #[.string x] w fun e w' => e = .returned (.string x) ∧ Below w.heap.size w w' := by
  have H := Away.mk (fun w1 : World => shelf.clone x w1 h)
  clear h
  go_enter Try.func39, Try.ntmps39
  go_wp2_with fail
  refine (H.out _).mono ?_
  rintro e w1 ⟨rfl, hb⟩
  go_wp2_with fail
  go_ret
  exact ⟨rfl, hb⟩
set_option maxRecDepth 100000 in
set_option maxHeartbeats 1000000 in
theorem cut_any (s : ByteArray) (n : Int) (w : World) (hs : s.size ≤ 140737488355328) :
    Calls Try.prog 15 #[.string s, .int .i64 n] w fun e w' => e = .returned (.string ⟨(s.data.toList.take n.toNat).toArray⟩) ∧ Below w.heap.size w w' := by
  have hc := cut_bytes s _ n.toNat rfl
  rw [← hc]
  clear hc
  obtain ⟨m, hm⟩ : ∃ m, min n.toNat s.size = m := ⟨_, rfl⟩
  have h1 : min (max n 0) (s.size : Int) = (m : Int) := by omega
  have h2 : min (s.size : Int) (max n 0) = (m : Int) := by omega
  have h3 : m ≤ s.size := by omega
  rw [hm]
  have Hcl := Away.mk (fun w1 : World => sclone (s.extract 0 m) w1 (by rw [ByteArray.size_extract]; omega))
  clear hm
  go_enter Try.func15, Try.ntmps15
  go_wp2_with fail
  refine (Hcl.out _).mono ?_
  rintro e w1 ⟨rfl, hb⟩
  go_wp2_with fail
  go_ret
  exact ⟨rfl, hb⟩
set_option maxRecDepth 100000 in
set_option maxHeartbeats 1000000 in
theorem rcut_any (s : ByteArray) (n : Int) (w : World) (hs : s.size ≤ 140737488355328) :
    Calls Try.prog 16 #[.string s, .int .i64 n] w fun e w' => e = .returned (.string ⟨(s.data.toList.take n.toNat).toArray⟩) ∧ w' = w := by
  have hc := cut_bytes s _ n.toNat rfl
  rw [← hc]
  clear hc
  obtain ⟨m, hm⟩ : ∃ m, min n.toNat s.size = m := ⟨_, rfl⟩
  have h1 : max 0 (min n (s.size : Int)) = (m : Int) := by omega
  have h3 : m ≤ s.size := by omega
  rw [hm]
  clear hm
  go_enter Try.func16, Try.ntmps16
  go_wp2_with fail
  go_ret
  exact ⟨rfl, rfl⟩
end Go.Proofs.Ythfljfampfioaaa.cut

namespace Go.Proofs.Ythfljfampfioaaa.mask
set_option linter.unusedSimpArgs false
open Go.RowKit
open Go.Proofs.Ythfljfampfioaaa.oct Go.Proofs.Ythfljfampfioaaa.mem Go.Proofs.Ythfljfampfioaaa.arr Go.Proofs.Ythfljfampfioaaa.thru Go.Proofs.Ythfljfampfioaaa.ends Go.Proofs.Ythfljfampfioaaa.hashs Go.Proofs.Ythfljfampfioaaa.macm Go.Proofs.Ythfljfampfioaaa.macf Go.Proofs.Ythfljfampfioaaa.qtail Go.Proofs.Ythfljfampfioaaa.vary
/-- a builder stays what it is while the memory that is there stays as it is -/
theorem builder_later {T e : TypeId} {B b : Nat} {bs : List Value} {w w' : World} (h : Lib.IsBuilder T e B b bs w) (k : Below w.heap.size w w') : Lib.IsBuilder T e B b bs w' := by
  have key : ∀ p, Lib.BuilderAt T e B b p bs w → Lib.BuilderAt T e B b p bs w' := by
    intro p h
    have hl := h.lt
    obtain ⟨hB, v, hbk, hown, hne⟩ := h
    refine ⟨hB, v, (k.block b hl).trans hbk, ⟨hown.1, ?_⟩, hne⟩
    rcases hown.2 with h0 | ⟨g, cap, cur, h1, h2, hg, h3⟩
    · exact Or.inl h0
    · exact Or.inr ⟨g, cap, cur, h1, h2, (k.block g (lt_of_row hg)).trans hg, h3⟩
  rcases h with h | h
  · exact Or.inl (key _ h)
  · exact Or.inr (key _ h)

set_option maxRecDepth 100000 in
set_option maxHeartbeats 2000000 in
theorem mask_false (T : Array Value) (x : Wd) (s : ByteArray) (n : Int) (w : World) (h : TX T x) (hs : s.size ≤ 274877906944) :
    Calls Try.prog 13 #[.agg T, .bool false, .string s, .int .i64 n] w fun e w' => e = .returned (.string ⟨(ms x false s.data.toList n).toArray⟩) ∧ Below w.heap.size w w' := by
  have HTs : Away (T.size = 465) := ⟨h.size⟩
  have Hst : Away (∀ w1 : World, Calls Try.prog 33 #[.agg T, .bool false] w1 fun e w' => e = .returned (.agg (HX x false [])) ∧ Below w1.heap.size w1 w') := ⟨fun w1 => start_any T x false w1 h⟩
  have Hfd : Away (∀ w1 : World, Calls Try.prog 32 #[.agg T, .agg (HX x false []), .string s] w1 fun e w' => e = .returned (.tuple #[.agg (HX x false s.data.toList), .int .i64 0]) ∧ Below w1.heap.size w1 w') := ⟨fun w1 => by
    have hh := feed_any T x false [] s w1 h (by simpa using Nat.le_trans hs (by decide))
    rw [List.nil_append] at hh
    exact hh⟩
  have Hen : Away (∀ (k : Nat) (w1 : World), k ≤ 2000 → Calls Try.prog 36 #[.agg T, .agg (HX x false s.data.toList), .string ⟨(fixL k 4).toArray⟩] w1 fun e w' => e = .returned (.string ⟨(hx x false (s.data.toList ++ fixL k 4)).toArray⟩) ∧ Below w1.heap.size w1 w') := ⟨fun k w1 hk => by
    have hh := ended.ended_any T x false s.data.toList ⟨(fixL k 4).toArray⟩ w1 h (by
      show s.data.toList.length + (fixL k 4).toArray.size ≤ _
      rw [List.size_toArray, fixL_length]
      have e1 : s.data.toList.length = s.size := rfl
      omega)
    exact hh⟩
  have Hfx : Away (∀ (k : Nat) (w1 : World), k ≤ 2000 → Calls Try.prog 18 #[.int .u64 (k : Int), .int .i64 4] w1 fun e w' => e = .returned (.string ⟨(fixL k 4).toArray⟩) ∧ Below w1.heap.size w1 w') := ⟨fun k w1 hk => by
    have hh := fixed.fixed_any k 4 w1 (by omega)
    rw [show ((4 : Int)) = ((4 : Nat) : Int) from rfl, fixS_wd _ _ (by decide)] at hh
    exact hh⟩
  have Hmk : Away (∀ k, mk x false s.data.toList (k + 1) = mk x false s.data.toList k ++ hx x false (s.data.toList ++ fixL k 4)) := ⟨fun _ => rfl⟩
  have Hml : Away (∀ k, (mk x false s.data.toList k).length = 32 * k) := ⟨fun k => mk_length _ _ _ _⟩
  have Hxl : Away (∀ k, (hx x false (s.data.toList ++ fixL k 4)).length = 32) := ⟨fun k => hx_length _ _ _⟩
  have Hms : Away (ms x false s.data.toList n = (mk x false s.data.toList (((min n 50000).toNat + 31) / 32)).take n.toNat) := ⟨rfl⟩
  have Ds : Away ((HX x false s.data.toList).size = 19) := ⟨HX_size _ _ _⟩
  have Do : Away ((HX x false s.data.toList).all (·.oneCell') = true) := ⟨HX_one _ _ _⟩
  obtain ⟨C, hC⟩ : ∃ C, HX x false [] = C := ⟨_, rfl⟩
  obtain ⟨D, hD⟩ : ∃ D, HX x false s.data.toList = D := ⟨_, rfl⟩
  obtain ⟨M, hM⟩ : ∃ M, mk x false s.data.toList = M := ⟨_, rfl⟩
  obtain ⟨H, hH⟩ : ∃ H : Nat → List UInt8, (fun k => hx x false (s.data.toList ++ fixL k 4)) = H := ⟨_, rfl⟩
  have hH2 : ∀ k, hx x false (s.data.toList ++ fixL k 4) = H k := fun k => congrFun hH k
  obtain ⟨R, hR⟩ : ∃ R, ms x false s.data.toList n = R := ⟨_, rfl⟩
  rw [hC] at Hst Hfd
  rw [hD] at Hfd Hen Ds Do
  rw [hM] at Hmk Hml Hms
  simp only [hH2] at Hmk Hxl Hen
  rw [hR] at Hms ⊢
  clear hC hD hM hH hH2 hR h
  go_enter Try.func13, Try.ntmps13
  go_wp2_with fail
  obtain ⟨W, HW⟩ := ex_eq (w.alloc (.cells T 33))
  have E0 : Away (W.heap[w.heap.size]? = some (.cells T 33 (0, 0))) := ⟨by rw [← HW.out]; exact heap_at _ _ _ rfl⟩
  have zW : W.heap.size = w.heap.size + 1 := by rw [← HW.out]; simp
  have HbW : Away (Below w.heap.size w W) := ⟨by rw [← HW.out]; exact below_alloc w _⟩
  rw [HW.out]
  have HS : Away (∀ w' : World, Below W.heap.size W w' → w'.heap[w.heap.size]? = some (.cells T 33 (0, 0))) := ⟨fun w' hb => (hb.block _ (by omega)).trans E0.out⟩
  refine region_vary_lit 9 10 7 9 20 56 #[.bool false, .int .u32 0, .int .u32 0, .int .u32 0, .int .u32 0, .int .u32 0, .int .u32 0, .int .u32 0, .int .u32 0, .int .u64 0, .int .u64 0, .int .u64 0, .int .u64 0, .int .u64 0, .int .u64 0, .int .u64 0, .int .u64 0, .string ⟨#[]⟩, .int .i64 0] (by kernel_rfl) (by kernel_rfl) rfl (by kernel_rfl) rfl (fun ρ o w1 ho => by
    unfold execOp
    simp only [ho]
    go_simp
    rfl) (by simp) (fun ops HO => ?_)
  simp only [List.eraseIdx_cons_succ, List.eraseIdx_cons_zero]
  refine wpMild_load rfl 33 _ rfl _ rfl 33 _ _ HS.out Try.underlying33 rfl (by rw [HTs.out]; exact sizeT) ?_
  refine wpMild_load rfl 33 _ rfl _ rfl 33 _ _ HS.out Try.underlying33 rfl (by rw [HTs.out]; exact sizeT) ?_
  refine wpMild_pure rfl (.bool false) (fun w9 _ => by rfl) ?_
  refine wpMild_step rfl (fun K hK => ?_)
  go_simp
  apply Exists.intro
  refine ⟨fun w9 hw9 => ?_, hK _ ?_⟩
  exact Hst.out w9
  clear hK K
  refine wpMild_pure rfl (.string s) (fun w9 _ => by rfl) ?_
  refine wpMild_step rfl (fun K hK => ?_)
  go_simp
  apply Exists.intro
  refine ⟨fun w9 hw9 => ?_, hK _ ?_⟩
  exact Hfd.out w9
  clear hK K
  refine wpMild_pure rfl (.tuple #[.agg D, .int .i64 0]) (fun w9 _ => by rfl) ?_
  refine wpMild_pure rfl (.agg D) (fun w9 _ => by rfl) ?_
  refine wpMild_pure rfl (.int .i64 0) (fun w9 _ => by rfl) ?_
  refine wpMild_pure rfl (.int .i64 0) (fun w9 _ => by rfl) ?_
  refine ⟨D, rfl, ⟨by rw [Ds.out]; exact zHash, by rw [Ds.out]; rfl, Do.out⟩, fun p w1 hp hb hr => ?_⟩
  simp only [Act.put, List.setIfInBounds_toArray, List.set_cons_zero, List.set_cons_succ, vary.ptr]
  have H0 : Away (w1.heap[w.heap.size]? = some (.cells T 33 (0, 0))) := ⟨HS.out w1 hb⟩
  have Hr := Away.mk hr
  have hpl : p < w1.heap.size := lt_of_row hr
  have Hb : Away (Below w.heap.size w w1) := ⟨HbW.out.trans (hb.mono HbW.out.size)⟩
  have hfb := Lib.fresh_isBuilder 63 5 w1
  have Hfb : Away (Lib.IsBuilder 63 5 w1.heap.size w1.heap.size (Lib.byteCells (M 0)) (w1.alloc (.cells #[.pointer none, .slice none 0 0] 63))) := ⟨by
    have e0 : M 0 = [] := List.eq_nil_of_length_eq_zero ((Hml.out 0).trans (Nat.mul_zero _))
    rw [e0]; exact hfb⟩
  obtain ⟨N, hN⟩ : ∃ N, ((min n 50000).toNat + 31) / 32 = N := ⟨_, rfl⟩
  rw [hN] at Hms
  have hN2 : N ≤ 1600 := by omega
  clear hr hb hfb
  go_wp2_with fail
  go_loopw [12] (fun i wr => ∃ k : Nat, k ≤ N ∧ i = .int .u64 k ∧ Away (Lib.IsBuilder 63 5 w1.heap.size w1.heap.size (Lib.byteCells (M k)) wr) ∧ Away (Below w1.heap.size w1 wr) ∧ w1.heap.size ≤ wr.heap.size) (fun i _ => N - (intOf i).toNat)
  case atStart => exact ⟨0, Nat.zero_le _, rfl, ⟨Hfb.out⟩, ⟨(Below.refl _ _).alloc (Nat.le_refl _) _⟩, by simp⟩
  case round =>
    obtain ⟨k, hk, rfl, Hbd, Hbe, hz⟩ := hrel
    have Hlen : Away (Calls Try.prog 34 #[.pointer (some ⟨w1.heap.size, 0, none⟩)] wr fun e w' => e = .returned (.int .i64 ((32 * k : Nat) : Int)) ∧ w' = wr) := ⟨by
      have hh := shelf.builderLen w1.heap.size w1.heap.size _ wr Hbd.out
      rw [Lib.byteCells_length, Hml.out] at hh
      exact hh⟩
    have F0 : Away (wr.heap[w.heap.size]? = some (.cells T 33 (0, 0))) := ⟨(Hbe.out.block _ (lt_of_row H0.out)).trans H0.out⟩
    have F1 : Away (wr.heap[p]? = some (.cells D 56 (0, 0))) := ⟨(Hbe.out.block _ hpl).trans Hr.out⟩
    by_cases hlt : ((32 * k : Nat) : Int) < min n 50000
    · have hkN : k + 1 ≤ N := by omega
      have hd : decide (((32 * k : Nat) : Int) < min n 50000) = true := decide_eq_true hlt
      have HkN := Away.mk hkN
      have hk2 : k ≤ 1600 := by omega
      obtain ⟨q, hq⟩ : ∃ q : Nat, 32 * k = q := ⟨_, rfl⟩
      rw [hq] at Hlen hd hlt
      have Hmlk : Away ((M k).length = q) := ⟨(Hml.out k).trans hq⟩
      have hq2 : q ≤ 50000 := by omega
      clear hq hkN
      go_wp2_with fail
      refine Hlen.out.mono ?_
      rintro e w2 ⟨rfl, rfl⟩
      go_wp2_with fail
      refine region_below_tail 5 (by kernel_rfl) (by kernel_rfl) ?_
      refine wpQuiet_load rfl 33 _ rfl _ rfl 33 _ _ (fun w' hC => heap_regrown F0.out hC) Try.underlying33 rfl (by rw [HTs.out]; exact sizeT) ?_
      refine wpQuiet_load rfl 56 _ rfl _ rfl 56 _ _ (fun w' hC => heap_regrown F1.out hC) Try.underlying56 rfl (by rw [Ds.out]; exact zHash) ?_
      quiet_step (skip)
      quiet_step (exact Calls.regrown_of (Hfx.out k _ (by omega)))
      quiet_step (exact Calls.regrown_of (Hen.out k _ (by omega)))
      refine wpQuiet_nil ?_
      intro w3 hC
      have hb3 : Below w2.heap.size w2 w3 := by
        obtain ⟨pp, rfl⟩ := hC
        exact below_regrown _ _ _
      have Hb3 := Away.mk hb3
      have Hw : Away (Calls Try.prog 35 #[.pointer (some ⟨w1.heap.size, 0, none⟩), .string ⟨(H k).toArray⟩] w3 fun e w' => e = .returned (.tuple #[.int .i64 (⟨(H k).toArray⟩ : ByteArray).size, .nilIface]) ∧ (Lib.BuilderAt 63 5 w1.heap.size w1.heap.size (.pointer (some ⟨w1.heap.size, 0, none⟩)) (Lib.byteCells (M (k + 1))) w' ∧ Below w1.heap.size w3 w')) := ⟨by
        have hh := shelf.writeString w1.heap.size w1.heap.size (Lib.byteCells (M k)) ⟨(H k).toArray⟩ w3 (builder_later Hbd.out hb3) (by
          rw [Lib.byteCells_length, Hmlk.out]
          show q + (H k).toArray.size ≤ _
          rw [List.size_toArray, Hxl.out]
          omega) (Nat.le_trans hz hb3.size)
        rw [show Lib.strCells ⟨(H k).toArray⟩ = Lib.byteCells (H k) from rfl, ← Lib.byteCells_append, ← Hmk.out] at hh
        exact hh⟩
      have hz3 : w1.heap.size ≤ w3.heap.size := Nat.le_trans hz hb3.size
      clear hC hb3
      go_wp2_with fail
      refine Hw.out.mono ?_
      rintro e w4 ⟨rfl, hat, hb4⟩
      have Hat := Away.mk hat
      have Hb4 := Away.mk hb4
      have hz4 : w1.heap.size ≤ w4.heap.size := Nat.le_trans hz3 hb4.size
      clear hat hb4
      go_wp2_with fail
      go_roundw
      case rel => exact ⟨k + 1, HkN.out, by go_num, ⟨Or.inr Hat.out⟩, ⟨(Hbe.out.trans (Hb3.out.mono hz)).trans Hb4.out⟩, hz4⟩
      case measure => have := HkN.out; simp [intOf]; omega
    · obtain rfl : k = N := by omega
      have hd : decide (((32 * k : Nat) : Int) < min n 50000) = false := decide_eq_false hlt
      have hMl : (M k).length ≤ 102400 := by rw [Hml.out]; omega
      have Hst2 : Away (∀ w2, Lib.IsBuilder 63 5 w1.heap.size w1.heap.size (Lib.byteCells (M k)) w2 → w1.heap.size ≤ w2.heap.size → Calls Try.prog 37 #[.pointer (some ⟨w1.heap.size, 0, none⟩)] w2 fun e w' => e = .returned (.string ⟨(M k).toArray⟩) ∧ Below w1.heap.size w2 w') := ⟨fun w2 h1 h2 => shelf.toText w1.heap.size w1.heap.size (M k) w2 h1 h2⟩
      have Hct : Away (∀ w2 : World, Calls Try.prog 15 #[.string ⟨(M k).toArray⟩, .int .i64 n] w2 fun e w' => e = .returned (.string ⟨R.toArray⟩) ∧ Below w2.heap.size w2 w') := ⟨fun w2 => by
        rw [Hms.out]
        exact cut.cut_any ⟨(M k).toArray⟩ n w2 (by show (M k).toArray.size ≤ _; rw [List.size_toArray]; omega)⟩
      obtain ⟨q, hq⟩ : ∃ q : Nat, 32 * k = q := ⟨_, rfl⟩
      rw [hq] at Hlen hd hlt
      clear hq hMl
      go_wp2_with fail
      refine Hlen.out.mono ?_
      rintro e w2 ⟨rfl, rfl⟩
      go_wp2_with fail
      refine (Hst2.out _ Hbd.out hz).mono ?_
      rintro e w3 ⟨rfl, hb3⟩
      have hz3 : w1.heap.size ≤ w3.heap.size := Nat.le_trans hz hb3.size
      have Hb3 : Away (Below w1.heap.size w1 w3) := ⟨Hbe.out.trans hb3⟩
      clear hb3
      go_wp2_with fail
      refine (Hct.out _).mono ?_
      rintro e w4 ⟨rfl, hb4⟩
      have Hb4 : Away (Below w.heap.size w w4) := ⟨Hb.out.trans ((Hb3.out.trans (hb4.mono hz3)).mono Hb.out.size)⟩
      clear hb4
      go_wp2_with fail
      go_ret
      exact ⟨rfl, Hb4.out⟩

set_option maxRecDepth 100000 in
set_option maxHeartbeats 2000000 in
theorem mask_true (T : Array Value) (x : Wd) (s : ByteArray) (n : Int) (w : World) (h : TX T x) (hs : s.size ≤ 274877906944) :
    Calls Try.prog 13 #[.agg T, .bool true, .string s, .int .i64 n] w fun e w' => e = .returned (.string ⟨(ms x true s.data.toList n).toArray⟩) ∧ Below w.heap.size w w' := by
  have HTs : Away (T.size = 465) := ⟨h.size⟩
  have Hst : Away (∀ w1 : World, Calls Try.prog 33 #[.agg T, .bool true] w1 fun e w' => e = .returned (.agg (HX x true [])) ∧ Below w1.heap.size w1 w') := ⟨fun w1 => start_any T x true w1 h⟩
  have Hfd : Away (∀ w1 : World, Calls Try.prog 32 #[.agg T, .agg (HX x true []), .string s] w1 fun e w' => e = .returned (.tuple #[.agg (HX x true s.data.toList), .int .i64 0]) ∧ Below w1.heap.size w1 w') := ⟨fun w1 => by
    have hh := feed_any T x true [] s w1 h (by simpa using Nat.le_trans hs (by decide))
    rw [List.nil_append] at hh
    exact hh⟩
  have Hen : Away (∀ (k : Nat) (w1 : World), k ≤ 2000 → Calls Try.prog 36 #[.agg T, .agg (HX x true s.data.toList), .string ⟨(fixL k 4).toArray⟩] w1 fun e w' => e = .returned (.string ⟨(hx x true (s.data.toList ++ fixL k 4)).toArray⟩) ∧ Below w1.heap.size w1 w') := ⟨fun k w1 hk => by
    have hh := ended.ended_any T x true s.data.toList ⟨(fixL k 4).toArray⟩ w1 h (by
      show s.data.toList.length + (fixL k 4).toArray.size ≤ _
      rw [List.size_toArray, fixL_length]
      have e1 : s.data.toList.length = s.size := rfl
      omega)
    exact hh⟩
  have Hfx : Away (∀ (k : Nat) (w1 : World), k ≤ 2000 → Calls Try.prog 18 #[.int .u64 (k : Int), .int .i64 4] w1 fun e w' => e = .returned (.string ⟨(fixL k 4).toArray⟩) ∧ Below w1.heap.size w1 w') := ⟨fun k w1 hk => by
    have hh := fixed.fixed_any k 4 w1 (by omega)
    rw [show ((4 : Int)) = ((4 : Nat) : Int) from rfl, fixS_wd _ _ (by decide)] at hh
    exact hh⟩
  have Hmk : Away (∀ k, mk x true s.data.toList (k + 1) = mk x true s.data.toList k ++ hx x true (s.data.toList ++ fixL k 4)) := ⟨fun _ => rfl⟩
  have Hml : Away (∀ k, (mk x true s.data.toList k).length = 64 * k) := ⟨fun k => mk_length _ _ _ _⟩
  have Hxl : Away (∀ k, (hx x true (s.data.toList ++ fixL k 4)).length = 64) := ⟨fun k => hx_length _ _ _⟩
  have Hms : Away (ms x true s.data.toList n = (mk x true s.data.toList (((min n 50000).toNat + 63) / 64)).take n.toNat) := ⟨rfl⟩
  have Ds : Away ((HX x true s.data.toList).size = 19) := ⟨HX_size _ _ _⟩
  have Do : Away ((HX x true s.data.toList).all (·.oneCell') = true) := ⟨HX_one _ _ _⟩
  obtain ⟨C, hC⟩ : ∃ C, HX x true [] = C := ⟨_, rfl⟩
  obtain ⟨D, hD⟩ : ∃ D, HX x true s.data.toList = D := ⟨_, rfl⟩
  obtain ⟨M, hM⟩ : ∃ M, mk x true s.data.toList = M := ⟨_, rfl⟩
  obtain ⟨H, hH⟩ : ∃ H : Nat → List UInt8, (fun k => hx x true (s.data.toList ++ fixL k 4)) = H := ⟨_, rfl⟩
  have hH2 : ∀ k, hx x true (s.data.toList ++ fixL k 4) = H k := fun k => congrFun hH k
  obtain ⟨R, hR⟩ : ∃ R, ms x true s.data.toList n = R := ⟨_, rfl⟩
  rw [hC] at Hst Hfd
  rw [hD] at Hfd Hen Ds Do
  rw [hM] at Hmk Hml Hms
  simp only [hH2] at Hmk Hxl Hen
  rw [hR] at Hms ⊢
  clear hC hD hM hH hH2 hR h
  go_enter Try.func13, Try.ntmps13
  go_wp2_with fail
  obtain ⟨W, HW⟩ := ex_eq (w.alloc (.cells T 33))
  have E0 : Away (W.heap[w.heap.size]? = some (.cells T 33 (0, 0))) := ⟨by rw [← HW.out]; exact heap_at _ _ _ rfl⟩
  have zW : W.heap.size = w.heap.size + 1 := by rw [← HW.out]; simp
  have HbW : Away (Below w.heap.size w W) := ⟨by rw [← HW.out]; exact below_alloc w _⟩
  rw [HW.out]
  have HS : Away (∀ w' : World, Below W.heap.size W w' → w'.heap[w.heap.size]? = some (.cells T 33 (0, 0))) := ⟨fun w' hb => (hb.block _ (by omega)).trans E0.out⟩
  refine region_vary_lit 9 10 7 9 20 56 #[.bool false, .int .u32 0, .int .u32 0, .int .u32 0, .int .u32 0, .int .u32 0, .int .u32 0, .int .u32 0, .int .u32 0, .int .u64 0, .int .u64 0, .int .u64 0, .int .u64 0, .int .u64 0, .int .u64 0, .int .u64 0, .int .u64 0, .string ⟨#[]⟩, .int .i64 0] (by kernel_rfl) (by kernel_rfl) rfl (by kernel_rfl) rfl (fun ρ o w1 ho => by
    unfold execOp
    simp only [ho]
    go_simp
    rfl) (by simp) (fun ops HO => ?_)
  simp only [List.eraseIdx_cons_succ, List.eraseIdx_cons_zero]
  refine wpMild_load rfl 33 _ rfl _ rfl 33 _ _ HS.out Try.underlying33 rfl (by rw [HTs.out]; exact sizeT) ?_
  refine wpMild_load rfl 33 _ rfl _ rfl 33 _ _ HS.out Try.underlying33 rfl (by rw [HTs.out]; exact sizeT) ?_
  refine wpMild_pure rfl (.bool true) (fun w9 _ => by rfl) ?_
  refine wpMild_step rfl (fun K hK => ?_)
  go_simp
  apply Exists.intro
  refine ⟨fun w9 hw9 => ?_, hK _ ?_⟩
  exact Hst.out w9
  clear hK K
  refine wpMild_pure rfl (.string s) (fun w9 _ => by rfl) ?_
  refine wpMild_step rfl (fun K hK => ?_)
  go_simp
  apply Exists.intro
  refine ⟨fun w9 hw9 => ?_, hK _ ?_⟩
  exact Hfd.out w9
  clear hK K
  refine wpMild_pure rfl (.tuple #[.agg D, .int .i64 0]) (fun w9 _ => by rfl) ?_
  refine wpMild_pure rfl (.agg D) (fun w9 _ => by rfl) ?_
  refine wpMild_pure rfl (.int .i64 0) (fun w9 _ => by rfl) ?_
  refine wpMild_pure rfl (.int .i64 0) (fun w9 _ => by rfl) ?_
  refine ⟨D, rfl, ⟨by rw [Ds.out]; exact zHash, by rw [Ds.out]; rfl, Do.out⟩, fun p w1 hp hb hr => ?_⟩
  simp only [Act.put, List.setIfInBounds_toArray, List.set_cons_zero, List.set_cons_succ, vary.ptr]
  have H0 : Away (w1.heap[w.heap.size]? = some (.cells T 33 (0, 0))) := ⟨HS.out w1 hb⟩
  have Hr := Away.mk hr
  have hpl : p < w1.heap.size := lt_of_row hr
  have Hb : Away (Below w.heap.size w w1) := ⟨HbW.out.trans (hb.mono HbW.out.size)⟩
  have hfb := Lib.fresh_isBuilder 63 5 w1
  have Hfb : Away (Lib.IsBuilder 63 5 w1.heap.size w1.heap.size (Lib.byteCells (M 0)) (w1.alloc (.cells #[.pointer none, .slice none 0 0] 63))) := ⟨by
    have e0 : M 0 = [] := List.eq_nil_of_length_eq_zero ((Hml.out 0).trans (Nat.mul_zero _))
    rw [e0]; exact hfb⟩
  obtain ⟨N, hN⟩ : ∃ N, ((min n 50000).toNat + 63) / 64 = N := ⟨_, rfl⟩
  rw [hN] at Hms
  have hN2 : N ≤ 1600 := by omega
  clear hr hb hfb
  go_wp2_with fail
  go_loopw [12] (fun i wr => ∃ k : Nat, k ≤ N ∧ i = .int .u64 k ∧ Away (Lib.IsBuilder 63 5 w1.heap.size w1.heap.size (Lib.byteCells (M k)) wr) ∧ Away (Below w1.heap.size w1 wr) ∧ w1.heap.size ≤ wr.heap.size) (fun i _ => N - (intOf i).toNat)
  case atStart => exact ⟨0, Nat.zero_le _, rfl, ⟨Hfb.out⟩, ⟨(Below.refl _ _).alloc (Nat.le_refl _) _⟩, by simp⟩
  case round =>
    obtain ⟨k, hk, rfl, Hbd, Hbe, hz⟩ := hrel
    have Hlen : Away (Calls Try.prog 34 #[.pointer (some ⟨w1.heap.size, 0, none⟩)] wr fun e w' => e = .returned (.int .i64 ((64 * k : Nat) : Int)) ∧ w' = wr) := ⟨by
      have hh := shelf.builderLen w1.heap.size w1.heap.size _ wr Hbd.out
      rw [Lib.byteCells_length, Hml.out] at hh
      exact hh⟩
    have F0 : Away (wr.heap[w.heap.size]? = some (.cells T 33 (0, 0))) := ⟨(Hbe.out.block _ (lt_of_row H0.out)).trans H0.out⟩
    have F1 : Away (wr.heap[p]? = some (.cells D 56 (0, 0))) := ⟨(Hbe.out.block _ hpl).trans Hr.out⟩
    by_cases hlt : ((64 * k : Nat) : Int) < min n 50000
    · have hkN : k + 1 ≤ N := by omega
      have hd : decide (((64 * k : Nat) : Int) < min n 50000) = true := decide_eq_true hlt
      have HkN := Away.mk hkN
      have hk2 : k ≤ 1600 := by omega
      obtain ⟨q, hq⟩ : ∃ q : Nat, 64 * k = q := ⟨_, rfl⟩
      rw [hq] at Hlen hd hlt
      have Hmlk : Away ((M k).length = q) := ⟨(Hml.out k).trans hq⟩
      have hq2 : q ≤ 50000 := by omega
      clear hq hkN
      go_wp2_with fail
      refine Hlen.out.mono ?_
      rintro e w2 ⟨rfl, rfl⟩
      go_wp2_with fail
      refine region_below_tail 5 (by kernel_rfl) (by kernel_rfl) ?_
      refine wpQuiet_load rfl 33 _ rfl _ rfl 33 _ _ (fun w' hC => heap_regrown F0.out hC) Try.underlying33 rfl (by rw [HTs.out]; exact sizeT) ?_
      refine wpQuiet_load rfl 56 _ rfl _ rfl 56 _ _ (fun w' hC => heap_regrown F1.out hC) Try.underlying56 rfl (by rw [Ds.out]; exact zHash) ?_
      quiet_step (skip)
      quiet_step (exact Calls.regrown_of (Hfx.out k _ (by omega)))
      quiet_step (exact Calls.regrown_of (Hen.out k _ (by omega)))
      refine wpQuiet_nil ?_
      intro w3 hC
      have hb3 : Below w2.heap.size w2 w3 := by
        obtain ⟨pp, rfl⟩ := hC
        exact below_regrown _ _ _
      have Hb3 := Away.mk hb3
      have Hw : Away (Calls Try.prog 35 #[.pointer (some ⟨w1.heap.size, 0, none⟩), .string ⟨(H k).toArray⟩] w3 fun e w' => e = .returned (.tuple #[.int .i64 (⟨(H k).toArray⟩ : ByteArray).size, .nilIface]) ∧ (Lib.BuilderAt 63 5 w1.heap.size w1.heap.size (.pointer (some ⟨w1.heap.size, 0, none⟩)) (Lib.byteCells (M (k + 1))) w' ∧ Below w1.heap.size w3 w')) := ⟨by
        have hh := shelf.writeString w1.heap.size w1.heap.size (Lib.byteCells (M k)) ⟨(H k).toArray⟩ w3 (builder_later Hbd.out hb3) (by
          rw [Lib.byteCells_length, Hmlk.out]
          show q + (H k).toArray.size ≤ _
          rw [List.size_toArray, Hxl.out]
          omega) (Nat.le_trans hz hb3.size)
        rw [show Lib.strCells ⟨(H k).toArray⟩ = Lib.byteCells (H k) from rfl, ← Lib.byteCells_append, ← Hmk.out] at hh
        exact hh⟩
      have hz3 : w1.heap.size ≤ w3.heap.size := Nat.le_trans hz hb3.size
      clear hC hb3
      go_wp2_with fail
      refine Hw.out.mono ?_
      rintro e w4 ⟨rfl, hat, hb4⟩
      have Hat := Away.mk hat
      have Hb4 := Away.mk hb4
      have hz4 : w1.heap.size ≤ w4.heap.size := Nat.le_trans hz3 hb4.size
      clear hat hb4
      go_wp2_with fail
      go_roundw
      case rel => exact ⟨k + 1, HkN.out, by go_num, ⟨Or.inr Hat.out⟩, ⟨(Hbe.out.trans (Hb3.out.mono hz)).trans Hb4.out⟩, hz4⟩
      case measure => have := HkN.out; simp [intOf]; omega
    · obtain rfl : k = N := by omega
      have hd : decide (((64 * k : Nat) : Int) < min n 50000) = false := decide_eq_false hlt
      have hMl : (M k).length ≤ 102400 := by rw [Hml.out]; omega
      have Hst2 : Away (∀ w2, Lib.IsBuilder 63 5 w1.heap.size w1.heap.size (Lib.byteCells (M k)) w2 → w1.heap.size ≤ w2.heap.size → Calls Try.prog 37 #[.pointer (some ⟨w1.heap.size, 0, none⟩)] w2 fun e w' => e = .returned (.string ⟨(M k).toArray⟩) ∧ Below w1.heap.size w2 w') := ⟨fun w2 h1 h2 => shelf.toText w1.heap.size w1.heap.size (M k) w2 h1 h2⟩
      have Hct : Away (∀ w2 : World, Calls Try.prog 15 #[.string ⟨(M k).toArray⟩, .int .i64 n] w2 fun e w' => e = .returned (.string ⟨R.toArray⟩) ∧ Below w2.heap.size w2 w') := ⟨fun w2 => by
        rw [Hms.out]
        exact cut.cut_any ⟨(M k).toArray⟩ n w2 (by show (M k).toArray.size ≤ _; rw [List.size_toArray]; omega)⟩
      obtain ⟨q, hq⟩ : ∃ q : Nat, 64 * k = q := ⟨_, rfl⟩
      rw [hq] at Hlen hd hlt
      clear hq hMl
      go_wp2_with fail
      refine Hlen.out.mono ?_
      rintro e w2 ⟨rfl, rfl⟩
      go_wp2_with fail
      refine (Hst2.out _ Hbd.out hz).mono ?_
      rintro e w3 ⟨rfl, hb3⟩
      have hz3 : w1.heap.size ≤ w3.heap.size := Nat.le_trans hz hb3.size
      have Hb3 : Away (Below w1.heap.size w1 w3) := ⟨Hbe.out.trans hb3⟩
      clear hb3
      go_wp2_with fail
      refine (Hct.out _).mono ?_
      rintro e w4 ⟨rfl, hb4⟩
      have Hb4 : Away (Below w.heap.size w w4) := ⟨Hb.out.trans ((Hb3.out.trans (hb4.mono hz3)).mono Hb.out.size)⟩
      clear hb4
      go_wp2_with fail
      go_ret
      exact ⟨rfl, Hb4.out⟩

theorem mask_any (T : Array Value) (x : Wd) (b : Bool) (s : ByteArray) (n : Int) (w : World) (h : TX T x) (hs : s.size ≤ 274877906944) :
    Calls Try.prog 13 #[.agg T, .bool b, .string s, .int .i64 n] w fun e w' => e = .returned (.string ⟨(ms x b s.data.toList n).toArray⟩) ∧ Below w.heap.size w w' := by
  cases b
  · exact mask_false T x s n w h hs
  · exact mask_true T x s n w h hs
end Go.Proofs.Ythfljfampfioaaa.mask
