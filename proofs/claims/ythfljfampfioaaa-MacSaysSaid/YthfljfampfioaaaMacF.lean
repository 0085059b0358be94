/-
  What sha.Start, Feed and End return, for both hash functions alike: a hasher is told by the string that it was fed with. Conditions: the tables hold the words, the strings have together at most 2^39 bytes.
-/
import Derived.Test.YthfljfampfioaaaMacM
import Derived.Test.YthfljfampfioaaaFeedB
namespace Go.Proofs.Ythfljfampfioaaa.macf
open Go.RowKit
open Go.Proofs.Ythfljfampfioaaa.oct Go.Proofs.Ythfljfampfioaaa.mem Go.Proofs.Ythfljfampfioaaa.arr Go.Proofs.Ythfljfampfioaaa.sham Go.Proofs.Ythfljfampfioaaa.thru Go.Proofs.Ythfljfampfioaaa.hashs Go.Proofs.Ythfljfampfioaaa.macm

/-- what is left of A behind its whole blocks -/
def rest (b : Bool) (A : List UInt8) : ByteArray := ⟨(A.drop (bN b * (A.length / bN b))).toArray⟩
/-- a hasher that was fed with A -/
def HX (x : Wd) (b : Bool) (A : List UInt8) : Array Value :=
  if b then HC true V0 (run64 x.k6 x.s6 A (A.length / 128)) (rest true A) (A.length : Int) else HC false (run32 x.k3 x.s3 A (A.length / 64)) V0 (rest false A) (A.length : Int)
theorem hx_false (x : Wd) (A : List UInt8) : HX x false A = HC false (run32 x.k3 x.s3 A (A.length / 64)) V0 (rest false A) (A.length : Int) := rfl
theorem hx_true (x : Wd) (A : List UInt8) : HX x true A = HC true V0 (run64 x.k6 x.s6 A (A.length / 128)) (rest true A) (A.length : Int) := rfl
theorem HX_size (x : Wd) (b : Bool) (A : List UInt8) : (HX x b A).size = 19 := by cases b <;> rfl
theorem HX_one (x : Wd) (b : Bool) (A : List UInt8) : (HX x b A).all (·.oneCell') = true := by cases b <;> exact hc_one _ _ _ _ _
theorem rest_is (b : Bool) (A : List UInt8) (r : ByteArray) (h : r.data.toList = A.drop (bN b * (A.length / bN b))) : r = rest b A := by
  apply ByteArray.ext
  apply Array.toList_inj.1
  rw [h, rest]

theorem start_any (T : Array Value) (x : Wd) (b : Bool) (w : World) (h : TX T x) :
    Calls Try.prog 33 #[.agg T, .bool b] w fun e w' => e = .returned (.agg (HX x b [])) ∧ Below w.heap.size w w' := by
  cases b
  · exact feed.newhash32 T x.k3 x.k6 x.s3 x.s6 w h
  · exact feed.newhash64 T x.k3 x.k6 x.s3 x.s6 w h
theorem feed_any (T : Array Value) (x : Wd) (b : Bool) (A : List UInt8) (s : ByteArray) (w : World) (h : TX T x) (hA : A.length + s.size ≤ 549755813888) :
    Calls Try.prog 32 #[.agg T, .agg (HX x b A), .string s] w fun e w' => e = .returned (.tuple #[.agg (HX x b (A ++ s.data.toList)), .int .i64 0]) ∧ Below w.heap.size w w' := by
  cases b
  · refine (feedb.feed_any32 T x.k3 x.k6 x.s3 x.s6 A (rest false A) s w h rfl hA).mono ?_
    rintro e w' ⟨⟨r, rfl, hr⟩, hb⟩
    exact ⟨by rw [rest_is false _ r hr, hx_false], hb⟩
  · refine (feedb.feed_any64 T x.k3 x.k6 x.s3 x.s6 A (rest true A) s w h rfl hA).mono ?_
    rintro e w' ⟨⟨r, rfl, hr⟩, hb⟩
    exact ⟨by rw [rest_is true _ r hr, hx_true], hb⟩
theorem end_any (T : Array Value) (x : Wd) (b : Bool) (A : List UInt8) (w : World) (h : TX T x) (hA : A.length ≤ 549755813888) :
    Calls Try.prog 58 #[.agg T, .agg (HX x b A)] w fun e w' => e = .returned (.tuple #[.string ⟨(hx x b A).toArray⟩, .int .i64 0]) ∧ Below w.heap.size w w' := by
  cases b
  · exact feed.ended32 T x.k3 x.k6 x.s3 x.s6 A (rest false A) w h rfl hA
  · exact feed.ended64 T x.k3 x.k6 x.s3 x.s6 A (rest true A) w h rfl hA
end Go.Proofs.Ythfljfampfioaaa.macf
