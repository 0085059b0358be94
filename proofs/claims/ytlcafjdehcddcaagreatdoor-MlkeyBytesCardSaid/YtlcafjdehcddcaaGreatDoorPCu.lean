/-
  The contract of the library's Clone at this seat's numbers: one application of the library's own theorem. Conditions: as it says. What mac.Cut returns, for any string and number: the first bytes. Conditions: none but that the string's length fits an int.
-/
import Derived.Test.YtlcafjdehcddcaaGreatDoorProg
import Derived.Test.YtlcafjdehcddcaaGreatDoorBas
import Derived.Shelf.LaysM
import Derived.Shelf.Strconv.Clone
import Derived.Lib.MinMax
namespace Go.Proofs.YtlcafjdehcddcaaGreatDoor
namespace shelfc
open Go.Shelf
def lays316_ren : Go.Shelf.Ren := ⟨fun | 316 => 96 | n => n, fun | 0 => 0 | 3 => 3 | 4 => 4 | 5 => 5 | 9 => 9 | 37 => 78 | 127 => 138 | n => n, fun | n => n⟩
theorem lays316 : Go.Proofs.LaysM.n316 Tryz.prog lays316_ren := {
 mixed := by kernel_rfl
 f316 := Tryz.func96.trans (congrArg some (by kernel_rfl))
 t0 := Tryz.underlying0
 a0 := Tryz.isAgg0
 z0 := Tryz.sizeOf0
 v0 := Tryz.zeroValue0
 t3 := Tryz.underlying3
 a3 := Tryz.isAgg3
 z3 := Tryz.sizeOf3
 v3 := Tryz.zeroValue3
 t4 := Tryz.underlying4
 a4 := Tryz.isAgg4
 z4 := Tryz.sizeOf4
 v4 := Tryz.zeroValue4
 t9 := Tryz.underlying9
 a9 := Tryz.isAgg9
 z9 := Tryz.sizeOf9
 v9 := Tryz.zeroValue9
 t37 := Tryz.underlying78
 a37 := Tryz.isAgg78
 z37 := Tryz.sizeOf78
 v37 := Tryz.zeroValue78
 t127 := Tryz.underlying138
 a127 := Tryz.isAgg138
 z127 := Tryz.sizeOf138
 v127 := Tryz.zeroValue138
 t5 := Tryz.underlying5
 a5 := Tryz.isAgg5
 z5 := Tryz.sizeOf5
 v5 := Tryz.zeroValue5
 i0 := by kernel_rfl
 i3 := by kernel_rfl
 i4 := by kernel_rfl
 i5 := by kernel_rfl
 i9 := by kernel_rfl
 i37 := by kernel_rfl
 i127 := by kernel_rfl }
open Go.RowKit in
theorem clone (s : ByteArray) (w : World) (hlim : s.size ≤ 281474976710656) :
 Calls Tryz.prog 96 #[.string s] w fun e w' => e = .returned (.string s) ∧ Below w.heap.size w w' := Any.stringslite_Clone lays316 s w hlim
end shelfc
namespace pcut
open Go.RowKit
open oct arr
theorem cut_bytes (s : ByteArray) (m n : Nat) (h : m = min n s.size) : s.extract 0 m = ⟨(s.data.toList.take n).toArray⟩ := by
 subst h
 apply ByteArray.ext
 apply Array.toList_inj.1
 have hs : s.data.toList.length = s.size := rfl
 have h1 : (s.extract 0 (min n s.size)).data.toList = s.data.toList.take (min n s.size) := by simp
 have h2 : min n s.size = min n s.data.toList.length := rfl
 rw [h1, h2, ← List.take_eq_take_min]
set_option maxRecDepth 100000 in
set_option maxHeartbeats 1000000 in
theorem sclone (x : ByteArray) (w : World) (h : x.size ≤ 281474976710656) : Calls Tryz.prog 55 #[.string x] w fun e w' => e = .returned (.string x) ∧ Below w.heap.size w w' := by
 have H := Away.mk (fun w1 : World => shelfc.clone x w1 h)
 clear h
 go_enter Tryz.func55, Tryz.ntmps55
 go_wp2_with fail
 refine (H.out _).mono ?_
 rintro e w1 ⟨rfl, hb⟩
 go_wp2_with fail
 go_ret
 exact ⟨rfl, hb⟩
set_option maxRecDepth 100000 in
set_option maxHeartbeats 1000000 in
theorem cut_any (s : ByteArray) (n : Int) (w : World) (hs : s.size ≤ 140737488355328) :
 Calls Tryz.prog 15 #[.string s, .int .i64 n] w fun e w' => e = .returned (.string ⟨(s.data.toList.take n.toNat).toArray⟩) ∧ Below w.heap.size w w' := by
 have hc := cut_bytes s _ n.toNat rfl
 rw [← hc]
 clear hc
 obtain ⟨m, hm⟩ : ∃ m, min n.toNat s.size = m := ⟨_, rfl⟩
 have h1 : min (max n 0) (s.size : Int) = (m : Int) := by omega
 have h2 : min (s.size : Int) (max n 0) = (m : Int) := by omega
 have h3 : m ≤ s.size := by omega
 rw [hm]
 have Hcl := Away.mk (fun w1 : World => sclone (s.extract 0 m) w1 (by rw [ByteArray.size_extract]; omega))
 clear hm
 go_enter Tryz.func15, Tryz.ntmps15
 go_wp2_with fail
 refine (Hcl.out _).mono ?_
 rintro e w1 ⟨rfl, hb⟩
 go_wp2_with fail
 go_ret
 exact ⟨rfl, hb⟩
end pcut
end Go.Proofs.YtlcafjdehcddcaaGreatDoor
