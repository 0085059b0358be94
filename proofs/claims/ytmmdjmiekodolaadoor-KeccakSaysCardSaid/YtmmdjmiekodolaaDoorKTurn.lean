/-
  What keccak's own turn does: the state behind the first pointer becomes the second's, each lane turned by the amount of its index and moved; all other memory that was there stays as it was. Conditions: both have 25 words, the second's have 64 bits, the amounts are not negative, the first lies in another block than the others, and the package's variable 'places' holds what the program's text lays there.
-/
import Derived.Test.YtmmdjmiekodolaaDoorRol
import Derived.Test.YtmmdjmiekodolaaDoorKecB
namespace Go.Proofs.YtmmdjmiekodolaaDoor.kturn
open Go.RowKit
open Go.Proofs.YtmmdjmiekodolaaDoor.arr Go.Proofs.YtmmdjmiekodolaaDoor.mem Go.Proofs.YtmmdjmiekodolaaDoor.kecm Go.Proofs.YtmmdjmiekodolaaDoor.kecb

/-- where the lanes come to -/
def PL : List Nat := [0, 10, 20, 5, 15, 16, 1, 11, 21, 6, 7, 17, 2, 12, 22, 23, 8, 18, 3, 13, 14, 24, 9, 19, 4]
theorem pl_dst : ∀ k : Fin 25, PL.getD k.val 0 = dst k.val := by decide
/-- the variable 'places' -/
def Gp (w : World) : Prop := ∃ t, w.heap[0]? = some (.cells (LK .i64 PL) t (0, 0))
theorem gp_lt {w : World} (h : Gp w) : 0 < w.heap.size := by
  obtain ⟨t, h⟩ := h
  exact lt_of_row h
theorem Gp.later {w w' : World} (h : Gp w) (hb : Below w.heap.size w w') : Gp w' := by
  have hl := gp_lt h
  obtain ⟨t, h⟩ := h
  exact ⟨t, (hb.block _ hl).trans h⟩
theorem Gp.at {w w' : World} {g : Nat} {C : Array Value} {t : TypeId} (h : Gp w) (hb : At g C t w w') (hg : g ≠ 0) : Gp w' := by
  have hl := gp_lt h
  obtain ⟨tt, h⟩ := h
  exact ⟨tt, hb.other hl (Ne.symm hg) h⟩
/-- a lane that is turned and moved -/
def tl (ts a : List Nat) (j : Nat) : Nat := rol (g a (src j)) (ts.getD (src j) 0 % 64)
theorem turn_is (ts a : List Nat) : turnL (fun i => ts.getD i 0) a = mkS (tl ts a) := rfl

set_option maxRecDepth 100000 in
set_option maxHeartbeats 4000000 in
theorem turn_any (gt ga gu o : Nat) (D a ts : List Nat) (w : World) (hD : D.length = 25) (h : St a) (ht : ∀ i, ts.getD i 0 < 9223372036854775808) (hP : Gp w)
    (hT : w.heap[gt]? = some (.cells (LK .u64 D) 23 (0, 0))) (hA : w.heap[ga]? = some (.cells (LK .u64 a) 23 (0, 0)))
    (hU : ∀ i, i < 25 → w.cell? ⟨gu, o + i, none⟩ = some (.int .i64 ((ts.getD i 0 : Nat) : Int))) (hga : ga ≠ gt) (hgu : gu ≠ gt) (hgl : gu < w.heap.size) :
    Calls Tryd.prog 28 #[.pointer (some ⟨gt, 0, none⟩), .pointer (some ⟨ga, 0, none⟩), .pointer (some ⟨gu, o, none⟩)] w fun e w' => e = .returned (.tuple #[]) ∧ At gt (LK .u64 (turnL (fun i => ts.getD i 0) a)) 23 w w' := by
  rw [turn_is]
  have H := Away.mk h
  have HA := Away.mk hA
  have HT := Away.mk hT
  have HD := Away.mk hD
  have HU := Away.mk hU
  have Ht := Away.mk ht
  have Hga := Away.mk hga
  have Hgu := Away.mk hgu
  have Hgl := Away.mk hgl
  have Hal := Away.mk (lt_of_row hA)
  obtain ⟨tp, hP1⟩ := hP
  have hpl : ∀ k, k < 25 → PL.getD k 0 = dst k := fun k hk => pl_dst ⟨k, hk⟩
  have hpz : PL.length = 25 := rfl
  obtain ⟨PV, HPV⟩ := ex_eq PL
  rw [HPV.out] at hP1 hpl hpz
  have HP := Away.mk hP1
  have Hpl := Away.mk hpl
  have Hpz := Away.mk hpz
  have Hps : Away ((Tryd.prog.info? 30).map (·.size) = some (LK .i64 PV).size) := ⟨by rw [lk_size, hpz]; kernel_rfl⟩
  clear h hA hT hD hU ht hga hgu hgl hP1 hpl hpz HPV
  go_enter Tryd.func28, Tryd.ntmps28
  go_wp2_with (refine wpList_load_row rfl 30 _ rfl 0 rfl tp _ (0, 0) _ HP.out Tryd.underlying30 rfl Hps.out ?_)
  go_loopw [9] (fun i wr => ∃ k : Nat, k ≤ 25 ∧ i = .int .i64 (k : Int) ∧ Away (At gt (LK .u64 (kecm.part src (tl ts a) (g D) k)) 23 w wr)) (fun i _ => 25 - (intOf i).toNat)
  case atStart =>
    refine ⟨0, by decide, rfl, ⟨?_⟩⟩
    rw [part_zero, mkS_eta HD.out]
    exact At.refl HT.out
  case round =>
    obtain ⟨k, hk, rfl, HR⟩ := hrel
    by_cases hlt : k < 25
    · have hag : ∀ w : World, (Instr.index 30 (.agg (LK .i64 PV)) (.int .i64 (k : Int))).run Tryd.prog w = .ok (.int .i64 ((dst k : Nat) : Int)) w := fun w =>
        index_row Tryd.underlying30 (by kernel_rfl) (by kernel_rfl) (by kernel_rfl) _ _ k hlt (by rw [lk_get _ _ _ (by rw [Hpz.out]; exact hlt), Hpl.out k hlt]) w
      obtain ⟨j, hj⟩ : ∃ j, dst k = j := ⟨_, rfl⟩
      rw [hj] at hag
      have hj25 : j < 25 := hj ▸ dst_lt k hlt
      have hjz : (j : Int) < 25 := by omega
      have hkz : (k : Int) < 25 := by omega
      have hsj : src j = k := hj ▸ src_dst ⟨k, hlt⟩
      obtain ⟨x, hx⟩ : ∃ x, g a k = x := ⟨_, rfl⟩
      have bx : x < 18446744073709551616 := hx ▸ H.out.lt k
      obtain ⟨t, htt⟩ : ∃ t, ts.getD k 0 = t := ⟨_, rfl⟩
      have bt : t < 9223372036854775808 := htt ▸ Ht.out k
      have cx := lane_at H.out.len (HR.out.other Hal.out Hga.out HA.out) k x hlt hx
      have ct : wr.cell? ⟨gu, o + k, none⟩ = some (.int .i64 (t : Int)) := by
        have h1 := HU.out k hlt
        rw [htt] at h1
        rw [← h1]
        unfold World.cell?
        rw [HR.out.block gu Hgl.out Hgu.out]
      have HS : Away ((LK .u64 (kecm.part src (tl ts a) (g D) k)).setIfInBounds j (.int .u64 ((rol x (t % 64) : Nat) : Int)) = LK .u64 (kecm.part src (tl ts a) (g D) (k + 1))) := ⟨part_lane j _ hj25 hsj (fun i hi e => by have := dst_src ⟨i, hi⟩; simp only at this; rw [← this, e, hj]) (by rw [tl, hsj, hx, htt])⟩
      clear hsj hx htt hj
      go_wp2_with fail
      refine still_tail 15 (by kernel_rfl) (by kernel_rfl) ?_
      simp only [List.take_succ_cons, List.take_zero, List.drop_succ_cons, List.drop_zero]
      repeat still_step
      still_call (rols.rotl_any x t _ bx bt)
      repeat still_step
      refine wpStill_nil ?_
      have HR1 : Away (At gt (LK .u64 (kecm.part src (tl ts a) (g D) k)) 23 w wr.drew) := ⟨at_drew HR.out⟩
      clear cx ct
      with_reducible refine wpList_put2 HR1 rfl _ _ _ rfl rfl ?_
      refine ⟨_, _, _, rfl, rfl, rfl, by rw [lk25 _ (part_len _ _ _ _)]; exact hj25, ?_⟩
      intro wn HRn
      rw [HS.out] at HRn
      clear hag HS HR1
      go_wp2_with fail
      go_roundw
      case rel => exact ⟨k + 1, by omega, by go_num, HRn⟩
      case measure => simp [intOf]; omega
    · obtain rfl : k = 25 := by omega
      simp only [Int.cast_ofNat_Int]
      go_wp2_with fail
      refine bodyPost_end (v := .tuple #[]) (results_none rfl _ _ _) rfl ?_
      have h := HR.out
      rw [part_all _ _ _ _ (fun i hi => src_lt i hi)] at h
      exact ⟨rfl, h⟩
end Go.Proofs.YtmmdjmiekodolaaDoor.kturn
