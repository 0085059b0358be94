/-
  MlkeyBytes where the string has at most 5000 bytes: keys of any polynomials as bytes, and any bytes as keys, agree with the reference. Conditions: keccak's variable 'places' holds what the program's text lays there.
-/
import Derived.Test.YtlcafjdehcddcaaGreatDoorKeE
import Derived.Test.YtlcafjdehcddcaaGreatDoorKeD
import Derived.Test.YtlcafjdehcddcaaGreatDoorFk
import Derived.Test.YtlcafjdehcddcaaGreatDoorFSc
import Derived.Test.YtlcafjdehcddcaaGreatDoorQB
import Derived.Deep.RegionHeld
import Derived.Lib.MinMax
import Derived.OwnWalk
import Derived.WalkMore
import Derived.Maps.AppendAt
import Derived.Great.BuildSlice
namespace Go.Proofs.YtlcafjdehcddcaaGreatDoor.kby
set_option linter.unusedSimpArgs false
open Go Go.RowKit
open Go.Proofs.YtlcafjdehcddcaaGreatDoor.arr Go.Proofs.YtlcafjdehcddcaaGreatDoor.mem Go.Proofs.YtlcafjdehcddcaaGreatDoor.stil Go.Proofs.YtlcafjdehcddcaaGreatDoor.polys Go.Proofs.YtlcafjdehcddcaaGreatDoor.polt Go.Proofs.YtlcafjdehcddcaaGreatDoor.pols Go.Proofs.YtlcafjdehcddcaaGreatDoor.saml Go.Proofs.YtlcafjdehcddcaaGreatDoor.helda Go.Proofs.YtlcafjdehcddcaaGreatDoor.kturn Go.Proofs.YtlcafjdehcddcaaGreatDoor.lsl11 Go.Proofs.YtlcafjdehcddcaaGreatDoor.rbitb Go.Proofs.YtlcafjdehcddcaaGreatDoor.qsec Go.Proofs.YtlcafjdehcddcaaGreatDoor.kbo
def Apart (a b : Value) : Prop := ∀ k, a.ownBlock = some k → b.ownBlock ≠ some k
theorem Apart.symm {a b : Value} (h : Apart a b) : Apart b a := fun k h1 h2 => h k h2 h1
theorem Apart.kept {w w' : World} {B e sz n : Nat} {x y : Value} {ys : List Value} (h : w.ownsRow B e sz y n ys) (hap : Apart x y) (hg : w.grownBy w' x.ownBlock) : w'.ownsRow B e sz y n ys :=
 h.kept hg (by
  cases hy : y.ownBlock with
  | none => exact Or.inl rfl
  | some k => exact Or.inr fun h1 => hap k h1.symm hy)
theorem Apart.next {w : World} {B e sz n m : Nat} {x x' y : Value} {ys : List Value} (h : w.ownsRow B e sz y n ys) (hap : Apart x y) (hb : x'.ownBlock = x.ownBlock ∨ x'.ownBlock = some m) (hm : w.heap.size ≤ m) : Apart x' y := fun k hk hy => by
 rcases hb with h1 | h1
 ·exact hap k (by rw [← h1]; exact hk) hy
 ·rw [h1] at hk
  injection hk with hk
  have := (h.lt k hy).2
  omega
theorem nil_apart (b : Value) : Apart (.slice none 0 0) b := fun k h => by simp [Value.ownBlock] at h
theorem own_other {w w' : World} {B e sz n g : Nat} {v : Value} {xs : List Value} {C : Array Value} {t : TypeId} (h : w.ownsRow B e sz v n xs) (hA : At g C t w w') (hg : g < B) : w'.ownsRow B e sz v n xs := by
 refine ⟨h.1, ?_⟩
 rcases h.2 with h2 | ⟨g', cap, cur, h1, h2, h3, r⟩
 ·exact Or.inl h2
 ·exact Or.inr ⟨g', cap, cur, h1, h2, (hA.block g' (lt_of_row h3) (by omega)).trans h3, r⟩
section
variable {P : Program} {Q : Exit → Act → World → Prop}
theorem hk_begin_all {id : Nat} {a : Act} {w : World} {l : List Oper} (n : Nat) (ks : List Nat) (hm : P.follows .mixedOrders = true) (hn : l.length = n) (hz : ks.length = n) (hall : ks.all (fun k => decide (k < n)) = true)
 (h : ∀ ops : Array Oper, Away (l.toArray = ops) → HK P ops Q (fun _ => True) (Array.replicate n false) (ks.filterMap fun k => l[k]?) ks a w.drew) : (Code.region id l.toArray true).wp P Q a w := by
 subst hn
 obtain ⟨h1, h2⟩ := order_is l ks hall
 refine wp_region_held_drew (S := fun _ => True) hm trivial fun _ => ?_
 have h3 := h _ ⟨rfl⟩ h1
 rw [h2, hz] at h3
 exact h3
end
theorem own_sl {w : World} {B e m : Nat} {v : Value} {q : Nat → Nat → Int} (h : w.ownsRow B e 256 v m (cq q m)) (h0 : m = 0 → v = .slice none 0 0) (h8 : m ≤ 8) : SL w v m q := by
 by_cases hm : m = 0
 ·exact Or.inl ⟨hm, h0 hm⟩
 ·exact sl_own (by omega) h8 h
theorem wp_put1 {P : Program} {Q : Exit → Act → World → Prop} {K : Act → World → Prop} {o : Oper} {a : Act} {w0 w : World} {g : Nat} {C : Array Value} {t : TypeId} (H : Away (At g C t w0 w)) (ty : TypeId) (x y : Operand) (ho : o.op = .store ty x y)
 (n : Nat) (v : Value) (hx : a.eval x = .pointer (some ⟨g, n, none⟩)) (hy : a.eval y = v) (hi : (P.info? ty).map (·.size) = some 1) (h1 : v.oneCell' = true) (hn : n < C.size) (hd : o.dst = none)
 (h : ∀ w', Away (At g (C.setIfInBounds n v) t w0 w') → K a w') : o.wp P a w K Q := by
 unfold Oper.wp execOp
 simp only [ho, hx, hy, Instr.storeAt, Instr.sureAddr, Sem.run_bind, Sem.run_pure, Result.andThen_ok, run_storeVar_lane w g n t ty C v H.out.row hi h1 hn]
 have h2 := h _ ⟨at_put H.out n v⟩
 show K (a.put o.dst undef) _
 rw [hd]
 exact h2
theorem wp_app {o : Oper} {a : Act} {w : World} {K : Act → World → Prop} {Q : Exit → Act → World → Prop} (s x : Operand) (ho : o.op = .call { callee := .builtin .append, args := #[s, x], argTypes := #[45, 45] })
 (B : Nat) (v : Value) (n : Nat) (xs : List Value) (hs : a.eval s = v) (hown : w.ownsRow B 25 256 v n xs) (E : Array Value) (hE : E.size = 256) (hE1 : E.all (·.oneCell') = true) (hx : a.eval x = .slice (some ⟨w.heap.size, 0, none⟩) 1 1) (hn : n ≤ 100) (hB : B ≤ w.heap.size)
 (h : ∀ v' w', w'.ownsRow B 25 256 v' (n + 1) (xs ++ E.toList) → (w.alloc (.cells E 25)).grownBy w' v.ownBlock → (v'.ownBlock = v.ownBlock ∨ v'.ownBlock = some (w.alloc (.cells E 25)).heap.size) → K (a.put o.dst v') w') : o.wp Tryz.prog a (w.alloc (.cells E 25)) K Q := by
 obtain ⟨i0, hi, hz0, hz1, hz2⟩ := parts infoPoly
 obtain ⟨v', w', hr, h2, h3, -, h5⟩ := run_append_own_at (P := Tryz.prog) (w.alloc (.cells E 25)) B 45 o.type 25 i0 _ 256 2048 Tryz.underlying45 hi hz0 hz1 hz2 (fl_size _ _ _) (by decide) v n xs (hown.alloc _) ⟨w.heap.size, 0, none⟩ 1 1 E.toList (by rw [Array.length_toList, hE]) (fun j u hu => cell_at_new hu) (fun u hu => all_one hE1 u hu) (by unfold maxLen; omega) (by omega) (by rw [size_alloc]; omega)
 unfold Oper.wp execOp
 simp only [ho, resolve, invoke, builtin, Sem.run_bind, Sem.run_pure, Result.andThen_ok, List.map_toArray, List.map_cons, List.map_nil, hs, hx, hr]
 exact h v' w' h2 h3 h5
set_option maxRecDepth 100000 in
set_option maxHeartbeats 16000000 in
theorem near (k l e t a b o s : Int) (sd : ByteArray) (f : Nat → Int) (w : World) (hsd : sd.size ≤ 5000) (hP : Gp w) :
 Calls Tryz.prog 4 #[.agg #[.int .i64 k, .int .i64 l, .int .i64 e, .int .i64 t, .int .i64 a, .int .i64 b, .int .i64 o, .int .i64 s], .string sd, .agg (FL .i64 256 f)] w fun e w' => e = .returned (.bool true) ∧ Below w.heap.size w w' := by
 have HP := Away.mk hP
 have HA := Away.mk (fun w1 hg => kaw.awake_any w1 hg)
 obtain ⟨m0, hm0⟩ := Int.eq_ofNat_of_zero_le (a := max 0 (min k 8)) (by omega)
 obtain ⟨m2, hm2⟩ := Int.eq_ofNat_of_zero_le (a := max 0 (min l 8)) (by omega)
 have hm08 : m0 ≤ 8 := by omega
 have hm28 : m2 ≤ 8 := by omega
 obtain ⟨sc, hsc⟩ := ex_eq (fun (i : Nat) (j : Nat) => (f j * (i : Int)) % 8380417)
 have HSl0 : ∀ (i : Nat) (w1 : World), Calls Tryz.prog 14 #[.agg (FL .i64 256 f), .int .i64 (i : Int)] w1 fun x w' => x = .returned (.agg (FL .i64 256 (sc i))) ∧ Below w1.heap.size w1 w' := fun i w1 => by
  rw [← hsc.out]
  exact fscale.scale_any f i w1
 have hcl1 : ∀ n, ∃ y : ByteArray, ∀ w1 : World, Calls Tryz.prog 15 #[.string sd, .int .i64 n] w1 fun e w' => e = .returned (.string y) ∧ Below w1.heap.size w1 w' := fun n => ⟨_, fun w1 => pcut.cut_any sd n w1 (by omega)⟩
 obtain ⟨h32, HC32⟩ := hcl1 32
 obtain ⟨h128, HC128⟩ := hcl1 128
 obtain ⟨xa, ca, HPb0⟩ := pb_both k l e t a b o s h32 m0 (fun _ => f) hm0
 obtain ⟨xb, cb, HSb0⟩ := sb_both k l e t a b o s h128 m0 m2 (fun _ => f) (fun _ => f) sc hm0 hm2
 obtain ⟨xu, cu, mu, qu, HPu0⟩ := pu_both k l e t a b o s sd
 obtain ⟨xs, cs, ns, mss, qss, hns, HSe0⟩ := se_both k l e t a b o s sd
 obtain ⟨L, HL⟩ := ex_eq (#[.int .i64 k, .int .i64 l, .int .i64 e, .int .i64 t, .int .i64 a, .int .i64 b, .int .i64 o, .int .i64 s] : Array Value)
 have HLK : Away (L[0]? = some (.int .i64 k)) := ⟨by rw [← HL.out]; rfl⟩
 have HLL : Away (L[1]? = some (.int .i64 l)) := ⟨by rw [← HL.out]; rfl⟩
 have HLz : Away ((Tryz.prog.info? 23).map (·.size) = some L.size) := ⟨by rw [← HL.out]; kernel_rfl⟩
 simp only [HL.out] at HPb0 HSb0 HPu0 HSe0 ⊢
 obtain ⟨i0, hi0, hz0, hz1, hz2⟩ := parts infoPoly
 obtain ⟨hz, hsize⟩ := zero_of_info polt.infoP
 obtain ⟨z, HZ⟩ := ex_eq (FL .i64 256 fun _ => 0)
 rw [HZ.out] at hz hz0
 have HI := Away.mk (And.intro hi0 (And.intro hz0 (And.intro hz1 hz2)))
 have Hzs : Away (z.size = 256) := ⟨by rw [← HZ.out]; exact fl_size _ _ _⟩
 have Hzc : Away ((Value.agg z).cells.size = 256) := ⟨Hzs.out⟩
 have Hsize := Away.mk hsize
 obtain ⟨F, HFf⟩ := ex_eq (FL .i64 256 f)
 simp only [HFf.out] at HSl0 ⊢
 have Fs : Away (F.size = 256) := ⟨by rw [← HFf.out]; exact fl_size _ _ _⟩
 have Fo : Away (F.all (·.oneCell') = true) := ⟨by rw [← HFf.out]; exact fl_one _ _ _⟩
 have Fi : Away ((Tryz.prog.info? 25).map (·.size) = some F.size) := ⟨by rw [Fs.out]; exact hsize⟩
 have HSl := Away.mk HSl0
 have H32 := Away.mk HC32
 have H128 := Away.mk HC128
 have HPb := Away.mk HPb0
 have HSb := Away.mk HSb0
 have HPu := Away.mk HPu0
 have HSe := Away.mk HSe0
 obtain ⟨W0, hW0⟩ : ∃ x, (w.alloc (.cells L 23)).alloc (.cells F 25) = x := ⟨_, rfl⟩
 obtain ⟨r0, r1, hWs, b0⟩ := polt.two hW0
 have LB : Away (∀ w' : World, Below W0.heap.size W0 w' → w'.heap[w.heap.size]? = some (.cells L 23 (0, 0))) := ⟨fun w' hb => (hb.block _ (by rw [hWs]; omega)).trans r0⟩
 have XB : Away (∀ w' : World, Below W0.heap.size W0 w' → w'.heap[w.heap.size + 1]? = some (.cells F 25 (0, 0))) := ⟨fun w' hb => (hb.block _ (by rw [hWs]; omega)).trans r1⟩
 have B0 : Away (Below w.heap.size w W0) := ⟨b0⟩
 have GP : Away (∀ w' : World, Below W0.heap.size W0 w' → Gp w') := ⟨fun w' hb => HP.out.later (b0.trans (hb.mono b0.size))⟩
 have HW0 := Away.mk hW0
 obtain ⟨W1, hW1⟩ : ∃ x, W0.alloc (.cells #[.slice none 0 0, .slice none 0 0, .slice none 0 0] 50) = x := ⟨_, rfl⟩
 obtain ⟨r2, hs2, b2⟩ := polt.one hW1
 have R1 : Away (W1.heap[W0.heap.size]? = some (.cells #[.slice none 0 0, .slice none 0 0, .slice none 0 0] 50 (0, 0))) := ⟨r2⟩
 have D1 : Away (Below W0.heap.size W0 W1) := ⟨b2⟩
 have Z1 : Away (W0.heap.size + 1 ≤ W1.heap.size) := ⟨by rw [hs2]; exact Nat.le_refl _⟩
 have HW1 := Away.mk hW1
 have cK : W1.cell? ⟨w.heap.size, 0, none⟩ = some (.int .i64 k) := cell_at (LB.out _ b2) HLK.out
 have hz5 : ¬ (5000 : Int) < (sd.size : Int) := by omega
 have x1 : max 0 (min 8 k) = (m0 : Int) := by omega
 have x2 : max (min k 8) 0 = (m0 : Int) := by omega
 have x3 : max (min 8 k) 0 = (m0 : Int) := by omega
 have y1 : max 0 (min 8 l) = (m2 : Int) := by omega
 have y2 : max (min l 8) 0 = (m2 : Int) := by omega
 have y3 : max (min 8 l) 0 = (m2 : Int) := by omega
 clear hP hW0 r0 r1 hWs b0 hW1 r2 hs2 b2 hsc HSl0 HC32 HC128 hcl1 HPb0 HSb0 HPu0 HSe0 HL HZ hi0 hz0 hz1 hz2 hsize hsd
 go_enter Tryz.func4, Tryz.ntmps4
 go_wp2_with (first | (rw [HW0.out]) | (rw [HW1.out]))
 clear cK x1 x2 x3
 go_loopw [39] (fun iv wr => ∃ (r : Nat) (v0 v1 : Value), r ≤ m0 ∧ iv = .int .i64 (r : Int) ∧ Away (wr.heap[W0.heap.size]? = some (.cells #[v0, v1, .slice none 0 0] 50 (0, 0))) ∧ Away (wr.ownsRow (W0.heap.size + 1) 25 256 v0 r (cq (fun _ => f) r)) ∧ Away (wr.ownsRow (W0.heap.size + 1) 25 256 v1 r (cq sc r)) ∧ Away (Apart v0 v1) ∧ Away (r = 0 → v0 = .slice none 0 0 ∧ v1 = .slice none 0 0) ∧ Away (Below W0.heap.size W0 wr) ∧ Away (W0.heap.size + 1 ≤ wr.heap.size)) (fun iv _ => m0 - (intOf iv).toNat)
 case atStart => exact ⟨0, _, _, Nat.zero_le _, rfl, R1, ⟨⟨rfl, Or.inl ⟨rfl, rfl⟩⟩⟩, ⟨⟨rfl, Or.inl ⟨rfl, rfl⟩⟩⟩, ⟨nil_apart _⟩, ⟨fun _ => ⟨rfl, rfl⟩⟩, D1, Z1⟩
 case round =>
  obtain ⟨r, v0, v1, hr, rfl, RR, O0, O1, AP, N0, Hb, Hz⟩ := hrel
  by_cases hlt : r < m0
  ·have hrz : (r : Int) < (m0 : Int) := by omega
   have hr8 : r < 8 := by omega
   have c0 : wr.cell? ⟨W0.heap.size, 0, none⟩ = some v0 := cell_at RR.out rfl
   have XR := Away.mk (XB.out _ Hb.out)
   have hws := Hz.out
   have Hlt := Away.mk hlt
   clear hlt
   go_wp2_with (refine wpList_load_row rfl 25 _ rfl (w.heap.size + 1) rfl 25 F (0, 0) _ XR.out Tryz.underlying25 rfl Fi.out ?_)
   refine wp_buildSlice 45 25 1 _ rfl F i0 (.agg z) Tryz.underlying45 HI.out.1 HI.out.2.1 (by rw [HI.out.2.2.1]; decide) (by rw [HI.out.2.2.1]; decide) ?hf ?_
   case hf =>
    go_simp
    exact ⟨⟨decide_eq_false (fun h => h (Fs.out.trans HI.out.2.2.1.symm)), by rw [Fs.out, HI.out.2.2.1]; exact Nat.le_refl _⟩, fold_one F _ Fs.out (by simp [HI.out.2.2.1])⟩
   go_wp2_with (at_builtin; refine wpList_append_own_at _ rfl _ _ 45 rfl (W0.heap.size + 1) 25 i0 (.agg z) 256 2048 Tryz.underlying45 HI.out.1 HI.out.2.1 HI.out.2.2.1 HI.out.2.2.2 Hzc.out (by decide) _ _ _ rfl (O0.out.alloc _) ⟨wr.heap.size, 0, none⟩ 1 1 F.toList rfl (by rw [Array.length_toList, Fs.out]) (fun j u hu => cell_at_new hu) (fun u hu => all_one Fo.out u hu) (by unfold maxLen; omega) (by omega) (by rw [size_alloc]; omega) ?_)
   intro vA w3 hown hgrow _ hblk
   obtain ⟨gA, cA, rfl⟩ := rbitd.owns_some (by omega) hown
   have b3 : Below (W0.heap.size + 1) wr w3 := ((Below.refl _ wr).alloc hws _).grown hgrow (by rw [size_alloc]; omega) (fun k hk => (O0.out.lt k hk).1)
   have A3' : Away (At W0.heap.size #[v0, v1, .slice none 0 0] 50 w3 w3) := ⟨At.refl ((b3.block _ (Nat.lt_succ_self _)).trans RR.out)⟩
   have O0a : Away (w3.ownsRow (W0.heap.size + 1) 25 256 (.slice (some ⟨gA, 0, none⟩) (r + 1) cA) (r + 1) (cq (fun _ => f) (r + 1))) := ⟨by rw [cq, HFf.out]; exact hown⟩
   have O1a : Away (w3.ownsRow (W0.heap.size + 1) 25 256 v1 r (cq sc r)) := ⟨Apart.kept (O1.out.alloc _) AP.out hgrow⟩
   have APa : Away (Apart (.slice (some ⟨gA, 0, none⟩) (r + 1) cA) v1) := ⟨Apart.next O1.out AP.out hblk (by omega)⟩
   have Hb3 : Away (Below W0.heap.size W0 w3) := ⟨Hb.out.trans (b3.mono (Nat.le_succ _))⟩
   have Hz3 : Away (W0.heap.size + 1 ≤ w3.heap.size) := ⟨Nat.le_trans hws b3.size⟩
   clear hown hgrow hblk b3 O0 O1 AP RR c0 hws XR
   go_wp2_with ((with_reducible refine wpList_put A3' rfl _ _ _ rfl 0 (.slice (some ⟨gA, 0, none⟩) (r + 1) cA) rfl rfl ?hz rfl (by simp) rfl ?_); (case hz => kernel_rfl); intro w4 A9)
   have A4 : Away (At W0.heap.size #[.slice (some ⟨gA, 0, none⟩) (r + 1) cA, v1, .slice none 0 0] 50 w3 w4) := ⟨by simpa using A9.out⟩
   have O0b : Away (w4.ownsRow (W0.heap.size + 1) 25 256 (.slice (some ⟨gA, 0, none⟩) (r + 1) cA) (r + 1) (cq (fun _ => f) (r + 1))) := ⟨own_other O0a.out A4.out (Nat.lt_succ_self _)⟩
   have O1b : Away (w4.ownsRow (W0.heap.size + 1) 25 256 v1 r (cq sc r)) := ⟨own_other O1a.out A4.out (Nat.lt_succ_self _)⟩
   have R4 := Away.mk A4.out.row
   have Hb4 : Away (Below W0.heap.size W0 w4) := ⟨Hb3.out.trans (A4.out.below (Nat.le_trans (Nat.le_succ _) Hz3.out) (Nat.le_refl _))⟩
   have Hz4 : Away (W0.heap.size + 1 ≤ w4.heap.size) := ⟨Nat.le_trans Hz3.out A4.out.size⟩
   clear A9 A4 A3' O0a O1a Hb3 Hz3
   have HSr := HSl.out r
   obtain ⟨E, HE⟩ := ex_eq (FL .i64 256 (sc r))
   rw [HE.out] at HSr
   have Es : Away (E.size = 256) := ⟨by rw [← HE.out]; exact fl_size _ _ _⟩
   have Eo : Away (E.all (·.oneCell') = true) := ⟨by rw [← HE.out]; exact fl_one _ _ _⟩
   have HSc := Away.mk HSr
   clear HSr
   go_wp2_with fail
   refine hk_begin_all 9 [0, 3, 1, 2, 4, 5, 6, 7, 8] (by kernel_rfl) rfl rfl (by decide) (fun ops HO => ?_)
   simp only [List.filterMap_cons, List.filterMap_nil, List.getElem?_cons_succ, List.getElem?_cons_zero]
   (focus (refine hk_take (v := ?_) (by rw [← HO.out]; kernel_rfl) (by rw [← HO.out]; kernel_rfl) (by rw [← HO.out]; kernel_rfl) (by rw [← HO.out]; kernel_rfl) (fun _ _ _ h => h) ?_ (trivial) ?_; rotate_left; focus (intro w9 h9; go_simp; first | done | with_reducible rfl); all_goals skip))
   simp only [Act.put, List.setIfInBounds_toArray, List.set_cons_zero, List.set_cons_succ]
   (focus (refine hk_take (v := ?_) (by rw [← HO.out]; kernel_rfl) (by rw [← HO.out]; kernel_rfl) (by rw [← HO.out]; kernel_rfl) (by rw [← HO.out]; kernel_rfl) (fun _ _ _ h => h) ?_ (trivial) ?_; rotate_left; focus (intro w9 h9; go_simp; first | done | with_reducible rfl); all_goals skip))
   simp only [Act.put, List.setIfInBounds_toArray, List.set_cons_zero, List.set_cons_succ]
   refine hk_two (by rw [← HO.out]; kernel_rfl) (by rw [← HO.out]; kernel_rfl) (by rw [← HO.out]; kernel_rfl) (fun K hK => ?_) (fun K hK => ?_)
   ·have hc : w4.drew.cell? ⟨W0.heap.size, 1, none⟩ = some v1 := cell_at (w := w4.drew) R4.out rfl
    go_simp
    refine hK _ _ trivial ?_
    clear hK K hc
    try simp only [Act.put, List.setIfInBounds_toArray, List.set_cons_zero, List.set_cons_succ]
    refine hk_step (by rw [← HO.out]; kernel_rfl) (by rw [← HO.out]; kernel_rfl) (fun K hK => ?_)
    refine wp_load_row 25 _ rfl (w.heap.size + 1) rfl 25 F (0, 0) _ (XB.out _ Hb4.out.drew) Tryz.underlying25 rfl Fi.out ?_
    refine hK _ _ trivial ?_
    clear hK K
    try simp only [Act.put, List.setIfInBounds_toArray, List.set_cons_zero, List.set_cons_succ]
    refine hk_step (by rw [← HO.out]; kernel_rfl) (by rw [← HO.out]; kernel_rfl) (fun K hK => ?_)
    go_simp
    refine (HSc.out _).mono ?_
    rintro x w5 ⟨rfl, hb5⟩
    refine hK _ _ trivial ?_
    clear hK K
    try simp only [Act.put, List.setIfInBounds_toArray, List.set_cons_zero, List.set_cons_succ]
    refine hk_step (by rw [← HO.out]; kernel_rfl) (by rw [← HO.out]; kernel_rfl) (fun K hK => ?_)
    refine wp_buildSlice 45 25 1 _ rfl E i0 (.agg z) Tryz.underlying45 HI.out.1 HI.out.2.1 (by rw [HI.out.2.2.1]; decide) (by rw [HI.out.2.2.1]; decide) ?hf ?_
    case hf =>
     go_simp
     exact ⟨⟨decide_eq_false (fun h => h (Es.out.trans HI.out.2.2.1.symm)), by rw [Es.out, HI.out.2.2.1]; exact Nat.le_refl _⟩, fold_one E _ Es.out (by simp [HI.out.2.2.1])⟩
    refine hK _ _ trivial ?_
    clear hK K
    try simp only [Act.put, List.setIfInBounds_toArray, List.set_cons_zero, List.set_cons_succ]
    have h5 : Below (W0.heap.size + 1) w4 w5 := (drewn_below _ w4 1).trans (hb5.mono Hz4.out)
    have O1c : w5.ownsRow (W0.heap.size + 1) 25 256 v1 r (cq sc r) := own_later O1b.out ((drewn_below _ w4 1).trans hb5)
    have O0c : w5.ownsRow (W0.heap.size + 1) 25 256 (.slice (some ⟨gA, 0, none⟩) (r + 1) cA) (r + 1) (cq (fun _ => f) (r + 1)) := own_later O0b.out ((drewn_below _ w4 1).trans hb5)
    have hz5' : W0.heap.size + 1 ≤ w5.heap.size := Nat.le_trans Hz4.out h5.size
    refine hk_step (by rw [← HO.out]; kernel_rfl) (by rw [← HO.out]; kernel_rfl) (fun K hK => ?_)
    refine wp_app _ _ rfl (W0.heap.size + 1) v1 r _ rfl O1c E Es.out Eo.out rfl (by omega) hz5' (fun vB w6 hown hgrow hblk => ?_)
    have b6 : Below (W0.heap.size + 1) w5 w6 := ((Below.refl _ w5).alloc hz5' _).grown hgrow (by rw [size_alloc]; omega) (fun k hk => (O1c.lt k hk).1)
    have h6 : Below (W0.heap.size + 1) w4 w6 := h5.trans b6
    obtain ⟨gB, cB, e6⟩ := rbitd.owns_some (by omega) hown
    subst e6
    have O0d : w6.ownsRow (W0.heap.size + 1) 25 256 (.slice (some ⟨gA, 0, none⟩) (r + 1) cA) (r + 1) (cq (fun _ => f) (r + 1)) := Apart.kept (O0c.alloc _) APa.out.symm hgrow
    have APd : Away (Apart (.slice (some ⟨gA, 0, none⟩) (r + 1) cA) (.slice (some ⟨gB, 0, none⟩) (r + 1) cB)) := ⟨(Apart.next O0c APa.out.symm hblk (by rw [size_alloc]; omega)).symm⟩
    have O1d : w6.ownsRow (W0.heap.size + 1) 25 256 (.slice (some ⟨gB, 0, none⟩) (r + 1) cB) (r + 1) (cq sc (r + 1)) := by rw [cq, HE.out]; exact hown
    have A6 : Away (At W0.heap.size #[.slice (some ⟨gA, 0, none⟩) (r + 1) cA, v1, .slice none 0 0] 50 w6 w6) := ⟨At.refl ((h6.block _ (Nat.lt_succ_self _)).trans R4.out)⟩
    refine hK _ _ trivial ?_
    clear hK K hown hgrow hblk
    try simp only [Act.put, List.setIfInBounds_toArray, List.set_cons_zero, List.set_cons_succ]
    (focus (refine hk_take (v := ?_) (by rw [← HO.out]; kernel_rfl) (by rw [← HO.out]; kernel_rfl) (by rw [← HO.out]; kernel_rfl) (by rw [← HO.out]; kernel_rfl) (fun _ _ _ h => h) ?_ (trivial) ?_; rotate_left; focus (intro w9 h9; go_simp; first | done | with_reducible rfl); all_goals skip))
    simp only [Act.put, List.setIfInBounds_toArray, List.set_cons_zero, List.set_cons_succ]
    refine hk_step (by rw [← HO.out]; kernel_rfl) (by rw [← HO.out]; kernel_rfl) (fun K hK => ?_)
    refine wp_put1 A6 _ _ _ rfl 1 (.slice (some ⟨gB, 0, none⟩) (r + 1) cB) rfl rfl (by kernel_rfl) rfl (by simp) rfl (fun w7 A9 => ?_)
    refine hK _ _ trivial ?_
    clear hK K
    try simp only [Act.put, List.setIfInBounds_toArray, List.set_cons_zero, List.set_cons_succ]
    refine hk_nil (by rw [← HO.out]; kernel_rfl) ?_
    have A7 : Away (At W0.heap.size #[.slice (some ⟨gA, 0, none⟩) (r + 1) cA, .slice (some ⟨gB, 0, none⟩) (r + 1) cB, .slice none 0 0] 50 w6 w7) := ⟨by simpa using A9.out⟩
    have O0e : Away (w7.ownsRow (W0.heap.size + 1) 25 256 (.slice (some ⟨gA, 0, none⟩) (r + 1) cA) (r + 1) (cq (fun _ => f) (r + 1))) := ⟨own_other O0d A7.out (Nat.lt_succ_self _)⟩
    have O1e : Away (w7.ownsRow (W0.heap.size + 1) 25 256 (.slice (some ⟨gB, 0, none⟩) (r + 1) cB) (r + 1) (cq sc (r + 1))) := ⟨own_other O1d A7.out (Nat.lt_succ_self _)⟩
    have R7 := Away.mk A7.out.row
    have Hb7 : Away (Below W0.heap.size W0 w7) := ⟨(Hb4.out.trans (h6.mono (Nat.le_succ _))).trans (A7.out.below (Nat.le_trans (Nat.le_succ _) (Nat.le_trans Hz4.out h6.size)) (Nat.le_refl _))⟩
    have Hz7 : Away (W0.heap.size + 1 ≤ w7.heap.size) := ⟨Nat.le_trans Hz4.out (Nat.le_trans h6.size A7.out.size)⟩
    have N7 : Away (r + 1 = 0 → Value.slice (some ⟨gA, 0, none⟩) (r + 1) cA = .slice none 0 0 ∧ Value.slice (some ⟨gB, 0, none⟩) (r + 1) cB = .slice none 0 0) := ⟨fun h => absurd h (Nat.succ_ne_zero _)⟩
    clear HO hb5 h5 O1c O0c hz5' b6 h6 O0d O1d A6 A9 A7 O0b O1b R4 Hb4 Hz4 APa HSc
    go_wp2_with fail
    go_roundw
    case rel => exact ⟨r + 1, _, _, by have := Hlt.out; omega, by go_num, R7, O0e, O1e, APd, N7, Hb7, Hz7⟩
    case measure => have := Hlt.out; simp [intOf]; omega
   ·refine wp_load_row 25 _ rfl (w.heap.size + 1) rfl 25 F (0, 0) _ (XB.out _ Hb4.out.drew) Tryz.underlying25 rfl Fi.out ?_
    refine hK _ _ trivial ?_
    clear hK K
    try simp only [Act.put, List.setIfInBounds_toArray, List.set_cons_zero, List.set_cons_succ]
    refine hk_two (by rw [← HO.out]; kernel_rfl) (by rw [← HO.out]; kernel_rfl) (by rw [← HO.out]; kernel_rfl) (fun K hK => ?_) (fun K hK => ?_)
    ·have hc : w4.drew.cell? ⟨W0.heap.size, 1, none⟩ = some v1 := cell_at (w := w4.drew) R4.out rfl
     go_simp
     refine hK _ _ trivial ?_
     clear hK K hc
     try simp only [Act.put, List.setIfInBounds_toArray, List.set_cons_zero, List.set_cons_succ]
     refine hk_step (by rw [← HO.out]; kernel_rfl) (by rw [← HO.out]; kernel_rfl) (fun K hK => ?_)
     go_simp
     refine (HSc.out _).mono ?_
     rintro x w5 ⟨rfl, hb5⟩
     refine hK _ _ trivial ?_
     clear hK K
     try simp only [Act.put, List.setIfInBounds_toArray, List.set_cons_zero, List.set_cons_succ]
     refine hk_step (by rw [← HO.out]; kernel_rfl) (by rw [← HO.out]; kernel_rfl) (fun K hK => ?_)
     refine wp_buildSlice 45 25 1 _ rfl E i0 (.agg z) Tryz.underlying45 HI.out.1 HI.out.2.1 (by rw [HI.out.2.2.1]; decide) (by rw [HI.out.2.2.1]; decide) ?hf ?_
     case hf =>
      go_simp
      exact ⟨⟨decide_eq_false (fun h => h (Es.out.trans HI.out.2.2.1.symm)), by rw [Es.out, HI.out.2.2.1]; exact Nat.le_refl _⟩, fold_one E _ Es.out (by simp [HI.out.2.2.1])⟩
     refine hK _ _ trivial ?_
     clear hK K
     try simp only [Act.put, List.setIfInBounds_toArray, List.set_cons_zero, List.set_cons_succ]
     have h5 : Below (W0.heap.size + 1) w4 w5 := (drewn_below _ w4 1).trans (hb5.mono Hz4.out)
     have O1c : w5.ownsRow (W0.heap.size + 1) 25 256 v1 r (cq sc r) := own_later O1b.out ((drewn_below _ w4 1).trans hb5)
     have O0c : w5.ownsRow (W0.heap.size + 1) 25 256 (.slice (some ⟨gA, 0, none⟩) (r + 1) cA) (r + 1) (cq (fun _ => f) (r + 1)) := own_later O0b.out ((drewn_below _ w4 1).trans hb5)
     have hz5' : W0.heap.size + 1 ≤ w5.heap.size := Nat.le_trans Hz4.out h5.size
     refine hk_step (by rw [← HO.out]; kernel_rfl) (by rw [← HO.out]; kernel_rfl) (fun K hK => ?_)
     refine wp_app _ _ rfl (W0.heap.size + 1) v1 r _ rfl O1c E Es.out Eo.out rfl (by omega) hz5' (fun vB w6 hown hgrow hblk => ?_)
     have b6 : Below (W0.heap.size + 1) w5 w6 := ((Below.refl _ w5).alloc hz5' _).grown hgrow (by rw [size_alloc]; omega) (fun k hk => (O1c.lt k hk).1)
     have h6 : Below (W0.heap.size + 1) w4 w6 := h5.trans b6
     obtain ⟨gB, cB, e6⟩ := rbitd.owns_some (by omega) hown
     subst e6
     have O0d : w6.ownsRow (W0.heap.size + 1) 25 256 (.slice (some ⟨gA, 0, none⟩) (r + 1) cA) (r + 1) (cq (fun _ => f) (r + 1)) := Apart.kept (O0c.alloc _) APa.out.symm hgrow
     have APd : Away (Apart (.slice (some ⟨gA, 0, none⟩) (r + 1) cA) (.slice (some ⟨gB, 0, none⟩) (r + 1) cB)) := ⟨(Apart.next O0c APa.out.symm hblk (by rw [size_alloc]; omega)).symm⟩
     have O1d : w6.ownsRow (W0.heap.size + 1) 25 256 (.slice (some ⟨gB, 0, none⟩) (r + 1) cB) (r + 1) (cq sc (r + 1)) := by rw [cq, HE.out]; exact hown
     have A6 : Away (At W0.heap.size #[.slice (some ⟨gA, 0, none⟩) (r + 1) cA, v1, .slice none 0 0] 50 w6 w6) := ⟨At.refl ((h6.block _ (Nat.lt_succ_self _)).trans R4.out)⟩
     refine hK _ _ trivial ?_
     clear hK K hown hgrow hblk
     try simp only [Act.put, List.setIfInBounds_toArray, List.set_cons_zero, List.set_cons_succ]
     (focus (refine hk_take (v := ?_) (by rw [← HO.out]; kernel_rfl) (by rw [← HO.out]; kernel_rfl) (by rw [← HO.out]; kernel_rfl) (by rw [← HO.out]; kernel_rfl) (fun _ _ _ h => h) ?_ (trivial) ?_; rotate_left; focus (intro w9 h9; go_simp; first | done | with_reducible rfl); all_goals skip))
     simp only [Act.put, List.setIfInBounds_toArray, List.set_cons_zero, List.set_cons_succ]
     refine hk_step (by rw [← HO.out]; kernel_rfl) (by rw [← HO.out]; kernel_rfl) (fun K hK => ?_)
     refine wp_put1 A6 _ _ _ rfl 1 (.slice (some ⟨gB, 0, none⟩) (r + 1) cB) rfl rfl (by kernel_rfl) rfl (by simp) rfl (fun w7 A9 => ?_)
     refine hK _ _ trivial ?_
     clear hK K
     try simp only [Act.put, List.setIfInBounds_toArray, List.set_cons_zero, List.set_cons_succ]
     refine hk_nil (by rw [← HO.out]; kernel_rfl) ?_
     have A7 : Away (At W0.heap.size #[.slice (some ⟨gA, 0, none⟩) (r + 1) cA, .slice (some ⟨gB, 0, none⟩) (r + 1) cB, .slice none 0 0] 50 w6 w7) := ⟨by simpa using A9.out⟩
     have O0e : Away (w7.ownsRow (W0.heap.size + 1) 25 256 (.slice (some ⟨gA, 0, none⟩) (r + 1) cA) (r + 1) (cq (fun _ => f) (r + 1))) := ⟨own_other O0d A7.out (Nat.lt_succ_self _)⟩
     have O1e : Away (w7.ownsRow (W0.heap.size + 1) 25 256 (.slice (some ⟨gB, 0, none⟩) (r + 1) cB) (r + 1) (cq sc (r + 1))) := ⟨own_other O1d A7.out (Nat.lt_succ_self _)⟩
     have R7 := Away.mk A7.out.row
     have Hb7 : Away (Below W0.heap.size W0 w7) := ⟨(Hb4.out.trans (h6.mono (Nat.le_succ _))).trans (A7.out.below (Nat.le_trans (Nat.le_succ _) (Nat.le_trans Hz4.out h6.size)) (Nat.le_refl _))⟩
     have Hz7 : Away (W0.heap.size + 1 ≤ w7.heap.size) := ⟨Nat.le_trans Hz4.out (Nat.le_trans h6.size A7.out.size)⟩
     have N7 : Away (r + 1 = 0 → Value.slice (some ⟨gA, 0, none⟩) (r + 1) cA = .slice none 0 0 ∧ Value.slice (some ⟨gB, 0, none⟩) (r + 1) cB = .slice none 0 0) := ⟨fun h => absurd h (Nat.succ_ne_zero _)⟩
     clear HO hb5 h5 O1c O0c hz5' b6 h6 O0d O1d A6 A9 A7 O0b O1b R4 Hb4 Hz4 APa HSc
     go_wp2_with fail
     go_roundw
     case rel => exact ⟨r + 1, _, _, by have := Hlt.out; omega, by go_num, R7, O0e, O1e, APd, N7, Hb7, Hz7⟩
     case measure => have := Hlt.out; simp [intOf]; omega
    ·go_simp
     refine (HSc.out _).mono ?_
     rintro x w5 ⟨rfl, hb5⟩
     refine hK _ _ trivial ?_
     clear hK K
     try simp only [Act.put, List.setIfInBounds_toArray, List.set_cons_zero, List.set_cons_succ]
     refine hk_two (by rw [← HO.out]; kernel_rfl) (by rw [← HO.out]; kernel_rfl) (by rw [← HO.out]; kernel_rfl) (fun K hK => ?_) (fun K hK => ?_)
     ·have hc : w5.cell? ⟨W0.heap.size, 1, none⟩ = some v1 := cell_at ((hb5.block _ (lt_of_row R4.out)).trans R4.out) rfl
      go_simp
      refine hK _ _ trivial ?_
      clear hK K hc
      try simp only [Act.put, List.setIfInBounds_toArray, List.set_cons_zero, List.set_cons_succ]
      refine hk_step (by rw [← HO.out]; kernel_rfl) (by rw [← HO.out]; kernel_rfl) (fun K hK => ?_)
      refine wp_buildSlice 45 25 1 _ rfl E i0 (.agg z) Tryz.underlying45 HI.out.1 HI.out.2.1 (by rw [HI.out.2.2.1]; decide) (by rw [HI.out.2.2.1]; decide) ?hf ?_
      case hf =>
       go_simp
       exact ⟨⟨decide_eq_false (fun h => h (Es.out.trans HI.out.2.2.1.symm)), by rw [Es.out, HI.out.2.2.1]; exact Nat.le_refl _⟩, fold_one E _ Es.out (by simp [HI.out.2.2.1])⟩
      refine hK _ _ trivial ?_
      clear hK K
      try simp only [Act.put, List.setIfInBounds_toArray, List.set_cons_zero, List.set_cons_succ]
      have h5 : Below (W0.heap.size + 1) w4 w5 := (drewn_below _ w4 1).trans (hb5.mono Hz4.out)
      have O1c : w5.ownsRow (W0.heap.size + 1) 25 256 v1 r (cq sc r) := own_later O1b.out ((drewn_below _ w4 1).trans hb5)
      have O0c : w5.ownsRow (W0.heap.size + 1) 25 256 (.slice (some ⟨gA, 0, none⟩) (r + 1) cA) (r + 1) (cq (fun _ => f) (r + 1)) := own_later O0b.out ((drewn_below _ w4 1).trans hb5)
      have hz5' : W0.heap.size + 1 ≤ w5.heap.size := Nat.le_trans Hz4.out h5.size
      refine hk_step (by rw [← HO.out]; kernel_rfl) (by rw [← HO.out]; kernel_rfl) (fun K hK => ?_)
      refine wp_app _ _ rfl (W0.heap.size + 1) v1 r _ rfl O1c E Es.out Eo.out rfl (by omega) hz5' (fun vB w6 hown hgrow hblk => ?_)
      have b6 : Below (W0.heap.size + 1) w5 w6 := ((Below.refl _ w5).alloc hz5' _).grown hgrow (by rw [size_alloc]; omega) (fun k hk => (O1c.lt k hk).1)
      have h6 : Below (W0.heap.size + 1) w4 w6 := h5.trans b6
      obtain ⟨gB, cB, e6⟩ := rbitd.owns_some (by omega) hown
      subst e6
      have O0d : w6.ownsRow (W0.heap.size + 1) 25 256 (.slice (some ⟨gA, 0, none⟩) (r + 1) cA) (r + 1) (cq (fun _ => f) (r + 1)) := Apart.kept (O0c.alloc _) APa.out.symm hgrow
      have APd : Away (Apart (.slice (some ⟨gA, 0, none⟩) (r + 1) cA) (.slice (some ⟨gB, 0, none⟩) (r + 1) cB)) := ⟨(Apart.next O0c APa.out.symm hblk (by rw [size_alloc]; omega)).symm⟩
      have O1d : w6.ownsRow (W0.heap.size + 1) 25 256 (.slice (some ⟨gB, 0, none⟩) (r + 1) cB) (r + 1) (cq sc (r + 1)) := by rw [cq, HE.out]; exact hown
      have A6 : Away (At W0.heap.size #[.slice (some ⟨gA, 0, none⟩) (r + 1) cA, v1, .slice none 0 0] 50 w6 w6) := ⟨At.refl ((h6.block _ (Nat.lt_succ_self _)).trans R4.out)⟩
      refine hK _ _ trivial ?_
      clear hK K hown hgrow hblk
      try simp only [Act.put, List.setIfInBounds_toArray, List.set_cons_zero, List.set_cons_succ]
      (focus (refine hk_take (v := ?_) (by rw [← HO.out]; kernel_rfl) (by rw [← HO.out]; kernel_rfl) (by rw [← HO.out]; kernel_rfl) (by rw [← HO.out]; kernel_rfl) (fun _ _ _ h => h) ?_ (trivial) ?_; rotate_left; focus (intro w9 h9; go_simp; first | done | with_reducible rfl); all_goals skip))
      simp only [Act.put, List.setIfInBounds_toArray, List.set_cons_zero, List.set_cons_succ]
      refine hk_step (by rw [← HO.out]; kernel_rfl) (by rw [← HO.out]; kernel_rfl) (fun K hK => ?_)
      refine wp_put1 A6 _ _ _ rfl 1 (.slice (some ⟨gB, 0, none⟩) (r + 1) cB) rfl rfl (by kernel_rfl) rfl (by simp) rfl (fun w7 A9 => ?_)
      refine hK _ _ trivial ?_
      clear hK K
      try simp only [Act.put, List.setIfInBounds_toArray, List.set_cons_zero, List.set_cons_succ]
      refine hk_nil (by rw [← HO.out]; kernel_rfl) ?_
      have A7 : Away (At W0.heap.size #[.slice (some ⟨gA, 0, none⟩) (r + 1) cA, .slice (some ⟨gB, 0, none⟩) (r + 1) cB, .slice none 0 0] 50 w6 w7) := ⟨by simpa using A9.out⟩
      have O0e : Away (w7.ownsRow (W0.heap.size + 1) 25 256 (.slice (some ⟨gA, 0, none⟩) (r + 1) cA) (r + 1) (cq (fun _ => f) (r + 1))) := ⟨own_other O0d A7.out (Nat.lt_succ_self _)⟩
      have O1e : Away (w7.ownsRow (W0.heap.size + 1) 25 256 (.slice (some ⟨gB, 0, none⟩) (r + 1) cB) (r + 1) (cq sc (r + 1))) := ⟨own_other O1d A7.out (Nat.lt_succ_self _)⟩
      have R7 := Away.mk A7.out.row
      have Hb7 : Away (Below W0.heap.size W0 w7) := ⟨(Hb4.out.trans (h6.mono (Nat.le_succ _))).trans (A7.out.below (Nat.le_trans (Nat.le_succ _) (Nat.le_trans Hz4.out h6.size)) (Nat.le_refl _))⟩
      have Hz7 : Away (W0.heap.size + 1 ≤ w7.heap.size) := ⟨Nat.le_trans Hz4.out (Nat.le_trans h6.size A7.out.size)⟩
      have N7 : Away (r + 1 = 0 → Value.slice (some ⟨gA, 0, none⟩) (r + 1) cA = .slice none 0 0 ∧ Value.slice (some ⟨gB, 0, none⟩) (r + 1) cB = .slice none 0 0) := ⟨fun h => absurd h (Nat.succ_ne_zero _)⟩
      clear HO hb5 h5 O1c O0c hz5' b6 h6 O0d O1d A6 A9 A7 O0b O1b R4 Hb4 Hz4 APa HSc
      go_wp2_with fail
      go_roundw
      case rel => exact ⟨r + 1, _, _, by have := Hlt.out; omega, by go_num, R7, O0e, O1e, APd, N7, Hb7, Hz7⟩
      case measure => have := Hlt.out; simp [intOf]; omega
     ·refine wp_buildSlice 45 25 1 _ rfl E i0 (.agg z) Tryz.underlying45 HI.out.1 HI.out.2.1 (by rw [HI.out.2.2.1]; decide) (by rw [HI.out.2.2.1]; decide) ?hf ?_
      case hf =>
       go_simp
       exact ⟨⟨decide_eq_false (fun h => h (Es.out.trans HI.out.2.2.1.symm)), by rw [Es.out, HI.out.2.2.1]; exact Nat.le_refl _⟩, fold_one E _ Es.out (by simp [HI.out.2.2.1])⟩
      refine hK _ _ trivial ?_
      clear hK K
      try simp only [Act.put, List.setIfInBounds_toArray, List.set_cons_zero, List.set_cons_succ]
      refine hk_step (by rw [← HO.out]; kernel_rfl) (by rw [← HO.out]; kernel_rfl) (fun K hK => ?_)
      have hc : (w5.alloc (.cells E 25)).cell? ⟨W0.heap.size, 1, none⟩ = some v1 := cell_at (((below_alloc w5 _).block _ (Nat.lt_of_lt_of_le (lt_of_row R4.out) hb5.size)).trans ((hb5.block _ (lt_of_row R4.out)).trans R4.out)) rfl
      go_simp
      refine hK _ _ trivial ?_
      clear hK K hc
      try simp only [Act.put, List.setIfInBounds_toArray, List.set_cons_zero, List.set_cons_succ]
      have h5 : Below (W0.heap.size + 1) w4 w5 := (drewn_below _ w4 1).trans (hb5.mono Hz4.out)
      have O1c : w5.ownsRow (W0.heap.size + 1) 25 256 v1 r (cq sc r) := own_later O1b.out ((drewn_below _ w4 1).trans hb5)
      have O0c : w5.ownsRow (W0.heap.size + 1) 25 256 (.slice (some ⟨gA, 0, none⟩) (r + 1) cA) (r + 1) (cq (fun _ => f) (r + 1)) := own_later O0b.out ((drewn_below _ w4 1).trans hb5)
      have hz5' : W0.heap.size + 1 ≤ w5.heap.size := Nat.le_trans Hz4.out h5.size
      refine hk_step (by rw [← HO.out]; kernel_rfl) (by rw [← HO.out]; kernel_rfl) (fun K hK => ?_)
      refine wp_app _ _ rfl (W0.heap.size + 1) v1 r _ rfl O1c E Es.out Eo.out rfl (by omega) hz5' (fun vB w6 hown hgrow hblk => ?_)
      have b6 : Below (W0.heap.size + 1) w5 w6 := ((Below.refl _ w5).alloc hz5' _).grown hgrow (by rw [size_alloc]; omega) (fun k hk => (O1c.lt k hk).1)
      have h6 : Below (W0.heap.size + 1) w4 w6 := h5.trans b6
      obtain ⟨gB, cB, e6⟩ := rbitd.owns_some (by omega) hown
      subst e6
      have O0d : w6.ownsRow (W0.heap.size + 1) 25 256 (.slice (some ⟨gA, 0, none⟩) (r + 1) cA) (r + 1) (cq (fun _ => f) (r + 1)) := Apart.kept (O0c.alloc _) APa.out.symm hgrow
      have APd : Away (Apart (.slice (some ⟨gA, 0, none⟩) (r + 1) cA) (.slice (some ⟨gB, 0, none⟩) (r + 1) cB)) := ⟨(Apart.next O0c APa.out.symm hblk (by rw [size_alloc]; omega)).symm⟩
      have O1d : w6.ownsRow (W0.heap.size + 1) 25 256 (.slice (some ⟨gB, 0, none⟩) (r + 1) cB) (r + 1) (cq sc (r + 1)) := by rw [cq, HE.out]; exact hown
      have A6 : Away (At W0.heap.size #[.slice (some ⟨gA, 0, none⟩) (r + 1) cA, v1, .slice none 0 0] 50 w6 w6) := ⟨At.refl ((h6.block _ (Nat.lt_succ_self _)).trans R4.out)⟩
      refine hK _ _ trivial ?_
      clear hK K hown hgrow hblk
      try simp only [Act.put, List.setIfInBounds_toArray, List.set_cons_zero, List.set_cons_succ]
      (focus (refine hk_take (v := ?_) (by rw [← HO.out]; kernel_rfl) (by rw [← HO.out]; kernel_rfl) (by rw [← HO.out]; kernel_rfl) (by rw [← HO.out]; kernel_rfl) (fun _ _ _ h => h) ?_ (trivial) ?_; rotate_left; focus (intro w9 h9; go_simp; first | done | with_reducible rfl); all_goals skip))
      simp only [Act.put, List.setIfInBounds_toArray, List.set_cons_zero, List.set_cons_succ]
      refine hk_step (by rw [← HO.out]; kernel_rfl) (by rw [← HO.out]; kernel_rfl) (fun K hK => ?_)
      refine wp_put1 A6 _ _ _ rfl 1 (.slice (some ⟨gB, 0, none⟩) (r + 1) cB) rfl rfl (by kernel_rfl) rfl (by simp) rfl (fun w7 A9 => ?_)
      refine hK _ _ trivial ?_
      clear hK K
      try simp only [Act.put, List.setIfInBounds_toArray, List.set_cons_zero, List.set_cons_succ]
      refine hk_nil (by rw [← HO.out]; kernel_rfl) ?_
      have A7 : Away (At W0.heap.size #[.slice (some ⟨gA, 0, none⟩) (r + 1) cA, .slice (some ⟨gB, 0, none⟩) (r + 1) cB, .slice none 0 0] 50 w6 w7) := ⟨by simpa using A9.out⟩
      have O0e : Away (w7.ownsRow (W0.heap.size + 1) 25 256 (.slice (some ⟨gA, 0, none⟩) (r + 1) cA) (r + 1) (cq (fun _ => f) (r + 1))) := ⟨own_other O0d A7.out (Nat.lt_succ_self _)⟩
      have O1e : Away (w7.ownsRow (W0.heap.size + 1) 25 256 (.slice (some ⟨gB, 0, none⟩) (r + 1) cB) (r + 1) (cq sc (r + 1))) := ⟨own_other O1d A7.out (Nat.lt_succ_self _)⟩
      have R7 := Away.mk A7.out.row
      have Hb7 : Away (Below W0.heap.size W0 w7) := ⟨(Hb4.out.trans (h6.mono (Nat.le_succ _))).trans (A7.out.below (Nat.le_trans (Nat.le_succ _) (Nat.le_trans Hz4.out h6.size)) (Nat.le_refl _))⟩
      have Hz7 : Away (W0.heap.size + 1 ≤ w7.heap.size) := ⟨Nat.le_trans Hz4.out (Nat.le_trans h6.size A7.out.size)⟩
      have N7 : Away (r + 1 = 0 → Value.slice (some ⟨gA, 0, none⟩) (r + 1) cA = .slice none 0 0 ∧ Value.slice (some ⟨gB, 0, none⟩) (r + 1) cB = .slice none 0 0) := ⟨fun h => absurd h (Nat.succ_ne_zero _)⟩
      clear HO hb5 h5 O1c O0c hz5' b6 h6 O0d O1d A6 A9 A7 O0b O1b R4 Hb4 Hz4 APa HSc
      go_wp2_with fail
      go_roundw
      case rel => exact ⟨r + 1, _, _, by have := Hlt.out; omega, by go_num, R7, O0e, O1e, APd, N7, Hb7, Hz7⟩
      case measure => have := Hlt.out; simp [intOf]; omega
  ·obtain rfl : r = m0 := by omega
   rename World => wb
   have cL : wb.cell? ⟨w.heap.size, 1, none⟩ = some (.int .i64 l) := cell_at (LB.out _ Hb.out) HLL.out
   have RB := RR
   clear hlt
   go_wp2_with fail
   clear cL y1 y2 y3
   go_loopw [61] (fun iv wr => ∃ (i : Nat) (v2 : Value), i ≤ m2 ∧ iv = .int .i64 (i : Int) ∧ Away (wr.heap[W0.heap.size]? = some (.cells #[v0, v1, v2] 50 (0, 0))) ∧ Away (wr.ownsRow (W0.heap.size + 1) 25 256 v0 r (cq (fun _ => f) r)) ∧ Away (wr.ownsRow (W0.heap.size + 1) 25 256 v1 r (cq sc r)) ∧ Away (wr.ownsRow (W0.heap.size + 1) 25 256 v2 i (cq (fun _ => f) i)) ∧ Away (Apart v2 v0 ∧ Apart v2 v1) ∧ Away (i = 0 → v2 = .slice none 0 0) ∧ Away (Below W0.heap.size W0 wr) ∧ Away (W0.heap.size + 1 ≤ wr.heap.size)) (fun iv _ => m2 - (intOf iv).toNat)
   case atStart => exact ⟨0, _, Nat.zero_le _, rfl, RB, O0, O1, ⟨⟨rfl, Or.inl ⟨rfl, rfl⟩⟩⟩, ⟨nil_apart _, nil_apart _⟩, ⟨fun _ => rfl⟩, Hb, Hz⟩
   case round =>
    clear RB RR O0 O1 AP Hb Hz
    obtain ⟨i, v2, hi, rfl, RR, O0, O1, O2, AP, N2, Hb, Hz⟩ := hrel
    by_cases hlt : i < m2
    ·have hiz : (i : Int) < (m2 : Int) := by omega
     have hi8 : i < 8 := by omega
     have c0 : wr.cell? ⟨W0.heap.size, 2, none⟩ = some v2 := cell_at RR.out rfl
     have XR := Away.mk (XB.out _ Hb.out)
     have hws := Hz.out
     have Hlt := Away.mk hlt
     clear hlt
     go_wp2_with (refine wpList_load_row rfl 25 _ rfl (w.heap.size + 1) rfl 25 F (0, 0) _ XR.out Tryz.underlying25 rfl Fi.out ?_)
     refine wp_buildSlice 45 25 1 _ rfl F i0 (.agg z) Tryz.underlying45 HI.out.1 HI.out.2.1 (by rw [HI.out.2.2.1]; decide) (by rw [HI.out.2.2.1]; decide) ?hf ?_
     case hf =>
      go_simp
      exact ⟨⟨decide_eq_false (fun h => h (Fs.out.trans HI.out.2.2.1.symm)), by rw [Fs.out, HI.out.2.2.1]; exact Nat.le_refl _⟩, fold_one F _ Fs.out (by simp [HI.out.2.2.1])⟩
     go_wp2_with (at_builtin; refine wpList_append_own_at _ rfl _ _ 45 rfl (W0.heap.size + 1) 25 i0 (.agg z) 256 2048 Tryz.underlying45 HI.out.1 HI.out.2.1 HI.out.2.2.1 HI.out.2.2.2 Hzc.out (by decide) _ _ _ rfl (O2.out.alloc _) ⟨wr.heap.size, 0, none⟩ 1 1 F.toList rfl (by rw [Array.length_toList, Fs.out]) (fun j u hu => cell_at_new hu) (fun u hu => all_one Fo.out u hu) (by unfold maxLen; omega) (by omega) (by rw [size_alloc]; omega) ?_)
     intro vA w3 hown hgrow _ hblk
     obtain ⟨gA, cA, rfl⟩ := rbitd.owns_some (by omega) hown
     have b3 : Below (W0.heap.size + 1) wr w3 := ((Below.refl _ wr).alloc hws _).grown hgrow (by rw [size_alloc]; omega) (fun k hk => (O2.out.lt k hk).1)
     have A3' : Away (At W0.heap.size #[v0, v1, v2] 50 w3 w3) := ⟨At.refl ((b3.block _ (Nat.lt_succ_self _)).trans RR.out)⟩
     have O2a : Away (w3.ownsRow (W0.heap.size + 1) 25 256 (.slice (some ⟨gA, 0, none⟩) (i + 1) cA) (i + 1) (cq (fun _ => f) (i + 1))) := ⟨by rw [cq, HFf.out]; exact hown⟩
     have O0a : Away (w3.ownsRow (W0.heap.size + 1) 25 256 v0 r (cq (fun _ => f) r)) := ⟨Apart.kept (O0.out.alloc _) AP.out.1 hgrow⟩
     have O1a : Away (w3.ownsRow (W0.heap.size + 1) 25 256 v1 r (cq sc r)) := ⟨Apart.kept (O1.out.alloc _) AP.out.2 hgrow⟩
     have APa : Away (Apart (.slice (some ⟨gA, 0, none⟩) (i + 1) cA) v0 ∧ Apart (.slice (some ⟨gA, 0, none⟩) (i + 1) cA) v1) := ⟨Apart.next O0.out AP.out.1 hblk (by omega), Apart.next O1.out AP.out.2 hblk (by omega)⟩
     have Hb3 : Away (Below W0.heap.size W0 w3) := ⟨Hb.out.trans (b3.mono (Nat.le_succ _))⟩
     have Hz3 : Away (W0.heap.size + 1 ≤ w3.heap.size) := ⟨Nat.le_trans hws b3.size⟩
     clear hown hgrow hblk b3 O0 O1 O2 AP RR c0 hws XR
     go_wp2_with ((with_reducible refine wpList_put A3' rfl _ _ _ rfl 2 (.slice (some ⟨gA, 0, none⟩) (i + 1) cA) rfl rfl ?hz rfl (by simp) rfl ?_); (case hz => kernel_rfl); intro w4 A9)
     have A4 : Away (At W0.heap.size #[v0, v1, .slice (some ⟨gA, 0, none⟩) (i + 1) cA] 50 w3 w4) := ⟨by simpa using A9.out⟩
     have O2b : Away (w4.ownsRow (W0.heap.size + 1) 25 256 (.slice (some ⟨gA, 0, none⟩) (i + 1) cA) (i + 1) (cq (fun _ => f) (i + 1))) := ⟨own_other O2a.out A4.out (Nat.lt_succ_self _)⟩
     have O0b : Away (w4.ownsRow (W0.heap.size + 1) 25 256 v0 r (cq (fun _ => f) r)) := ⟨own_other O0a.out A4.out (Nat.lt_succ_self _)⟩
     have O1b : Away (w4.ownsRow (W0.heap.size + 1) 25 256 v1 r (cq sc r)) := ⟨own_other O1a.out A4.out (Nat.lt_succ_self _)⟩
     have R4 := Away.mk A4.out.row
     have Hb4 : Away (Below W0.heap.size W0 w4) := ⟨Hb3.out.trans (A4.out.below (Nat.le_trans (Nat.le_succ _) Hz3.out) (Nat.le_refl _))⟩
     have Hz4 : Away (W0.heap.size + 1 ≤ w4.heap.size) := ⟨Nat.le_trans Hz3.out A4.out.size⟩
     have N4 : Away (i + 1 = 0 → Value.slice (some ⟨gA, 0, none⟩) (i + 1) cA = .slice none 0 0) := ⟨fun h => absurd h (Nat.succ_ne_zero _)⟩
     clear A9 A4 A3' O0a O1a O2a Hb3 Hz3
     go_roundw
     case rel => exact ⟨i + 1, _, by have := Hlt.out; omega, by go_num, R4, O0b, O1b, O2b, APa, N4, Hb4, Hz4⟩
     case measure => have := Hlt.out; simp [intOf]; omega
    ·obtain rfl : i = m2 := by omega
     rename World => wz
     have S0 : Away (SL wz v0 r (fun _ => f)) := ⟨own_sl O0.out (fun h => (N0.out h).1) (by omega)⟩
     have S1 : Away (SL wz v1 r sc) := ⟨own_sl O1.out (fun h => (N0.out h).2) (by omega)⟩
     have S2 : Away (SL wz v2 i (fun _ => f)) := ⟨own_sl O2.out N2.out (by omega)⟩
     have LZ : Away (∀ w' : World, Below wz.heap.size wz w' → w'.heap[w.heap.size]? = some (.cells L 23 (0, 0))) := ⟨fun w' hb => LB.out w' (Hb.out.trans (hb.mono Hb.out.size))⟩
     have GZ : Away (∀ w' : World, Below wz.heap.size wz w' → Gp w') := ⟨fun w' hb => GP.out w' (Hb.out.trans (hb.mono Hb.out.size))⟩
     have RZ : ∀ w' : World, Below wz.heap.size wz w' → w'.heap[W0.heap.size]? = some (.cells #[v0, v1, v2] 50 (0, 0)) := fun w' hb => (hb.block _ (lt_of_row RR.out)).trans RR.out
     have C0 : Away (∀ w' : World, Below wz.heap.size wz w' → w'.cell? ⟨W0.heap.size, 0, none⟩ = some v0) := ⟨fun w' hb => cell_at (RZ w' hb) rfl⟩
     have C1 : Away (∀ w' : World, Below wz.heap.size wz w' → w'.cell? ⟨W0.heap.size, 1, none⟩ = some v1) := ⟨fun w' hb => cell_at (RZ w' hb) rfl⟩
     have C2 : Away (∀ w' : World, Below wz.heap.size wz w' → w'.cell? ⟨W0.heap.size, 2, none⟩ = some v2) := ⟨fun w' hb => cell_at (RZ w' hb) rfl⟩
     have EZ : Away (Below w.heap.size w wz) := ⟨B0.out.trans (Hb.out.mono B0.out.size)⟩
     clear RZ O0 O1 O2 AP N0 N2 RR Hb Hz hlt LB XB GP
     go_wp2_with fail
     refine (H32.out _).mono ?_
     rintro x w10 ⟨rfl, hb10⟩
     have E10 : Away (Below wz.heap.size wz w10) := ⟨hb10⟩
     have c0 := C0.out _ hb10
     clear hb10
     go_wp2_with (refine wpList_load_row rfl 23 _ rfl w.heap.size rfl 23 L (0, 0) _ (LZ.out _ E10.out) Tryz.underlying23 rfl HLz.out ?_)
     refine ((HPb.out _ _ (S0.out.later E10.out)).1).mono ?_
     rintro x w11 ⟨rfl, hb11⟩
     have E11 : Away (Below wz.heap.size wz w11) := ⟨E10.out.trans (hb11.mono E10.out.size)⟩
     clear hb11 c0
     have c0 := C0.out _ E11.out
     go_wp2_with (refine wpList_load_row rfl 23 _ rfl w.heap.size rfl 23 L (0, 0) _ (LZ.out _ E11.out) Tryz.underlying23 rfl HLz.out ?_)
     refine ((HPb.out _ _ (S0.out.later E11.out)).2).mono ?_
     rintro x w12 ⟨rfl, hb12⟩
     have E12 : Away (Below wz.heap.size wz w12) := ⟨E11.out.trans (hb12.mono E11.out.size)⟩
     clear hb12 c0
     go_wp2_with fail
     have KZ : Away (∀ w' : World, Below w12.heap.size w12 w' → w'.heap[w.heap.size]? = some (.cells L 23 (0, 0))) := ⟨fun w' hb => LZ.out w' (E12.out.trans (hb.mono E12.out.size))⟩
     refine hk_begin (w12.heap.size) 15 [0, 1, 3, 4, 5, 6, 7, 8, 2, 9, 10, 11, 12, 13, 14] (by kernel_rfl) rfl rfl (by decide) (fun hS ops HO => ?_)
     simp only [List.filterMap_cons, List.filterMap_nil, List.getElem?_cons_succ, List.getElem?_cons_zero]
     refine hk_load (by rw [← HO.out]; kernel_rfl) (by rw [← HO.out]; kernel_rfl) (by rw [← HO.out]; kernel_rfl) (by rw [← HO.out]; kernel_rfl) (fun _ _ _ _ h => h) 23 _ rfl (w.heap.size) rfl 23 L _ KZ.out Tryz.underlying23 rfl HLz.out (hS) ?_
     simp only [Act.put, List.setIfInBounds_toArray, List.set_cons_zero, List.set_cons_succ]
     (focus (refine hk_take (v := ?_) (by rw [← HO.out]; kernel_rfl) (by rw [← HO.out]; kernel_rfl) (by rw [← HO.out]; kernel_rfl) (by rw [← HO.out]; kernel_rfl) (fun _ _ _ h => h) ?_ (hS) ?_; rotate_left; focus (intro w9 h9; go_simp; first | done | with_reducible rfl); all_goals skip))
     simp only [Act.put, List.setIfInBounds_toArray, List.set_cons_zero, List.set_cons_succ]
     (focus (refine hk_take (v := ?_) (by rw [← HO.out]; kernel_rfl) (by rw [← HO.out]; kernel_rfl) (by rw [← HO.out]; kernel_rfl) (by rw [← HO.out]; kernel_rfl) (fun _ _ _ h => h) ?_ (hS) ?_; rotate_left; focus (intro w9 h9; go_simp; first | done | with_reducible rfl); all_goals skip))
     simp only [Act.put, List.setIfInBounds_toArray, List.set_cons_zero, List.set_cons_succ]
     (focus (refine hk_take (v := ?_) (by rw [← HO.out]; kernel_rfl) (by rw [← HO.out]; kernel_rfl) (by rw [← HO.out]; kernel_rfl) (by rw [← HO.out]; kernel_rfl) (fun _ _ _ h => h) ?_ (hS) ?_; rotate_left; focus (intro w9 h9; have hc := C2.out w9 (E12.out.trans (h9.mono E12.out.size)); go_simp; first | done | with_reducible rfl); all_goals skip))
     simp only [Act.put, List.setIfInBounds_toArray, List.set_cons_zero, List.set_cons_succ]
     (focus (refine hk_take (v := ?_) (by rw [← HO.out]; kernel_rfl) (by rw [← HO.out]; kernel_rfl) (by rw [← HO.out]; kernel_rfl) (by rw [← HO.out]; kernel_rfl) (fun _ _ _ h => h) ?_ (hS) ?_; rotate_left; focus (intro w9 h9; go_simp; first | done | with_reducible rfl); all_goals skip))
     simp only [Act.put, List.setIfInBounds_toArray, List.set_cons_zero, List.set_cons_succ]
     (focus (refine hk_take (v := ?_) (by rw [← HO.out]; kernel_rfl) (by rw [← HO.out]; kernel_rfl) (by rw [← HO.out]; kernel_rfl) (by rw [← HO.out]; kernel_rfl) (fun _ _ _ h => h) ?_ (hS) ?_; rotate_left; focus (intro w9 h9; have hc := C0.out w9 (E12.out.trans (h9.mono E12.out.size)); go_simp; first | done | with_reducible rfl); all_goals skip))
     simp only [Act.put, List.setIfInBounds_toArray, List.set_cons_zero, List.set_cons_succ]
     (focus (refine hk_take (v := ?_) (by rw [← HO.out]; kernel_rfl) (by rw [← HO.out]; kernel_rfl) (by rw [← HO.out]; kernel_rfl) (by rw [← HO.out]; kernel_rfl) (fun _ _ _ h => h) ?_ (hS) ?_; rotate_left; focus (intro w9 h9; go_simp; first | done | with_reducible rfl); all_goals skip))
     simp only [Act.put, List.setIfInBounds_toArray, List.set_cons_zero, List.set_cons_succ]
     (focus (refine hk_take (v := ?_) (by rw [← HO.out]; kernel_rfl) (by rw [← HO.out]; kernel_rfl) (by rw [← HO.out]; kernel_rfl) (by rw [← HO.out]; kernel_rfl) (fun _ _ _ h => h) ?_ (hS) ?_; rotate_left; focus (intro w9 h9; have hc := C1.out w9 (E12.out.trans (h9.mono E12.out.size)); go_simp; first | done | with_reducible rfl); all_goals skip))
     simp only [Act.put, List.setIfInBounds_toArray, List.set_cons_zero, List.set_cons_succ]
     refine hk_step (by rw [← HO.out]; kernel_rfl) (by rw [← HO.out]; kernel_rfl) (fun K hK => ?_)
     go_simp
     refine (H128.out _).mono ?_
     rintro x wA ⟨rfl, hbA⟩
     have hA' : Below w12.heap.size w12 wA := hS.trans (hbA.mono hS.size)
     refine hK _ _ hA' ?_
     clear hK K
     try simp only [Act.put, List.setIfInBounds_toArray, List.set_cons_zero, List.set_cons_succ]
     refine hk_step (by rw [← HO.out]; kernel_rfl) (by rw [← HO.out]; kernel_rfl) (fun K hK => ?_)
     go_simp
     have bz := E12.out.trans (hA'.mono E12.out.size)
     refine ((HSb.out _ _ _ _ (S2.out.later bz) (S0.out.later bz) (S1.out.later bz)).1).mono ?_
     rintro x w14 ⟨rfl, hbB⟩
     have hB' : Below w12.heap.size w12 w14 := hA'.trans (hbB.mono hA'.size)
     refine hK _ _ hB' ?_
     clear hK K bz
     try simp only [Act.put, List.setIfInBounds_toArray, List.set_cons_zero, List.set_cons_succ]
     (focus (refine hk_take (v := ?_) (by rw [← HO.out]; kernel_rfl) (by rw [← HO.out]; kernel_rfl) (by rw [← HO.out]; kernel_rfl) (by rw [← HO.out]; kernel_rfl) (fun _ _ _ h => h) ?_ (hB') ?_; rotate_left; focus (intro w9 h9; go_simp; first | done | with_reducible rfl); all_goals skip))
     simp only [Act.put, List.setIfInBounds_toArray, List.set_cons_zero, List.set_cons_succ]
     (focus (refine hk_take (v := ?_) (by rw [← HO.out]; kernel_rfl) (by rw [← HO.out]; kernel_rfl) (by rw [← HO.out]; kernel_rfl) (by rw [← HO.out]; kernel_rfl) (fun _ _ _ h => h) ?_ (hB') ?_; rotate_left; focus (intro w9 h9; go_simp; first | done | with_reducible rfl); all_goals skip))
     simp only [Act.put, List.setIfInBounds_toArray, List.set_cons_zero, List.set_cons_succ]
     (focus (refine hk_take (v := ?_) (by rw [← HO.out]; kernel_rfl) (by rw [← HO.out]; kernel_rfl) (by rw [← HO.out]; kernel_rfl) (by rw [← HO.out]; kernel_rfl) (fun _ _ _ h => h) ?_ (hB') ?_; rotate_left; focus (intro w9 h9; go_simp; first | done | with_reducible rfl); all_goals skip))
     simp only [Act.put, List.setIfInBounds_toArray, List.set_cons_zero, List.set_cons_succ]
     (focus (refine hk_take (v := ?_) (by rw [← HO.out]; kernel_rfl) (by rw [← HO.out]; kernel_rfl) (by rw [← HO.out]; kernel_rfl) (by rw [← HO.out]; kernel_rfl) (fun _ _ _ h => h) ?_ (hB') ?_; rotate_left; focus (intro w9 h9; go_simp; first | done | with_reducible rfl); all_goals skip))
     simp only [Act.put, List.setIfInBounds_toArray, List.set_cons_zero, List.set_cons_succ]
     (focus (refine hk_take (v := ?_) (by rw [← HO.out]; kernel_rfl) (by rw [← HO.out]; kernel_rfl) (by rw [← HO.out]; kernel_rfl) (by rw [← HO.out]; kernel_rfl) (fun _ _ _ h => h) ?_ (hB') ?_; rotate_left; focus (intro w9 h9; go_simp; first | done | with_reducible rfl); all_goals skip))
     simp only [Act.put, List.setIfInBounds_toArray, List.set_cons_zero, List.set_cons_succ]
     refine hk_nil (by rw [← HO.out]; kernel_rfl) ?_
     have E14 : Away (Below wz.heap.size wz w14) := ⟨E12.out.trans (hB'.mono E12.out.size)⟩
     clear hS HO hbA hA' hbB hB' KZ
     go_wp2_with fail
     have KZ : Away (∀ w' : World, Below w14.heap.size w14 w' → w'.heap[w.heap.size]? = some (.cells L 23 (0, 0))) := ⟨fun w' hb => LZ.out w' (E14.out.trans (hb.mono E14.out.size))⟩
     refine hk_begin (w14.heap.size) 15 [0, 1, 3, 4, 5, 6, 7, 8, 2, 9, 10, 11, 12, 13, 14] (by kernel_rfl) rfl rfl (by decide) (fun hS ops HO => ?_)
     simp only [List.filterMap_cons, List.filterMap_nil, List.getElem?_cons_succ, List.getElem?_cons_zero]
     refine hk_load (by rw [← HO.out]; kernel_rfl) (by rw [← HO.out]; kernel_rfl) (by rw [← HO.out]; kernel_rfl) (by rw [← HO.out]; kernel_rfl) (fun _ _ _ _ h => h) 23 _ rfl (w.heap.size) rfl 23 L _ KZ.out Tryz.underlying23 rfl HLz.out (hS) ?_
     simp only [Act.put, List.setIfInBounds_toArray, List.set_cons_zero, List.set_cons_succ]
     (focus (refine hk_take (v := ?_) (by rw [← HO.out]; kernel_rfl) (by rw [← HO.out]; kernel_rfl) (by rw [← HO.out]; kernel_rfl) (by rw [← HO.out]; kernel_rfl) (fun _ _ _ h => h) ?_ (hS) ?_; rotate_left; focus (intro w9 h9; go_simp; first | done | with_reducible rfl); all_goals skip))
     simp only [Act.put, List.setIfInBounds_toArray, List.set_cons_zero, List.set_cons_succ]
     (focus (refine hk_take (v := ?_) (by rw [← HO.out]; kernel_rfl) (by rw [← HO.out]; kernel_rfl) (by rw [← HO.out]; kernel_rfl) (by rw [← HO.out]; kernel_rfl) (fun _ _ _ h => h) ?_ (hS) ?_; rotate_left; focus (intro w9 h9; go_simp; first | done | with_reducible rfl); all_goals skip))
     simp only [Act.put, List.setIfInBounds_toArray, List.set_cons_zero, List.set_cons_succ]
     (focus (refine hk_take (v := ?_) (by rw [← HO.out]; kernel_rfl) (by rw [← HO.out]; kernel_rfl) (by rw [← HO.out]; kernel_rfl) (by rw [← HO.out]; kernel_rfl) (fun _ _ _ h => h) ?_ (hS) ?_; rotate_left; focus (intro w9 h9; have hc := C2.out w9 (E14.out.trans (h9.mono E14.out.size)); go_simp; first | done | with_reducible rfl); all_goals skip))
     simp only [Act.put, List.setIfInBounds_toArray, List.set_cons_zero, List.set_cons_succ]
     (focus (refine hk_take (v := ?_) (by rw [← HO.out]; kernel_rfl) (by rw [← HO.out]; kernel_rfl) (by rw [← HO.out]; kernel_rfl) (by rw [← HO.out]; kernel_rfl) (fun _ _ _ h => h) ?_ (hS) ?_; rotate_left; focus (intro w9 h9; go_simp; first | done | with_reducible rfl); all_goals skip))
     simp only [Act.put, List.setIfInBounds_toArray, List.set_cons_zero, List.set_cons_succ]
     (focus (refine hk_take (v := ?_) (by rw [← HO.out]; kernel_rfl) (by rw [← HO.out]; kernel_rfl) (by rw [← HO.out]; kernel_rfl) (by rw [← HO.out]; kernel_rfl) (fun _ _ _ h => h) ?_ (hS) ?_; rotate_left; focus (intro w9 h9; have hc := C0.out w9 (E14.out.trans (h9.mono E14.out.size)); go_simp; first | done | with_reducible rfl); all_goals skip))
     simp only [Act.put, List.setIfInBounds_toArray, List.set_cons_zero, List.set_cons_succ]
     (focus (refine hk_take (v := ?_) (by rw [← HO.out]; kernel_rfl) (by rw [← HO.out]; kernel_rfl) (by rw [← HO.out]; kernel_rfl) (by rw [← HO.out]; kernel_rfl) (fun _ _ _ h => h) ?_ (hS) ?_; rotate_left; focus (intro w9 h9; go_simp; first | done | with_reducible rfl); all_goals skip))
     simp only [Act.put, List.setIfInBounds_toArray, List.set_cons_zero, List.set_cons_succ]
     (focus (refine hk_take (v := ?_) (by rw [← HO.out]; kernel_rfl) (by rw [← HO.out]; kernel_rfl) (by rw [← HO.out]; kernel_rfl) (by rw [← HO.out]; kernel_rfl) (fun _ _ _ h => h) ?_ (hS) ?_; rotate_left; focus (intro w9 h9; have hc := C1.out w9 (E14.out.trans (h9.mono E14.out.size)); go_simp; first | done | with_reducible rfl); all_goals skip))
     simp only [Act.put, List.setIfInBounds_toArray, List.set_cons_zero, List.set_cons_succ]
     refine hk_step (by rw [← HO.out]; kernel_rfl) (by rw [← HO.out]; kernel_rfl) (fun K hK => ?_)
     go_simp
     refine (H128.out _).mono ?_
     rintro x wA ⟨rfl, hbA⟩
     have hA' : Below w14.heap.size w14 wA := hS.trans (hbA.mono hS.size)
     refine hK _ _ hA' ?_
     clear hK K
     try simp only [Act.put, List.setIfInBounds_toArray, List.set_cons_zero, List.set_cons_succ]
     refine hk_step (by rw [← HO.out]; kernel_rfl) (by rw [← HO.out]; kernel_rfl) (fun K hK => ?_)
     go_simp
     have bz := E14.out.trans (hA'.mono E14.out.size)
     refine ((HSb.out _ _ _ _ (S2.out.later bz) (S0.out.later bz) (S1.out.later bz)).2).mono ?_
     rintro x w16 ⟨rfl, hbB⟩
     have hB' : Below w14.heap.size w14 w16 := hA'.trans (hbB.mono hA'.size)
     refine hK _ _ hB' ?_
     clear hK K bz
     try simp only [Act.put, List.setIfInBounds_toArray, List.set_cons_zero, List.set_cons_succ]
     (focus (refine hk_take (v := ?_) (by rw [← HO.out]; kernel_rfl) (by rw [← HO.out]; kernel_rfl) (by rw [← HO.out]; kernel_rfl) (by rw [← HO.out]; kernel_rfl) (fun _ _ _ h => h) ?_ (hB') ?_; rotate_left; focus (intro w9 h9; go_simp; first | done | with_reducible rfl); all_goals skip))
     simp only [Act.put, List.setIfInBounds_toArray, List.set_cons_zero, List.set_cons_succ]
     (focus (refine hk_take (v := ?_) (by rw [← HO.out]; kernel_rfl) (by rw [← HO.out]; kernel_rfl) (by rw [← HO.out]; kernel_rfl) (by rw [← HO.out]; kernel_rfl) (fun _ _ _ h => h) ?_ (hB') ?_; rotate_left; focus (intro w9 h9; go_simp; first | done | with_reducible rfl); all_goals skip))
     simp only [Act.put, List.setIfInBounds_toArray, List.set_cons_zero, List.set_cons_succ]
     (focus (refine hk_take (v := ?_) (by rw [← HO.out]; kernel_rfl) (by rw [← HO.out]; kernel_rfl) (by rw [← HO.out]; kernel_rfl) (by rw [← HO.out]; kernel_rfl) (fun _ _ _ h => h) ?_ (hB') ?_; rotate_left; focus (intro w9 h9; go_simp; first | done | with_reducible rfl); all_goals skip))
     simp only [Act.put, List.setIfInBounds_toArray, List.set_cons_zero, List.set_cons_succ]
     (focus (refine hk_take (v := ?_) (by rw [← HO.out]; kernel_rfl) (by rw [← HO.out]; kernel_rfl) (by rw [← HO.out]; kernel_rfl) (by rw [← HO.out]; kernel_rfl) (fun _ _ _ h => h) ?_ (hB') ?_; rotate_left; focus (intro w9 h9; go_simp; first | done | with_reducible rfl); all_goals skip))
     simp only [Act.put, List.setIfInBounds_toArray, List.set_cons_zero, List.set_cons_succ]
     (focus (refine hk_take (v := ?_) (by rw [← HO.out]; kernel_rfl) (by rw [← HO.out]; kernel_rfl) (by rw [← HO.out]; kernel_rfl) (by rw [← HO.out]; kernel_rfl) (fun _ _ _ h => h) ?_ (hB') ?_; rotate_left; focus (intro w9 h9; go_simp; first | done | with_reducible rfl); all_goals skip))
     simp only [Act.put, List.setIfInBounds_toArray, List.set_cons_zero, List.set_cons_succ]
     refine hk_nil (by rw [← HO.out]; kernel_rfl) ?_
     have E16 : Away (Below wz.heap.size wz w16) := ⟨E14.out.trans (hB'.mono E14.out.size)⟩
     clear hS HO hbA hA' hbB hB' KZ
     go_wp2_with (refine wpList_load_row rfl 23 _ rfl w.heap.size rfl 23 L (0, 0) _ (LZ.out _ E16.out) Tryz.underlying23 rfl HLz.out ?_)
     refine ((HPu.out _).1).mono ?_
     rintro x w17 ⟨⟨p1, rfl, hp1⟩, hb17⟩
     have E17 : Away (Below wz.heap.size wz w17) := ⟨E16.out.trans (hb17.mono E16.out.size)⟩
     have P1 := Away.mk hp1
     clear hb17 hp1
     go_wp2_with (refine wpList_load_row rfl 23 _ rfl w.heap.size rfl 23 L (0, 0) _ (LZ.out _ E17.out) Tryz.underlying23 rfl HLz.out ?_)
     refine ((HPu.out _).2).mono ?_
     rintro x w18 ⟨⟨p2, rfl, hp2⟩, hb18⟩
     have E18 : Away (Below wz.heap.size wz w18) := ⟨E17.out.trans (hb18.mono E17.out.size)⟩
     have P1' := Away.mk (P1.out.later hb18)
     have P2 := Away.mk hp2
     clear hb18 hp2 P1
     go_wp2_with (refine wpList_load_row rfl 23 _ rfl w.heap.size rfl 23 L (0, 0) _ (LZ.out _ E18.out) Tryz.underlying23 rfl HLz.out ?_)
     refine ((HSe.out _).1).mono ?_
     rintro x w19 ⟨⟨n1, rfl, hn1⟩, hb19⟩
     have E19 : Away (Below wz.heap.size wz w19) := ⟨E18.out.trans (hb19.mono E18.out.size)⟩
     have P1b := Away.mk (P1'.out.later hb19)
     have P2b := Away.mk (P2.out.later hb19)
     have N1 := Away.mk hn1
     clear hb19 hn1 P1' P2
     go_wp2_with (refine wpList_load_row rfl 23 _ rfl w.heap.size rfl 23 L (0, 0) _ (LZ.out _ E19.out) Tryz.underlying23 rfl HLz.out ?_)
     refine ((HSe.out _).2).mono ?_
     rintro x w20 ⟨⟨n2, rfl, hn2⟩, hb20⟩
     have E20 : Away (Below wz.heap.size wz w20) := ⟨E19.out.trans (hb20.mono E19.out.size)⟩
     have P1c := Away.mk (P1b.out.later hb20)
     have P2c := Away.mk (P2b.out.later hb20)
     have N1' := Away.mk (N1.out.later hb20)
     have N2 := Away.mk hn2
     clear hb20 hn2 P1b P2b N1
     obtain ⟨a1, c1, e1⟩ := ll_slice N1'.out
     obtain ⟨a2, c2, e2⟩ := ll_slice N2.out
     subst e1 e2
     go_wp2_with fail
     refine (polys_sl _ _ _ _ _ P1c.out P2c.out).mono ?_
     rintro x w21 ⟨rfl, hb21⟩
     have E21 : Away (Below wz.heap.size wz w21) := ⟨E20.out.trans (hb21.mono E20.out.size)⟩
     have N1d := Away.mk (N1'.out.later hb21)
     have N2d := Away.mk (N2.out.later hb21)
     clear hb21 P1c P2c N1' N2
     go_wp2_with fail
     go_loopw [195] (fun iv wr => ∃ i : Nat, i ≤ ns ∧ iv = .int .i64 (i : Int) ∧ Away (Below w21.heap.size w21 wr)) (fun iv _ => ns - (intOf iv).toNat)
     case atStart => exact ⟨0, Nat.zero_le _, rfl, ⟨Below.refl _ _⟩⟩
     case round =>
      obtain ⟨j, hj, rfl, Hb⟩ := hrel
      by_cases hlt : j < ns
      ·have hjz : (j : Int) < (ns : Int) := by omega
       have hj8 : j < 8 := by omega
       obtain ⟨g1, d1, u1, e1, hg1, k1, s1⟩ := ll_at (N1d.out.later Hb.out) j hlt
       obtain ⟨g2, d2, u2, e2, hg2, k2, s2⟩ := ll_at (N2d.out.later Hb.out) j hlt
       injection e1 with e1 _ e1'
       injection e2 with e2 _ e2'
       subst e1 e1' e2 e2'
       have K1 : Away (∀ w' : World, Below wr.heap.size wr w' → w'.cell? ⟨g1, j, none⟩ = some u1) := ⟨fun w' hb => (hb.cell (p := ⟨g1, j, none⟩) hg1).trans k1⟩
       have K2 : Away (∀ w' : World, Below wr.heap.size wr w' → w'.cell? ⟨g2, j, none⟩ = some u2) := ⟨fun w' hb => (hb.cell (p := ⟨g2, j, none⟩) hg2).trans k2⟩
       have Q1 := Away.mk s1
       have Q2 := Away.mk s2
       have Hlt := Away.mk hlt
       clear hg1 hg2 k1 k2 s1 s2 hlt
       go_wp2_with fail
       refine hk_begin (wr.heap.size) 10 [0, 1, 2, 3, 4, 5, 6, 7, 8, 9] (by kernel_rfl) rfl rfl (by decide) (fun hS ops HO => ?_)
       simp only [List.filterMap_cons, List.filterMap_nil, List.getElem?_cons_succ, List.getElem?_cons_zero]
       (focus (refine hk_take (v := ?_) (by rw [← HO.out]; kernel_rfl) (by rw [← HO.out]; kernel_rfl) (by rw [← HO.out]; kernel_rfl) (by rw [← HO.out]; kernel_rfl) (fun _ _ _ h => h) ?_ (hS) ?_; rotate_left; focus (intro w9 h9; go_simp; first | done | with_reducible rfl); all_goals skip))
       simp only [Act.put, List.setIfInBounds_toArray, List.set_cons_zero, List.set_cons_succ]
       (focus (refine hk_take (v := ?_) (by rw [← HO.out]; kernel_rfl) (by rw [← HO.out]; kernel_rfl) (by rw [← HO.out]; kernel_rfl) (by rw [← HO.out]; kernel_rfl) (fun _ _ _ h => h) ?_ (hS) ?_; rotate_left; focus (intro w9 h9; go_simp; first | done | with_reducible rfl); all_goals skip))
       simp only [Act.put, List.setIfInBounds_toArray, List.set_cons_zero, List.set_cons_succ]
       (focus (refine hk_take (v := ?_) (by rw [← HO.out]; kernel_rfl) (by rw [← HO.out]; kernel_rfl) (by rw [← HO.out]; kernel_rfl) (by rw [← HO.out]; kernel_rfl) (fun _ _ _ h => h) ?_ (hS) ?_; rotate_left; focus (intro w9 h9; go_simp; first | done | with_reducible rfl); all_goals skip))
       simp only [Act.put, List.setIfInBounds_toArray, List.set_cons_zero, List.set_cons_succ]
       (focus (refine hk_take (v := ?_) (by rw [← HO.out]; kernel_rfl) (by rw [← HO.out]; kernel_rfl) (by rw [← HO.out]; kernel_rfl) (by rw [← HO.out]; kernel_rfl) (fun _ _ _ h => h) ?_ (hS) ?_; rotate_left; focus (intro w9 h9; have hc := K1.out w9 h9; go_simp; first | done | with_reducible rfl); all_goals skip))
       simp only [Act.put, List.setIfInBounds_toArray, List.set_cons_zero, List.set_cons_succ]
       (focus (refine hk_take (v := ?_) (by rw [← HO.out]; kernel_rfl) (by rw [← HO.out]; kernel_rfl) (by rw [← HO.out]; kernel_rfl) (by rw [← HO.out]; kernel_rfl) (fun _ _ _ h => h) ?_ (hS) ?_; rotate_left; focus (intro w9 h9; go_simp; first | done | with_reducible rfl); all_goals skip))
       simp only [Act.put, List.setIfInBounds_toArray, List.set_cons_zero, List.set_cons_succ]
       (focus (refine hk_take (v := ?_) (by rw [← HO.out]; kernel_rfl) (by rw [← HO.out]; kernel_rfl) (by rw [← HO.out]; kernel_rfl) (by rw [← HO.out]; kernel_rfl) (fun _ _ _ h => h) ?_ (hS) ?_; rotate_left; focus (intro w9 h9; go_simp; first | done | with_reducible rfl); all_goals skip))
       simp only [Act.put, List.setIfInBounds_toArray, List.set_cons_zero, List.set_cons_succ]
       (focus (refine hk_take (v := ?_) (by rw [← HO.out]; kernel_rfl) (by rw [← HO.out]; kernel_rfl) (by rw [← HO.out]; kernel_rfl) (by rw [← HO.out]; kernel_rfl) (fun _ _ _ h => h) ?_ (hS) ?_; rotate_left; focus (intro w9 h9; go_simp; first | done | with_reducible rfl); all_goals skip))
       simp only [Act.put, List.setIfInBounds_toArray, List.set_cons_zero, List.set_cons_succ]
       (focus (refine hk_take (v := ?_) (by rw [← HO.out]; kernel_rfl) (by rw [← HO.out]; kernel_rfl) (by rw [← HO.out]; kernel_rfl) (by rw [← HO.out]; kernel_rfl) (fun _ _ _ h => h) ?_ (hS) ?_; rotate_left; focus (intro w9 h9; have hc := K2.out w9 h9; go_simp; first | done | with_reducible rfl); all_goals skip))
       simp only [Act.put, List.setIfInBounds_toArray, List.set_cons_zero, List.set_cons_succ]
       refine hk_step (by rw [← HO.out]; kernel_rfl) (by rw [← HO.out]; kernel_rfl) (fun K hK => ?_)
       go_simp
       refine (polys_sl _ _ _ _ _ (Q1.out.later hS) (Q2.out.later hS)).mono ?_
       rintro x w22 ⟨rfl, hb22⟩
       have h22 : Below wr.heap.size wr w22 := hS.trans (hb22.mono hS.size)
       refine hK _ _ h22 ?_
       clear hK K
       try simp only [Act.put, List.setIfInBounds_toArray, List.set_cons_zero, List.set_cons_succ]
       (focus (refine hk_take (v := ?_) (by rw [← HO.out]; kernel_rfl) (by rw [← HO.out]; kernel_rfl) (by rw [← HO.out]; kernel_rfl) (by rw [← HO.out]; kernel_rfl) (fun _ _ _ h => h) ?_ (h22) ?_; rotate_left; focus (intro w9 h9; go_simp; first | done | with_reducible rfl); all_goals skip))
       simp only [Act.put, List.setIfInBounds_toArray, List.set_cons_zero, List.set_cons_succ]
       refine hk_nil (by rw [← HO.out]; kernel_rfl) ?_
       have H22 : Away (Below w21.heap.size w21 w22) := ⟨Hb.out.trans (h22.mono Hb.out.size)⟩
       clear hS HO hb22 h22 K1 K2 Q1 Q2
       go_wp2_with fail
       go_roundw
       case rel => exact ⟨j + 1, by have := Hlt.out; omega, by go_num, H22⟩
       case measure => have := Hlt.out; simp [intOf]; omega
      ·have F9 : Away (Below wz.heap.size wz wr) := ⟨E21.out.trans (Hb.out.mono E21.out.size)⟩
       have hjn : ¬ (j : Int) < (ns : Int) := by omega
       go_wp2_with fail
       refine (HA.out _ (GZ.out _ F9.out)).mono ?_
       rintro x w23 ⟨rfl, hb23⟩
       have E23 : Away (Below w.heap.size w w23) := ⟨EZ.out.trans ((F9.out.trans (hb23.mono F9.out.size)).mono EZ.out.size)⟩
       clear hb23
       go_wp2_with fail
       go_ret
       exact ⟨rfl, E23.out⟩
end Go.Proofs.YtlcafjdehcddcaaGreatDoor.kby
