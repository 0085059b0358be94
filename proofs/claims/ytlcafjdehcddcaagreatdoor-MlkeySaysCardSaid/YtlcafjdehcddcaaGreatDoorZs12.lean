/-
  MlkeySays, the near case (P12.1, P12.2, P12.7), with what package mlkey's functions return handed in. Conditions: keccak's variable 'places' holds what the program's text lays there. What round's Set and Right return. Conditions: none. The law package's own look at keys ('awake') returns true. Conditions: keccak's variable 'places' holds what the program's text lays there; what Sizes and Pair return is handed in. The contracts of bits.Len64 at this seat's numbers: each is one application of the library's own theorem. Conditions: as each says. What bits.Long returns: the number of bits. Conditions: the number is an int. What the small functions rightMost and size of package bits return. Conditions: the width is small, for the size. What package bits' rightEnds returns. Conditions: none.
-/
import Derived.Test.YtlcafjdehcddcaaGreatDoorZs10
import Derived.Test.YtlcafjdehcddcaaGreatDoorZs11
import Derived.Test.YtlcafjdehcddcaaGreatDoorZs05
import Derived.Test.YtlcafjdehcddcaaGreatDoorZs03
import Derived.Test.YtlcafjdehcddcaaGreatDoorZs02
import Derived.Test.YtlcafjdehcddcaaGreatDoorProg
import Derived.Shelf.Strconv.Itoa0
namespace Go.Proofs.YtlcafjdehcddcaaGreatDoor
namespace says12
set_option linter.unusedSimpArgs false
open Go Go.RowKit
open mem arr tabv built kturn polys polt pols polb helda fork rkrw
def pc (f : Nat → Int) (c : Nat) : Nat → Int := fun i => f (256 * c + i)
def nn (r : Nat) : Nat := if r = 0 then 2 else 1
def xx (f : Nat → Int) (r : Nat) : Nat → Nat → Int := if r = 0 then pair (pc f 0) (pc f 1) else fun _ => pc f 2
def yy (f : Nat → Int) : Nat → Nat → Int := pair (pc f 3) (pc f 0)
theorem mx_later {w w' : World} {v : Value} {R : Nat} {n : Nat → Nat} {x : Nat → Nat → Nat → Int} (h : MX w v R n x) (hb : Below w.heap.size w w') : MX w' v R n x := by
 obtain ⟨G, C, e, hG, hr⟩ := h
 refine ⟨G, C, e, Nat.lt_of_lt_of_le hG hb.size, fun r hr2 => ?_⟩
 obtain ⟨g, c, h1, h2, h3⟩ := hr r hr2
 exact ⟨g, c, (hb.cell (p := ⟨G, r, none⟩) hG).trans h1, Nat.lt_of_lt_of_le h2 hb.size, fun j hj k hk => (hb.cell (p := ⟨g, 256 * j + k, none⟩) h2).trans (h3 j hj k hk)⟩
set_option maxRecDepth 100000 in
set_option maxHeartbeats 8000000 in
theorem near (f : Nat → Int) (k l e t a b o s : Int) (sd : ByteArray) (A B C : Int) (X Y : ByteArray) (G : Int) (res : Nat → Nat → Int) (w : World) (hsd : sd.size ≤ 200) (hP : Gp w)
 (HS1 : ∀ w1 : World, Calls Tryz.prog 7 #[.agg #[.int .i64 k, .int .i64 l, .int .i64 e, .int .i64 t, .int .i64 a, .int .i64 b, .int .i64 o, .int .i64 s]] w1 fun x w' => x = .returned (.tuple #[.int .i64 A, .int .i64 B, .int .i64 C]) ∧ Below w1.heap.size w1 w')
 (HS2 : ∀ w1 : World, Calls Tryz.prog 8 #[.agg #[.int .i64 k, .int .i64 l, .int .i64 e, .int .i64 t, .int .i64 a, .int .i64 b, .int .i64 o, .int .i64 s]] w1 fun x w' => x = .returned (.tuple #[.int .i64 A, .int .i64 B, .int .i64 C]) ∧ Below w1.heap.size w1 w')
 (HP1 : ∀ w1 : World, Gp w1 → Calls Tryz.prog 9 #[.agg TA, .agg #[.int .i64 k, .int .i64 l, .int .i64 e, .int .i64 t, .int .i64 a, .int .i64 b, .int .i64 o, .int .i64 s], .string sd] w1 fun x w' => x = .returned (.tuple #[.string X, .string Y, .int .i64 G]) ∧ Below w1.heap.size w1 w')
 (HP2 : ∀ w1 : World, Calls Tryz.prog 10 #[.agg TA, .agg #[.int .i64 k, .int .i64 l, .int .i64 e, .int .i64 t, .int .i64 a, .int .i64 b, .int .i64 o, .int .i64 s], .string sd] w1 fun x w' => x = .returned (.tuple #[.string X, .string Y, .int .i64 G]) ∧ Below w1.heap.size w1 w')
 (HR1 : ∀ (w1 : World) (v vv : Value), Gp w1 → MX w1 v 2 nn (xx f) → Holds w1 0 vv 2 (yy f) → Calls Tryz.prog 12 #[.agg TA, v, vv] w1 fun x w' => (∃ v', x = .returned v' ∧ Holds w' 0 v' 2 res) ∧ Below w1.heap.size w1 w')
 (HR2 : ∀ (w1 : World) (v vv : Value), MX w1 v 2 nn (xx f) → Holds w1 0 vv 2 (yy f) → Calls Tryz.prog 13 #[.agg TA, v, vv] w1 fun x w' => (∃ v', x = .returned v' ∧ Holds w' 0 v' 2 res) ∧ Below w1.heap.size w1 w')
 (HA : ∀ w1 : World, Gp w1 → Calls Tryz.prog 5 #[] w1 fun e w' => e = .returned (.bool true) ∧ Below w1.heap.size w1 w') :
 Calls Tryz.prog 3 #[.agg #[.int .i64 k, .int .i64 l, .int .i64 e, .int .i64 t, .int .i64 a, .int .i64 b, .int .i64 o, .int .i64 s], .string sd, .agg (FL .i64 1024 f)] w fun e w' => e = .returned (.bool true) ∧ Below w.heap.size w w' := by
 have HP := Away.mk hP
 obtain ⟨hz, hsize⟩ := zero_of_info built.infoT
 obtain ⟨Zt, HZ⟩ := ex_eq TZ
 rw [HZ.out] at hz
 have HZs : Away (Zt.size = 465) := ⟨by rw [← HZ.out]; exact tz_size⟩
 have Hsize := Away.mk hsize
 obtain ⟨T, HT⟩ := ex_eq TA
 rw [HT.out] at HP1 HP2
 simp only [HT.out] at HR1 HR2
 have HTs : Away (T.size = 465) := ⟨by rw [← HT.out]; exact ta_size⟩
 have HTo : Away (T.all (·.oneCell') = true) := ⟨by rw [← HT.out]; exact ta_one⟩
 have HTz : Away ((Tryz.prog.info? 38).map (·.size) = some T.size) := ⟨by rw [HTs.out]; exact Hsize.out⟩
 have Hmk : Away (∀ w1 : World, Calls Tryz.prog 6 #[] w1 fun e w' => e = .returned (.agg T) ∧ Below w1.heap.size w1 w') := ⟨fun w1 => by rw [← HT.out]; exact rmake.make_any w1⟩
 clear HT HZ hsize
 obtain ⟨i0, hi0, hz0, hz1, hz2⟩ := rbitb.parts infoPoly
 obtain ⟨hzp, hsizep⟩ := zero_of_info polt.infoP
 obtain ⟨z, HZp⟩ := ex_eq (FL .i64 256 fun _ => 0)
 rw [HZp.out] at hzp hz0
 have HI := Away.mk (And.intro hi0 (And.intro hz0 (And.intro hz1 hz2)))
 have Hsizep := Away.mk hsizep
 clear hi0 hz0 hz1 hz2 hsizep HZp
 obtain ⟨L, HL⟩ := ex_eq (#[.int .i64 k, .int .i64 l, .int .i64 e, .int .i64 t, .int .i64 a, .int .i64 b, .int .i64 o, .int .i64 s] : Array Value)
 rw [HL.out] at HS1 HS2 HP1 HP2 ⊢
 have HLz : Away ((Tryz.prog.info? 23).map (·.size) = some L.size) := ⟨by rw [← HL.out]; kernel_rfl⟩
 clear HL
 have HS1 := Away.mk HS1
 have HS2 := Away.mk HS2
 have HP1 := Away.mk HP1
 have HP2 := Away.mk HP2
 have HR1 := Away.mk HR1
 have HR2 := Away.mk HR2
 have HA := Away.mk HA
 have cube : ∀ (w1 : World) (g : Nat) (ty : TypeId), w1.heap[g]? = some (.cells (FL .i64 1024 f) ty (0, 0)) → ∀ c, c < 4 → w1.rangeAt g (c * 256) (FL .i64 256 (pc f c)).toList := fun w1 g ty h c hc => range_at (m := c) (q := pc f c) (fun i hi => fl_at h (256 * c + i) (by omega))
 obtain ⟨M, HM⟩ := ex_eq (FL .i64 1024 f)
 rw [HM.out] at cube ⊢
 have Mi : Away ((Tryz.prog.info? 27).map (·.size) = some M.size) := ⟨by rw [← HM.out, fl_size]; kernel_rfl⟩
 obtain ⟨P0, H0⟩ := ex_eq (FL .i64 256 (pc f 0))
 obtain ⟨P1, H1⟩ := ex_eq (FL .i64 256 (pc f 1))
 obtain ⟨P2, H2⟩ := ex_eq (FL .i64 256 (pc f 2))
 obtain ⟨P3, H3⟩ := ex_eq (FL .i64 256 (pc f 3))
 have sP : ∀ q : Nat → Int, (Tryz.prog.info? 25).map (·.size) = some (FL .i64 256 q).toList.length := fun q => by rw [Array.length_toList, fl_size]; exact Hsizep.out
 have Z0 : Away ((Tryz.prog.info? 25).map (·.size) = some P0.toList.length) := ⟨by rw [← H0.out]; exact sP _⟩
 have Z1 : Away ((Tryz.prog.info? 25).map (·.size) = some P1.toList.length) := ⟨by rw [← H1.out]; exact sP _⟩
 have Z2 : Away ((Tryz.prog.info? 25).map (·.size) = some P2.toList.length) := ⟨by rw [← H2.out]; exact sP _⟩
 have Z3 : Away ((Tryz.prog.info? 25).map (·.size) = some P3.toList.length) := ⟨by rw [← H3.out]; exact sP _⟩
 have S2 : Away (P2.size = 256) := ⟨by rw [← H2.out]; exact fl_size _ _ _⟩
 obtain ⟨W0, hW0⟩ : ∃ x, (w.alloc (.cells L 23)).alloc (.cells M 27) = x := ⟨_, rfl⟩
 obtain ⟨r0, r1, hWs, b0⟩ := polt.two hW0
 have LB : Away (∀ w' : World, Below W0.heap.size W0 w' → w'.heap[w.heap.size]? = some (.cells L 23 (0, 0))) := ⟨fun w' hb => (hb.block _ (by rw [hWs]; omega)).trans r0⟩
 have MB : ∀ w' : World, Below W0.heap.size W0 w' → ∀ c, c < 4 → w'.rangeAt (w.heap.size + 1) (c * 256) (FL .i64 256 (pc f c)).toList := fun w' hb => cube w' _ _ ((hb.block _ (by rw [hWs]; omega)).trans r1)
 have M0 : Away (∀ w' : World, Below W0.heap.size W0 w' → w'.rangeAt (w.heap.size + 1) 0 P0.toList) := ⟨fun w' hb => by rw [← H0.out]; exact MB w' hb 0 (by decide)⟩
 have M1 : Away (∀ w' : World, Below W0.heap.size W0 w' → w'.rangeAt (w.heap.size + 1) 256 P1.toList) := ⟨fun w' hb => by rw [← H1.out]; exact MB w' hb 1 (by decide)⟩
 have M2 : Away (∀ w' : World, Below W0.heap.size W0 w' → w'.rangeAt (w.heap.size + 1) 512 P2.toList) := ⟨fun w' hb => by rw [← H2.out]; exact MB w' hb 2 (by decide)⟩
 have M3 : Away (∀ w' : World, Below W0.heap.size W0 w' → w'.rangeAt (w.heap.size + 1) 768 P3.toList) := ⟨fun w' hb => by rw [← H3.out]; exact MB w' hb 3 (by decide)⟩
 have B0 : Away (Below w.heap.size w W0) := ⟨b0⟩
 have HW0 := Away.mk hW0
 have hbz : ¬ (200 : Int) < (sd.size : Int) := by omega
 clear hP hW0 r0 r1 hWs b0 MB cube HM sP hsd
 go_enter Tryz.func3, Tryz.ntmps3
 go_wp2_with (rw [HW0.out])
 refine (Hmk.out _).mono ?_
 rintro x w1 ⟨rfl, hb1⟩
 obtain ⟨W1, hW1⟩ : ∃ x, w1.alloc (.cells T 38) = x := ⟨_, rfl⟩
 obtain ⟨r1, hs1, b1⟩ := polt.one hW1
 have HW1 := Away.mk hW1
 have E1 : Away (Below W0.heap.size W0 W1) := ⟨hb1.trans (b1.mono hb1.size)⟩
 have TB : Away (∀ w' : World, Below W1.heap.size W1 w' → w'.heap[w1.heap.size]? = some (.cells T 38 (0, 0))) := ⟨fun w' hb => (hb.block _ (lt_of_row r1)).trans r1⟩
 clear hb1 hW1 r1 hs1 b1
 go_wp2_with (first
  | (refine wpList_store_new rfl 38 _ _ rfl _ rfl rfl HTz.out (by rw [HTs.out]; exact HZs.out) HTo.out rfl ?_)
  | (rw [HW1.out])
  | (refine wpList_load_row rfl 23 _ rfl w.heap.size rfl 23 L (0, 0) _ (LB.out _ E1.out) Tryz.underlying23 rfl HLz.out ?_))
 refine (HS1.out _).mono ?_
 rintro x w2 ⟨rfl, hb2⟩
 have D2 : Away (Below W1.heap.size W1 w2) := ⟨hb2⟩
 have E2 : Away (Below W0.heap.size W0 w2) := ⟨E1.out.trans (hb2.mono E1.out.size)⟩
 clear hb2
 go_wp2_with (refine wpList_load_row rfl 23 _ rfl w.heap.size rfl 23 L (0, 0) _ (LB.out _ E2.out) Tryz.underlying23 rfl HLz.out ?_)
 refine (HS2.out _).mono ?_
 rintro x w3 ⟨rfl, hb3⟩
 have D3 : Away (Below W1.heap.size W1 w3) := ⟨D2.out.trans (hb3.mono D2.out.size)⟩
 have E3 : Away (Below W0.heap.size W0 w3) := ⟨E1.out.trans (D3.out.mono E1.out.size)⟩
 clear hb3
 go_wp2_with (first
  | (refine wpList_load_row rfl 38 _ rfl w1.heap.size rfl 38 T (0, 0) _ (TB.out _ D3.out) Tryz.underlying38 rfl HTz.out ?_)
  | (refine wpList_load_row rfl 23 _ rfl w.heap.size rfl 23 L (0, 0) _ (LB.out _ E3.out) Tryz.underlying23 rfl HLz.out ?_))
 refine (HP1.out _ (HP.out.later (B0.out.trans (E3.out.mono B0.out.size)))).mono ?_
 rintro x w4 ⟨rfl, hb4⟩
 have D4 : Away (Below W1.heap.size W1 w4) := ⟨D3.out.trans (hb4.mono D3.out.size)⟩
 have E4 : Away (Below W0.heap.size W0 w4) := ⟨E1.out.trans (D4.out.mono E1.out.size)⟩
 clear hb4
 go_wp2_with (first
  | (refine wpList_load_row rfl 38 _ rfl w1.heap.size rfl 38 T (0, 0) _ (TB.out _ D4.out) Tryz.underlying38 rfl HTz.out ?_)
  | (refine wpList_load_row rfl 23 _ rfl w.heap.size rfl 23 L (0, 0) _ (LB.out _ E4.out) Tryz.underlying23 rfl HLz.out ?_))
 refine (HP2.out _).mono ?_
 rintro x w5 ⟨rfl, hb5⟩
 have D5 : Away (Below W1.heap.size W1 w5) := ⟨D4.out.trans (hb5.mono D4.out.size)⟩
 have E5 : Away (Below W0.heap.size W0 w5) := ⟨E1.out.trans (D5.out.mono E1.out.size)⟩
 clear hb5 D2 D3 D4 E2 E3 E4
 obtain ⟨W6, hW6⟩ : ∃ x, w5.alloc (.cells (RW 2 (pair (pc f 0) (pc f 1))) 25) = x := ⟨_, rfl⟩
 obtain ⟨r6, hs6, b6⟩ := polt.one hW6
 obtain ⟨W7, hW7⟩ : ∃ x, W6.alloc (.cells P2 25) = x := ⟨_, rfl⟩
 obtain ⟨r7, hs7, b7⟩ := polt.one hW7
 obtain ⟨W8, hW8⟩ : ∃ x, W7.alloc (.cells #[.slice (some ⟨w5.heap.size, 0, none⟩) 2 2, .slice (some ⟨W6.heap.size, 0, none⟩) 1 1] 45) = x := ⟨_, rfl⟩
 obtain ⟨r8, hs8, b8⟩ := polt.one hW8
 have E6 : Away (Below W0.heap.size W0 W6) := ⟨E5.out.trans (b6.mono E5.out.size)⟩
 have E7 : Away (Below W0.heap.size W0 W7) := ⟨E6.out.trans (b7.mono E6.out.size)⟩
 have E8 : Away (Below W0.heap.size W0 W8) := ⟨E7.out.trans (b8.mono E7.out.size)⟩
 have c68 : Below W6.heap.size W6 W8 := b7.trans (b8.mono b7.size)
 have D8 : Away (Below W1.heap.size W1 W8) := ⟨D5.out.trans ((b6.trans (c68.mono b6.size)).mono D5.out.size)⟩
 have HMX : Away (MX W8 (.slice (some ⟨W7.heap.size, 0, none⟩) 2 2) 2 nn (xx f)) := ⟨by
  have r68 := (c68.block _ (lt_of_row r6)).trans r6
  have r78 := (b8.block _ (lt_of_row r7)).trans r7
  refine ⟨_, _, rfl, lt_of_row r8, fun r hr => ?_⟩
  by_cases e0 : r = 0
  ·subst e0
   exact ⟨w5.heap.size, 2, cell_at r8 rfl, lt_of_row r68, fun j hj i hi => rw_cell r68 j i hj hi⟩
  ·obtain rfl : r = 1 := by omega
   refine ⟨W6.heap.size, 1, cell_at r8 rfl, lt_of_row r78, fun j hj i hi => ?_⟩
   obtain rfl : j = 0 := by unfold nn at hj; simp at hj; omega
   rw [← H2.out] at r78
   rw [Nat.mul_zero, Nat.zero_add]
   exact fl_at r78 i hi⟩
 have HW6 := Away.mk hW6
 have HW7 := Away.mk hW7
 have HW8 := Away.mk hW8
 clear hW6 hW7 hW8 r6 r7 r8 hs6 hs7 hs8 b6 b7 b8 c68
 go_wp2_with (first
  | ((with_reducible refine wpList_load_mid rfl 25 _ rfl (w.heap.size + 1) 0 ?hx P0.toList _ (M0.out _ E5.out) Tryz.underlying25 rfl Z0.out ?_); (case hx => rfl))
  | ((with_reducible refine wpList_load_mid rfl 25 _ rfl (w.heap.size + 1) 256 ?hx P1.toList _ (M1.out _ E5.out) Tryz.underlying25 rfl Z1.out ?_); (case hx => rfl))
  | ((with_reducible refine wpList_load_mid rfl 25 _ rfl (w.heap.size + 1) 512 ?hx P2.toList _ (M2.out _ E6.out) Tryz.underlying25 rfl Z2.out ?_); (case hx => rfl))
  | (refine wpList_buildTwo rfl 45 25 _ _ rfl (pc f 0) (pc f 1) P0 P1 H0.out H1.out i0 z Tryz.underlying45 HI.out.1 HI.out.2.1 HI.out.2.2.1 rfl rfl ?_)
  | (refine wpList_buildOne rfl 45 25 _ rfl P2 S2.out i0 z Tryz.underlying45 HI.out.1 HI.out.2.1 HI.out.2.2.1 rfl ?_)
  | (rw [HW6.out])
  | (rw [HW7.out])
  | (rw [HW8.out]))
 have KT : Away (∀ w' : World, Below W8.heap.size W8 w' → w'.heap[w1.heap.size]? = some (.cells T 38 (0, 0))) := ⟨fun w' hb => TB.out w' (D8.out.trans (hb.mono D8.out.size))⟩
 have K0 : Away (∀ w' : World, Below W8.heap.size W8 w' → w'.rangeAt (w.heap.size + 1) 0 P0.toList) := ⟨fun w' hb => M0.out w' (E8.out.trans (hb.mono E8.out.size))⟩
 have K3 : Away (∀ w' : World, Below W8.heap.size W8 w' → w'.rangeAt (w.heap.size + 1) 768 P3.toList) := ⟨fun w' hb => M3.out w' (E8.out.trans (hb.mono E8.out.size))⟩
 clear M0 M1 M2 M3 TB HW0 HW1 HW6 HW7 HW8 LB
 refine hk_begin W8.heap.size 55 [0, 1, 2, 3, 4, 5, 6, 7, 8, 9, 10, 11, 12, 13, 14, 15, 16, 17, 18, 19, 20, 21, 22, 23, 24, 25, 26, 27, 28, 29, 30, 31, 32, 33, 34, 35, 36, 39, 40, 41, 42, 43, 44, 45, 46, 37, 38, 47, 48, 49, 50, 51, 52, 53, 54] (by kernel_rfl) rfl rfl (by decide) (fun hS ops HO => ?_)
 simp only [List.filterMap_cons, List.filterMap_nil, List.getElem?_cons_succ, List.getElem?_cons_zero]
 (focus (refine hk_take (v := ?_) (by rw [← HO.out]; kernel_rfl) (by rw [← HO.out]; kernel_rfl) (by rw [← HO.out]; kernel_rfl) (by rw [← HO.out]; kernel_rfl) (fun _ _ _ h => h) ?_ hS ?_; rotate_left; focus (intro w9 h9; go_simp; first | done | with_reducible rfl); all_goals skip))
 simp only [Act.put, List.setIfInBounds_toArray, List.set_cons_zero, List.set_cons_succ]
 (focus (refine hk_take (v := ?_) (by rw [← HO.out]; kernel_rfl) (by rw [← HO.out]; kernel_rfl) (by rw [← HO.out]; kernel_rfl) (by rw [← HO.out]; kernel_rfl) (fun _ _ _ h => h) ?_ hS ?_; rotate_left; focus (intro w9 h9; go_simp; first | done | with_reducible rfl); all_goals skip))
 simp only [Act.put, List.setIfInBounds_toArray, List.set_cons_zero, List.set_cons_succ]
 (focus (refine hk_take (v := ?_) (by rw [← HO.out]; kernel_rfl) (by rw [← HO.out]; kernel_rfl) (by rw [← HO.out]; kernel_rfl) (by rw [← HO.out]; kernel_rfl) (fun _ _ _ h => h) ?_ hS ?_; rotate_left; focus (intro w9 h9; go_simp; first | done | with_reducible rfl); all_goals skip))
 simp only [Act.put, List.setIfInBounds_toArray, List.set_cons_zero, List.set_cons_succ]
 (focus (refine hk_take (v := ?_) (by rw [← HO.out]; kernel_rfl) (by rw [← HO.out]; kernel_rfl) (by rw [← HO.out]; kernel_rfl) (by rw [← HO.out]; kernel_rfl) (fun _ _ _ h => h) ?_ hS ?_; rotate_left; focus (intro w9 h9; go_simp; first | done | with_reducible rfl); all_goals skip))
 simp only [Act.put, List.setIfInBounds_toArray, List.set_cons_zero, List.set_cons_succ]
 (focus (refine hk_take (v := ?_) (by rw [← HO.out]; kernel_rfl) (by rw [← HO.out]; kernel_rfl) (by rw [← HO.out]; kernel_rfl) (by rw [← HO.out]; kernel_rfl) (fun _ _ _ h => h) ?_ hS ?_; rotate_left; focus (intro w9 h9; go_simp; first | done | with_reducible rfl); all_goals skip))
 simp only [Act.put, List.setIfInBounds_toArray, List.set_cons_zero, List.set_cons_succ]
 (focus (refine hk_take (v := ?_) (by rw [← HO.out]; kernel_rfl) (by rw [← HO.out]; kernel_rfl) (by rw [← HO.out]; kernel_rfl) (by rw [← HO.out]; kernel_rfl) (fun _ _ _ h => h) ?_ hS ?_; rotate_left; focus (intro w9 h9; go_simp; first | done | with_reducible rfl); all_goals skip))
 simp only [Act.put, List.setIfInBounds_toArray, List.set_cons_zero, List.set_cons_succ]
 (focus (refine hk_take (v := ?_) (by rw [← HO.out]; kernel_rfl) (by rw [← HO.out]; kernel_rfl) (by rw [← HO.out]; kernel_rfl) (by rw [← HO.out]; kernel_rfl) (fun _ _ _ h => h) ?_ hS ?_; rotate_left; focus (intro w9 h9; go_simp; first | done | with_reducible rfl); all_goals skip))
 simp only [Act.put, List.setIfInBounds_toArray, List.set_cons_zero, List.set_cons_succ]
 (focus (refine hk_take (v := ?_) (by rw [← HO.out]; kernel_rfl) (by rw [← HO.out]; kernel_rfl) (by rw [← HO.out]; kernel_rfl) (by rw [← HO.out]; kernel_rfl) (fun _ _ _ h => h) ?_ hS ?_; rotate_left; focus (intro w9 h9; go_simp; first | done | with_reducible rfl); all_goals skip))
 simp only [Act.put, List.setIfInBounds_toArray, List.set_cons_zero, List.set_cons_succ]
 (focus (refine hk_take (v := ?_) (by rw [← HO.out]; kernel_rfl) (by rw [← HO.out]; kernel_rfl) (by rw [← HO.out]; kernel_rfl) (by rw [← HO.out]; kernel_rfl) (fun _ _ _ h => h) ?_ hS ?_; rotate_left; focus (intro w9 h9; go_simp; first | done | with_reducible rfl); all_goals skip))
 simp only [Act.put, List.setIfInBounds_toArray, List.set_cons_zero, List.set_cons_succ]
 (focus (refine hk_take (v := ?_) (by rw [← HO.out]; kernel_rfl) (by rw [← HO.out]; kernel_rfl) (by rw [← HO.out]; kernel_rfl) (by rw [← HO.out]; kernel_rfl) (fun _ _ _ h => h) ?_ hS ?_; rotate_left; focus (intro w9 h9; go_simp; first | done | with_reducible rfl); all_goals skip))
 simp only [Act.put, List.setIfInBounds_toArray, List.set_cons_zero, List.set_cons_succ]
 (focus (refine hk_take (v := ?_) (by rw [← HO.out]; kernel_rfl) (by rw [← HO.out]; kernel_rfl) (by rw [← HO.out]; kernel_rfl) (by rw [← HO.out]; kernel_rfl) (fun _ _ _ h => h) ?_ hS ?_; rotate_left; focus (intro w9 h9; go_simp; first | done | with_reducible rfl); all_goals skip))
 simp only [Act.put, List.setIfInBounds_toArray, List.set_cons_zero, List.set_cons_succ]
 (focus (refine hk_take (v := ?_) (by rw [← HO.out]; kernel_rfl) (by rw [← HO.out]; kernel_rfl) (by rw [← HO.out]; kernel_rfl) (by rw [← HO.out]; kernel_rfl) (fun _ _ _ h => h) ?_ hS ?_; rotate_left; focus (intro w9 h9; go_simp; first | done | with_reducible rfl); all_goals skip))
 simp only [Act.put, List.setIfInBounds_toArray, List.set_cons_zero, List.set_cons_succ]
 (focus (refine hk_take (v := ?_) (by rw [← HO.out]; kernel_rfl) (by rw [← HO.out]; kernel_rfl) (by rw [← HO.out]; kernel_rfl) (by rw [← HO.out]; kernel_rfl) (fun _ _ _ h => h) ?_ hS ?_; rotate_left; focus (intro w9 h9; go_simp; first | done | with_reducible rfl); all_goals skip))
 simp only [Act.put, List.setIfInBounds_toArray, List.set_cons_zero, List.set_cons_succ]
 (focus (refine hk_take (v := ?_) (by rw [← HO.out]; kernel_rfl) (by rw [← HO.out]; kernel_rfl) (by rw [← HO.out]; kernel_rfl) (by rw [← HO.out]; kernel_rfl) (fun _ _ _ h => h) ?_ hS ?_; rotate_left; focus (intro w9 h9; go_simp; first | done | with_reducible rfl); all_goals skip))
 simp only [Act.put, List.setIfInBounds_toArray, List.set_cons_zero, List.set_cons_succ]
 (focus (refine hk_take (v := ?_) (by rw [← HO.out]; kernel_rfl) (by rw [← HO.out]; kernel_rfl) (by rw [← HO.out]; kernel_rfl) (by rw [← HO.out]; kernel_rfl) (fun _ _ _ h => h) ?_ hS ?_; rotate_left; focus (intro w9 h9; go_simp; first | done | with_reducible rfl); all_goals skip))
 simp only [Act.put, List.setIfInBounds_toArray, List.set_cons_zero, List.set_cons_succ]
 (focus (refine hk_take (v := ?_) (by rw [← HO.out]; kernel_rfl) (by rw [← HO.out]; kernel_rfl) (by rw [← HO.out]; kernel_rfl) (by rw [← HO.out]; kernel_rfl) (fun _ _ _ h => h) ?_ hS ?_; rotate_left; focus (intro w9 h9; go_simp; first | done | with_reducible rfl); all_goals skip))
 simp only [Act.put, List.setIfInBounds_toArray, List.set_cons_zero, List.set_cons_succ]
 (focus (refine hk_take (v := ?_) (by rw [← HO.out]; kernel_rfl) (by rw [← HO.out]; kernel_rfl) (by rw [← HO.out]; kernel_rfl) (by rw [← HO.out]; kernel_rfl) (fun _ _ _ h => h) ?_ hS ?_; rotate_left; focus (intro w9 h9; go_simp; first | done | with_reducible rfl); all_goals skip))
 simp only [Act.put, List.setIfInBounds_toArray, List.set_cons_zero, List.set_cons_succ]
 (focus (refine hk_take (v := ?_) (by rw [← HO.out]; kernel_rfl) (by rw [← HO.out]; kernel_rfl) (by rw [← HO.out]; kernel_rfl) (by rw [← HO.out]; kernel_rfl) (fun _ _ _ h => h) ?_ hS ?_; rotate_left; focus (intro w9 h9; go_simp; first | done | with_reducible rfl); all_goals skip))
 simp only [Act.put, List.setIfInBounds_toArray, List.set_cons_zero, List.set_cons_succ]
 (focus (refine hk_take (v := ?_) (by rw [← HO.out]; kernel_rfl) (by rw [← HO.out]; kernel_rfl) (by rw [← HO.out]; kernel_rfl) (by rw [← HO.out]; kernel_rfl) (fun _ _ _ h => h) ?_ hS ?_; rotate_left; focus (intro w9 h9; go_simp; first | done | with_reducible rfl); all_goals skip))
 simp only [Act.put, List.setIfInBounds_toArray, List.set_cons_zero, List.set_cons_succ]
 (focus (refine hk_take (v := ?_) (by rw [← HO.out]; kernel_rfl) (by rw [← HO.out]; kernel_rfl) (by rw [← HO.out]; kernel_rfl) (by rw [← HO.out]; kernel_rfl) (fun _ _ _ h => h) ?_ hS ?_; rotate_left; focus (intro w9 h9; go_simp; first | done | with_reducible rfl); all_goals skip))
 simp only [Act.put, List.setIfInBounds_toArray, List.set_cons_zero, List.set_cons_succ]
 (focus (refine hk_take (v := ?_) (by rw [← HO.out]; kernel_rfl) (by rw [← HO.out]; kernel_rfl) (by rw [← HO.out]; kernel_rfl) (by rw [← HO.out]; kernel_rfl) (fun _ _ _ h => h) ?_ hS ?_; rotate_left; focus (intro w9 h9; go_simp; first | done | with_reducible rfl); all_goals skip))
 simp only [Act.put, List.setIfInBounds_toArray, List.set_cons_zero, List.set_cons_succ]
 (focus (refine hk_take (v := ?_) (by rw [← HO.out]; kernel_rfl) (by rw [← HO.out]; kernel_rfl) (by rw [← HO.out]; kernel_rfl) (by rw [← HO.out]; kernel_rfl) (fun _ _ _ h => h) ?_ hS ?_; rotate_left; focus (intro w9 h9; go_simp; first | done | with_reducible rfl); all_goals skip))
 simp only [Act.put, List.setIfInBounds_toArray, List.set_cons_zero, List.set_cons_succ]
 (focus (refine hk_take (v := ?_) (by rw [← HO.out]; kernel_rfl) (by rw [← HO.out]; kernel_rfl) (by rw [← HO.out]; kernel_rfl) (by rw [← HO.out]; kernel_rfl) (fun _ _ _ h => h) ?_ hS ?_; rotate_left; focus (intro w9 h9; go_simp; first | done | with_reducible rfl); all_goals skip))
 simp only [Act.put, List.setIfInBounds_toArray, List.set_cons_zero, List.set_cons_succ]
 (focus (refine hk_take (v := ?_) (by rw [← HO.out]; kernel_rfl) (by rw [← HO.out]; kernel_rfl) (by rw [← HO.out]; kernel_rfl) (by rw [← HO.out]; kernel_rfl) (fun _ _ _ h => h) ?_ hS ?_; rotate_left; focus (intro w9 h9; go_simp; first | done | with_reducible rfl); all_goals skip))
 simp only [Act.put, List.setIfInBounds_toArray, List.set_cons_zero, List.set_cons_succ]
 (focus (refine hk_take (v := ?_) (by rw [← HO.out]; kernel_rfl) (by rw [← HO.out]; kernel_rfl) (by rw [← HO.out]; kernel_rfl) (by rw [← HO.out]; kernel_rfl) (fun _ _ _ h => h) ?_ hS ?_; rotate_left; focus (intro w9 h9; go_simp; first | done | with_reducible rfl); all_goals skip))
 simp only [Act.put, List.setIfInBounds_toArray, List.set_cons_zero, List.set_cons_succ]
 (focus (refine hk_take (v := ?_) (by rw [← HO.out]; kernel_rfl) (by rw [← HO.out]; kernel_rfl) (by rw [← HO.out]; kernel_rfl) (by rw [← HO.out]; kernel_rfl) (fun _ _ _ h => h) ?_ hS ?_; rotate_left; focus (intro w9 h9; go_simp; first | done | with_reducible rfl); all_goals skip))
 simp only [Act.put, List.setIfInBounds_toArray, List.set_cons_zero, List.set_cons_succ]
 (focus (refine hk_take (v := ?_) (by rw [← HO.out]; kernel_rfl) (by rw [← HO.out]; kernel_rfl) (by rw [← HO.out]; kernel_rfl) (by rw [← HO.out]; kernel_rfl) (fun _ _ _ h => h) ?_ hS ?_; rotate_left; focus (intro w9 h9; go_simp; first | done | with_reducible rfl); all_goals skip))
 simp only [Act.put, List.setIfInBounds_toArray, List.set_cons_zero, List.set_cons_succ]
 (focus (refine hk_take (v := ?_) (by rw [← HO.out]; kernel_rfl) (by rw [← HO.out]; kernel_rfl) (by rw [← HO.out]; kernel_rfl) (by rw [← HO.out]; kernel_rfl) (fun _ _ _ h => h) ?_ hS ?_; rotate_left; focus (intro w9 h9; go_simp; first | done | with_reducible rfl); all_goals skip))
 simp only [Act.put, List.setIfInBounds_toArray, List.set_cons_zero, List.set_cons_succ]
 (focus (refine hk_take (v := ?_) (by rw [← HO.out]; kernel_rfl) (by rw [← HO.out]; kernel_rfl) (by rw [← HO.out]; kernel_rfl) (by rw [← HO.out]; kernel_rfl) (fun _ _ _ h => h) ?_ hS ?_; rotate_left; focus (intro w9 h9; go_simp; first | done | with_reducible rfl); all_goals skip))
 simp only [Act.put, List.setIfInBounds_toArray, List.set_cons_zero, List.set_cons_succ]
 refine hk_load (by rw [← HO.out]; kernel_rfl) (by rw [← HO.out]; kernel_rfl) (by rw [← HO.out]; kernel_rfl) (by rw [← HO.out]; kernel_rfl) (fun _ _ _ _ h => h) 38 _ rfl w1.heap.size rfl 38 T _ KT.out Tryz.underlying38 rfl HTz.out hS ?_
 simp only [Act.put, List.setIfInBounds_toArray, List.set_cons_zero, List.set_cons_succ]
 (focus (refine hk_take (v := ?_) (by rw [← HO.out]; kernel_rfl) (by rw [← HO.out]; kernel_rfl) (by rw [← HO.out]; kernel_rfl) (by rw [← HO.out]; kernel_rfl) (fun _ _ _ h => h) ?_ hS ?_; rotate_left; focus (intro w9 h9; go_simp; first | done | with_reducible rfl); all_goals skip))
 simp only [Act.put, List.setIfInBounds_toArray, List.set_cons_zero, List.set_cons_succ]
 (focus (refine hk_take (v := ?_) (by rw [← HO.out]; kernel_rfl) (by rw [← HO.out]; kernel_rfl) (by rw [← HO.out]; kernel_rfl) (by rw [← HO.out]; kernel_rfl) (fun _ _ _ h => h) ?_ hS ?_; rotate_left; focus (intro w9 h9; go_simp; first | done | with_reducible rfl); all_goals skip))
 simp only [Act.put, List.setIfInBounds_toArray, List.set_cons_zero, List.set_cons_succ]
 (focus (refine hk_take (v := ?_) (by rw [← HO.out]; kernel_rfl) (by rw [← HO.out]; kernel_rfl) (by rw [← HO.out]; kernel_rfl) (by rw [← HO.out]; kernel_rfl) (fun _ _ _ h => h) ?_ hS ?_; rotate_left; focus (intro w9 h9; go_simp; first | done | with_reducible rfl); all_goals skip))
 simp only [Act.put, List.setIfInBounds_toArray, List.set_cons_zero, List.set_cons_succ]
 refine hk_mid (by rw [← HO.out]; kernel_rfl) (by rw [← HO.out]; kernel_rfl) (by rw [← HO.out]; kernel_rfl) (by rw [← HO.out]; kernel_rfl) (fun _ _ _ _ h => h) 25 _ rfl (w.heap.size + 1) 768 rfl P3.toList _ K3.out Tryz.underlying25 rfl Z3.out hS ?_
 simp only [Act.put, List.setIfInBounds_toArray, List.set_cons_zero, List.set_cons_succ]
 (focus (refine hk_take (v := ?_) (by rw [← HO.out]; kernel_rfl) (by rw [← HO.out]; kernel_rfl) (by rw [← HO.out]; kernel_rfl) (by rw [← HO.out]; kernel_rfl) (fun _ _ _ h => h) ?_ hS ?_; rotate_left; focus (intro w9 h9; go_simp; first | done | with_reducible rfl); all_goals skip))
 simp only [Act.put, List.setIfInBounds_toArray, List.set_cons_zero, List.set_cons_succ]
 (focus (refine hk_take (v := ?_) (by rw [← HO.out]; kernel_rfl) (by rw [← HO.out]; kernel_rfl) (by rw [← HO.out]; kernel_rfl) (by rw [← HO.out]; kernel_rfl) (fun _ _ _ h => h) ?_ hS ?_; rotate_left; focus (intro w9 h9; go_simp; first | done | with_reducible rfl); all_goals skip))
 simp only [Act.put, List.setIfInBounds_toArray, List.set_cons_zero, List.set_cons_succ]
 refine hk_mid (by rw [← HO.out]; kernel_rfl) (by rw [← HO.out]; kernel_rfl) (by rw [← HO.out]; kernel_rfl) (by rw [← HO.out]; kernel_rfl) (fun _ _ _ _ h => h) 25 _ rfl (w.heap.size + 1) 0 rfl P0.toList _ K0.out Tryz.underlying25 rfl Z0.out hS ?_
 simp only [Act.put, List.setIfInBounds_toArray, List.set_cons_zero, List.set_cons_succ]
 refine hk_load (by rw [← HO.out]; kernel_rfl) (by rw [← HO.out]; kernel_rfl) (by rw [← HO.out]; kernel_rfl) (by rw [← HO.out]; kernel_rfl) (fun _ _ _ _ h => h) 38 _ rfl w1.heap.size rfl 38 T _ KT.out Tryz.underlying38 rfl HTz.out hS ?_
 simp only [Act.put, List.setIfInBounds_toArray, List.set_cons_zero, List.set_cons_succ]
 (focus (refine hk_take (v := ?_) (by rw [← HO.out]; kernel_rfl) (by rw [← HO.out]; kernel_rfl) (by rw [← HO.out]; kernel_rfl) (by rw [← HO.out]; kernel_rfl) (fun _ _ _ h => h) ?_ hS ?_; rotate_left; focus (intro w9 h9; go_simp; first | done | with_reducible rfl); all_goals skip))
 simp only [Act.put, List.setIfInBounds_toArray, List.set_cons_zero, List.set_cons_succ]
 (focus (refine hk_take (v := ?_) (by rw [← HO.out]; kernel_rfl) (by rw [← HO.out]; kernel_rfl) (by rw [← HO.out]; kernel_rfl) (by rw [← HO.out]; kernel_rfl) (fun _ _ _ h => h) ?_ hS ?_; rotate_left; focus (intro w9 h9; go_simp; first | done | with_reducible rfl); all_goals skip))
 simp only [Act.put, List.setIfInBounds_toArray, List.set_cons_zero, List.set_cons_succ]
 (focus (refine hk_take (v := ?_) (by rw [← HO.out]; kernel_rfl) (by rw [← HO.out]; kernel_rfl) (by rw [← HO.out]; kernel_rfl) (by rw [← HO.out]; kernel_rfl) (fun _ _ _ h => h) ?_ hS ?_; rotate_left; focus (intro w9 h9; go_simp; first | done | with_reducible rfl); all_goals skip))
 simp only [Act.put, List.setIfInBounds_toArray, List.set_cons_zero, List.set_cons_succ]
 refine hk_mid (by rw [← HO.out]; kernel_rfl) (by rw [← HO.out]; kernel_rfl) (by rw [← HO.out]; kernel_rfl) (by rw [← HO.out]; kernel_rfl) (fun _ _ _ _ h => h) 25 _ rfl (w.heap.size + 1) 768 rfl P3.toList _ K3.out Tryz.underlying25 rfl Z3.out hS ?_
 simp only [Act.put, List.setIfInBounds_toArray, List.set_cons_zero, List.set_cons_succ]
 (focus (refine hk_take (v := ?_) (by rw [← HO.out]; kernel_rfl) (by rw [← HO.out]; kernel_rfl) (by rw [← HO.out]; kernel_rfl) (by rw [← HO.out]; kernel_rfl) (fun _ _ _ h => h) ?_ hS ?_; rotate_left; focus (intro w9 h9; go_simp; first | done | with_reducible rfl); all_goals skip))
 simp only [Act.put, List.setIfInBounds_toArray, List.set_cons_zero, List.set_cons_succ]
 (focus (refine hk_take (v := ?_) (by rw [← HO.out]; kernel_rfl) (by rw [← HO.out]; kernel_rfl) (by rw [← HO.out]; kernel_rfl) (by rw [← HO.out]; kernel_rfl) (fun _ _ _ h => h) ?_ hS ?_; rotate_left; focus (intro w9 h9; go_simp; first | done | with_reducible rfl); all_goals skip))
 simp only [Act.put, List.setIfInBounds_toArray, List.set_cons_zero, List.set_cons_succ]
 refine hk_mid (by rw [← HO.out]; kernel_rfl) (by rw [← HO.out]; kernel_rfl) (by rw [← HO.out]; kernel_rfl) (by rw [← HO.out]; kernel_rfl) (fun _ _ _ _ h => h) 25 _ rfl (w.heap.size + 1) 0 rfl P0.toList _ K0.out Tryz.underlying25 rfl Z0.out hS ?_
 simp only [Act.put, List.setIfInBounds_toArray, List.set_cons_zero, List.set_cons_succ]
 refine fk_act (fun A0 HA0 => ?_)
 refine hk_fork 103 104 113 (by decide) (by decide) (fun v1 w' => Holds w' 0 v1 2 (yy f)) (fun v3 w' => Holds w' 0 v3 2 (yy f)) (fun v1 v2 w' => Holds w' 0 v2 2 res) (fun v1 v3 w' => Holds w' 0 v1 2 (yy f) ∧ Holds w' 0 v3 2 (yy f)) (fun v1 v2 v3 w' => Holds w' 0 v2 2 res ∧ Holds w' 0 v3 2 (yy f)) (by rw [← HO.out]; kernel_rfl) (by rw [← HO.out]; kernel_rfl) (by rw [← HO.out]; kernel_rfl) (by rw [← HO.out]; kernel_rfl) (by rw [← HO.out]; kernel_rfl) (by decide) (by decide) (by rw [← HO.out, ← HA0.out]; kernel_rfl) (by rw [← HO.out, ← HA0.out]; kernel_rfl) (fun _ => by rw [← HO.out, ← HA0.out]; kernel_rfl) (fun _ => by rw [← HO.out, ← HA0.out]; kernel_rfl) (fun _ => by rw [← HO.out, ← HA0.out]; kernel_rfl) (fun _ _ => by rw [← HO.out, ← HA0.out]; kernel_rfl) (fun _ _ => by rw [← HO.out, ← HA0.out]; kernel_rfl)
  (fun K hK => wp_buildTwo 45 25 _ _ rfl (pc f 3) (pc f 0) P3 P0 H3.out H0.out i0 z Tryz.underlying45 HI.out.1 HI.out.2.1 HI.out.2.2.1 (by rw [← HA0.out]; rfl) (by rw [← HA0.out]; rfl) (hK _ _ (hS.alloc hS.size _) (built_two _ _)))
  (fun v1 w2 hs hi K hK => by
  refine wp_call3 12 _ _ _ _ rfl Tryz.call12 (.agg T) (.slice (some ⟨W7.heap.size, 0, none⟩) 2 2) v1 (by rw [← HA0.out]; rfl) (by rw [← HA0.out]; rfl) (by rw [← HA0.out]; rfl) ?_
  refine (HR1.out w2 (.slice (some ⟨W7.heap.size, 0, none⟩) 2 2) v1 (HP.out.later (B0.out.trans ((E8.out.trans (hs.mono E8.out.size)).mono B0.out.size))) (mx_later HMX.out hs) hi).mono ?_
  rintro x w3 ⟨⟨v2, rfl, h2⟩, hb⟩
  exact ⟨v2, rfl, hK v2 w3 (hs.trans (hb.mono hs.size)) h2⟩)
  (fun v1 v2 w2 hs hi K hK => wp_buildTwo 45 25 _ _ rfl (pc f 3) (pc f 0) P3 P0 H3.out H0.out i0 z Tryz.underlying45 HI.out.1 HI.out.2.1 HI.out.2.2.1 (by rw [← HA0.out]; rfl) (by rw [← HA0.out]; rfl) (hK _ _ (hs.alloc hs.size _) ⟨hi.later (below_alloc _ _), built_two _ _⟩))
  (fun v1 w2 hs hi K hK => wp_buildTwo 45 25 _ _ rfl (pc f 3) (pc f 0) P3 P0 H3.out H0.out i0 z Tryz.underlying45 HI.out.1 HI.out.2.1 HI.out.2.2.1 (by rw [← HA0.out]; rfl) (by rw [← HA0.out]; rfl) (hK _ _ (hs.alloc hs.size _) ⟨hi.later (below_alloc _ _), built_two _ _⟩))
  (fun v1 v3 w2 hs hi K hK => by
  refine wp_call3 12 _ _ _ _ rfl Tryz.call12 (.agg T) (.slice (some ⟨W7.heap.size, 0, none⟩) 2 2) v1 (by rw [← HA0.out]; rfl) (by rw [← HA0.out]; rfl) (by rw [← HA0.out]; rfl) ?_
  refine (HR1.out w2 (.slice (some ⟨W7.heap.size, 0, none⟩) 2 2) v1 (HP.out.later (B0.out.trans ((E8.out.trans (hs.mono E8.out.size)).mono B0.out.size))) (mx_later HMX.out hs) hi.1).mono ?_
  rintro x w3 ⟨⟨v2, rfl, h2⟩, hb⟩
  exact ⟨v2, rfl, hK v2 w3 (hs.trans (hb.mono hs.size)) ⟨h2, hi.2.later hb⟩⟩)
  (fun K hK => wp_buildTwo 45 25 _ _ rfl (pc f 3) (pc f 0) P3 P0 H3.out H0.out i0 z Tryz.underlying45 HI.out.1 HI.out.2.1 HI.out.2.2.1 (by rw [← HA0.out]; rfl) (by rw [← HA0.out]; rfl) (hK _ _ (hS.alloc hS.size _) (built_two _ _)))
  (fun v3 w2 hs hi K hK => wp_buildTwo 45 25 _ _ rfl (pc f 3) (pc f 0) P3 P0 H3.out H0.out i0 z Tryz.underlying45 HI.out.1 HI.out.2.1 HI.out.2.2.1 (by rw [← HA0.out]; rfl) (by rw [← HA0.out]; rfl) (hK _ _ (hs.alloc hs.size _) ⟨built_two _ _, hi.later (below_alloc _ _)⟩))
  (fun v1 v2 v3 w9 h9 hF => ?_)
 obtain ⟨hF1, hF2⟩ := hF
 rw [← HA0.out]
 simp only [Act.put, List.setIfInBounds_toArray, List.set_cons_zero, List.set_cons_succ]
 refine hk_step (by rw [← HO.out]; kernel_rfl) (by rw [← HO.out]; kernel_rfl) (fun K hK => ?_)
 go_simp
 refine (HR2.out w9 _ _ (mx_later HMX.out h9) hF2).mono ?_
 rintro x w10 ⟨⟨v4, rfl, h4⟩, hb10⟩
 have h10 : Below W8.heap.size W8 w10 := h9.trans (hb10.mono h9.size)
 have hF3 := hF1.later hb10
 refine hK _ _ h10 ?_
 clear hK K hb10 hF1 hF2
 try simp only [Act.put, List.setIfInBounds_toArray, List.set_cons_zero, List.set_cons_succ]
 refine hk_step (by rw [← HO.out]; kernel_rfl) (by rw [← HO.out]; kernel_rfl) (fun K hK => ?_)
 go_simp
 refine (lpolf.same_any v2 v4 2 0 0 res w10 (by decide) hF3 h4).mono ?_
 rintro x w11 ⟨rfl, hb11⟩
 have h11 : Below W8.heap.size W8 w11 := h10.trans (hb11.mono h10.size)
 refine hK _ _ h11 ?_
 clear hK K hb11 hF3 h4
 try simp only [Act.put, List.setIfInBounds_toArray, List.set_cons_zero, List.set_cons_succ]
 (focus (refine hk_take (v := ?_) (by rw [← HO.out]; kernel_rfl) (by rw [← HO.out]; kernel_rfl) (by rw [← HO.out]; kernel_rfl) (by rw [← HO.out]; kernel_rfl) (fun _ _ _ h => h) ?_ h11 ?_; rotate_left; focus (intro w9 h9; go_simp; first | done | with_reducible rfl); all_goals skip))
 simp only [Act.put, List.setIfInBounds_toArray, List.set_cons_zero, List.set_cons_succ]
 (focus (refine hk_take (v := ?_) (by rw [← HO.out]; kernel_rfl) (by rw [← HO.out]; kernel_rfl) (by rw [← HO.out]; kernel_rfl) (by rw [← HO.out]; kernel_rfl) (fun _ _ _ h => h) ?_ h11 ?_; rotate_left; focus (intro w9 h9; go_simp; first | done | with_reducible rfl); all_goals skip))
 simp only [Act.put, List.setIfInBounds_toArray, List.set_cons_zero, List.set_cons_succ]
 refine hk_step (by rw [← HO.out]; kernel_rfl) (by rw [← HO.out]; kernel_rfl) (fun K hK => ?_)
 go_simp
 refine (HA.out w11 (HP.out.later (B0.out.trans ((E8.out.trans (h11.mono E8.out.size)).mono B0.out.size)))).mono ?_
 rintro x w12 ⟨rfl, hb12⟩
 have h12 : Below W8.heap.size W8 w12 := h11.trans (hb12.mono h11.size)
 refine hK _ _ h12 ?_
 clear hK K hb12
 try simp only [Act.put, List.setIfInBounds_toArray, List.set_cons_zero, List.set_cons_succ]
 (focus (refine hk_take (v := ?_) (by rw [← HO.out]; kernel_rfl) (by rw [← HO.out]; kernel_rfl) (by rw [← HO.out]; kernel_rfl) (by rw [← HO.out]; kernel_rfl) (fun _ _ _ h => h) ?_ h12 ?_; rotate_left; focus (intro w9 h9; go_simp; first | done | with_reducible rfl); all_goals skip))
 simp only [Act.put, List.setIfInBounds_toArray, List.set_cons_zero, List.set_cons_succ]
 (focus (refine hk_take (v := ?_) (by rw [← HO.out]; kernel_rfl) (by rw [← HO.out]; kernel_rfl) (by rw [← HO.out]; kernel_rfl) (by rw [← HO.out]; kernel_rfl) (fun _ _ _ h => h) ?_ h12 ?_; rotate_left; focus (intro w9 h9; go_simp; first | done | with_reducible rfl); all_goals skip))
 simp only [Act.put, List.setIfInBounds_toArray, List.set_cons_zero, List.set_cons_succ]
 refine hk_nil (by rw [← HO.out]; kernel_rfl) ?_
 have BF : Away (Below w.heap.size w w12) := ⟨B0.out.trans ((E8.out.trans (h12.mono E8.out.size)).mono B0.out.size)⟩
 clear h9 h10 h11 h12 HO HA0 hS
 go_wp2_with fail
 go_ret
 exact ⟨rfl, BF.out⟩
end says12
end Go.Proofs.YtlcafjdehcddcaaGreatDoor
namespace Go.Proofs.YtlcafjdehcddcaaGreatDoor
namespace rset
open Go Go.RowKit
open arr mem polt rndm
theorem infoL : (Tryz.prog.info? 23).map (fun i => (i.zero, i.size)) = some (some (.agg set0), 8) := by kernel_rfl
theorem built1 : Tryz.prog.built 23 [(0, .int .i64 4), (1, .int .i64 4), (2, .int .i64 2), (3, .int .i64 39), (4, .int .i64 131072), (5, .int .i64 95232), (6, .int .i64 80), (7, .int .i64 128)] = some set1 := by kernel_rfl
theorem built4 : Tryz.prog.built 23 [(0, .int .i64 1), (1, .int .i64 1), (2, .int .i64 2), (3, .int .i64 20), (4, .int .i64 131072), (5, .int .i64 95232), (6, .int .i64 60), (7, .int .i64 128)] = some set4 := by kernel_rfl
theorem wpList_builtL {P : Program} {ops : Array Oper} {rest : List Oper} {o : Oper} {a : Act} {w : World} {Q : Exit → Act → World → Prop} (hg : o.guard = none) (t : TypeId) (l : List (Nat × Operand)) (ho : o.op = .build t l.toArray)
 (C : Array Value) (hC : P.built t (l.map fun x => (x.1, a.eval x.2)) = some C) (h : wpList P ops Q rest (a.put o.dst (.agg C)) w) : wpList P ops Q (o :: rest) a w :=
 wpList_builtC hg t _ ho C (by simpa using hC) h
theorem results_cell_tmp {P : Program} {fn : Func} {p u : Tmp} {ty : TypeId} (h : fn.results = #[.cell p ty, .tmp u]) (tmps : Array Value) (w : World) (g : Nat) (t : TypeId) (cs : Array Value) (fr : Nat × Nat) (d : TypeDesc)
 (hp : tmps.getD p undef = .pointer (some ⟨g, 0, none⟩)) (hg : w.heap[g]? = some (.cells cs t fr))
 (hu : P.underlying ty = some d) (hd : (match d with | .struct _ | .array _ _ => true | _ => false) = true) (hi : (P.info? ty).map (·.size) = some cs.size) (v : Value) (hv : tmps.getD u undef = v) :
 (results fn tmps).run P w = .ok (.tuple #[.agg cs, v]) w := by
 have hp' : tmps[p]?.getD undef = .pointer (some ⟨g, 0, none⟩) := by simpa using hp
 have hv' : tmps[u]?.getD undef = v := by simpa using hv
 simp [results, h, hp', hv', asAddr, run_loadVar_row w g t ty cs fr d hg hu hd hi]
set_option maxRecDepth 100000 in
set_option maxHeartbeats 1000000 in
theorem set_1 (w : World) : Calls Tryz.prog 24 #[.int .i64 1] w fun e w' => e = .returned (.tuple #[.agg set1, .int .i64 0]) ∧ Below w.heap.size w w' := by
 obtain ⟨hz, hsize⟩ := zero_of_info infoL
 have hb := built1
 obtain ⟨z, HZ⟩ := ex_eq set0
 rw [HZ.out] at hz
 have Zs : Away (z.size = 8) := ⟨by rw [← HZ.out]; rfl⟩
 obtain ⟨V, HV⟩ := ex_eq set1
 have Vi : Away ((Tryz.prog.info? 23).map (·.size) = some V.size) := ⟨by rw [← HV.out]; exact hsize⟩
 have Vz : Away (z.size = V.size) := ⟨by rw [Zs.out, ← HV.out]; rfl⟩
 have Vo : Away (V.all (·.oneCell') = true) := ⟨by rw [← HV.out]; simp [set1, Value.oneCell']⟩
 rw [HV.out] at hb
 rw [HV.out]
 have Hb := Away.mk hb
 obtain ⟨W, hW⟩ : ∃ x, w.alloc (.cells z 23) = x := ⟨_, rfl⟩
 have HW := Away.mk hW
 have Hres : Away (W.heap[w.heap.size]? = some (.cells z 23 (0, 0))) := ⟨by rw [← hW]; exact heap_at w _ _ rfl⟩
 have HB : Away (Below w.heap.size w W) := ⟨by rw [← hW]; exact below_alloc _ _⟩
 clear hb hsize hW
 go_enter Tryz.func24, Tryz.ntmps24
 go_wp2_with (first
  | (rw [HW.out])
  | (refine wpList_builtL rfl 23 _ rfl V Hb.out ?_)
  | (refine wpList_store_row rfl 23 _ _ rfl w.heap.size V rfl rfl 23 _ Hres.out Vi.out Vz.out Vo.out ?_))
 refine bodyPost_ret_by (v := .tuple #[.agg V, .int .i64 0]) (results_cell_tmp rfl _ _ w.heap.size 23 _ (0, 0) _ rfl (setRow_heap _ _ _ _ _ _ Hres.out) Tryz.underlying23 rfl Vi.out _ rfl) rfl ?_
 exact ⟨rfl, HB.out.trans (below_setRow _ _ _ (Nat.le_refl _))⟩
set_option maxRecDepth 100000 in
set_option maxHeartbeats 1000000 in
theorem set_4 (w : World) : Calls Tryz.prog 24 #[.int .i64 4] w fun e w' => e = .returned (.tuple #[.agg set4, .int .i64 0]) ∧ Below w.heap.size w w' := by
 obtain ⟨hz, hsize⟩ := zero_of_info infoL
 have hb := built4
 obtain ⟨z, HZ⟩ := ex_eq set0
 rw [HZ.out] at hz
 have Zs : Away (z.size = 8) := ⟨by rw [← HZ.out]; rfl⟩
 obtain ⟨V, HV⟩ := ex_eq set4
 have Vi : Away ((Tryz.prog.info? 23).map (·.size) = some V.size) := ⟨by rw [← HV.out]; exact hsize⟩
 have Vz : Away (z.size = V.size) := ⟨by rw [Zs.out, ← HV.out]; rfl⟩
 have Vo : Away (V.all (·.oneCell') = true) := ⟨by rw [← HV.out]; simp [set4, Value.oneCell']⟩
 rw [HV.out] at hb
 rw [HV.out]
 have Hb := Away.mk hb
 obtain ⟨W, hW⟩ : ∃ x, w.alloc (.cells z 23) = x := ⟨_, rfl⟩
 have HW := Away.mk hW
 have Hres : Away (W.heap[w.heap.size]? = some (.cells z 23 (0, 0))) := ⟨by rw [← hW]; exact heap_at w _ _ rfl⟩
 have HB : Away (Below w.heap.size w W) := ⟨by rw [← hW]; exact below_alloc _ _⟩
 clear hb hsize hW
 go_enter Tryz.func24, Tryz.ntmps24
 go_wp2_with (first
  | (rw [HW.out])
  | (refine wpList_builtL rfl 23 _ rfl V Hb.out ?_)
  | (refine wpList_store_row rfl 23 _ _ rfl w.heap.size V rfl rfl 23 _ Hres.out Vi.out Vz.out Vo.out ?_))
 refine bodyPost_ret_by (v := .tuple #[.agg V, .int .i64 0]) (results_cell_tmp rfl _ _ w.heap.size 23 _ (0, 0) _ rfl (setRow_heap _ _ _ _ _ _ Hres.out) Tryz.underlying23 rfl Vi.out _ rfl) rfl ?_
 exact ⟨rfl, HB.out.trans (below_setRow _ _ _ (Nat.le_refl _))⟩
end rset
end Go.Proofs.YtlcafjdehcddcaaGreatDoor
namespace Go.Proofs.YtlcafjdehcddcaaGreatDoor
namespace awake12
set_option linter.unusedSimpArgs false
open Go Go.RowKit
open mem arr tabv built kturn polt rndm helda
def d32 : ByteArray := ⟨#[48, 49, 50, 51, 52, 53, 54, 55, 56, 57, 48, 49, 50, 51, 52, 53, 54, 55, 56, 57, 48, 49, 50, 51, 52, 53, 54, 55, 56, 57, 48, 49]⟩
set_option maxRecDepth 100000 in
set_option maxHeartbeats 4000000 in
theorem awake_any (PK SK : ByteArray) (w : World) (hP : Gp w) (h1 : PK.size = 352) (h2 : SK.size = 736)
 (HSz : ∀ w1 : World, Calls Tryz.prog 7 #[.agg set1] w1 fun e w' => e = .returned (.tuple #[.int .i64 1312, .int .i64 2560, .int .i64 2420]) ∧ Below w1.heap.size w1 w')
 (HPr : ∀ w1 : World, Gp w1 → Calls Tryz.prog 9 #[.agg TA, .agg set4, .string d32] w1 fun e w' => e = .returned (.tuple #[.string PK, .string SK, .int .i64 0]) ∧ Below w1.heap.size w1 w') :
 Calls Tryz.prog 5 #[] w fun e w' => e = .returned (.bool true) ∧ Below w.heap.size w w' := by
 have HP := Away.mk hP
 obtain ⟨hz, hsize⟩ := zero_of_info built.infoT
 obtain ⟨hzl, hsizel⟩ := zero_of_info rset.infoL
 obtain ⟨Zl, HZl⟩ := ex_eq set0
 rw [HZl.out] at hzl
 have HZls : Away (Zl.size = 8) := ⟨by rw [← HZl.out]; rfl⟩
 have Hsizel := Away.mk hsizel
 obtain ⟨T, HT⟩ := ex_eq TA
 have Hmk : Away (∀ w1 : World, Calls Tryz.prog 25 #[] w1 fun e w' => e = .returned (.agg T) ∧ Below w1.heap.size w1 w') := ⟨fun w1 => by rw [← HT.out]; exact make.make_any w1⟩
 obtain ⟨C, HC⟩ := ex_eq set4
 have HCs : Away (C.size = 8) := ⟨by rw [← HC.out]; rfl⟩
 have HCo : Away (C.all (·.oneCell') = true) := ⟨by rw [← HC.out]; simp [set4, Value.oneCell']⟩
 have HCz : Away ((Tryz.prog.info? 23).map (·.size) = some C.size) := ⟨by rw [HCs.out]; exact Hsizel.out⟩
 have HSet4 : Away (∀ w1 : World, Calls Tryz.prog 24 #[.int .i64 4] w1 fun e w' => e = .returned (.tuple #[.agg C, .int .i64 0]) ∧ Below w1.heap.size w1 w') := ⟨fun w1 => by rw [← HC.out]; exact rset.set_4 w1⟩
 obtain ⟨D, HD⟩ := ex_eq set1
 have HDs : Away (D.size = 8) := ⟨by rw [← HD.out]; rfl⟩
 have HDo : Away (D.all (·.oneCell') = true) := ⟨by rw [← HD.out]; simp [set1, Value.oneCell']⟩
 have HDz : Away ((Tryz.prog.info? 23).map (·.size) = some D.size) := ⟨by rw [HDs.out]; exact Hsizel.out⟩
 have HSet1 : Away (∀ w1 : World, Calls Tryz.prog 24 #[.int .i64 1] w1 fun e w' => e = .returned (.tuple #[.agg D, .int .i64 0]) ∧ Below w1.heap.size w1 w') := ⟨fun w1 => by rw [← HD.out]; exact rset.set_1 w1⟩
 rw [HD.out] at HSz
 rw [HC.out, HT.out] at HPr
 have HSz := Away.mk HSz
 have HPr := Away.mk HPr
 have h1z : (PK.size : Int) = 352 := by omega
 have h2z : (SK.size : Int) = 736 := by omega
 clear hz hsize hsizel hP HT HZl HC HD
 go_enter Tryz.func5, Tryz.ntmps5
 go_wp2_with fail
 refine (HSet1.out _).mono ?_
 rintro e w1 ⟨rfl, hb1⟩
 obtain ⟨W1, hW1⟩ : ∃ x, w1.alloc (.cells D 23) = x := ⟨_, rfl⟩
 obtain ⟨r1, hs1, b1⟩ := one hW1
 have HW1 := Away.mk hW1
 have D1 : Away (W1.heap[w1.heap.size]? = some (.cells D 23 (0, 0))) := ⟨r1⟩
 have B1 : Away (Below w.heap.size w W1) := ⟨hb1.trans (b1.mono hb1.size)⟩
 clear hb1 hW1 r1 hs1 b1
 go_wp2_with (first
  | (refine wpList_store_new rfl 23 _ _ rfl _ rfl rfl HDz.out (by rw [HDs.out]; exact HZls.out) HDo.out rfl ?_)
  | (rw [HW1.out])
  | (refine wpList_load_row rfl 23 _ rfl w1.heap.size rfl 23 D (0, 0) _ D1.out Tryz.underlying23 rfl HDz.out ?_))
 refine (HSz.out _).mono ?_
 rintro e w2 ⟨rfl, hb2⟩
 have B2 : Away (Below w.heap.size w w2) := ⟨B1.out.trans (hb2.mono B1.out.size)⟩
 clear hb2
 go_wp2_with fail
 refine (HSet4.out _).mono ?_
 rintro e w3 ⟨rfl, hb3⟩
 obtain ⟨W3, hW3⟩ : ∃ x, w3.alloc (.cells C 23) = x := ⟨_, rfl⟩
 obtain ⟨r3, hs3, b3⟩ := one hW3
 have HW3 := Away.mk hW3
 have B3 : Away (Below w.heap.size w W3) := ⟨B2.out.trans ((hb3.trans (b3.mono hb3.size)).mono B2.out.size)⟩
 have KC : Away (∀ w' : World, Below W3.heap.size W3 w' → w'.heap[w3.heap.size]? = some (.cells C 23 (0, 0))) := ⟨fun w' hb => (hb.block _ (lt_of_row r3)).trans r3⟩
 clear hb3 hW3 r3 hs3 b3
 go_wp2_with (first
  | (refine wpList_store_new rfl 23 _ _ rfl _ rfl rfl HCz.out (by rw [HCs.out]; exact HZls.out) HCo.out rfl ?_)
  | (rw [HW3.out]))
 refine hk_begin W3.heap.size 10 [1, 0, 2, 3, 4, 5, 6, 7, 8, 9] (by kernel_rfl) rfl rfl (by decide) (fun hS ops HO => ?_)
 simp only [List.filterMap_cons, List.filterMap_nil, List.getElem?_cons_succ, List.getElem?_cons_zero]
 refine hk_load (by rw [← HO.out]; kernel_rfl) (by rw [← HO.out]; kernel_rfl) (by rw [← HO.out]; kernel_rfl) (by rw [← HO.out]; kernel_rfl) (fun _ _ _ _ h => h) 23 _ rfl w3.heap.size rfl 23 C _ KC.out Tryz.underlying23 rfl HCz.out hS ?_
 simp only [Act.put, List.setIfInBounds_toArray, List.set_cons_zero, List.set_cons_succ]
 refine hk_step (by rw [← HO.out]; kernel_rfl) (by rw [← HO.out]; kernel_rfl) (fun K hK => ?_)
 go_simp
 refine (Hmk.out _).mono ?_
 rintro e w4 ⟨rfl, hb4⟩
 have h4 : Below W3.heap.size W3 w4 := hS.trans (hb4.mono hS.size)
 refine hK _ _ h4 ?_
 clear hK K
 try simp only [Act.put, List.setIfInBounds_toArray, List.set_cons_zero, List.set_cons_succ]
 refine hk_step (by rw [← HO.out]; kernel_rfl) (by rw [← HO.out]; kernel_rfl) (fun K hK => ?_)
 go_simp
 refine (HPr.out _ (HP.out.later (B3.out.trans (h4.mono B3.out.size)))).mono ?_
 rintro e w5 ⟨rfl, hb5⟩
 have h5 : Below W3.heap.size W3 w5 := h4.trans (hb5.mono h4.size)
 refine hK _ _ h5 ?_
 clear hK K
 try simp only [Act.put, List.setIfInBounds_toArray, List.set_cons_zero, List.set_cons_succ]
 (focus (refine hk_take (v := ?_) (by rw [← HO.out]; kernel_rfl) (by rw [← HO.out]; kernel_rfl) (by rw [← HO.out]; kernel_rfl) (by rw [← HO.out]; kernel_rfl) (fun _ _ _ h => h) ?_ h5 ?_; rotate_left; focus (intro w9 h9; go_simp; first | done | with_reducible rfl); all_goals skip))
 simp only [Act.put, List.setIfInBounds_toArray, List.set_cons_zero, List.set_cons_succ]
 (focus (refine hk_take (v := ?_) (by rw [← HO.out]; kernel_rfl) (by rw [← HO.out]; kernel_rfl) (by rw [← HO.out]; kernel_rfl) (by rw [← HO.out]; kernel_rfl) (fun _ _ _ h => h) ?_ h5 ?_; rotate_left; focus (intro w9 h9; go_simp; first | done | with_reducible rfl); all_goals skip))
 simp only [Act.put, List.setIfInBounds_toArray, List.set_cons_zero, List.set_cons_succ]
 (focus (refine hk_take (v := ?_) (by rw [← HO.out]; kernel_rfl) (by rw [← HO.out]; kernel_rfl) (by rw [← HO.out]; kernel_rfl) (by rw [← HO.out]; kernel_rfl) (fun _ _ _ h => h) ?_ h5 ?_; rotate_left; focus (intro w9 h9; go_simp; first | done | with_reducible rfl); all_goals skip))
 simp only [Act.put, List.setIfInBounds_toArray, List.set_cons_zero, List.set_cons_succ]
 (focus (refine hk_take (v := ?_) (by rw [← HO.out]; kernel_rfl) (by rw [← HO.out]; kernel_rfl) (by rw [← HO.out]; kernel_rfl) (by rw [← HO.out]; kernel_rfl) (fun _ _ _ h => h) ?_ h5 ?_; rotate_left; focus (intro w9 h9; go_simp; first | done | with_reducible rfl); all_goals skip))
 simp only [Act.put, List.setIfInBounds_toArray, List.set_cons_zero, List.set_cons_succ]
 (focus (refine hk_take (v := ?_) (by rw [← HO.out]; kernel_rfl) (by rw [← HO.out]; kernel_rfl) (by rw [← HO.out]; kernel_rfl) (by rw [← HO.out]; kernel_rfl) (fun _ _ _ h => h) ?_ h5 ?_; rotate_left; focus (intro w9 h9; go_simp; first | done | with_reducible rfl); all_goals skip))
 simp only [Act.put, List.setIfInBounds_toArray, List.set_cons_zero, List.set_cons_succ]
 (focus (refine hk_take (v := ?_) (by rw [← HO.out]; kernel_rfl) (by rw [← HO.out]; kernel_rfl) (by rw [← HO.out]; kernel_rfl) (by rw [← HO.out]; kernel_rfl) (fun _ _ _ h => h) ?_ h5 ?_; rotate_left; focus (intro w9 h9; go_simp; first | done | with_reducible rfl); all_goals skip))
 simp only [Act.put, List.setIfInBounds_toArray, List.set_cons_zero, List.set_cons_succ]
 (focus (refine hk_take (v := ?_) (by rw [← HO.out]; kernel_rfl) (by rw [← HO.out]; kernel_rfl) (by rw [← HO.out]; kernel_rfl) (by rw [← HO.out]; kernel_rfl) (fun _ _ _ h => h) ?_ h5 ?_; rotate_left; focus (intro w9 h9; go_simp; first | done | with_reducible rfl); all_goals skip))
 simp only [Act.put, List.setIfInBounds_toArray, List.set_cons_zero, List.set_cons_succ]
 refine hk_nil (by rw [← HO.out]; kernel_rfl) ?_
 have BF : Away (Below w.heap.size w w5) := ⟨B3.out.trans (h5.mono B3.out.size)⟩
 clear hS HO hb4 hb5 h4 h5
 go_wp2_with fail
 go_ret
 exact ⟨rfl, BF.out⟩
end awake12
end Go.Proofs.YtlcafjdehcddcaaGreatDoor
namespace Go.Proofs.YtlcafjdehcddcaaGreatDoor
namespace shelf
open Go.Shelf
def lays129_ren : Go.Shelf.Ren := ⟨fun | 129 => 124 | n => n, fun | 3 => 3 | 4 => 4 | 5 => 5 | 9 => 9 | 46 => 66 | 53 => 32 | n => n, fun | n => n⟩
theorem lays129 : Go.Proofs.Lays.n129 Tryz.prog lays129_ren := {
 mixed := by kernel_rfl
 f129 := Tryz.func124.trans (congrArg some (by kernel_rfl))
 t3 := Tryz.underlying3
 a3 := Tryz.isAgg3
 z3 := Tryz.sizeOf3
 v3 := Tryz.zeroValue3
 t4 := Tryz.underlying4
 a4 := Tryz.isAgg4
 z4 := Tryz.sizeOf4
 v4 := Tryz.zeroValue4
 t5 := Tryz.underlying5
 a5 := Tryz.isAgg5
 z5 := Tryz.sizeOf5
 v5 := Tryz.zeroValue5
 t9 := Tryz.underlying9
 a9 := Tryz.isAgg9
 z9 := Tryz.sizeOf9
 v9 := Tryz.zeroValue9
 t46 := Tryz.underlying66
 a46 := Tryz.isAgg66
 z46 := Tryz.sizeOf66
 v46 := Tryz.zeroValue66
 t53 := Tryz.underlying32
 a53 := Tryz.isAgg32
 z53 := Tryz.sizeOf32
 v53 := Tryz.zeroValue32 }
open Go.RowKit in
theorem len64 (x : Int) (w : World) (h0 : 0 ≤ x) (h1 : x ≤ 18446744073709551615) :
 Calls Tryz.prog 124 #[.int .u64 x] w fun e w' => e = .returned (.int .i64 (Lib.bitLen x.toNat)) ∧ w' = w := Any.bits_Len64 lays129 x w h0 h1
end shelf
namespace plong
open Go Go.RowKit
open arr mem rbita
theorem lbf_len (f : Nat) : ∀ n, Lib.bitLenAux f n = lbf f n := by
 induction f with
 | zero => intro n; rfl
 | succ f ih =>
  intro n
  rw [Lib.bitLenAux, lbf, ih]
  by_cases h : n = 0
  ·rw [if_pos h, if_pos h]
  ·rw [if_neg h, if_neg h]; omega
set_option maxRecDepth 100000 in
set_option maxHeartbeats 1000000 in
theorem len_any (x : Int) (h0 : 0 ≤ x) (h1 : x ≤ 18446744073709551615) (w : World) : Calls Tryz.prog 112 #[.int .u64 x] w fun e w' => e = .returned (.int .i64 ((lb x.toNat : Nat) : Int)) ∧ w' = w := by
 have H : ∀ w1 : World, Calls Tryz.prog 124 #[.int .u64 x] w1 fun e w' => e = .returned (.int .i64 ((lb x.toNat : Nat) : Int)) ∧ w' = w1 := fun w1 => by
  have h := shelf.len64 x w1 h0 h1
  rw [show Lib.bitLen x.toNat = lb x.toNat from lbf_len 64 _] at h
  exact h
 go_enter Tryz.func112, Tryz.ntmps112
 go_wp2_with fail
 refine (H _).mono ?_
 rintro e w1 ⟨rfl, rfl⟩
 go_wp2_with fail
 go_ret
 exact ⟨rfl, rfl⟩
set_option maxRecDepth 100000 in
set_option maxHeartbeats 1000000 in
theorem long_any (n : Int) (hn : n < 9223372036854775808) (w : World) : Calls Tryz.prog 79 #[.int .i64 n] w fun e w' => e = .returned (.int .i64 ((lb n.toNat : Nat) : Int)) ∧ w' = w := by
 by_cases h0 : 0 ≤ n
 ·have H := fun w1 => len_any n h0 (by omega) w1
  have hmx : max n 0 = n := by omega
  have fu : IntKind.u64.wrap n = n := by rw [IntKind.wrap_u64]; omega
  go_enter Tryz.func79, Tryz.ntmps79
  go_wp2_with fail
  refine (H _).mono ?_
  rintro e w1 ⟨rfl, rfl⟩
  go_wp2_with fail
  go_ret
  exact ⟨rfl, rfl⟩
 ·have H := fun w1 => len_any 0 (by decide) (by decide) w1
  have hz : n.toNat = (0 : Int).toNat := by omega
  rw [hz]
  have hmx : max n 0 = 0 := by omega
  have fu : IntKind.u64.wrap 0 = 0 := by decide
  go_enter Tryz.func79, Tryz.ntmps79
  go_wp2_with fail
  refine (H _).mono ?_
  rintro e w1 ⟨rfl, rfl⟩
  go_wp2_with fail
  go_ret
  exact ⟨rfl, rfl⟩
end plong
namespace psmall
open Go Go.RowKit
open arr mem
set_option maxRecDepth 100000 in
set_option maxHeartbeats 1000000 in
theorem most_any (m : Int) (w : World) : Calls Tryz.prog 97 #[.int .i64 m] w fun e w' => e = .returned (.bool (decide (1 ≤ m ∧ m < 8380417))) ∧ w' = w := by
 by_cases c0 : 1 ≤ m
 rotate_left
 ·rw [decide_eq_false (fun h => c0 h.1)]
  go_enter Tryz.func97, Tryz.ntmps97
  go_wp2_with fail
  go_ret
  exact ⟨rfl, rfl⟩
 by_cases c1 : m < 8380417
 rotate_left
 ·rw [decide_eq_false (fun h => c1 h.2)]
  go_enter Tryz.func97, Tryz.ntmps97
  go_wp2_with fail
  go_ret
  exact ⟨rfl, rfl⟩
 rw [decide_eq_true ⟨c0, c1⟩]
 go_enter Tryz.func97, Tryz.ntmps97
 go_wp2_with fail
 go_ret
 exact ⟨rfl, rfl⟩
set_option maxRecDepth 100000 in
set_option maxHeartbeats 1000000 in
theorem size_any (wd : Nat) (h : wd ≤ 64) (w : World) : Calls Tryz.prog 103 #[.int .i64 (wd : Int)] w fun e w' => e = .returned (.int .i64 ((32 * wd : Nat) : Int)) ∧ w' = w := by
 obtain ⟨M, hM⟩ := ex_eq (32 * wd)
 have f1 : IntKind.i64.wrap (256 * (wd : Int)) = 256 * (wd : Int) := by rw [IntKind.wrap_i64]; omega
 have f2 : (256 * (wd : Int)).tdiv 8 = (M : Int) := by rw [Int.tdiv_eq_ediv_of_nonneg (by omega)]; have := hM.out; omega
 have f3 : 256 * (wd : Int) / 8 = (M : Int) := by have := hM.out; omega
 rw [hM.out]
 go_enter Tryz.func103, Tryz.ntmps103
 go_wp2_with fail
 go_ret
 exact ⟨by first | rfl | (congr 2; have := hM.out; omega), rfl⟩
end psmall
namespace psmall
open Go Go.RowKit
open arr mem
set_option maxRecDepth 100000 in
set_option maxHeartbeats 1000000 in
theorem ends_any (l h : Int) (w : World) : Calls Tryz.prog 100 #[.int .i64 l, .int .i64 h] w fun e w' => e = .returned (.bool (decide (0 ≤ l ∧ l < 4190208 ∧ 1 ≤ h ∧ h < 4190208))) ∧ w' = w := by
 by_cases c0 : 0 ≤ l
 rotate_left
 ·rw [decide_eq_false (fun k => c0 k.1)]
  go_enter Tryz.func100, Tryz.ntmps100
  go_wp2_with fail
  go_ret
  exact ⟨rfl, rfl⟩
 by_cases c1 : l < 4190208
 rotate_left
 ·rw [decide_eq_false (fun k => c1 k.2.1)]
  go_enter Tryz.func100, Tryz.ntmps100
  go_wp2_with fail
  go_ret
  exact ⟨rfl, rfl⟩
 by_cases c2 : 1 ≤ h
 rotate_left
 ·rw [decide_eq_false (fun k => c2 k.2.2.1)]
  go_enter Tryz.func100, Tryz.ntmps100
  go_wp2_with fail
  go_ret
  exact ⟨rfl, rfl⟩
 by_cases c3 : h < 4190208
 rotate_left
 ·rw [decide_eq_false (fun k => c3 k.2.2.2)]
  go_enter Tryz.func100, Tryz.ntmps100
  go_wp2_with fail
  go_ret
  exact ⟨rfl, rfl⟩
 rw [decide_eq_true ⟨c0, c1, c2, c3⟩]
 go_enter Tryz.func100, Tryz.ntmps100
 go_wp2_with fail
 go_ret
 exact ⟨rfl, rfl⟩
end psmall
end Go.Proofs.YtlcafjdehcddcaaGreatDoor
