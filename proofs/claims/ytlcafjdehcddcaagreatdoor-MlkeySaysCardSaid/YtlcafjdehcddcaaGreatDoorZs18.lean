/-
  What the document's own Uniform of layer 11 returns. Conditions: the tables have their size; what its Shake returns is handed in. What the document's own half of layer 11 returns. Conditions: the half is below 16. What the document's own Small of layer 11 returns. Conditions: the tables have their size; what its Shake returns is handed in. What the document's own Secrets of layer 11 returns. Conditions: the tables have their size; what its Small returns is handed in. What the document's own Matrix of layer 11 returns. Conditions: the tables have their size; what its Uniform returns is handed in. What the reference's turning function of layer 5 returns: a word turned to the left. Conditions: the word has its 64 bits, and the amount is not negative. Plain facts for the walk of the document's own Permute of layer 5. Conditions: as each theorem says. Plain facts for the walk of the document's own Permute of layer 5. Conditions: none. What the document's own Permute of layer 5 returns. Conditions: the state has 25 words of 64 bits, the tables have their size.
-/
import Derived.Test.YtlcafjdehcddcaaGreatDoorZs03
import Derived.Test.YtlcafjdehcddcaaGreatDoorZs09
import Derived.Test.YtlcafjdehcddcaaGreatDoorZs08
import Derived.Test.YtlcafjdehcddcaaGreatDoorZs04
import Derived.Test.YtlcafjdehcddcaaGreatDoorZs05
import Derived.Great.BuildSlice
import Derived.Deep.RegionHeld3
namespace Go.Proofs.YtlcafjdehcddcaaGreatDoor
namespace rsuni
open Go Go.RowKit
open arr mem stil polys polt rbitc samm
set_option maxRecDepth 100000 in
set_option maxHeartbeats 4000000 in
theorem uniform_any {T : Array Value} (b s : ByteArray) (w : World) (hT : (Tryz.prog.info? 38).map (·.size) = some T.size) (hs : s.size = 1008)
 (HS : ∀ w1 : World, Calls Tryz.prog 41 #[.agg T, .int .i64 1, .string b, .int .i64 1008] w1 fun e w' => e = .returned (.tuple #[.string s, .int .i64 0]) ∧ Below w1.heap.size w1 w') :
 Calls Tryz.prog 88 #[.agg T, .string b] w fun e w' => e = .returned (.agg (FL .i64 256 (uni (bys s)))) ∧ Below w.heap.size w w' := by
 obtain ⟨hz, hsize⟩ := zero_of_info polt.infoP
 obtain ⟨z, HZ⟩ := ex_eq (FL .i64 256 fun _ => 0)
 rw [HZ.out] at hz
 have Hzs : Away (z.size = 256) := ⟨by rw [← HZ.out]; exact fl_size _ _ _⟩
 obtain ⟨R, HR⟩ := ex_eq (FL .i64 256 (uni (bys s)))
 have Ri : Away ((Tryz.prog.info? 25).map (·.size) = some R.size) := ⟨by rw [← HR.out, fl_size]; exact hsize⟩
 have Ro : Away (R.all (·.oneCell') = true) := ⟨by rw [← HR.out]; exact fl_one _ _ _⟩
 have Rz : Away (z.size = R.size) := ⟨by rw [Hzs.out, ← HR.out, fl_size]⟩
 have HRd : Away (FL .i64 256 (lf (ua (bys s) 336)) = R) := HR
 have HTz := Away.mk hT
 rw [HR.out]
 have Hix : Away (∀ j : Nat, j < 1008 → ∀ w1 : World, (Instr.index 9 (.string s) (.int .i64 (j : Int))).run Tryz.prog w1 = .ok (.int .u8 ((by' (bys s) j : Nat) : Int)) w1) := ⟨fun j hj w1 => byte_of s j _ (by omega) rfl w1⟩
 obtain ⟨W, hW⟩ : ∃ x, (w.alloc (.cells T 38)).alloc (.cells z 25) = x := ⟨_, rfl⟩
 obtain ⟨r0, r1, hWs, b0⟩ := two hW
 have T0 : Away (W.heap[w.heap.size]? = some (.cells T 38 (0, 0))) := ⟨r0⟩
 have R0 : Away (W.heap[w.heap.size + 1]? = some (.cells z 25 (0, 0))) := ⟨r1⟩
 have BW := Away.mk b0
 have HWs := Away.mk hWs
 have HW := Away.mk hW
 have HSh := Away.mk HS
 clear hW r0 r1 b0 hWs hsize HS hT HR
 go_enter Tryz.func88, Tryz.ntmps88
 go_wp2_with (first
  | (rw [HW.out])
  | (refine wpList_load_row rfl 38 _ rfl w.heap.size rfl 38 T (0, 0) _ T0.out Tryz.underlying38 rfl HTz.out ?_))
 refine (HSh.out _).mono ?_
 rintro e u1 ⟨rfl, hb1⟩
 obtain ⟨W1, hW1⟩ : ∃ x, u1.alloc (.cells z 25) = x := ⟨_, rfl⟩
 obtain ⟨r1, hs1, b1⟩ := one hW1
 have A0 : Away (At u1.heap.size (FL .i64 256 (lf (ua (bys s) 0))) 25 W1 W1) := ⟨by rw [ua, lf_nil, HZ.out]; exact At.refl r1⟩
 have R1 : Away (W1.heap[w.heap.size + 1]? = some (.cells z 25 (0, 0))) := ⟨((hb1.trans (b1.mono hb1.size)).block _ (by rw [HWs.out]; omega)).trans R0.out⟩
 have B1 : Away (Below w.heap.size w W1) := ⟨BW.out.trans ((hb1.trans (b1.mono hb1.size)).mono (by rw [HWs.out]; omega))⟩
 have Hlt : Away (w.heap.size + 1 < u1.heap.size) := ⟨by have := hb1.size; rw [HWs.out] at this; omega⟩
 have HW1 := Away.mk hW1
 clear hb1 r1 b1 hs1 hW1 T0 R0 BW
 go_wp2_with (rw [HW1.out])
 clear hz
 go_loopw [8, 9] (fun c v wr => ∃ j : Nat, j ≤ 336 ∧ v = .int .i64 ((3 * j : Nat) : Int) ∧ c = .int .i64 (((ua (bys s) j).length : Nat) : Int) ∧ Away (At u1.heap.size (FL .i64 256 (lf (ua (bys s) j))) 25 W1 wr)) (fun _ v _ => 1008 - (intOf v).toNat)
 case atStart => exact ⟨0, by omega, rfl, rfl, A0⟩
 case round =>
  clear A0
  obtain ⟨j, hj, rfl, rfl, A0⟩ := hrel
  have BE : Away (Below w.heap.size w wr) := ⟨B1.out.trans (A0.out.below B1.out.size (by have := Hlt.out; omega))⟩
  obtain ⟨n, hn⟩ : ∃ n, (ua (bys s) j).length = n := ⟨_, rfl⟩
  have hn256 := (ua_le (bys s) j).1
  rw [hn] at hn256 ⊢
  by_cases hgo : j < 336 ∧ n < 256
  ·obtain ⟨hj336, hn2⟩ := hgo
   obtain ⟨i, hi⟩ : ∃ i, 3 * j = i := ⟨_, rfl⟩
   have hi1 := Hix.out i (by omega)
   obtain ⟨i1, hi1v⟩ : ∃ i1, i + 1 = i1 := ⟨_, rfl⟩
   obtain ⟨i2, hi2v⟩ : ∃ i2, i + 2 = i2 := ⟨_, rfl⟩
   have hi2 := Hix.out i1 (by omega)
   have hi3 := Hix.out i2 (by omega)
   obtain ⟨β0, hβ0⟩ : ∃ β, by' (bys s) i = β := ⟨_, rfl⟩
   obtain ⟨β1, hβ1⟩ : ∃ β, by' (bys s) i1 = β := ⟨_, rfl⟩
   obtain ⟨β2, hβ2⟩ : ∃ β, by' (bys s) i2 = β := ⟨_, rfl⟩
   have l0 : β0 < 256 := by rw [← hβ0]; exact by_lt s _
   have l1 : β1 < 256 := by rw [← hβ1]; exact by_lt s _
   have l2 : β2 < 256 := by rw [← hβ2]; exact by_lt s _
   obtain ⟨γ, hγ⟩ : ∃ γ, β2 % 128 = γ := ⟨_, rfl⟩
   obtain ⟨p, hp⟩ : ∃ p, β1 * 256 = p := ⟨_, rfl⟩
   obtain ⟨q, hq⟩ : ∃ q, γ * 65536 = q := ⟨_, rfl⟩
   obtain ⟨y, hy⟩ : ∃ y, β0 + 256 * β1 = y := ⟨_, rfl⟩
   obtain ⟨x, hx⟩ : ∃ x, β0 + 256 * β1 + 65536 * γ = x := ⟨_, rfl⟩
   have htri : tri (bys s) i = x := by unfold tri; rw [hi1v, hi2v, hβ0, hβ1, hβ2, hγ, hx]
   obtain ⟨v1, v2⟩ := or_tri β0 β1 γ l0 l1 (by omega)
   rw [hp, hy] at v1
   rw [hy, hq, show y + 65536 * γ = x by omega] at v2
   have va := and_127 β2 l2
   rw [hγ] at va
   rw [hβ0] at hi1
   rw [hβ1] at hi2
   rw [hβ2] at hi3
   have hi3z : (i : Int) + 2 < 1008 := by omega
   have hi3y : (i2 : Int) < 1008 := by omega
   have fi1 : IntKind.i64.wrap ((i : Int) + 1) = (i1 : Int) := by rw [IntKind.wrap_i64]; omega
   have fi2 : IntKind.i64.wrap ((i : Int) + 2) = (i2 : Int) := by rw [IntKind.wrap_i64]; omega
   have fp : (β1 : Int) * 256 = (p : Int) := by omega
   have fpw : IntKind.i64.wrap ((β1 : Int) * 256) = (p : Int) := by rw [fp, IntKind.wrap_i64]; omega
   have fq : (γ : Int) * 65536 = (q : Int) := by omega
   have fqw : IntKind.i64.wrap ((γ : Int) * 65536) = (q : Int) := by rw [fq, IntKind.wrap_i64]; omega
   have w0 : IntKind.i64.wrap (β0 : Int) = (β0 : Int) := by rw [IntKind.wrap_i64]; omega
   have w1 : IntKind.i64.wrap (β1 : Int) = (β1 : Int) := by rw [IntKind.wrap_i64]; omega
   have w2 : IntKind.i64.wrap (γ : Int) = (γ : Int) := by rw [IntKind.wrap_i64]; omega
   have wp : IntKind.i64.wrap (p : Int) = (p : Int) := by rw [IntKind.wrap_i64]; omega
   have wq : IntKind.i64.wrap (q : Int) = (q : Int) := by rw [IntKind.wrap_i64]; omega
   have fi3 : IntKind.i64.wrap ((i : Int) + 3) = (i : Int) + 3 := by rw [IntKind.wrap_i64]; omega
   have hi1008 : i < 1008 := by omega
   have hszi : (s.size : Int) = 1008 := by omega
   have hn2z : (n : Int) < 256 := by omega
   rw [hi]
   have Hi := Away.mk hi
   have A1 : Away (At u1.heap.size (FL .i64 256 (lf (ua (bys s) j))) 25 W1 wr.drew) := ⟨at_drew A0.out⟩
   have Hn := Away.mk hn
   have Htri := Away.mk htri
   clear hβ0 hβ1 hβ2 hγ hp hq hx hy hi hn htri hi1v hi2v
   go_wp2_with fail
   refine still_all (by kernel_rfl) (by kernel_rfl) ?_
   repeat still_step
   refine wpStill_nil ?_
   clear hi1 hi2 hi3 v1 v2 va fi1 fi2 fp fpw fq fqw w0 w1 w2 wp wq hi3z hi3y A0
   by_cases hx : x < 8380417
   ·have hxz : (x : Int) < 8380417 := by omega
    have Hua : Away (ua (bys s) (j + 1) = ua (bys s) j ++ [x]) := ⟨by rw [ua, Hi.out, Htri.out, if_pos ⟨by rw [Hn.out]; exact hn2, hx⟩]⟩
    have Hset : Away ((FL .i64 256 (lf (ua (bys s) j))).setIfInBounds n (.int .i64 (x : Int)) = FL .i64 256 (lf (ua (bys s) (j + 1)))) := ⟨by rw [fl_set, Hua.out, ← lf_snoc, Hn.out]⟩
    clear hx
    go_wp2_with ((with_reducible refine wpList_put2 A1 rfl _ _ _ rfl rfl ?_); refine ⟨_, _, _, rfl, rfl, rfl, (by rw [fl_size]; exact hn2), ?_⟩; intro wn HRn; rw [Hset.out] at HRn)
    go_roundw
    case rel => exact ⟨j + 1, by omega, by rw [show ((3 * (j + 1) : Nat) : Int) = (i : Int) + 3 by have := Hi.out; omega], by rw [show (ua (bys s) (j + 1)).length = n + 1 by rw [Hua.out, List.length_append, Hn.out]; rfl]; go_num, HRn⟩
    case measure => have := Hi.out; simp [intOf]; omega
   ·have hxz : ¬ (x : Int) < 8380417 := by omega
    have Hua : Away (ua (bys s) (j + 1) = ua (bys s) j) := ⟨by rw [ua, Hi.out, Htri.out, if_neg (fun h => hx h.2)]⟩
    clear hx
    go_wp2_with fail
    go_roundw
    case rel => exact ⟨j + 1, by omega, by rw [show ((3 * (j + 1) : Nat) : Int) = (i : Int) + 3 by have := Hi.out; omega], by rw [Hua.out, Hn.out], by rw [Hua.out]; exact A1⟩
    case measure => have := Hi.out; simp [intOf]; omega
  ·have hend : Away (ua (bys s) j = ua (bys s) 336) := ⟨by
    by_cases h : j = 336
    ·rw [h]
    ·exact (ua_full (bys s) j 336 (by omega) hj).symm⟩
   rw [hend.out, HRd.out] at A0
   have Hrow := Away.mk A0.out.row
   have Hres : Away (wr.heap[w.heap.size + 1]? = some (.cells z 25 (0, 0))) := ⟨A0.out.other (lt_of_row R1.out) (by have := Hlt.out; omega) R1.out⟩
   have hszi : (s.size : Int) = 1008 := by omega
   clear A0 hn
   by_cases h : j < 336
   ·have hn256z : ¬ (n : Int) < 256 := by omega
    have hjz : ((3 * j : Nat) : Int) + 2 < 1008 := by omega
    obtain ⟨i, hi⟩ : ∃ i, 3 * j = i := ⟨_, rfl⟩
    rw [hi] at hjz ⊢
    have fi2 : IntKind.i64.wrap ((i : Int) + 2) = (i : Int) + 2 := by rw [IntKind.wrap_i64]; omega
    clear hi hgo hend
    go_wp2_with (first
     | (refine wpList_load_row rfl 25 _ rfl u1.heap.size rfl 25 R (0, 0) _ Hrow.out Tryz.underlying25 rfl Ri.out ?_)
     | (refine wpList_store_row rfl 25 _ _ rfl (w.heap.size + 1) R rfl rfl 25 _ Hres.out Ri.out Rz.out Ro.out ?_))
    refine bodyPost_ret_by (v := .agg R) (results_cell_row rfl _ _ (w.heap.size + 1) 25 _ (0, 0) _ rfl (setRow_heap _ _ _ _ _ _ Hres.out) Tryz.underlying25 rfl Ri.out) rfl ?_
    exact ⟨rfl, BE.out.trans (below_setRow _ _ _ (Nat.le_succ _))⟩
   ·obtain rfl : j = 336 := by omega
    have e1 : ((3 * 336 : Nat) : Int) = 1008 := rfl
    rw [e1]
    clear hgo hend e1
    go_wp2_with (first
     | (refine wpList_load_row rfl 25 _ rfl u1.heap.size rfl 25 R (0, 0) _ Hrow.out Tryz.underlying25 rfl Ri.out ?_)
     | (refine wpList_store_row rfl 25 _ _ rfl (w.heap.size + 1) R rfl rfl 25 _ Hres.out Ri.out Rz.out Ro.out ?_))
    refine bodyPost_ret_by (v := .agg R) (results_cell_row rfl _ _ (w.heap.size + 1) 25 _ (0, 0) _ rfl (setRow_heap _ _ _ _ _ _ Hres.out) Tryz.underlying25 rfl Ri.out) rfl ?_
    exact ⟨rfl, BE.out.trans (below_setRow _ _ _ (Nat.le_succ _))⟩
end rsuni
namespace rshalf
open Go Go.RowKit
open arr mem samm
set_option maxRecDepth 100000 in
set_option maxHeartbeats 1000000 in
theorem half_any (b : Nat) (hb : b < 16) (e : Int) (w : World) : Calls Tryz.prog 121 #[.int .i64 (b : Int), .int .i64 e] w fun x w' => x = .returned (.tuple #[.int .i64 (hv e b), .bool (hok e b)]) ∧ w' = w := by
 by_cases he : e = 2
 ·subst he
  obtain ⟨r, hr⟩ : ∃ r, b % 5 = r := ⟨_, rfl⟩
  have H := fun w1 => rfld.reduce_any (2 - (r : Int)) w1
  have hhv : hv 2 b = (2 - (r : Int)) % 8380417 := by unfold hv; rw [if_pos rfl, hr]
  obtain ⟨v, hv'⟩ : ∃ v, (2 - (r : Int)) % 8380417 = v := ⟨_, rfl⟩
  rw [hv'] at H hhv
  obtain ⟨o, ho⟩ : ∃ o, hok 2 b = o := ⟨_, rfl⟩
  have hoo : decide ((b : Int) < 15) = o := by rw [← ho]; unfold hok; rw [if_pos rfl]; exact decide_eq_decide.2 (by omega)
  have hoo2 : decide (b < 15) = o := by rw [← ho]; unfold hok; rw [if_pos rfl]
  rw [hhv, ho]
  have fr : (b : Int).tmod 5 = (r : Int) := by rw [Int.tmod_eq_emod_of_nonneg (by omega)]; omega
  have fr2 : (b : Int) % 5 = (r : Int) := by omega
  have fw : IntKind.i64.wrap (2 - (r : Int)) = 2 - (r : Int) := by rw [IntKind.wrap_i64]; omega
  have HH := Away.mk H
  clear hhv hv' ho hr H
  go_enter Tryz.func121, Tryz.ntmps121
  go_wp2_with fail
  refine (HH.out _).mono ?_
  rintro x w1 ⟨rfl, rfl⟩
  go_wp2_with fail
  go_ret2
  exact ⟨by first | rfl | simp_all, rfl⟩
 ·have H := fun w1 => rfld.reduce_any (4 - (b : Int)) w1
  have hhv : hv e b = (4 - (b : Int)) % 8380417 := by unfold hv; rw [if_neg he]
  obtain ⟨v, hv'⟩ : ∃ v, (4 - (b : Int)) % 8380417 = v := ⟨_, rfl⟩
  rw [hv'] at H hhv
  obtain ⟨o, ho⟩ : ∃ o, hok e b = o := ⟨_, rfl⟩
  have hoo : decide ((b : Int) < 9) = o := by rw [← ho]; unfold hok; rw [if_neg he]; exact decide_eq_decide.2 (by omega)
  have hoo2 : decide (b < 9) = o := by rw [← ho]; unfold hok; rw [if_neg he]
  rw [hhv, ho]
  have fe : (e == 2) = false := beq_eq_false_iff_ne.2 he
  have fw : IntKind.i64.wrap (4 - (b : Int)) = 4 - (b : Int) := by rw [IntKind.wrap_i64]; omega
  have HH := Away.mk H
  clear hhv hv' ho H
  go_enter Tryz.func121, Tryz.ntmps121
  go_wp2_with fail
  refine (HH.out _).mono ?_
  rintro x w1 ⟨rfl, rfl⟩
  go_wp2_with fail
  go_ret2
  exact ⟨by first | rfl | simp_all, rfl⟩
end rshalf
namespace rssma
open Go Go.RowKit
open arr mem stil polys polt rbitc floa samm rsuni
set_option maxRecDepth 100000 in
set_option maxHeartbeats 4000000 in
theorem small_any {T : Array Value} (b s : ByteArray) (e : Int) (w : World) (hT : (Tryz.prog.info? 38).map (·.size) = some T.size) (hs : s.size = 816)
 (HS : ∀ w1 : World, Calls Tryz.prog 41 #[.agg T, .int .i64 2, .string b, .int .i64 816] w1 fun e w' => e = .returned (.tuple #[.string s, .int .i64 0]) ∧ Below w1.heap.size w1 w') :
 Calls Tryz.prog 87 #[.agg T, .string b, .int .i64 e] w fun x w' => x = .returned (.agg (FL .i64 256 (sma (bys s) e))) ∧ Below w.heap.size w w' := by
 obtain ⟨hz, hsize⟩ := zero_of_info polt.infoP
 obtain ⟨z, HZ⟩ := ex_eq (FL .i64 256 fun _ => 0)
 rw [HZ.out] at hz
 have Hzs : Away (z.size = 256) := ⟨by rw [← HZ.out]; exact fl_size _ _ _⟩
 obtain ⟨R, HR⟩ := ex_eq (FL .i64 256 (sma (bys s) e))
 have Ri : Away ((Tryz.prog.info? 25).map (·.size) = some R.size) := ⟨by rw [← HR.out, fl_size]; exact hsize⟩
 have Ro : Away (R.all (·.oneCell') = true) := ⟨by rw [← HR.out]; exact fl_one _ _ _⟩
 have Rz : Away (z.size = R.size) := ⟨by rw [Hzs.out, ← HR.out, fl_size]⟩
 have HRd : Away (FL .i64 256 (lf (sa (bys s) e 1632)) = R) := HR
 have HTz := Away.mk hT
 rw [HR.out]
 have Hix : Away (∀ j : Nat, j < 816 → ∀ w1 : World, (Instr.index 9 (.string s) (.int .i64 (j : Int))).run Tryz.prog w1 = .ok (.int .u8 ((by' (bys s) j : Nat) : Int)) w1) := ⟨fun j hj w1 => byte_of s j _ (by omega) rfl w1⟩
 obtain ⟨W, hW⟩ : ∃ x, (w.alloc (.cells T 38)).alloc (.cells z 25) = x := ⟨_, rfl⟩
 obtain ⟨r0, r1, hWs, b0⟩ := two hW
 have T0 : Away (W.heap[w.heap.size]? = some (.cells T 38 (0, 0))) := ⟨r0⟩
 have R0 : Away (W.heap[w.heap.size + 1]? = some (.cells z 25 (0, 0))) := ⟨r1⟩
 have BW := Away.mk b0
 have HWs := Away.mk hWs
 have HW := Away.mk hW
 have HSh := Away.mk HS
 clear hW r0 r1 b0 hWs hsize HS hT HR
 go_enter Tryz.func87, Tryz.ntmps87
 go_wp2_with (first
  | (rw [HW.out])
  | (refine wpList_load_row rfl 38 _ rfl w.heap.size rfl 38 T (0, 0) _ T0.out Tryz.underlying38 rfl HTz.out ?_))
 refine (HSh.out _).mono ?_
 rintro x u1 ⟨rfl, hb1⟩
 obtain ⟨W1, hW1⟩ : ∃ x, u1.alloc (.cells z 25) = x := ⟨_, rfl⟩
 obtain ⟨r1, hs1, b1⟩ := one hW1
 have A0 : Away (At u1.heap.size (FL .i64 256 (lf (sa (bys s) e (2 * 0)))) 25 W1 W1) := ⟨by rw [Nat.mul_zero, sa, lf_nil, HZ.out]; exact At.refl r1⟩
 have R1 : Away (W1.heap[w.heap.size + 1]? = some (.cells z 25 (0, 0))) := ⟨((hb1.trans (b1.mono hb1.size)).block _ (by rw [HWs.out]; omega)).trans R0.out⟩
 have B1 : Away (Below w.heap.size w W1) := ⟨BW.out.trans ((hb1.trans (b1.mono hb1.size)).mono (by rw [HWs.out]; omega))⟩
 have Hlt : Away (w.heap.size + 1 < u1.heap.size) := ⟨by have := hb1.size; rw [HWs.out] at this; omega⟩
 have HW1 := Away.mk hW1
 have hszi : (s.size : Int) = 816 := by omega
 clear hb1 r1 b1 hs1 hW1 T0 R0 BW
 go_wp2_with (rw [HW1.out])
 clear hz
 go_loopw [10, 11] (fun c v wr => ∃ j : Nat, j ≤ 816 ∧ v = .int .i64 (j : Int) ∧ c = .int .i64 (((sa (bys s) e (2 * j)).length : Nat) : Int) ∧ Away (At u1.heap.size (FL .i64 256 (lf (sa (bys s) e (2 * j)))) 25 W1 wr)) (fun _ v _ => 816 - (intOf v).toNat)
 case atStart => exact ⟨0, by omega, rfl, rfl, A0⟩
 case round =>
  clear A0
  obtain ⟨j, hj, rfl, rfl, A0⟩ := hrel
  have BE : Away (Below w.heap.size w wr) := ⟨B1.out.trans (A0.out.below B1.out.size (by have := Hlt.out; omega))⟩
  obtain ⟨n, hn⟩ : ∃ n, (sa (bys s) e (2 * j)).length = n := ⟨_, rfl⟩
  have hn256 := sa_le (bys s) e (2 * j)
  rw [hn] at hn256 ⊢
  by_cases hgo : j < 816 ∧ n < 256
  ·obtain ⟨hj816, hn2⟩ := hgo
   have hjz : (j : Int) < 816 := by omega
   have hn2z : (n : Int) < 256 := by omega
   have hi1 := Hix.out j hj816
   obtain ⟨β, hβ⟩ : ∃ β, by' (bys s) j = β := ⟨_, rfl⟩
   have l0 : β < 256 := by rw [← hβ]; exact by_lt s _
   obtain ⟨lo, hlo⟩ : ∃ lo, β % 16 = lo := ⟨_, rfl⟩
   obtain ⟨hi, hhi⟩ : ∃ hi, β / 16 = hi := ⟨_, rfl⟩
   have va := and_15 β l0
   rw [hlo] at va
   rw [hβ] at hi1
   have fh : (β : Int) / 16 = (hi : Int) := by omega
   have w1 : IntKind.i64.wrap (lo : Int) = (lo : Int) := by rw [IntKind.wrap_i64]; omega
   have w2 : IntKind.i64.wrap (hi : Int) = (hi : Int) := by rw [IntKind.wrap_i64]; omega
   have Hhf : Away (∀ k, k < 2 → hf (bys s) (2 * j + k) = if k = 0 then lo else hi) := ⟨fun k hk => by
    unfold hf
    rw [show (2 * j + k) / 2 = j by omega, hβ, hlo, hhi]
    by_cases h : k = 0
    ·rw [if_pos h, if_pos (by omega)]
    ·rw [if_neg h, if_neg (by omega)]⟩
   have Hl16 : Away (lo < 16 ∧ hi < 16) := ⟨by omega⟩
   have Hn := Away.mk hn
   clear hβ hlo hhi hn
   go_wp2_with fail
   refine any_begin (by kernel_rfl) ?_
   (focus (refine wpAny_take (i := 12) (v := ?_) rfl (by kernel_rfl) (by kernel_rfl) (by kernel_rfl) (fun _ _ _ h => h) (Or.inl ⟨by rfl, ?_⟩) ?_; rotate_left; focus (intro w; go_simp; first | done | with_reducible rfl); all_goals skip))
   refine any_still [0, 1, 2, 3, 4, 5, 6, 7, 8, 9] 10 [11] rfl (by kernel_rfl) ?_
   simp only [pick, List.filterMap_cons, List.filterMap_nil, List.getElem?_cons_succ, List.getElem?_cons_zero]
   repeat still_step
   refine wpStill_nil ?_
   obtain ⟨W2, hW2⟩ : ∃ x, (wr.alloc (.cells #[.int .i64 (lo : Int), .int .i64 (hi : Int)] 3)).drew = x := ⟨_, rfl⟩
   have r2 : W2.heap[wr.heap.size]? = some (.cells #[.int .i64 (lo : Int), .int .i64 (hi : Int)] 3 (0, 0)) := by rw [← hW2]; exact heap_at _ _ _ rfl
   have b2 : Below wr.heap.size wr W2 := by rw [← hW2]; exact (below_alloc _ _).drew
   have A2 : Away (At u1.heap.size (FL .i64 256 (lf (sa (bys s) e (2 * j)))) 25 W1 W2) := ⟨A0.out.later b2⟩
   have C2 : Away (At u1.heap.size (FL .i64 256 (lf (sa (bys s) e (2 * j + 0)))) 25 W2 W2) := ⟨At.refl A2.out.row⟩
   have R2 : Away (W2.heap[wr.heap.size]? = some (.cells #[.int .i64 (lo : Int), .int .i64 (hi : Int)] 3 (0, 0))) := ⟨r2⟩
   have Hne : Away (wr.heap.size ≠ u1.heap.size) := ⟨fun h => by have := A0.out.lt; omega⟩
   have HW2 := Away.mk hW2
   have Hn0 : Away ((sa (bys s) e (2 * j + 0)).length = n) := ⟨by rw [Nat.add_zero]; exact Hn.out⟩
   clear hW2 r2 b2 va hi1 fh w1 w2 A0
   go_wp2_with (rw [HW2.out])
   go_loopw [10, 44] (fun c v wv => ∃ k : Nat, k ≤ 2 ∧ v = .int .i64 (k : Int) ∧ c = .int .i64 (((sa (bys s) e (2 * j + k)).length : Nat) : Int) ∧ Away (At u1.heap.size (FL .i64 256 (lf (sa (bys s) e (2 * j + k)))) 25 W2 wv)) (fun _ v _ => 2 - (intOf v).toNat)
   case atStart => exact ⟨0, by omega, rfl, by rw [Hn0.out], C2⟩
   case round =>
    rename World => wv
    clear C2
    obtain ⟨k, hk, rfl, rfl, A0⟩ := hrel
    obtain ⟨n', hn'⟩ : ∃ n', (sa (bys s) e (2 * j + k)).length = n' := ⟨_, rfl⟩
    have hn6 := sa_le (bys s) e (2 * j + k)
    rw [hn'] at hn6 ⊢
    have Hn' := Away.mk hn'
    clear hn'
    by_cases hk2 : k < 2
    ·have hkz : (k : Int) < 2 := by omega
     have hrow := A0.out.other (lt_of_row R2.out) Hne.out R2.out
     obtain ⟨h, hh⟩ : ∃ h, (if k = 0 then lo else hi) = h := ⟨_, rfl⟩
     have hhf := Hhf.out k hk2
     rw [hh] at hhf
     have hh16 : h < 16 := by have := Hl16.out; rw [← hh]; split <;> omega
     have ck : wv.cell? ⟨wr.heap.size, k, none⟩ = some (.int .i64 (h : Int)) := by
      rw [← hh]
      rcases (show k = 0 ∨ k = 1 by omega) with rfl | rfl
      ·exact cell_at hrow rfl
      ·exact cell_at hrow rfl
     have HH := Away.mk (fun w1 => rshalf.half_any h hh16 e w1)
     have hvr := hv_red e h
     obtain ⟨V, hV⟩ : ∃ V : Nat, hv e h = (V : Int) := ⟨(hv e h).toNat, by omega⟩
     obtain ⟨o, ho⟩ : ∃ o, hok e h = o := ⟨_, rfl⟩
     rw [hV, ho] at HH
     have HV : Away ((hv e (hf (bys s) (2 * j + k))).toNat = V) := ⟨by rw [hhf, hV]; rfl⟩
     have Ho : Away (hok e (hf (bys s) (2 * j + k)) = o) := ⟨by rw [hhf, ho]⟩
     clear hrow hh hhf hvr hV ho
     go_wp2_with fail
     refine (HH.out _).mono ?_
     rintro x wv ⟨rfl, rfl⟩
     clear ck
     by_cases hgo2 : n' < 256 ∧ o = true
     ·obtain ⟨hn2', rfl⟩ := hgo2
      have hn2z' : (n' : Int) < 256 := by omega
      have Hsa : Away (sa (bys s) e (2 * j + (k + 1)) = sa (bys s) e (2 * j + k) ++ [V]) := ⟨by
       rw [show 2 * j + (k + 1) = (2 * j + k) + 1 by omega, sa, if_pos ⟨by rw [Hn'.out]; exact hn2', Ho.out⟩, HV.out]⟩
      have Hset : Away ((FL .i64 256 (lf (sa (bys s) e (2 * j + k)))).setIfInBounds n' (.int .i64 (V : Int)) = FL .i64 256 (lf (sa (bys s) e (2 * j + (k + 1))))) := ⟨by rw [fl_set, Hsa.out, ← lf_snoc, Hn'.out]⟩
      go_wp2_with ((with_reducible refine wpList_put2 A0 rfl _ _ _ rfl rfl ?_); refine ⟨_, _, _, rfl, rfl, rfl, (by rw [fl_size]; exact hn2'), ?_⟩; intro wn HRn; rw [Hset.out] at HRn)
      go_roundw
      case rel => exact ⟨k + 1, by omega, by go_num, by rw [show (sa (bys s) e (2 * j + (k + 1))).length = n' + 1 by rw [Hsa.out, List.length_append, Hn'.out]; rfl]; go_num, HRn⟩
      case measure => simp [intOf]; omega
     ·have Hsa : Away (sa (bys s) e (2 * j + (k + 1)) = sa (bys s) e (2 * j + k)) := ⟨by
       rw [show 2 * j + (k + 1) = (2 * j + k) + 1 by omega, sa, if_neg (by rw [Hn'.out, Ho.out]; exact hgo2)]⟩
      have A1 : Away (At u1.heap.size (FL .i64 256 (lf (sa (bys s) e (2 * j + (k + 1))))) 25 W2 wv) := ⟨by rw [Hsa.out]; exact A0.out⟩
      have Hl : Away ((sa (bys s) e (2 * j + (k + 1))).length = n') := ⟨by rw [Hsa.out, Hn'.out]⟩
      clear A0
      cases o with
      | false =>
       clear hgo2
       go_wp2_with fail
       go_roundw
       case rel => exact ⟨k + 1, by omega, by go_num, by rw [Hl.out], A1⟩
       case measure => simp [intOf]; omega
      | true =>
       have hn2z' : ¬ (n' : Int) < 256 := by
        intro h
        exact hgo2 ⟨by omega, rfl⟩
       clear hgo2
       go_wp2_with fail
       go_roundw
       case rel => exact ⟨k + 1, by omega, by go_num, by rw [Hl.out], A1⟩
       case measure => simp [intOf]; omega
    ·obtain rfl : k = 2 := by omega
     have A1 : Away (At u1.heap.size (FL .i64 256 (lf (sa (bys s) e (2 * (j + 1))))) 25 W1 wv) := ⟨A2.out.trans A0.out⟩
     have Hl : Away ((sa (bys s) e (2 * (j + 1))).length = n') := Hn'
     clear A0
     simp only [Int.cast_ofNat_Int]
     go_wp2_with fail
     go_roundw
     case rel => exact ⟨j + 1, by omega, by go_num, by rw [Hl.out], A1⟩
     case measure => simp [intOf]; omega
  ·have hend : Away (sa (bys s) e (2 * j) = sa (bys s) e 1632) := ⟨by
    by_cases h : j = 816
    ·rw [h]
    ·exact (sa_full (bys s) e (2 * j) 1632 (by omega) (by omega)).symm⟩
   rw [hend.out, HRd.out] at A0
   have Hrow := Away.mk A0.out.row
   have Hres : Away (wr.heap[w.heap.size + 1]? = some (.cells z 25 (0, 0))) := ⟨A0.out.other (lt_of_row R1.out) (by have := Hlt.out; omega) R1.out⟩
   clear A0 hn hend
   by_cases h : j < 816
   ·have hn256z : ¬ (n : Int) < 256 := by omega
    have hjz : (j : Int) < 816 := by omega
    clear hgo
    go_wp2_with (first
     | (refine wpList_load_row rfl 25 _ rfl u1.heap.size rfl 25 R (0, 0) _ Hrow.out Tryz.underlying25 rfl Ri.out ?_)
     | (refine wpList_store_row rfl 25 _ _ rfl (w.heap.size + 1) R rfl rfl 25 _ Hres.out Ri.out Rz.out Ro.out ?_))
    refine bodyPost_ret_by (v := .agg R) (results_cell_row rfl _ _ (w.heap.size + 1) 25 _ (0, 0) _ rfl (setRow_heap _ _ _ _ _ _ Hres.out) Tryz.underlying25 rfl Ri.out) rfl ?_
    exact ⟨rfl, BE.out.trans (below_setRow _ _ _ (Nat.le_succ _))⟩
   ·have hjz : ¬ (j : Int) < 816 := by omega
    clear hgo
    go_wp2_with (first
     | (refine wpList_load_row rfl 25 _ rfl u1.heap.size rfl 25 R (0, 0) _ Hrow.out Tryz.underlying25 rfl Ri.out ?_)
     | (refine wpList_store_row rfl 25 _ _ rfl (w.heap.size + 1) R rfl rfl 25 _ Hres.out Ri.out Rz.out Ro.out ?_))
    refine bodyPost_ret_by (v := .agg R) (results_cell_row rfl _ _ (w.heap.size + 1) 25 _ (0, 0) _ rfl (setRow_heap _ _ _ _ _ _ Hres.out) Tryz.underlying25 rfl Ri.out) rfl ?_
    exact ⟨rfl, BE.out.trans (below_setRow _ _ _ (Nat.le_succ _))⟩
end rssma
end Go.Proofs.YtlcafjdehcddcaaGreatDoor
namespace Go.Proofs.YtlcafjdehcddcaaGreatDoor
namespace rssec
open Go Go.RowKit
open arr mem stil polys polt rbitb rbitc rndm saml
set_option maxRecDepth 100000 in
set_option maxHeartbeats 4000000 in
theorem secrets_yes {T : Array Value} (kn ln : Nat) (e t a b o s : Int) (sd : ByteArray) (q : Nat → Nat → Int) (w : World) (hT : (Tryz.prog.info? 38).map (·.size) = some T.size) (hk : 1 ≤ kn ∧ kn ≤ 8) (hl : 1 ≤ ln ∧ ln ≤ 8) (h : latt (kn : Int) (ln : Int) e t a b o s = true) (hsd : sd.size ≤ 1125899906842624)
 (HS : ∀ r : Nat, r < 16 → ∀ w1 : World, Calls Tryz.prog 87 #[.agg T, .string (tw sd r 0), .int .i64 e] w1 fun x w' => x = .returned (.agg (FL .i64 256 (q r))) ∧ Below w1.heap.size w1 w') :
 Calls Tryz.prog 43 #[.agg T, .agg #[.int .i64 (kn : Int), .int .i64 (ln : Int), .int .i64 e, .int .i64 t, .int .i64 a, .int .i64 b, .int .i64 o, .int .i64 s], .string sd] w fun x w' => (∃ v1 v2, x = .returned (.tuple #[v1, v2]) ∧ w'.ownsRow w.heap.size 25 256 v1 ln (cq q ln) ∧ w'.ownsRow w.heap.size 25 256 v2 kn (cq (fun i => q (ln + i)) kn)) ∧ Below w.heap.size w w' := by
 have HR : Away (∀ w1 : World, Calls Tryz.prog 35 #[.agg #[.int .i64 (kn : Int), .int .i64 (ln : Int), .int .i64 e, .int .i64 t, .int .i64 a, .int .i64 b, .int .i64 o, .int .i64 s]] w1 fun e0 w' => e0 = .returned (.bool true) ∧ Below w1.heap.size w1 w') := ⟨fun w1 => by rw [← h]; exact rfright.right_any _ _ e t a b o s w1⟩
 obtain ⟨i0, hi, hz0, hz1, hz2⟩ := parts infoPoly
 obtain ⟨hz, hsize⟩ := zero_of_info polt.infoP
 obtain ⟨z, HZ⟩ := ex_eq (FL .i64 256 fun _ => 0)
 rw [HZ.out] at hz hz0
 have HI := Away.mk (And.intro hi (And.intro hz0 (And.intro hz1 hz2)))
 have Hzs : Away (z.size = 256) := ⟨by rw [← HZ.out]; exact fl_size _ _ _⟩
 have Hsize := Away.mk hsize
 clear hi hz0 hz1 hz2 hsize
 obtain ⟨C, HC⟩ := ex_eq (#[.int .i64 (kn : Int), .int .i64 (ln : Int), .int .i64 e, .int .i64 t, .int .i64 a, .int .i64 b, .int .i64 o, .int .i64 s] : Array Value)
 rw [HC.out] at HR ⊢
 have HCs : Away ((Tryz.prog.info? 23).map (·.size) = some C.size) := ⟨by rw [← HC.out]; kernel_rfl⟩
 obtain ⟨W, hW⟩ : ∃ x, (w.alloc (.cells T 38)).alloc (.cells C 23) = x := ⟨_, rfl⟩
 obtain ⟨r0, r1, hWs, b0⟩ := two hW
 have T0 : Away (W.heap[w.heap.size]? = some (.cells T 38 (0, 0))) := ⟨r0⟩
 have L0 : Away (W.heap[w.heap.size + 1]? = some (.cells C 23 (0, 0))) := ⟨r1⟩
 have BW := Away.mk b0
 have HWs := Away.mk hWs
 have HW := Away.mk hW
 have HSm := Away.mk HS
 have HTz := Away.mk hT
 have Hk := Away.mk hk
 have Hl := Away.mk hl
 have Hsd := Away.mk hsd
 clear hW r0 r1 b0 h HS hT hk hl hsd hWs
 go_enter Tryz.func43, Tryz.ntmps43
 go_wp2_with (first
  | (rw [HW.out])
  | (refine wpList_load_row rfl 23 _ rfl (w.heap.size + 1) rfl 23 _ (0, 0) _ L0.out Tryz.underlying23 rfl HCs.out ?_))
 refine (HR.out _).mono ?_
 rintro x u1 ⟨rfl, hb1⟩
 have B1 : Away (Below w.heap.size w u1) := ⟨BW.out.trans (hb1.mono (by rw [HWs.out]; omega))⟩
 have T1 : Away (u1.heap[w.heap.size]? = some (.cells T 38 (0, 0))) := ⟨(hb1.block _ (by rw [HWs.out]; omega)).trans T0.out⟩
 have L1 : Away (u1.heap[w.heap.size + 1]? = some (.cells C 23 (0, 0))) := ⟨(hb1.block _ (by rw [HWs.out]; omega)).trans L0.out⟩
 have cK : ∀ w1 : World, Below u1.heap.size u1 w1 → w1.cell? ⟨w.heap.size + 1, 0, none⟩ = some (.int .i64 (kn : Int)) := fun w1 hb => cell_at ((hb.block _ (lt_of_row L1.out)).trans L1.out) (by rw [← HC.out]; rfl)
 have cL : ∀ w1 : World, Below u1.heap.size u1 w1 → w1.cell? ⟨w.heap.size + 1, 1, none⟩ = some (.int .i64 (ln : Int)) := fun w1 hb => cell_at ((hb.block _ (lt_of_row L1.out)).trans L1.out) (by rw [← HC.out]; rfl)
 have cE : ∀ w1 : World, Below u1.heap.size u1 w1 → w1.cell? ⟨w.heap.size + 1, 2, none⟩ = some (.int .i64 e) := fun w1 hb => cell_at ((hb.block _ (lt_of_row L1.out)).trans L1.out) (by rw [← HC.out]; rfl)
 have HcK := Away.mk cK
 have HcL := Away.mk cL
 have HcE := Away.mk cE
 have cK1 := cK u1 (Below.refl _ _)
 have cL1 := cL u1 (Below.refl _ _)
 have fs : IntKind.i64.wrap ((ln : Int) + (kn : Int)) = ((ln + kn : Nat) : Int) := by rw [IntKind.wrap_i64]; have := Hk.out; have := Hl.out; omega
 obtain ⟨M, hM⟩ : ∃ M, ln + kn = M := ⟨_, rfl⟩
 rw [hM] at fs
 clear hb1 cK cL cE
 go_wp2_with fail
 clear cK1 cL1
 go_loopw [8, 9, 20] (fun x y v wr => ∃ r : Nat, r ≤ M ∧ v = .int .i64 (r : Int) ∧ (r ≤ ln → y = .slice none 0 0) ∧ Away (∃ B, u1.heap.size ≤ B ∧ B ≤ wr.heap.size ∧ (∀ w' : World, Below B wr w' → w'.ownsRow u1.heap.size 25 256 x (min r ln) (cq q (min r ln))) ∧ wr.ownsRow B 25 256 y (r - ln) (cq (fun i => q (ln + i)) (r - ln))) ∧ Away (Below u1.heap.size u1 wr)) (fun _ _ v _ => M - (intOf v).toNat)
 case atStart => exact ⟨0, Nat.zero_le _, rfl, fun _ => rfl, ⟨u1.heap.size, Nat.le_refl _, Nat.le_refl _, fun w' _ => by rw [Nat.zero_min]; exact ⟨rfl, Or.inl ⟨rfl, rfl⟩⟩, by rw [Nat.zero_sub]; exact ⟨rfl, Or.inl ⟨rfl, rfl⟩⟩⟩, ⟨Below.refl _ _⟩⟩
 case round =>
  obtain ⟨r, hr, rfl, hnil, HB0, Hb⟩ := hrel
  obtain ⟨B, hB1, hB2, Ox, Oy⟩ := HB0.out
  have HOx := Away.mk Ox
  have HOy := Away.mk Oy
  have Hnil := Away.mk hnil
  have HB := Away.mk (And.intro hB1 hB2)
  clear Ox Oy HB0 hB1 hB2 hnil
  by_cases hlt : r < M
  ·have hltz : (r : Int) < (M : Int) := by omega
   have hr16 : r < 16 := by have := Hk.out; have := Hl.out; omega
   have fr8 : IntKind.u8.wrap (r : Int) = (r : Int) := by rw [IntKind.wrap_u8]; omega
   have T2 : Away (wr.heap[w.heap.size]? = some (.cells T 38 (0, 0))) := ⟨(Hb.out.block _ (lt_of_row T1.out)).trans T1.out⟩
   obtain ⟨W2, hW2⟩ : ∃ x, wr.alloc (.cells #[.int .u8 (r : Int), .int .u8 0] 5) = x := ⟨_, rfl⟩
   obtain ⟨r2, hs2, b2⟩ := one hW2
   have hcv := conv_lk (t := 5) (l := [r, 0]) (cap := 2) (n := 2) rfl (by simp; omega) r2
   obtain ⟨X, hX⟩ : ∃ X : ByteArray, ⟨(u8s [r, 0]).toArray⟩ = X := ⟨_, rfl⟩
   have hXs : X.size = 2 := by rw [← hX]; rfl
   have hcat : sd ++ X = tw sd r 0 := by rw [← hX]; rfl
   rw [hX] at hcv
   have B2 : Away (Below u1.heap.size u1 W2) := ⟨Hb.out.trans (b2.mono Hb.out.size)⟩
   have cE2 := HcE.out W2 B2.out
   have HW2 := Away.mk hW2
   have Hcat := Away.mk hcat
   have hsd := Hsd.out
   clear hX hcat r2 hs2 b2 hW2
   go_wp2_with fail
   refine wp_load_row 38 _ rfl w.heap.size rfl 38 T (0, 0) _ T2.out Tryz.underlying38 rfl HTz.out ?_
   go_wp2_with (rw [HW2.out])
   have HSr := HSm.out r hr16 W2
   rw [← Hcat.out] at HSr
   refine HSr.mono ?_
   rintro x1 w3 ⟨rfl, hb3⟩
   have B3 : Away (Below u1.heap.size u1 w3) := ⟨B2.out.trans (hb3.mono B2.out.size)⟩
   have D3 : Away (Below wr.heap.size wr w3) := ⟨by rw [← HW2.out] at hb3; exact (below_alloc _ _).trans (hb3.mono (by rw [size_alloc]; omega))⟩
   obtain ⟨F, HF⟩ := ex_eq (FL .i64 256 (q r))
   have Fs : Away (F.size = 256) := ⟨by rw [← HF.out]; exact fl_size _ _ _⟩
   have Fo : Away (F.all (·.oneCell') = true) := ⟨by rw [← HF.out]; exact fl_one _ _ _⟩
   have Fi : Away ((Tryz.prog.info? 25).map (·.size) = some F.size) := ⟨by rw [Fs.out]; exact Hsize.out⟩
   have Fz : Away (z.size = F.size) := ⟨by rw [Hzs.out, Fs.out]⟩
   rw [HF.out]
   obtain ⟨W4, hW4⟩ : ∃ x, w3.alloc (.cells F 25) = x := ⟨_, rfl⟩
   obtain ⟨r4, hs4, b4⟩ := one hW4
   have B4 : Away (Below u1.heap.size u1 W4) := ⟨B3.out.trans (b4.mono B3.out.size)⟩
   have D4 : Away (Below wr.heap.size wr W4) := ⟨D3.out.trans (b4.mono D3.out.size)⟩
   have R4 : Away (W4.heap[w3.heap.size]? = some (.cells F 25 (0, 0))) := ⟨r4⟩
   have cL4 := HcL.out W4 B4.out
   have Ox4 : Away (∀ w' : World, Below B W4 w' → w'.ownsRow u1.heap.size 25 256 u8 (min r ln) (cq q (min r ln))) := ⟨fun w' hb => HOx.out w' ((D4.out.mono HB.out.2).trans hb)⟩
   have Oy4 : Away (W4.ownsRow B 25 256 u9 (r - ln) (cq (fun i => q (ln + i)) (r - ln))) := ⟨own_later HOy.out D4.out⟩
   have HW4 := Away.mk hW4
   have hws : u1.heap.size ≤ W4.heap.size := B4.out.size
   have hws2 : Away (B ≤ W4.heap.size) := ⟨Nat.le_trans HB.out.2 D4.out.size⟩
   have HF0 : Away (∀ cs : Array Value, cs.size = 256 → Instr.fill (fun i => some (i * i0.size, i0.size)) cs [(0, .agg F)] = some F) := ⟨fun cs hc => by rw [HI.out.2.2.1]; exact fill_one F cs Fs.out hc⟩
   have Hzc : Away ((Value.agg z).cells.size = 256) := ⟨Hzs.out⟩
   clear hb3 hW4 r4 hs4 b4 HSr hcv cE2 hXs fr8 hltz HOx HOy
   by_cases hrl : r < ln
   ·have hrlz : (r : Int) < (ln : Int) := by omega
    have hm1 : min r ln = r := by omega
    have Oxp : Away (W4.ownsRow u1.heap.size 25 256 u8 r (cq q r)) := ⟨by have := Ox4.out W4 (Below.refl _ _); rwa [hm1] at this⟩
    have hu9 := Hnil.out (by omega)
    subst hu9
    clear hm1
    go_wp2_with (first
     | (refine wpList_store_new rfl 25 _ _ rfl F rfl rfl Fi.out (by exact Fz.out) Fo.out rfl ?_)
     | (rw [HW4.out]))
    refine wp_load_row 25 _ rfl w3.heap.size rfl 25 F (0, 0) _ R4.out Tryz.underlying25 rfl Fi.out ?_
    go_wp2_with fail
    refine wp_buildSlice 45 25 1 _ rfl F i0 (.agg z) Tryz.underlying45 HI.out.1 HI.out.2.1 (by rw [HI.out.2.2.1]; decide) (by rw [HI.out.2.2.1]; decide) ?hf ?_
    case hf =>
     go_simp
     exact ⟨⟨decide_eq_false (fun h => h (Fs.out.trans HI.out.2.2.1.symm)), by rw [Fs.out, HI.out.2.2.1]; exact Nat.le_refl _⟩, fold_one F _ Fs.out (by simp [HI.out.2.2.1])⟩
    go_wp2_with (at_builtin; refine wpList_append_own _ rfl _ _ 45 rfl u1.heap.size 25 i0 (.agg z) 256 2048 Tryz.underlying45 HI.out.1 HI.out.2.1 HI.out.2.2.1 HI.out.2.2.2 Hzc.out (by decide) _ _ _ rfl (Oxp.out.alloc _) ⟨W4.heap.size, 0, none⟩ 1 1 F.toList rfl (by rw [Array.length_toList, Fs.out]) (fun j u hu => cell_at_new hu) (fun u hu => all_one Fo.out u hu) (by unfold maxLen; omega) (by omega) (by rw [size_alloc]; have := hws2.out; omega) ?_)
    intro v' w8 hown' hgrow _
    have hb8 : Below u1.heap.size W4 w8 := ((Below.refl u1.heap.size W4).alloc hws _).grown hgrow (by rw [size_alloc]; have := hws2.out; omega) (fun k hk => (Oxp.out.lt k hk).1)
    have B8 : Away (Below u1.heap.size u1 w8) := ⟨B4.out.trans (hb8.mono (Nat.le_refl _))⟩
    have O8 : Away (w8.ownsRow u1.heap.size 25 256 v' (r + 1) (cq q (r + 1))) := ⟨by rw [cq, HF.out]; exact hown'⟩
    clear hown' hgrow hb8
    go_wp2_with fail
    go_roundw
    case rel => exact ⟨r + 1, by omega, by go_num, fun _ => rfl, ⟨w8.heap.size, B8.out.size, Nat.le_refl _, fun w' hb => by rw [show min (r + 1) ln = r + 1 by omega]; exact own_later O8.out hb, by rw [show r + 1 - ln = 0 by omega]; exact ⟨rfl, Or.inl ⟨rfl, rfl⟩⟩⟩, B8⟩
    case measure => simp [intOf]; omega
   ·have hrlz : ¬ (r : Int) < (ln : Int) := by omega
    have hm1 : min r ln = ln := by omega
    obtain ⟨d, hd⟩ : ∃ d, r - ln = d := ⟨_, rfl⟩
    rw [hd] at Oy4
    rw [hm1] at Ox4
    have hrd : r = ln + d := by omega
    have hd16 : d < 16 := by omega
    clear hm1
    go_wp2_with (first
     | (refine wpList_store_new rfl 25 _ _ rfl F rfl rfl Fi.out (by exact Fz.out) Fo.out rfl ?_)
     | (rw [HW4.out]))
    refine wp_load_row 25 _ rfl w3.heap.size rfl 25 F (0, 0) _ R4.out Tryz.underlying25 rfl Fi.out ?_
    go_wp2_with fail
    refine wp_buildSlice 45 25 1 _ rfl F i0 (.agg z) Tryz.underlying45 HI.out.1 HI.out.2.1 (by rw [HI.out.2.2.1]; decide) (by rw [HI.out.2.2.1]; decide) ?hf ?_
    case hf =>
     go_simp
     exact ⟨⟨decide_eq_false (fun h => h (Fs.out.trans HI.out.2.2.1.symm)), by rw [Fs.out, HI.out.2.2.1]; exact Nat.le_refl _⟩, fold_one F _ Fs.out (by simp [HI.out.2.2.1])⟩
    go_wp2_with (at_builtin; refine wpList_append_own _ rfl _ _ 45 rfl B 25 i0 (.agg z) 256 2048 Tryz.underlying45 HI.out.1 HI.out.2.1 HI.out.2.2.1 HI.out.2.2.2 Hzc.out (by decide) _ _ _ rfl (Oy4.out.alloc _) ⟨W4.heap.size, 0, none⟩ 1 1 F.toList rfl (by rw [Array.length_toList, Fs.out]) (fun j u hu => cell_at_new hu) (fun u hu => all_one Fo.out u hu) (by unfold maxLen; omega) (by omega) (by rw [size_alloc]; have := hws2.out; omega) ?_)
    intro v' w8 hown' hgrow _
    have hb8 : Below B W4 w8 := ((Below.refl B W4).alloc hws2.out _).grown hgrow (by rw [size_alloc]; have := hws2.out; omega) (fun k hk => (Oy4.out.lt k hk).1)
    have B8 : Away (Below u1.heap.size u1 w8) := ⟨B4.out.trans (hb8.mono HB.out.1)⟩
    have O8 : Away (w8.ownsRow B 25 256 v' (d + 1) (cq (fun i => q (ln + i)) (d + 1))) := ⟨by rw [cq, ← hrd, HF.out]; exact hown'⟩
    have X8 : Away (∀ w' : World, Below B w8 w' → w'.ownsRow u1.heap.size 25 256 u8 ln (cq q ln)) := ⟨fun w' hb => Ox4.out w' (hb8.trans hb)⟩
    have hB8 : Away (B ≤ w8.heap.size) := ⟨Nat.le_trans hws2.out hb8.size⟩
    clear hown' hgrow hb8
    go_wp2_with fail
    go_roundw
    case rel => exact ⟨r + 1, by omega, by go_num, fun h => by omega, ⟨B, HB.out.1, hB8.out, fun w' hb => by rw [show min (r + 1) ln = ln by omega]; exact X8.out w' hb, by rw [show r + 1 - ln = d + 1 by omega]; exact O8.out⟩, B8⟩
    case measure => simp [intOf]; omega
  ·obtain rfl : r = M := by omega
   have hm1 : min r ln = ln := by have := Hk.out; omega
   have hm2 : r - ln = kn := by omega
   have Fx : Away (wr.ownsRow w.heap.size 25 256 u8 ln (cq q ln)) := ⟨by have := own_base (HOx.out wr (Below.refl _ _)) B1.out.size; rwa [hm1] at this⟩
   have Fy : Away (wr.ownsRow w.heap.size 25 256 u9 kn (cq (fun i => q (ln + i)) kn)) := ⟨by have := own_base HOy.out (Nat.le_trans B1.out.size HB.out.1); rwa [hm2] at this⟩
   clear HOx HOy hm1 hm2
   go_wp2_with fail
   go_ret2
   exact ⟨⟨_, _, rfl, Fx.out, Fy.out⟩, B1.out.trans (Hb.out.mono B1.out.size)⟩
end rssec
end Go.Proofs.YtlcafjdehcddcaaGreatDoor
namespace Go.Proofs.YtlcafjdehcddcaaGreatDoor
namespace rsmat
open Go Go.RowKit
open arr mem stil polys polt rbitb rbitc rndm saml samr
theorem infoSl : (Tryz.prog.info? 45).map (fun i => (i.zero, i.size, i.bytes)) = some (some (.slice none 0 0), 1, 24) := by kernel_rfl
set_option maxRecDepth 100000 in
set_option maxHeartbeats 4000000 in
theorem matrix_yes {T : Array Value} (kn ln : Nat) (e t a b o s : Int) (sd : ByteArray) (q : Nat → Nat → Nat → Int) (w : World) (hT : (Tryz.prog.info? 38).map (·.size) = some T.size) (hk : 1 ≤ kn ∧ kn ≤ 8) (hl : 1 ≤ ln ∧ ln ≤ 8) (h : latt (kn : Int) (ln : Int) e t a b o s = true) (hsd : sd.size ≤ 1125899906842624)
 (HS : ∀ r c : Nat, r < 8 → c < 8 → ∀ w1 : World, Calls Tryz.prog 88 #[.agg T, .string (tw sd c r)] w1 fun x w' => x = .returned (.agg (FL .i64 256 (q r c))) ∧ Below w1.heap.size w1 w') :
 Calls Tryz.prog 44 #[.agg T, .agg #[.int .i64 (kn : Int), .int .i64 (ln : Int), .int .i64 e, .int .i64 t, .int .i64 a, .int .i64 b, .int .i64 o, .int .i64 s], .string sd] w fun x w' => (∃ v vs, x = .returned v ∧ w'.ownsRow w.heap.size 45 1 v kn vs ∧ Rowl w' w.heap.size v.ownBlock vs ln q) ∧ Below w.heap.size w w' := by
 have HR : Away (∀ w1 : World, Calls Tryz.prog 35 #[.agg #[.int .i64 (kn : Int), .int .i64 (ln : Int), .int .i64 e, .int .i64 t, .int .i64 a, .int .i64 b, .int .i64 o, .int .i64 s]] w1 fun e0 w' => e0 = .returned (.bool true) ∧ Below w1.heap.size w1 w') := ⟨fun w1 => by rw [← h]; exact rfright.right_any _ _ e t a b o s w1⟩
 obtain ⟨i0, hi, hz0, hz1, hz2⟩ := parts infoPoly
 obtain ⟨hz, hsize⟩ := zero_of_info polt.infoP
 obtain ⟨z, HZ⟩ := ex_eq (FL .i64 256 fun _ => 0)
 rw [HZ.out] at hz hz0
 obtain ⟨j0, hj, hy0, hy1, hy2⟩ := parts infoSl
 have HJ := Away.mk (And.intro hj (And.intro hy0 (And.intro hy1 hy2)))
 have HI := Away.mk (And.intro hi (And.intro hz0 (And.intro hz1 hz2)))
 have Hzs : Away (z.size = 256) := ⟨by rw [← HZ.out]; exact fl_size _ _ _⟩
 have Hsize := Away.mk hsize
 clear hi hz0 hz1 hz2 hsize hj hy0 hy1 hy2
 obtain ⟨C, HC⟩ := ex_eq (#[.int .i64 (kn : Int), .int .i64 (ln : Int), .int .i64 e, .int .i64 t, .int .i64 a, .int .i64 b, .int .i64 o, .int .i64 s] : Array Value)
 rw [HC.out] at HR ⊢
 have HCs : Away ((Tryz.prog.info? 23).map (·.size) = some C.size) := ⟨by rw [← HC.out]; kernel_rfl⟩
 obtain ⟨W, hW⟩ : ∃ x, (w.alloc (.cells T 38)).alloc (.cells C 23) = x := ⟨_, rfl⟩
 obtain ⟨r0, r1, hWs, b0⟩ := two hW
 have T0 : Away (W.heap[w.heap.size]? = some (.cells T 38 (0, 0))) := ⟨r0⟩
 have L0 : Away (W.heap[w.heap.size + 1]? = some (.cells C 23 (0, 0))) := ⟨r1⟩
 have BW := Away.mk b0
 have HWs := Away.mk hWs
 have HW := Away.mk hW
 have HSm := Away.mk HS
 have HTz := Away.mk hT
 have Hk := Away.mk hk
 have Hl := Away.mk hl
 have Hsd := Away.mk hsd
 clear hW r0 r1 b0 h HS hT hk hl hsd hWs
 go_enter Tryz.func44, Tryz.ntmps44
 go_wp2_with (first
  | (rw [HW.out])
  | (refine wpList_load_row rfl 23 _ rfl (w.heap.size + 1) rfl 23 _ (0, 0) _ L0.out Tryz.underlying23 rfl HCs.out ?_))
 refine (HR.out _).mono ?_
 rintro x u1 ⟨rfl, hb1⟩
 have B1 : Away (Below w.heap.size w u1) := ⟨BW.out.trans (hb1.mono (by rw [HWs.out]; omega))⟩
 have T1 : Away (u1.heap[w.heap.size]? = some (.cells T 38 (0, 0))) := ⟨(hb1.block _ (by rw [HWs.out]; omega)).trans T0.out⟩
 have L1 : Away (u1.heap[w.heap.size + 1]? = some (.cells C 23 (0, 0))) := ⟨(hb1.block _ (by rw [HWs.out]; omega)).trans L0.out⟩
 have cK : ∀ w1 : World, Below u1.heap.size u1 w1 → w1.cell? ⟨w.heap.size + 1, 0, none⟩ = some (.int .i64 (kn : Int)) := fun w1 hb => cell_at ((hb.block _ (lt_of_row L1.out)).trans L1.out) (by rw [← HC.out]; rfl)
 have cL : ∀ w1 : World, Below u1.heap.size u1 w1 → w1.cell? ⟨w.heap.size + 1, 1, none⟩ = some (.int .i64 (ln : Int)) := fun w1 hb => cell_at ((hb.block _ (lt_of_row L1.out)).trans L1.out) (by rw [← HC.out]; rfl)
 have HcL := Away.mk cL
 have cK1 := cK u1 (Below.refl _ _)
 clear hb1 cK cL
 go_wp2_with fail
 clear cK1
 go_loopw [7, 16] (fun x v wr => ∃ r : Nat, r ≤ kn ∧ v = .int .i64 (r : Int) ∧ Away (∃ vs, wr.ownsRow u1.heap.size 45 1 x r vs ∧ Rowl wr u1.heap.size x.ownBlock vs ln q) ∧ Away (Below u1.heap.size u1 wr)) (fun _ v _ => kn - (intOf v).toNat)
 case atStart => exact ⟨0, Nat.zero_le _, rfl, ⟨[], ⟨rfl, Or.inl ⟨rfl, rfl⟩⟩, rows_nil _ _ _ _ _⟩, ⟨Below.refl _ _⟩⟩
 case round =>
  rename World => wo
  obtain ⟨r, hr, rfl, HO, Hb⟩ := hrel
  by_cases hlt : r < kn
  ·have hltz : (r : Int) < (kn : Int) := by omega
   have hr8 : r < 8 := by have := Hk.out; omega
   have cL1 := HcL.out wo Hb.out
   have Hlt := Away.mk hlt
   go_wp2_with fail
   clear cL1
   go_loopw [9, 21] (fun y v wr => ∃ c : Nat, c ≤ ln ∧ v = .int .i64 (c : Int) ∧ Away (wr.ownsRow wo.heap.size 25 256 y c (cq (q r) c)) ∧ Away (Below wo.heap.size wo wr)) (fun _ v _ => ln - (intOf v).toNat)
   case atStart => exact ⟨0, Nat.zero_le _, rfl, ⟨⟨rfl, Or.inl ⟨rfl, rfl⟩⟩⟩, ⟨Below.refl _ _⟩⟩
   case round =>
    obtain ⟨c, hc, rfl, Oy, Hc⟩ := hrel
    by_cases hclt : c < ln
    ·have hcz : (c : Int) < (ln : Int) := by omega
     have hc8 : c < 8 := by have := Hl.out; omega
     have fr8 : IntKind.u8.wrap (r : Int) = (r : Int) := by rw [IntKind.wrap_u8]; omega
     have fc8 : IntKind.u8.wrap (c : Int) = (c : Int) := by rw [IntKind.wrap_u8]; omega
     have BO : Away (Below u1.heap.size u1 wr) := ⟨Hb.out.trans (Hc.out.mono Hb.out.size)⟩
     have T2 : Away (wr.heap[w.heap.size]? = some (.cells T 38 (0, 0))) := ⟨(BO.out.block _ (lt_of_row T1.out)).trans T1.out⟩
     obtain ⟨W2, hW2⟩ : ∃ x, wr.alloc (.cells #[.int .u8 (c : Int), .int .u8 (r : Int)] 5) = x := ⟨_, rfl⟩
     obtain ⟨r2, hs2, b2⟩ := one hW2
     have hcv := conv_lk (t := 5) (l := [c, r]) (cap := 2) (n := 2) rfl (by simp; omega) r2
     obtain ⟨X, hX⟩ : ∃ X : ByteArray, ⟨(u8s [c, r]).toArray⟩ = X := ⟨_, rfl⟩
     have hXs : X.size = 2 := by rw [← hX]; rfl
     have hcat : sd ++ X = tw sd c r := by rw [← hX]; rfl
     rw [hX] at hcv
     have HW2 := Away.mk hW2
     have hsd := Hsd.out
     have HSr := HSm.out r c hr8 hc8
     rw [← hcat] at HSr
     have HSr := Away.mk HSr
     have D2 : Away (Below wr.heap.size wr W2) := ⟨b2⟩
     have Hclt := Away.mk hclt
     clear hX hcat r2 hs2 b2 hW2
     go_wp2_with fail
     refine wp_load_row 38 _ rfl w.heap.size rfl 38 T (0, 0) _ T2.out Tryz.underlying38 rfl HTz.out ?_
     go_wp2_with (rw [HW2.out])
     refine (HSr.out _).mono ?_
     rintro x1 w3 ⟨rfl, hb3⟩
     have D3 : Away (Below wr.heap.size wr w3) := ⟨D2.out.trans (hb3.mono D2.out.size)⟩
     have Oy3 : Away (w3.ownsRow wo.heap.size 25 256 u9 c (cq (q r) c)) := ⟨own_later Oy.out D3.out⟩
     obtain ⟨F, HF⟩ := ex_eq (FL .i64 256 (q r c))
     have Fs : Away (F.size = 256) := ⟨by rw [← HF.out]; exact fl_size _ _ _⟩
     have Fo : Away (F.all (·.oneCell') = true) := ⟨by rw [← HF.out]; exact fl_one _ _ _⟩
     rw [HF.out]
     have hws : wo.heap.size ≤ w3.heap.size := Nat.le_trans Hc.out.size D3.out.size
     have HF0 : Away (∀ cs : Array Value, cs.size = 256 → Instr.fill (fun i => some (i * i0.size, i0.size)) cs [(0, .agg F)] = some F) := ⟨fun cs hc => by rw [HI.out.2.2.1]; exact fill_one F cs Fs.out hc⟩
     have Hzc : Away ((Value.agg z).cells.size = 256) := ⟨Hzs.out⟩
     clear hb3 hcv fr8 fc8 hXs Oy
     go_wp2_with fail
     refine wp_buildSlice 45 25 1 _ rfl F i0 (.agg z) Tryz.underlying45 HI.out.1 HI.out.2.1 (by rw [HI.out.2.2.1]; decide) (by rw [HI.out.2.2.1]; decide) ?hf ?_
     case hf =>
      go_simp
      exact ⟨⟨decide_eq_false (fun h => h (Fs.out.trans HI.out.2.2.1.symm)), by rw [Fs.out, HI.out.2.2.1]; exact Nat.le_refl _⟩, fold_one F _ Fs.out (by simp [HI.out.2.2.1])⟩
     go_wp2_with (at_builtin; refine wpList_append_own _ rfl _ _ 45 rfl wo.heap.size 25 i0 (.agg z) 256 2048 Tryz.underlying45 HI.out.1 HI.out.2.1 HI.out.2.2.1 HI.out.2.2.2 Hzc.out (by decide) _ _ _ rfl (Oy3.out.alloc _) ⟨w3.heap.size, 0, none⟩ 1 1 F.toList rfl (by rw [Array.length_toList, Fs.out]) (fun j u hu => cell_at_new hu) (fun u hu => all_one Fo.out u hu) (by unfold maxLen; omega) (by omega) (by rw [size_alloc]; omega) ?_)
     intro v' w8 hown' hgrow _
     have hb8 : Below wo.heap.size w3 w8 := ((Below.refl wo.heap.size w3).alloc hws _).grown hgrow (by rw [size_alloc]; omega) (fun k hk => (Oy3.out.lt k hk).1)
     have B8 : Away (Below wo.heap.size wo w8) := ⟨Hc.out.trans ((D3.out.mono Hc.out.size).trans hb8)⟩
     have O8 : Away (w8.ownsRow wo.heap.size 25 256 v' (c + 1) (cq (q r) (c + 1))) := ⟨by rw [cq, HF.out]; exact hown'⟩
     clear hown' hgrow hb8
     go_wp2_with fail
     go_roundw
     case rel => exact ⟨c + 1, by have := Hclt.out; omega, by go_num, O8, B8⟩
     case measure => have := Hclt.out; simp [intOf]; omega
    ·obtain rfl : c = ln := by omega
     obtain ⟨vs, hov, hrv⟩ := HO.out
     have hvl : vs.length = r := by have := hov.1; omega
     have HH : Away (pols.Holds wr wo.heap.size u9 c (q r)) := ⟨saml.own_holds Hl.out.1 Oy.out⟩
     have ho1 : Away (u9.oneCell' = true) := ⟨holds_one HH.out⟩
     have hrows : Away (Rowl wr u1.heap.size u7.ownBlock (vs ++ [u9]) c q) := ⟨(hrv.later Hc.out).snoc (by rw [hvl]; exact HH.out) Hb.out.size (fun k hk => (hov.lt k hk).2)⟩
     obtain ⟨gi, ci, hu9, -⟩ := HH.out
     have hov2 : Away (wr.ownsRow u1.heap.size 45 1 u7 r vs) := ⟨own_later hov Hc.out⟩
     have hws : u1.heap.size ≤ wr.heap.size := Nat.le_trans Hb.out.size Hc.out.size
     have Hzc : Away ((Value.slice none 0 0).cells.size = 1) := ⟨rfl⟩
     have Hlt2 := Hlt.out
     clear hov hrv Oy hclt HH
     subst hu9
     go_wp2_with (at_builtin; refine wpList_append_own_at _ rfl _ _ 46 rfl u1.heap.size 45 j0 (.slice none 0 0) 1 24 Tryz.underlying46 HJ.out.1 HJ.out.2.1 HJ.out.2.2.1 HJ.out.2.2.2 Hzc.out (by decide) _ _ _ rfl (hov2.out.alloc _) ⟨wr.heap.size, 0, none⟩ 1 1 [.slice (some ⟨gi, 0, none⟩) c ci] rfl rfl (fun j u hu => cell_one_new _ _ _ j u hu) (fun u hu => by rw [List.mem_singleton] at hu; subst hu; exact ho1.out) (by unfold maxLen; omega) (by omega) (by rw [size_alloc]; omega) ?_)
     intro v' w8 hown' hgrow _ hblk
     have hb8 : Below u1.heap.size wr w8 := ((Below.refl u1.heap.size wr).alloc hws _).grown hgrow (by rw [size_alloc]; omega) (fun k hk => (hov2.out.lt k hk).1)
     have B8 : Away (Below u1.heap.size u1 w8) := ⟨Hb.out.trans ((Hc.out.mono Hb.out.size).trans hb8)⟩
     have O8 : Away (∃ vs, w8.ownsRow u1.heap.size 45 1 v' (r + 1) vs ∧ Rowl w8 u1.heap.size v'.ownBlock vs c q) := ⟨_, hown', (hrows.out.later (below_alloc _ _)).grown hgrow (by rw [size_alloc]; exact hblk)⟩
     clear hown' hgrow hb8 hblk
     go_wp2_with fail
     go_roundw
     case rel => exact ⟨r + 1, by omega, by go_num, O8, B8⟩
     case measure => simp [intOf]; omega
  ·obtain rfl : r = kn := by omega
   obtain ⟨vs, hov, hrv⟩ := HO.out
   have Fx : Away (wo.ownsRow w.heap.size 45 1 u7 r vs) := ⟨own_base hov B1.out.size⟩
   have Gx : Away (Rowl wo w.heap.size u7.ownBlock vs ln q) := ⟨hrv.base B1.out.size⟩
   clear hov hrv
   go_wp2_with fail
   go_ret
   exact ⟨⟨_, vs, rfl, Fx.out, Gx.out⟩, B1.out.trans (Hb.out.mono B1.out.size)⟩
end rsmat
end Go.Proofs.YtlcafjdehcddcaaGreatDoor
namespace Go.Proofs.YtlcafjdehcddcaaGreatDoor
namespace rols
open Go.RowKit
open arr kecm
set_option maxRecDepth 100000 in
set_option maxHeartbeats 1000000 in
theorem left_any (x k : Nat) (w : World) (hx : x < 18446744073709551616) (hk : k < 9223372036854775808) :
 Calls Tryz.prog 136 #[.int .u64 (x : Int), .int .i64 (k : Int)] w fun e w' => e = .returned (.int .u64 ((rol x (k % 64) : Nat) : Int)) ∧ w' = w := by
 have hq := mask k hk
 have hw : IntKind.u64.wrap (k : Int) = (k : Int) := by rw [IntKind.wrap_u64]; omega
 obtain ⟨n, hn⟩ : ∃ n, k % 64 = n := ⟨_, rfl⟩
 rw [hn] at hq ⊢
 have hn63 : n ≤ 63 := by omega
 clear hn
 by_cases h0 : n = 0
 ·subst h0
  have h1 : bits .and .u64 (k : Int) 63 = 0 := hq
  have h2 : bits .and .u64 64 63 = 0 := by decide +kernel
  clear hq hn63
  have h3 : bits .or .u64 (x : Int) (x : Int) = (x : Int) := by rw [u64_or_nat x x hx hx, Nat.or_self]
  have h4 : (x : Int) < 18446744073709551616 := by omega
  rw [rol_zero x hx]
  go_enter Tryz.func136, Tryz.ntmps136
  go_wp2_with fail
  go_ret
  exact ⟨rfl, rfl⟩
 ·obtain ⟨m, hm⟩ : ∃ m, m = 64 - n := ⟨_, rfl⟩
  have Hm := Away.mk hm
  have h2 : bits .and .u64 (64 - (n : Int)) 63 = (m : Int) := by
   have h := mask (64 - n) (by omega)
   rw [show ((64 - n : Nat) : Int) = 64 - (n : Int) by omega] at h
   rw [h]
   omega
  have hm63 : m ≤ 63 := by omega
  have hn1 : 1 ≤ n := by omega
  clear hm h0
  go_enter Tryz.func136, Tryz.ntmps136
  go_wp2_with fail
  go_ret
  exact ⟨ret_int (orl x n m Hm.out hx), rfl⟩
end rols
namespace rkec
open Go.RowKit
open arr mem kecm kecb kstep kfun
theorem left1 (x r : Nat) (w : World) (hx : x < 18446744073709551616) (hr : rol x 1 = r) :
 Calls Tryz.prog 136 #[.int .u64 (x : Int), .int .i64 1] w fun e w' => e = .returned (.int .u64 (r : Int)) ∧ w' = w := by
 subst hr; exact rols.left_any x 1 w hx (by decide)
theorem z5_is : (#[.int .u64 0, .int .u64 0, .int .u64 0, .int .u64 0, .int .u64 0] : Array Value) = LK .u64 [0, 0, 0, 0, 0] := rfl
def oxy (i : Nat) : Nat := 5 * (i % 5) + i / 5
theorem oxy_lt (i : Nat) (h : i < 25) : oxy i < 25 := by unfold oxy; omega
theorem oxy_inj (i x y : Nat) (hi : i < 25) (hx : x < 5) (hy : y < 5) (h : oxy i = 5 * x + y) : i = x + 5 * y := by unfold oxy at h; omega
theorem src_at (x y : Nat) (hx : x < 5) (hy : y < 5) : src (y + 5 * ((2 * x + 3 * y) % 5)) = x + 5 * y := by
 unfold src
 have : ∀ x : Fin 5, ∀ y : Fin 5, (3 * ((y.val + 5 * ((2 * x.val + 3 * y.val) % 5)) / 5) + (y.val + 5 * ((2 * x.val + 3 * y.val) % 5)) % 5) % 5 + 5 * ((y.val + 5 * ((2 * x.val + 3 * y.val) % 5)) % 5) = x.val + 5 * y.val := by decide
 exact this ⟨x, hx⟩ ⟨y, hy⟩
theorem src_inj (i j : Nat) (hi : i < 25) (hj : j < 25) (h : src i = src j) : i = j := by
 have h1 := dst_src ⟨i, hi⟩
 have h2 := dst_src ⟨j, hj⟩
 simp only at h1 h2
 rw [← h1, ← h2, h]
end rkec
namespace rkeb
open Go.RowKit
open arr mem kecm kecb kstep kfun rkec
theorem sizeT : (Tryz.prog.info? 38).map (·.size) = some 465 := by kernel_rfl
theorem bendl_is (a : List Nat) : bendL a = mkS (kbend.bl a) := rfl
end rkeb
namespace rperm
open Go.RowKit
open arr mem kecm kecb kstep kfun rkec rkeb
def ct (b : List Nat) (x : Nat) : List Nat := (List.range 5).map fun i => if i < x then kc b i else 0
theorem ct_len (b : List Nat) (x : Nat) : (ct b x).length = 5 := by simp [ct]
theorem ct_get (b : List Nat) (x i : Nat) (h : i < 5) : (ct b x).getD i 0 = if i < x then kc b i else 0 := by simp [ct, List.getD_eq_getElem?_getD, h]
theorem ct_set (b : List Nat) (x v : Nat) (_hx : x < 5) (hv : kc b x = v) : (LK .u64 (ct b x)).setIfInBounds x (.int .u64 (v : Int)) = LK .u64 (ct b (x + 1)) := by
 subst hv
 rw [lk_set]
 congr 1
 apply List.ext_getElem (by rw [List.length_set, ct_len, ct_len])
 intro i h1 h2
 rw [List.getElem_set]
 simp only [ct, List.getElem_map, List.getElem_range]
 by_cases e : x = i
 ·subst e; rw [if_pos rfl, if_pos (by omega)]
 ·rw [if_neg e]
  by_cases h3 : i < x
  ·rw [if_pos h3, if_pos (by omega)]
  ·rw [if_neg h3, if_neg (by omega)]
theorem ct_at (b : List Nat) (p c : Nat) (hp : p < 5) (hc : kc b p = c) : (LK .u64 (ct b 5))[p]? = some (.int .u64 (c : Int)) := by
 rw [lk_get _ _ _ (by rw [ct_len]; exact hp), ct_get b 5 p hp, if_pos hp, hc]
theorem one {w W : World} {x : Obj} (h : w.alloc x = W) : W.heap[w.heap.size]? = some x ∧ W.heap.size = w.heap.size + 1 ∧ Below w.heap.size w W := by
 subst h
 exact ⟨heap_at _ _ _ rfl, size_alloc _ _, below_alloc _ _⟩
set_option maxRecDepth 100000 in
set_option maxHeartbeats 4000000 in
theorem perm_any {T : Array Value} {ts rs : List Nat} (a : List Nat) (w : World) (h : St a) (hK : KT T ts rs) :
 Calls Tryz.prog 130 #[.agg T, .agg (LK .u64 a)] w fun e w' => e = .returned (.agg (LK .u64 (permL (fun i => ts.getD i 0) (fun i => rs.getD i 0) a 24))) ∧ Below w.heap.size w w' := by
 have H := Away.mk h
 have HK := Away.mk hK
 obtain ⟨z, HZ⟩ := ex_eq Z
 have HZl : Away (z.length = 25) := ⟨by rw [← HZ.out]; rfl⟩
 have Hz : Away ((#[.int .u64 0, .int .u64 0, .int .u64 0, .int .u64 0, .int .u64 0, .int .u64 0, .int .u64 0, .int .u64 0, .int .u64 0, .int .u64 0, .int .u64 0, .int .u64 0, .int .u64 0, .int .u64 0, .int .u64 0, .int .u64 0, .int .u64 0, .int .u64 0, .int .u64 0, .int .u64 0, .int .u64 0, .int .u64 0, .int .u64 0, .int .u64 0, .int .u64 0] : Array Value) = LK .u64 z) := ⟨by rw [← HZ.out]; exact z_is⟩
 clear h HZ hK
 obtain ⟨R, HR⟩ := ex_eq (permL (fun i => ts.getD i 0) (fun i => rs.getD i 0) a 24)
 have HRl : Away (R.length = 25) := ⟨by rw [← HR.out]; exact (permL_st (fun i => ts.getD i 0) _ HK.out.br H.out 24).len⟩
 have HRo := Away.mk (lk_one .u64 R)
 have HRz := Away.mk (size25 HRl.out)
 rw [HR.out]
 go_enter Tryz.func130, Tryz.ntmps130
 go_wp2_with fail
 rw [Hz.out]
 obtain ⟨W, hW⟩ : ∃ x, ((w.alloc (.cells T 38)).alloc (.cells (LK .u64 a) 128)).alloc (.cells (LK .u64 z) 128) = x := ⟨_, rfl⟩
 obtain ⟨b0, b1, b2, hWs, hWb⟩ := three hW
 rw [hW]
 clear hW
 have B0 := Away.mk b0
 have B1 := Away.mk b1
 have B2 := Away.mk b2
 have HWs := Away.mk hWs
 have HWb := Away.mk hWb
 clear hWs hWb b0 b1 b2
 go_loopw [14] (fun i wr => ∃ k : Nat, k ≤ 24 ∧ i = .int .i64 (k : Int) ∧ Away (At (w.heap.size + 1) (LK .u64 (permL (fun i => ts.getD i 0) (fun i => rs.getD i 0) a k)) 128 W wr)) (fun i _ => 24 - (intOf i).toNat)
 case atStart => exact ⟨0, by decide, rfl, ⟨At.refl B1.out⟩⟩
 case round =>
  obtain ⟨k, hk, rfl, A0⟩ := hrel
  by_cases hlt : k < 24
  ·have hkz : (k : Int) < 24 := by omega
   clear hk
   obtain ⟨cur, Hcur⟩ := ex_eq (permL (fun i => ts.getD i 0) (fun i => rs.getD i 0) a k)
   have HC : Away (St cur) := ⟨by rw [← Hcur.out]; exact permL_st (fun i => ts.getD i 0) _ HK.out.br H.out k⟩
   rw [Hcur.out] at A0
   go_wp2_with fail
   rw [z5_is]
   obtain ⟨V, hV⟩ : ∃ x, wr.alloc (.cells (LK .u64 [0, 0, 0, 0, 0]) 154) = x := ⟨_, rfl⟩
   obtain ⟨v0, v1, v2⟩ := one hV
   rw [hV]
   clear hV
   obtain ⟨gc, hgc⟩ : ∃ x, wr.heap.size = x := ⟨_, rfl⟩
   have G : Away (W.heap.size ≤ gc ∧ V.heap.size = gc + 1) := ⟨hgc ▸ A0.out.size, hgc ▸ v1⟩
   have AV : Away (At (w.heap.size + 1) (LK .u64 cur) 128 W V) := ⟨A0.out.later v2⟩
   rw [hgc] at v0
   rw [hgc]
   have V0 := Away.mk v0
   clear v0 v1 v2 hgc A0
   go_loopw [17] (fun i wr => ∃ x : Nat, x ≤ 5 ∧ i = .int .i64 (x : Int) ∧ Away (At gc (LK .u64 (ct cur x)) 154 V wr)) (fun i _ => 5 - (intOf i).toNat)
   case atStart => exact ⟨0, by decide, rfl, ⟨At.refl V0.out⟩⟩
   case round =>
    obtain ⟨x, hx, rfl, A0⟩ := hrel
    by_cases hlu : x < 5
    ·have hxz : (x : Int) < 5 := by omega
     have hxz2 : (x : Int) < 25 := by omega
     have hA := A0.out.other (by have := G.out; have := HWs.out; omega) (by have := G.out; have := HWs.out; omega) AV.out.row
     obtain ⟨q1, hq1⟩ : ∃ q, q = x + 5 := ⟨_, rfl⟩
     have f1 : IntKind.i64.wrap ((x : Int) + 5) = (q1 : Int) := by rw [IntKind.wrap_i64]; omega
     have z1 : (q1 : Int) < 25 := by omega
     obtain ⟨q2, hq2⟩ : ∃ q, q = x + 10 := ⟨_, rfl⟩
     have f2 : IntKind.i64.wrap ((x : Int) + 10) = (q2 : Int) := by rw [IntKind.wrap_i64]; omega
     have z2 : (q2 : Int) < 25 := by omega
     obtain ⟨q3, hq3⟩ : ∃ q, q = x + 15 := ⟨_, rfl⟩
     have f3 : IntKind.i64.wrap ((x : Int) + 15) = (q3 : Int) := by rw [IntKind.wrap_i64]; omega
     have z3 : (q3 : Int) < 25 := by omega
     obtain ⟨q4, hq4⟩ : ∃ q, q = x + 20 := ⟨_, rfl⟩
     have f4 : IntKind.i64.wrap ((x : Int) + 20) = (q4 : Int) := by rw [IntKind.wrap_i64]; omega
     have z4 : (q4 : Int) < 25 := by omega
     obtain ⟨y0, hy0⟩ : ∃ y, g cur x = y := ⟨_, rfl⟩
     have c0 := lane_at HC.out.len hA x y0 (by omega) hy0
     obtain ⟨y1, hy1⟩ : ∃ y, g cur q1 = y := ⟨_, rfl⟩
     have c1 := lane_at HC.out.len hA q1 y1 (by omega) hy1
     obtain ⟨y2, hy2⟩ : ∃ y, g cur q2 = y := ⟨_, rfl⟩
     have c2 := lane_at HC.out.len hA q2 y2 (by omega) hy2
     obtain ⟨y3, hy3⟩ : ∃ y, g cur q3 = y := ⟨_, rfl⟩
     have c3 := lane_at HC.out.len hA q3 y3 (by omega) hy3
     obtain ⟨y4, hy4⟩ : ∃ y, g cur q4 = y := ⟨_, rfl⟩
     have c4 := lane_at HC.out.len hA q4 y4 (by omega) hy4
     obtain ⟨v, hv⟩ : ∃ v, kc cur x = v := ⟨_, rfl⟩
     have E := xor5 y0 y1 y2 y3 y4 v (hy0 ▸ HC.out.lt _) (hy1 ▸ HC.out.lt _) (hy2 ▸ HC.out.lt _) (hy3 ▸ HC.out.lt _) (hy4 ▸ HC.out.lt _) (by rw [← hv, kc, ← hy0, ← hy1, ← hy2, ← hy3, ← hy4, hq1, hq2, hq3, hq4])
     have HS := Away.mk (ct_set cur x v hlu hv)
     clear hA hq1 hq2 hq3 hq4 hy0 hy1 hy2 hy3 hy4 hv
     go_wp2_with fail
     refine still_tail 25 (by kernel_rfl) (by kernel_rfl) ?_
     simp only [List.take_succ_cons, List.take_zero, List.drop_succ_cons, List.drop_zero]
     repeat still_step
     refine wpStill_nil ?_
     have A1 : Away (At gc (LK .u64 (ct cur x)) 154 V wr.drew) := ⟨at_drew A0.out⟩
     clear c0 c1 c2 c3 c4 f1 f2 f3 f4
     with_reducible refine wpList_put2 A1 rfl _ _ _ rfl rfl ?_
     refine ⟨_, _, _, rfl, rfl, rfl, by rw [lk_size, ct_len]; exact hlu, ?_⟩
     intro wn HRn
     rw [HS.out] at HRn
     go_wp2_with fail
     go_roundw
     case rel => exact ⟨x + 1, by omega, by go_num, HRn⟩
     case measure => simp [intOf]; omega
    ·obtain rfl : x = 5 := by omega
     simp only [Int.cast_ofNat_Int]
     clear hx hlu
     go_wp2_with fail
     rw [Hz.out]
     have AW : Away (At (w.heap.size + 1) (LK .u64 cur) 128 W wr) := ⟨at_over AV.out G.out.1 (by have := G.out; have := HWs.out; omega) A0.out⟩
     have hcc := A0.out.row
     have hgs : gc < wr.heap.size := A0.out.lt
     obtain ⟨V2, hV⟩ : ∃ x, wr.alloc (.cells (LK .u64 z) 128) = x := ⟨_, rfl⟩
     obtain ⟨v0, v1, v2⟩ := one hV
     rw [hV]
     clear hV
     obtain ⟨gb, hgb⟩ : ∃ x, wr.heap.size = x := ⟨_, rfl⟩
     have G2 : Away (W.heap.size ≤ gb ∧ V2.heap.size = gb + 1 ∧ gc < gb) := ⟨hgb ▸ AW.out.size, hgb ▸ v1, hgb ▸ hgs⟩
     have AX : Away (At (w.heap.size + 1) (LK .u64 cur) 128 W V2) := ⟨AW.out.later v2⟩
     have VC : Away (V2.heap[gc]? = some (.cells (LK .u64 (ct cur 5)) 154 (0, 0))) := ⟨(v2.block _ hgs).trans hcc⟩
     rw [hgb] at v0
     rw [hgb]
     have VB := Away.mk v0
     clear v0 v1 v2 hgb A0 AW hcc hgs AV V0
     go_loopw [46] (fun i wr => ∃ x : Nat, x ≤ 5 ∧ i = .int .i64 (x : Int) ∧ Away (At gb (LK .u64 (kecm.part (fun j => oxy (src j)) (kturn.tl ts (mixL cur)) (g z) (5 * x))) 128 V2 wr)) (fun i _ => 5 - (intOf i).toNat)
     case atStart =>
      refine ⟨0, by decide, rfl, ⟨?_⟩⟩
      rw [Nat.mul_zero, part_zero, mkS_eta HZl.out]
      exact At.refl VB.out
     case round =>
      obtain ⟨x, hx, rfl, A0⟩ := hrel
      by_cases hlu : x < 5
      ·have hxz : (x : Int) < 5 := by omega
       clear hx
       obtain ⟨dd, hd⟩ : ∃ d, kd cur x = d := ⟨_, rfl⟩
       obtain ⟨k4, hk4⟩ : ∃ q, q = x + 4 := ⟨_, rfl⟩
       obtain ⟨k1, hk1⟩ : ∃ q, q = x + 1 := ⟨_, rfl⟩
       obtain ⟨p4, hp4⟩ : ∃ q, (x + 4) % 5 = q := ⟨_, rfl⟩
       obtain ⟨p1, hp1⟩ : ∃ q, (x + 1) % 5 = q := ⟨_, rfl⟩
       obtain ⟨c, hc⟩ : ∃ c, kc cur p4 = c := ⟨_, rfl⟩
       obtain ⟨e, he⟩ : ∃ c, kc cur p1 = c := ⟨_, rfl⟩
       obtain ⟨r, hr⟩ : ∃ c, rol (kc cur p1) 1 = c := ⟨_, rfl⟩
       have be : e < 18446744073709551616 := he ▸ kc_lt HC.out p1
       have bd : dd < 18446744073709551616 := hd ▸ kd_lt HC.out x
       have Her := Away.mk (show rol e 1 = r by rw [← he, hr])
       have D := xor2 c r dd (hc ▸ kc_lt HC.out p4) (hr ▸ rol_lt _ _ (kc_lt HC.out p1)) (kd_is cur x p4 p1 c r dd hp4 hp1 hc hr hd)
       have w4 : IntKind.i64.wrap ((x : Int) + 4) = (k4 : Int) := by rw [IntKind.wrap_i64]; omega
       have w1 : IntKind.i64.wrap ((x : Int) + 1) = (k1 : Int) := by rw [IntKind.wrap_i64]; omega
       have m4 : (k4 : Int).tmod 5 = (p4 : Int) := by rw [Int.tmod_eq_emod_of_nonneg (by omega)]; omega
       have m1 : (k1 : Int).tmod 5 = (p1 : Int) := by rw [Int.tmod_eq_emod_of_nonneg (by omega)]; omega
       have l4 : (p4 : Int) < 5 := by omega
       have l1 : (p1 : Int) < 5 := by omega
       have hcr := A0.out.other (by have := G2.out; omega) (by have := G2.out; omega) VC.out
       have c4 : wr.cell? ⟨gc, p4, none⟩ = some (.int .u64 (c : Int)) := cell_at hcr (ct_at cur p4 c (by omega) hc)
       have c1 : wr.cell? ⟨gc, p1, none⟩ = some (.int .u64 (e : Int)) := cell_at hcr (ct_at cur p1 e (by omega) he)
       have Hd := Away.mk hd
       clear hd hc he hr hp4 hp1 hk4 hk1 hcr
       go_wp2_with fail
       refine still_all (by kernel_rfl) (by kernel_rfl) ?_
       repeat still_step
       still_call (left1 e r _ be Her.out)
       repeat still_step
       refine wpStill_nil ?_
       clear c4 c1 w4 w1 m4 m1 D
       have A1 : Away (At gb (LK .u64 (kecm.part (fun j => oxy (src j)) (kturn.tl ts (mixL cur)) (g z) (5 * x))) 128 V2 wr.drew) := ⟨at_drew A0.out⟩
       clear A0
       go_wp2_with fail
       go_loopw [61] (fun i wr => ∃ y : Nat, y ≤ 5 ∧ i = .int .i64 (y : Int) ∧ Away (At gb (LK .u64 (kecm.part (fun j => oxy (src j)) (kturn.tl ts (mixL cur)) (g z) (5 * x + y))) 128 V2 wr)) (fun i _ => 5 - (intOf i).toNat)
       case atStart => exact ⟨0, by decide, rfl, A1⟩
       case round =>
        clear A1
        obtain ⟨y, hy, rfl, A0⟩ := hrel
        by_cases hlv : y < 5
        ·have hyz : (y : Int) < 5 := by omega
         clear hy
         have f1 : IntKind.i64.wrap (2 * (x : Int)) = ((2 * x : Nat) : Int) := by rw [IntKind.wrap_i64]; omega
         have f2 : IntKind.i64.wrap (3 * (y : Int)) = ((3 * y : Nat) : Int) := by rw [IntKind.wrap_i64]; omega
         have f7 : IntKind.i64.wrap (5 * (y : Int)) = ((5 * y : Nat) : Int) := by rw [IntKind.wrap_i64]; omega
         obtain ⟨xa, hxa⟩ : ∃ q : Nat, q = 2 * x := ⟨_, rfl⟩
         obtain ⟨yb, hyb⟩ : ∃ q : Nat, q = 3 * y := ⟨_, rfl⟩
         obtain ⟨yf, hyf⟩ : ∃ q : Nat, q = 5 * y := ⟨_, rfl⟩
         rw [← hxa] at f1
         rw [← hyb] at f2
         rw [← hyf] at f7
         obtain ⟨c, hc⟩ : ∃ q : Nat, q = xa + yb := ⟨_, rfl⟩
         have f3 : IntKind.i64.wrap ((xa : Int) + (yb : Int)) = (c : Int) := by rw [IntKind.wrap_i64]; omega
         obtain ⟨d, hd⟩ : ∃ q : Nat, q = c % 5 := ⟨_, rfl⟩
         have f4 : (c : Int).tmod 5 = (d : Int) := by rw [Int.tmod_eq_emod_of_nonneg (by omega)]; omega
         obtain ⟨e, he⟩ : ∃ q : Nat, q = 5 * d := ⟨_, rfl⟩
         have f5 : IntKind.i64.wrap (5 * (d : Int)) = (e : Int) := by rw [IntKind.wrap_i64]; omega
         obtain ⟨j, hj⟩ : ∃ q : Nat, q = y + e := ⟨_, rfl⟩
         have f6 : IntKind.i64.wrap ((y : Int) + (e : Int)) = (j : Int) := by rw [IntKind.wrap_i64]; omega
         obtain ⟨i, hi⟩ : ∃ q : Nat, q = x + yf := ⟨_, rfl⟩
         have f8 : IntKind.i64.wrap ((x : Int) + (yf : Int)) = (i : Int) := by rw [IntKind.wrap_i64]; omega
         have hi25 : i < 25 := by omega
         have hj25 : j < 25 := by omega
         have iz : (i : Int) < 25 := by omega
         have jz : (j : Int) < 25 := by omega
         have hsj : src j = i := by rw [hj, he, hd, hc, hxa, hyb, hi, hyf]; exact src_at x y hlu hlv
         have hoi : oxy i = 5 * x + y := by unfold oxy; omega
         obtain ⟨l, hl⟩ : ∃ x, g cur i = x := ⟨_, rfl⟩
         obtain ⟨m, hm⟩ : ∃ x, g (mixL cur) i = x := ⟨_, rfl⟩
         have bm : m < 18446744073709551616 := hm ▸ (mixL_st HC.out).lt i
         have V := xor2 l dd m (hl ▸ HC.out.lt i) bd (by rw [← hm, mixL, mkS_g _ i hi25, hl, kd_mod cur i x (by omega), Hd.out])
         obtain ⟨t, ht⟩ : ∃ t, ts.getD i 0 = t := ⟨_, rfl⟩
         have bt : t < 9223372036854775808 := ht ▸ HK.out.bt i
         have cl := lane_at HC.out.len (A0.out.other (by have := G2.out; have := HWs.out; omega) (by have := G2.out; have := HWs.out; omega) AX.out.row) i l hi25 hl
         have ct : wr.cell? ⟨w.heap.size, 184 + i, none⟩ = some (.int .i64 (t : Int)) := by
          rw [← ht]; exact cell_at (A0.out.other (by have := G2.out; have := HWs.out; omega) (by have := G2.out; have := HWs.out; omega) (AX.out.other (by have := HWs.out; omega) (by omega) B0.out)) (HK.out.t i hi25)
         have HS := Away.mk (part_lane (ord := fun j => oxy (src j)) (f := kturn.tl ts (mixL cur)) (d := g z) (m := 5 * x + y) j (rol m (t % 64)) hj25 (by rw [hsj, hoi]) (fun i' hi' e' => src_inj i' j hi' hj25 (by rw [hsj]; have h1 := oxy_inj (src i') x y (src_lt i' hi') hlu hlv e'; omega)) (by rw [kturn.tl, hsj, hm, ht]))
         clear hxa hyb hyf hc hd he hj hi hsj hoi hl ht hm
         go_wp2_with fail
         refine still_tail 26 (by kernel_rfl) (by kernel_rfl) ?_
         simp only [List.take_succ_cons, List.take_zero, List.drop_succ_cons, List.drop_zero]
         repeat still_step
         still_call (rols.left_any m t _ bm bt)
         repeat still_step
         refine wpStill_nil ?_
         have A1 : Away (At gb (LK .u64 (kecm.part (fun j => oxy (src j)) (kturn.tl ts (mixL cur)) (g z) (5 * x + y))) 128 V2 wr.drew) := ⟨at_drew A0.out⟩
         clear cl ct f1 f2 f3 f4 f5 f6 f7 f8 V
         with_reducible refine wpList_put2 A1 rfl _ _ _ rfl rfl ?_
         refine ⟨_, _, _, rfl, rfl, rfl, by rw [lk25 _ (part_len _ _ _ _)]; exact hj25, ?_⟩
         intro wn HRn
         rw [HS.out] at HRn
         go_wp2_with fail
         go_roundw
         case rel => exact ⟨y + 1, by omega, by go_num, HRn⟩
         case measure => simp [intOf]; omega
        ·obtain rfl : y = 5 := by omega
         simp only [Int.cast_ofNat_Int]
         go_wp2_with fail
         go_roundw
         case rel => exact ⟨x + 1, by omega, by go_num, by rw [Nat.mul_add]; exact A0⟩
         case measure => simp [intOf]; omega
      ·obtain rfl : x = 5 := by omega
       simp only [Int.cast_ofNat_Int]
       clear hx hlu
       obtain ⟨tb, Htb⟩ := ex_eq (turnL (fun i => ts.getD i 0) (mixL cur))
       have HT : Away (St tb) := ⟨by rw [← Htb.out]; exact turnL_st _ (mixL_st HC.out)⟩
       have hfin := A0.out
       rw [part_all _ _ _ _ (fun i hi => oxy_lt _ (src_lt i hi)), ← kturn.turn_is, Htb.out] at hfin
       obtain ⟨V3, hV3⟩ : ∃ x, wr = x := ⟨_, rfl⟩
       rw [hV3] at hfin
       rw [hV3]
       clear hV3 A0
       have AY : Away (At (w.heap.size + 1) (LK .u64 cur) 128 W V3) := ⟨at_over AX.out G2.out.1 (by have := G2.out; have := HWs.out; omega) hfin⟩
       have VB3 := Away.mk hfin.row
       have G3 : Away (gb < V3.heap.size) := ⟨hfin.lt⟩
       clear hfin AX VB VC
       go_wp2_with fail
       go_loopw [12] (fun i wr => ∃ n : Nat, n ≤ 25 ∧ n % 5 = 0 ∧ i = .int .i64 (n : Int) ∧ Away (At (w.heap.size + 1) (LK .u64 (kecm.part (fun i => i) (kbend.bl tb) (g cur) n)) 128 V3 wr)) (fun i _ => 25 - (intOf i).toNat)
       case atStart =>
        refine ⟨0, by decide, rfl, rfl, ⟨?_⟩⟩
        rw [part_zero, mkS_eta HC.out.len]
        exact At.refl AY.out.row
       case round =>
        obtain ⟨n, hn, hm, rfl, A0⟩ := hrel
        by_cases hlu : n < 25
        ·have hnz : (n : Int) < 25 := by omega
         have hn20 : n ≤ 20 := by omega
         have Hm := Away.mk hm
         clear hn hlu hm
         go_wp2_with fail
         go_loopw [96] (fun i wr => ∃ x : Nat, x ≤ 5 ∧ i = .int .i64 (x : Int) ∧ Away (At (w.heap.size + 1) (LK .u64 (kecm.part (fun i => i) (kbend.bl tb) (g cur) (n + x))) 128 V3 wr)) (fun i _ => 5 - (intOf i).toNat)
         case atStart => exact ⟨0, by decide, rfl, A0⟩
         case round =>
          clear A0
          obtain ⟨x, hx, rfl, A0⟩ := hrel
          by_cases hlv : x < 5
          ·have hxz : (x : Int) < 5 := by omega
           have hm := Hm.out
           obtain ⟨i, hi⟩ : ∃ q : Nat, q = n + x := ⟨_, rfl⟩
           have f8 : IntKind.i64.wrap ((x : Int) + (n : Int)) = (i : Int) := by rw [IntKind.wrap_i64]; omega
           obtain ⟨x1, hx1⟩ : ∃ q : Nat, q = x + 1 := ⟨_, rfl⟩
           have f1 : IntKind.i64.wrap ((x : Int) + 1) = (x1 : Int) := by rw [IntKind.wrap_i64]; omega
           obtain ⟨p1, hp1⟩ : ∃ q : Nat, q = x1 % 5 := ⟨_, rfl⟩
           have g1 : (x1 : Int).tmod 5 = (p1 : Int) := by rw [Int.tmod_eq_emod_of_nonneg (by omega)]; omega
           obtain ⟨j1, hj1⟩ : ∃ q : Nat, q = p1 + n := ⟨_, rfl⟩
           have e1 : IntKind.i64.wrap ((p1 : Int) + (n : Int)) = (j1 : Int) := by rw [IntKind.wrap_i64]; omega
           obtain ⟨x2, hx2⟩ : ∃ q : Nat, q = x + 2 := ⟨_, rfl⟩
           have f2 : IntKind.i64.wrap ((x : Int) + 2) = (x2 : Int) := by rw [IntKind.wrap_i64]; omega
           obtain ⟨p2, hp2⟩ : ∃ q : Nat, q = x2 % 5 := ⟨_, rfl⟩
           have g2 : (x2 : Int).tmod 5 = (p2 : Int) := by rw [Int.tmod_eq_emod_of_nonneg (by omega)]; omega
           obtain ⟨j2, hj2⟩ : ∃ q : Nat, q = p2 + n := ⟨_, rfl⟩
           have e2 : IntKind.i64.wrap ((p2 : Int) + (n : Int)) = (j2 : Int) := by rw [IntKind.wrap_i64]; omega
           have hi25 : i < 25 := by omega
           have h125 : j1 < 25 := by omega
           have h225 : j2 < 25 := by omega
           have iz : (i : Int) < 25 := by omega
           have z1 : (j1 : Int) < 25 := by omega
           have z2 : (j2 : Int) < 25 := by omega
           have q1 : (i % 5 + 1) % 5 + 5 * (i / 5) = j1 := by omega
           have q2 : (i % 5 + 2) % 5 + 5 * (i / 5) = j2 := by omega
           obtain ⟨l, hl⟩ : ∃ x, g tb i = x := ⟨_, rfl⟩
           obtain ⟨m, hm1⟩ : ∃ x, g tb j1 = x := ⟨_, rfl⟩
           obtain ⟨u, hu⟩ : ∃ x, g tb j2 = x := ⟨_, rfl⟩
           obtain ⟨v, hv⟩ : ∃ x, kbend.bl tb i = x := ⟨_, rfl⟩
           have hA := A0.out.other G3.out (by have := G2.out; have := HWs.out; omega) VB3.out
           have cl := lane_at HT.out.len hA i l hi25 hl
           have cm := lane_at HT.out.len hA j1 m h125 hm1
           have cn := lane_at HT.out.len hA j2 u h225 hu
           have HV := Away.mk (bend3 l m u v (hl ▸ HT.out.lt _) (hm1 ▸ HT.out.lt _) (hu ▸ HT.out.lt _) (kbend.bl_is tb i j1 j2 l m u v q1 q2 hl hm1 hu hv))
           have HS := Away.mk (part_lane (ord := fun i => i) (f := kbend.bl tb) (d := g cur) (m := n + x) i v hi25 hi (fun i' hi' e' => e'.trans hi.symm) hv)
           clear hi hx1 hp1 hj1 hx2 hp2 hj2 q1 q2 hl hm1 hu hv hA hm
           go_wp2_with fail
           refine still_tail 26 (by kernel_rfl) (by kernel_rfl) ?_
           simp only [List.take_succ_cons, List.take_zero, List.drop_succ_cons, List.drop_zero]
           repeat still_step
           refine wpStill_nil ?_
           have A1 : Away (At (w.heap.size + 1) (LK .u64 (kecm.part (fun i => i) (kbend.bl tb) (g cur) (n + x))) 128 V3 wr.drew) := ⟨at_drew A0.out⟩
           clear cl cm cn f1 f2 f8 g1 g2 e1 e2
           with_reducible refine wpList_put2 A1 rfl _ _ _ rfl rfl ?_
           refine ⟨_, _, _, rfl, rfl, rfl, by rw [lk25 _ (part_len _ _ _ _)]; exact hi25, ?_⟩
           intro wn HRm
           have HRn : Away (At (w.heap.size + 1) (LK .u64 (kecm.part (fun i => i) (kbend.bl tb) (g cur) (n + x + 1))) 128 V3 wn) := ⟨by rw [← HS.out, ← HV.out]; exact HRm.out⟩
           clear HRm
           go_wp2_with fail
           go_roundw
           case rel => exact ⟨x + 1, by omega, by go_num, HRn⟩
           case measure => simp [intOf]; omega
          ·obtain rfl : x = 5 := by omega
           simp only [Int.cast_ofNat_Int]
           go_wp2_with fail
           go_roundw
           case rel => exact ⟨n + 5, by omega, by have := Hm.out; omega, by go_num, A0⟩
           case measure => simp [intOf]; omega
        ·obtain rfl : n = 25 := by omega
         simp only [Int.cast_ofNat_Int]
         clear hn hm hlu
         obtain ⟨s, Hs⟩ := ex_eq (bendL tb)
         have Hst : Away (St s) := ⟨by rw [← Hs.out]; exact bendL_st HT.out⟩
         have hfin := A0.out
         rw [part_all _ _ _ _ (fun i hi => hi), ← bendl_is, Hs.out] at hfin
         have AE : Away (At (w.heap.size + 1) (LK .u64 s) 128 W wr) := ⟨AY.out.trans hfin⟩
         clear hfin
         obtain ⟨x, hx⟩ : ∃ x, g s 0 = x := ⟨_, rfl⟩
         obtain ⟨c, hc⟩ : ∃ c, rs.getD k 0 = c := ⟨_, rfl⟩
         obtain ⟨v, hv⟩ : ∃ v, x ^^^ c = v := ⟨_, rfl⟩
         have V := xor2 x c v (hx ▸ Hst.out.lt 0) (hc ▸ HK.out.br k) hv
         have cx := lane_at Hst.out.len AE.out.row 0 x (by decide) hx
         have cr : wr.cell? ⟨w.heap.size, 160 + k, none⟩ = some (.int .u64 (c : Int)) := by rw [← hc]; exact cell_at (AE.out.other (by have := HWs.out; omega) (by omega) B0.out) (HK.out.r k hlt)
         have HS : Away ((LK .u64 s).setIfInBounds 0 (.int .u64 (v : Int)) = LK .u64 (permL (fun i => ts.getD i 0) (fun i => rs.getD i 0) a (k + 1))) := ⟨by
          rw [iota_set c v Hst.out.len (by rw [hx, hv]), permL, Hcur.out, roundL, Htb.out, Hs.out, hc]⟩
         clear hx hc hv
         go_wp2_with fail
         refine still_tail 8 (by kernel_rfl) (by kernel_rfl) ?_
         simp only [List.take_succ_cons, List.take_zero, List.drop_succ_cons, List.drop_zero]
         repeat still_step
         refine wpStill_nil ?_
         have A4 : Away (At (w.heap.size + 1) (LK .u64 s) 128 W wr.drew) := ⟨at_drew AE.out⟩
         clear cx cr V
         with_reducible refine wpList_put2 A4 rfl _ _ _ rfl rfl ?_
         refine ⟨_, _, _, rfl, rfl, rfl, by rw [lk25 _ Hst.out.len]; decide, ?_⟩
         intro w5 G5
         rw [HS.out] at G5
         go_wp2_with fail
         go_roundw
         case rel => exact ⟨k + 1, by omega, by go_num, G5⟩
         case measure => simp [intOf]; omega
  ·obtain rfl : k = 24 := by omega
   simp only [Int.cast_ofNat_Int]
   have hfin := A0.out
   rw [HR.out] at hfin
   have Hrow := Away.mk hfin.row
   have Hres : Away (wr.heap[w.heap.size + 2]? = some (.cells (LK .u64 z) 128 (0, 0))) := ⟨hfin.other (by have := HWs.out; omega) (by omega) B2.out⟩
   have Hb5 : Away (Below w.heap.size w wr) := ⟨HWb.out.trans (hfin.below (by have := HWs.out; omega) (by omega))⟩
   clear hfin
   go_wp2_with (first
    | (refine wpList_load_row rfl 128 _ rfl (w.heap.size + 1) rfl 128 (LK .u64 R) (0, 0) _ Hrow.out Tryz.underlying128 rfl HRz.out ?_)
    | (refine wpList_store_row rfl 128 _ _ rfl (w.heap.size + 2) (LK .u64 R) rfl rfl 128 _ Hres.out HRz.out (same25 HZl.out HRl.out) HRo.out ?_))
   refine bodyPost_ret_by (v := .agg (LK .u64 R)) (results_cell_row rfl _ _ (w.heap.size + 2) 128 _ (0, 0) _ rfl (setRow_heap _ _ _ _ _ _ Hres.out) Tryz.underlying128 rfl HRz.out) rfl ?_
   exact ⟨rfl, Hb5.out.trans (below_setRow _ _ _ (by omega))⟩
end rperm
end Go.Proofs.YtlcafjdehcddcaaGreatDoor
