/-
  What the document's own Reduce and Centre of layer 7 return. Conditions: none.
  What the document's own Uniform of layer 11 returns. Conditions: the tables have their size; what its Shake returns is handed in.
  What the document's own half of layer 11 returns. Conditions: the half is below 16.
  What the document's own Small of layer 11 returns. Conditions: the tables have their size; what its Shake returns is handed in.
  What the document's own Ball of layer 11 returns. Conditions: the tables have their size; what its Shake returns is handed in.
-/
import Derived.Test.YtjdcmnmnjkkpiaaDoorPuA
import Derived.Test.YtjdcmnmnjkkpiaaDoorProg
import Derived.Great.BuildSlice
namespace Go.Proofs.YtjdcmnmnjkkpiaaDoor.rfld
open Go Go.RowKit
open Go.Proofs.YtjdcmnmnjkkpiaaDoor.arr Go.Proofs.YtjdcmnmnjkkpiaaDoor.mem Go.Proofs.YtjdcmnmnjkkpiaaDoor.fldm

set_option maxRecDepth 100000 in
set_option maxHeartbeats 1000000 in
theorem reduce_any (x : Int) (w : World) : Calls Tryd.prog 60 #[.int .i64 x] w fun e w' => e = .returned (.int .i64 (x % 8380417)) ∧ w' = w := by
  obtain ⟨z, hz⟩ : ∃ z, x % 8380417 = z := ⟨_, rfl⟩
  obtain ⟨y, hy⟩ : ∃ y, x.tmod 8380417 = y := ⟨_, rfl⟩
  have h := tmod_is x 8380417 (by decide)
  have hb : 0 ≤ z ∧ z < 8380417 := by omega
  rw [hz, hy] at h
  rw [hz]
  rcases h with ⟨h1, h2⟩ | ⟨h1, h2⟩
  · subst h2
    have h3 : ¬ y < 0 := by omega
    clear hz hb
    go_enter Tryd.func60, Tryd.ntmps60
    go_wp2_with fail
    go_ret
    exact ⟨rfl, rfl⟩
  · have hw : IntKind.i64.wrap (y + 8380417) = z := by rw [IntKind.wrap_i64]; omega
    have h2' := Away.mk h2
    clear hz hb h2
    go_enter Tryd.func60, Tryd.ntmps60
    go_wp2_with fail
    go_ret
    exact ⟨by first | rfl | rw [← h2'.out], rfl⟩
end Go.Proofs.YtjdcmnmnjkkpiaaDoor.rfld

namespace Go.Proofs.YtjdcmnmnjkkpiaaDoor.rsuni
open Go Go.RowKit
open Go.Proofs.YtjdcmnmnjkkpiaaDoor.arr Go.Proofs.YtjdcmnmnjkkpiaaDoor.mem Go.Proofs.YtjdcmnmnjkkpiaaDoor.stil Go.Proofs.YtjdcmnmnjkkpiaaDoor.polys Go.Proofs.YtjdcmnmnjkkpiaaDoor.polt Go.Proofs.YtjdcmnmnjkkpiaaDoor.rbitc Go.Proofs.YtjdcmnmnjkkpiaaDoor.samm

theorem by_lt (s : ByteArray) (i : Nat) : by' (bys s) i < 256 := by
  unfold by'
  by_cases hj : i < (bys s).length
  · rw [List.getD_eq_getElem?_getD, List.getElem?_eq_getElem hj]
    exact bys_lt s _ (List.getElem_mem hj)
  · rw [List.getD_eq_getElem?_getD, List.getElem?_eq_none (by omega)]
    decide
theorem and_127 (y : Nat) (h : y < 256) : bits .and .u8 (y : Int) 127 = ((y % 128 : Nat) : Int) := by
  show IntKind.u8.wrap ((BitVec.ofInt 8 (y : Int) &&& BitVec.ofInt 8 127).toNat : Int) = _
  rw [show (127 : Int) = ((127 : Nat) : Int) from rfl, BitVec.ofInt_natCast, BitVec.ofInt_natCast, BitVec.toNat_and, BitVec.toNat_ofNat, BitVec.toNat_ofNat, Nat.mod_eq_of_lt (by omega), Nat.mod_eq_of_lt (by decide), show 127 = 2 ^ 7 - 1 from rfl, Nat.and_two_pow_sub_one_eq_mod, IntKind.wrap_u8]
  omega
theorem or_tri (a b c : Nat) (ha : a < 256) (hb : b < 256) (hc : c < 128) : bits .or .i64 (a : Int) ((b * 256 : Nat) : Int) = ((a + 256 * b : Nat) : Int) ∧ bits .or .i64 ((a + 256 * b : Nat) : Int) ((c * 65536 : Nat) : Int) = ((a + 256 * b + 65536 * c : Nat) : Int) := by
  have h1 := or_i64 a (b * 256) (by omega) (by omega)
  have h2 := or_i64 (a + 256 * b) (c * 65536) (by omega) (by omega)
  rw [show b * 256 = b * 2 ^ 8 from rfl, or_add a b 8 ha] at h1
  rw [show c * 65536 = c * 2 ^ 16 from rfl, or_add (a + 256 * b) c 16 (by omega)] at h2
  exact ⟨h1, h2⟩
set_option maxRecDepth 100000 in
set_option maxHeartbeats 4000000 in
theorem uniform_any {T : Array Value} (b s : ByteArray) (w : World) (hT : (Tryd.prog.info? 34).map (·.size) = some T.size) (hs : s.size = 1008)
    (HS : ∀ w1 : World, Calls Tryd.prog 34 #[.agg T, .int .i64 1, .string b, .int .i64 1008] w1 fun e w' => e = .returned (.tuple #[.string s, .int .i64 0]) ∧ Below w1.heap.size w1 w') :
    Calls Tryd.prog 9 #[.agg T, .string b] w fun e w' => e = .returned (.agg (FL .i64 256 (uni (bys s)))) ∧ Below w.heap.size w w' := by
  obtain ⟨hz, hsize⟩ := zero_of_info polt.infoP
  obtain ⟨z, HZ⟩ := ex_eq (FL .i64 256 fun _ => 0)
  rw [HZ.out] at hz
  have Hzs : Away (z.size = 256) := ⟨by rw [← HZ.out]; exact fl_size _ _ _⟩
  obtain ⟨R, HR⟩ := ex_eq (FL .i64 256 (uni (bys s)))
  have Ri : Away ((Tryd.prog.info? 36).map (·.size) = some R.size) := ⟨by rw [← HR.out, fl_size]; exact hsize⟩
  have Ro : Away (R.all (·.oneCell') = true) := ⟨by rw [← HR.out]; exact fl_one _ _ _⟩
  have Rz : Away (z.size = R.size) := ⟨by rw [Hzs.out, ← HR.out, fl_size]⟩
  have HRd : Away (FL .i64 256 (lf (ua (bys s) 336)) = R) := HR
  have HTz := Away.mk hT
  rw [HR.out]
  have Hix : Away (∀ j : Nat, j < 1008 → ∀ w1 : World, (Instr.index 9 (.string s) (.int .i64 (j : Int))).run Tryd.prog w1 = .ok (.int .u8 ((by' (bys s) j : Nat) : Int)) w1) := ⟨fun j hj w1 => byte_of s j _ (by omega) rfl w1⟩
  obtain ⟨W, hW⟩ : ∃ x, (w.alloc (.cells T 34)).alloc (.cells z 36) = x := ⟨_, rfl⟩
  obtain ⟨r0, r1, hWs, b0⟩ := two hW
  have T0 : Away (W.heap[w.heap.size]? = some (.cells T 34 (0, 0))) := ⟨r0⟩
  have R0 : Away (W.heap[w.heap.size + 1]? = some (.cells z 36 (0, 0))) := ⟨r1⟩
  have BW := Away.mk b0
  have HWs := Away.mk hWs
  have HW := Away.mk hW
  have HSh := Away.mk HS
  clear hW r0 r1 b0 hWs hsize HS hT HR
  go_enter Tryd.func9, Tryd.ntmps9
  go_wp2_with (first
    | (rw [HW.out])
    | (refine wpList_load_row rfl 34 _ rfl w.heap.size rfl 34 T (0, 0) _ T0.out Tryd.underlying34 rfl HTz.out ?_))
  refine (HSh.out _).mono ?_
  rintro e u1 ⟨rfl, hb1⟩
  obtain ⟨W1, hW1⟩ : ∃ x, u1.alloc (.cells z 36) = x := ⟨_, rfl⟩
  obtain ⟨r1, hs1, b1⟩ := one hW1
  have A0 : Away (At u1.heap.size (FL .i64 256 (lf (ua (bys s) 0))) 36 W1 W1) := ⟨by rw [ua, lf_nil, HZ.out]; exact At.refl r1⟩
  have R1 : Away (W1.heap[w.heap.size + 1]? = some (.cells z 36 (0, 0))) := ⟨((hb1.trans (b1.mono hb1.size)).block _ (by rw [HWs.out]; omega)).trans R0.out⟩
  have B1 : Away (Below w.heap.size w W1) := ⟨BW.out.trans ((hb1.trans (b1.mono hb1.size)).mono (by rw [HWs.out]; omega))⟩
  have Hlt : Away (w.heap.size + 1 < u1.heap.size) := ⟨by have := hb1.size; rw [HWs.out] at this; omega⟩
  have HW1 := Away.mk hW1
  clear hb1 r1 b1 hs1 hW1 T0 R0 BW
  go_wp2_with (rw [HW1.out])
  clear hz
  go_loopw [8, 9] (fun c v wr => ∃ j : Nat, j ≤ 336 ∧ v = .int .i64 ((3 * j : Nat) : Int) ∧ c = .int .i64 (((ua (bys s) j).length : Nat) : Int) ∧ Away (At u1.heap.size (FL .i64 256 (lf (ua (bys s) j))) 36 W1 wr)) (fun _ v _ => 1008 - (intOf v).toNat)
  case atStart => exact ⟨0, by omega, rfl, rfl, A0⟩
  case round =>
    clear A0
    obtain ⟨j, hj, rfl, rfl, A0⟩ := hrel
    have BE : Away (Below w.heap.size w wr) := ⟨B1.out.trans (A0.out.below B1.out.size (by have := Hlt.out; omega))⟩
    obtain ⟨n, hn⟩ : ∃ n, (ua (bys s) j).length = n := ⟨_, rfl⟩
    have hn256 := (ua_le (bys s) j).1
    rw [hn] at hn256 ⊢
    by_cases hgo : j < 336 ∧ n < 256
    · obtain ⟨hj336, hn2⟩ := hgo
      obtain ⟨i, hi⟩ : ∃ i, 3 * j = i := ⟨_, rfl⟩
      have hi1 := Hix.out i (by omega)
      obtain ⟨i1, hi1v⟩ : ∃ i1, i + 1 = i1 := ⟨_, rfl⟩
      obtain ⟨i2, hi2v⟩ : ∃ i2, i + 2 = i2 := ⟨_, rfl⟩
      have hi2 := Hix.out i1 (by omega)
      have hi3 := Hix.out i2 (by omega)
      obtain ⟨β0, hβ0⟩ : ∃ β, by' (bys s) i = β := ⟨_, rfl⟩
      obtain ⟨β1, hβ1⟩ : ∃ β, by' (bys s) i1 = β := ⟨_, rfl⟩
      obtain ⟨β2, hβ2⟩ : ∃ β, by' (bys s) i2 = β := ⟨_, rfl⟩
      have l0 : β0 < 256 := by rw [← hβ0]; exact by_lt s _
      have l1 : β1 < 256 := by rw [← hβ1]; exact by_lt s _
      have l2 : β2 < 256 := by rw [← hβ2]; exact by_lt s _
      obtain ⟨γ, hγ⟩ : ∃ γ, β2 % 128 = γ := ⟨_, rfl⟩
      obtain ⟨p, hp⟩ : ∃ p, β1 * 256 = p := ⟨_, rfl⟩
      obtain ⟨q, hq⟩ : ∃ q, γ * 65536 = q := ⟨_, rfl⟩
      obtain ⟨y, hy⟩ : ∃ y, β0 + 256 * β1 = y := ⟨_, rfl⟩
      obtain ⟨x, hx⟩ : ∃ x, β0 + 256 * β1 + 65536 * γ = x := ⟨_, rfl⟩
      have htri : tri (bys s) i = x := by unfold tri; rw [hi1v, hi2v, hβ0, hβ1, hβ2, hγ, hx]
      obtain ⟨v1, v2⟩ := or_tri β0 β1 γ l0 l1 (by omega)
      rw [hp, hy] at v1
      rw [hy, hq, show y + 65536 * γ = x by omega] at v2
      have va := and_127 β2 l2
      rw [hγ] at va
      rw [hβ0] at hi1
      rw [hβ1] at hi2
      rw [hβ2] at hi3
      have hi3z : (i : Int) + 2 < 1008 := by omega
      have hi3y : (i2 : Int) < 1008 := by omega
      have fi1 : IntKind.i64.wrap ((i : Int) + 1) = (i1 : Int) := by rw [IntKind.wrap_i64]; omega
      have fi2 : IntKind.i64.wrap ((i : Int) + 2) = (i2 : Int) := by rw [IntKind.wrap_i64]; omega
      have fp : (β1 : Int) * 256 = (p : Int) := by omega
      have fpw : IntKind.i64.wrap ((β1 : Int) * 256) = (p : Int) := by rw [fp, IntKind.wrap_i64]; omega
      have fq : (γ : Int) * 65536 = (q : Int) := by omega
      have fqw : IntKind.i64.wrap ((γ : Int) * 65536) = (q : Int) := by rw [fq, IntKind.wrap_i64]; omega
      have w0 : IntKind.i64.wrap (β0 : Int) = (β0 : Int) := by rw [IntKind.wrap_i64]; omega
      have w1 : IntKind.i64.wrap (β1 : Int) = (β1 : Int) := by rw [IntKind.wrap_i64]; omega
      have w2 : IntKind.i64.wrap (γ : Int) = (γ : Int) := by rw [IntKind.wrap_i64]; omega
      have wp : IntKind.i64.wrap (p : Int) = (p : Int) := by rw [IntKind.wrap_i64]; omega
      have wq : IntKind.i64.wrap (q : Int) = (q : Int) := by rw [IntKind.wrap_i64]; omega
      have fi3 : IntKind.i64.wrap ((i : Int) + 3) = (i : Int) + 3 := by rw [IntKind.wrap_i64]; omega
      have hi1008 : i < 1008 := by omega
      have hszi : (s.size : Int) = 1008 := by omega
      have hn2z : (n : Int) < 256 := by omega
      rw [hi]
      have Hi := Away.mk hi
      have A1 : Away (At u1.heap.size (FL .i64 256 (lf (ua (bys s) j))) 36 W1 wr.drew) := ⟨at_drew A0.out⟩
      have Hn := Away.mk hn
      have Htri := Away.mk htri
      clear hβ0 hβ1 hβ2 hγ hp hq hx hy hi hn htri hi1v hi2v
      go_wp2_with fail
      refine still_all (by kernel_rfl) (by kernel_rfl) ?_
      repeat still_step
      refine wpStill_nil ?_
      clear hi1 hi2 hi3 v1 v2 va fi1 fi2 fp fpw fq fqw w0 w1 w2 wp wq hi3z hi3y A0
      by_cases hx : x < 8380417
      · have hxz : (x : Int) < 8380417 := by omega
        have Hua : Away (ua (bys s) (j + 1) = ua (bys s) j ++ [x]) := ⟨by rw [ua, Hi.out, Htri.out, if_pos ⟨by rw [Hn.out]; exact hn2, hx⟩]⟩
        have Hset : Away ((FL .i64 256 (lf (ua (bys s) j))).setIfInBounds n (.int .i64 (x : Int)) = FL .i64 256 (lf (ua (bys s) (j + 1)))) := ⟨by rw [fl_set, Hua.out, ← lf_snoc, Hn.out]⟩
        clear hx
        go_wp2_with ((with_reducible refine wpList_put2 A1 rfl _ _ _ rfl rfl ?_); refine ⟨_, _, _, rfl, rfl, rfl, (by rw [fl_size]; exact hn2), ?_⟩; intro wn HRn; rw [Hset.out] at HRn)
        go_roundw
        case rel => exact ⟨j + 1, by omega, by rw [show ((3 * (j + 1) : Nat) : Int) = (i : Int) + 3 by have := Hi.out; omega], by rw [show (ua (bys s) (j + 1)).length = n + 1 by rw [Hua.out, List.length_append, Hn.out]; rfl]; go_num, HRn⟩
        case measure => have := Hi.out; simp [intOf]; omega
      · have hxz : ¬ (x : Int) < 8380417 := by omega
        have Hua : Away (ua (bys s) (j + 1) = ua (bys s) j) := ⟨by rw [ua, Hi.out, Htri.out, if_neg (fun h => hx h.2)]⟩
        clear hx
        go_wp2_with fail
        go_roundw
        case rel => exact ⟨j + 1, by omega, by rw [show ((3 * (j + 1) : Nat) : Int) = (i : Int) + 3 by have := Hi.out; omega], by rw [Hua.out, Hn.out], by rw [Hua.out]; exact A1⟩
        case measure => have := Hi.out; simp [intOf]; omega
    · have hend : Away (ua (bys s) j = ua (bys s) 336) := ⟨by
        by_cases h : j = 336
        · rw [h]
        · exact (ua_full (bys s) j 336 (by omega) hj).symm⟩
      rw [hend.out, HRd.out] at A0
      have Hrow := Away.mk A0.out.row
      have Hres : Away (wr.heap[w.heap.size + 1]? = some (.cells z 36 (0, 0))) := ⟨A0.out.other (lt_of_row R1.out) (by have := Hlt.out; omega) R1.out⟩
      have hszi : (s.size : Int) = 1008 := by omega
      clear A0 hn
      by_cases h : j < 336
      · have hn256z : ¬ (n : Int) < 256 := by omega
        have hjz : ((3 * j : Nat) : Int) + 2 < 1008 := by omega
        obtain ⟨i, hi⟩ : ∃ i, 3 * j = i := ⟨_, rfl⟩
        rw [hi] at hjz ⊢
        have fi2 : IntKind.i64.wrap ((i : Int) + 2) = (i : Int) + 2 := by rw [IntKind.wrap_i64]; omega
        clear hi hgo hend
        go_wp2_with (first
          | (refine wpList_load_row rfl 36 _ rfl u1.heap.size rfl 36 R (0, 0) _ Hrow.out Tryd.underlying36 rfl Ri.out ?_)
          | (refine wpList_store_row rfl 36 _ _ rfl (w.heap.size + 1) R rfl rfl 36 _ Hres.out Ri.out Rz.out Ro.out ?_))
        refine bodyPost_ret_by (v := .agg R) (results_cell_row rfl _ _ (w.heap.size + 1) 36 _ (0, 0) _ rfl (setRow_heap _ _ _ _ _ _ Hres.out) Tryd.underlying36 rfl Ri.out) rfl ?_
        exact ⟨rfl, BE.out.trans (below_setRow _ _ _ (Nat.le_succ _))⟩
      · obtain rfl : j = 336 := by omega
        have e1 : ((3 * 336 : Nat) : Int) = 1008 := rfl
        rw [e1]
        clear hgo hend e1
        go_wp2_with (first
          | (refine wpList_load_row rfl 36 _ rfl u1.heap.size rfl 36 R (0, 0) _ Hrow.out Tryd.underlying36 rfl Ri.out ?_)
          | (refine wpList_store_row rfl 36 _ _ rfl (w.heap.size + 1) R rfl rfl 36 _ Hres.out Ri.out Rz.out Ro.out ?_))
        refine bodyPost_ret_by (v := .agg R) (results_cell_row rfl _ _ (w.heap.size + 1) 36 _ (0, 0) _ rfl (setRow_heap _ _ _ _ _ _ Hres.out) Tryd.underlying36 rfl Ri.out) rfl ?_
        exact ⟨rfl, BE.out.trans (below_setRow _ _ _ (Nat.le_succ _))⟩
end Go.Proofs.YtjdcmnmnjkkpiaaDoor.rsuni

namespace Go.Proofs.YtjdcmnmnjkkpiaaDoor.rshalf
open Go Go.RowKit
open Go.Proofs.YtjdcmnmnjkkpiaaDoor.arr Go.Proofs.YtjdcmnmnjkkpiaaDoor.mem Go.Proofs.YtjdcmnmnjkkpiaaDoor.samm

set_option maxRecDepth 100000 in
set_option maxHeartbeats 1000000 in
theorem half_any (b : Nat) (hb : b < 16) (e : Int) (w : World) : Calls Tryd.prog 36 #[.int .i64 (b : Int), .int .i64 e] w fun x w' => x = .returned (.tuple #[.int .i64 (hv e b), .bool (hok e b)]) ∧ w' = w := by
  by_cases he : e = 2
  · subst he
    obtain ⟨r, hr⟩ : ∃ r, b % 5 = r := ⟨_, rfl⟩
    have H := fun w1 => rfld.reduce_any (2 - (r : Int)) w1
    have hhv : hv 2 b = (2 - (r : Int)) % 8380417 := by unfold hv; rw [if_pos rfl, hr]
    obtain ⟨v, hv'⟩ : ∃ v, (2 - (r : Int)) % 8380417 = v := ⟨_, rfl⟩
    rw [hv'] at H hhv
    obtain ⟨o, ho⟩ : ∃ o, hok 2 b = o := ⟨_, rfl⟩
    have hoo : decide ((b : Int) < 15) = o := by rw [← ho]; unfold hok; rw [if_pos rfl]; exact decide_eq_decide.2 (by omega)
    have hoo2 : decide (b < 15) = o := by rw [← ho]; unfold hok; rw [if_pos rfl]
    rw [hhv, ho]
    have fr : (b : Int).tmod 5 = (r : Int) := by rw [Int.tmod_eq_emod_of_nonneg (by omega)]; omega
    have fr2 : (b : Int) % 5 = (r : Int) := by omega
    have fw : IntKind.i64.wrap (2 - (r : Int)) = 2 - (r : Int) := by rw [IntKind.wrap_i64]; omega
    have HH := Away.mk H
    clear hhv hv' ho hr H
    go_enter Tryd.func36, Tryd.ntmps36
    go_wp2_with fail
    refine (HH.out _).mono ?_
    rintro x w1 ⟨rfl, rfl⟩
    go_wp2_with fail
    go_ret2
    exact ⟨by first | rfl | simp_all, rfl⟩
  · have H := fun w1 => rfld.reduce_any (4 - (b : Int)) w1
    have hhv : hv e b = (4 - (b : Int)) % 8380417 := by unfold hv; rw [if_neg he]
    obtain ⟨v, hv'⟩ : ∃ v, (4 - (b : Int)) % 8380417 = v := ⟨_, rfl⟩
    rw [hv'] at H hhv
    obtain ⟨o, ho⟩ : ∃ o, hok e b = o := ⟨_, rfl⟩
    have hoo : decide ((b : Int) < 9) = o := by rw [← ho]; unfold hok; rw [if_neg he]; exact decide_eq_decide.2 (by omega)
    have hoo2 : decide (b < 9) = o := by rw [← ho]; unfold hok; rw [if_neg he]
    rw [hhv, ho]
    have fe : (e == 2) = false := beq_eq_false_iff_ne.2 he
    have fw : IntKind.i64.wrap (4 - (b : Int)) = 4 - (b : Int) := by rw [IntKind.wrap_i64]; omega
    have HH := Away.mk H
    clear hhv hv' ho H
    go_enter Tryd.func36, Tryd.ntmps36
    go_wp2_with fail
    refine (HH.out _).mono ?_
    rintro x w1 ⟨rfl, rfl⟩
    go_wp2_with fail
    go_ret2
    exact ⟨by first | rfl | simp_all, rfl⟩
end Go.Proofs.YtjdcmnmnjkkpiaaDoor.rshalf

namespace Go.Proofs.YtjdcmnmnjkkpiaaDoor.rssma
open Go Go.RowKit
open Go.Proofs.YtjdcmnmnjkkpiaaDoor.arr Go.Proofs.YtjdcmnmnjkkpiaaDoor.mem Go.Proofs.YtjdcmnmnjkkpiaaDoor.stil Go.Proofs.YtjdcmnmnjkkpiaaDoor.polys Go.Proofs.YtjdcmnmnjkkpiaaDoor.polt Go.Proofs.YtjdcmnmnjkkpiaaDoor.rbitc Go.Proofs.YtjdcmnmnjkkpiaaDoor.floa Go.Proofs.YtjdcmnmnjkkpiaaDoor.samm Go.Proofs.YtjdcmnmnjkkpiaaDoor.rsuni

theorem and_15 (y : Nat) (h : y < 256) : bits .and .u8 (y : Int) 15 = ((y % 16 : Nat) : Int) := by
  show IntKind.u8.wrap ((BitVec.ofInt 8 (y : Int) &&& BitVec.ofInt 8 15).toNat : Int) = _
  rw [show (15 : Int) = ((15 : Nat) : Int) from rfl, BitVec.ofInt_natCast, BitVec.ofInt_natCast, BitVec.toNat_and, BitVec.toNat_ofNat, BitVec.toNat_ofNat, Nat.mod_eq_of_lt (by omega), Nat.mod_eq_of_lt (by decide), show 15 = 2 ^ 4 - 1 from rfl, Nat.and_two_pow_sub_one_eq_mod, IntKind.wrap_u8]
  omega
set_option maxRecDepth 100000 in
set_option maxHeartbeats 4000000 in
theorem small_any {T : Array Value} (b s : ByteArray) (e : Int) (w : World) (hT : (Tryd.prog.info? 34).map (·.size) = some T.size) (hs : s.size = 816)
    (HS : ∀ w1 : World, Calls Tryd.prog 34 #[.agg T, .int .i64 2, .string b, .int .i64 816] w1 fun e w' => e = .returned (.tuple #[.string s, .int .i64 0]) ∧ Below w1.heap.size w1 w') :
    Calls Tryd.prog 11 #[.agg T, .string b, .int .i64 e] w fun x w' => x = .returned (.agg (FL .i64 256 (sma (bys s) e))) ∧ Below w.heap.size w w' := by
  obtain ⟨hz, hsize⟩ := zero_of_info polt.infoP
  obtain ⟨z, HZ⟩ := ex_eq (FL .i64 256 fun _ => 0)
  rw [HZ.out] at hz
  have Hzs : Away (z.size = 256) := ⟨by rw [← HZ.out]; exact fl_size _ _ _⟩
  obtain ⟨R, HR⟩ := ex_eq (FL .i64 256 (sma (bys s) e))
  have Ri : Away ((Tryd.prog.info? 36).map (·.size) = some R.size) := ⟨by rw [← HR.out, fl_size]; exact hsize⟩
  have Ro : Away (R.all (·.oneCell') = true) := ⟨by rw [← HR.out]; exact fl_one _ _ _⟩
  have Rz : Away (z.size = R.size) := ⟨by rw [Hzs.out, ← HR.out, fl_size]⟩
  have HRd : Away (FL .i64 256 (lf (sa (bys s) e 1632)) = R) := HR
  have HTz := Away.mk hT
  rw [HR.out]
  have Hix : Away (∀ j : Nat, j < 816 → ∀ w1 : World, (Instr.index 9 (.string s) (.int .i64 (j : Int))).run Tryd.prog w1 = .ok (.int .u8 ((by' (bys s) j : Nat) : Int)) w1) := ⟨fun j hj w1 => byte_of s j _ (by omega) rfl w1⟩
  obtain ⟨W, hW⟩ : ∃ x, (w.alloc (.cells T 34)).alloc (.cells z 36) = x := ⟨_, rfl⟩
  obtain ⟨r0, r1, hWs, b0⟩ := two hW
  have T0 : Away (W.heap[w.heap.size]? = some (.cells T 34 (0, 0))) := ⟨r0⟩
  have R0 : Away (W.heap[w.heap.size + 1]? = some (.cells z 36 (0, 0))) := ⟨r1⟩
  have BW := Away.mk b0
  have HWs := Away.mk hWs
  have HW := Away.mk hW
  have HSh := Away.mk HS
  clear hW r0 r1 b0 hWs hsize HS hT HR
  go_enter Tryd.func11, Tryd.ntmps11
  go_wp2_with (first
    | (rw [HW.out])
    | (refine wpList_load_row rfl 34 _ rfl w.heap.size rfl 34 T (0, 0) _ T0.out Tryd.underlying34 rfl HTz.out ?_))
  refine (HSh.out _).mono ?_
  rintro x u1 ⟨rfl, hb1⟩
  obtain ⟨W1, hW1⟩ : ∃ x, u1.alloc (.cells z 36) = x := ⟨_, rfl⟩
  obtain ⟨r1, hs1, b1⟩ := one hW1
  have A0 : Away (At u1.heap.size (FL .i64 256 (lf (sa (bys s) e (2 * 0)))) 36 W1 W1) := ⟨by rw [Nat.mul_zero, sa, lf_nil, HZ.out]; exact At.refl r1⟩
  have R1 : Away (W1.heap[w.heap.size + 1]? = some (.cells z 36 (0, 0))) := ⟨((hb1.trans (b1.mono hb1.size)).block _ (by rw [HWs.out]; omega)).trans R0.out⟩
  have B1 : Away (Below w.heap.size w W1) := ⟨BW.out.trans ((hb1.trans (b1.mono hb1.size)).mono (by rw [HWs.out]; omega))⟩
  have Hlt : Away (w.heap.size + 1 < u1.heap.size) := ⟨by have := hb1.size; rw [HWs.out] at this; omega⟩
  have HW1 := Away.mk hW1
  have hszi : (s.size : Int) = 816 := by omega
  clear hb1 r1 b1 hs1 hW1 T0 R0 BW
  go_wp2_with (rw [HW1.out])
  clear hz
  go_loopw [10, 11] (fun c v wr => ∃ j : Nat, j ≤ 816 ∧ v = .int .i64 (j : Int) ∧ c = .int .i64 (((sa (bys s) e (2 * j)).length : Nat) : Int) ∧ Away (At u1.heap.size (FL .i64 256 (lf (sa (bys s) e (2 * j)))) 36 W1 wr)) (fun _ v _ => 816 - (intOf v).toNat)
  case atStart => exact ⟨0, by omega, rfl, rfl, A0⟩
  case round =>
    clear A0
    obtain ⟨j, hj, rfl, rfl, A0⟩ := hrel
    have BE : Away (Below w.heap.size w wr) := ⟨B1.out.trans (A0.out.below B1.out.size (by have := Hlt.out; omega))⟩
    obtain ⟨n, hn⟩ : ∃ n, (sa (bys s) e (2 * j)).length = n := ⟨_, rfl⟩
    have hn256 := sa_le (bys s) e (2 * j)
    rw [hn] at hn256 ⊢
    by_cases hgo : j < 816 ∧ n < 256
    · obtain ⟨hj816, hn2⟩ := hgo
      have hjz : (j : Int) < 816 := by omega
      have hn2z : (n : Int) < 256 := by omega
      have hi1 := Hix.out j hj816
      obtain ⟨β, hβ⟩ : ∃ β, by' (bys s) j = β := ⟨_, rfl⟩
      have l0 : β < 256 := by rw [← hβ]; exact by_lt s _
      obtain ⟨lo, hlo⟩ : ∃ lo, β % 16 = lo := ⟨_, rfl⟩
      obtain ⟨hi, hhi⟩ : ∃ hi, β / 16 = hi := ⟨_, rfl⟩
      have va := and_15 β l0
      rw [hlo] at va
      rw [hβ] at hi1
      have fh : (β : Int) / 16 = (hi : Int) := by omega
      have w1 : IntKind.i64.wrap (lo : Int) = (lo : Int) := by rw [IntKind.wrap_i64]; omega
      have w2 : IntKind.i64.wrap (hi : Int) = (hi : Int) := by rw [IntKind.wrap_i64]; omega
      have Hhf : Away (∀ k, k < 2 → hf (bys s) (2 * j + k) = if k = 0 then lo else hi) := ⟨fun k hk => by
        unfold hf
        rw [show (2 * j + k) / 2 = j by omega, hβ, hlo, hhi]
        by_cases h : k = 0
        · rw [if_pos h, if_pos (by omega)]
        · rw [if_neg h, if_neg (by omega)]⟩
      have Hl16 : Away (lo < 16 ∧ hi < 16) := ⟨by omega⟩
      have Hn := Away.mk hn
      clear hβ hlo hhi hn
      go_wp2_with fail
      refine any_begin (by kernel_rfl) ?_
      (focus (refine wpAny_take (i := 12) (v := ?_) rfl (by kernel_rfl) (by kernel_rfl) (by kernel_rfl) (fun _ _ _ h => h) (Or.inl ⟨by rfl, ?_⟩) ?_; rotate_left; focus (intro w; go_simp; first | done | with_reducible rfl); all_goals skip))
      refine any_still [0, 1, 2, 3, 4, 5, 6, 7, 8, 9] 10 [11] rfl (by kernel_rfl) ?_
      simp only [pick, List.filterMap_cons, List.filterMap_nil, List.getElem?_cons_succ, List.getElem?_cons_zero]
      repeat still_step
      refine wpStill_nil ?_
      obtain ⟨W2, hW2⟩ : ∃ x, (wr.alloc (.cells #[.int .i64 (lo : Int), .int .i64 (hi : Int)] 3)).drew = x := ⟨_, rfl⟩
      have r2 : W2.heap[wr.heap.size]? = some (.cells #[.int .i64 (lo : Int), .int .i64 (hi : Int)] 3 (0, 0)) := by rw [← hW2]; exact heap_at _ _ _ rfl
      have b2 : Below wr.heap.size wr W2 := by rw [← hW2]; exact (below_alloc _ _).drew
      have A2 : Away (At u1.heap.size (FL .i64 256 (lf (sa (bys s) e (2 * j)))) 36 W1 W2) := ⟨A0.out.later b2⟩
      have C2 : Away (At u1.heap.size (FL .i64 256 (lf (sa (bys s) e (2 * j + 0)))) 36 W2 W2) := ⟨At.refl A2.out.row⟩
      have R2 : Away (W2.heap[wr.heap.size]? = some (.cells #[.int .i64 (lo : Int), .int .i64 (hi : Int)] 3 (0, 0))) := ⟨r2⟩
      have Hne : Away (wr.heap.size ≠ u1.heap.size) := ⟨fun h => by have := A0.out.lt; omega⟩
      have HW2 := Away.mk hW2
      have Hn0 : Away ((sa (bys s) e (2 * j + 0)).length = n) := ⟨by rw [Nat.add_zero]; exact Hn.out⟩
      clear hW2 r2 b2 va hi1 fh w1 w2 A0
      go_wp2_with (rw [HW2.out])
      go_loopw [10, 44] (fun c v wv => ∃ k : Nat, k ≤ 2 ∧ v = .int .i64 (k : Int) ∧ c = .int .i64 (((sa (bys s) e (2 * j + k)).length : Nat) : Int) ∧ Away (At u1.heap.size (FL .i64 256 (lf (sa (bys s) e (2 * j + k)))) 36 W2 wv)) (fun _ v _ => 2 - (intOf v).toNat)
      case atStart => exact ⟨0, by omega, rfl, by rw [Hn0.out], C2⟩
      case round =>
        rename World => wv
        clear C2
        obtain ⟨k, hk, rfl, rfl, A0⟩ := hrel
        obtain ⟨n', hn'⟩ : ∃ n', (sa (bys s) e (2 * j + k)).length = n' := ⟨_, rfl⟩
        have hn6 := sa_le (bys s) e (2 * j + k)
        rw [hn'] at hn6 ⊢
        have Hn' := Away.mk hn'
        clear hn'
        by_cases hk2 : k < 2
        · have hkz : (k : Int) < 2 := by omega
          have hrow := A0.out.other (lt_of_row R2.out) Hne.out R2.out
          obtain ⟨h, hh⟩ : ∃ h, (if k = 0 then lo else hi) = h := ⟨_, rfl⟩
          have hhf := Hhf.out k hk2
          rw [hh] at hhf
          have hh16 : h < 16 := by have := Hl16.out; rw [← hh]; split <;> omega
          have ck : wv.cell? ⟨wr.heap.size, k, none⟩ = some (.int .i64 (h : Int)) := by
            rw [← hh]
            rcases (show k = 0 ∨ k = 1 by omega) with rfl | rfl
            · exact cell_at hrow rfl
            · exact cell_at hrow rfl
          have HH := Away.mk (fun w1 => rshalf.half_any h hh16 e w1)
          have hvr := hv_red e h
          obtain ⟨V, hV⟩ : ∃ V : Nat, hv e h = (V : Int) := ⟨(hv e h).toNat, by omega⟩
          obtain ⟨o, ho⟩ : ∃ o, hok e h = o := ⟨_, rfl⟩
          rw [hV, ho] at HH
          have HV : Away ((hv e (hf (bys s) (2 * j + k))).toNat = V) := ⟨by rw [hhf, hV]; rfl⟩
          have Ho : Away (hok e (hf (bys s) (2 * j + k)) = o) := ⟨by rw [hhf, ho]⟩
          clear hrow hh hhf hvr hV ho
          go_wp2_with fail
          refine (HH.out _).mono ?_
          rintro x wv ⟨rfl, rfl⟩
          clear ck
          by_cases hgo2 : n' < 256 ∧ o = true
          · obtain ⟨hn2', rfl⟩ := hgo2
            have hn2z' : (n' : Int) < 256 := by omega
            have Hsa : Away (sa (bys s) e (2 * j + (k + 1)) = sa (bys s) e (2 * j + k) ++ [V]) := ⟨by
              rw [show 2 * j + (k + 1) = (2 * j + k) + 1 by omega, sa, if_pos ⟨by rw [Hn'.out]; exact hn2', Ho.out⟩, HV.out]⟩
            have Hset : Away ((FL .i64 256 (lf (sa (bys s) e (2 * j + k)))).setIfInBounds n' (.int .i64 (V : Int)) = FL .i64 256 (lf (sa (bys s) e (2 * j + (k + 1))))) := ⟨by rw [fl_set, Hsa.out, ← lf_snoc, Hn'.out]⟩
            go_wp2_with ((with_reducible refine wpList_put2 A0 rfl _ _ _ rfl rfl ?_); refine ⟨_, _, _, rfl, rfl, rfl, (by rw [fl_size]; exact hn2'), ?_⟩; intro wn HRn; rw [Hset.out] at HRn)
            go_roundw
            case rel => exact ⟨k + 1, by omega, by go_num, by rw [show (sa (bys s) e (2 * j + (k + 1))).length = n' + 1 by rw [Hsa.out, List.length_append, Hn'.out]; rfl]; go_num, HRn⟩
            case measure => simp [intOf]; omega
          · have Hsa : Away (sa (bys s) e (2 * j + (k + 1)) = sa (bys s) e (2 * j + k)) := ⟨by
              rw [show 2 * j + (k + 1) = (2 * j + k) + 1 by omega, sa, if_neg (by rw [Hn'.out, Ho.out]; exact hgo2)]⟩
            have A1 : Away (At u1.heap.size (FL .i64 256 (lf (sa (bys s) e (2 * j + (k + 1))))) 36 W2 wv) := ⟨by rw [Hsa.out]; exact A0.out⟩
            have Hl : Away ((sa (bys s) e (2 * j + (k + 1))).length = n') := ⟨by rw [Hsa.out, Hn'.out]⟩
            clear A0
            cases o with
            | false =>
              clear hgo2
              go_wp2_with fail
              go_roundw
              case rel => exact ⟨k + 1, by omega, by go_num, by rw [Hl.out], A1⟩
              case measure => simp [intOf]; omega
            | true =>
              have hn2z' : ¬ (n' : Int) < 256 := by
                intro h
                exact hgo2 ⟨by omega, rfl⟩
              clear hgo2
              go_wp2_with fail
              go_roundw
              case rel => exact ⟨k + 1, by omega, by go_num, by rw [Hl.out], A1⟩
              case measure => simp [intOf]; omega
        · obtain rfl : k = 2 := by omega
          have A1 : Away (At u1.heap.size (FL .i64 256 (lf (sa (bys s) e (2 * (j + 1))))) 36 W1 wv) := ⟨A2.out.trans A0.out⟩
          have Hl : Away ((sa (bys s) e (2 * (j + 1))).length = n') := Hn'
          clear A0
          simp only [Int.cast_ofNat_Int]
          go_wp2_with fail
          go_roundw
          case rel => exact ⟨j + 1, by omega, by go_num, by rw [Hl.out], A1⟩
          case measure => simp [intOf]; omega
    · have hend : Away (sa (bys s) e (2 * j) = sa (bys s) e 1632) := ⟨by
        by_cases h : j = 816
        · rw [h]
        · exact (sa_full (bys s) e (2 * j) 1632 (by omega) (by omega)).symm⟩
      rw [hend.out, HRd.out] at A0
      have Hrow := Away.mk A0.out.row
      have Hres : Away (wr.heap[w.heap.size + 1]? = some (.cells z 36 (0, 0))) := ⟨A0.out.other (lt_of_row R1.out) (by have := Hlt.out; omega) R1.out⟩
      clear A0 hn hend
      by_cases h : j < 816
      · have hn256z : ¬ (n : Int) < 256 := by omega
        have hjz : (j : Int) < 816 := by omega
        clear hgo
        go_wp2_with (first
          | (refine wpList_load_row rfl 36 _ rfl u1.heap.size rfl 36 R (0, 0) _ Hrow.out Tryd.underlying36 rfl Ri.out ?_)
          | (refine wpList_store_row rfl 36 _ _ rfl (w.heap.size + 1) R rfl rfl 36 _ Hres.out Ri.out Rz.out Ro.out ?_))
        refine bodyPost_ret_by (v := .agg R) (results_cell_row rfl _ _ (w.heap.size + 1) 36 _ (0, 0) _ rfl (setRow_heap _ _ _ _ _ _ Hres.out) Tryd.underlying36 rfl Ri.out) rfl ?_
        exact ⟨rfl, BE.out.trans (below_setRow _ _ _ (Nat.le_succ _))⟩
      · have hjz : ¬ (j : Int) < 816 := by omega
        clear hgo
        go_wp2_with (first
          | (refine wpList_load_row rfl 36 _ rfl u1.heap.size rfl 36 R (0, 0) _ Hrow.out Tryd.underlying36 rfl Ri.out ?_)
          | (refine wpList_store_row rfl 36 _ _ rfl (w.heap.size + 1) R rfl rfl 36 _ Hres.out Ri.out Rz.out Ro.out ?_))
        refine bodyPost_ret_by (v := .agg R) (results_cell_row rfl _ _ (w.heap.size + 1) 36 _ (0, 0) _ rfl (setRow_heap _ _ _ _ _ _ Hres.out) Tryd.underlying36 rfl Ri.out) rfl ?_
        exact ⟨rfl, BE.out.trans (below_setRow _ _ _ (Nat.le_succ _))⟩
end Go.Proofs.YtjdcmnmnjkkpiaaDoor.rssma

namespace Go.Proofs.YtjdcmnmnjkkpiaaDoor.rsball
open Go Go.RowKit
open Go.Proofs.YtjdcmnmnjkkpiaaDoor.arr Go.Proofs.YtjdcmnmnjkkpiaaDoor.mem Go.Proofs.YtjdcmnmnjkkpiaaDoor.stil Go.Proofs.YtjdcmnmnjkkpiaaDoor.polys Go.Proofs.YtjdcmnmnjkkpiaaDoor.polt Go.Proofs.YtjdcmnmnjkkpiaaDoor.rbitc Go.Proofs.YtjdcmnmnjkkpiaaDoor.samm Go.Proofs.YtjdcmnmnjkkpiaaDoor.rsuni

theorem upd_upd (f : Nat → Int) (k : Nat) (x y : Int) : upd (upd f k x) k y = upd f k y := by
  funext j
  unfold upd
  by_cases h : j = k
  · rw [if_pos h, if_pos h]
  · rw [if_neg h, if_neg h, if_neg h]
set_option maxRecDepth 100000 in
set_option maxHeartbeats 2000000 in
theorem ball_bad {T : Array Value} (b s : ByteArray) (tau : Int) (w : World) (hT : (Tryd.prog.info? 34).map (·.size) = some T.size) (h : ¬ (1 ≤ tau ∧ tau ≤ 64))
    (HS : ∀ w1 : World, Calls Tryd.prog 34 #[.agg T, .int .i64 2, .string b, .int .i64 544] w1 fun e w' => e = .returned (.tuple #[.string s, .int .i64 0]) ∧ Below w1.heap.size w1 w') :
    Calls Tryd.prog 13 #[.agg T, .string b, .int .i64 tau] w fun x w' => x = .returned (.agg (FL .i64 256 fun _ => 0)) ∧ Below w.heap.size w w' := by
  obtain ⟨hz, hsize⟩ := zero_of_info polt.infoP
  obtain ⟨z, HZ⟩ := ex_eq (FL .i64 256 fun _ => 0)
  rw [HZ.out] at hz ⊢
  have Hzs : z.size = 256 := by rw [← HZ.out]; exact fl_size _ _ _
  have Zi : Away ((Tryd.prog.info? 36).map (·.size) = some z.size) := ⟨by rw [Hzs]; exact hsize⟩
  have Zo : Away (z.all (·.oneCell') = true) := ⟨by rw [← HZ.out]; exact fl_one _ _ _⟩
  have HTz := Away.mk hT
  obtain ⟨W, hW⟩ : ∃ x, (w.alloc (.cells T 34)).alloc (.cells z 36) = x := ⟨_, rfl⟩
  obtain ⟨r0, r1, hWs, b0⟩ := two hW
  have T0 : Away (W.heap[w.heap.size]? = some (.cells T 34 (0, 0))) := ⟨r0⟩
  have R0 : Away (W.heap[w.heap.size + 1]? = some (.cells z 36 (0, 0))) := ⟨r1⟩
  have BW := Away.mk b0
  have HWs := Away.mk hWs
  have HW := Away.mk hW
  have HSh := Away.mk HS
  clear hW r0 r1 b0 hWs hsize HS hT HZ Hzs
  have h : tau < 1 ∨ (¬ tau < 1 ∧ 64 < tau) := by omega
  rcases h with h1 | ⟨h1, h2⟩
  all_goals
    go_enter Tryd.func13, Tryd.ntmps13
    go_wp2_with (first
      | (rw [HW.out])
      | (refine wpList_load_row rfl 34 _ rfl w.heap.size rfl 34 T (0, 0) _ T0.out Tryd.underlying34 rfl HTz.out ?_))
    refine (HSh.out _).mono ?_
    rintro x u1 ⟨rfl, hb1⟩
    obtain ⟨W1, hW1⟩ : ∃ x, u1.alloc (.cells z 36) = x := ⟨_, rfl⟩
    obtain ⟨r1, hs1, b1⟩ := one hW1
    have Rr : Away (W1.heap[u1.heap.size]? = some (.cells z 36 (0, 0))) := ⟨r1⟩
    have R1 : Away (W1.heap[w.heap.size + 1]? = some (.cells z 36 (0, 0))) := ⟨((hb1.trans (b1.mono hb1.size)).block _ (by rw [HWs.out]; omega)).trans R0.out⟩
    have B1 : Away (Below w.heap.size w W1) := ⟨BW.out.trans ((hb1.trans (b1.mono hb1.size)).mono (by rw [HWs.out]; omega))⟩
    have HW1 := Away.mk hW1
    clear hb1 r1 b1 hs1 hW1
    go_wp2_with (first
      | (rw [HW1.out])
      | (refine wpList_load_row rfl 36 _ rfl u1.heap.size rfl 36 z (0, 0) _ Rr.out Tryd.underlying36 rfl Zi.out ?_)
      | (refine wpList_store_row rfl 36 _ _ rfl (w.heap.size + 1) z rfl rfl 36 _ R1.out Zi.out rfl Zo.out ?_))
    refine bodyPost_ret_by (v := .agg z) (results_cell_row rfl _ _ (w.heap.size + 1) 36 _ (0, 0) _ rfl (setRow_heap _ _ _ _ _ _ R1.out) Tryd.underlying36 rfl Zi.out) rfl ?_
    exact ⟨rfl, B1.out.trans (below_setRow _ _ _ (Nat.le_succ _))⟩
set_option maxRecDepth 100000 in
set_option maxHeartbeats 4000000 in
theorem ball_good {T : Array Value} (b s : ByteArray) (tau : Nat) (w : World) (hT : (Tryd.prog.info? 34).map (·.size) = some T.size) (ht1 : 1 ≤ tau) (ht2 : tau ≤ 64) (hs : s.size = 544)
    (HS : ∀ w1 : World, Calls Tryd.prog 34 #[.agg T, .int .i64 2, .string b, .int .i64 544] w1 fun e w' => e = .returned (.tuple #[.string s, .int .i64 0]) ∧ Below w1.heap.size w1 w') :
    Calls Tryd.prog 13 #[.agg T, .string b, .int .i64 (tau : Int)] w fun x w' => x = .returned (.agg (FL .i64 256 (bl (bys s) tau tau).1)) ∧ Below w.heap.size w w' := by
  obtain ⟨hz, hsize⟩ := zero_of_info polt.infoP
  obtain ⟨z, HZ⟩ := ex_eq (FL .i64 256 fun _ => 0)
  rw [HZ.out] at hz
  have Hzs : Away (z.size = 256) := ⟨by rw [← HZ.out]; exact fl_size _ _ _⟩
  obtain ⟨R, HR⟩ := ex_eq (FL .i64 256 (bl (bys s) tau tau).1)
  have Ri : Away ((Tryd.prog.info? 36).map (·.size) = some R.size) := ⟨by rw [← HR.out, fl_size]; exact hsize⟩
  have Ro : Away (R.all (·.oneCell') = true) := ⟨by rw [← HR.out]; exact fl_one _ _ _⟩
  have Rz : Away (z.size = R.size) := ⟨by rw [Hzs.out, ← HR.out, fl_size]⟩
  have HRd : Away (FL .i64 256 (bl (bys s) tau tau).1 = R) := HR
  have HTz := Away.mk hT
  rw [HR.out]
  have Hix : Away (∀ j : Nat, j < 544 → ∀ w1 : World, (Instr.index 9 (.string s) (.int .i64 (j : Int))).run Tryd.prog w1 = .ok (.int .u8 ((by' (bys s) j : Nat) : Int)) w1) := ⟨fun j hj w1 => byte_of s j _ (by omega) rfl w1⟩
  obtain ⟨W, hW⟩ : ∃ x, (w.alloc (.cells T 34)).alloc (.cells z 36) = x := ⟨_, rfl⟩
  obtain ⟨r0, r1, hWs, b0⟩ := two hW
  have T0 : Away (W.heap[w.heap.size]? = some (.cells T 34 (0, 0))) := ⟨r0⟩
  have R0 : Away (W.heap[w.heap.size + 1]? = some (.cells z 36 (0, 0))) := ⟨r1⟩
  have BW := Away.mk b0
  have HWs := Away.mk hWs
  have HW := Away.mk hW
  have HSh := Away.mk HS
  have g1 : ¬ (tau : Int) < 1 := by omega
  have g2 : ¬ (64 : Int) < (tau : Int) := by omega
  obtain ⟨i0, hi0⟩ : ∃ i0, 256 - tau = i0 := ⟨_, rfl⟩
  have fi0 : IntKind.i64.wrap (256 - (tau : Int)) = (i0 : Int) := by rw [IntKind.wrap_i64]; omega
  have Hi0 := Away.mk hi0
  clear hW r0 r1 b0 hWs hsize HS hT HR hi0
  go_enter Tryd.func13, Tryd.ntmps13
  go_wp2_with (first
    | (rw [HW.out])
    | (refine wpList_load_row rfl 34 _ rfl w.heap.size rfl 34 T (0, 0) _ T0.out Tryd.underlying34 rfl HTz.out ?_))
  refine (HSh.out _).mono ?_
  rintro x u1 ⟨rfl, hb1⟩
  obtain ⟨W1, hW1⟩ : ∃ x, u1.alloc (.cells z 36) = x := ⟨_, rfl⟩
  obtain ⟨r1, hs1, b1⟩ := one hW1
  have A0 : Away (At u1.heap.size (FL .i64 256 (bl (bys s) tau 0).1) 36 W1 W1) := ⟨by rw [bl, HZ.out]; exact At.refl r1⟩
  have R1 : Away (W1.heap[w.heap.size + 1]? = some (.cells z 36 (0, 0))) := ⟨((hb1.trans (b1.mono hb1.size)).block _ (by rw [HWs.out]; omega)).trans R0.out⟩
  have B1 : Away (Below w.heap.size w W1) := ⟨BW.out.trans ((hb1.trans (b1.mono hb1.size)).mono (by rw [HWs.out]; omega))⟩
  have Hlt : Away (w.heap.size + 1 < u1.heap.size) := ⟨by have := hb1.size; rw [HWs.out] at this; omega⟩
  have HW1 := Away.mk hW1
  have hszi : (s.size : Int) = 544 := by omega
  clear hb1 r1 b1 hs1 hW1 T0 R0 BW
  go_wp2_with (rw [HW1.out])
  clear hz
  go_loopw [10, 11] (fun c v wr => ∃ t : Nat, t ≤ tau ∧ v = .int .i64 ((i0 + t : Nat) : Int) ∧ c = .int .i64 (((bl (bys s) tau t).2 : Nat) : Int) ∧ Away (At u1.heap.size (FL .i64 256 (bl (bys s) tau t).1) 36 W1 wr)) (fun _ v _ => 256 - (intOf v).toNat)
  case atStart => exact ⟨0, by omega, rfl, rfl, A0⟩
  case round =>
    clear A0
    obtain ⟨t, ht, rfl, rfl, A0⟩ := hrel
    have BE : Away (Below w.heap.size w wr) := ⟨B1.out.trans (A0.out.below B1.out.size (by have := Hlt.out; omega))⟩
    obtain ⟨o, hoo⟩ : ∃ o, (bl (bys s) tau t).1 = o := ⟨_, rfl⟩
    obtain ⟨a0, ha0⟩ : ∃ a0, (bl (bys s) tau t).2 = a0 := ⟨_, rfl⟩
    have ha544 := bl_le (bys s) tau t
    rw [ha0] at ha544 ⊢
    by_cases htt : t < tau
    · rw [hoo] at A0
      obtain ⟨i, hi⟩ : ∃ i, i0 + t = i := ⟨_, rfl⟩
      have hi256 : i < 256 := by have := Hi0.out; omega
      have hiz : (i : Int) < 256 := by omega
      have Hi : Away (256 - tau + t = i) := ⟨by rw [Hi0.out]; exact hi⟩
      have Hi' := Away.mk hi
      rw [hi]
      have Ho := Away.mk hoo
      have Ha0 := Away.mk ha0
      clear hi hoo ha0
      go_wp2_with fail
      go_loopw [10] (fun v wv => ∃ f a : Nat, 544 ≤ a + f ∧ a ≤ 544 ∧ nx (bys s) i f a = nx (bys s) i 544 a0 ∧ v = .int .i64 (a : Int) ∧ wr = wv) (fun v _ => 544 - (intOf v).toNat)
      case atStart => exact ⟨544, a0, by omega, ha544, rfl, rfl, rfl⟩
      case round =>
        obtain ⟨f, a, hf, ha, hnx, rfl, rfl⟩ := hrel
        by_cases hlt : a < 544
        · have haz : (a : Int) < 544 := by omega
          have hix := Hix.out a hlt
          obtain ⟨β, hβ⟩ : ∃ β, by' (bys s) a = β := ⟨_, rfl⟩
          have hβ8 : β < 256 := by rw [← hβ]; exact by_lt s _
          rw [hβ] at hix
          have wβ : IntKind.i64.wrap (β : Int) = (β : Int) := by rw [IntKind.wrap_i64]; omega
          by_cases hbig : i < β
          · have hbz : (i : Int) < (β : Int) := by omega
            obtain ⟨f, rfl⟩ : ∃ f', f = f' + 1 := ⟨f - 1, by omega⟩
            rw [nx, if_pos ⟨hlt, by rw [hβ]; exact hbig⟩] at hnx
            clear hβ hbig
            go_wp2_with fail
            go_roundw
            case rel => exact ⟨f, a + 1, by omega, by omega, hnx, by go_num, trivial⟩
            case measure => simp [intOf]; omega
          · have hbz : ¬ (i : Int) < (β : Int) := by omega
            rw [nx_stop (bys s) i f a (by rw [hβ]; omega)] at hnx
            have hane : ((a : Int) == 544) = false := beq_eq_false_iff_ne.2 (by omega)
            obtain ⟨v, hv⟩ : ∃ v, o β = v := ⟨_, rfl⟩
            have co : wr.cell? ⟨u1.heap.size, β, none⟩ = some (.int .i64 v) := by rw [← hv]; exact fl_at A0.out.row β hβ8
            have fit : IntKind.i64.wrap ((i : Int) + (tau : Int)) = ((i + tau : Nat) : Int) := by rw [IntKind.wrap_i64]; omega
            have fit2 : IntKind.i64.wrap ((i : Int) + (tau : Int) - 256) = (t : Int) := by have := Hi.out; rw [IntKind.wrap_i64]; omega
            have fit3 : (i : Int) + (tau : Int) - 256 = (t : Int) := by have := Hi.out; omega
            obtain ⟨d, hd⟩ : ∃ d, t / 8 = d := ⟨_, rfl⟩
            obtain ⟨r, hr⟩ : ∃ r, t % 8 = r := ⟨_, rfl⟩
            have hid := Hix.out d (by omega)
            obtain ⟨γ, hγ⟩ : ∃ γ, by' (bys s) d = γ := ⟨_, rfl⟩
            have hγ8 : γ < 256 := by rw [← hγ]; exact by_lt s _
            rw [hγ] at hid
            obtain ⟨y, hy⟩ : ∃ y, γ / 2 ^ r = y := ⟨_, rfl⟩
            have hy8 : y < 256 := by rw [← hy]; exact Nat.lt_of_le_of_lt (Nat.div_le_self _ _) hγ8
            have fy : (γ : Int) / 2 ^ r = (y : Int) := by rw [← hy]; simp
            have fand := and_u8 y hy8
            obtain ⟨bb, hbb⟩ : ∃ bb, y % 2 = bb := ⟨_, rfl⟩
            rw [hbb] at fand
            have fd : (t : Int).tdiv 8 = (d : Int) := by rw [Int.tdiv_eq_ediv_of_nonneg (by omega)]; omega
            have fd2 : (t : Int) / 8 = (d : Int) := by omega
            have fdw : IntKind.i64.wrap ((t : Int).tdiv 8) = (d : Int) := by rw [fd, IntKind.wrap_i64]; omega
            have fr : (t : Int).tmod 8 = (r : Int) := by rw [Int.tmod_eq_emod_of_nonneg (by omega)]; omega
            have fr2 : (t : Int) % 8 = (r : Int) := by omega
            have fru : IntKind.u64.wrap (r : Int) = (r : Int) := by rw [IntKind.wrap_u64]; omega
            have hr7 : r ≤ 7 := by omega
            have Hsg : Away (sgn (bys s) t = if bb = 1 then 8380416 else 1) := ⟨by unfold sgn; rw [hd, hr, hγ, hy, hbb]⟩
            have Hbl : Away (bl (bys s) tau (t + 1) = (upd (upd o i v) β (sgn (bys s) t), a + 1)) := ⟨by
              rw [bl, Hi.out, Ha0.out, ← hnx, Ho.out]
              show (if a = 544 then _ else _) = _
              rw [if_neg (by omega), hβ, hv]⟩
            clear hβ hv hd hr hγ hy hnx hbig
            by_cases hb1 : bb = 1
            · subst hb1
              have Hs1 : Away (upd (upd (upd o i v) β 1) β 8380416 = (bl (bys s) tau (t + 1)).1) := ⟨by rw [Hbl.out, upd_upd, Hsg.out, if_pos rfl]⟩
              have Ha1 : Away ((bl (bys s) tau (t + 1)).2 = a + 1) := ⟨by rw [Hbl.out]⟩
              clear hbb
              go_wp2_with ((with_reducible refine wpList_put2 (by assumption) rfl _ _ _ rfl rfl ?_); refine ⟨_, _, _, rfl, rfl, rfl, (by rw [fl_size]; omega), ?_⟩; intro wn HRn; rw [fl_set] at HRn)
              rw [Hs1.out] at HRn
              go_roundw
              case rel => exact ⟨t + 1, by omega, by rw [show ((i0 + (t + 1) : Nat) : Int) = (i : Int) + 1 by have := Hi'.out; omega], by rw [Ha1.out]; go_num, HRn⟩
              case measure => simp [intOf]; omega
            · have hb0 : bb = 0 := by omega
              subst hb0
              have Hs1 : Away (upd (upd o i v) β 1 = (bl (bys s) tau (t + 1)).1) := ⟨by rw [Hbl.out, Hsg.out, if_neg (by omega)]⟩
              have Ha1 : Away ((bl (bys s) tau (t + 1)).2 = a + 1) := ⟨by rw [Hbl.out]⟩
              clear hbb hb1
              go_wp2_with ((with_reducible refine wpList_put2 (by assumption) rfl _ _ _ rfl rfl ?_); refine ⟨_, _, _, rfl, rfl, rfl, (by rw [fl_size]; omega), ?_⟩; intro wn HRn; rw [fl_set] at HRn)
              rw [Hs1.out] at HRn
              go_roundw
              case rel => exact ⟨t + 1, by omega, by rw [show ((i0 + (t + 1) : Nat) : Int) = (i : Int) + 1 by have := Hi'.out; omega], by rw [Ha1.out]; go_num, HRn⟩
              case measure => simp [intOf]; omega
        · obtain rfl : a = 544 := by omega
          rw [nx_stop (bys s) i f 544 (by omega)] at hnx
          have hbl : bl (bys s) tau (t + 1) = (o, 544) := by
            rw [bl, Hi.out, Ha0.out, ← hnx, Ho.out]
            exact if_pos rfl
          have e1 : (bl (bys s) tau tau).1 = o := by rw [bl_end (bys s) tau (t + 1) tau (by rw [hbl]) htt, hbl]
          have hFL : FL .i64 256 o = R := by rw [← e1]; exact HRd.out
          rw [hFL] at A0
          have Hrow := Away.mk A0.out.row
          have Hres : Away (wr.heap[w.heap.size + 1]? = some (.cells z 36 (0, 0))) := ⟨A0.out.other (lt_of_row R1.out) (by have := Hlt.out; omega) R1.out⟩
          clear hbl e1 hFL A0 hnx
          simp only [Int.cast_ofNat_Int]
          go_wp2_with (first
            | (refine wpList_load_row rfl 36 _ rfl u1.heap.size rfl 36 R (0, 0) _ Hrow.out Tryd.underlying36 rfl Ri.out ?_)
            | (refine wpList_store_row rfl 36 _ _ rfl (w.heap.size + 1) R rfl rfl 36 _ Hres.out Ri.out Rz.out Ro.out ?_))
          refine bodyPost_ret_by (v := .agg R) (results_cell_row rfl _ _ (w.heap.size + 1) 36 _ (0, 0) _ rfl (setRow_heap _ _ _ _ _ _ Hres.out) Tryd.underlying36 rfl Ri.out) rfl ?_
          exact ⟨rfl, BE.out.trans (below_setRow _ _ _ (Nat.le_succ _))⟩
    · obtain rfl : t = tau := by omega
      have hit : ((i0 + t : Nat) : Int) = 256 := by have := Hi0.out; omega
      rw [hit]
      rw [HRd.out] at A0
      have Hrow := Away.mk A0.out.row
      have Hres : Away (wr.heap[w.heap.size + 1]? = some (.cells z 36 (0, 0))) := ⟨A0.out.other (lt_of_row R1.out) (by have := Hlt.out; omega) R1.out⟩
      clear A0 hit hoo ha0
      go_wp2_with (first
        | (refine wpList_load_row rfl 36 _ rfl u1.heap.size rfl 36 R (0, 0) _ Hrow.out Tryd.underlying36 rfl Ri.out ?_)
        | (refine wpList_store_row rfl 36 _ _ rfl (w.heap.size + 1) R rfl rfl 36 _ Hres.out Ri.out Rz.out Ro.out ?_))
      refine bodyPost_ret_by (v := .agg R) (results_cell_row rfl _ _ (w.heap.size + 1) 36 _ (0, 0) _ rfl (setRow_heap _ _ _ _ _ _ Hres.out) Tryd.underlying36 rfl Ri.out) rfl ?_
      exact ⟨rfl, BE.out.trans (below_setRow _ _ _ (Nat.le_succ _))⟩
end Go.Proofs.YtjdcmnmnjkkpiaaDoor.rsball
