/-
  What mac.Mask returns: the document's mask; memory that was there before stays as it was. Conditions: the tables hold the words, the seed has at most 2^38 bytes.
-/
import Derived.Test.YthfljfampfioaaaEnded
import Derived.Test.YthfljfampfioaaaQTail
import Derived.Test.YthfljfampfioaaaShelfW
import Derived.Test.YthfljfampfioaaaCut
import Derived.Deep.RegionHeld3
namespace Go.Proofs.Ythfljfampfioaaa.mask
set_option linter.unusedSimpArgs false
open Go.RowKit
open Go.Proofs.Ythfljfampfioaaa.oct Go.Proofs.Ythfljfampfioaaa.mem Go.Proofs.Ythfljfampfioaaa.arr Go.Proofs.Ythfljfampfioaaa.thru Go.Proofs.Ythfljfampfioaaa.ends Go.Proofs.Ythfljfampfioaaa.hashs Go.Proofs.Ythfljfampfioaaa.macm Go.Proofs.Ythfljfampfioaaa.macf Go.Proofs.Ythfljfampfioaaa.qtail
theorem yieldsIf_load {P : Program} {ops : Array Oper} {S : World → Prop} {op : Oper} {a : Act} (hw : Region.wanted op (yielded ops a.tmps) = true) (ty : TypeId) (x : Operand) (ho : op.op = .load ty x)
    (g : Nat) (hx : a.eval x = .pointer (some ⟨g, 0, none⟩)) (t : TypeId) (cs : Array Value) (d : TypeDesc) (hS : ∀ w, S w → w.heap[g]? = some (.cells cs t (0, 0)))
    (hu : P.underlying ty = some d) (hd : (match d with | .struct _ | .array _ _ => true | _ => false) = true) (hi : (P.info? ty).map (·.size) = some cs.size) : YieldsIf P ops S op (.agg cs) a :=
  .inl ⟨hw, fun w hw' => by
    unfold execOp
    simp only [ho, hx, Instr.loadAt, Instr.sureAddr, Sem.run_bind, Sem.run_pure, Result.andThen_ok, run_loadVar_row w g t ty cs (0, 0) d (hS w hw') hu hd hi]⟩
/-- a builder stays what it is while the memory that is there stays as it is -/
theorem builder_later {T e : TypeId} {B b : Nat} {bs : List Value} {w w' : World} (h : Lib.IsBuilder T e B b bs w) (k : Below w.heap.size w w') : Lib.IsBuilder T e B b bs w' := by
  have key : ∀ p, Lib.BuilderAt T e B b p bs w → Lib.BuilderAt T e B b p bs w' := by
    intro p h
    have hl := h.lt
    obtain ⟨hB, v, hbk, hown, hne⟩ := h
    refine ⟨hB, v, (k.block b hl).trans hbk, ⟨hown.1, ?_⟩, hne⟩
    rcases hown.2 with h0 | ⟨g, cap, cur, h1, h2, hg, h3⟩
    · exact Or.inl h0
    · exact Or.inr ⟨g, cap, cur, h1, h2, (k.block g (lt_of_row hg)).trans hg, h3⟩
  rcases h with h | h
  · exact Or.inl (key _ h)
  · exact Or.inr (key _ h)

set_option maxRecDepth 100000 in
set_option maxHeartbeats 2000000 in
theorem mask_false (T : Array Value) (x : Wd) (s : ByteArray) (n : Int) (w : World) (h : TX T x) (hs : s.size ≤ 274877906944) :
    Calls Try.prog 13 #[.agg T, .bool false, .string s, .int .i64 n] w fun e w' => e = .returned (.string ⟨(ms x false s.data.toList n).toArray⟩) ∧ Below w.heap.size w w' := by
  have HTs : Away (T.size = 465) := ⟨h.size⟩
  have Hst : Away (∀ w1 : World, Calls Try.prog 33 #[.agg T, .bool false] w1 fun e w' => e = .returned (.agg (HX x false [])) ∧ Below w1.heap.size w1 w') := ⟨fun w1 => start_any T x false w1 h⟩
  have Hfd : Away (∀ w1 : World, Calls Try.prog 32 #[.agg T, .agg (HX x false []), .string s] w1 fun e w' => e = .returned (.tuple #[.agg (HX x false s.data.toList), .int .i64 0]) ∧ Below w1.heap.size w1 w') := ⟨fun w1 => by
    have hh := feed_any T x false [] s w1 h (by simpa using Nat.le_trans hs (by decide))
    rw [List.nil_append] at hh
    exact hh⟩
  have Hen : Away (∀ (k : Nat) (w1 : World), k ≤ 2000 → Calls Try.prog 36 #[.agg T, .agg (HX x false s.data.toList), .string ⟨(fixL k 4).toArray⟩] w1 fun e w' => e = .returned (.string ⟨(hx x false (s.data.toList ++ fixL k 4)).toArray⟩) ∧ Below w1.heap.size w1 w') := ⟨fun k w1 hk => by
    have hh := ended.ended_any T x false s.data.toList ⟨(fixL k 4).toArray⟩ w1 h (by
      show s.data.toList.length + (fixL k 4).toArray.size ≤ _
      rw [List.size_toArray, fixL_length]
      have e1 : s.data.toList.length = s.size := rfl
      omega)
    exact hh⟩
  have Hfx : Away (∀ (k : Nat) (w1 : World), k ≤ 2000 → Calls Try.prog 18 #[.int .u64 (k : Int), .int .i64 4] w1 fun e w' => e = .returned (.string ⟨(fixL k 4).toArray⟩) ∧ Below w1.heap.size w1 w') := ⟨fun k w1 hk => by
    have hh := fixed.fixed_any k 4 w1 (by omega)
    rw [show ((4 : Int)) = ((4 : Nat) : Int) from rfl, fixS_wd _ _ (by decide)] at hh
    exact hh⟩
  have Hmk : Away (∀ k, mk x false s.data.toList (k + 1) = mk x false s.data.toList k ++ hx x false (s.data.toList ++ fixL k 4)) := ⟨fun _ => rfl⟩
  have Hml : Away (∀ k, (mk x false s.data.toList k).length = 32 * k) := ⟨fun k => mk_length _ _ _ _⟩
  have Hxl : Away (∀ k, (hx x false (s.data.toList ++ fixL k 4)).length = 32) := ⟨fun k => hx_length _ _ _⟩
  have Hms : Away (ms x false s.data.toList n = (mk x false s.data.toList (((min n 50000).toNat + 31) / 32)).take n.toNat) := ⟨rfl⟩
  have Ds : Away ((HX x false s.data.toList).size = 19) := ⟨HX_size _ _ _⟩
  have Do : Away ((HX x false s.data.toList).all (·.oneCell') = true) := ⟨HX_one _ _ _⟩
  obtain ⟨C, hC⟩ : ∃ C, HX x false [] = C := ⟨_, rfl⟩
  obtain ⟨D, hD⟩ : ∃ D, HX x false s.data.toList = D := ⟨_, rfl⟩
  obtain ⟨M, hM⟩ : ∃ M, mk x false s.data.toList = M := ⟨_, rfl⟩
  obtain ⟨H, hH⟩ : ∃ H : Nat → List UInt8, (fun k => hx x false (s.data.toList ++ fixL k 4)) = H := ⟨_, rfl⟩
  have hH2 : ∀ k, hx x false (s.data.toList ++ fixL k 4) = H k := fun k => congrFun hH k
  obtain ⟨R, hR⟩ : ∃ R, ms x false s.data.toList n = R := ⟨_, rfl⟩
  rw [hC] at Hst Hfd
  rw [hD] at Hfd Hen Ds Do
  rw [hM] at Hmk Hml Hms
  simp only [hH2] at Hmk Hxl Hen
  rw [hR] at Hms ⊢
  clear hC hD hM hH hH2 hR h
  obtain ⟨Z, HZ⟩ := ex_eq (HC false V0 V0 ⟨#[]⟩ 0)
  have eZ : (#[.bool false, .int .u32 0, .int .u32 0, .int .u32 0, .int .u32 0, .int .u32 0, .int .u32 0, .int .u32 0, .int .u32 0, .int .u64 0, .int .u64 0, .int .u64 0, .int .u64 0, .int .u64 0, .int .u64 0, .int .u64 0, .int .u64 0, .string ⟨#[]⟩, .int .i64 0] : Array Value) = Z := by rw [← HZ.out]; rfl
  have HZs : Away (Z.size = 19) := ⟨by rw [← HZ.out]; rfl⟩
  clear HZ
  go_enter Try.func13, Try.ntmps13
  go_wp2_with fail
  obtain ⟨W, HW⟩ := ex_eq (w.alloc (.cells T 33))
  have E0 : Away (W.heap[w.heap.size]? = some (.cells T 33 (0, 0))) := ⟨by rw [← HW.out]; exact heap_at _ _ _ rfl⟩
  have zW : W.heap.size = w.heap.size + 1 := by rw [← HW.out]; simp
  have HbW : Away (Below w.heap.size w W) := ⟨by rw [← HW.out]; exact below_alloc w _⟩
  rw [HW.out]
  have HS : Away (∀ w' : World, Below W.heap.size W w' → w'.heap[w.heap.size]? = some (.cells T 33 (0, 0))) := ⟨fun w' hb => (hb.block _ (by omega)).trans E0.out⟩
  refine Code.wp_mono (Q := fun e a' w' => e = .normal ∧ ∃ p : Nat, W.heap.size ≤ p ∧ Below W.heap.size W w' ∧ w'.heap[p]? = some (.cells D 56 (0, 0)) ∧ a' = ⟨#[.agg T, .bool false, .string s, .int .i64 n, .pointer (some ⟨w.heap.size, 0, none⟩), undef, undef, undef, .string ⟨#[]⟩, .pointer (some ⟨p, 0, none⟩), .int .i64 0, undef, undef, .tuple #[.agg D, .int .i64 0], .agg T, .agg T, .bool false, .agg C, .string s, .tuple #[.agg D, .int .i64 0], .agg D, .int .i64 0, undef, undef, undef, undef, undef, undef, undef, undef, undef, undef, undef, undef, undef, undef, undef], []⟩) ?_ ?_
  · rintro e a' w1 ⟨rfl, p, hp, hb, hr, rfl⟩
    clear eZ
    dsimp only
    have H0 : Away (w1.heap[w.heap.size]? = some (.cells T 33 (0, 0))) := ⟨HS.out w1 hb⟩
    have Hr := Away.mk hr
    have hpl : p < w1.heap.size := lt_of_row hr
    have Hb : Away (Below w.heap.size w w1) := ⟨HbW.out.trans (hb.mono HbW.out.size)⟩
    have hfb := Lib.fresh_isBuilder 63 5 w1
    have Hfb : Away (Lib.IsBuilder 63 5 w1.heap.size w1.heap.size (Lib.byteCells (M 0)) (w1.alloc (.cells #[.pointer none, .slice none 0 0] 63))) := ⟨by
      have e0 : M 0 = [] := List.eq_nil_of_length_eq_zero ((Hml.out 0).trans (Nat.mul_zero _))
      rw [e0]; exact hfb⟩
    obtain ⟨N, hN⟩ : ∃ N, ((min n 50000).toNat + 31) / 32 = N := ⟨_, rfl⟩
    rw [hN] at Hms
    have hN2 : N ≤ 1600 := by omega
    clear hr hb hfb
    go_wp2_with fail
    go_loopw [12] (fun i wr => ∃ k : Nat, k ≤ N ∧ i = .int .u64 k ∧ Away (Lib.IsBuilder 63 5 w1.heap.size w1.heap.size (Lib.byteCells (M k)) wr) ∧ Away (Below w1.heap.size w1 wr) ∧ w1.heap.size ≤ wr.heap.size) (fun i _ => N - (intOf i).toNat)
    case atStart => exact ⟨0, Nat.zero_le _, rfl, ⟨Hfb.out⟩, ⟨(Below.refl _ _).alloc (Nat.le_refl _) _⟩, by simp⟩
    case round =>
      obtain ⟨k, hk, rfl, Hbd, Hbe, hz⟩ := hrel
      have Hlen : Away (Calls Try.prog 34 #[.pointer (some ⟨w1.heap.size, 0, none⟩)] wr fun e w' => e = .returned (.int .i64 ((32 * k : Nat) : Int)) ∧ w' = wr) := ⟨by
        have hh := shelf.builderLen w1.heap.size w1.heap.size _ wr Hbd.out
        rw [Lib.byteCells_length, Hml.out] at hh
        exact hh⟩
      have F0 : Away (wr.heap[w.heap.size]? = some (.cells T 33 (0, 0))) := ⟨(Hbe.out.block _ (lt_of_row H0.out)).trans H0.out⟩
      have F1 : Away (wr.heap[p]? = some (.cells D 56 (0, 0))) := ⟨(Hbe.out.block _ hpl).trans Hr.out⟩
      by_cases hlt : ((32 * k : Nat) : Int) < min n 50000
      · have hkN : k + 1 ≤ N := by omega
        have hd : decide (((32 * k : Nat) : Int) < min n 50000) = true := decide_eq_true hlt
        have HkN := Away.mk hkN
        have hk2 : k ≤ 1600 := by omega
        obtain ⟨q, hq⟩ : ∃ q : Nat, 32 * k = q := ⟨_, rfl⟩
        rw [hq] at Hlen hd hlt
        have Hmlk : Away ((M k).length = q) := ⟨(Hml.out k).trans hq⟩
        have hq2 : q ≤ 50000 := by omega
        clear hq hkN
        go_wp2_with fail
        refine Hlen.out.mono ?_
        rintro e w2 ⟨rfl, rfl⟩
        go_wp2_with fail
        refine region_below_tail 5 (by kernel_rfl) (by kernel_rfl) ?_
        refine wpQuiet_load rfl 33 _ rfl _ rfl 33 _ _ (fun w' hC => heap_regrown F0.out hC) Try.underlying33 rfl (by rw [HTs.out]; exact sizeT) ?_
        refine wpQuiet_load rfl 56 _ rfl _ rfl 56 _ _ (fun w' hC => heap_regrown F1.out hC) Try.underlying56 rfl (by rw [Ds.out]; exact zHash) ?_
        quiet_step (skip)
        quiet_step (exact Calls.regrown_of (Hfx.out k _ (by omega)))
        quiet_step (exact Calls.regrown_of (Hen.out k _ (by omega)))
        refine wpQuiet_nil ?_
        intro w3 hC
        have hb3 : Below w2.heap.size w2 w3 := by
          obtain ⟨pp, rfl⟩ := hC
          exact below_regrown _ _ _
        have Hb3 := Away.mk hb3
        have Hw : Away (Calls Try.prog 35 #[.pointer (some ⟨w1.heap.size, 0, none⟩), .string ⟨(H k).toArray⟩] w3 fun e w' => e = .returned (.tuple #[.int .i64 (⟨(H k).toArray⟩ : ByteArray).size, .nilIface]) ∧ (Lib.BuilderAt 63 5 w1.heap.size w1.heap.size (.pointer (some ⟨w1.heap.size, 0, none⟩)) (Lib.byteCells (M (k + 1))) w' ∧ Below w1.heap.size w3 w')) := ⟨by
          have hh := shelf.writeString w1.heap.size w1.heap.size (Lib.byteCells (M k)) ⟨(H k).toArray⟩ w3 (builder_later Hbd.out hb3) (by
            rw [Lib.byteCells_length, Hmlk.out]
            show q + (H k).toArray.size ≤ _
            rw [List.size_toArray, Hxl.out]
            omega) (Nat.le_trans hz hb3.size)
          rw [show Lib.strCells ⟨(H k).toArray⟩ = Lib.byteCells (H k) from rfl, ← Lib.byteCells_append, ← Hmk.out] at hh
          exact hh⟩
        have hz3 : w1.heap.size ≤ w3.heap.size := Nat.le_trans hz hb3.size
        clear hC hb3
        go_wp2_with fail
        refine Hw.out.mono ?_
        rintro e w4 ⟨rfl, hat, hb4⟩
        have Hat := Away.mk hat
        have Hb4 := Away.mk hb4
        have hz4 : w1.heap.size ≤ w4.heap.size := Nat.le_trans hz3 hb4.size
        clear hat hb4
        go_wp2_with fail
        go_roundw
        case rel => exact ⟨k + 1, HkN.out, by go_num, ⟨Or.inr Hat.out⟩, ⟨(Hbe.out.trans (Hb3.out.mono hz)).trans Hb4.out⟩, hz4⟩
        case measure => have := HkN.out; simp [intOf]; omega
      · obtain rfl : k = N := by omega
        have hd : decide (((32 * k : Nat) : Int) < min n 50000) = false := decide_eq_false hlt
        have hMl : (M k).length ≤ 102400 := by rw [Hml.out]; omega
        have Hst2 : Away (∀ w2, Lib.IsBuilder 63 5 w1.heap.size w1.heap.size (Lib.byteCells (M k)) w2 → w1.heap.size ≤ w2.heap.size → Calls Try.prog 37 #[.pointer (some ⟨w1.heap.size, 0, none⟩)] w2 fun e w' => e = .returned (.string ⟨(M k).toArray⟩) ∧ Below w1.heap.size w2 w') := ⟨fun w2 h1 h2 => shelf.toText w1.heap.size w1.heap.size (M k) w2 h1 h2⟩
        have Hct : Away (∀ w2 : World, Calls Try.prog 15 #[.string ⟨(M k).toArray⟩, .int .i64 n] w2 fun e w' => e = .returned (.string ⟨R.toArray⟩) ∧ Below w2.heap.size w2 w') := ⟨fun w2 => by
          rw [Hms.out]
          exact cut.cut_any ⟨(M k).toArray⟩ n w2 (by show (M k).toArray.size ≤ _; rw [List.size_toArray]; omega)⟩
        obtain ⟨q, hq⟩ : ∃ q : Nat, 32 * k = q := ⟨_, rfl⟩
        rw [hq] at Hlen hd hlt
        clear hq hMl
        go_wp2_with fail
        refine Hlen.out.mono ?_
        rintro e w2 ⟨rfl, rfl⟩
        go_wp2_with fail
        refine (Hst2.out _ Hbd.out hz).mono ?_
        rintro e w3 ⟨rfl, hb3⟩
        have hz3 : w1.heap.size ≤ w3.heap.size := Nat.le_trans hz hb3.size
        have Hb3 : Away (Below w1.heap.size w1 w3) := ⟨Hbe.out.trans hb3⟩
        clear hb3
        go_wp2_with fail
        refine (Hct.out _).mono ?_
        rintro e w4 ⟨rfl, hb4⟩
        have Hb4 : Away (Below w.heap.size w w4) := ⟨Hb.out.trans ((Hb3.out.trans (hb4.mono hz3)).mono Hb.out.size)⟩
        clear hb4
        go_wp2_with fail
        go_ret
        exact ⟨rfl, Hb4.out⟩
  · refine wp_region_held (S := fun w' => Below W.heap.size W w') (by kernel_rfl) ?_
    change wpAnyH _ _ _ _ _ _ _ _ W.drew
    obtain ⟨u0, hu0⟩ : ∃ u, W.drew = u := ⟨_, rfl⟩
    have S0 : Below W.heap.size W u0 := by rw [← hu0]; exact (Below.refl _ _).drew
    rw [hu0]
    clear hu0
    refine wpAnyH_take (i := 0) rfl (by kernel_rfl) (by kernel_rfl) (by kernel_rfl) (fun _ _ _ h => absurd h.1 (by simp)) (yieldsIf_load (by rfl) 33 _ rfl _ rfl 33 T _ HS.out Try.underlying33 rfl (by rw [HTs.out]; exact sizeT)) S0 ?_
    try simp only [Act.put, List.setIfInBounds_toArray, List.set_cons_zero, List.set_cons_succ]
    refine wpAnyH_take (i := 1) rfl (by kernel_rfl) (by kernel_rfl) (by kernel_rfl) (fun _ _ _ h => absurd h.1 (by simp)) (yieldsIf_load (by rfl) 33 _ rfl _ rfl 33 T _ HS.out Try.underlying33 rfl (by rw [HTs.out]; exact sizeT)) S0 ?_
    try simp only [Act.put, List.setIfInBounds_toArray, List.set_cons_zero, List.set_cons_succ]
    refine wpAnyH_take (i := 2) (v := .bool false) rfl (by kernel_rfl) (by kernel_rfl) (by kernel_rfl) (fun _ _ _ h => absurd h.1 (by simp)) (Or.inl ⟨by rfl, fun w9 _ => by rfl⟩) S0 ?_
    try simp only [Act.put, List.setIfInBounds_toArray, List.set_cons_zero, List.set_cons_succ]
    refine wpAnyH_take (i := 4) (v := .string s) rfl (by kernel_rfl) (by kernel_rfl) (by kernel_rfl) (fun _ _ _ h => absurd h.1 (by simp)) (Or.inl ⟨by rfl, fun w9 _ => by rfl⟩) S0 ?_
    try simp only [Act.put, List.setIfInBounds_toArray, List.set_cons_zero, List.set_cons_succ]
    refine wpAnyH_ready (rs := [3, 9]) (by kernel_rfl) (by simp) (AllReadyH.cons rfl (fun K hK => ?_) (AllReadyH.cons rfl (fun K hK => ?_) AllReadyH.nil))
    · rw [if_pos (by rfl)]
      go_simp
      refine (Hst.out _).mono ?_
      rintro e u1 ⟨rfl, b1⟩
      have S1 : Below W.heap.size W u1 := S0.trans (b1.mono S0.size)
      go_wp2_with fail
      refine hK.out _ _ S1 (fun _ => ?_)
      clear hK K
      try simp only [Act.put, List.setIfInBounds_toArray, List.set_cons_zero, List.set_cons_succ]
      refine wpAnyH_ready (rs := [5, 9]) (by kernel_rfl) (by simp) (AllReadyH.cons rfl (fun K hK => ?_) (AllReadyH.cons rfl (fun K hK => ?_) AllReadyH.nil))
      · rw [if_pos (by rfl)]
        go_simp
        refine (Hfd.out _).mono ?_
        rintro e u2 ⟨rfl, b2⟩
        have S2 : Below W.heap.size W u2 := S1.trans (b2.mono S1.size)
        go_wp2_with fail
        refine hK.out _ _ S2 (fun _ => ?_)
        clear hK K
        try simp only [Act.put, List.setIfInBounds_toArray, List.set_cons_zero, List.set_cons_succ]
        refine wpAnyH_take (i := 6) (v := .tuple #[.agg D, .int .i64 0]) rfl (by kernel_rfl) (by kernel_rfl) (by kernel_rfl) (fun _ _ _ h => absurd h.1 (by simp)) (Or.inl ⟨by rfl, fun w9 _ => by rfl⟩) S2 ?_
        try simp only [Act.put, List.setIfInBounds_toArray, List.set_cons_zero, List.set_cons_succ]
        refine wpAnyH_take (i := 7) (v := .agg D) rfl (by kernel_rfl) (by kernel_rfl) (by kernel_rfl) (fun _ _ _ h => absurd h.1 (by simp)) (Or.inl ⟨by rfl, fun w9 _ => by rfl⟩) S2 ?_
        try simp only [Act.put, List.setIfInBounds_toArray, List.set_cons_zero, List.set_cons_succ]
        refine wpAnyH_take (i := 8) (v := .int .i64 0) rfl (by kernel_rfl) (by kernel_rfl) (by kernel_rfl) (fun _ _ _ h => absurd h.1 (by simp)) (Or.inl ⟨by rfl, fun w9 _ => by rfl⟩) S2 ?_
        try simp only [Act.put, List.setIfInBounds_toArray, List.set_cons_zero, List.set_cons_succ]
        refine wpAnyH_ready (rs := [9]) (by kernel_rfl) (by simp) (AllReadyH.cons rfl (fun K hK => ?_) AllReadyH.nil)
        · rw [if_pos (by rfl)]
          go_simp
          refine hK.out _ _ (S2.alloc S2.size _) (fun _ => ?_)
          clear hK K
          try simp only [Act.put, List.setIfInBounds_toArray, List.set_cons_zero, List.set_cons_succ]
          obtain ⟨p, hp⟩ : ∃ p, u2.heap.size = p := ⟨_, rfl⟩
          have p1 : W.heap.size ≤ p := by rw [← hp]; exact S2.size
          obtain ⟨u3, hu3⟩ : ∃ u, u2.alloc (.cells Z 56) = u := ⟨_, rfl⟩
          have q3 : u3.heap[p]? = some (.cells Z 56 (0, 0)) := by rw [← hu3, ← hp]; exact heap_at _ _ _ rfl
          have S3 : Below W.heap.size W u3 := by rw [← hu3]; exact S2.alloc S2.size _
          rw [hu3, hp]
          refine wpAnyH_ready (rs := [10]) (by kernel_rfl) (by simp) (AllReadyH.cons rfl (fun K hK => ?_) AllReadyH.nil)
          · rw [if_pos (by rfl)]
            refine wp_store_row 56 _ _ rfl p D rfl rfl 56 _ q3 (by rw [Ds.out]; exact zHash) (by rw [Ds.out, HZs.out]) Do.out ?_
            refine hK.out _ _ (S3.trans (below_setRow _ _ _ p1)) (fun _ => ?_)
            clear hK K
            try simp only [Act.put, List.setIfInBounds_toArray, List.set_cons_zero, List.set_cons_succ]
            obtain ⟨u4, hu4⟩ : ∃ u, u3.setRow p D = u := ⟨_, rfl⟩
            have q4 : u4.heap[p]? = some (.cells D 56 (0, 0)) := by rw [← hu4]; exact setRow_heap _ _ _ _ _ _ q3
            have S4 : Below W.heap.size W u4 := by rw [← hu4]; exact S3.trans (below_setRow _ _ _ p1)
            rw [hu4]
            refine wpAnyH_take (i := 11) (v := .int .i64 0) rfl (by kernel_rfl) (by kernel_rfl) (by kernel_rfl) (fun _ _ _ h => absurd h.1 (by simp)) (Or.inl ⟨by rfl, fun w9 _ => by rfl⟩) S4 ?_
            try simp only [Act.put, List.setIfInBounds_toArray, List.set_cons_zero, List.set_cons_succ]
            exact wpAnyH_done (by kernel_rfl) ⟨rfl, p, p1, S4, q4, rfl⟩ _
      · rw [if_pos (by rfl)]
        go_simp
        refine hK.out _ _ (S1.alloc S1.size _) (fun _ => ?_)
        clear hK K
        try simp only [Act.put, List.setIfInBounds_toArray, List.set_cons_zero, List.set_cons_succ]
        obtain ⟨p, hp⟩ : ∃ p, u1.heap.size = p := ⟨_, rfl⟩
        have p1 : W.heap.size ≤ p := by rw [← hp]; exact S1.size
        obtain ⟨u2, hu2⟩ : ∃ u, u1.alloc (.cells Z 56) = u := ⟨_, rfl⟩
        have q2 : u2.heap[p]? = some (.cells Z 56 (0, 0)) := by rw [← hu2, ← hp]; exact heap_at _ _ _ rfl
        have S2 : Below W.heap.size W u2 := by rw [← hu2]; exact S1.alloc S1.size _
        rw [hu2, hp]
        refine wpAnyH_ready (rs := [5]) (by kernel_rfl) (by simp) (AllReadyH.cons rfl (fun K hK => ?_) AllReadyH.nil)
        · rw [if_pos (by rfl)]
          go_simp
          refine (Hfd.out _).mono ?_
          rintro e u3 ⟨rfl, b3⟩
          have S3 : Below W.heap.size W u3 := S2.trans (b3.mono S2.size)
          have q3 := (b3.block _ (lt_of_row q2)).trans q2
          go_wp2_with fail
          refine hK.out _ _ S3 (fun _ => ?_)
          clear hK K
          try simp only [Act.put, List.setIfInBounds_toArray, List.set_cons_zero, List.set_cons_succ]
          refine wpAnyH_take (i := 6) (v := .tuple #[.agg D, .int .i64 0]) rfl (by kernel_rfl) (by kernel_rfl) (by kernel_rfl) (fun _ _ _ h => absurd h.1 (by simp)) (Or.inl ⟨by rfl, fun w9 _ => by rfl⟩) S3 ?_
          try simp only [Act.put, List.setIfInBounds_toArray, List.set_cons_zero, List.set_cons_succ]
          refine wpAnyH_take (i := 7) (v := .agg D) rfl (by kernel_rfl) (by kernel_rfl) (by kernel_rfl) (fun _ _ _ h => absurd h.1 (by simp)) (Or.inl ⟨by rfl, fun w9 _ => by rfl⟩) S3 ?_
          try simp only [Act.put, List.setIfInBounds_toArray, List.set_cons_zero, List.set_cons_succ]
          refine wpAnyH_take (i := 8) (v := .int .i64 0) rfl (by kernel_rfl) (by kernel_rfl) (by kernel_rfl) (fun _ _ _ h => absurd h.1 (by simp)) (Or.inl ⟨by rfl, fun w9 _ => by rfl⟩) S3 ?_
          try simp only [Act.put, List.setIfInBounds_toArray, List.set_cons_zero, List.set_cons_succ]
          refine wpAnyH_ready (rs := [10]) (by kernel_rfl) (by simp) (AllReadyH.cons rfl (fun K hK => ?_) AllReadyH.nil)
          · rw [if_pos (by rfl)]
            refine wp_store_row 56 _ _ rfl p D rfl rfl 56 _ q3 (by rw [Ds.out]; exact zHash) (by rw [Ds.out, HZs.out]) Do.out ?_
            refine hK.out _ _ (S3.trans (below_setRow _ _ _ p1)) (fun _ => ?_)
            clear hK K
            try simp only [Act.put, List.setIfInBounds_toArray, List.set_cons_zero, List.set_cons_succ]
            obtain ⟨u4, hu4⟩ : ∃ u, u3.setRow p D = u := ⟨_, rfl⟩
            have q4 : u4.heap[p]? = some (.cells D 56 (0, 0)) := by rw [← hu4]; exact setRow_heap _ _ _ _ _ _ q3
            have S4 : Below W.heap.size W u4 := by rw [← hu4]; exact S3.trans (below_setRow _ _ _ p1)
            rw [hu4]
            refine wpAnyH_take (i := 11) (v := .int .i64 0) rfl (by kernel_rfl) (by kernel_rfl) (by kernel_rfl) (fun _ _ _ h => absurd h.1 (by simp)) (Or.inl ⟨by rfl, fun w9 _ => by rfl⟩) S4 ?_
            try simp only [Act.put, List.setIfInBounds_toArray, List.set_cons_zero, List.set_cons_succ]
            exact wpAnyH_done (by kernel_rfl) ⟨rfl, p, p1, S4, q4, rfl⟩ _
    · rw [if_pos (by rfl)]
      go_simp
      refine hK.out _ _ (S0.alloc S0.size _) (fun _ => ?_)
      clear hK K
      try simp only [Act.put, List.setIfInBounds_toArray, List.set_cons_zero, List.set_cons_succ]
      obtain ⟨p, hp⟩ : ∃ p, u0.heap.size = p := ⟨_, rfl⟩
      have p1 : W.heap.size ≤ p := by rw [← hp]; exact S0.size
      obtain ⟨u1, hu1⟩ : ∃ u, u0.alloc (.cells Z 56) = u := ⟨_, rfl⟩
      have q1 : u1.heap[p]? = some (.cells Z 56 (0, 0)) := by rw [← hu1, ← hp]; exact heap_at _ _ _ rfl
      have S1 : Below W.heap.size W u1 := by rw [← hu1]; exact S0.alloc S0.size _
      rw [hu1, hp]
      refine wpAnyH_ready (rs := [3]) (by kernel_rfl) (by simp) (AllReadyH.cons rfl (fun K hK => ?_) AllReadyH.nil)
      · rw [if_pos (by rfl)]
        go_simp
        refine (Hst.out _).mono ?_
        rintro e u2 ⟨rfl, b2⟩
        have S2 : Below W.heap.size W u2 := S1.trans (b2.mono S1.size)
        have q2 := (b2.block _ (lt_of_row q1)).trans q1
        go_wp2_with fail
        refine hK.out _ _ S2 (fun _ => ?_)
        clear hK K
        try simp only [Act.put, List.setIfInBounds_toArray, List.set_cons_zero, List.set_cons_succ]
        refine wpAnyH_ready (rs := [5]) (by kernel_rfl) (by simp) (AllReadyH.cons rfl (fun K hK => ?_) AllReadyH.nil)
        · rw [if_pos (by rfl)]
          go_simp
          refine (Hfd.out _).mono ?_
          rintro e u3 ⟨rfl, b3⟩
          have S3 : Below W.heap.size W u3 := S2.trans (b3.mono S2.size)
          have q3 := (b3.block _ (lt_of_row q2)).trans q2
          go_wp2_with fail
          refine hK.out _ _ S3 (fun _ => ?_)
          clear hK K
          try simp only [Act.put, List.setIfInBounds_toArray, List.set_cons_zero, List.set_cons_succ]
          refine wpAnyH_take (i := 6) (v := .tuple #[.agg D, .int .i64 0]) rfl (by kernel_rfl) (by kernel_rfl) (by kernel_rfl) (fun _ _ _ h => absurd h.1 (by simp)) (Or.inl ⟨by rfl, fun w9 _ => by rfl⟩) S3 ?_
          try simp only [Act.put, List.setIfInBounds_toArray, List.set_cons_zero, List.set_cons_succ]
          refine wpAnyH_take (i := 7) (v := .agg D) rfl (by kernel_rfl) (by kernel_rfl) (by kernel_rfl) (fun _ _ _ h => absurd h.1 (by simp)) (Or.inl ⟨by rfl, fun w9 _ => by rfl⟩) S3 ?_
          try simp only [Act.put, List.setIfInBounds_toArray, List.set_cons_zero, List.set_cons_succ]
          refine wpAnyH_take (i := 8) (v := .int .i64 0) rfl (by kernel_rfl) (by kernel_rfl) (by kernel_rfl) (fun _ _ _ h => absurd h.1 (by simp)) (Or.inl ⟨by rfl, fun w9 _ => by rfl⟩) S3 ?_
          try simp only [Act.put, List.setIfInBounds_toArray, List.set_cons_zero, List.set_cons_succ]
          refine wpAnyH_ready (rs := [10]) (by kernel_rfl) (by simp) (AllReadyH.cons rfl (fun K hK => ?_) AllReadyH.nil)
          · rw [if_pos (by rfl)]
            refine wp_store_row 56 _ _ rfl p D rfl rfl 56 _ q3 (by rw [Ds.out]; exact zHash) (by rw [Ds.out, HZs.out]) Do.out ?_
            refine hK.out _ _ (S3.trans (below_setRow _ _ _ p1)) (fun _ => ?_)
            clear hK K
            try simp only [Act.put, List.setIfInBounds_toArray, List.set_cons_zero, List.set_cons_succ]
            obtain ⟨u4, hu4⟩ : ∃ u, u3.setRow p D = u := ⟨_, rfl⟩
            have q4 : u4.heap[p]? = some (.cells D 56 (0, 0)) := by rw [← hu4]; exact setRow_heap _ _ _ _ _ _ q3
            have S4 : Below W.heap.size W u4 := by rw [← hu4]; exact S3.trans (below_setRow _ _ _ p1)
            rw [hu4]
            refine wpAnyH_take (i := 11) (v := .int .i64 0) rfl (by kernel_rfl) (by kernel_rfl) (by kernel_rfl) (fun _ _ _ h => absurd h.1 (by simp)) (Or.inl ⟨by rfl, fun w9 _ => by rfl⟩) S4 ?_
            try simp only [Act.put, List.setIfInBounds_toArray, List.set_cons_zero, List.set_cons_succ]
            exact wpAnyH_done (by kernel_rfl) ⟨rfl, p, p1, S4, q4, rfl⟩ _

set_option maxRecDepth 100000 in
set_option maxHeartbeats 2000000 in
theorem mask_true (T : Array Value) (x : Wd) (s : ByteArray) (n : Int) (w : World) (h : TX T x) (hs : s.size ≤ 274877906944) :
    Calls Try.prog 13 #[.agg T, .bool true, .string s, .int .i64 n] w fun e w' => e = .returned (.string ⟨(ms x true s.data.toList n).toArray⟩) ∧ Below w.heap.size w w' := by
  have HTs : Away (T.size = 465) := ⟨h.size⟩
  have Hst : Away (∀ w1 : World, Calls Try.prog 33 #[.agg T, .bool true] w1 fun e w' => e = .returned (.agg (HX x true [])) ∧ Below w1.heap.size w1 w') := ⟨fun w1 => start_any T x true w1 h⟩
  have Hfd : Away (∀ w1 : World, Calls Try.prog 32 #[.agg T, .agg (HX x true []), .string s] w1 fun e w' => e = .returned (.tuple #[.agg (HX x true s.data.toList), .int .i64 0]) ∧ Below w1.heap.size w1 w') := ⟨fun w1 => by
    have hh := feed_any T x true [] s w1 h (by simpa using Nat.le_trans hs (by decide))
    rw [List.nil_append] at hh
    exact hh⟩
  have Hen : Away (∀ (k : Nat) (w1 : World), k ≤ 2000 → Calls Try.prog 36 #[.agg T, .agg (HX x true s.data.toList), .string ⟨(fixL k 4).toArray⟩] w1 fun e w' => e = .returned (.string ⟨(hx x true (s.data.toList ++ fixL k 4)).toArray⟩) ∧ Below w1.heap.size w1 w') := ⟨fun k w1 hk => by
    have hh := ended.ended_any T x true s.data.toList ⟨(fixL k 4).toArray⟩ w1 h (by
      show s.data.toList.length + (fixL k 4).toArray.size ≤ _
      rw [List.size_toArray, fixL_length]
      have e1 : s.data.toList.length = s.size := rfl
      omega)
    exact hh⟩
  have Hfx : Away (∀ (k : Nat) (w1 : World), k ≤ 2000 → Calls Try.prog 18 #[.int .u64 (k : Int), .int .i64 4] w1 fun e w' => e = .returned (.string ⟨(fixL k 4).toArray⟩) ∧ Below w1.heap.size w1 w') := ⟨fun k w1 hk => by
    have hh := fixed.fixed_any k 4 w1 (by omega)
    rw [show ((4 : Int)) = ((4 : Nat) : Int) from rfl, fixS_wd _ _ (by decide)] at hh
    exact hh⟩
  have Hmk : Away (∀ k, mk x true s.data.toList (k + 1) = mk x true s.data.toList k ++ hx x true (s.data.toList ++ fixL k 4)) := ⟨fun _ => rfl⟩
  have Hml : Away (∀ k, (mk x true s.data.toList k).length = 64 * k) := ⟨fun k => mk_length _ _ _ _⟩
  have Hxl : Away (∀ k, (hx x true (s.data.toList ++ fixL k 4)).length = 64) := ⟨fun k => hx_length _ _ _⟩
  have Hms : Away (ms x true s.data.toList n = (mk x true s.data.toList (((min n 50000).toNat + 63) / 64)).take n.toNat) := ⟨rfl⟩
  have Ds : Away ((HX x true s.data.toList).size = 19) := ⟨HX_size _ _ _⟩
  have Do : Away ((HX x true s.data.toList).all (·.oneCell') = true) := ⟨HX_one _ _ _⟩
  obtain ⟨C, hC⟩ : ∃ C, HX x true [] = C := ⟨_, rfl⟩
  obtain ⟨D, hD⟩ : ∃ D, HX x true s.data.toList = D := ⟨_, rfl⟩
  obtain ⟨M, hM⟩ : ∃ M, mk x true s.data.toList = M := ⟨_, rfl⟩
  obtain ⟨H, hH⟩ : ∃ H : Nat → List UInt8, (fun k => hx x true (s.data.toList ++ fixL k 4)) = H := ⟨_, rfl⟩
  have hH2 : ∀ k, hx x true (s.data.toList ++ fixL k 4) = H k := fun k => congrFun hH k
  obtain ⟨R, hR⟩ : ∃ R, ms x true s.data.toList n = R := ⟨_, rfl⟩
  rw [hC] at Hst Hfd
  rw [hD] at Hfd Hen Ds Do
  rw [hM] at Hmk Hml Hms
  simp only [hH2] at Hmk Hxl Hen
  rw [hR] at Hms ⊢
  clear hC hD hM hH hH2 hR h
  obtain ⟨Z, HZ⟩ := ex_eq (HC false V0 V0 ⟨#[]⟩ 0)
  have eZ : (#[.bool false, .int .u32 0, .int .u32 0, .int .u32 0, .int .u32 0, .int .u32 0, .int .u32 0, .int .u32 0, .int .u32 0, .int .u64 0, .int .u64 0, .int .u64 0, .int .u64 0, .int .u64 0, .int .u64 0, .int .u64 0, .int .u64 0, .string ⟨#[]⟩, .int .i64 0] : Array Value) = Z := by rw [← HZ.out]; rfl
  have HZs : Away (Z.size = 19) := ⟨by rw [← HZ.out]; rfl⟩
  clear HZ
  go_enter Try.func13, Try.ntmps13
  go_wp2_with fail
  obtain ⟨W, HW⟩ := ex_eq (w.alloc (.cells T 33))
  have E0 : Away (W.heap[w.heap.size]? = some (.cells T 33 (0, 0))) := ⟨by rw [← HW.out]; exact heap_at _ _ _ rfl⟩
  have zW : W.heap.size = w.heap.size + 1 := by rw [← HW.out]; simp
  have HbW : Away (Below w.heap.size w W) := ⟨by rw [← HW.out]; exact below_alloc w _⟩
  rw [HW.out]
  have HS : Away (∀ w' : World, Below W.heap.size W w' → w'.heap[w.heap.size]? = some (.cells T 33 (0, 0))) := ⟨fun w' hb => (hb.block _ (by omega)).trans E0.out⟩
  refine Code.wp_mono (Q := fun e a' w' => e = .normal ∧ ∃ p : Nat, W.heap.size ≤ p ∧ Below W.heap.size W w' ∧ w'.heap[p]? = some (.cells D 56 (0, 0)) ∧ a' = ⟨#[.agg T, .bool true, .string s, .int .i64 n, .pointer (some ⟨w.heap.size, 0, none⟩), undef, undef, undef, .string ⟨#[]⟩, .pointer (some ⟨p, 0, none⟩), .int .i64 0, undef, undef, .tuple #[.agg D, .int .i64 0], .agg T, .agg T, .bool true, .agg C, .string s, .tuple #[.agg D, .int .i64 0], .agg D, .int .i64 0, undef, undef, undef, undef, undef, undef, undef, undef, undef, undef, undef, undef, undef, undef, undef], []⟩) ?_ ?_
  · rintro e a' w1 ⟨rfl, p, hp, hb, hr, rfl⟩
    clear eZ
    dsimp only
    have H0 : Away (w1.heap[w.heap.size]? = some (.cells T 33 (0, 0))) := ⟨HS.out w1 hb⟩
    have Hr := Away.mk hr
    have hpl : p < w1.heap.size := lt_of_row hr
    have Hb : Away (Below w.heap.size w w1) := ⟨HbW.out.trans (hb.mono HbW.out.size)⟩
    have hfb := Lib.fresh_isBuilder 63 5 w1
    have Hfb : Away (Lib.IsBuilder 63 5 w1.heap.size w1.heap.size (Lib.byteCells (M 0)) (w1.alloc (.cells #[.pointer none, .slice none 0 0] 63))) := ⟨by
      have e0 : M 0 = [] := List.eq_nil_of_length_eq_zero ((Hml.out 0).trans (Nat.mul_zero _))
      rw [e0]; exact hfb⟩
    obtain ⟨N, hN⟩ : ∃ N, ((min n 50000).toNat + 63) / 64 = N := ⟨_, rfl⟩
    rw [hN] at Hms
    have hN2 : N ≤ 1600 := by omega
    clear hr hb hfb
    go_wp2_with fail
    go_loopw [12] (fun i wr => ∃ k : Nat, k ≤ N ∧ i = .int .u64 k ∧ Away (Lib.IsBuilder 63 5 w1.heap.size w1.heap.size (Lib.byteCells (M k)) wr) ∧ Away (Below w1.heap.size w1 wr) ∧ w1.heap.size ≤ wr.heap.size) (fun i _ => N - (intOf i).toNat)
    case atStart => exact ⟨0, Nat.zero_le _, rfl, ⟨Hfb.out⟩, ⟨(Below.refl _ _).alloc (Nat.le_refl _) _⟩, by simp⟩
    case round =>
      obtain ⟨k, hk, rfl, Hbd, Hbe, hz⟩ := hrel
      have Hlen : Away (Calls Try.prog 34 #[.pointer (some ⟨w1.heap.size, 0, none⟩)] wr fun e w' => e = .returned (.int .i64 ((64 * k : Nat) : Int)) ∧ w' = wr) := ⟨by
        have hh := shelf.builderLen w1.heap.size w1.heap.size _ wr Hbd.out
        rw [Lib.byteCells_length, Hml.out] at hh
        exact hh⟩
      have F0 : Away (wr.heap[w.heap.size]? = some (.cells T 33 (0, 0))) := ⟨(Hbe.out.block _ (lt_of_row H0.out)).trans H0.out⟩
      have F1 : Away (wr.heap[p]? = some (.cells D 56 (0, 0))) := ⟨(Hbe.out.block _ hpl).trans Hr.out⟩
      by_cases hlt : ((64 * k : Nat) : Int) < min n 50000
      · have hkN : k + 1 ≤ N := by omega
        have hd : decide (((64 * k : Nat) : Int) < min n 50000) = true := decide_eq_true hlt
        have HkN := Away.mk hkN
        have hk2 : k ≤ 1600 := by omega
        obtain ⟨q, hq⟩ : ∃ q : Nat, 64 * k = q := ⟨_, rfl⟩
        rw [hq] at Hlen hd hlt
        have Hmlk : Away ((M k).length = q) := ⟨(Hml.out k).trans hq⟩
        have hq2 : q ≤ 50000 := by omega
        clear hq hkN
        go_wp2_with fail
        refine Hlen.out.mono ?_
        rintro e w2 ⟨rfl, rfl⟩
        go_wp2_with fail
        refine region_below_tail 5 (by kernel_rfl) (by kernel_rfl) ?_
        refine wpQuiet_load rfl 33 _ rfl _ rfl 33 _ _ (fun w' hC => heap_regrown F0.out hC) Try.underlying33 rfl (by rw [HTs.out]; exact sizeT) ?_
        refine wpQuiet_load rfl 56 _ rfl _ rfl 56 _ _ (fun w' hC => heap_regrown F1.out hC) Try.underlying56 rfl (by rw [Ds.out]; exact zHash) ?_
        quiet_step (skip)
        quiet_step (exact Calls.regrown_of (Hfx.out k _ (by omega)))
        quiet_step (exact Calls.regrown_of (Hen.out k _ (by omega)))
        refine wpQuiet_nil ?_
        intro w3 hC
        have hb3 : Below w2.heap.size w2 w3 := by
          obtain ⟨pp, rfl⟩ := hC
          exact below_regrown _ _ _
        have Hb3 := Away.mk hb3
        have Hw : Away (Calls Try.prog 35 #[.pointer (some ⟨w1.heap.size, 0, none⟩), .string ⟨(H k).toArray⟩] w3 fun e w' => e = .returned (.tuple #[.int .i64 (⟨(H k).toArray⟩ : ByteArray).size, .nilIface]) ∧ (Lib.BuilderAt 63 5 w1.heap.size w1.heap.size (.pointer (some ⟨w1.heap.size, 0, none⟩)) (Lib.byteCells (M (k + 1))) w' ∧ Below w1.heap.size w3 w')) := ⟨by
          have hh := shelf.writeString w1.heap.size w1.heap.size (Lib.byteCells (M k)) ⟨(H k).toArray⟩ w3 (builder_later Hbd.out hb3) (by
            rw [Lib.byteCells_length, Hmlk.out]
            show q + (H k).toArray.size ≤ _
            rw [List.size_toArray, Hxl.out]
            omega) (Nat.le_trans hz hb3.size)
          rw [show Lib.strCells ⟨(H k).toArray⟩ = Lib.byteCells (H k) from rfl, ← Lib.byteCells_append, ← Hmk.out] at hh
          exact hh⟩
        have hz3 : w1.heap.size ≤ w3.heap.size := Nat.le_trans hz hb3.size
        clear hC hb3
        go_wp2_with fail
        refine Hw.out.mono ?_
        rintro e w4 ⟨rfl, hat, hb4⟩
        have Hat := Away.mk hat
        have Hb4 := Away.mk hb4
        have hz4 : w1.heap.size ≤ w4.heap.size := Nat.le_trans hz3 hb4.size
        clear hat hb4
        go_wp2_with fail
        go_roundw
        case rel => exact ⟨k + 1, HkN.out, by go_num, ⟨Or.inr Hat.out⟩, ⟨(Hbe.out.trans (Hb3.out.mono hz)).trans Hb4.out⟩, hz4⟩
        case measure => have := HkN.out; simp [intOf]; omega
      · obtain rfl : k = N := by omega
        have hd : decide (((64 * k : Nat) : Int) < min n 50000) = false := decide_eq_false hlt
        have hMl : (M k).length ≤ 102400 := by rw [Hml.out]; omega
        have Hst2 : Away (∀ w2, Lib.IsBuilder 63 5 w1.heap.size w1.heap.size (Lib.byteCells (M k)) w2 → w1.heap.size ≤ w2.heap.size → Calls Try.prog 37 #[.pointer (some ⟨w1.heap.size, 0, none⟩)] w2 fun e w' => e = .returned (.string ⟨(M k).toArray⟩) ∧ Below w1.heap.size w2 w') := ⟨fun w2 h1 h2 => shelf.toText w1.heap.size w1.heap.size (M k) w2 h1 h2⟩
        have Hct : Away (∀ w2 : World, Calls Try.prog 15 #[.string ⟨(M k).toArray⟩, .int .i64 n] w2 fun e w' => e = .returned (.string ⟨R.toArray⟩) ∧ Below w2.heap.size w2 w') := ⟨fun w2 => by
          rw [Hms.out]
          exact cut.cut_any ⟨(M k).toArray⟩ n w2 (by show (M k).toArray.size ≤ _; rw [List.size_toArray]; omega)⟩
        obtain ⟨q, hq⟩ : ∃ q : Nat, 64 * k = q := ⟨_, rfl⟩
        rw [hq] at Hlen hd hlt
        clear hq hMl
        go_wp2_with fail
        refine Hlen.out.mono ?_
        rintro e w2 ⟨rfl, rfl⟩
        go_wp2_with fail
        refine (Hst2.out _ Hbd.out hz).mono ?_
        rintro e w3 ⟨rfl, hb3⟩
        have hz3 : w1.heap.size ≤ w3.heap.size := Nat.le_trans hz hb3.size
        have Hb3 : Away (Below w1.heap.size w1 w3) := ⟨Hbe.out.trans hb3⟩
        clear hb3
        go_wp2_with fail
        refine (Hct.out _).mono ?_
        rintro e w4 ⟨rfl, hb4⟩
        have Hb4 : Away (Below w.heap.size w w4) := ⟨Hb.out.trans ((Hb3.out.trans (hb4.mono hz3)).mono Hb.out.size)⟩
        clear hb4
        go_wp2_with fail
        go_ret
        exact ⟨rfl, Hb4.out⟩
  · refine wp_region_held (S := fun w' => Below W.heap.size W w') (by kernel_rfl) ?_
    change wpAnyH _ _ _ _ _ _ _ _ W.drew
    obtain ⟨u0, hu0⟩ : ∃ u, W.drew = u := ⟨_, rfl⟩
    have S0 : Below W.heap.size W u0 := by rw [← hu0]; exact (Below.refl _ _).drew
    rw [hu0]
    clear hu0
    refine wpAnyH_take (i := 0) rfl (by kernel_rfl) (by kernel_rfl) (by kernel_rfl) (fun _ _ _ h => absurd h.1 (by simp)) (yieldsIf_load (by rfl) 33 _ rfl _ rfl 33 T _ HS.out Try.underlying33 rfl (by rw [HTs.out]; exact sizeT)) S0 ?_
    try simp only [Act.put, List.setIfInBounds_toArray, List.set_cons_zero, List.set_cons_succ]
    refine wpAnyH_take (i := 1) rfl (by kernel_rfl) (by kernel_rfl) (by kernel_rfl) (fun _ _ _ h => absurd h.1 (by simp)) (yieldsIf_load (by rfl) 33 _ rfl _ rfl 33 T _ HS.out Try.underlying33 rfl (by rw [HTs.out]; exact sizeT)) S0 ?_
    try simp only [Act.put, List.setIfInBounds_toArray, List.set_cons_zero, List.set_cons_succ]
    refine wpAnyH_take (i := 2) (v := .bool true) rfl (by kernel_rfl) (by kernel_rfl) (by kernel_rfl) (fun _ _ _ h => absurd h.1 (by simp)) (Or.inl ⟨by rfl, fun w9 _ => by rfl⟩) S0 ?_
    try simp only [Act.put, List.setIfInBounds_toArray, List.set_cons_zero, List.set_cons_succ]
    refine wpAnyH_take (i := 4) (v := .string s) rfl (by kernel_rfl) (by kernel_rfl) (by kernel_rfl) (fun _ _ _ h => absurd h.1 (by simp)) (Or.inl ⟨by rfl, fun w9 _ => by rfl⟩) S0 ?_
    try simp only [Act.put, List.setIfInBounds_toArray, List.set_cons_zero, List.set_cons_succ]
    refine wpAnyH_ready (rs := [3, 9]) (by kernel_rfl) (by simp) (AllReadyH.cons rfl (fun K hK => ?_) (AllReadyH.cons rfl (fun K hK => ?_) AllReadyH.nil))
    · rw [if_pos (by rfl)]
      go_simp
      refine (Hst.out _).mono ?_
      rintro e u1 ⟨rfl, b1⟩
      have S1 : Below W.heap.size W u1 := S0.trans (b1.mono S0.size)
      go_wp2_with fail
      refine hK.out _ _ S1 (fun _ => ?_)
      clear hK K
      try simp only [Act.put, List.setIfInBounds_toArray, List.set_cons_zero, List.set_cons_succ]
      refine wpAnyH_ready (rs := [5, 9]) (by kernel_rfl) (by simp) (AllReadyH.cons rfl (fun K hK => ?_) (AllReadyH.cons rfl (fun K hK => ?_) AllReadyH.nil))
      · rw [if_pos (by rfl)]
        go_simp
        refine (Hfd.out _).mono ?_
        rintro e u2 ⟨rfl, b2⟩
        have S2 : Below W.heap.size W u2 := S1.trans (b2.mono S1.size)
        go_wp2_with fail
        refine hK.out _ _ S2 (fun _ => ?_)
        clear hK K
        try simp only [Act.put, List.setIfInBounds_toArray, List.set_cons_zero, List.set_cons_succ]
        refine wpAnyH_take (i := 6) (v := .tuple #[.agg D, .int .i64 0]) rfl (by kernel_rfl) (by kernel_rfl) (by kernel_rfl) (fun _ _ _ h => absurd h.1 (by simp)) (Or.inl ⟨by rfl, fun w9 _ => by rfl⟩) S2 ?_
        try simp only [Act.put, List.setIfInBounds_toArray, List.set_cons_zero, List.set_cons_succ]
        refine wpAnyH_take (i := 7) (v := .agg D) rfl (by kernel_rfl) (by kernel_rfl) (by kernel_rfl) (fun _ _ _ h => absurd h.1 (by simp)) (Or.inl ⟨by rfl, fun w9 _ => by rfl⟩) S2 ?_
        try simp only [Act.put, List.setIfInBounds_toArray, List.set_cons_zero, List.set_cons_succ]
        refine wpAnyH_take (i := 8) (v := .int .i64 0) rfl (by kernel_rfl) (by kernel_rfl) (by kernel_rfl) (fun _ _ _ h => absurd h.1 (by simp)) (Or.inl ⟨by rfl, fun w9 _ => by rfl⟩) S2 ?_
        try simp only [Act.put, List.setIfInBounds_toArray, List.set_cons_zero, List.set_cons_succ]
        refine wpAnyH_ready (rs := [9]) (by kernel_rfl) (by simp) (AllReadyH.cons rfl (fun K hK => ?_) AllReadyH.nil)
        · rw [if_pos (by rfl)]
          go_simp
          refine hK.out _ _ (S2.alloc S2.size _) (fun _ => ?_)
          clear hK K
          try simp only [Act.put, List.setIfInBounds_toArray, List.set_cons_zero, List.set_cons_succ]
          obtain ⟨p, hp⟩ : ∃ p, u2.heap.size = p := ⟨_, rfl⟩
          have p1 : W.heap.size ≤ p := by rw [← hp]; exact S2.size
          obtain ⟨u3, hu3⟩ : ∃ u, u2.alloc (.cells Z 56) = u := ⟨_, rfl⟩
          have q3 : u3.heap[p]? = some (.cells Z 56 (0, 0)) := by rw [← hu3, ← hp]; exact heap_at _ _ _ rfl
          have S3 : Below W.heap.size W u3 := by rw [← hu3]; exact S2.alloc S2.size _
          rw [hu3, hp]
          refine wpAnyH_ready (rs := [10]) (by kernel_rfl) (by simp) (AllReadyH.cons rfl (fun K hK => ?_) AllReadyH.nil)
          · rw [if_pos (by rfl)]
            refine wp_store_row 56 _ _ rfl p D rfl rfl 56 _ q3 (by rw [Ds.out]; exact zHash) (by rw [Ds.out, HZs.out]) Do.out ?_
            refine hK.out _ _ (S3.trans (below_setRow _ _ _ p1)) (fun _ => ?_)
            clear hK K
            try simp only [Act.put, List.setIfInBounds_toArray, List.set_cons_zero, List.set_cons_succ]
            obtain ⟨u4, hu4⟩ : ∃ u, u3.setRow p D = u := ⟨_, rfl⟩
            have q4 : u4.heap[p]? = some (.cells D 56 (0, 0)) := by rw [← hu4]; exact setRow_heap _ _ _ _ _ _ q3
            have S4 : Below W.heap.size W u4 := by rw [← hu4]; exact S3.trans (below_setRow _ _ _ p1)
            rw [hu4]
            refine wpAnyH_take (i := 11) (v := .int .i64 0) rfl (by kernel_rfl) (by kernel_rfl) (by kernel_rfl) (fun _ _ _ h => absurd h.1 (by simp)) (Or.inl ⟨by rfl, fun w9 _ => by rfl⟩) S4 ?_
            try simp only [Act.put, List.setIfInBounds_toArray, List.set_cons_zero, List.set_cons_succ]
            exact wpAnyH_done (by kernel_rfl) ⟨rfl, p, p1, S4, q4, rfl⟩ _
      · rw [if_pos (by rfl)]
        go_simp
        refine hK.out _ _ (S1.alloc S1.size _) (fun _ => ?_)
        clear hK K
        try simp only [Act.put, List.setIfInBounds_toArray, List.set_cons_zero, List.set_cons_succ]
        obtain ⟨p, hp⟩ : ∃ p, u1.heap.size = p := ⟨_, rfl⟩
        have p1 : W.heap.size ≤ p := by rw [← hp]; exact S1.size
        obtain ⟨u2, hu2⟩ : ∃ u, u1.alloc (.cells Z 56) = u := ⟨_, rfl⟩
        have q2 : u2.heap[p]? = some (.cells Z 56 (0, 0)) := by rw [← hu2, ← hp]; exact heap_at _ _ _ rfl
        have S2 : Below W.heap.size W u2 := by rw [← hu2]; exact S1.alloc S1.size _
        rw [hu2, hp]
        refine wpAnyH_ready (rs := [5]) (by kernel_rfl) (by simp) (AllReadyH.cons rfl (fun K hK => ?_) AllReadyH.nil)
        · rw [if_pos (by rfl)]
          go_simp
          refine (Hfd.out _).mono ?_
          rintro e u3 ⟨rfl, b3⟩
          have S3 : Below W.heap.size W u3 := S2.trans (b3.mono S2.size)
          have q3 := (b3.block _ (lt_of_row q2)).trans q2
          go_wp2_with fail
          refine hK.out _ _ S3 (fun _ => ?_)
          clear hK K
          try simp only [Act.put, List.setIfInBounds_toArray, List.set_cons_zero, List.set_cons_succ]
          refine wpAnyH_take (i := 6) (v := .tuple #[.agg D, .int .i64 0]) rfl (by kernel_rfl) (by kernel_rfl) (by kernel_rfl) (fun _ _ _ h => absurd h.1 (by simp)) (Or.inl ⟨by rfl, fun w9 _ => by rfl⟩) S3 ?_
          try simp only [Act.put, List.setIfInBounds_toArray, List.set_cons_zero, List.set_cons_succ]
          refine wpAnyH_take (i := 7) (v := .agg D) rfl (by kernel_rfl) (by kernel_rfl) (by kernel_rfl) (fun _ _ _ h => absurd h.1 (by simp)) (Or.inl ⟨by rfl, fun w9 _ => by rfl⟩) S3 ?_
          try simp only [Act.put, List.setIfInBounds_toArray, List.set_cons_zero, List.set_cons_succ]
          refine wpAnyH_take (i := 8) (v := .int .i64 0) rfl (by kernel_rfl) (by kernel_rfl) (by kernel_rfl) (fun _ _ _ h => absurd h.1 (by simp)) (Or.inl ⟨by rfl, fun w9 _ => by rfl⟩) S3 ?_
          try simp only [Act.put, List.setIfInBounds_toArray, List.set_cons_zero, List.set_cons_succ]
          refine wpAnyH_ready (rs := [10]) (by kernel_rfl) (by simp) (AllReadyH.cons rfl (fun K hK => ?_) AllReadyH.nil)
          · rw [if_pos (by rfl)]
            refine wp_store_row 56 _ _ rfl p D rfl rfl 56 _ q3 (by rw [Ds.out]; exact zHash) (by rw [Ds.out, HZs.out]) Do.out ?_
            refine hK.out _ _ (S3.trans (below_setRow _ _ _ p1)) (fun _ => ?_)
            clear hK K
            try simp only [Act.put, List.setIfInBounds_toArray, List.set_cons_zero, List.set_cons_succ]
            obtain ⟨u4, hu4⟩ : ∃ u, u3.setRow p D = u := ⟨_, rfl⟩
            have q4 : u4.heap[p]? = some (.cells D 56 (0, 0)) := by rw [← hu4]; exact setRow_heap _ _ _ _ _ _ q3
            have S4 : Below W.heap.size W u4 := by rw [← hu4]; exact S3.trans (below_setRow _ _ _ p1)
            rw [hu4]
            refine wpAnyH_take (i := 11) (v := .int .i64 0) rfl (by kernel_rfl) (by kernel_rfl) (by kernel_rfl) (fun _ _ _ h => absurd h.1 (by simp)) (Or.inl ⟨by rfl, fun w9 _ => by rfl⟩) S4 ?_
            try simp only [Act.put, List.setIfInBounds_toArray, List.set_cons_zero, List.set_cons_succ]
            exact wpAnyH_done (by kernel_rfl) ⟨rfl, p, p1, S4, q4, rfl⟩ _
    · rw [if_pos (by rfl)]
      go_simp
      refine hK.out _ _ (S0.alloc S0.size _) (fun _ => ?_)
      clear hK K
      try simp only [Act.put, List.setIfInBounds_toArray, List.set_cons_zero, List.set_cons_succ]
      obtain ⟨p, hp⟩ : ∃ p, u0.heap.size = p := ⟨_, rfl⟩
      have p1 : W.heap.size ≤ p := by rw [← hp]; exact S0.size
      obtain ⟨u1, hu1⟩ : ∃ u, u0.alloc (.cells Z 56) = u := ⟨_, rfl⟩
      have q1 : u1.heap[p]? = some (.cells Z 56 (0, 0)) := by rw [← hu1, ← hp]; exact heap_at _ _ _ rfl
      have S1 : Below W.heap.size W u1 := by rw [← hu1]; exact S0.alloc S0.size _
      rw [hu1, hp]
      refine wpAnyH_ready (rs := [3]) (by kernel_rfl) (by simp) (AllReadyH.cons rfl (fun K hK => ?_) AllReadyH.nil)
      · rw [if_pos (by rfl)]
        go_simp
        refine (Hst.out _).mono ?_
        rintro e u2 ⟨rfl, b2⟩
        have S2 : Below W.heap.size W u2 := S1.trans (b2.mono S1.size)
        have q2 := (b2.block _ (lt_of_row q1)).trans q1
        go_wp2_with fail
        refine hK.out _ _ S2 (fun _ => ?_)
        clear hK K
        try simp only [Act.put, List.setIfInBounds_toArray, List.set_cons_zero, List.set_cons_succ]
        refine wpAnyH_ready (rs := [5]) (by kernel_rfl) (by simp) (AllReadyH.cons rfl (fun K hK => ?_) AllReadyH.nil)
        · rw [if_pos (by rfl)]
          go_simp
          refine (Hfd.out _).mono ?_
          rintro e u3 ⟨rfl, b3⟩
          have S3 : Below W.heap.size W u3 := S2.trans (b3.mono S2.size)
          have q3 := (b3.block _ (lt_of_row q2)).trans q2
          go_wp2_with fail
          refine hK.out _ _ S3 (fun _ => ?_)
          clear hK K
          try simp only [Act.put, List.setIfInBounds_toArray, List.set_cons_zero, List.set_cons_succ]
          refine wpAnyH_take (i := 6) (v := .tuple #[.agg D, .int .i64 0]) rfl (by kernel_rfl) (by kernel_rfl) (by kernel_rfl) (fun _ _ _ h => absurd h.1 (by simp)) (Or.inl ⟨by rfl, fun w9 _ => by rfl⟩) S3 ?_
          try simp only [Act.put, List.setIfInBounds_toArray, List.set_cons_zero, List.set_cons_succ]
          refine wpAnyH_take (i := 7) (v := .agg D) rfl (by kernel_rfl) (by kernel_rfl) (by kernel_rfl) (fun _ _ _ h => absurd h.1 (by simp)) (Or.inl ⟨by rfl, fun w9 _ => by rfl⟩) S3 ?_
          try simp only [Act.put, List.setIfInBounds_toArray, List.set_cons_zero, List.set_cons_succ]
          refine wpAnyH_take (i := 8) (v := .int .i64 0) rfl (by kernel_rfl) (by kernel_rfl) (by kernel_rfl) (fun _ _ _ h => absurd h.1 (by simp)) (Or.inl ⟨by rfl, fun w9 _ => by rfl⟩) S3 ?_
          try simp only [Act.put, List.setIfInBounds_toArray, List.set_cons_zero, List.set_cons_succ]
          refine wpAnyH_ready (rs := [10]) (by kernel_rfl) (by simp) (AllReadyH.cons rfl (fun K hK => ?_) AllReadyH.nil)
          · rw [if_pos (by rfl)]
            refine wp_store_row 56 _ _ rfl p D rfl rfl 56 _ q3 (by rw [Ds.out]; exact zHash) (by rw [Ds.out, HZs.out]) Do.out ?_
            refine hK.out _ _ (S3.trans (below_setRow _ _ _ p1)) (fun _ => ?_)
            clear hK K
            try simp only [Act.put, List.setIfInBounds_toArray, List.set_cons_zero, List.set_cons_succ]
            obtain ⟨u4, hu4⟩ : ∃ u, u3.setRow p D = u := ⟨_, rfl⟩
            have q4 : u4.heap[p]? = some (.cells D 56 (0, 0)) := by rw [← hu4]; exact setRow_heap _ _ _ _ _ _ q3
            have S4 : Below W.heap.size W u4 := by rw [← hu4]; exact S3.trans (below_setRow _ _ _ p1)
            rw [hu4]
            refine wpAnyH_take (i := 11) (v := .int .i64 0) rfl (by kernel_rfl) (by kernel_rfl) (by kernel_rfl) (fun _ _ _ h => absurd h.1 (by simp)) (Or.inl ⟨by rfl, fun w9 _ => by rfl⟩) S4 ?_
            try simp only [Act.put, List.setIfInBounds_toArray, List.set_cons_zero, List.set_cons_succ]
            exact wpAnyH_done (by kernel_rfl) ⟨rfl, p, p1, S4, q4, rfl⟩ _

theorem mask_any (T : Array Value) (x : Wd) (b : Bool) (s : ByteArray) (n : Int) (w : World) (h : TX T x) (hs : s.size ≤ 274877906944) :
    Calls Try.prog 13 #[.agg T, .bool b, .string s, .int .i64 n] w fun e w' => e = .returned (.string ⟨(ms x b s.data.toList n).toArray⟩) ∧ Below w.heap.size w w' := by
  cases b
  · exact mask_false T x s n w h hs
  · exact mask_true T x s n w h hs
end Go.Proofs.Ythfljfampfioaaa.mask
