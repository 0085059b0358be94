/-
  The statement BitsWrite (P10.1, P10.2, P10.4, P10.6): polynomials of any numbers as bytes, within any bounds, are what the document's own functions return. Conditions: none; for every input that the form speaks of.
-/
import Derived.Test.YtdlolhilmhlklaaRows
import Derived.Test.YtdlolhilmhlklaaAwake10
import Derived.Test.YtdlolhilmhlklaaRBSig
import Derived.Test.YtdlolhilmhlklaaRBHin
import Derived.Test.YtdlolhilmhlklaaOpenP
import Derived.Test.YtdlolhilmhlklaaBase
import Derived.ProofKit
import Derived.OpenShut
import Derived.Carry
namespace Go.Proofs.Ytdlolhilmhlklaa.l10w
open Go.ChangeShapes Go.WideShapes Go.ChangeAt Go.RowKit
open Go.Proofs.Ytdlolhilmhlklaa.arr Go.Proofs.Ytdlolhilmhlklaa.mem Go.Proofs.Ytdlolhilmhlklaa.stil Go.Proofs.Ytdlolhilmhlklaa.qops Go.Proofs.Ytdlolhilmhlklaa.polys Go.Proofs.Ytdlolhilmhlklaa.rbita Go.Proofs.Ytdlolhilmhlklaa.rbitd Go.Proofs.Ytdlolhilmhlklaa.rbite Go.Proofs.Ytdlolhilmhlklaa.rbith Go.Proofs.Ytdlolhilmhlklaa.openp
set_option linter.unusedVariables false
theorem own : ownKnob Try.prog.godebug = none := by kernel_rfl
theorem laidOut : laidOutB Try.prog = true := by kernel_rfl

theorem lies_later {w w' : World} {a : Option Addr} {n : Nat} {h : Nat → Nat → Int} (hl : Lies w a n h) (hb : Below w.heap.size w w') : Lies w' a n h := by
  rcases hl with h0 | ⟨g, o, ha, hg, hr⟩
  · exact Or.inl h0
  · exact Or.inr ⟨g, o, ha, Nat.lt_of_lt_of_le hg hb.size, fun i hi j v hv => (hb.cell (p := ⟨g, o + 256 * i + j, none⟩) hg).trans (hr i hi j v hv)⟩
theorem pack_both (f : Nat → Int) (a : Int) : ∃ (s : ByteArray) (c : Int), (∀ w : World, Calls Try.prog 7 #[.agg (FL .i64 256 f), .int .i64 a] w fun e w' => e = .returned (.tuple #[.string s, .int .i64 c]) ∧ Below w.heap.size w w') ∧
    ∀ w : World, Calls Try.prog 8 #[.agg (FL .i64 256 f), .int .i64 a] w fun e w' => e = .returned (.tuple #[.string s, .int .i64 c]) ∧ Below w.heap.size w w' := by
  by_cases h1 : 1 ≤ a ∧ a < 8380417
  · by_cases h2 : inb f a
    · refine ⟨packed f a, 0, fun w => ?_, fun w => ?_⟩
      · have h := ppack.pack_any f a w h1.1 h1.2
        rw [if_pos h2] at h
        exact h
      · have h := rbitd.pack_any f a w h1.1 h1.2
        rw [if_pos h2] at h
        exact h
    · refine ⟨⟨#[]⟩, 6, fun w => ?_, fun w => ?_⟩
      · have h := ppack.pack_any f a w h1.1 h1.2
        rw [if_neg h2] at h
        exact h
      · have h := rbitd.pack_any f a w h1.1 h1.2
        rw [if_neg h2] at h
        exact h
  · exact ⟨⟨#[]⟩, 1, fun w => ppack.pack_bad f a w h1, fun w => rbitd.pack_bad f a w (by omega)⟩
theorem signed_both (f : Nat → Int) (a b : Int) : ∃ (s : ByteArray) (c : Int), (∀ w : World, Calls Try.prog 9 #[.agg (FL .i64 256 f), .int .i64 a, .int .i64 b] w fun e w' => e = .returned (.tuple #[.string s, .int .i64 c]) ∧ Below w.heap.size w w') ∧
    ∀ w : World, Calls Try.prog 10 #[.agg (FL .i64 256 f), .int .i64 a, .int .i64 b] w fun e w' => e = .returned (.tuple #[.string s, .int .i64 c]) ∧ Below w.heap.size w w' := by
  by_cases h1 : 0 ≤ a ∧ a < 4190208 ∧ 1 ≤ b ∧ b < 4190208
  · by_cases h2 : ins f a b
    · refine ⟨packed (sg f b) (a + b), 0, fun w => ?_, fun w => ?_⟩
      · have h := psig.signed_any f a b w h1.1 h1.2.1 h1.2.2.1 h1.2.2.2
        rw [if_pos h2] at h
        exact h
      · have h := rbite.signed_any f a b w h1.1 h1.2.2.1 h1.2.1 h1.2.2.2
        rw [if_pos h2] at h
        exact h
    · refine ⟨⟨#[]⟩, 6, fun w => ?_, fun w => ?_⟩
      · have h := psig.signed_any f a b w h1.1 h1.2.1 h1.2.2.1 h1.2.2.2
        rw [if_neg h2] at h
        exact h
      · have h := rbite.signed_any f a b w h1.1 h1.2.2.1 h1.2.1 h1.2.2.2
        rw [if_neg h2] at h
        exact h
  · exact ⟨⟨#[]⟩, 1, fun w => psig.signed_bad f a b w h1, fun w => rbite.signed_bad f a b w (by omega)⟩
theorem hints_both (p : Option Addr) (n c : Nat) (q : Nat → Nat → Int) (om : Int) : ∃ (s : ByteArray) (k : Int), (∀ w : World, Lies w p n q → Calls Try.prog 11 #[.slice p n c, .int .i64 om] w fun e w' => e = .returned (.tuple #[.string s, .int .i64 k]) ∧ Below w.heap.size w w') ∧
    ∀ w : World, Lies w p n q → Calls Try.prog 12 #[.slice p n c, .int .i64 om] w fun e w' => e = .returned (.tuple #[.string s, .int .i64 k]) ∧ Below w.heap.size w w' := by
  by_cases h1 : om < 1 ∨ 255 < om ∨ n < 1 ∨ 8 < n
  · exact ⟨⟨#[]⟩, 1, fun w _ => phin.hints_bad p n c om w h1, fun w _ => rbith.hints_bad p n c om w h1⟩
  · obtain ⟨m, rfl⟩ : ∃ m : Nat, om = (m : Int) := ⟨om.toNat, by omega⟩
    by_cases h2 : tot q n ≤ m
    · refine ⟨⟨(rbitb.u8s (lay q m n n)).toArray⟩, 0, fun w hl => ?_, fun w hl => ?_⟩
      · rcases hl with h0 | ⟨g, o, rfl, hg, hr⟩
        · omega
        · have h := phin.hints_any q g o c n m w hg (by omega) (by omega) (by omega) (by omega) hr
          rw [if_pos h2] at h
          exact h
      · rcases hl with h0 | ⟨g, o, rfl, hg, hr⟩
        · omega
        · have h := rbith.hints_any q g o c n m w hg (by omega) (by omega) (by omega) (by omega) hr
          rw [if_pos h2] at h
          exact h
    · refine ⟨⟨#[]⟩, 6, fun w hl => ?_, fun w hl => ?_⟩
      · rcases hl with h0 | ⟨g, o, rfl, hg, hr⟩
        · omega
        · have h := phin.hints_any q g o c n m w hg (by omega) (by omega) (by omega) (by omega) hr
          rw [if_neg h2] at h
          exact h
      · rcases hl with h0 | ⟨g, o, rfl, hg, hr⟩
        · omega
        · have h := rbith.hints_any q g o c n m w hg (by omega) (by omega) (by omega) (by omega) hr
          rw [if_neg h2] at h
          exact h
set_option maxRecDepth 100000 in
set_option maxHeartbeats 4000000 in
theorem walk_far (p : Option Addr) (n c : Nat) (f : Nat → Int) (x y z : Int) (w : World) (h : 12 < n) :
    Calls Try.prog 3 #[.slice p n c, .agg (FL .i64 256 f), .agg #[.int .i64 x, .int .i64 y, .int .i64 z]] w fun e w' => e = .returned (.bool true) ∧ Below w.heap.size w w' := by
  have HA := Away.mk (fun w1 => awake10.awake_any w1)
  have hz : (12 : Int) < (n : Int) := by omega
  obtain ⟨F, HF⟩ := ex_eq (FL .i64 256 f)
  rw [HF.out]
  obtain ⟨W, hW⟩ : ∃ x_1, (w.alloc (.cells F 24)).alloc (.cells #[.int .i64 x, .int .i64 y, .int .i64 z] 25) = x_1 := ⟨_, rfl⟩
  obtain ⟨-, -, -, b0⟩ := polt.two hW
  have B0 := Away.mk b0
  have HW := Away.mk hW
  clear hW b0 h
  go_enter Try.func3, Try.ntmps3
  go_wp2_with (rw [HW.out])
  refine (HA.out _).mono ?_
  rintro e w8 ⟨rfl, hb8⟩
  have BZ : Away (Below w.heap.size w w8) := ⟨B0.out.trans (hb8.mono B0.out.size)⟩
  clear hb8
  go_wp2_with fail
  go_ret
  exact ⟨rfl, BZ.out⟩
set_option maxRecDepth 100000 in
set_option maxHeartbeats 8000000 in
theorem walk_near (p : Option Addr) (n c : Nat) (q : Nat → Nat → Int) (f : Nat → Int) (x y z : Int) (w : World) (h : n ≤ 12) (hl : Lies w p n q) (hy : y < 9223372036854775808) :
    Calls Try.prog 3 #[.slice p n c, .agg (FL .i64 256 f), .agg #[.int .i64 x, .int .i64 y, .int .i64 z]] w fun e w' => e = .returned (.bool true) ∧ Below w.heap.size w w' := by
  have HA := Away.mk (fun w1 => awake10.awake_any w1)
  have hz : ¬ (12 : Int) < (n : Int) := by omega
  obtain ⟨s1, e1, p1, p2⟩ := pack_both f x
  obtain ⟨s2, e2, g1, g2⟩ := signed_both f y z
  obtain ⟨s3, e3, k1, k2⟩ := hints_both p n c q x
  obtain ⟨wd, hwd⟩ : ∃ wd, lb y.toNat = wd := ⟨_, rfl⟩
  have HL1 : Away (∀ w1 : World, Calls Try.prog 13 #[.int .i64 y] w1 fun e w' => e = .returned (.int .i64 (wd : Int)) ∧ Below w1.heap.size w1 w') := ⟨fun w1 => by rw [← hwd]; exact (plong.long_any y hy w1).mono fun _ _ h => ⟨h.1, by rw [h.2]; exact Below.refl _ _⟩⟩
  have HL2 : Away (∀ w1 : World, Calls Try.prog 14 #[.int .i64 y] w1 fun e w' => e = .returned (.int .i64 (wd : Int)) ∧ Below w1.heap.size w1 w') := ⟨fun w1 => by rw [← hwd]; exact (rbita.long_any y hy w1).mono fun _ _ h => ⟨h.1, by rw [h.2]; exact Below.refl _ _⟩⟩
  have Fi : Away ((Try.prog.info? 24).map (·.size) = some (FL .i64 256 f).size) := ⟨by rw [fl_size]; exact sizeP⟩
  obtain ⟨F, HF⟩ := ex_eq (FL .i64 256 f)
  rw [HF.out] at p1 p2 g1 g2 Fi ⊢
  have P1 := Away.mk p1
  have P2 := Away.mk p2
  have G1 := Away.mk g1
  have G2 := Away.mk g2
  have K1 := Away.mk k1
  have K2 := Away.mk k2
  obtain ⟨W, hW⟩ : ∃ x_1, (w.alloc (.cells F 24)).alloc (.cells #[.int .i64 x, .int .i64 y, .int .i64 z] 25) = x_1 := ⟨_, rfl⟩
  obtain ⟨r0, r1, -, b0⟩ := polt.two hW
  have R0 : Away (W.heap[w.heap.size]? = some (.cells F 24 (0, 0))) := ⟨r0⟩
  have S0 : Away (W.heap[w.heap.size + 1]? = some (.cells #[.int .i64 x, .int .i64 y, .int .i64 z] 25 (0, 0))) := ⟨r1⟩
  have L0 : Away (Lies W p n q) := ⟨lies_later hl b0⟩
  have B0 := Away.mk b0
  have HW := Away.mk hW
  have c0 : W.cell? ⟨w.heap.size + 1, 0, none⟩ = some (.int .i64 x) := cell_at r1 rfl
  have c1 : W.cell? ⟨w.heap.size + 1, 1, none⟩ = some (.int .i64 y) := cell_at r1 rfl
  have c2 : W.cell? ⟨w.heap.size + 1, 2, none⟩ = some (.int .i64 z) := cell_at r1 rfl
  clear hW r0 r1 b0 h hl p1 p2 g1 g2 k1 k2 HF hwd
  go_enter Try.func3, Try.ntmps3
  go_wp2_with (first
    | (rw [HW.out])
    | (refine wpList_load_row rfl 24 _ rfl w.heap.size rfl 24 F (0, 0) _ R0.out Try.underlying24 rfl Fi.out ?_))
  refine (P1.out _).mono ?_
  rintro e w1 ⟨rfl, hb⟩
  have R1 : Away (w1.heap[w.heap.size]? = some (.cells F 24 (0, 0))) := ⟨(hb.block _ (lt_of_row R0.out)).trans R0.out⟩
  have S1 : Away (w1.heap[w.heap.size + 1]? = some (.cells #[.int .i64 x, .int .i64 y, .int .i64 z] 25 (0, 0))) := ⟨(hb.block _ (lt_of_row S0.out)).trans S0.out⟩
  have L1 : Away (Lies w1 p n q) := ⟨lies_later L0.out hb⟩
  have B1 : Away (Below w.heap.size w w1) := ⟨B0.out.trans (hb.mono B0.out.size)⟩
  clear hb R0 S0 L0 B0 c0 c1 c2
  have c0 : w1.cell? ⟨w.heap.size + 1, 0, none⟩ = some (.int .i64 x) := cell_at S1.out rfl
  have c1 : w1.cell? ⟨w.heap.size + 1, 1, none⟩ = some (.int .i64 y) := cell_at S1.out rfl
  have c2 : w1.cell? ⟨w.heap.size + 1, 2, none⟩ = some (.int .i64 z) := cell_at S1.out rfl
  go_wp2_with (refine wpList_load_row rfl 24 _ rfl w.heap.size rfl 24 F (0, 0) _ R1.out Try.underlying24 rfl Fi.out ?_)
  refine (P2.out _).mono ?_
  rintro e w2 ⟨rfl, hb⟩
  have R2 : Away (w2.heap[w.heap.size]? = some (.cells F 24 (0, 0))) := ⟨(hb.block _ (lt_of_row R1.out)).trans R1.out⟩
  have S2 : Away (w2.heap[w.heap.size + 1]? = some (.cells #[.int .i64 x, .int .i64 y, .int .i64 z] 25 (0, 0))) := ⟨(hb.block _ (lt_of_row S1.out)).trans S1.out⟩
  have L2 : Away (Lies w2 p n q) := ⟨lies_later L1.out hb⟩
  have B2 : Away (Below w.heap.size w w2) := ⟨B1.out.trans (hb.mono B1.out.size)⟩
  clear hb R1 S1 L1 B1 c0 c1 c2
  have c0 : w2.cell? ⟨w.heap.size + 1, 0, none⟩ = some (.int .i64 x) := cell_at S2.out rfl
  have c1 : w2.cell? ⟨w.heap.size + 1, 1, none⟩ = some (.int .i64 y) := cell_at S2.out rfl
  have c2 : w2.cell? ⟨w.heap.size + 1, 2, none⟩ = some (.int .i64 z) := cell_at S2.out rfl
  go_wp2_with (refine wpList_load_row rfl 24 _ rfl w.heap.size rfl 24 F (0, 0) _ R2.out Try.underlying24 rfl Fi.out ?_)
  refine (G1.out _).mono ?_
  rintro e w3 ⟨rfl, hb⟩
  have R3 : Away (w3.heap[w.heap.size]? = some (.cells F 24 (0, 0))) := ⟨(hb.block _ (lt_of_row R2.out)).trans R2.out⟩
  have S3 : Away (w3.heap[w.heap.size + 1]? = some (.cells #[.int .i64 x, .int .i64 y, .int .i64 z] 25 (0, 0))) := ⟨(hb.block _ (lt_of_row S2.out)).trans S2.out⟩
  have L3 : Away (Lies w3 p n q) := ⟨lies_later L2.out hb⟩
  have B3 : Away (Below w.heap.size w w3) := ⟨B2.out.trans (hb.mono B2.out.size)⟩
  clear hb R2 S2 L2 B2 c0 c1 c2
  have c0 : w3.cell? ⟨w.heap.size + 1, 0, none⟩ = some (.int .i64 x) := cell_at S3.out rfl
  have c1 : w3.cell? ⟨w.heap.size + 1, 1, none⟩ = some (.int .i64 y) := cell_at S3.out rfl
  have c2 : w3.cell? ⟨w.heap.size + 1, 2, none⟩ = some (.int .i64 z) := cell_at S3.out rfl
  go_wp2_with (refine wpList_load_row rfl 24 _ rfl w.heap.size rfl 24 F (0, 0) _ R3.out Try.underlying24 rfl Fi.out ?_)
  refine (G2.out _).mono ?_
  rintro e w4 ⟨rfl, hb⟩
  have R4 : Away (w4.heap[w.heap.size]? = some (.cells F 24 (0, 0))) := ⟨(hb.block _ (lt_of_row R3.out)).trans R3.out⟩
  have S4 : Away (w4.heap[w.heap.size + 1]? = some (.cells #[.int .i64 x, .int .i64 y, .int .i64 z] 25 (0, 0))) := ⟨(hb.block _ (lt_of_row S3.out)).trans S3.out⟩
  have L4 : Away (Lies w4 p n q) := ⟨lies_later L3.out hb⟩
  have B4 : Away (Below w.heap.size w w4) := ⟨B3.out.trans (hb.mono B3.out.size)⟩
  clear hb R3 S3 L3 B3 c0 c1 c2
  have c0 : w4.cell? ⟨w.heap.size + 1, 0, none⟩ = some (.int .i64 x) := cell_at S4.out rfl
  have c1 : w4.cell? ⟨w.heap.size + 1, 1, none⟩ = some (.int .i64 y) := cell_at S4.out rfl
  have c2 : w4.cell? ⟨w.heap.size + 1, 2, none⟩ = some (.int .i64 z) := cell_at S4.out rfl
  go_wp2_with (refine wpList_load_row rfl 24 _ rfl w.heap.size rfl 24 F (0, 0) _ R4.out Try.underlying24 rfl Fi.out ?_)
  refine (K1.out _ L4.out).mono ?_
  rintro e w5 ⟨rfl, hb⟩
  have R5 : Away (w5.heap[w.heap.size]? = some (.cells F 24 (0, 0))) := ⟨(hb.block _ (lt_of_row R4.out)).trans R4.out⟩
  have S5 : Away (w5.heap[w.heap.size + 1]? = some (.cells #[.int .i64 x, .int .i64 y, .int .i64 z] 25 (0, 0))) := ⟨(hb.block _ (lt_of_row S4.out)).trans S4.out⟩
  have L5 : Away (Lies w5 p n q) := ⟨lies_later L4.out hb⟩
  have B5 : Away (Below w.heap.size w w5) := ⟨B4.out.trans (hb.mono B4.out.size)⟩
  clear hb R4 S4 L4 B4 c0 c1 c2
  have c0 : w5.cell? ⟨w.heap.size + 1, 0, none⟩ = some (.int .i64 x) := cell_at S5.out rfl
  have c1 : w5.cell? ⟨w.heap.size + 1, 1, none⟩ = some (.int .i64 y) := cell_at S5.out rfl
  have c2 : w5.cell? ⟨w.heap.size + 1, 2, none⟩ = some (.int .i64 z) := cell_at S5.out rfl
  go_wp2_with (refine wpList_load_row rfl 24 _ rfl w.heap.size rfl 24 F (0, 0) _ R5.out Try.underlying24 rfl Fi.out ?_)
  refine (K2.out _ L5.out).mono ?_
  rintro e w6 ⟨rfl, hb⟩
  have R6 : Away (w6.heap[w.heap.size]? = some (.cells F 24 (0, 0))) := ⟨(hb.block _ (lt_of_row R5.out)).trans R5.out⟩
  have S6 : Away (w6.heap[w.heap.size + 1]? = some (.cells #[.int .i64 x, .int .i64 y, .int .i64 z] 25 (0, 0))) := ⟨(hb.block _ (lt_of_row S5.out)).trans S5.out⟩
  have L6 : Away (Lies w6 p n q) := ⟨lies_later L5.out hb⟩
  have B6 : Away (Below w.heap.size w w6) := ⟨B5.out.trans (hb.mono B5.out.size)⟩
  clear hb R5 S5 L5 B5 c0 c1 c2
  have c0 : w6.cell? ⟨w.heap.size + 1, 0, none⟩ = some (.int .i64 x) := cell_at S6.out rfl
  have c1 : w6.cell? ⟨w.heap.size + 1, 1, none⟩ = some (.int .i64 y) := cell_at S6.out rfl
  have c2 : w6.cell? ⟨w.heap.size + 1, 2, none⟩ = some (.int .i64 z) := cell_at S6.out rfl
  go_wp2_with (refine wpList_load_row rfl 24 _ rfl w.heap.size rfl 24 F (0, 0) _ R6.out Try.underlying24 rfl Fi.out ?_)
  have cq : ∀ d os, (Go.Sort.grow (redrawn w6 d) os).cell? ⟨w.heap.size + 1, 1, none⟩ = some (.int .i64 y) := fun d os => cell_at (heap_regrown S6.out ⟨⟨d, os⟩, rfl⟩) rfl
  refine region_quiet_ops (by kernel_rfl) (by kernel_rfl) (fun ops HO => ?_)
  quiet_step (skip)
  quiet_step (skip)
  quiet_step (skip)
  quiet_step (skip)
  refine wpQuiet_want (by rw [← HO.out]; kernel_rfl) (fun K hK => ?_)
  go_simp
  refine hK _ ?_
  clear hK K
  refine wpQuiet_want (by rw [← HO.out]; kernel_rfl) (fun K hK => ?_)
  go_simp
  refine hK _ ?_
  clear hK K
  refine wpQuiet_want (by rw [← HO.out]; kernel_rfl) (fun K hK => ?_)
  go_simp
  refine hK _ ?_
  clear hK K
  quiet_step (skip)
  quiet_step (skip)
  refine wpQuiet_want (by rw [← HO.out]; kernel_rfl) (fun K hK => ?_)
  go_simp
  refine hK _ ?_
  clear hK K
  refine wpQuiet_want (by rw [← HO.out]; kernel_rfl) (fun K hK => ?_)
  go_simp
  refine hK _ ?_
  clear hK K
  refine wpQuiet_want (by rw [← HO.out]; kernel_rfl) (fun K hK => ?_)
  go_simp
  refine hK _ ?_
  clear hK K
  quiet_step (skip)
  quiet_step (skip)
  refine wpQuiet_want (by rw [← HO.out]; kernel_rfl) (fun K hK => ?_)
  go_simp
  refine hK _ ?_
  clear hK K
  refine wpQuiet_want (by rw [← HO.out]; kernel_rfl) (fun K hK => ?_)
  go_simp
  refine hK _ ?_
  clear hK K
  refine wpQuiet_want (by rw [← HO.out]; kernel_rfl) (fun K hK => ?_)
  go_simp
  refine hK _ ?_
  clear hK K
  quiet_step (skip)
  quiet_step (skip)
  refine wpQuiet_want (by rw [← HO.out]; kernel_rfl) (fun K hK => ?_)
  go_simp
  refine hK _ ?_
  clear hK K
  refine wpQuiet_want (by rw [← HO.out]; kernel_rfl) (fun K hK => ?_)
  go_simp
  refine hK _ ?_
  clear hK K
  refine wpQuiet_want (by rw [← HO.out]; kernel_rfl) (fun K hK => ?_)
  go_simp
  refine hK _ ?_
  clear hK K
  quiet_step (skip)
  quiet_step (skip)
  refine wpQuiet_want (by rw [← HO.out]; kernel_rfl) (fun K hK => ?_)
  go_simp
  refine hK _ ?_
  clear hK K
  refine wpQuiet_want (by rw [← HO.out]; kernel_rfl) (fun K hK => ?_)
  go_simp
  refine hK _ ?_
  clear hK K
  refine wpQuiet_want (by rw [← HO.out]; kernel_rfl) (fun K hK => ?_)
  go_simp
  refine hK _ ?_
  clear hK K
  quiet_step (skip)
  quiet_step (skip)
  refine wpQuiet_want (by rw [← HO.out]; kernel_rfl) (fun K hK => ?_)
  go_simp
  refine hK _ ?_
  clear hK K
  refine wpQuiet_want (by rw [← HO.out]; kernel_rfl) (fun K hK => ?_)
  go_simp
  refine hK _ ?_
  clear hK K
  refine wpQuiet_want (by rw [← HO.out]; kernel_rfl) (fun K hK => ?_)
  go_simp
  apply Exists.intro
  refine ⟨fun _ => ?_, hK _ ?_⟩
  exact Calls.regrown_of (HL1.out _)
  clear hK K
  refine wpQuiet_want (by rw [← HO.out]; kernel_rfl) (fun K hK => ?_)
  go_simp
  refine hK _ ?_
  clear hK K
  refine wpQuiet_want (by rw [← HO.out]; kernel_rfl) (fun K hK => ?_)
  go_simp
  refine hK _ ?_
  clear hK K
  refine wpQuiet_want (by rw [← HO.out]; kernel_rfl) (fun K hK => ?_)
  go_simp
  apply Exists.intro
  refine ⟨fun _ => ?_, hK _ ?_⟩
  exact Calls.regrown_of (HL2.out _)
  clear hK K
  refine wpQuiet_want (by rw [← HO.out]; kernel_rfl) (fun K hK => ?_)
  go_simp
  refine hK _ ?_
  clear hK K
  quiet_step (skip)
  quiet_step (skip)
  refine wpQuiet_want (by rw [← HO.out]; kernel_rfl) (fun K hK => ?_)
  go_simp
  apply Exists.intro
  refine ⟨fun _ => ?_, hK _ ?_⟩
  exact Calls.regrown_of (HA.out _)
  clear hK K
  quiet_step (skip)
  quiet_step (skip)
  refine wpQuiet_nil ?_
  intro w7 hC
  have BZ : Away (Below w.heap.size w w7) := ⟨B6.out.trans (by obtain ⟨pp, rfl⟩ := hC; exact (below_regrown _ _ _).mono B6.out.size)⟩
  clear hC
  go_wp2_with fail
  go_ret
  exact ⟨rfl, BZ.out⟩
theorem walk (p : Option Addr) (n c : Nat) (q : Nat → Nat → Int) (f : Nat → Int) (x y z : Int) (w : World) (hl : Lies w p n q) (hf : ∀ i, i < 256 → (Lit.int .i64 (f i)).wf = true) (hx : (Lit.int .i64 x).wf = true) (hy : (Lit.int .i64 y).wf = true) (hz : (Lit.int .i64 z).wf = true) :
    Calls Try.prog 3 #[.slice p n c, .agg (FL .i64 256 f), .agg #[.int .i64 x, .int .i64 y, .int .i64 z]] w fun e w' => e = .returned (.bool true) ∧ Below w.heap.size w w' := by
  by_cases h : 12 < n
  · exact walk_far p n c f x y z w h
  · have h0 : IntKind.i64.min ≤ y ∧ y ≤ 9223372036854775807 := by simpa [Lit.wf] using hy
    exact walk_near p n c q f x y z w (by omega) hl (by have := h0.2; omega)
/-! ### The row -/
set_option maxRecDepth 100000 in
theorem lifted (os : Os) (started : os.Started) (H : Type) (enc : TypeId × Value → H) :
    ReturnsInHanded {} Try.checked os 3 .any (Rows.bitsWriteSpec.pre6 enc Try.prog Try.f3 Rows.bitsWriteRow.domain false) (Rows.bitsWriteSpec.post enc Try.prog Try.f3 false true false false) := by
  refine returnsInHanded_of_change (C := Try.checked) own started (by kernel_rfl) Try.func3
    (ChangeSpec.witness6 (enc := enc) (C := Try.checked) false ⟨#[], #[.slice none 0 0, .agg (polys.FL .i64 256 fun _ => 0), .agg #[.int .i64 0, .int .i64 0, .int .i64 0]], []⟩ 8 (by kernel_rfl) (by kernel_rfl) (by kernel_rfl) (by kernel_rfl)) ?_
  intro W base args ds gs before hval0 hW hcnd _
  have hval : ∀ (j : Nat) t v, Try.f3.params[j]? = some t → args[j]? = some v → Value.okWide Try.prog W .any base t v := hval0
  have hW' := hW
  have hlt := hW.lt
  obtain ⟨p, q, hA0, hV, rfl, hfz, hnd⟩ := hW
  have hA : DataW.TrodAll enc Try.prog W 0 (fun _ => true) true Try.f3.params.toList args.toList ds p := hA0
  rw [Try.params3] at hA hval
  obtain ⟨v0, vs0, d0, ds0, p0, q0, hargs, rfl, rfl, h0, r0⟩ := trodAll_cons hA
  obtain ⟨v1, vs1, d1, ds1, p1, q1, rfl, rfl, rfl, h1, r1⟩ := trodAll_cons r0
  obtain ⟨v2, vs2, d2, ds2, p2, q2, rfl, rfl, rfl, h2, r2⟩ := trodAll_cons r1
  obtain ⟨rfl, rfl, rfl⟩ := trodAll_nil r2
  obtain rfl : args = #[v0, v1, v2] := by cases args; simp_all
  obtain ⟨rfl, rfl⟩ := trodVars_none hV
  obtain ⟨a0, n0, c0, Q0, rfl, w0⟩ := openp.open_polys (hval 0 22 v0 rfl rfl) h0
  obtain ⟨a1, rfl, w1⟩ := polys.open_fl (n := 256) (k := .i64) Try.underlying24 Try.underlying3 (by kernel_rfl) (by kernel_rfl) (hval 1 24 v1 rfl rfl) h1
  obtain ⟨a2, b2, c2, rfl, wa2, wb2, wc2⟩ := opens.open_ints3 Try.underlying25 Try.underlying3 (by kernel_rfl) (by kernel_rfl) (hval 2 25 v2 rfl rfl) h2
  clear hA0 hval0
  refine (walk a0 n0 c0 Q0 a1 a2 b2 c2 W w0 w1 wa2 wb2 wc2).mono fun e W' ⟨he, bel⟩ => ?_
  subst he
  exact ⟨_, rfl, _, _, _, [], _, [], hW', trodAll_mk1 (shut_bool Try.underlying4 _), (trodAll_cons_mk (Below.trod laidOut (by kernel_rfl) (of_decide_eq_true (by kernel_rfl)) h0 bel (fun x hx => by first | exact absurd hx (by simp) | exact hlt x (by simpa using hx) | exact hlt x (by simp; exact Or.inl hx) | exact hlt x (by simp; exact Or.inr hx) | exact hlt x (by simp; exact Or.inr (Or.inl hx)) | exact hlt x (by simp; exact Or.inr (Or.inr hx)))) (trodAll_cons_mk (Below.trod laidOut (by kernel_rfl) (of_decide_eq_true (by kernel_rfl)) h1 bel (fun x hx => by first | exact absurd hx (by simp) | exact hlt x (by simpa using hx) | exact hlt x (by simp; exact Or.inl hx) | exact hlt x (by simp; exact Or.inr hx) | exact hlt x (by simp; exact Or.inr (Or.inl hx)) | exact hlt x (by simp; exact Or.inr (Or.inr hx)))) (trodAll_cons_mk (Below.trod laidOut (by kernel_rfl) (of_decide_eq_true (by kernel_rfl)) h2 bel (fun x hx => by first | exact absurd hx (by simp) | exact hlt x (by simpa using hx) | exact hlt x (by simp; exact Or.inl hx) | exact hlt x (by simp; exact Or.inr hx) | exact hlt x (by simp; exact Or.inr (Or.inl hx)) | exact hlt x (by simp; exact Or.inr (Or.inr hx)))) trodAll_mk0))), rfl, bel.frame _, fun h => by cases h⟩

theorem over : Rows.bitsWriteRow.holds Try.pinned (OpenSpec.ofChange Rows.bitsWriteSpec) :=
  OpenClaim.holds_of_wide 3 Try.f3 rfl rfl rfl rfl rfl rfl rfl ⟨rfl, rfl, rfl, rfl, rfl⟩ rfl rfl rfl rfl rfl (by kernel_rfl) Try.func3 (by kernel_rfl)
    (of_decide_eq_true (by kernel_rfl)) (by unfold Func.isWrapper; first | (rw [if_pos (by decide +kernel)]; kernel_rfl) | (rw [if_neg (by decide +kernel)]; exact ⟨rfl, rfl⟩))
    (fun os started H enc _ => lifted os started H enc)

theorem proved : Rows.BitsWriteSaid :=
  over
end Go.Proofs.Ytdlolhilmhlklaa.l10w
