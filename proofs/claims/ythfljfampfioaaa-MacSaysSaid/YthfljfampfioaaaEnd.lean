/-
  What sha's end returns: the bytes of the words of a hasher after the padding; memory that was there before stays as it was. Conditions: the words have their bits, the total and the rest are within the document's bounds.
-/
import Derived.Test.YthfljfampfioaaaPad
namespace Go.Proofs.Ythfljfampfioaaa.ends
open Go.RowKit
open Go.Proofs.Ythfljfampfioaaa.oct Go.Proofs.Ythfljfampfioaaa.mem Go.Proofs.Ythfljfampfioaaa.arr Go.Proofs.Ythfljfampfioaaa.sham Go.Proofs.Ythfljfampfioaaa.block Go.Proofs.Ythfljfampfioaaa.thru Go.Proofs.Ythfljfampfioaaa.pad

/-- the bytes of words of n bytes each -/
def flat (n : Nat) (l : List Nat) : List UInt8 := l.flatMap fun x => fixL x n
theorem flat_length (n : Nat) (l : List Nat) : (flat n l).length = n * l.length := by
  induction l with
  | nil => rfl
  | cons x r ih => rw [flat, List.flatMap_cons, List.length_append, fixL_length]; rw [flat] at ih; rw [ih, List.length_cons]; rw [Nat.mul_succ]; omega
theorem flat_snoc (n : Nat) (l : List Nat) (x : Nat) : flat n (l ++ [x]) = flat n l ++ fixL x n := by simp [flat]
theorem take_snocN (l : List Nat) (k : Nat) (h : k < l.length) : l.take (k + 1) = l.take k ++ [l.getD k 0] := by
  rw [List.take_add_one, List.getD_eq_getElem?_getD, List.getElem?_eq_getElem h]; rfl
theorem fix8 (x : Nat) : fixL x 8 = fixL (x / 4294967296) 4 ++ fixL (x % 4294967296) 4 := by
  have e8 : fixL x 8 = [byteAt x 7, byteAt x 6, byteAt x 5, byteAt x 4, byteAt x 3, byteAt x 2, byteAt x 1, byteAt x 0] := rfl
  have e4 : ∀ y, fixL y 4 = [byteAt y 3, byteAt y 2, byteAt y 1, byteAt y 0] := fun _ => rfl
  rw [e8, e4, e4]
  have h : ∀ a i b j, a / 256 ^ i % 256 = b / 256 ^ j % 256 → byteAt a i = byteAt b j := fun a i b j h => by
    apply UInt8.toNat_inj.1; rw [byteAt_toNat, byteAt_toNat, h]
  simp only [List.cons_append, List.nil_append, List.cons.injEq, and_true]
  refine ⟨h _ _ _ _ ?_, h _ _ _ _ ?_, h _ _ _ _ ?_, h _ _ _ _ ?_, h _ _ _ _ ?_, h _ _ _ _ ?_, h _ _ _ _ ?_, h _ _ _ _ ?_⟩ <;> simp only [Nat.reducePow] <;> omega
/-- a string out of a row of the call's own -/
theorem conv_row {w : World} {base : Nat} {v : Value} {n : Nat} {l : List UInt8} (hn : l.length = n) (h0 : n ≠ 0) (h : w.ownsRow base 5 1 v n (Lib.byteCells l)) :
    (convert 52 9 v).run Try.prog w = .ok (.string ⟨l.toArray⟩) w := by
  subst hn
  rcases h.2 with ⟨-, h2⟩ | ⟨g, cap, cur, rfl, -, -, -, -, -, -⟩
  · exact absurd h2 h0
  · refine run_convert_bytes_back (P := Try.prog) w 52 9 5 ⟨g, 0, none⟩ cap l Try.underlying52 Try.underlying5 Try.underlying9 (fun j hj => ?_)
    have := h.cellAt j (by omega)
    rw [bits8.addr_add, this]
    simp [Lib.byteCells, hj]
theorem size32 (w : World) : Calls Try.prog 54 #[.bool false] w fun e w' => e = .returned (.int .i64 64) ∧ w' = w := size_any false w
theorem size64 (w : World) : Calls Try.prog 54 #[.bool true] w fun e w' => e = .returned (.int .i64 128) ∧ w' = w := size_any true w
theorem zHash : (Try.prog.info? 56).map (·.size) = some 19 := by kernel_rfl
theorem z8_32 : (Try.prog.info? 25).map (·.size) = some 8 := by kernel_rfl
theorem z8_64 : (Try.prog.info? 28).map (·.size) = some 8 := by kernel_rfl

/-! ### 32 bits -/
/-- the words at the end -/
def en32 (K : List Nat) (v : V8) (r : List UInt8) (n : Nat) : V8 := run32 K v (r ++ tail n 64) ((r ++ tail n 64).length / 64)

set_option maxRecDepth 100000 in
set_option maxHeartbeats 4000000 in
theorem end32 (gt : Nat) (K : List Nat) (T : Array Value) (sm lg : V8) (r : ByteArray) (n : Nat) (w : World) (hv : sm.lt 4294967296) (hK : ∀ i, K.getD i 0 < 4294967296)
    (ht : w.heap[gt]? = some (.cells T 33 (0, 0))) (hT : ∀ i, i < 64 → T[0 + i]? = some (.int .u32 ((K.getD i 0 : Nat) : Int))) (hn : n ≤ 1125899906842624) (hr : r.size ≤ 1099511627000) :
    Calls Try.prog 66 #[.pointer (some ⟨gt, 0, none⟩), .agg (HC false sm lg r n)] w fun e w' => e = .returned (.string ⟨(flat 4 (en32 K sm r.data.toList n).l).toArray⟩) ∧ Below w.heap.size w w' := by
  have hlt := lt_of_row ht
  obtain ⟨A, HA⟩ := ex_eq (HC false sm lg r n)
  rw [HA.out]
  have a17 : A[17]? = some (.string r) := by rw [← HA.out]; rfl
  have a18 : A[18]? = some (.int .i64 (n : Int)) := by rw [← HA.out]; rfl
  have a0 : A[0]? = some (.bool false) := by rw [← HA.out]; rfl
  have Hs : Away (A.size = 19) := ⟨by rw [← HA.out]; rfl⟩
  obtain ⟨w0, Hw0⟩ := ex_eq (w.alloc (.cells A 56))
  have g0 : w0.heap[w.heap.size]? = some (.cells A 56 (0, 0)) := by rw [← Hw0.out]; exact heap_at _ _ _ rfl
  have c17 : w0.cell? ⟨w.heap.size, 17, none⟩ = some (.string r) := (cell_of_row w0 _ _ _ _ (0, 0) g0).trans a17
  have c18 : w0.cell? ⟨w.heap.size, 18, none⟩ = some (.int .i64 (n : Int)) := (cell_of_row w0 _ _ _ _ (0, 0) g0).trans a18
  have c0 : w0.cell? ⟨w.heap.size, 0, none⟩ = some (.bool false) := (cell_of_row w0 _ _ _ _ (0, 0) g0).trans a0
  have hb0 : Below w.heap.size w w0 := by rw [← Hw0.out]; exact below_alloc _ _
  have hs0 : w0.heap.size = w.heap.size + 1 := by rw [← Hw0.out]; simp
  have Hb0 := Away.mk hb0
  have G0 := Away.mk g0
  have hbk := bk_le64 n
  have htl : (tail n 64).length ≤ 200 := by rw [tail_length _ _ (by omega)]; omega
  have hps : (⟨(r.data.toList ++ tail n 64).toArray⟩ : ByteArray).size ≤ 1099511627776 := by
    show (r.data.toList ++ tail n 64).toArray.size ≤ _
    rw [List.size_toArray, List.length_append]
    have : r.data.toList.length = r.size := rfl
    omega
  have Hthr : Away (∀ w1 : World, Below w0.heap.size w0 w1 → Calls Try.prog 55 #[.pointer (some ⟨gt, 0, none⟩), .pointer (some ⟨w.heap.size, 0, none⟩), .string ⟨(r.data.toList ++ tail n 64).toArray⟩] w1 fun e w' => (∃ b : ByteArray, e = .returned (.string b)) ∧ At w.heap.size (HC false (en32 K sm r.data.toList n) lg r n) 56 w1 w') := ⟨fun w1 hb1 =>
    (through32 gt w.heap.size K T sm lg r n ⟨(r.data.toList ++ tail n 64).toArray⟩ w1 hv hK ((hb1.block gt (by omega)).trans ((hb0.block gt hlt).trans ht)) hT ((hb1.block _ (by omega)).trans (by rw [HA.out]; exact g0)) (by omega) hps).mono fun e w' h => by
      obtain ⟨⟨b, h1, -⟩, h2⟩ := h
      exact ⟨⟨b, h1⟩, h2⟩⟩
  have Hpad := Away.mk (fun w1 : World => padded64 r n w1 hn (by omega))
  obtain ⟨V, HV⟩ := ex_eq (en32 K sm r.data.toList n)
  have hvl : V.lt 4294967296 := by rw [← HV.out]; exact run_lt32 _ _ _ hv _
  rw [show (HC false (en32 K sm r.data.toList n) lg r n) = (HC false V lg r n) from by rw [← HV.out]] at Hthr
  obtain ⟨P, HP⟩ := ex_eq (r.data.toList ++ tail n 64)
  rw [HP.out] at Hthr Hpad
  obtain ⟨C, HC'⟩ := ex_eq (HC false V lg r n)
  have cC17 : C[17]? = some (.string r) := by rw [← HC'.out]; rfl
  have cC18 : C[18]? = some (.int .i64 (n : Int)) := by rw [← HC'.out]; rfl
  have cC0 : C[0]? = some (.bool false) := by rw [← HC'.out]; rfl
  have HCr : Away (∀ i, i < 8 → C[1 + i]? = some (.int .u32 ((V.l.getD i 0 : Nat) : Int))) := ⟨fun i hi => by rw [← HC'.out]; exact hc32 _ _ _ _ _ i hi⟩
  rw [HC'.out] at Hthr
  obtain ⟨L, HL⟩ := ex_eq V.l
  have HLl : Away (L.length = 8) := ⟨by rw [← HL.out]; rfl⟩
  have hLb : ∀ i, L.getD i 0 < 4294967296 := by rw [← HL.out]; exact hvl.get (by decide)
  have HLb := Away.mk hLb
  rw [HL.out] at HCr
  have Hout : Away (flat 4 (en32 K sm r.data.toList n).l = flat 4 L) := ⟨by rw [HV.out, HL.out]⟩
  rw [Hout.out]
  obtain ⟨O, HO⟩ := ex_eq (flat 4 L)
  rw [HO.out]
  have HOl : Away (O.length = 8 * 4) := ⟨by rw [← HO.out, flat_length, HLl.out, Nat.mul_comm]⟩
  obtain ⟨i0, hi, hz0, hz1, hz2⟩ := info_parts infoByte
  have HI := Away.mk (And.intro hi (And.intro hz0 (And.intro hz1 hz2)))
  clear hi hz0 hz1 hz2 hLb hvl hps htl hbk hK hT ht hv a17 a18 a0 hb0 g0 HA hlt Hout HC' HV HL
  go_enter Try.func66, Try.ntmps66
  go_wp2_with fail
  rw [Hw0.out]
  have hs17 := fun (w1 : World) (h : Below w0.heap.size w0 w1) => (h.cell (p := ⟨w.heap.size, 17, none⟩) (by show w.heap.size < _; omega)).trans c17
  have hs18 := fun (w1 : World) (h : Below w0.heap.size w0 w1) => (h.cell (p := ⟨w.heap.size, 18, none⟩) (by show w.heap.size < _; omega)).trans c18
  have hs0 := fun (w1 : World) (h : Below w0.heap.size w0 w1) => (h.cell (p := ⟨w.heap.size, 0, none⟩) (by show w.heap.size < _; omega)).trans c0
  have HS := Away.mk (And.intro hs17 (And.intro hs18 hs0))
  clear hs17 hs18 hs0
  go_region_held3 (fun w' : World => w'.cell? ⟨w.heap.size, 17, none⟩ = some (.string r) ∧ w'.cell? ⟨w.heap.size, 18, none⟩ = some (.int .i64 (n : Int)) ∧ w'.cell? ⟨w.heap.size, 0, none⟩ = some (.bool false)) (first | exact ⟨c17, c18, c0⟩ | exact S1 | exact S2 | assumption) (first
    | (go_at_call 54; refine Calls.mono (size32 _) ?_; rintro e w1 ⟨rfl, rfl⟩)
    | (go_at_call 75; refine Calls.mono (Hpad.out _) ?_; rintro e w1 ⟨rfl, hb1⟩; have Hb1 : Away (Below w0.heap.size w0 w1) := ⟨⟨hb1.os, hb1.tape, hb1.output, hb1.size, hb1.block⟩⟩; have S1 := And.intro (HS.out.1 w1 Hb1.out) (And.intro (HS.out.2.1 w1 Hb1.out) (HS.out.2.2 w1 Hb1.out)))
    | (go_at_call 55; refine Calls.mono (Hthr.out w1 Hb1.out) ?_; rintro e w2 ⟨⟨b, rfl⟩, hA⟩; have S2 := And.intro ((hA.cell 17).trans cC17) (And.intro ((hA.cell 18).trans cC18) ((hA.cell 0).trans cC0))))
  have z1 := Hb1.out.size
  have z2 := hA.size
  have Hw2 : Away (Below w.heap.size w w2) := ⟨Hb0.out.trans ((Hb1.out.mono (by omega)).trans (hA.below (by omega) (Nat.le_refl _)))⟩
  have HA := Away.mk hA
  clear S1 S2
  have c0' : w2.cell? ⟨w.heap.size, 0, none⟩ = some (.bool false) := by rw [hA.cell]; exact cC0
  clear hA hb1 c17 c18 c0
  go_wp2_with (at_make; refine wpList_make_own _ rfl _ _ 52 rfl w2.heap.size 5 i0 (.int .u8 0) 1 Try.underlying52 HI.out.1 HI.out.2.1 HI.out.2.2.1 .i64 .i64 64 64 rfl rfl rfl (by rw [HI.out.2.2.2]; decide) (by decide) (Nat.le_refl _) ?_)
  intro w3 hown hgr
  have hb3 : Below w2.heap.size w2 w3 := (Below.refl _ _).grown hgr (Nat.le_refl _) (fun k hk => by simp at hk)
  have Hb3 := Away.mk hb3
  have Hown := Away.mk hown
  have c03 : w3.cell? ⟨w.heap.size, 0, none⟩ = some (.bool false) := by rw [hb3.cell (p := ⟨w.heap.size, 0, none⟩) (by show w.heap.size < _; omega)]; exact c0'
  have Hrg : Away (w3.rangeAt w.heap.size 1 (LK .u32 L).toList) := ⟨fun j v hj => by
    have hj8 : j < 8 := by
      by_cases h8 : j < 8
      · exact h8
      · rw [List.getElem?_eq_none (by rw [Array.length_toList, lk_size, HLl.out]; omega)] at hj; cases hj
    rw [hb3.cell (p := ⟨w.heap.size, 1 + j, none⟩) (by show w.heap.size < _; omega), HA.out.cell, HCr.out j hj8, ← hj, Array.getElem?_toList, lk_get _ _ _ (by rw [HLl.out]; exact hj8)]⟩
  clear hown hgr hb3 c0'
  go_wp2_with (refine wpList_load_mid rfl 25 _ rfl w.heap.size 1 rfl (LK .u32 L).toList _ Hrg.out Try.underlying25 rfl (by rw [Array.length_toList, lk_size, HLl.out]; exact z8_32) ?_)
  go_loopw [5, 41] (fun v i wr => ∃ k : Nat, k ≤ 8 ∧ i = .int .i64 k ∧ Away (wr.ownsRow w2.heap.size 5 1 v (4 * k) (Lib.byteCells (flat 4 (L.take k)))) ∧ Away (Below w2.heap.size w2 wr)) (fun _ i _ => 8 - (intOf i).toNat)
  case atStart => exact ⟨0, by decide, rfl, Hown, Hb3⟩
  case round =>
    obtain ⟨k, hk, rfl, Ho, Hb⟩ := hrel
    by_cases hlt : k < 8
    · have hag : ∀ w : World, (Instr.index 25 (.agg (LK .u32 L)) (.int .i64 (k : Int))).run Try.prog w = .ok (.int .u32 ((L.getD k 0 : Nat) : Int)) w := idx.index32 L k HLl.out hlt
      have bx := HLb.out k
      have Hsn : Away (flat 4 (L.take (k + 1)) = flat 4 (L.take k) ++ fixL (L.getD k 0) 4) := ⟨by rw [take_snocN L k (by rw [HLl.out]; exact hlt), flat_snoc]⟩
      obtain ⟨x, hx⟩ : ∃ x, L.getD k 0 = x := ⟨_, rfl⟩
      rw [hx] at hag bx Hsn
      clear hx
      have hbs := Hb.out.size
      go_wp2_with fail
      refine (written_any _ w2.heap.size (4 * k) x _ wr bx Ho.out hbs (by omega)).mono ?_
      rintro e w4 ⟨v', rfl, ho4, hb4⟩
      have Hown2 : Away (w4.ownsRow w2.heap.size 5 1 v' (4 * (k + 1)) (Lib.byteCells (flat 4 (L.take (k + 1))))) := ⟨by
        rw [Hsn.out, Lib.byteCells_append, show 4 * (k + 1) = 4 * k + 4 by omega]; exact ho4⟩
      have Hb2 : Away (Below w2.heap.size w2 w4) := ⟨Hb.out.trans hb4⟩
      clear ho4 hb4
      go_wp2_with fail
      go_roundw
      case rel => exact ⟨k + 1, by omega, by go_num, Hown2, Hb2⟩
      case measure => simp [intOf]; omega
    · obtain rfl : k = 8 := by omega
      have hO := Ho.out
      rw [List.take_of_length_le (by rw [HLl.out]; decide), HO.out] at hO
      have hcv := conv_row (by rw [HOl.out, Nat.mul_comm]) (by decide) hO
      have Hb2 : Away (Below w.heap.size w wr) := ⟨Hw2.out.trans (Hb.out.mono (by omega))⟩
      clear hO
      go_wp2_with fail
      go_ret
      exact ⟨rfl, Hb2.out⟩

/-! ### 64 bits -/
/-- the words at the end -/
def en64 (K : List Nat) (v : V8) (r : List UInt8) (n : Nat) : V8 := run64 K v (r ++ tail n 128) ((r ++ tail n 128).length / 128)

set_option maxRecDepth 100000 in
set_option maxHeartbeats 4000000 in
theorem end64 (gt : Nat) (K : List Nat) (T : Array Value) (sm lg : V8) (r : ByteArray) (n : Nat) (w : World) (hv : lg.lt 18446744073709551616) (hK : ∀ i, K.getD i 0 < 18446744073709551616)
    (ht : w.heap[gt]? = some (.cells T 33 (0, 0))) (hT : ∀ i, i < 80 → T[72 + i]? = some (.int .u64 ((K.getD i 0 : Nat) : Int))) (hn : n ≤ 1125899906842624) (hr : r.size ≤ 1099511627000) :
    Calls Try.prog 66 #[.pointer (some ⟨gt, 0, none⟩), .agg (HC true sm lg r n)] w fun e w' => e = .returned (.string ⟨(flat 8 (en64 K lg r.data.toList n).l).toArray⟩) ∧ Below w.heap.size w w' := by
  have hlt := lt_of_row ht
  obtain ⟨A, HA⟩ := ex_eq (HC true sm lg r n)
  rw [HA.out]
  have a17 : A[17]? = some (.string r) := by rw [← HA.out]; rfl
  have a18 : A[18]? = some (.int .i64 (n : Int)) := by rw [← HA.out]; rfl
  have a0 : A[0]? = some (.bool true) := by rw [← HA.out]; rfl
  have Hs : Away (A.size = 19) := ⟨by rw [← HA.out]; rfl⟩
  obtain ⟨w0, Hw0⟩ := ex_eq (w.alloc (.cells A 56))
  have g0 : w0.heap[w.heap.size]? = some (.cells A 56 (0, 0)) := by rw [← Hw0.out]; exact heap_at _ _ _ rfl
  have c17 : w0.cell? ⟨w.heap.size, 17, none⟩ = some (.string r) := (cell_of_row w0 _ _ _ _ (0, 0) g0).trans a17
  have c18 : w0.cell? ⟨w.heap.size, 18, none⟩ = some (.int .i64 (n : Int)) := (cell_of_row w0 _ _ _ _ (0, 0) g0).trans a18
  have c0 : w0.cell? ⟨w.heap.size, 0, none⟩ = some (.bool true) := (cell_of_row w0 _ _ _ _ (0, 0) g0).trans a0
  have hb0 : Below w.heap.size w w0 := by rw [← Hw0.out]; exact below_alloc _ _
  have hs0 : w0.heap.size = w.heap.size + 1 := by rw [← Hw0.out]; simp
  have Hb0 := Away.mk hb0
  have G0 := Away.mk g0
  have hbk := bk_le128 n
  have htl : (tail n 128).length ≤ 200 := by rw [tail_length _ _ (by omega)]; omega
  have hps : (⟨(r.data.toList ++ tail n 128).toArray⟩ : ByteArray).size ≤ 1099511627776 := by
    show (r.data.toList ++ tail n 128).toArray.size ≤ _
    rw [List.size_toArray, List.length_append]
    have : r.data.toList.length = r.size := rfl
    omega
  have Hthr : Away (∀ w1 : World, Below w0.heap.size w0 w1 → Calls Try.prog 55 #[.pointer (some ⟨gt, 0, none⟩), .pointer (some ⟨w.heap.size, 0, none⟩), .string ⟨(r.data.toList ++ tail n 128).toArray⟩] w1 fun e w' => (∃ b : ByteArray, e = .returned (.string b)) ∧ At w.heap.size (HC true sm (en64 K lg r.data.toList n) r n) 56 w1 w') := ⟨fun w1 hb1 =>
    (through64 gt w.heap.size K T sm lg r n ⟨(r.data.toList ++ tail n 128).toArray⟩ w1 hv hK ((hb1.block gt (by omega)).trans ((hb0.block gt hlt).trans ht)) hT ((hb1.block _ (by omega)).trans (by rw [HA.out]; exact g0)) (by omega) hps).mono fun e w' h => by
      obtain ⟨⟨b, h1, -⟩, h2⟩ := h
      exact ⟨⟨b, h1⟩, h2⟩⟩
  have Hpad := Away.mk (fun w1 : World => padded128 r n w1 hn (by omega))
  obtain ⟨V, HV⟩ := ex_eq (en64 K lg r.data.toList n)
  have hvl : V.lt 18446744073709551616 := by rw [← HV.out]; exact run_lt64 _ _ _ hv _
  rw [show (HC true sm (en64 K lg r.data.toList n) r n) = (HC true sm V r n) from by rw [← HV.out]] at Hthr
  obtain ⟨P, HP⟩ := ex_eq (r.data.toList ++ tail n 128)
  rw [HP.out] at Hthr Hpad
  obtain ⟨C, HC'⟩ := ex_eq (HC true sm V r n)
  have cC17 : C[17]? = some (.string r) := by rw [← HC'.out]; rfl
  have cC18 : C[18]? = some (.int .i64 (n : Int)) := by rw [← HC'.out]; rfl
  have cC0 : C[0]? = some (.bool true) := by rw [← HC'.out]; rfl
  have HCr : Away (∀ i, i < 8 → C[9 + i]? = some (.int .u64 ((V.l.getD i 0 : Nat) : Int))) := ⟨fun i hi => by rw [← HC'.out]; exact hc64 _ _ _ _ _ i hi⟩
  rw [HC'.out] at Hthr
  obtain ⟨L, HL⟩ := ex_eq V.l
  have HLl : Away (L.length = 8) := ⟨by rw [← HL.out]; rfl⟩
  have hLb : ∀ i, L.getD i 0 < 18446744073709551616 := by rw [← HL.out]; exact hvl.get (by decide)
  have HLb := Away.mk hLb
  rw [HL.out] at HCr
  have Hout : Away (flat 8 (en64 K lg r.data.toList n).l = flat 8 L) := ⟨by rw [HV.out, HL.out]⟩
  rw [Hout.out]
  obtain ⟨O, HO⟩ := ex_eq (flat 8 L)
  rw [HO.out]
  have HOl : Away (O.length = 8 * 8) := ⟨by rw [← HO.out, flat_length, HLl.out, Nat.mul_comm]⟩
  obtain ⟨i0, hi, hz0, hz1, hz2⟩ := info_parts infoByte
  have HI := Away.mk (And.intro hi (And.intro hz0 (And.intro hz1 hz2)))
  clear hi hz0 hz1 hz2 hLb hvl hps htl hbk hK hT ht hv a17 a18 a0 hb0 g0 HA hlt Hout HC' HV HL
  go_enter Try.func66, Try.ntmps66
  go_wp2_with fail
  rw [Hw0.out]
  have hs17 := fun (w1 : World) (h : Below w0.heap.size w0 w1) => (h.cell (p := ⟨w.heap.size, 17, none⟩) (by show w.heap.size < _; omega)).trans c17
  have hs18 := fun (w1 : World) (h : Below w0.heap.size w0 w1) => (h.cell (p := ⟨w.heap.size, 18, none⟩) (by show w.heap.size < _; omega)).trans c18
  have hs0 := fun (w1 : World) (h : Below w0.heap.size w0 w1) => (h.cell (p := ⟨w.heap.size, 0, none⟩) (by show w.heap.size < _; omega)).trans c0
  have HS := Away.mk (And.intro hs17 (And.intro hs18 hs0))
  clear hs17 hs18 hs0
  go_region_held3 (fun w' : World => w'.cell? ⟨w.heap.size, 17, none⟩ = some (.string r) ∧ w'.cell? ⟨w.heap.size, 18, none⟩ = some (.int .i64 (n : Int)) ∧ w'.cell? ⟨w.heap.size, 0, none⟩ = some (.bool true)) (first | exact ⟨c17, c18, c0⟩ | exact S1 | exact S2 | assumption) (first
    | (go_at_call 54; refine Calls.mono (size64 _) ?_; rintro e w1 ⟨rfl, rfl⟩)
    | (go_at_call 75; refine Calls.mono (Hpad.out _) ?_; rintro e w1 ⟨rfl, hb1⟩; have Hb1 : Away (Below w0.heap.size w0 w1) := ⟨⟨hb1.os, hb1.tape, hb1.output, hb1.size, hb1.block⟩⟩; have S1 := And.intro (HS.out.1 w1 Hb1.out) (And.intro (HS.out.2.1 w1 Hb1.out) (HS.out.2.2 w1 Hb1.out)))
    | (go_at_call 55; refine Calls.mono (Hthr.out w1 Hb1.out) ?_; rintro e w2 ⟨⟨b, rfl⟩, hA⟩; have S2 := And.intro ((hA.cell 17).trans cC17) (And.intro ((hA.cell 18).trans cC18) ((hA.cell 0).trans cC0))))
  have z1 := Hb1.out.size
  have z2 := hA.size
  have Hw2 : Away (Below w.heap.size w w2) := ⟨Hb0.out.trans ((Hb1.out.mono (by omega)).trans (hA.below (by omega) (Nat.le_refl _)))⟩
  have HA := Away.mk hA
  clear S1 S2
  have c0' : w2.cell? ⟨w.heap.size, 0, none⟩ = some (.bool true) := by rw [hA.cell]; exact cC0
  clear hA hb1 c17 c18 c0
  go_wp2_with (at_make; refine wpList_make_own _ rfl _ _ 52 rfl w2.heap.size 5 i0 (.int .u8 0) 1 Try.underlying52 HI.out.1 HI.out.2.1 HI.out.2.2.1 .i64 .i64 64 64 rfl rfl rfl (by rw [HI.out.2.2.2]; decide) (by decide) (Nat.le_refl _) ?_)
  intro w3 hown hgr
  have hb3 : Below w2.heap.size w2 w3 := (Below.refl _ _).grown hgr (Nat.le_refl _) (fun k hk => by simp at hk)
  have Hb3 := Away.mk hb3
  have Hown := Away.mk hown
  have c03 : w3.cell? ⟨w.heap.size, 0, none⟩ = some (.bool true) := by rw [hb3.cell (p := ⟨w.heap.size, 0, none⟩) (by show w.heap.size < _; omega)]; exact c0'
  have Hrg : Away (w3.rangeAt w.heap.size 9 (LK .u64 L).toList) := ⟨fun j v hj => by
    have hj8 : j < 8 := by
      by_cases h8 : j < 8
      · exact h8
      · rw [List.getElem?_eq_none (by rw [Array.length_toList, lk_size, HLl.out]; omega)] at hj; cases hj
    rw [hb3.cell (p := ⟨w.heap.size, 9 + j, none⟩) (by show w.heap.size < _; omega), HA.out.cell, HCr.out j hj8, ← hj, Array.getElem?_toList, lk_get _ _ _ (by rw [HLl.out]; exact hj8)]⟩
  clear hown hgr hb3 c0'
  go_wp2_with (refine wpList_load_mid rfl 28 _ rfl w.heap.size 9 rfl (LK .u64 L).toList _ Hrg.out Try.underlying28 rfl (by rw [Array.length_toList, lk_size, HLl.out]; exact z8_64) ?_)
  go_loopw [5, 25] (fun v i wr => ∃ k : Nat, k ≤ 8 ∧ i = .int .i64 k ∧ Away (wr.ownsRow w2.heap.size 5 1 v (8 * k) (Lib.byteCells (flat 8 (L.take k)))) ∧ Away (Below w2.heap.size w2 wr)) (fun _ i _ => 8 - (intOf i).toNat)
  case atStart => exact ⟨0, by decide, rfl, Hown, Hb3⟩
  case round =>
    obtain ⟨k, hk, rfl, Ho, Hb⟩ := hrel
    by_cases hlt : k < 8
    · have hag : ∀ w : World, (Instr.index 28 (.agg (LK .u64 L)) (.int .i64 (k : Int))).run Try.prog w = .ok (.int .u64 ((L.getD k 0 : Nat) : Int)) w := idx.index64 L k HLl.out hlt
      have bx := HLb.out k
      have Hsn : Away (flat 8 (L.take (k + 1)) = flat 8 (L.take k) ++ fixL (L.getD k 0) 8) := ⟨by rw [take_snocN L k (by rw [HLl.out]; exact hlt), flat_snoc]⟩
      obtain ⟨x, hx⟩ : ∃ x, L.getD k 0 = x := ⟨_, rfl⟩
      rw [hx] at hag bx Hsn
      clear hx
      have hbs := Hb.out.size
      go_wp2_with fail
      refine (written_any _ w2.heap.size (8 * k) (x / 4294967296) _ wr (by omega) Ho.out hbs (by omega)).mono ?_
      rintro e w4 ⟨v', rfl, ho4, hb4⟩
      go_wp2_with fail
      have hb4s := hb4.size
      refine (written_any _ w2.heap.size (8 * k + 4) (x % 4294967296) _ w4 (by omega) ho4 (by omega) (by omega)).mono ?_
      rintro e w5 ⟨v2, rfl, ho5, hb5⟩
      have Hown2 : Away (w5.ownsRow w2.heap.size 5 1 v2 (8 * (k + 1)) (Lib.byteCells (flat 8 (L.take (k + 1))))) := ⟨by
        rw [Hsn.out, fix8, Lib.byteCells_append, Lib.byteCells_append, ← List.append_assoc, show 8 * (k + 1) = 8 * k + 4 + 4 by omega]; exact ho5⟩
      have Hb2 : Away (Below w2.heap.size w2 w5) := ⟨(Hb.out.trans hb4).trans hb5⟩
      clear ho4 hb4 ho5 hb5
      go_wp2_with fail
      go_roundw
      case rel => exact ⟨k + 1, by omega, by go_num, Hown2, Hb2⟩
      case measure => simp [intOf]; omega
    · obtain rfl : k = 8 := by omega
      have hO := Ho.out
      rw [List.take_of_length_le (by rw [HLl.out]; decide), HO.out] at hO
      have hcv := conv_row (by rw [HOl.out, Nat.mul_comm]) (by decide) hO
      have Hb2 : Away (Below w.heap.size w wr) := ⟨Hw2.out.trans (Hb.out.mono (by omega))⟩
      clear hO
      go_wp2_with fail
      go_ret
      exact ⟨rfl, Hb2.out⟩
end Go.Proofs.Ythfljfampfioaaa.ends
