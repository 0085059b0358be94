/-
  What the document's own Small, Large and Digest of layer 3 return: the same hashes. Conditions: the tables' words have their bits, the string has at most 2^40 - 1000 bytes.
  What the reference's Hash returns: the hash; memory that was there before stays as it was. Conditions: the tables hold the words, the string has at most 2^40 - 1000 bytes.
  What the reference's Hmac returns: the same code. Conditions: the tables hold the words, key and string have at most 2^39 bytes.
  What the reference's Mask returns: the same mask. Conditions: the tables hold the words, the seed has at most 2^38 bytes.
-/
import Derived.Test.YthfljfampfioaaaRBlk
import Derived.Test.YthfljfampfioaaaRPad
import Derived.Test.YthfljfampfioaaaR01
import Derived.Test.YthfljfampfioaaaMacM
import Derived.Test.YthfljfampfioaaaMix
import Derived.Test.YthfljfampfioaaaHmac
import Derived.Test.YthfljfampfioaaaCut
namespace Go.Proofs.Ythfljfampfioaaa.rhash
open Go.RowKit
open Go.Proofs.Ythfljfampfioaaa.oct Go.Proofs.Ythfljfampfioaaa.mem Go.Proofs.Ythfljfampfioaaa.arr Go.Proofs.Ythfljfampfioaaa.sham Go.Proofs.Ythfljfampfioaaa.block Go.Proofs.Ythfljfampfioaaa.thru Go.Proofs.Ythfljfampfioaaa.pad Go.Proofs.Ythfljfampfioaaa.ends Go.Proofs.Ythfljfampfioaaa.hashs

theorem wpStill_load {P : Program} {ops : Array Oper} {w : World} {Q : Act → Prop} {rest : List Oper} {o : Oper} {a : Act} (hw : Region.wanted o (yielded ops a.tmps) = true) (ty : TypeId) (x : Operand) (ho : o.op = .load ty x)
    (g : Nat) (hx : a.eval x = .pointer (some ⟨g, 0, none⟩)) (t : TypeId) (cs : Array Value) (d : TypeDesc) (hS : w.heap[g]? = some (.cells cs t (0, 0)))
    (hu : P.underlying ty = some d) (hd : (match d with | .struct _ | .array _ _ => true | _ => false) = true) (hi : (P.info? ty).map (·.size) = some cs.size)
    (h : wpStill P ops w Q rest (a.put o.dst (.agg cs))) : wpStill P ops w Q (o :: rest) a := by
  refine wpStill_step fun K hK => ?_
  rw [if_pos hw]
  unfold Oper.still execOp
  simp only [ho, hx, Instr.loadAt, Instr.sureAddr, Sem.run_bind, Sem.run_pure, Result.andThen_ok, run_loadVar_row w g t ty cs (0, 0) d hS hu hd hi]
  exact ⟨rfl, hK _ h⟩
theorem catL (a b : List UInt8) : (⟨a.toArray⟩ : ByteArray) ++ ⟨b.toArray⟩ = ⟨(a ++ b).toArray⟩ := by
  apply ByteArray.ext
  apply Array.toList_inj.1
  simp
theorem at_row {g : Nat} {C C' : Array Value} {t : TypeId} {w w' : World} (h : At g C t w w') : At g C' t w (w'.setRow g C') :=
  ⟨h.os, h.tape, h.output, by simpa [World.setRow] using h.size, setRow_heap _ _ _ _ _ _ h.row, fun k hk hg => (setRow_other w' g k C' hg).trans (h.block k hk hg)⟩
theorem at_same {g : Nat} {C : Array Value} {t : TypeId} {w w1 w2 : World} (h : At g C t w w1) (e1 : w2.heap = w1.heap) (e2 : w2.os = w1.os) (e3 : w2.tape = w1.tape) (e4 : w2.output = w1.output) : At g C t w w2 :=
  ⟨e2.trans h.os, e3.trans h.tape, e4.trans h.output, by rw [e1]; exact h.size, by rw [e1]; exact h.row, fun k hk hg => by rw [e1]; exact h.block k hk hg⟩

/-! ### 32 bits -/
theorem pad_len32 (l : List UInt8) : (l ++ tail l.length 64).length = 64 * bk l.length 64 := by
  have := bk_le64 l.length
  rw [List.length_append, tail_length _ _ (by omega)]; omega
set_option maxRecDepth 100000 in
set_option maxHeartbeats 4000000 in
theorem whole32 (T : Array Value) (K3 K6 : List Nat) (S3 S6 : V8) (s : ByteArray) (w : World) (h : TF T K3 S3 K6 S6) (hs : s.size ≤ 1099511626000) :
    Calls Try.prog 29 #[.agg T, .string s] w fun e w' => e = .returned (.string ⟨(hs32 K3 S3 s.data.toList).toArray⟩) ∧ Below w.heap.size w w' := by
  have HTs : Away (T.size = 465) := ⟨h.size⟩
  have Hpad := Away.mk (fun w1 : World => rpad.rpadded64 s w1 hs)
  have hbk := bk_le64 s.size
  have hpl := pad_len32 s.data.toList
  rw [show s.data.toList.length = s.size from rfl] at hpl
  have hwd : wd32 K3 S3 s.data.toList = run32 K3 S3 (s.data.toList ++ tail s.size 64) (bk s.size 64) := by
    unfold wd32
    rw [show s.data.toList.length = s.size from rfl, hpl, Nat.mul_div_cancel_left _ (by decide)]
  obtain ⟨P, HP⟩ := ex_eq (s.data.toList ++ tail s.size 64)
  obtain ⟨q, Hq⟩ := ex_eq (bk s.size 64)
  rw [HP.out] at Hpad hpl hwd
  rw [Hq.out] at hpl hwd hbk
  have Hres : Away (hs32 K3 S3 s.data.toList = flat 4 (run32 K3 S3 P q).l) := ⟨by rw [hs32, hwd]⟩
  have hpu : (⟨P.toArray⟩ : ByteArray).size = 64 * q := by show P.toArray.size = _; rw [List.size_toArray]; exact hpl
  have Hblk : Away (∀ (w1 : World) (k : Nat), k < q → Calls Try.prog 52 #[.agg T, .agg (LK .u32 (run32 K3 S3 P k).l), .string ((⟨P.toArray⟩ : ByteArray).extract (64 * k) (64 * k + 64))] w1 fun e w' => e = .returned (.agg (LK .u32 (run32 K3 S3 P (k + 1)).l)) ∧ Below w1.heap.size w1 w') := ⟨fun w1 k hk => by
    have hb := rblk.rblock32 T K3 (run32 K3 S3 P k) ((⟨P.toArray⟩ : ByteArray).extract (64 * k) (64 * k + 64)) w1 (by rw [ByteArray.size_extract, hpu]; omega) (run_lt32 _ _ _ h.bs32 _) h.bk32 h.k32 h.size
    rw [show ((⟨P.toArray⟩ : ByteArray).extract (64 * k) (64 * k + 64)).data.toList = (P.drop (64 * k)).take 64 by simp [List.take_drop, Nat.add_comm]] at hb
    exact hb⟩
  obtain ⟨R, HR⟩ : ∃ R : Nat → Array Value, Away (∀ k, LK .u32 (run32 K3 S3 P k).l = R k) := ⟨fun k => LK .u32 (run32 K3 S3 P k).l, ⟨fun _ => rfl⟩⟩
  have HRs : Away (∀ k, (R k).size = 8) := ⟨fun k => by rw [← HR.out]; rfl⟩
  have HRo : Away (∀ k, (R k).all (·.oneCell') = true) := ⟨fun k => by rw [← HR.out]; exact lk_one _ _⟩
  have Hblk2 : Away (∀ (w1 : World) (k : Nat), k < q → Calls Try.prog 52 #[.agg T, .agg (R k), .string ((⟨P.toArray⟩ : ByteArray).extract (64 * k) (64 * k + 64))] w1 fun e w' => e = .returned (.agg (R (k + 1))) ∧ Below w1.heap.size w1 w') := ⟨fun w1 k hk => by rw [← HR.out, ← HR.out]; exact Hblk.out w1 k hk⟩
  obtain ⟨L, HL⟩ := ex_eq (run32 K3 S3 P q).l
  have HRq : Away (R q = LK .u32 L) := ⟨by rw [← HR.out, HL.out]⟩
  have HLl : Away (L.length = 8) := ⟨by rw [← HL.out]; rfl⟩
  have HLb : Away (∀ i, L.getD i 0 < 4294967296) := ⟨by rw [← HL.out]; exact (run_lt32 _ _ _ h.bs32 _).get (by decide)⟩
  rw [Hres.out, HL.out]
  obtain ⟨O, HO⟩ := ex_eq (flat 4 L)
  rw [HO.out]
  have HOl : Away (O.length = 8 * 4) := ⟨by rw [← HO.out, flat_length, HLl.out, Nat.mul_comm]⟩
  have Hrg : Away ((w.alloc (.cells T 33)).rangeAt w.heap.size 64 (R 0).toList) := ⟨fun j v hj => by
    have hj8 : j < 8 := by
      by_cases h8 : j < 8
      · exact h8
      · rw [List.getElem?_eq_none (by rw [Array.length_toList, HRs.out]; omega)] at hj; cases hj
    have hc := cell_of_row (w.alloc (.cells T 33)) w.heap.size (64 + j) T _ (0, 0) (heap_at _ _ _ rfl)
    rw [hc, h.s32 j hj8, ← hj, Array.getElem?_toList, ← HR.out, lk_get _ _ _ (show j < (run32 K3 S3 P 0).l.length from hj8)]
    rfl⟩
  obtain ⟨i0, hi, hz0, hz1, hz2⟩ := info_parts infoByte
  have HI := Away.mk (And.intro hi (And.intro hz0 (And.intro hz1 hz2)))
  have hql : q ≤ 1099511627000 := by omega
  obtain ⟨p, Hp⟩ := ex_eq (⟨P.toArray⟩ : ByteArray)
  rw [Hp.out] at Hpad hpu Hblk2
  clear hi hz0 hz1 hz2 h Hblk Hres HL HR hwd hpl HP hbk Hq
  go_enter Try.func29, Try.ntmps29
  go_wp2_with (first
    | (refine wpList_load_mid rfl 25 _ rfl w.heap.size 64 rfl (R 0).toList _ Hrg.out Try.underlying25 rfl (by rw [Array.length_toList, HRs.out]; exact z8_32) ?_)
    | (refine rblk.store_newg rfl 25 _ _ rfl (R 0) (w.heap.size + 1) (by simp) rfl rfl (by rw [HRs.out]; exact z8_32) (by rw [HRs.out]; rfl) (HRo.out 0) rfl ?_))
  obtain ⟨w0, Hw0⟩ := ex_eq ((w.alloc (.cells T 33)).alloc (.cells (R 0) 25))
  have z0 : w0.heap.size = w.heap.size + 2 := by rw [← Hw0.out]; simp
  have g0 : w0.heap[w.heap.size]? = some (.cells T 33 (0, 0)) := by rw [← Hw0.out, heap_past _ _ _ (by simp), heap_at _ _ _ rfl]
  have g1 : w0.heap[w.heap.size + 1]? = some (.cells (R 0) 25 (0, 0)) := by rw [← Hw0.out, heap_at _ _ _ (by simp)]
  have Hb0 : Away (Below w.heap.size w w0) := ⟨by rw [← Hw0.out]; exact ((Below.refl _ _).alloc (Nat.le_refl _) _).alloc (by simp) _⟩
  have G0 := Away.mk g0
  have G1 := Away.mk g1
  rw [Hw0.out]
  clear g0 g1 Hrg
  refine (Hpad.out _).mono ?_
  rintro e w1 ⟨rfl, hb1⟩
  have Hat : Away (At (w.heap.size + 1) (R 0) 25 w0 w1) := ⟨(At.refl G1.out).later hb1⟩
  clear hb1
  go_wp2_with fail
  go_loopw [7] (fun i wr => ∃ k : Nat, k ≤ q ∧ i = .int .i64 (64 * (k : Int)) ∧ Away (At (w.heap.size + 1) (R k) 25 w0 wr)) (fun i _ => 64 * q - (intOf i).toNat)
  case atStart => exact ⟨0, Nat.zero_le _, by go_num, Hat⟩
  case round =>
    obtain ⟨k, hk, rfl, Hx⟩ := hrel
    by_cases hlt : k < q
    · have hl1 : 64 * (k : Int) < ((64 * q : Nat) : Int) := by omega
      have hl2 : 64 * (k : Int) < 64 * (q : Int) := by omega
      have Row0 := Away.mk (Hx.out.other (k := w.heap.size) (by omega) (by omega) G0.out)
      have Row1 := Away.mk Hx.out.row
      have e1 : (64 * (k : Int)).toNat = 64 * k := by omega
      have e2 : IntKind.i64.wrap (64 * (k : Int) + 64) = ((64 * k + 64 : Nat) : Int) := by rw [IntKind.wrap_i64]; omega
      obtain ⟨y, hy⟩ : ∃ y, 64 * k + 64 = y := ⟨_, rfl⟩
      obtain ⟨y0, hy0⟩ : ∃ y0, 64 * k = y0 := ⟨_, rfl⟩
      have hex : p.extract y0 y = p.extract (64 * k) (64 * k + 64) := by rw [hy, hy0]
      have Hc := Away.mk (fun w2 : World => Hblk2.out w2 k hlt)
      rw [← hex] at Hc
      rw [hy] at e2
      rw [hy0] at e1
      have e3 : 64 * (k : Int) = (y0 : Int) := by omega
      have l1 : y0 ≤ y := by omega
      have l2 : y ≤ p.size := by rw [hpu]; omega
      have l3 : (y0 : Int) ≤ (y : Int) := by omega
      have l4 : (y : Int) ≤ (p.size : Int) := by omega
      have l5 : (y : Int) ≤ ((64 * q : Nat) : Int) := by omega
      have l6 : (y : Int) ≤ 64 * (q : Int) := by omega
      have l7 : (y0 : Int) < 64 * (q : Int) := by omega
      rw [e3] at e2 ⊢
      have hny : (y0 : Int) + 64 = 64 * ((k : Int) + 1) := by omega
      have Hny := Away.mk hny
      have Hyy : Away ((y : Int) = 64 * ((k : Int) + 1) ∧ (y : Int) = (y0 : Int) + 64) := ⟨by omega⟩
      have hyb : y0 ≤ 140737488355328 := by omega
      clear hex hy hl1 hl2 e1 hny
      go_wp2_with fail
      refine still_tail 7 (by kernel_rfl) (by kernel_rfl) ?_
      simp only [List.take_succ_cons, List.take_zero, List.drop_succ_cons, List.drop_zero]
      refine wpStill_load rfl 33 _ rfl w.heap.size rfl 33 T _ Row0.out Try.underlying33 rfl (by rw [HTs.out]; exact sizeT) ?_
      refine wpStill_load rfl 25 _ rfl (w.heap.size + 1) rfl 25 (R k) _ Row1.out Try.underlying25 rfl (by rw [HRs.out]; exact z8_32) ?_
      repeat still_step
      refine wpStill_nil ?_
      go_wp2_with fail
      refine (Hc.out _).mono ?_
      rintro e w2 ⟨rfl, hb2⟩
      have Hat2 : Away (At (w.heap.size + 1) (R k) 25 w0 w2) := ⟨(at_same (w2 := wr.drew) Hx.out rfl rfl rfl rfl).later hb2⟩
      clear hb2
      go_wp2_with (refine wpList_store_row rfl 25 _ _ rfl (w.heap.size + 1) (R (k + 1)) rfl rfl 25 _ Hat2.out.row (by rw [HRs.out]; exact z8_32) (by rw [HRs.out, HRs.out]) (HRo.out _) ?_)
      go_roundw
      case rel => exact ⟨k + 1, by omega, val_int (by have := Hyy.out; omega), ⟨at_row Hat2.out⟩⟩
      case measure => have := Hyy.out; simp [intOf]; omega
    · obtain rfl : k = q := by omega
      have Hbr : Away (Below w.heap.size w wr) := ⟨Hb0.out.trans (Hx.out.below (by omega) (by omega))⟩
      have Row1 := Away.mk Hx.out.row
      have zr := Hx.out.size
      go_wp2_with (at_make; refine wpList_make_own _ rfl _ _ 52 rfl wr.heap.size 5 i0 (.int .u8 0) 1 Try.underlying52 HI.out.1 HI.out.2.1 HI.out.2.2.1 .i64 .i64 32 32 rfl rfl rfl (by rw [HI.out.2.2.2]; decide) (by decide) (Nat.le_refl _) ?_)
      intro w3 hown hgr
      have hb3 : Below wr.heap.size wr w3 := (Below.refl _ _).grown hgr (Nat.le_refl _) (fun k hk => by simp at hk)
      have Hb3 := Away.mk hb3
      have Hown := Away.mk hown
      have Row3 : Away (w3.heap[w.heap.size + 1]? = some (.cells (LK .u32 L) 25 (0, 0))) := ⟨by rw [← HRq.out]; exact (hb3.block _ (by omega)).trans Row1.out⟩
      obtain ⟨gb, Hgb⟩ := ex_eq wr.heap.size
      rw [Hgb.out] at Hown Hb3
      have Hgw : Away (Below w.heap.size w w3) := ⟨Hbr.out.trans (hb3.mono (by omega))⟩
      have hgb : gb ≤ w3.heap.size := by rw [← Hgb.out]; exact hb3.size
      have hgw : w.heap.size ≤ gb := by rw [← Hgb.out]; omega
      clear hown hgr hb3
      go_wp2_with (refine wpList_load_row rfl 25 _ rfl (w.heap.size + 1) rfl 25 (LK .u32 L) (0, 0) _ Row3.out Try.underlying25 rfl (by rw [lk_size, HLl.out]; exact z8_32) ?_)
      go_loopw [8, 31] (fun v i wx => ∃ j : Nat, j ≤ 8 ∧ i = .int .i64 j ∧ Away (wx.ownsRow gb 5 1 v (4 * j) (Lib.byteCells (flat 4 (L.take j)))) ∧ Away (Below gb w3 wx)) (fun _ i _ => 8 - (intOf i).toNat)
      case atStart => exact ⟨0, by decide, rfl, ⟨by rw [Hgb.out]; exact Hown.out⟩, ⟨Below.refl _ _⟩⟩
      case round =>
        obtain ⟨j, hj, rfl, Ho, Hb⟩ := hrel
        by_cases hj8 : j < 8
        · have hag : ∀ w : World, (Instr.index 25 (.agg (LK .u32 L)) (.int .i64 (j : Int))).run Try.prog w = .ok (.int .u32 ((L.getD j 0 : Nat) : Int)) w := idx.index32 L j HLl.out hj8
          have bx := HLb.out j
          have Hsn : Away (flat 4 (L.take (j + 1)) = flat 4 (L.take j) ++ fixL (L.getD j 0) 4) := ⟨by rw [take_snocN L j (by rw [HLl.out]; exact hj8), flat_snoc]⟩
          obtain ⟨x, hx⟩ : ∃ x, L.getD j 0 = x := ⟨_, rfl⟩
          rw [hx] at hag bx Hsn
          have H4 := Away.mk (cells4 x bx)
          have hbs : gb ≤ wr.heap.size := Nat.le_trans hgb Hb.out.size
          clear hx
          go_wp2_with (at_builtin; refine wpList_append_own _ rfl _ _ 52 rfl gb 5 i0 (.int .u8 0) 1 1 Try.underlying52 HI.out.1 HI.out.2.1 HI.out.2.2.1 HI.out.2.2.2 rfl (by decide) _ _ _ rfl (Ho.out.alloc _) ⟨wr.heap.size, 0, none⟩ 4 4 [.int .u8 ((x : Int) / 16777216), .int .u8 ((x : Int) / 65536 % 256), .int .u8 ((x : Int) / 256 % 256), .int .u8 ((x : Int) % 256)] rfl rfl (new4 _ _ _ _ _ _) (fun u hu => by simp at hu; rcases hu with rfl | rfl | rfl | rfl <;> rfl) (by unfold maxLen; omega) (by omega) (by simp; omega) ?_)
          intro v' w4 hown' hgrow _
          rw [H4.out] at hown'
          have Hown2 : Away (w4.ownsRow gb 5 1 v' (4 * (j + 1)) (Lib.byteCells (flat 4 (L.take (j + 1))))) := ⟨by
            rw [Hsn.out, Lib.byteCells_append, show 4 * (j + 1) = 4 * j + 4 by omega]; exact hown'⟩
          have Hb4 : Away (Below gb w3 w4) := ⟨(Hb.out.alloc hbs _).grown hgrow (by simp; omega) (fun k hk => (Ho.out.lt k hk).1)⟩
          clear hown' hgrow
          go_wp2_with fail
          go_roundw
          case rel => exact ⟨j + 1, by omega, by go_num, Hown2, Hb4⟩
          case measure => simp [intOf]; omega
        · obtain rfl : j = 8 := by omega
          have hO := Ho.out
          rw [List.take_of_length_le (by rw [HLl.out]; decide), HO.out] at hO
          have hcv := conv_row (by rw [HOl.out]) (by decide) hO
          have Hbz : Away (Below w.heap.size w wr) := ⟨Hgw.out.trans (Hb.out.mono hgw)⟩
          clear hO
          go_wp2_with fail
          go_ret
          exact ⟨rfl, Hbz.out⟩

/-! ### 64 bits -/
theorem pad_len64 (l : List UInt8) : (l ++ tail l.length 128).length = 128 * bk l.length 128 := by
  have := bk_le128 l.length
  rw [List.length_append, tail_length _ _ (by omega)]; omega
set_option maxRecDepth 100000 in
set_option maxHeartbeats 4000000 in
theorem whole64 (T : Array Value) (K3 K6 : List Nat) (S3 S6 : V8) (s : ByteArray) (w : World) (h : TF T K3 S3 K6 S6) (hs : s.size ≤ 1099511626000) :
    Calls Try.prog 28 #[.agg T, .string s] w fun e w' => e = .returned (.string ⟨(hs64 K6 S6 s.data.toList).toArray⟩) ∧ Below w.heap.size w w' := by
  have HTs : Away (T.size = 465) := ⟨h.size⟩
  have Hpad := Away.mk (fun w1 : World => rpad.rpadded128 s w1 hs)
  have hbk := bk_le128 s.size
  have hpl := pad_len64 s.data.toList
  rw [show s.data.toList.length = s.size from rfl] at hpl
  have hwd : wd64 K6 S6 s.data.toList = run64 K6 S6 (s.data.toList ++ tail s.size 128) (bk s.size 128) := by
    unfold wd64
    rw [show s.data.toList.length = s.size from rfl, hpl, Nat.mul_div_cancel_left _ (by decide)]
  obtain ⟨P, HP⟩ := ex_eq (s.data.toList ++ tail s.size 128)
  obtain ⟨q, Hq⟩ := ex_eq (bk s.size 128)
  rw [HP.out] at Hpad hpl hwd
  rw [Hq.out] at hpl hwd hbk
  have Hres : Away (hs64 K6 S6 s.data.toList = flat 8 (run64 K6 S6 P q).l) := ⟨by rw [hs64, hwd]⟩
  have hpu : (⟨P.toArray⟩ : ByteArray).size = 128 * q := by show P.toArray.size = _; rw [List.size_toArray]; exact hpl
  have Hblk : Away (∀ (w1 : World) (k : Nat), k < q → Calls Try.prog 51 #[.agg T, .agg (LK .u64 (run64 K6 S6 P k).l), .string ((⟨P.toArray⟩ : ByteArray).extract (128 * k) (128 * k + 128))] w1 fun e w' => e = .returned (.agg (LK .u64 (run64 K6 S6 P (k + 1)).l)) ∧ Below w1.heap.size w1 w') := ⟨fun w1 k hk => by
    have hb := rblk.rblock64 T K6 (run64 K6 S6 P k) ((⟨P.toArray⟩ : ByteArray).extract (128 * k) (128 * k + 128)) w1 (by rw [ByteArray.size_extract, hpu]; omega) (run_lt64 _ _ _ h.bs64 _) h.bk64 h.k64 h.size
    rw [show ((⟨P.toArray⟩ : ByteArray).extract (128 * k) (128 * k + 128)).data.toList = (P.drop (128 * k)).take 128 by simp [List.take_drop, Nat.add_comm]] at hb
    exact hb⟩
  obtain ⟨R, HR⟩ : ∃ R : Nat → Array Value, Away (∀ k, LK .u64 (run64 K6 S6 P k).l = R k) := ⟨fun k => LK .u64 (run64 K6 S6 P k).l, ⟨fun _ => rfl⟩⟩
  have HRs : Away (∀ k, (R k).size = 8) := ⟨fun k => by rw [← HR.out]; rfl⟩
  have HRo : Away (∀ k, (R k).all (·.oneCell') = true) := ⟨fun k => by rw [← HR.out]; exact lk_one _ _⟩
  have Hblk2 : Away (∀ (w1 : World) (k : Nat), k < q → Calls Try.prog 51 #[.agg T, .agg (R k), .string ((⟨P.toArray⟩ : ByteArray).extract (128 * k) (128 * k + 128))] w1 fun e w' => e = .returned (.agg (R (k + 1))) ∧ Below w1.heap.size w1 w') := ⟨fun w1 k hk => by rw [← HR.out, ← HR.out]; exact Hblk.out w1 k hk⟩
  obtain ⟨L, HL⟩ := ex_eq (run64 K6 S6 P q).l
  have HRq : Away (R q = LK .u64 L) := ⟨by rw [← HR.out, HL.out]⟩
  have HLl : Away (L.length = 8) := ⟨by rw [← HL.out]; rfl⟩
  have HLb : Away (∀ i, L.getD i 0 < 18446744073709551616) := ⟨by rw [← HL.out]; exact (run_lt64 _ _ _ h.bs64 _).get (by decide)⟩
  rw [Hres.out, HL.out]
  obtain ⟨O, HO⟩ := ex_eq (flat 8 L)
  rw [HO.out]
  have HOl : Away (O.length = 8 * 8) := ⟨by rw [← HO.out, flat_length, HLl.out, Nat.mul_comm]⟩
  have Hrg : Away ((w.alloc (.cells T 33)).rangeAt w.heap.size 152 (R 0).toList) := ⟨fun j v hj => by
    have hj8 : j < 8 := by
      by_cases h8 : j < 8
      · exact h8
      · rw [List.getElem?_eq_none (by rw [Array.length_toList, HRs.out]; omega)] at hj; cases hj
    have hc := cell_of_row (w.alloc (.cells T 33)) w.heap.size (152 + j) T _ (0, 0) (heap_at _ _ _ rfl)
    rw [hc, h.s64 j hj8, ← hj, Array.getElem?_toList, ← HR.out, lk_get _ _ _ (show j < (run64 K6 S6 P 0).l.length from hj8)]
    rfl⟩
  obtain ⟨i0, hi, hz0, hz1, hz2⟩ := info_parts infoByte
  have HI := Away.mk (And.intro hi (And.intro hz0 (And.intro hz1 hz2)))
  have hql : q ≤ 1099511627000 := by omega
  obtain ⟨p, Hp⟩ := ex_eq (⟨P.toArray⟩ : ByteArray)
  rw [Hp.out] at Hpad hpu Hblk2
  clear hi hz0 hz1 hz2 h Hblk Hres HL HR hwd hpl HP hbk Hq
  go_enter Try.func28, Try.ntmps28
  go_wp2_with (first
    | (refine wpList_load_mid rfl 28 _ rfl w.heap.size 152 rfl (R 0).toList _ Hrg.out Try.underlying28 rfl (by rw [Array.length_toList, HRs.out]; exact z8_64) ?_)
    | (refine rblk.store_newg rfl 28 _ _ rfl (R 0) (w.heap.size + 1) (by simp) rfl rfl (by rw [HRs.out]; exact z8_64) (by rw [HRs.out]; rfl) (HRo.out 0) rfl ?_))
  obtain ⟨w0, Hw0⟩ := ex_eq ((w.alloc (.cells T 33)).alloc (.cells (R 0) 28))
  have z0 : w0.heap.size = w.heap.size + 2 := by rw [← Hw0.out]; simp
  have g0 : w0.heap[w.heap.size]? = some (.cells T 33 (0, 0)) := by rw [← Hw0.out, heap_past _ _ _ (by simp), heap_at _ _ _ rfl]
  have g1 : w0.heap[w.heap.size + 1]? = some (.cells (R 0) 28 (0, 0)) := by rw [← Hw0.out, heap_at _ _ _ (by simp)]
  have Hb0 : Away (Below w.heap.size w w0) := ⟨by rw [← Hw0.out]; exact ((Below.refl _ _).alloc (Nat.le_refl _) _).alloc (by simp) _⟩
  have G0 := Away.mk g0
  have G1 := Away.mk g1
  rw [Hw0.out]
  clear g0 g1 Hrg
  refine (Hpad.out _).mono ?_
  rintro e w1 ⟨rfl, hb1⟩
  have Hat : Away (At (w.heap.size + 1) (R 0) 28 w0 w1) := ⟨(At.refl G1.out).later hb1⟩
  clear hb1
  go_wp2_with fail
  go_loopw [7] (fun i wr => ∃ k : Nat, k ≤ q ∧ i = .int .i64 (128 * (k : Int)) ∧ Away (At (w.heap.size + 1) (R k) 28 w0 wr)) (fun i _ => 128 * q - (intOf i).toNat)
  case atStart => exact ⟨0, Nat.zero_le _, by go_num, Hat⟩
  case round =>
    obtain ⟨k, hk, rfl, Hx⟩ := hrel
    by_cases hlt : k < q
    · have hl1 : 128 * (k : Int) < ((128 * q : Nat) : Int) := by omega
      have hl2 : 128 * (k : Int) < 128 * (q : Int) := by omega
      have Row0 := Away.mk (Hx.out.other (k := w.heap.size) (by omega) (by omega) G0.out)
      have Row1 := Away.mk Hx.out.row
      have e1 : (128 * (k : Int)).toNat = 128 * k := by omega
      have e2 : IntKind.i64.wrap (128 * (k : Int) + 128) = ((128 * k + 128 : Nat) : Int) := by rw [IntKind.wrap_i64]; omega
      obtain ⟨y, hy⟩ : ∃ y, 128 * k + 128 = y := ⟨_, rfl⟩
      obtain ⟨y0, hy0⟩ : ∃ y0, 128 * k = y0 := ⟨_, rfl⟩
      have hex : p.extract y0 y = p.extract (128 * k) (128 * k + 128) := by rw [hy, hy0]
      have Hc := Away.mk (fun w2 : World => Hblk2.out w2 k hlt)
      rw [← hex] at Hc
      rw [hy] at e2
      rw [hy0] at e1
      have e3 : 128 * (k : Int) = (y0 : Int) := by omega
      have l1 : y0 ≤ y := by omega
      have l2 : y ≤ p.size := by rw [hpu]; omega
      have l3 : (y0 : Int) ≤ (y : Int) := by omega
      have l4 : (y : Int) ≤ (p.size : Int) := by omega
      have l5 : (y : Int) ≤ ((128 * q : Nat) : Int) := by omega
      have l6 : (y : Int) ≤ 128 * (q : Int) := by omega
      have l7 : (y0 : Int) < 128 * (q : Int) := by omega
      rw [e3] at e2 ⊢
      have hny : (y0 : Int) + 128 = 128 * ((k : Int) + 1) := by omega
      have Hny := Away.mk hny
      have Hyy : Away ((y : Int) = 128 * ((k : Int) + 1) ∧ (y : Int) = (y0 : Int) + 128) := ⟨by omega⟩
      have hyb : y0 ≤ 140737488355328 := by omega
      clear hex hy hl1 hl2 e1 hny
      go_wp2_with fail
      refine still_tail 7 (by kernel_rfl) (by kernel_rfl) ?_
      simp only [List.take_succ_cons, List.take_zero, List.drop_succ_cons, List.drop_zero]
      refine wpStill_load rfl 33 _ rfl w.heap.size rfl 33 T _ Row0.out Try.underlying33 rfl (by rw [HTs.out]; exact sizeT) ?_
      refine wpStill_load rfl 28 _ rfl (w.heap.size + 1) rfl 28 (R k) _ Row1.out Try.underlying28 rfl (by rw [HRs.out]; exact z8_64) ?_
      repeat still_step
      refine wpStill_nil ?_
      go_wp2_with fail
      refine (Hc.out _).mono ?_
      rintro e w2 ⟨rfl, hb2⟩
      have Hat2 : Away (At (w.heap.size + 1) (R k) 28 w0 w2) := ⟨(at_same (w2 := wr.drew) Hx.out rfl rfl rfl rfl).later hb2⟩
      clear hb2
      go_wp2_with (refine wpList_store_row rfl 28 _ _ rfl (w.heap.size + 1) (R (k + 1)) rfl rfl 28 _ Hat2.out.row (by rw [HRs.out]; exact z8_64) (by rw [HRs.out, HRs.out]) (HRo.out _) ?_)
      go_roundw
      case rel => exact ⟨k + 1, by omega, val_int (by have := Hyy.out; omega), ⟨at_row Hat2.out⟩⟩
      case measure => have := Hyy.out; simp [intOf]; omega
    · obtain rfl : k = q := by omega
      have Hbr : Away (Below w.heap.size w wr) := ⟨Hb0.out.trans (Hx.out.below (by omega) (by omega))⟩
      have Row1 := Away.mk Hx.out.row
      have zr := Hx.out.size
      have Row3 : Away (wr.heap[w.heap.size + 1]? = some (.cells (LK .u64 L) 28 (0, 0))) := ⟨by rw [← HRq.out]; exact Row1.out⟩
      go_wp2_with (refine wpList_load_row rfl 28 _ rfl (w.heap.size + 1) rfl 28 (LK .u64 L) (0, 0) _ Row3.out Try.underlying28 rfl (by rw [lk_size, HLl.out]; exact z8_64) ?_)
      go_loopw [8, 30] (fun v i wx => ∃ j : Nat, j ≤ 8 ∧ i = .int .i64 j ∧ v = .string ⟨(flat 8 (L.take j)).toArray⟩ ∧ Away (Below w.heap.size w wx)) (fun _ i _ => 8 - (intOf i).toNat)
      case atStart => exact ⟨0, by decide, rfl, rfl, Hbr⟩
      case round =>
        obtain ⟨j, hj, rfl, rfl, Hb⟩ := hrel
        by_cases hj8 : j < 8
        · have hag : ∀ w : World, (Instr.index 28 (.agg (LK .u64 L)) (.int .i64 (j : Int))).run Try.prog w = .ok (.int .u64 ((L.getD j 0 : Nat) : Int)) w := idx.index64 L j HLl.out hj8
          have bx := HLb.out j
          have hsn : flat 8 (L.take (j + 1)) = flat 8 (L.take j) ++ fixL (L.getD j 0) 8 := by rw [take_snocN L j (by rw [HLl.out]; exact hj8), flat_snoc]
          obtain ⟨x, hx⟩ : ∃ x, L.getD j 0 = x := ⟨_, rfl⟩
          rw [hx] at hag bx hsn
          have Hf := Away.mk (fun w2 : World => r01.fixed_any x 8 w2 bx)
          rw [show fixS x 8 = fixL x 8 from fixS_wd x 8 (by decide)] at Hf
          have hfl : (flat 8 (L.take j)).length = 8 * j := by rw [flat_length, List.length_take, HLl.out, Nat.min_eq_left (by omega)]
          have hgl : (fixL x 8).length = 8 := fixL_length _ _
          obtain ⟨F, hF⟩ : ∃ F, flat 8 (L.take j) = F := ⟨_, rfl⟩
          obtain ⟨G, hG⟩ : ∃ G, fixL x 8 = G := ⟨_, rfl⟩
          rw [hF] at hsn hfl ⊢
          rw [hG] at hsn Hf hgl
          have Hsn := Away.mk hsn
          clear hx hF hG hsn
          go_wp2_with fail
          refine (Hf.out _).mono ?_
          rintro e w4 ⟨rfl, hb4⟩
          have Hb4 : Away (Below w.heap.size w w4) := ⟨Hb.out.trans (hb4.mono Hb.out.size)⟩
          clear hb4
          go_wp2_with fail
          go_roundw
          case rel => exact ⟨j + 1, by omega, by go_num, by rw [Hsn.out]; exact congrArg Value.string (catL F G), Hb4⟩
          case measure => simp [intOf]; omega
        · obtain rfl : j = 8 := by omega
          rw [List.take_of_length_le (by rw [HLl.out]; decide), HO.out]
          go_wp2_with fail
          go_ret
          exact ⟨rfl, Hb.out⟩

end Go.Proofs.Ythfljfampfioaaa.rhash

namespace Go.Proofs.Ythfljfampfioaaa.rmach
open Go.RowKit
open Go.Proofs.Ythfljfampfioaaa.oct Go.Proofs.Ythfljfampfioaaa.mem Go.Proofs.Ythfljfampfioaaa.arr Go.Proofs.Ythfljfampfioaaa.sham Go.Proofs.Ythfljfampfioaaa.thru Go.Proofs.Ythfljfampfioaaa.hashs Go.Proofs.Ythfljfampfioaaa.macm

set_option maxRecDepth 100000 in
set_option maxHeartbeats 1000000 in
theorem rhash_false (T : Array Value) (x : Wd) (s : ByteArray) (w : World) (h : TX T x) (hs : s.size ≤ 1099511626000) :
    Calls Try.prog 10 #[.agg T, .bool false, .string s] w fun e w' => e = .returned (.string ⟨(hx x false s.data.toList).toArray⟩) ∧ Below w.heap.size w w' := by
  have Hc : Away (∀ w1 : World, Calls Try.prog 29 #[.agg T, .string s] w1 fun e w' => e = .returned (.string ⟨(hx x false s.data.toList).toArray⟩) ∧ Below w1.heap.size w1 w') := ⟨fun w1 => rhash.whole32 T x.k3 x.k6 x.s3 x.s6 s w1 h hs⟩
  obtain ⟨H, HH⟩ := ex_eq (hx x false s.data.toList)
  rw [HH.out] at Hc ⊢
  have HTs : Away (T.size = 465) := ⟨h.size⟩
  clear HH h
  have G0 : Away ((w.alloc (.cells T 33)).heap[w.heap.size]? = some (.cells T 33 (0, 0))) := ⟨heap_at _ _ _ rfl⟩
  go_enter Try.func10, Try.ntmps10
  go_wp2_with (refine wpList_load_row rfl 33 _ rfl w.heap.size rfl 33 T (0, 0) _ G0.out Try.underlying33 rfl (by rw [HTs.out]; exact sizeT) ?_)
  refine (Hc.out _).mono ?_
  rintro e w1 ⟨rfl, hb⟩
  have Hb : Away (Below w.heap.size w w1) := ⟨(below_alloc w _).trans (hb.mono (by simp))⟩
  clear hb
  go_wp2_with fail
  go_ret
  exact ⟨rfl, Hb.out⟩

set_option maxRecDepth 100000 in
set_option maxHeartbeats 1000000 in
theorem rhash_true (T : Array Value) (x : Wd) (s : ByteArray) (w : World) (h : TX T x) (hs : s.size ≤ 1099511626000) :
    Calls Try.prog 10 #[.agg T, .bool true, .string s] w fun e w' => e = .returned (.string ⟨(hx x true s.data.toList).toArray⟩) ∧ Below w.heap.size w w' := by
  have Hc : Away (∀ w1 : World, Calls Try.prog 28 #[.agg T, .string s] w1 fun e w' => e = .returned (.string ⟨(hx x true s.data.toList).toArray⟩) ∧ Below w1.heap.size w1 w') := ⟨fun w1 => rhash.whole64 T x.k3 x.k6 x.s3 x.s6 s w1 h hs⟩
  obtain ⟨H, HH⟩ := ex_eq (hx x true s.data.toList)
  rw [HH.out] at Hc ⊢
  have HTs : Away (T.size = 465) := ⟨h.size⟩
  clear HH h
  have G0 : Away ((w.alloc (.cells T 33)).heap[w.heap.size]? = some (.cells T 33 (0, 0))) := ⟨heap_at _ _ _ rfl⟩
  go_enter Try.func10, Try.ntmps10
  go_wp2_with (refine wpList_load_row rfl 33 _ rfl w.heap.size rfl 33 T (0, 0) _ G0.out Try.underlying33 rfl (by rw [HTs.out]; exact sizeT) ?_)
  refine (Hc.out _).mono ?_
  rintro e w1 ⟨rfl, hb⟩
  have Hb : Away (Below w.heap.size w w1) := ⟨(below_alloc w _).trans (hb.mono (by simp))⟩
  clear hb
  go_wp2_with fail
  go_ret
  exact ⟨rfl, Hb.out⟩

theorem rhash_any (T : Array Value) (x : Wd) (b : Bool) (s : ByteArray) (w : World) (h : TX T x) (hs : s.size ≤ 1099511626000) :
    Calls Try.prog 10 #[.agg T, .bool b, .string s] w fun e w' => e = .returned (.string ⟨(hx x b s.data.toList).toArray⟩) ∧ Below w.heap.size w w' := by
  cases b
  · exact rhash_false T x s w h hs
  · exact rhash_true T x s w h hs
end Go.Proofs.Ythfljfampfioaaa.rmach

namespace Go.Proofs.Ythfljfampfioaaa.rhmac
open Go.RowKit
open Go.Proofs.Ythfljfampfioaaa.oct Go.Proofs.Ythfljfampfioaaa.mem Go.Proofs.Ythfljfampfioaaa.arr Go.Proofs.Ythfljfampfioaaa.hashs Go.Proofs.Ythfljfampfioaaa.macm Go.Proofs.Ythfljfampfioaaa.hmac

set_option maxRecDepth 100000 in
set_option maxHeartbeats 2000000 in
theorem hm_false_short (T : Array Value) (x : Wd) (key s : ByteArray) (w : World) (h : TX T x) (hk : key.size ≤ 64) (hkb : key.size ≤ 549755813888) (hs : s.size ≤ 549755813888) :
    Calls Try.prog 12 #[.agg T, .bool false, .string key, .string s] w fun e w' => e = .returned (.string ⟨(hm x false key.data.toList s.data.toList).toArray⟩) ∧ Below w.heap.size w w' := by
  have HTs : Away (T.size = 465) := ⟨h.size⟩
  have hkl : key.data.toList.length = key.size := rfl
  have hsl : s.data.toList.length = s.size := rfl
  have hky : ky x false key.data.toList = key.data.toList := ky_short _ _ _ (by rw [hkl]; exact hk)
  obtain ⟨q, hq⟩ : ∃ q : ByteArray, q = key := ⟨_, rfl⟩
  have hql : q.data.toList = ky x false key.data.toList := by rw [hq, hky]
  have hqs : q.size ≤ 64 := by rw [hq]; exact hk
  obtain ⟨A, hA⟩ : ∃ A, mx (ky x false key.data.toList) 64 92 = A := ⟨_, rfl⟩
  obtain ⟨B, hB⟩ : ∃ B, mx (ky x false key.data.toList) 64 54 = B := ⟨_, rfl⟩
  have hAl : A.length = 64 := by rw [← hA]; exact mx_length _ _ _ (ky_le x false _)
  have hBl : B.length = 64 := by rw [← hB]; exact mx_length _ _ _ (ky_le x false _)
  have hhm : hm x false key.data.toList s.data.toList = hx x false (A ++ hx x false (B ++ s.data.toList)) := by rw [← hA, ← hB]; rfl
  have HA : Away (∀ w1 : World, Calls Try.prog 31 #[.string q, .int .i64 64, .int .u8 92] w1 fun e w' => e = .returned (.string ⟨A.toArray⟩) ∧ Below w1.heap.size w1 w') := ⟨fun w1 => by
    rw [← hA, ← hql]; exact mix.turned_any q 64 92 w1 (by omega) (by decide) (by decide) (by decide)⟩
  have HB : Away (∀ w1 : World, Calls Try.prog 31 #[.string q, .int .i64 64, .int .u8 54] w1 fun e w' => e = .returned (.string ⟨B.toArray⟩) ∧ Below w1.heap.size w1 w') := ⟨fun w1 => by
    rw [← hB, ← hql]; exact mix.turned_any q 64 54 w1 (by omega) (by decide) (by decide) (by decide)⟩
  have HI : Away (∀ w1 : World, Calls Try.prog 10 #[.agg T, .bool false, .string ((⟨B.toArray⟩ : ByteArray) ++ s)] w1 fun e w' => e = .returned (.string ⟨(hx x false (B ++ s.data.toList)).toArray⟩) ∧ Below w1.heap.size w1 w') := ⟨fun w1 => by
    have hh := rmach.rhash_any T x false ((⟨B.toArray⟩ : ByteArray) ++ s) w1 h (by rw [ByteArray.size_append]; show B.toArray.size + _ ≤ _; rw [List.size_toArray]; omega)
    rw [catD] at hh; exact hh⟩
  have hIl : (hx x false (B ++ s.data.toList)).length = 32 := hx_length _ _ _
  rw [hhm]
  obtain ⟨I, hI⟩ : ∃ I, hx x false (B ++ s.data.toList) = I := ⟨_, rfl⟩
  rw [hI] at HI hIl ⊢
  have HO : Away (∀ w1 : World, Calls Try.prog 10 #[.agg T, .bool false, .string ((⟨A.toArray⟩ : ByteArray) ++ ⟨I.toArray⟩)] w1 fun e w' => e = .returned (.string ⟨(hx x false (A ++ I)).toArray⟩) ∧ Below w1.heap.size w1 w') := ⟨fun w1 => by
    have hh := rmach.rhash_any T x false ((⟨A.toArray⟩ : ByteArray) ++ ⟨I.toArray⟩) w1 h (by rw [ByteArray.size_append]; show A.toArray.size + I.toArray.size ≤ _; rw [List.size_toArray, List.size_toArray]; omega)
    rw [catD] at hh; exact hh⟩
  obtain ⟨R, hR⟩ : ∃ R, hx x false (A ++ I) = R := ⟨_, rfl⟩
  rw [hR] at HO ⊢
  obtain ⟨A', hA'⟩ : ∃ A' : ByteArray, (⟨A.toArray⟩ : ByteArray) = A' := ⟨_, rfl⟩
  obtain ⟨B', hB'⟩ : ∃ B' : ByteArray, (⟨B.toArray⟩ : ByteArray) = B' := ⟨_, rfl⟩
  obtain ⟨I', hI'⟩ : ∃ I' : ByteArray, (⟨I.toArray⟩ : ByteArray) = I' := ⟨_, rfl⟩
  have sA : A'.size = 64 := by rw [← hA']; show A.toArray.size = _; rw [List.size_toArray]; exact hAl
  have sB : B'.size = 64 := by rw [← hB']; show B.toArray.size = _; rw [List.size_toArray]; exact hBl
  have sI : I'.size = 32 := by rw [← hI']; show I.toArray.size = _; rw [List.size_toArray]; exact hIl
  rw [hA'] at HA HO
  rw [hB'] at HB HI
  rw [hI'] at HI HO
  clear h hky hql hA hB hhm hI hR hA' hB' hI' hAl hBl hIl
  subst hq
  obtain ⟨W, HW⟩ := ex_eq (w.alloc (.cells T 33))
  have E0 : Away (W.heap[w.heap.size]? = some (.cells T 33 (0, 0))) := ⟨by rw [← HW.out, heap_at _ _ _ rfl]⟩
  have EB : Away (Below w.heap.size w W) := ⟨by rw [← HW.out]; exact below_alloc w _⟩
  go_enter Try.func12, Try.ntmps12
  go_wp2_with fail
  rw [HW.out]
  have n1 : ¬ 9223372036854775807 < 64 + s.size := by omega
  have n2 : (9223372036854775807 < 64 + s.size) = False := eq_false n1
  refine wp_region_quiet_below (by kernel_rfl) (by kernel_rfl) ?_
  refine wpQuiet_load rfl 33 _ rfl _ rfl 33 _ _ (fun w' hC => heap_regrown E0.out hC) Try.underlying33 rfl (by rw [HTs.out]; exact sizeT) ?_
  quiet_step (skip)
  quiet_step (skip)
  quiet_step (skip)
  quiet_step (exact Calls.regrown_of (HA.out _))
  refine wpQuiet_load rfl 33 _ rfl _ rfl 33 _ _ (fun w' hC => heap_regrown E0.out hC) Try.underlying33 rfl (by rw [HTs.out]; exact sizeT) ?_
  quiet_step (skip)
  quiet_step (skip)
  quiet_step (skip)
  quiet_step (exact Calls.regrown_of (HB.out _))
  quiet_step (skip)
  quiet_step (skip)
  quiet_step (exact Calls.regrown_of (HI.out _))
  quiet_step (skip)
  quiet_step (exact Calls.regrown_of (HO.out _))
  quiet_step (skip)
  refine wpQuiet_nil ?_
  intro w3 hC
  have hb3 : Away (Below W.heap.size W w3) := ⟨by
    obtain ⟨pp, rfl⟩ := hC
    exact below_regrown _ _ _⟩
  clear hC
  go_wp2_with fail
  go_ret
  exact ⟨rfl, EB.out.trans (hb3.out.mono EB.out.size)⟩

set_option maxRecDepth 100000 in
set_option maxHeartbeats 2000000 in
theorem hm_false_long (T : Array Value) (x : Wd) (key s : ByteArray) (w : World) (h : TX T x) (hk : 64 < key.size) (hkb : key.size ≤ 549755813888) (hs : s.size ≤ 549755813888) :
    Calls Try.prog 12 #[.agg T, .bool false, .string key, .string s] w fun e w' => e = .returned (.string ⟨(hm x false key.data.toList s.data.toList).toArray⟩) ∧ Below w.heap.size w w' := by
  have HTs : Away (T.size = 465) := ⟨h.size⟩
  have hkl : key.data.toList.length = key.size := rfl
  have hsl : s.data.toList.length = s.size := rfl
  have hky : ky x false key.data.toList = hx x false key.data.toList := ky_long _ _ _ (by rw [hkl]; exact hk)
  have Hkh : Away (∀ w1 : World, Calls Try.prog 10 #[.agg T, .bool false, .string key] w1 fun e w' => e = .returned (.string ⟨(hx x false key.data.toList).toArray⟩) ∧ Below w1.heap.size w1 w') := ⟨fun w1 => rmach.rhash_any T x false key w1 h (by omega)⟩
  obtain ⟨q, Hq⟩ := ex_eq (⟨(hx x false key.data.toList).toArray⟩ : ByteArray)
  have hql : q.data.toList = ky x false key.data.toList := by rw [← Hq.out, hky]
  have hqs : q.size = 32 := by
    have e : q.data.toList.length = q.size := rfl
    rw [← e, hql, hky, hx_length]; rfl
  rw [Hq.out] at Hkh
  obtain ⟨A, hA⟩ : ∃ A, mx (ky x false key.data.toList) 64 92 = A := ⟨_, rfl⟩
  obtain ⟨B, hB⟩ : ∃ B, mx (ky x false key.data.toList) 64 54 = B := ⟨_, rfl⟩
  have hAl : A.length = 64 := by rw [← hA]; exact mx_length _ _ _ (ky_le x false _)
  have hBl : B.length = 64 := by rw [← hB]; exact mx_length _ _ _ (ky_le x false _)
  have hhm : hm x false key.data.toList s.data.toList = hx x false (A ++ hx x false (B ++ s.data.toList)) := by rw [← hA, ← hB]; rfl
  have HA : Away (∀ w1 : World, Calls Try.prog 31 #[.string q, .int .i64 64, .int .u8 92] w1 fun e w' => e = .returned (.string ⟨A.toArray⟩) ∧ Below w1.heap.size w1 w') := ⟨fun w1 => by
    rw [← hA, ← hql]; exact mix.turned_any q 64 92 w1 (by omega) (by decide) (by decide) (by decide)⟩
  have HB : Away (∀ w1 : World, Calls Try.prog 31 #[.string q, .int .i64 64, .int .u8 54] w1 fun e w' => e = .returned (.string ⟨B.toArray⟩) ∧ Below w1.heap.size w1 w') := ⟨fun w1 => by
    rw [← hB, ← hql]; exact mix.turned_any q 64 54 w1 (by omega) (by decide) (by decide) (by decide)⟩
  have HI : Away (∀ w1 : World, Calls Try.prog 10 #[.agg T, .bool false, .string ((⟨B.toArray⟩ : ByteArray) ++ s)] w1 fun e w' => e = .returned (.string ⟨(hx x false (B ++ s.data.toList)).toArray⟩) ∧ Below w1.heap.size w1 w') := ⟨fun w1 => by
    have hh := rmach.rhash_any T x false ((⟨B.toArray⟩ : ByteArray) ++ s) w1 h (by rw [ByteArray.size_append]; show B.toArray.size + _ ≤ _; rw [List.size_toArray]; omega)
    rw [catD] at hh; exact hh⟩
  have hIl : (hx x false (B ++ s.data.toList)).length = 32 := hx_length _ _ _
  rw [hhm]
  obtain ⟨I, hI⟩ : ∃ I, hx x false (B ++ s.data.toList) = I := ⟨_, rfl⟩
  rw [hI] at HI hIl ⊢
  have HO : Away (∀ w1 : World, Calls Try.prog 10 #[.agg T, .bool false, .string ((⟨A.toArray⟩ : ByteArray) ++ ⟨I.toArray⟩)] w1 fun e w' => e = .returned (.string ⟨(hx x false (A ++ I)).toArray⟩) ∧ Below w1.heap.size w1 w') := ⟨fun w1 => by
    have hh := rmach.rhash_any T x false ((⟨A.toArray⟩ : ByteArray) ++ ⟨I.toArray⟩) w1 h (by rw [ByteArray.size_append]; show A.toArray.size + I.toArray.size ≤ _; rw [List.size_toArray, List.size_toArray]; omega)
    rw [catD] at hh; exact hh⟩
  obtain ⟨R, hR⟩ : ∃ R, hx x false (A ++ I) = R := ⟨_, rfl⟩
  rw [hR] at HO ⊢
  obtain ⟨A', hA'⟩ : ∃ A' : ByteArray, (⟨A.toArray⟩ : ByteArray) = A' := ⟨_, rfl⟩
  obtain ⟨B', hB'⟩ : ∃ B' : ByteArray, (⟨B.toArray⟩ : ByteArray) = B' := ⟨_, rfl⟩
  obtain ⟨I', hI'⟩ : ∃ I' : ByteArray, (⟨I.toArray⟩ : ByteArray) = I' := ⟨_, rfl⟩
  have sA : A'.size = 64 := by rw [← hA']; show A.toArray.size = _; rw [List.size_toArray]; exact hAl
  have sB : B'.size = 64 := by rw [← hB']; show B.toArray.size = _; rw [List.size_toArray]; exact hBl
  have sI : I'.size = 32 := by rw [← hI']; show I.toArray.size = _; rw [List.size_toArray]; exact hIl
  rw [hA'] at HA HO
  rw [hB'] at HB HI
  rw [hI'] at HI HO
  clear h hky hql hA hB hhm hI hR hA' hB' hI' hAl hBl hIl
  clear Hq
  have G0 : Away ((w.alloc (.cells T 33)).heap[w.heap.size]? = some (.cells T 33 (0, 0))) := ⟨heap_at _ _ _ rfl⟩
  have Hb0 : Away (Below w.heap.size w (w.alloc (.cells T 33))) := ⟨below_alloc w _⟩
  go_enter Try.func12, Try.ntmps12
  go_wp2_with (refine wpList_load_row rfl 33 _ rfl w.heap.size rfl 33 T (0, 0) _ G0.out Try.underlying33 rfl (by rw [HTs.out]; exact sizeT) ?_)
  refine (Hkh.out _).mono ?_
  rintro e W ⟨rfl, hb1⟩
  have E0 : Away (W.heap[w.heap.size]? = some (.cells T 33 (0, 0))) := ⟨(hb1.block w.heap.size (by simp)).trans G0.out⟩
  have EB : Away (Below w.heap.size w W) := ⟨Hb0.out.trans (hb1.mono (by simp))⟩
  clear hb1
  go_wp2_with fail
  have n1 : ¬ 9223372036854775807 < 64 + s.size := by omega
  have n2 : (9223372036854775807 < 64 + s.size) = False := eq_false n1
  refine wp_region_quiet_below (by kernel_rfl) (by kernel_rfl) ?_
  refine wpQuiet_load rfl 33 _ rfl _ rfl 33 _ _ (fun w' hC => heap_regrown E0.out hC) Try.underlying33 rfl (by rw [HTs.out]; exact sizeT) ?_
  quiet_step (skip)
  quiet_step (skip)
  quiet_step (skip)
  quiet_step (exact Calls.regrown_of (HA.out _))
  refine wpQuiet_load rfl 33 _ rfl _ rfl 33 _ _ (fun w' hC => heap_regrown E0.out hC) Try.underlying33 rfl (by rw [HTs.out]; exact sizeT) ?_
  quiet_step (skip)
  quiet_step (skip)
  quiet_step (skip)
  quiet_step (exact Calls.regrown_of (HB.out _))
  quiet_step (skip)
  quiet_step (skip)
  quiet_step (exact Calls.regrown_of (HI.out _))
  quiet_step (skip)
  quiet_step (exact Calls.regrown_of (HO.out _))
  quiet_step (skip)
  refine wpQuiet_nil ?_
  intro w3 hC
  have hb3 : Away (Below W.heap.size W w3) := ⟨by
    obtain ⟨pp, rfl⟩ := hC
    exact below_regrown _ _ _⟩
  clear hC
  go_wp2_with fail
  go_ret
  exact ⟨rfl, EB.out.trans (hb3.out.mono EB.out.size)⟩

set_option maxRecDepth 100000 in
set_option maxHeartbeats 2000000 in
theorem hm_true_short (T : Array Value) (x : Wd) (key s : ByteArray) (w : World) (h : TX T x) (hk : key.size ≤ 128) (hkb : key.size ≤ 549755813888) (hs : s.size ≤ 549755813888) :
    Calls Try.prog 12 #[.agg T, .bool true, .string key, .string s] w fun e w' => e = .returned (.string ⟨(hm x true key.data.toList s.data.toList).toArray⟩) ∧ Below w.heap.size w w' := by
  have HTs : Away (T.size = 465) := ⟨h.size⟩
  have hkl : key.data.toList.length = key.size := rfl
  have hsl : s.data.toList.length = s.size := rfl
  have hky : ky x true key.data.toList = key.data.toList := ky_short _ _ _ (by rw [hkl]; exact hk)
  obtain ⟨q, hq⟩ : ∃ q : ByteArray, q = key := ⟨_, rfl⟩
  have hql : q.data.toList = ky x true key.data.toList := by rw [hq, hky]
  have hqs : q.size ≤ 128 := by rw [hq]; exact hk
  obtain ⟨A, hA⟩ : ∃ A, mx (ky x true key.data.toList) 128 92 = A := ⟨_, rfl⟩
  obtain ⟨B, hB⟩ : ∃ B, mx (ky x true key.data.toList) 128 54 = B := ⟨_, rfl⟩
  have hAl : A.length = 128 := by rw [← hA]; exact mx_length _ _ _ (ky_le x true _)
  have hBl : B.length = 128 := by rw [← hB]; exact mx_length _ _ _ (ky_le x true _)
  have hhm : hm x true key.data.toList s.data.toList = hx x true (A ++ hx x true (B ++ s.data.toList)) := by rw [← hA, ← hB]; rfl
  have HA : Away (∀ w1 : World, Calls Try.prog 31 #[.string q, .int .i64 128, .int .u8 92] w1 fun e w' => e = .returned (.string ⟨A.toArray⟩) ∧ Below w1.heap.size w1 w') := ⟨fun w1 => by
    rw [← hA, ← hql]; exact mix.turned_any q 128 92 w1 (by omega) (by decide) (by decide) (by decide)⟩
  have HB : Away (∀ w1 : World, Calls Try.prog 31 #[.string q, .int .i64 128, .int .u8 54] w1 fun e w' => e = .returned (.string ⟨B.toArray⟩) ∧ Below w1.heap.size w1 w') := ⟨fun w1 => by
    rw [← hB, ← hql]; exact mix.turned_any q 128 54 w1 (by omega) (by decide) (by decide) (by decide)⟩
  have HI : Away (∀ w1 : World, Calls Try.prog 10 #[.agg T, .bool true, .string ((⟨B.toArray⟩ : ByteArray) ++ s)] w1 fun e w' => e = .returned (.string ⟨(hx x true (B ++ s.data.toList)).toArray⟩) ∧ Below w1.heap.size w1 w') := ⟨fun w1 => by
    have hh := rmach.rhash_any T x true ((⟨B.toArray⟩ : ByteArray) ++ s) w1 h (by rw [ByteArray.size_append]; show B.toArray.size + _ ≤ _; rw [List.size_toArray]; omega)
    rw [catD] at hh; exact hh⟩
  have hIl : (hx x true (B ++ s.data.toList)).length = 64 := hx_length _ _ _
  rw [hhm]
  obtain ⟨I, hI⟩ : ∃ I, hx x true (B ++ s.data.toList) = I := ⟨_, rfl⟩
  rw [hI] at HI hIl ⊢
  have HO : Away (∀ w1 : World, Calls Try.prog 10 #[.agg T, .bool true, .string ((⟨A.toArray⟩ : ByteArray) ++ ⟨I.toArray⟩)] w1 fun e w' => e = .returned (.string ⟨(hx x true (A ++ I)).toArray⟩) ∧ Below w1.heap.size w1 w') := ⟨fun w1 => by
    have hh := rmach.rhash_any T x true ((⟨A.toArray⟩ : ByteArray) ++ ⟨I.toArray⟩) w1 h (by rw [ByteArray.size_append]; show A.toArray.size + I.toArray.size ≤ _; rw [List.size_toArray, List.size_toArray]; omega)
    rw [catD] at hh; exact hh⟩
  obtain ⟨R, hR⟩ : ∃ R, hx x true (A ++ I) = R := ⟨_, rfl⟩
  rw [hR] at HO ⊢
  obtain ⟨A', hA'⟩ : ∃ A' : ByteArray, (⟨A.toArray⟩ : ByteArray) = A' := ⟨_, rfl⟩
  obtain ⟨B', hB'⟩ : ∃ B' : ByteArray, (⟨B.toArray⟩ : ByteArray) = B' := ⟨_, rfl⟩
  obtain ⟨I', hI'⟩ : ∃ I' : ByteArray, (⟨I.toArray⟩ : ByteArray) = I' := ⟨_, rfl⟩
  have sA : A'.size = 128 := by rw [← hA']; show A.toArray.size = _; rw [List.size_toArray]; exact hAl
  have sB : B'.size = 128 := by rw [← hB']; show B.toArray.size = _; rw [List.size_toArray]; exact hBl
  have sI : I'.size = 64 := by rw [← hI']; show I.toArray.size = _; rw [List.size_toArray]; exact hIl
  rw [hA'] at HA HO
  rw [hB'] at HB HI
  rw [hI'] at HI HO
  clear h hky hql hA hB hhm hI hR hA' hB' hI' hAl hBl hIl
  subst hq
  obtain ⟨W, HW⟩ := ex_eq (w.alloc (.cells T 33))
  have E0 : Away (W.heap[w.heap.size]? = some (.cells T 33 (0, 0))) := ⟨by rw [← HW.out, heap_at _ _ _ rfl]⟩
  have EB : Away (Below w.heap.size w W) := ⟨by rw [← HW.out]; exact below_alloc w _⟩
  go_enter Try.func12, Try.ntmps12
  go_wp2_with fail
  rw [HW.out]
  have n1 : ¬ 9223372036854775807 < 128 + s.size := by omega
  have n2 : (9223372036854775807 < 128 + s.size) = False := eq_false n1
  refine wp_region_quiet_below (by kernel_rfl) (by kernel_rfl) ?_
  refine wpQuiet_load rfl 33 _ rfl _ rfl 33 _ _ (fun w' hC => heap_regrown E0.out hC) Try.underlying33 rfl (by rw [HTs.out]; exact sizeT) ?_
  quiet_step (skip)
  quiet_step (skip)
  quiet_step (skip)
  quiet_step (exact Calls.regrown_of (HA.out _))
  refine wpQuiet_load rfl 33 _ rfl _ rfl 33 _ _ (fun w' hC => heap_regrown E0.out hC) Try.underlying33 rfl (by rw [HTs.out]; exact sizeT) ?_
  quiet_step (skip)
  quiet_step (skip)
  quiet_step (skip)
  quiet_step (exact Calls.regrown_of (HB.out _))
  quiet_step (skip)
  quiet_step (skip)
  quiet_step (exact Calls.regrown_of (HI.out _))
  quiet_step (skip)
  quiet_step (exact Calls.regrown_of (HO.out _))
  quiet_step (skip)
  refine wpQuiet_nil ?_
  intro w3 hC
  have hb3 : Away (Below W.heap.size W w3) := ⟨by
    obtain ⟨pp, rfl⟩ := hC
    exact below_regrown _ _ _⟩
  clear hC
  go_wp2_with fail
  go_ret
  exact ⟨rfl, EB.out.trans (hb3.out.mono EB.out.size)⟩

set_option maxRecDepth 100000 in
set_option maxHeartbeats 2000000 in
theorem hm_true_long (T : Array Value) (x : Wd) (key s : ByteArray) (w : World) (h : TX T x) (hk : 128 < key.size) (hkb : key.size ≤ 549755813888) (hs : s.size ≤ 549755813888) :
    Calls Try.prog 12 #[.agg T, .bool true, .string key, .string s] w fun e w' => e = .returned (.string ⟨(hm x true key.data.toList s.data.toList).toArray⟩) ∧ Below w.heap.size w w' := by
  have HTs : Away (T.size = 465) := ⟨h.size⟩
  have hkl : key.data.toList.length = key.size := rfl
  have hsl : s.data.toList.length = s.size := rfl
  have hky : ky x true key.data.toList = hx x true key.data.toList := ky_long _ _ _ (by rw [hkl]; exact hk)
  have Hkh : Away (∀ w1 : World, Calls Try.prog 10 #[.agg T, .bool true, .string key] w1 fun e w' => e = .returned (.string ⟨(hx x true key.data.toList).toArray⟩) ∧ Below w1.heap.size w1 w') := ⟨fun w1 => rmach.rhash_any T x true key w1 h (by omega)⟩
  obtain ⟨q, Hq⟩ := ex_eq (⟨(hx x true key.data.toList).toArray⟩ : ByteArray)
  have hql : q.data.toList = ky x true key.data.toList := by rw [← Hq.out, hky]
  have hqs : q.size = 64 := by
    have e : q.data.toList.length = q.size := rfl
    rw [← e, hql, hky, hx_length]; rfl
  rw [Hq.out] at Hkh
  obtain ⟨A, hA⟩ : ∃ A, mx (ky x true key.data.toList) 128 92 = A := ⟨_, rfl⟩
  obtain ⟨B, hB⟩ : ∃ B, mx (ky x true key.data.toList) 128 54 = B := ⟨_, rfl⟩
  have hAl : A.length = 128 := by rw [← hA]; exact mx_length _ _ _ (ky_le x true _)
  have hBl : B.length = 128 := by rw [← hB]; exact mx_length _ _ _ (ky_le x true _)
  have hhm : hm x true key.data.toList s.data.toList = hx x true (A ++ hx x true (B ++ s.data.toList)) := by rw [← hA, ← hB]; rfl
  have HA : Away (∀ w1 : World, Calls Try.prog 31 #[.string q, .int .i64 128, .int .u8 92] w1 fun e w' => e = .returned (.string ⟨A.toArray⟩) ∧ Below w1.heap.size w1 w') := ⟨fun w1 => by
    rw [← hA, ← hql]; exact mix.turned_any q 128 92 w1 (by omega) (by decide) (by decide) (by decide)⟩
  have HB : Away (∀ w1 : World, Calls Try.prog 31 #[.string q, .int .i64 128, .int .u8 54] w1 fun e w' => e = .returned (.string ⟨B.toArray⟩) ∧ Below w1.heap.size w1 w') := ⟨fun w1 => by
    rw [← hB, ← hql]; exact mix.turned_any q 128 54 w1 (by omega) (by decide) (by decide) (by decide)⟩
  have HI : Away (∀ w1 : World, Calls Try.prog 10 #[.agg T, .bool true, .string ((⟨B.toArray⟩ : ByteArray) ++ s)] w1 fun e w' => e = .returned (.string ⟨(hx x true (B ++ s.data.toList)).toArray⟩) ∧ Below w1.heap.size w1 w') := ⟨fun w1 => by
    have hh := rmach.rhash_any T x true ((⟨B.toArray⟩ : ByteArray) ++ s) w1 h (by rw [ByteArray.size_append]; show B.toArray.size + _ ≤ _; rw [List.size_toArray]; omega)
    rw [catD] at hh; exact hh⟩
  have hIl : (hx x true (B ++ s.data.toList)).length = 64 := hx_length _ _ _
  rw [hhm]
  obtain ⟨I, hI⟩ : ∃ I, hx x true (B ++ s.data.toList) = I := ⟨_, rfl⟩
  rw [hI] at HI hIl ⊢
  have HO : Away (∀ w1 : World, Calls Try.prog 10 #[.agg T, .bool true, .string ((⟨A.toArray⟩ : ByteArray) ++ ⟨I.toArray⟩)] w1 fun e w' => e = .returned (.string ⟨(hx x true (A ++ I)).toArray⟩) ∧ Below w1.heap.size w1 w') := ⟨fun w1 => by
    have hh := rmach.rhash_any T x true ((⟨A.toArray⟩ : ByteArray) ++ ⟨I.toArray⟩) w1 h (by rw [ByteArray.size_append]; show A.toArray.size + I.toArray.size ≤ _; rw [List.size_toArray, List.size_toArray]; omega)
    rw [catD] at hh; exact hh⟩
  obtain ⟨R, hR⟩ : ∃ R, hx x true (A ++ I) = R := ⟨_, rfl⟩
  rw [hR] at HO ⊢
  obtain ⟨A', hA'⟩ : ∃ A' : ByteArray, (⟨A.toArray⟩ : ByteArray) = A' := ⟨_, rfl⟩
  obtain ⟨B', hB'⟩ : ∃ B' : ByteArray, (⟨B.toArray⟩ : ByteArray) = B' := ⟨_, rfl⟩
  obtain ⟨I', hI'⟩ : ∃ I' : ByteArray, (⟨I.toArray⟩ : ByteArray) = I' := ⟨_, rfl⟩
  have sA : A'.size = 128 := by rw [← hA']; show A.toArray.size = _; rw [List.size_toArray]; exact hAl
  have sB : B'.size = 128 := by rw [← hB']; show B.toArray.size = _; rw [List.size_toArray]; exact hBl
  have sI : I'.size = 64 := by rw [← hI']; show I.toArray.size = _; rw [List.size_toArray]; exact hIl
  rw [hA'] at HA HO
  rw [hB'] at HB HI
  rw [hI'] at HI HO
  clear h hky hql hA hB hhm hI hR hA' hB' hI' hAl hBl hIl
  clear Hq
  have G0 : Away ((w.alloc (.cells T 33)).heap[w.heap.size]? = some (.cells T 33 (0, 0))) := ⟨heap_at _ _ _ rfl⟩
  have Hb0 : Away (Below w.heap.size w (w.alloc (.cells T 33))) := ⟨below_alloc w _⟩
  go_enter Try.func12, Try.ntmps12
  go_wp2_with (refine wpList_load_row rfl 33 _ rfl w.heap.size rfl 33 T (0, 0) _ G0.out Try.underlying33 rfl (by rw [HTs.out]; exact sizeT) ?_)
  refine (Hkh.out _).mono ?_
  rintro e W ⟨rfl, hb1⟩
  have E0 : Away (W.heap[w.heap.size]? = some (.cells T 33 (0, 0))) := ⟨(hb1.block w.heap.size (by simp)).trans G0.out⟩
  have EB : Away (Below w.heap.size w W) := ⟨Hb0.out.trans (hb1.mono (by simp))⟩
  clear hb1
  go_wp2_with fail
  have n1 : ¬ 9223372036854775807 < 128 + s.size := by omega
  have n2 : (9223372036854775807 < 128 + s.size) = False := eq_false n1
  refine wp_region_quiet_below (by kernel_rfl) (by kernel_rfl) ?_
  refine wpQuiet_load rfl 33 _ rfl _ rfl 33 _ _ (fun w' hC => heap_regrown E0.out hC) Try.underlying33 rfl (by rw [HTs.out]; exact sizeT) ?_
  quiet_step (skip)
  quiet_step (skip)
  quiet_step (skip)
  quiet_step (exact Calls.regrown_of (HA.out _))
  refine wpQuiet_load rfl 33 _ rfl _ rfl 33 _ _ (fun w' hC => heap_regrown E0.out hC) Try.underlying33 rfl (by rw [HTs.out]; exact sizeT) ?_
  quiet_step (skip)
  quiet_step (skip)
  quiet_step (skip)
  quiet_step (exact Calls.regrown_of (HB.out _))
  quiet_step (skip)
  quiet_step (skip)
  quiet_step (exact Calls.regrown_of (HI.out _))
  quiet_step (skip)
  quiet_step (exact Calls.regrown_of (HO.out _))
  quiet_step (skip)
  refine wpQuiet_nil ?_
  intro w3 hC
  have hb3 : Away (Below W.heap.size W w3) := ⟨by
    obtain ⟨pp, rfl⟩ := hC
    exact below_regrown _ _ _⟩
  clear hC
  go_wp2_with fail
  go_ret
  exact ⟨rfl, EB.out.trans (hb3.out.mono EB.out.size)⟩

theorem hmac_any (T : Array Value) (x : Wd) (b : Bool) (key s : ByteArray) (w : World) (h : TX T x) (hkb : key.size ≤ 549755813888) (hs : s.size ≤ 549755813888) :
    Calls Try.prog 12 #[.agg T, .bool b, .string key, .string s] w fun e w' => e = .returned (.string ⟨(hm x b key.data.toList s.data.toList).toArray⟩) ∧ Below w.heap.size w w' := by
  cases b
  · by_cases hk : key.size ≤ 64
    · exact hm_false_short T x key s w h hk hkb hs
    · exact hm_false_long T x key s w h (by omega) hkb hs
  · by_cases hk : key.size ≤ 128
    · exact hm_true_short T x key s w h hk hkb hs
    · exact hm_true_long T x key s w h (by omega) hkb hs
end Go.Proofs.Ythfljfampfioaaa.rhmac

namespace Go.Proofs.Ythfljfampfioaaa.rmask
open Go.RowKit
open Go.Proofs.Ythfljfampfioaaa.oct Go.Proofs.Ythfljfampfioaaa.mem Go.Proofs.Ythfljfampfioaaa.arr Go.Proofs.Ythfljfampfioaaa.hashs Go.Proofs.Ythfljfampfioaaa.macm
theorem catB (a b : List UInt8) : (⟨(a ++ b).toArray⟩ : ByteArray) = ⟨a.toArray⟩ ++ ⟨b.toArray⟩ := by
  apply ByteArray.ext
  apply Array.toList_inj.1
  simp

set_option maxRecDepth 100000 in
set_option maxHeartbeats 2000000 in
theorem mask_false (T : Array Value) (x : Wd) (s : ByteArray) (n : Int) (w : World) (h : TX T x) (hs : s.size ≤ 274877906944) :
    Calls Try.prog 14 #[.agg T, .bool false, .string s, .int .i64 n] w fun e w' => e = .returned (.string ⟨(ms x false s.data.toList n).toArray⟩) ∧ Below w.heap.size w w' := by
  have HTs : Away (T.size = 465) := ⟨h.size⟩
  obtain ⟨F, hF⟩ : ∃ F : Nat → ByteArray, (fun k => (⟨(fixL k 4).toArray⟩ : ByteArray)) = F := ⟨_, rfl⟩
  have hF2 : ∀ k, F k = ⟨(fixL k 4).toArray⟩ := fun k => (congrFun hF k).symm
  have HFs : Away (∀ k, (F k).size = 4) := ⟨fun k => by rw [hF2]; show (fixL k 4).toArray.size = 4; rw [List.size_toArray, fixL_length]⟩
  have Hfx : Away (∀ (k : Nat) (w1 : World), k ≤ 2000 → Calls Try.prog 38 #[.int .u64 (k : Int), .int .i64 4] w1 fun e w' => e = .returned (.string (F k)) ∧ Below w1.heap.size w1 w') := ⟨fun k w1 hk => by
    have hh := r01.fixed_any k 4 w1 (by omega)
    rw [show ((4 : Int)) = ((4 : Nat) : Int) from rfl, fixS_wd _ _ (by decide)] at hh
    rw [hF2]; exact hh⟩
  obtain ⟨H, hH⟩ : ∃ H : Nat → ByteArray, (fun k => (⟨(hx x false (s.data.toList ++ fixL k 4)).toArray⟩ : ByteArray)) = H := ⟨_, rfl⟩
  have hH2 : ∀ k, H k = ⟨(hx x false (s.data.toList ++ fixL k 4)).toArray⟩ := fun k => (congrFun hH k).symm
  have HHs : Away (∀ k, (H k).size = 32) := ⟨fun k => by rw [hH2]; show (hx x false (s.data.toList ++ fixL k 4)).toArray.size = _; rw [List.size_toArray, hx_length]; rfl⟩
  have Hha : Away (∀ (k : Nat) (w1 : World), k ≤ 2000 → Calls Try.prog 10 #[.agg T, .bool false, .string (s ++ F k)] w1 fun e w' => e = .returned (.string (H k)) ∧ Below w1.heap.size w1 w') := ⟨fun k w1 hk => by
    have hh := rmach.rhash_any T x false (s ++ F k) w1 h (by rw [ByteArray.size_append, HFs.out]; omega)
    have e : (s ++ F k).data.toList = s.data.toList ++ fixL k 4 := by rw [hF2]; simp
    rw [e, ← hH2] at hh
    exact hh⟩
  obtain ⟨O, hO⟩ : ∃ O : Nat → ByteArray, (fun k => (⟨(mk x false s.data.toList k).toArray⟩ : ByteArray)) = O := ⟨_, rfl⟩
  have hO2 : ∀ k, O k = ⟨(mk x false s.data.toList k).toArray⟩ := fun k => (congrFun hO k).symm
  have HOs : Away (∀ k, (O k).size = 32 * k) := ⟨fun k => by rw [hO2]; show (mk x false s.data.toList k).toArray.size = _; rw [List.size_toArray, mk_length]; rfl⟩
  have HO1 : Away (∀ k, O k ++ H k = O (k + 1)) := ⟨fun k => by rw [hO2, hH2, hO2, mk, catB]⟩
  have HO0 : Away (O 0 = ⟨#[]⟩) := ⟨by rw [hO2]; rfl⟩
  have Hct : Away (∀ w1 : World, Calls Try.prog 16 #[.string (O (((min n 50000).toNat + 31) / 32)), .int .i64 n] w1 fun e w' => e = .returned (.string ⟨(ms x false s.data.toList n).toArray⟩) ∧ w' = w1) := ⟨fun w1 => by
    have hh := cut.rcut_any (O (((min n 50000).toNat + 31) / 32)) n w1 (by rw [HOs.out]; omega)
    rw [hO2] at hh ⊢
    exact hh⟩
  obtain ⟨R, hR⟩ : ∃ R, ms x false s.data.toList n = R := ⟨_, rfl⟩
  rw [hR] at Hct ⊢
  obtain ⟨N, hN⟩ : ∃ N, ((min n 50000).toNat + 31) / 32 = N := ⟨_, rfl⟩
  rw [hN] at Hct
  have hN2 : N ≤ 1600 := by omega
  clear hF hF2 hH hH2 hO hO2 hR h
  obtain ⟨W, HW⟩ := ex_eq (w.alloc (.cells T 33))
  have E0 : Away (W.heap[w.heap.size]? = some (.cells T 33 (0, 0))) := ⟨by rw [← HW.out]; exact heap_at _ _ _ rfl⟩
  have HbW : Away (Below w.heap.size w W) := ⟨by rw [← HW.out]; exact below_alloc w _⟩
  have hl0 : w.heap.size < W.heap.size := lt_of_row E0.out
  have e0 : (⟨#[]⟩ : ByteArray) = O 0 := HO0.out.symm
  go_enter Try.func14, Try.ntmps14
  go_wp2_with fail
  rw [HW.out]
  go_loopw [9, 10] (fun o i wr => ∃ k : Nat, k ≤ N ∧ o = .string (O k) ∧ i = .int .i64 k ∧ Away (Below W.heap.size W wr)) (fun _ i _ => N - (intOf i).toNat)
  case atStart => exact ⟨0, Nat.zero_le _, by rw [HO0.out], rfl, ⟨Below.refl _ _⟩⟩
  case round =>
    obtain ⟨k, hk, rfl, rfl, Hbe⟩ := hrel
    have F0 : Away (wr.heap[w.heap.size]? = some (.cells T 33 (0, 0))) := ⟨(Hbe.out.block _ hl0).trans E0.out⟩
    have hos := HOs.out k
    by_cases hlt : ((32 * k : Nat) : Int) < min n 50000
    · have hkN : k + 1 ≤ N := by omega
      have HkN := Away.mk hkN
      have hk2 : k ≤ 1600 := by omega
      have Hnx := Away.mk (HO1.out k)
      have hfs := HFs.out k
      have hhs := HHs.out k
      have Hf := Away.mk (fun w1 => Hfx.out k w1 (by omega))
      have Hh := Away.mk (fun w1 => Hha.out k w1 (by omega))
      obtain ⟨o, ho⟩ : ∃ o, O k = o := ⟨_, rfl⟩
      obtain ⟨f, hf⟩ : ∃ f, F k = f := ⟨_, rfl⟩
      obtain ⟨g, hg⟩ : ∃ g, H k = g := ⟨_, rfl⟩
      obtain ⟨q, hq⟩ : ∃ q : Nat, 32 * k = q := ⟨_, rfl⟩
      rw [ho] at hos Hnx ⊢
      rw [hf] at hfs Hf Hh
      rw [hg] at hhs Hh Hnx
      rw [hq] at hos hlt
      have hd : decide ((q : Int) < min n 50000) = true := decide_eq_true hlt
      have hq2 : q ≤ 50000 := by omega
      have hw : IntKind.u64.wrap (k : Int) = (k : Int) := by rw [IntKind.wrap_u64]; omega
      have n1 : (9223372036854775807 < s.size + 4) = False := eq_false (by omega)
      have n2 : (9223372036854775807 < q + 32) = False := eq_false (by omega)
      clear ho hf hg hq hkN e0
      go_wp2_with fail
      refine wp_region_quiet_below (by kernel_rfl) (by kernel_rfl) ?_
      quiet_step (skip)
      refine wpQuiet_load rfl 33 _ rfl _ rfl 33 _ _ (fun w' hC => heap_regrown F0.out hC) Try.underlying33 rfl (by rw [HTs.out]; exact sizeT) ?_
      quiet_step (skip)
      quiet_step (skip)
      quiet_step (skip)
      quiet_step (skip)
      quiet_step (exact Calls.regrown_of (Hf.out _))
      quiet_step (skip)
      quiet_step (exact Calls.regrown_of (Hh.out _))
      quiet_step (skip)
      quiet_step (skip)
      refine wpQuiet_nil ?_
      intro w3 hC
      have Hb3 : Away (Below wr.heap.size wr w3) := ⟨by
        obtain ⟨pp, rfl⟩ := hC
        exact below_regrown _ _ _⟩
      clear hC
      go_wp2_with fail
      go_roundw
      case rel => exact ⟨k + 1, HkN.out, by rw [Hnx.out], by go_num, ⟨Hbe.out.trans (Hb3.out.mono Hbe.out.size)⟩⟩
      case measure => have := HkN.out; simp [intOf]; omega
    · obtain rfl : k = N := by omega
      obtain ⟨o, ho⟩ : ∃ o, O k = o := ⟨_, rfl⟩
      obtain ⟨q, hq⟩ : ∃ q : Nat, 32 * k = q := ⟨_, rfl⟩
      rw [ho] at hos Hct ⊢
      rw [hq] at hos hlt
      have hd : decide ((q : Int) < min n 50000) = false := decide_eq_false hlt
      clear ho hq e0
      go_wp2_with fail
      refine (Hct.out _).mono ?_
      rintro e w4 ⟨rfl, rfl⟩
      have Hb4 : Away (Below w.heap.size w w4) := ⟨HbW.out.trans (Hbe.out.mono HbW.out.size)⟩
      go_wp2_with fail
      go_ret
      exact ⟨rfl, Hb4.out⟩

set_option maxRecDepth 100000 in
set_option maxHeartbeats 2000000 in
theorem mask_true (T : Array Value) (x : Wd) (s : ByteArray) (n : Int) (w : World) (h : TX T x) (hs : s.size ≤ 274877906944) :
    Calls Try.prog 14 #[.agg T, .bool true, .string s, .int .i64 n] w fun e w' => e = .returned (.string ⟨(ms x true s.data.toList n).toArray⟩) ∧ Below w.heap.size w w' := by
  have HTs : Away (T.size = 465) := ⟨h.size⟩
  obtain ⟨F, hF⟩ : ∃ F : Nat → ByteArray, (fun k => (⟨(fixL k 4).toArray⟩ : ByteArray)) = F := ⟨_, rfl⟩
  have hF2 : ∀ k, F k = ⟨(fixL k 4).toArray⟩ := fun k => (congrFun hF k).symm
  have HFs : Away (∀ k, (F k).size = 4) := ⟨fun k => by rw [hF2]; show (fixL k 4).toArray.size = 4; rw [List.size_toArray, fixL_length]⟩
  have Hfx : Away (∀ (k : Nat) (w1 : World), k ≤ 2000 → Calls Try.prog 38 #[.int .u64 (k : Int), .int .i64 4] w1 fun e w' => e = .returned (.string (F k)) ∧ Below w1.heap.size w1 w') := ⟨fun k w1 hk => by
    have hh := r01.fixed_any k 4 w1 (by omega)
    rw [show ((4 : Int)) = ((4 : Nat) : Int) from rfl, fixS_wd _ _ (by decide)] at hh
    rw [hF2]; exact hh⟩
  obtain ⟨H, hH⟩ : ∃ H : Nat → ByteArray, (fun k => (⟨(hx x true (s.data.toList ++ fixL k 4)).toArray⟩ : ByteArray)) = H := ⟨_, rfl⟩
  have hH2 : ∀ k, H k = ⟨(hx x true (s.data.toList ++ fixL k 4)).toArray⟩ := fun k => (congrFun hH k).symm
  have HHs : Away (∀ k, (H k).size = 64) := ⟨fun k => by rw [hH2]; show (hx x true (s.data.toList ++ fixL k 4)).toArray.size = _; rw [List.size_toArray, hx_length]; rfl⟩
  have Hha : Away (∀ (k : Nat) (w1 : World), k ≤ 2000 → Calls Try.prog 10 #[.agg T, .bool true, .string (s ++ F k)] w1 fun e w' => e = .returned (.string (H k)) ∧ Below w1.heap.size w1 w') := ⟨fun k w1 hk => by
    have hh := rmach.rhash_any T x true (s ++ F k) w1 h (by rw [ByteArray.size_append, HFs.out]; omega)
    have e : (s ++ F k).data.toList = s.data.toList ++ fixL k 4 := by rw [hF2]; simp
    rw [e, ← hH2] at hh
    exact hh⟩
  obtain ⟨O, hO⟩ : ∃ O : Nat → ByteArray, (fun k => (⟨(mk x true s.data.toList k).toArray⟩ : ByteArray)) = O := ⟨_, rfl⟩
  have hO2 : ∀ k, O k = ⟨(mk x true s.data.toList k).toArray⟩ := fun k => (congrFun hO k).symm
  have HOs : Away (∀ k, (O k).size = 64 * k) := ⟨fun k => by rw [hO2]; show (mk x true s.data.toList k).toArray.size = _; rw [List.size_toArray, mk_length]; rfl⟩
  have HO1 : Away (∀ k, O k ++ H k = O (k + 1)) := ⟨fun k => by rw [hO2, hH2, hO2, mk, catB]⟩
  have HO0 : Away (O 0 = ⟨#[]⟩) := ⟨by rw [hO2]; rfl⟩
  have Hct : Away (∀ w1 : World, Calls Try.prog 16 #[.string (O (((min n 50000).toNat + 63) / 64)), .int .i64 n] w1 fun e w' => e = .returned (.string ⟨(ms x true s.data.toList n).toArray⟩) ∧ w' = w1) := ⟨fun w1 => by
    have hh := cut.rcut_any (O (((min n 50000).toNat + 63) / 64)) n w1 (by rw [HOs.out]; omega)
    rw [hO2] at hh ⊢
    exact hh⟩
  obtain ⟨R, hR⟩ : ∃ R, ms x true s.data.toList n = R := ⟨_, rfl⟩
  rw [hR] at Hct ⊢
  obtain ⟨N, hN⟩ : ∃ N, ((min n 50000).toNat + 63) / 64 = N := ⟨_, rfl⟩
  rw [hN] at Hct
  have hN2 : N ≤ 1600 := by omega
  clear hF hF2 hH hH2 hO hO2 hR h
  obtain ⟨W, HW⟩ := ex_eq (w.alloc (.cells T 33))
  have E0 : Away (W.heap[w.heap.size]? = some (.cells T 33 (0, 0))) := ⟨by rw [← HW.out]; exact heap_at _ _ _ rfl⟩
  have HbW : Away (Below w.heap.size w W) := ⟨by rw [← HW.out]; exact below_alloc w _⟩
  have hl0 : w.heap.size < W.heap.size := lt_of_row E0.out
  have e0 : (⟨#[]⟩ : ByteArray) = O 0 := HO0.out.symm
  go_enter Try.func14, Try.ntmps14
  go_wp2_with fail
  rw [HW.out]
  go_loopw [9, 10] (fun o i wr => ∃ k : Nat, k ≤ N ∧ o = .string (O k) ∧ i = .int .i64 k ∧ Away (Below W.heap.size W wr)) (fun _ i _ => N - (intOf i).toNat)
  case atStart => exact ⟨0, Nat.zero_le _, by rw [HO0.out], rfl, ⟨Below.refl _ _⟩⟩
  case round =>
    obtain ⟨k, hk, rfl, rfl, Hbe⟩ := hrel
    have F0 : Away (wr.heap[w.heap.size]? = some (.cells T 33 (0, 0))) := ⟨(Hbe.out.block _ hl0).trans E0.out⟩
    have hos := HOs.out k
    by_cases hlt : ((64 * k : Nat) : Int) < min n 50000
    · have hkN : k + 1 ≤ N := by omega
      have HkN := Away.mk hkN
      have hk2 : k ≤ 1600 := by omega
      have Hnx := Away.mk (HO1.out k)
      have hfs := HFs.out k
      have hhs := HHs.out k
      have Hf := Away.mk (fun w1 => Hfx.out k w1 (by omega))
      have Hh := Away.mk (fun w1 => Hha.out k w1 (by omega))
      obtain ⟨o, ho⟩ : ∃ o, O k = o := ⟨_, rfl⟩
      obtain ⟨f, hf⟩ : ∃ f, F k = f := ⟨_, rfl⟩
      obtain ⟨g, hg⟩ : ∃ g, H k = g := ⟨_, rfl⟩
      obtain ⟨q, hq⟩ : ∃ q : Nat, 64 * k = q := ⟨_, rfl⟩
      rw [ho] at hos Hnx ⊢
      rw [hf] at hfs Hf Hh
      rw [hg] at hhs Hh Hnx
      rw [hq] at hos hlt
      have hd : decide ((q : Int) < min n 50000) = true := decide_eq_true hlt
      have hq2 : q ≤ 50000 := by omega
      have hw : IntKind.u64.wrap (k : Int) = (k : Int) := by rw [IntKind.wrap_u64]; omega
      have n1 : (9223372036854775807 < s.size + 4) = False := eq_false (by omega)
      have n2 : (9223372036854775807 < q + 64) = False := eq_false (by omega)
      clear ho hf hg hq hkN e0
      go_wp2_with fail
      refine wp_region_quiet_below (by kernel_rfl) (by kernel_rfl) ?_
      quiet_step (skip)
      refine wpQuiet_load rfl 33 _ rfl _ rfl 33 _ _ (fun w' hC => heap_regrown F0.out hC) Try.underlying33 rfl (by rw [HTs.out]; exact sizeT) ?_
      quiet_step (skip)
      quiet_step (skip)
      quiet_step (skip)
      quiet_step (skip)
      quiet_step (exact Calls.regrown_of (Hf.out _))
      quiet_step (skip)
      quiet_step (exact Calls.regrown_of (Hh.out _))
      quiet_step (skip)
      quiet_step (skip)
      refine wpQuiet_nil ?_
      intro w3 hC
      have Hb3 : Away (Below wr.heap.size wr w3) := ⟨by
        obtain ⟨pp, rfl⟩ := hC
        exact below_regrown _ _ _⟩
      clear hC
      go_wp2_with fail
      go_roundw
      case rel => exact ⟨k + 1, HkN.out, by rw [Hnx.out], by go_num, ⟨Hbe.out.trans (Hb3.out.mono Hbe.out.size)⟩⟩
      case measure => have := HkN.out; simp [intOf]; omega
    · obtain rfl : k = N := by omega
      obtain ⟨o, ho⟩ : ∃ o, O k = o := ⟨_, rfl⟩
      obtain ⟨q, hq⟩ : ∃ q : Nat, 64 * k = q := ⟨_, rfl⟩
      rw [ho] at hos Hct ⊢
      rw [hq] at hos hlt
      have hd : decide ((q : Int) < min n 50000) = false := decide_eq_false hlt
      clear ho hq e0
      go_wp2_with fail
      refine (Hct.out _).mono ?_
      rintro e w4 ⟨rfl, rfl⟩
      have Hb4 : Away (Below w.heap.size w w4) := ⟨HbW.out.trans (Hbe.out.mono HbW.out.size)⟩
      go_wp2_with fail
      go_ret
      exact ⟨rfl, Hb4.out⟩

theorem mask_any (T : Array Value) (x : Wd) (b : Bool) (s : ByteArray) (n : Int) (w : World) (h : TX T x) (hs : s.size ≤ 274877906944) :
    Calls Try.prog 14 #[.agg T, .bool b, .string s, .int .i64 n] w fun e w' => e = .returned (.string ⟨(ms x b s.data.toList n).toArray⟩) ∧ Below w.heap.size w w' := by
  cases b
  · exact mask_false T x s n w h hs
  · exact mask_true T x s n w h hs
end Go.Proofs.Ythfljfampfioaaa.rmask
