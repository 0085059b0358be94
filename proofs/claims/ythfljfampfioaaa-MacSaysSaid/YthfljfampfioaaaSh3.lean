/-
  What sha's start and hashed, Small and Large return: the document's hashes with whatever tables are passed; memory that was there before stays as it was. Conditions: the tables' words have their bits, the string has at most 2^40 - 1000 bytes.
  The document's tables as the numbers that layer 3 uses; the hashes of "abc", reckoned. Conditions: none.
-/
import Derived.Test.YthfljfampfioaaaSh2
import Derived.Test.YthfljfampfioaaaTMb
namespace Go.Proofs.Ythfljfampfioaaa.hashs
open Go.RowKit
open Go.Proofs.Ythfljfampfioaaa.oct Go.Proofs.Ythfljfampfioaaa.mem Go.Proofs.Ythfljfampfioaaa.arr Go.Proofs.Ythfljfampfioaaa.sham Go.Proofs.Ythfljfampfioaaa.block Go.Proofs.Ythfljfampfioaaa.thru Go.Proofs.Ythfljfampfioaaa.pad Go.Proofs.Ythfljfampfioaaa.ends

def V0 : V8 := ⟨0, 0, 0, 0, 0, 0, 0, 0⟩
theorem built32 (v : V8) : Try.prog.built 56 [(1, .agg (LK .u32 v.l))] = some (HC false v V0 ⟨#[]⟩ 0) := by kernel_rfl
theorem built64 (v : V8) : Try.prog.built 56 [(0, .bool true), (2, .agg (LK .u64 v.l))] = some (HC true V0 v ⟨#[]⟩ 0) := by kernel_rfl
theorem wpList_build1 {P : Program} {ops : Array Oper} {rest : List Oper} {o : Oper} {a : Act} {w : World} {Q : Exit → Act → World → Prop} (hg : o.guard = none) (t : TypeId) (i1 : Nat) (x1 : Operand) (ho : o.op = .build t #[(i1, x1)])
    (v1 : Value) (h1 : a.eval x1 = v1) (C : Array Value) (hC : P.built t [(i1, v1)] = some C)
    (h : wpList P ops Q rest (a.put o.dst (.agg C)) w) : wpList P ops Q (o :: rest) a w := by
  have e : ((#[(i1, x1)] : Array (Nat × Operand)).map fun (i, x) => (i, a.eval x)).toList = [(i1, v1)] := by simp [h1]
  exact wpList_build hg t _ ho (by rw [e, hC]; rfl) (by rw [e, hC]; exact h)
theorem wpList_build2 {P : Program} {ops : Array Oper} {rest : List Oper} {o : Oper} {a : Act} {w : World} {Q : Exit → Act → World → Prop} (hg : o.guard = none) (t : TypeId) (i1 i2 : Nat) (x1 x2 : Operand) (ho : o.op = .build t #[(i1, x1), (i2, x2)])
    (v1 v2 : Value) (h1 : a.eval x1 = v1) (h2 : a.eval x2 = v2) (C : Array Value) (hC : P.built t [(i1, v1), (i2, v2)] = some C)
    (h : wpList P ops Q rest (a.put o.dst (.agg C)) w) : wpList P ops Q (o :: rest) a w := by
  have e : ((#[(i1, x1), (i2, x2)] : Array (Nat × Operand)).map fun (i, x) => (i, a.eval x)).toList = [(i1, v1), (i2, v2)] := by simp [h1, h2]
  exact wpList_build hg t _ ho (by rw [e, hC]; rfl) (by rw [e, hC]; exact h)
theorem hc_size (wd : Bool) (sm lg : V8) (r : ByteArray) (n : Int) : (HC wd sm lg r n).size = 19 := rfl
theorem hc_one (wd : Bool) (sm lg : V8) (r : ByteArray) (n : Int) : (HC wd sm lg r n).all (·.oneCell') = true := by simp [HC, Value.oneCell']
theorem hc_set (wd : Bool) (sm lg : V8) (r b : ByteArray) (n m : Int) : ((HC wd sm lg r n).setIfInBounds 17 (.string b)).setIfInBounds 18 (.int .i64 m) = HC wd sm lg b m := by simp [HC]
theorem sizeT : (Try.prog.info? 33).map (·.size) = some 465 := (zero_of_info built.infoT).2
/-- the words of tables -/
structure TF (T : Array Value) (K3 : List Nat) (S3 : V8) (K6 : List Nat) (S6 : V8) : Prop where
  k32 : ∀ i, i < 64 → T[0 + i]? = some (.int .u32 ((K3.getD i 0 : Nat) : Int))
  s32 : ∀ i, i < 8 → T[64 + i]? = some (.int .u32 ((S3.l.getD i 0 : Nat) : Int))
  k64 : ∀ i, i < 80 → T[72 + i]? = some (.int .u64 ((K6.getD i 0 : Nat) : Int))
  s64 : ∀ i, i < 8 → T[152 + i]? = some (.int .u64 ((S6.l.getD i 0 : Nat) : Int))
  bk32 : ∀ i, K3.getD i 0 < 4294967296
  bs32 : S3.lt 4294967296
  bk64 : ∀ i, K6.getD i 0 < 18446744073709551616
  bs64 : S6.lt 18446744073709551616
  size : T.size = 465
  one : T.all (·.oneCell') = true

/-! ### 32 bits -/
/-- the words of a string's hash -/
def wd32 (K : List Nat) (v : V8) (l : List UInt8) : V8 := run32 K v (l ++ tail l.length 64) ((l ++ tail l.length 64).length / 64)
def hs32 (K : List Nat) (v : V8) (l : List UInt8) : List UInt8 := flat 4 (wd32 K v l).l
theorem en_wd32 (K : List Nat) (v : V8) (l : List UInt8) : en32 K (run32 K v l (l.length / 64)) (l.drop (64 * (l.length / 64))) l.length = wd32 K v l := by
  unfold en32 wd32
  have hk : 64 * (l.length / 64) ≤ l.length := by omega
  obtain ⟨k, hkk⟩ : ∃ k, l.length / 64 = k := ⟨_, rfl⟩
  rw [hkk] at hk ⊢
  have ha : (l.take (64 * k)).length = 64 * k := by rw [List.length_take]; omega
  have e : l ++ tail l.length 64 = l.take (64 * k) ++ (l.drop (64 * k) ++ tail l.length 64) := by rw [← List.append_assoc, List.take_append_drop]
  have e2 : (l ++ tail l.length 64).length / 64 = k + (l.drop (64 * k) ++ tail l.length 64).length / 64 := by
    rw [e, List.length_append, ha, Nat.mul_add_div (by decide)]
  rw [e2]
  have e3 : run32 K v l k = run32 K v (l ++ tail l.length 64) k := (run_pre32 K v l _ k hk).symm
  rw [e3]
  rw [show run32 K v (l ++ tail l.length 64) (k + (l.drop (64 * k) ++ tail l.length 64).length / 64) = run32 K (run32 K v (l ++ tail l.length 64) k) (l.drop (64 * k) ++ tail l.length 64) ((l.drop (64 * k) ++ tail l.length 64).length / 64) from by
    have := run_app32 K v (l.take (64 * k)) (l.drop (64 * k) ++ tail l.length 64) k ha ((l.drop (64 * k) ++ tail l.length 64).length / 64)
    rw [← e] at this
    exact this]

set_option maxRecDepth 100000 in
set_option maxHeartbeats 1000000 in
theorem start32 (gt : Nat) (T : Array Value) (S : V8) (w : World) (ht : w.heap[gt]? = some (.cells T 33 (0, 0))) (hS : ∀ i, i < 8 → T[64 + i]? = some (.int .u32 ((S.l.getD i 0 : Nat) : Int))) :
    Calls Try.prog 56 #[.pointer (some ⟨gt, 0, none⟩), .bool false] w fun e w' => e = .returned (.agg (HC false S V0 ⟨#[]⟩ 0)) ∧ Below w.heap.size w w' := by
  have hlt := lt_of_row ht
  have Hrg : Away (∀ o : Obj, (w.alloc o).rangeAt gt 64 (LK .u32 S.l).toList) := ⟨fun o j v hj => by
    have hj8 : j < 8 := by
      by_cases h8 : j < 8
      · exact h8
      · rw [List.getElem?_eq_none (by rw [Array.length_toList, lk_size]; exact Nat.le_of_not_lt h8)] at hj; cases hj
    rw [(below_alloc w o).cell (p := ⟨gt, 64 + j, none⟩) hlt, cell_of_row w gt (64 + j) T _ (0, 0) ht, hS j hj8, ← hj, Array.getElem?_toList, lk_get _ _ _ (show j < S.l.length from hj8)]⟩
  have Hb := Away.mk (built32 S)
  obtain ⟨C, HCe⟩ := ex_eq (HC false S V0 ⟨#[]⟩ 0)
  rw [HCe.out] at Hb ⊢
  have Hs : Away (C.size = 19) := ⟨by rw [← HCe.out]; rfl⟩
  have Ho : Away (C.all (·.oneCell') = true) := ⟨by rw [← HCe.out]; exact hc_one _ _ _ _ _⟩
  have Hsl : Away ((LK .u32 S.l).toList.length = 8) := ⟨by rw [Array.length_toList, lk_size]; rfl⟩
  obtain ⟨X, HX⟩ := ex_eq (LK .u32 S.l)
  rw [HX.out] at Hrg Hb Hsl
  clear HX HCe hS
  go_enter Try.func56, Try.ntmps56
  go_wp2_with (first
    | (refine wpList_load_mid rfl 25 _ rfl gt 64 rfl X.toList _ (Hrg.out _) Try.underlying25 rfl (by rw [Hsl.out]; exact z8_32) ?_)
    | (refine wpList_build1 rfl 56 1 _ rfl _ rfl C Hb.out ?_)
    | (refine wpList_store_new rfl 56 _ _ rfl C rfl rfl (by rw [Hs.out]; exact zHash) (by rw [Hs.out]; rfl) Ho.out rfl ?_))
  refine bodyPost_ret_by (v := .agg C) (results_cell_row rfl _ _ w.heap.size 56 _ (0, 0) _ rfl (heap_at _ _ _ rfl) Try.underlying56 rfl (by rw [Hs.out]; exact zHash)) rfl ?_
  exact ⟨rfl, below_alloc _ _⟩

set_option maxRecDepth 100000 in
set_option maxHeartbeats 1000000 in
theorem hashed32 (gt : Nat) (K : List Nat) (T : Array Value) (S : V8) (s : ByteArray) (w : World) (hv : S.lt 4294967296) (hK : ∀ i, K.getD i 0 < 4294967296)
    (ht : w.heap[gt]? = some (.cells T 33 (0, 0))) (hT : ∀ i, i < 64 → T[0 + i]? = some (.int .u32 ((K.getD i 0 : Nat) : Int))) (hS : ∀ i, i < 8 → T[64 + i]? = some (.int .u32 ((S.l.getD i 0 : Nat) : Int))) (hs : s.size ≤ 1099511626000) :
    Calls Try.prog 49 #[.pointer (some ⟨gt, 0, none⟩), .bool false, .string s] w fun e w' => e = .returned (.string ⟨(hs32 K S s.data.toList).toArray⟩) ∧ Below w.heap.size w w' := by
  have hlt := lt_of_row ht
  have Hst := Away.mk (start32 gt T S w ht hS)
  have Hthr : Away (∀ w1 : World, Below w.heap.size w w1 → Calls Try.prog 55 #[.pointer (some ⟨gt, 0, none⟩), .pointer (some ⟨w1.heap.size, 0, none⟩), .string s] (w1.alloc (.cells (HC false S V0 ⟨#[]⟩ 0) 56)) fun e w' => (∃ b : ByteArray, e = .returned (.string b) ∧ b.data.toList = s.data.toList.drop (64 * (s.size / 64))) ∧ At w1.heap.size (HC false (run32 K S s.data.toList (s.size / 64)) V0 ⟨#[]⟩ 0) 56 (w1.alloc (.cells (HC false S V0 ⟨#[]⟩ 0) 56)) w') := ⟨fun w1 hb1 => by
    have z1 := hb1.size
    exact through32 gt w1.heap.size K T S V0 ⟨#[]⟩ 0 s _ hv hK (((below_alloc w1 _).block gt (by omega)).trans ((hb1.block gt hlt).trans ht)) hT (heap_at _ _ _ rfl) (by omega) (by omega)⟩
  have Hend : Away (∀ (w1 : World) (b : ByteArray), Below w.heap.size w w1 → b.data.toList = s.data.toList.drop (64 * (s.size / 64)) → Calls Try.prog 66 #[.pointer (some ⟨gt, 0, none⟩), .agg (HC false (run32 K S s.data.toList (s.size / 64)) V0 b (s.size : Int))] w1 fun e w' => e = .returned (.string ⟨(hs32 K S s.data.toList).toArray⟩) ∧ Below w1.heap.size w1 w') := ⟨fun w1 b hb1 hbl => by
    have hbs : b.size = s.size - 64 * (s.size / 64) := by
      have h1 : b.data.toList.length = b.size := rfl
      have h2 : s.data.toList.length = s.size := rfl
      rw [← h1, hbl, List.length_drop, h2]
    have h := end32 gt K T (run32 K S s.data.toList (s.size / 64)) V0 b s.size w1 (run_lt32 _ _ _ hv _) hK ((hb1.block gt hlt).trans ht) hT (by omega) (by omega)
    rw [hbl] at h
    have e := en_wd32 K S s.data.toList
    rw [show s.data.toList.length = s.size from rfl] at e
    rw [e] at h
    exact h⟩
  have hzs : s.data.toList.length = s.size := rfl
  obtain ⟨H, HH⟩ := ex_eq (hs32 K S s.data.toList)
  rw [HH.out] at Hend ⊢
  obtain ⟨C, HCe⟩ := ex_eq (HC false S V0 ⟨#[]⟩ 0)
  rw [HCe.out] at Hst Hthr
  have Hs : Away (C.size = 19) := ⟨by rw [← HCe.out]; rfl⟩
  have Ho : Away (C.all (·.oneCell') = true) := ⟨by rw [← HCe.out]; exact hc_one _ _ _ _ _⟩
  obtain ⟨hz, hsize⟩ : True ∧ True := ⟨trivial, trivial⟩
  have HD2 : Away (∀ b : ByteArray, ((HC false (run32 K S s.data.toList (s.size / 64)) V0 ⟨#[]⟩ 0).setIfInBounds 17 (.string b)).setIfInBounds 18 (.int .i64 (s.size : Int)) = (HC false (run32 K S s.data.toList (s.size / 64)) V0 b (s.size : Int))) := ⟨fun b => hc_set _ _ _ _ b _ _⟩
  have HD17 : Away ((HC false (run32 K S s.data.toList (s.size / 64)) V0 ⟨#[]⟩ 0)[17]? = some (.string ⟨#[]⟩)) := ⟨rfl⟩
  have HD18 : Away ((HC false (run32 K S s.data.toList (s.size / 64)) V0 ⟨#[]⟩ 0)[18]? = some (.int .i64 0)) := ⟨rfl⟩
  have HDs : Away (∀ b : ByteArray, (HC false (run32 K S s.data.toList (s.size / 64)) V0 b (s.size : Int)).size = 19) := ⟨fun b => rfl⟩
  obtain ⟨F, HF⟩ : ∃ F : ByteArray → Array Value, Away (∀ b, (HC false (run32 K S s.data.toList (s.size / 64)) V0 b (s.size : Int)) = F b) := ⟨fun b => (HC false (run32 K S s.data.toList (s.size / 64)) V0 b (s.size : Int)), ⟨fun _ => rfl⟩⟩
  have Hend2 : Away (∀ (w1 : World) (b : ByteArray), Below w.heap.size w w1 → b.data.toList = s.data.toList.drop (64 * (s.size / 64)) → Calls Try.prog 66 #[.pointer (some ⟨gt, 0, none⟩), .agg (F b)] w1 fun e w' => e = .returned (.string ⟨H.toArray⟩) ∧ Below w1.heap.size w1 w') := ⟨fun w1 b h1 h2 => by rw [← HF.out b]; exact Hend.out w1 b h1 h2⟩
  have HFs : Away (∀ b, (F b).size = 19) := ⟨fun b => by rw [← HF.out b]; rfl⟩
  obtain ⟨D, HD⟩ := ex_eq (HC false (run32 K S s.data.toList (s.size / 64)) V0 ⟨#[]⟩ 0)
  rw [HD.out] at HD2 HD17 HD18 Hthr
  clear hv hK ht hT hS hz hsize Hend HH HCe HD HDs
  go_enter Try.func49, Try.ntmps49
  go_wp2_with fail
  refine Hst.out.mono ?_
  rintro e w1 ⟨rfl, hb1⟩
  have Hb1 := Away.mk hb1
  go_wp2_with (refine wpList_store_new rfl 56 _ _ rfl C rfl rfl (by rw [Hs.out]; exact zHash) (by rw [Hs.out]; rfl) Ho.out rfl ?_)
  refine (Hthr.out w1 Hb1.out).mono ?_
  rintro e w2 ⟨⟨b, rfl, hbl⟩, hA⟩
  have hz := hA.size
  have hzz : (w1.alloc (.cells C 56)).heap.size = w1.heap.size + 1 := by simp
  have hz1 := hb1.size
  have HA := Away.mk hA
  have Hbl := Away.mk hbl
  have c17 : w2.cell? ⟨w1.heap.size, 17, none⟩ = some (.string ⟨#[]⟩) := (hA.cell 17).trans HD17.out
  have f17 := hA.frozen 17
  have c18 : (w2.setCell ⟨w1.heap.size, 17, none⟩ (.string b)).cell? ⟨w1.heap.size, 18, none⟩ = some (.int .i64 0) := by
    rw [World.cell?_setCell_other _ _ _ _ (by intro e2; injection e2; omega)]; exact (hA.cell 18).trans HD18.out
  have f18 : w2.frozen? ⟨w1.heap.size, 18, none⟩ = false := hA.frozen 18
  have hrow := heap_setCell (heap_setCell hA.row 17 (.string b)) 18 (.int .i64 (s.size : Int))
  rw [HD2.out b, HF.out b] at hrow
  have Hb2 : Away (Below w.heap.size w ((w2.setCell ⟨w1.heap.size, 17, none⟩ (.string b)).setCell ⟨w1.heap.size, 18, none⟩ (.int .i64 (s.size : Int)))) :=
    ⟨((Hb1.out.trans ((below_alloc w1 _).mono hz1)).trans (hA.below (by omega) hz1)).trans (((Below.refl _ _).setCell (p := ⟨w1.heap.size, 17, none⟩) hz1 _).setCell (p := ⟨w1.heap.size, 18, none⟩) hz1 _)⟩
  clear hA hbl hb1
  have Hrow := Away.mk hrow
  clear hrow
  go_wp2_with (refine wpList_load_row rfl 56 _ rfl w1.heap.size rfl 56 _ (0, 0) _ Hrow.out Try.underlying56 rfl (by rw [HFs.out]; exact zHash) ?_)
  refine (Hend2.out _ b Hb2.out Hbl.out).mono ?_
  rintro e w3 ⟨rfl, hb3⟩
  have Hb3 : Away (Below w.heap.size w w3) := ⟨Hb2.out.trans (hb3.mono Hb2.out.size)⟩
  clear hb3
  go_wp2_with fail
  go_ret
  exact ⟨rfl, Hb3.out⟩
set_option maxRecDepth 100000 in
set_option maxHeartbeats 1000000 in
theorem whole32 (T : Array Value) (K3 K6 : List Nat) (S3 S6 : V8) (s : ByteArray) (w : World) (h : TF T K3 S3 K6 S6) (hs : s.size ≤ 1099511626000) :
    Calls Try.prog 27 #[.agg T, .string s] w fun e w' => e = .returned (.string ⟨(hs32 K3 S3 s.data.toList).toArray⟩) ∧ Below w.heap.size w w' := by
  have Hc : Away (Calls Try.prog 49 #[.pointer (some ⟨w.heap.size, 0, none⟩), .bool false, .string s] (w.alloc (.cells T 33)) fun e w' => e = .returned (.string ⟨(hs32 K3 S3 s.data.toList).toArray⟩) ∧ Below (w.alloc (.cells T 33)).heap.size (w.alloc (.cells T 33)) w') :=
    ⟨hashed32 w.heap.size K3 T S3 s _ h.bs32 h.bk32 (heap_at _ _ _ rfl) h.k32 h.s32 hs⟩
  obtain ⟨H, HH⟩ := ex_eq (hs32 K3 S3 s.data.toList)
  rw [HH.out] at Hc ⊢
  clear h HH
  go_enter Try.func27, Try.ntmps27
  go_wp2_with fail
  refine Hc.out.mono ?_
  rintro e w1 ⟨rfl, hb⟩
  have Hb : Away (Below w.heap.size w w1) := ⟨(below_alloc w _).trans (hb.mono (by simp))⟩
  clear hb
  go_wp2_with fail
  go_ret
  exact ⟨rfl, Hb.out⟩

/-! ### 64 bits -/
/-- the words of a string's hash -/
def wd64 (K : List Nat) (v : V8) (l : List UInt8) : V8 := run64 K v (l ++ tail l.length 128) ((l ++ tail l.length 128).length / 128)
def hs64 (K : List Nat) (v : V8) (l : List UInt8) : List UInt8 := flat 8 (wd64 K v l).l
theorem en_wd64 (K : List Nat) (v : V8) (l : List UInt8) : en64 K (run64 K v l (l.length / 128)) (l.drop (128 * (l.length / 128))) l.length = wd64 K v l := by
  unfold en64 wd64
  have hk : 128 * (l.length / 128) ≤ l.length := by omega
  obtain ⟨k, hkk⟩ : ∃ k, l.length / 128 = k := ⟨_, rfl⟩
  rw [hkk] at hk ⊢
  have ha : (l.take (128 * k)).length = 128 * k := by rw [List.length_take]; omega
  have e : l ++ tail l.length 128 = l.take (128 * k) ++ (l.drop (128 * k) ++ tail l.length 128) := by rw [← List.append_assoc, List.take_append_drop]
  have e2 : (l ++ tail l.length 128).length / 128 = k + (l.drop (128 * k) ++ tail l.length 128).length / 128 := by
    rw [e, List.length_append, ha, Nat.mul_add_div (by decide)]
  rw [e2]
  have e3 : run64 K v l k = run64 K v (l ++ tail l.length 128) k := (run_pre64 K v l _ k hk).symm
  rw [e3]
  rw [show run64 K v (l ++ tail l.length 128) (k + (l.drop (128 * k) ++ tail l.length 128).length / 128) = run64 K (run64 K v (l ++ tail l.length 128) k) (l.drop (128 * k) ++ tail l.length 128) ((l.drop (128 * k) ++ tail l.length 128).length / 128) from by
    have := run_app64 K v (l.take (128 * k)) (l.drop (128 * k) ++ tail l.length 128) k ha ((l.drop (128 * k) ++ tail l.length 128).length / 128)
    rw [← e] at this
    exact this]

set_option maxRecDepth 100000 in
set_option maxHeartbeats 1000000 in
theorem start64 (gt : Nat) (T : Array Value) (S : V8) (w : World) (ht : w.heap[gt]? = some (.cells T 33 (0, 0))) (hS : ∀ i, i < 8 → T[152 + i]? = some (.int .u64 ((S.l.getD i 0 : Nat) : Int))) :
    Calls Try.prog 56 #[.pointer (some ⟨gt, 0, none⟩), .bool true] w fun e w' => e = .returned (.agg (HC true V0 S ⟨#[]⟩ 0)) ∧ Below w.heap.size w w' := by
  have hlt := lt_of_row ht
  have Hrg : Away (∀ o : Obj, (w.alloc o).rangeAt gt 152 (LK .u64 S.l).toList) := ⟨fun o j v hj => by
    have hj8 : j < 8 := by
      by_cases h8 : j < 8
      · exact h8
      · rw [List.getElem?_eq_none (by rw [Array.length_toList, lk_size]; exact Nat.le_of_not_lt h8)] at hj; cases hj
    rw [(below_alloc w o).cell (p := ⟨gt, 152 + j, none⟩) hlt, cell_of_row w gt (152 + j) T _ (0, 0) ht, hS j hj8, ← hj, Array.getElem?_toList, lk_get _ _ _ (show j < S.l.length from hj8)]⟩
  have Hb := Away.mk (built64 S)
  obtain ⟨C, HCe⟩ := ex_eq (HC true V0 S ⟨#[]⟩ 0)
  rw [HCe.out] at Hb ⊢
  have Hs : Away (C.size = 19) := ⟨by rw [← HCe.out]; rfl⟩
  have Ho : Away (C.all (·.oneCell') = true) := ⟨by rw [← HCe.out]; exact hc_one _ _ _ _ _⟩
  have Hsl : Away ((LK .u64 S.l).toList.length = 8) := ⟨by rw [Array.length_toList, lk_size]; rfl⟩
  obtain ⟨X, HX⟩ := ex_eq (LK .u64 S.l)
  rw [HX.out] at Hrg Hb Hsl
  clear HX HCe hS
  go_enter Try.func56, Try.ntmps56
  go_wp2_with (first
    | (refine wpList_load_mid rfl 28 _ rfl gt 152 rfl X.toList _ (Hrg.out _) Try.underlying28 rfl (by rw [Hsl.out]; exact z8_64) ?_)
    | (refine wpList_build2 rfl 56 0 2 _ _ rfl _ _ rfl rfl C Hb.out ?_)
    | (refine wpList_store_new rfl 56 _ _ rfl C rfl rfl (by rw [Hs.out]; exact zHash) (by rw [Hs.out]; rfl) Ho.out rfl ?_))
  refine bodyPost_ret_by (v := .agg C) (results_cell_row rfl _ _ w.heap.size 56 _ (0, 0) _ rfl (heap_at _ _ _ rfl) Try.underlying56 rfl (by rw [Hs.out]; exact zHash)) rfl ?_
  exact ⟨rfl, below_alloc _ _⟩

set_option maxRecDepth 100000 in
set_option maxHeartbeats 1000000 in
theorem hashed64 (gt : Nat) (K : List Nat) (T : Array Value) (S : V8) (s : ByteArray) (w : World) (hv : S.lt 18446744073709551616) (hK : ∀ i, K.getD i 0 < 18446744073709551616)
    (ht : w.heap[gt]? = some (.cells T 33 (0, 0))) (hT : ∀ i, i < 80 → T[72 + i]? = some (.int .u64 ((K.getD i 0 : Nat) : Int))) (hS : ∀ i, i < 8 → T[152 + i]? = some (.int .u64 ((S.l.getD i 0 : Nat) : Int))) (hs : s.size ≤ 1099511626000) :
    Calls Try.prog 49 #[.pointer (some ⟨gt, 0, none⟩), .bool true, .string s] w fun e w' => e = .returned (.string ⟨(hs64 K S s.data.toList).toArray⟩) ∧ Below w.heap.size w w' := by
  have hlt := lt_of_row ht
  have Hst := Away.mk (start64 gt T S w ht hS)
  have Hthr : Away (∀ w1 : World, Below w.heap.size w w1 → Calls Try.prog 55 #[.pointer (some ⟨gt, 0, none⟩), .pointer (some ⟨w1.heap.size, 0, none⟩), .string s] (w1.alloc (.cells (HC true V0 S ⟨#[]⟩ 0) 56)) fun e w' => (∃ b : ByteArray, e = .returned (.string b) ∧ b.data.toList = s.data.toList.drop (128 * (s.size / 128))) ∧ At w1.heap.size (HC true V0 (run64 K S s.data.toList (s.size / 128)) ⟨#[]⟩ 0) 56 (w1.alloc (.cells (HC true V0 S ⟨#[]⟩ 0) 56)) w') := ⟨fun w1 hb1 => by
    have z1 := hb1.size
    exact through64 gt w1.heap.size K T V0 S ⟨#[]⟩ 0 s _ hv hK (((below_alloc w1 _).block gt (by omega)).trans ((hb1.block gt hlt).trans ht)) hT (heap_at _ _ _ rfl) (by omega) (by omega)⟩
  have Hend : Away (∀ (w1 : World) (b : ByteArray), Below w.heap.size w w1 → b.data.toList = s.data.toList.drop (128 * (s.size / 128)) → Calls Try.prog 66 #[.pointer (some ⟨gt, 0, none⟩), .agg (HC true V0 (run64 K S s.data.toList (s.size / 128)) b (s.size : Int))] w1 fun e w' => e = .returned (.string ⟨(hs64 K S s.data.toList).toArray⟩) ∧ Below w1.heap.size w1 w') := ⟨fun w1 b hb1 hbl => by
    have hbs : b.size = s.size - 128 * (s.size / 128) := by
      have h1 : b.data.toList.length = b.size := rfl
      have h2 : s.data.toList.length = s.size := rfl
      rw [← h1, hbl, List.length_drop, h2]
    have h := end64 gt K T V0 (run64 K S s.data.toList (s.size / 128)) b s.size w1 (run_lt64 _ _ _ hv _) hK ((hb1.block gt hlt).trans ht) hT (by omega) (by omega)
    rw [hbl] at h
    have e := en_wd64 K S s.data.toList
    rw [show s.data.toList.length = s.size from rfl] at e
    rw [e] at h
    exact h⟩
  have hzs : s.data.toList.length = s.size := rfl
  obtain ⟨H, HH⟩ := ex_eq (hs64 K S s.data.toList)
  rw [HH.out] at Hend ⊢
  obtain ⟨C, HCe⟩ := ex_eq (HC true V0 S ⟨#[]⟩ 0)
  rw [HCe.out] at Hst Hthr
  have Hs : Away (C.size = 19) := ⟨by rw [← HCe.out]; rfl⟩
  have Ho : Away (C.all (·.oneCell') = true) := ⟨by rw [← HCe.out]; exact hc_one _ _ _ _ _⟩
  obtain ⟨hz, hsize⟩ : True ∧ True := ⟨trivial, trivial⟩
  have HD2 : Away (∀ b : ByteArray, ((HC true V0 (run64 K S s.data.toList (s.size / 128)) ⟨#[]⟩ 0).setIfInBounds 17 (.string b)).setIfInBounds 18 (.int .i64 (s.size : Int)) = (HC true V0 (run64 K S s.data.toList (s.size / 128)) b (s.size : Int))) := ⟨fun b => hc_set _ _ _ _ b _ _⟩
  have HD17 : Away ((HC true V0 (run64 K S s.data.toList (s.size / 128)) ⟨#[]⟩ 0)[17]? = some (.string ⟨#[]⟩)) := ⟨rfl⟩
  have HD18 : Away ((HC true V0 (run64 K S s.data.toList (s.size / 128)) ⟨#[]⟩ 0)[18]? = some (.int .i64 0)) := ⟨rfl⟩
  have HDs : Away (∀ b : ByteArray, (HC true V0 (run64 K S s.data.toList (s.size / 128)) b (s.size : Int)).size = 19) := ⟨fun b => rfl⟩
  obtain ⟨F, HF⟩ : ∃ F : ByteArray → Array Value, Away (∀ b, (HC true V0 (run64 K S s.data.toList (s.size / 128)) b (s.size : Int)) = F b) := ⟨fun b => (HC true V0 (run64 K S s.data.toList (s.size / 128)) b (s.size : Int)), ⟨fun _ => rfl⟩⟩
  have Hend2 : Away (∀ (w1 : World) (b : ByteArray), Below w.heap.size w w1 → b.data.toList = s.data.toList.drop (128 * (s.size / 128)) → Calls Try.prog 66 #[.pointer (some ⟨gt, 0, none⟩), .agg (F b)] w1 fun e w' => e = .returned (.string ⟨H.toArray⟩) ∧ Below w1.heap.size w1 w') := ⟨fun w1 b h1 h2 => by rw [← HF.out b]; exact Hend.out w1 b h1 h2⟩
  have HFs : Away (∀ b, (F b).size = 19) := ⟨fun b => by rw [← HF.out b]; rfl⟩
  obtain ⟨D, HD⟩ := ex_eq (HC true V0 (run64 K S s.data.toList (s.size / 128)) ⟨#[]⟩ 0)
  rw [HD.out] at HD2 HD17 HD18 Hthr
  clear hv hK ht hT hS hz hsize Hend HH HCe HD HDs
  go_enter Try.func49, Try.ntmps49
  go_wp2_with fail
  refine Hst.out.mono ?_
  rintro e w1 ⟨rfl, hb1⟩
  have Hb1 := Away.mk hb1
  go_wp2_with (refine wpList_store_new rfl 56 _ _ rfl C rfl rfl (by rw [Hs.out]; exact zHash) (by rw [Hs.out]; rfl) Ho.out rfl ?_)
  refine (Hthr.out w1 Hb1.out).mono ?_
  rintro e w2 ⟨⟨b, rfl, hbl⟩, hA⟩
  have hz := hA.size
  have hzz : (w1.alloc (.cells C 56)).heap.size = w1.heap.size + 1 := by simp
  have hz1 := hb1.size
  have HA := Away.mk hA
  have Hbl := Away.mk hbl
  have c17 : w2.cell? ⟨w1.heap.size, 17, none⟩ = some (.string ⟨#[]⟩) := (hA.cell 17).trans HD17.out
  have f17 := hA.frozen 17
  have c18 : (w2.setCell ⟨w1.heap.size, 17, none⟩ (.string b)).cell? ⟨w1.heap.size, 18, none⟩ = some (.int .i64 0) := by
    rw [World.cell?_setCell_other _ _ _ _ (by intro e2; injection e2; omega)]; exact (hA.cell 18).trans HD18.out
  have f18 : w2.frozen? ⟨w1.heap.size, 18, none⟩ = false := hA.frozen 18
  have hrow := heap_setCell (heap_setCell hA.row 17 (.string b)) 18 (.int .i64 (s.size : Int))
  rw [HD2.out b, HF.out b] at hrow
  have Hb2 : Away (Below w.heap.size w ((w2.setCell ⟨w1.heap.size, 17, none⟩ (.string b)).setCell ⟨w1.heap.size, 18, none⟩ (.int .i64 (s.size : Int)))) :=
    ⟨((Hb1.out.trans ((below_alloc w1 _).mono hz1)).trans (hA.below (by omega) hz1)).trans (((Below.refl _ _).setCell (p := ⟨w1.heap.size, 17, none⟩) hz1 _).setCell (p := ⟨w1.heap.size, 18, none⟩) hz1 _)⟩
  clear hA hbl hb1
  have Hrow := Away.mk hrow
  clear hrow
  go_wp2_with (refine wpList_load_row rfl 56 _ rfl w1.heap.size rfl 56 _ (0, 0) _ Hrow.out Try.underlying56 rfl (by rw [HFs.out]; exact zHash) ?_)
  refine (Hend2.out _ b Hb2.out Hbl.out).mono ?_
  rintro e w3 ⟨rfl, hb3⟩
  have Hb3 : Away (Below w.heap.size w w3) := ⟨Hb2.out.trans (hb3.mono Hb2.out.size)⟩
  clear hb3
  go_wp2_with fail
  go_ret
  exact ⟨rfl, Hb3.out⟩
set_option maxRecDepth 100000 in
set_option maxHeartbeats 1000000 in
theorem whole64 (T : Array Value) (K3 K6 : List Nat) (S3 S6 : V8) (s : ByteArray) (w : World) (h : TF T K3 S3 K6 S6) (hs : s.size ≤ 1099511626000) :
    Calls Try.prog 26 #[.agg T, .string s] w fun e w' => e = .returned (.string ⟨(hs64 K6 S6 s.data.toList).toArray⟩) ∧ Below w.heap.size w w' := by
  have Hc : Away (Calls Try.prog 49 #[.pointer (some ⟨w.heap.size, 0, none⟩), .bool true, .string s] (w.alloc (.cells T 33)) fun e w' => e = .returned (.string ⟨(hs64 K6 S6 s.data.toList).toArray⟩) ∧ Below (w.alloc (.cells T 33)).heap.size (w.alloc (.cells T 33)) w') :=
    ⟨hashed64 w.heap.size K6 T S6 s _ h.bs64 h.bk64 (heap_at _ _ _ rfl) h.k64 h.s64 hs⟩
  obtain ⟨H, HH⟩ := ex_eq (hs64 K6 S6 s.data.toList)
  rw [HH.out] at Hc ⊢
  clear h HH
  go_enter Try.func26, Try.ntmps26
  go_wp2_with fail
  refine Hc.out.mono ?_
  rintro e w1 ⟨rfl, hb⟩
  have Hb : Away (Below w.heap.size w w1) := ⟨(below_alloc w _).trans (hb.mono (by simp))⟩
  clear hb
  go_wp2_with fail
  go_ret
  exact ⟨rfl, Hb.out⟩

end Go.Proofs.Ythfljfampfioaaa.hashs

namespace Go.Proofs.Ythfljfampfioaaa.tabs
open Go.RowKit
open Go.Proofs.Ythfljfampfioaaa.oct Go.Proofs.Ythfljfampfioaaa.arr Go.Proofs.Ythfljfampfioaaa.tabv Go.Proofs.Ythfljfampfioaaa.sham Go.Proofs.Ythfljfampfioaaa.hashs Go.Proofs.Ythfljfampfioaaa.tabd Go.Proofs.Ythfljfampfioaaa.primm

/-- the tables' words -/
def k32 : List Nat := (List.range 64).map fun j => r3 j / 4294967296
def k64 : List Nat := (List.range 80).map r3
def s32 : V8 := ofL ((List.range 8).map fun j => r2 j / 4294967296)
def s64 : V8 := ofL ((List.range 8).map r2)
set_option maxRecDepth 100000 in
theorem k32_is : k32 = [1116352408, 1899447441, 3049323471, 3921009573, 961987163, 1508970993, 2453635748, 2870763221, 3624381080, 310598401, 607225278, 1426881987, 1925078388, 2162078206, 2614888103, 3248222580, 3835390401, 4022224774, 264347078, 604807628, 770255983, 1249150122, 1555081692, 1996064986, 2554220882, 2821834349, 2952996808, 3210313671, 3336571891, 3584528711, 113926993, 338241895, 666307205, 773529912, 1294757372, 1396182291, 1695183700, 1986661051, 2177026350, 2456956037, 2730485921, 2820302411, 3259730800, 3345764771, 3516065817, 3600352804, 4094571909, 275423344, 430227734, 506948616, 659060556, 883997877, 958139571, 1322822218, 1537002063, 1747873779, 1955562222, 2024104815, 2227730452, 2361852424, 2428436474, 2756734187, 3204031479, 3329325298] := by decide +kernel
set_option maxRecDepth 100000 in
theorem k64_is : k64 = [4794697086780616226, 8158064640168781261, 13096744586834688815, 16840607885511220156, 4131703408338449720, 6480981068601479193, 10538285296894168987, 12329834152419229976, 15566598209576043074, 1334009975649890238, 2608012711638119052, 6128411473006802146, 8268148722764581231, 9286055187155687089, 11230858885718282805, 13951009754708518548, 16472876342353939154, 17275323862435702243, 1135362057144423861, 2597628984639134821, 3308224258029322869, 5365058923640841347, 6679025012923562964, 8573033837759648693, 10970295158949994411, 12119686244451234320, 12683024718118986047, 13788192230050041572, 14330467153632333762, 15395433587784984357, 489312712824947311, 1452737877330783856, 2861767655752347644, 3322285676063803686, 5560940570517711597, 5996557281743188959, 7280758554555802590, 8532644243296465576, 9350256976987008742, 10552545826968843579, 11727347734174303076, 12113106623233404929, 14000437183269869457, 14369950271660146224, 15101387698204529176, 15463397548674623760, 17586052441742319658, 1182934255886127544, 1847814050463011016, 2177327727835720531, 2830643537854262169, 3796741975233480872, 4115178125766777443, 5681478168544905931, 6601373596472566643, 7507060721942968483, 8399075790359081724, 8693463985226723168, 9568029438360202098, 10144078919501101548, 10430055236837252648, 11840083180663258601, 13761210420658862357, 14299343276471374635, 14566680578165727644, 15097957966210449927, 16922976911328602910, 17689382322260857208, 500013540394364858, 748580250866718886, 1242879168328830382, 1977374033974150939, 2944078676154940804, 3659926193048069267, 4368137639120453308, 4836135668995329356, 5532061633213252278, 6448918945643986474, 6902733635092675308, 7801388544844847127] := by decide +kernel
theorem s32_is : s32 = ofL [1779033703, 3144134277, 1013904242, 2773480762, 1359893119, 2600822924, 528734635, 1541459225] := congrArg ofL (by decide +kernel)
theorem s64_is : s64 = ofL [7640891576956012808, 13503953896175478587, 4354685564936845355, 11912009170470909681, 5840696475078001361, 11170449401992604703, 2270897969802886507, 6620516959819538809] := congrArg ofL (by decide +kernel)
set_option maxRecDepth 100000 in
theorem abc32l : (hs32 [1116352408, 1899447441, 3049323471, 3921009573, 961987163, 1508970993, 2453635748, 2870763221, 3624381080, 310598401, 607225278, 1426881987, 1925078388, 2162078206, 2614888103, 3248222580, 3835390401, 4022224774, 264347078, 604807628, 770255983, 1249150122, 1555081692, 1996064986, 2554220882, 2821834349, 2952996808, 3210313671, 3336571891, 3584528711, 113926993, 338241895, 666307205, 773529912, 1294757372, 1396182291, 1695183700, 1986661051, 2177026350, 2456956037, 2730485921, 2820302411, 3259730800, 3345764771, 3516065817, 3600352804, 4094571909, 275423344, 430227734, 506948616, 659060556, 883997877, 958139571, 1322822218, 1537002063, 1747873779, 1955562222, 2024104815, 2227730452, 2361852424, 2428436474, 2756734187, 3204031479, 3329325298] (ofL [1779033703, 3144134277, 1013904242, 2773480762, 1359893119, 2600822924, 528734635, 1541459225]) [97, 98, 99]).take 4 = [186, 120, 22, 191] := by decide +kernel
set_option maxRecDepth 100000 in
theorem abc64l : (hs64 [4794697086780616226, 8158064640168781261, 13096744586834688815, 16840607885511220156, 4131703408338449720, 6480981068601479193, 10538285296894168987, 12329834152419229976, 15566598209576043074, 1334009975649890238, 2608012711638119052, 6128411473006802146, 8268148722764581231, 9286055187155687089, 11230858885718282805, 13951009754708518548, 16472876342353939154, 17275323862435702243, 1135362057144423861, 2597628984639134821, 3308224258029322869, 5365058923640841347, 6679025012923562964, 8573033837759648693, 10970295158949994411, 12119686244451234320, 12683024718118986047, 13788192230050041572, 14330467153632333762, 15395433587784984357, 489312712824947311, 1452737877330783856, 2861767655752347644, 3322285676063803686, 5560940570517711597, 5996557281743188959, 7280758554555802590, 8532644243296465576, 9350256976987008742, 10552545826968843579, 11727347734174303076, 12113106623233404929, 14000437183269869457, 14369950271660146224, 15101387698204529176, 15463397548674623760, 17586052441742319658, 1182934255886127544, 1847814050463011016, 2177327727835720531, 2830643537854262169, 3796741975233480872, 4115178125766777443, 5681478168544905931, 6601373596472566643, 7507060721942968483, 8399075790359081724, 8693463985226723168, 9568029438360202098, 10144078919501101548, 10430055236837252648, 11840083180663258601, 13761210420658862357, 14299343276471374635, 14566680578165727644, 15097957966210449927, 16922976911328602910, 17689382322260857208, 500013540394364858, 748580250866718886, 1242879168328830382, 1977374033974150939, 2944078676154940804, 3659926193048069267, 4368137639120453308, 4836135668995329356, 5532061633213252278, 6448918945643986474, 6902733635092675308, 7801388544844847127] (ofL [7640891576956012808, 13503953896175478587, 4354685564936845355, 11912009170470909681, 5840696475078001361, 11170449401992604703, 2270897969802886507, 6620516959819538809]) [97, 98, 99]).take 4 = [221, 175, 53, 161] := by decide +kernel
theorem abc32 : (hs32 k32 s32 [97, 98, 99]).take 4 = [186, 120, 22, 191] := by rw [k32_is, s32_is]; exact abc32l
theorem abc64 : (hs64 k64 s64 [97, 98, 99]).take 4 = [221, 175, 53, 161] := by rw [k64_is, s64_is]; exact abc64l
theorem map_get (f : Nat → Nat) (n i : Nat) (h : i < n) : ((List.range n).map f).getD i 0 = f i := by simp [List.getD_eq_getElem?_getD, h]
theorem map_lt (f : Nat → Nat) (n m : Nat) (hm : 0 < m) (h : ∀ i, f i < m) (i : Nat) : ((List.range n).map f).getD i 0 < m := by
  by_cases hi : i < n
  · rw [map_get f n i hi]; exact h i
  · rw [List.getD_eq_getElem?_getD, List.getElem?_eq_none (by simp; omega)]; exact hm
theorem ofL_l (l : List Nat) (i : Nat) (h : i < 8) : (ofL l).l.getD i 0 = l.getD i 0 := by
  match i, h with
  | 0, _ => rfl
  | 1, _ => rfl
  | 2, _ => rfl
  | 3, _ => rfl
  | 4, _ => rfl
  | 5, _ => rfl
  | 6, _ => rfl
  | 7, _ => rfl
theorem ofL_lt (l : List Nat) (m : Nat) (h : ∀ i, l.getD i 0 < m) : (ofL l).lt m := ⟨h 0, h 1, h 2, h 3, h 4, h 5, h 6, h 7⟩
theorem hi_lt (x : Nat) (h : x < 18446744073709551616) : x / 4294967296 < 4294967296 := by omega
/-- the document's tables -/
theorem tf_doc : TF TA k32 s32 k64 s64 where
  k32 := fun i hi => by rw [Nat.zero_add, ta_get i (by omega), tv_small i hi, k32, map_get _ _ _ hi]
  s32 := fun i hi => by rw [ta_get _ (by omega), tv_sstart i hi, s32, ofL_l _ _ hi, map_get _ _ _ hi]
  k64 := fun i hi => by rw [ta_get _ (by omega), tv_large i hi, k64, map_get _ _ _ hi]
  s64 := fun i hi => by rw [ta_get _ (by omega), tv_lstart i hi, s64, ofL_l _ _ hi, map_get _ _ _ hi]
  bk32 := map_lt _ _ _ (by decide) (fun i => hi_lt _ (r3_lt i))
  bs32 := ofL_lt _ _ (map_lt _ _ _ (by decide) (fun i => hi_lt _ (r2_lt i)))
  bk64 := map_lt _ _ _ (by decide) (fun i => r3_lt i)
  bs64 := ofL_lt _ _ (map_lt _ _ _ (by decide) (fun i => r2_lt i))
  size := ta_size
  one := ta_one
/-- tables one of whose words for Large is another -/
theorem tf_large {T : Array Value} {K3 K6 : List Nat} {S3 S6 : V8} (h : TF T K3 S3 K6 S6) (hl : K6.length = 80) (k x : Nat) (hk : k < 80) (hx : x < 18446744073709551616) :
    TF (T.setIfInBounds (72 + k) (.int .u64 (x : Int))) K3 S3 (K6.set k x) S6 where
  k32 := fun i hi => by rw [Array.getElem?_setIfInBounds, if_neg (by omega)]; exact h.k32 i hi
  s32 := fun i hi => by rw [Array.getElem?_setIfInBounds, if_neg (by omega)]; exact h.s32 i hi
  k64 := fun i hi => by
    rw [Array.getElem?_setIfInBounds]
    by_cases e : k = i
    · subst e
      rw [if_pos rfl, if_pos (by rw [h.size]; omega), List.getD_eq_getElem?_getD, List.getElem?_set_self (by omega)]
      rfl
    · rw [if_neg (by omega), List.getD_eq_getElem?_getD, List.getElem?_set_ne e, ← List.getD_eq_getElem?_getD]; exact h.k64 i hi
  s64 := fun i hi => by rw [Array.getElem?_setIfInBounds, if_neg (by omega)]; exact h.s64 i hi
  bk32 := h.bk32
  bs32 := h.bs32
  bk64 := fun i => by
    rw [List.getD_eq_getElem?_getD, List.getElem?_set]
    split
    · split
      · exact hx
      · decide
    · rw [← List.getD_eq_getElem?_getD]; exact h.bk64 i
  bs64 := h.bs64
  size := by rw [Array.size_setIfInBounds]; exact h.size
  one := by
    have := h.one
    rw [Array.all_eq_true_iff_forall_mem] at *
    intro v hv
    rcases Array.mem_or_eq_of_mem_setIfInBounds hv with h2 | rfl
    · exact this v h2
    · rfl
/-- tables one of whose words for Small is another -/
theorem tf_small {T : Array Value} {K3 K6 : List Nat} {S3 S6 : V8} (h : TF T K3 S3 K6 S6) (hl : K3.length = 64) (k x : Nat) (hk : k < 64) (hx : x < 4294967296) :
    TF (T.setIfInBounds k (.int .u32 (x : Int))) (K3.set k x) S3 K6 S6 where
  k32 := fun i hi => by
    rw [Array.getElem?_setIfInBounds]
    by_cases e : k = i
    · subst e
      rw [if_pos (by omega), if_pos (by rw [h.size]; omega), List.getD_eq_getElem?_getD, List.getElem?_set_self (by omega)]
      rfl
    · rw [if_neg (by omega), List.getD_eq_getElem?_getD, List.getElem?_set_ne e, ← List.getD_eq_getElem?_getD]; exact h.k32 i hi
  s32 := fun i hi => by rw [Array.getElem?_setIfInBounds, if_neg (by omega)]; exact h.s32 i hi
  k64 := fun i hi => by rw [Array.getElem?_setIfInBounds, if_neg (by omega)]; exact h.k64 i hi
  s64 := fun i hi => by rw [Array.getElem?_setIfInBounds, if_neg (by omega)]; exact h.s64 i hi
  bk32 := fun i => by
    rw [List.getD_eq_getElem?_getD, List.getElem?_set]
    split
    · split
      · exact hx
      · decide
    · rw [← List.getD_eq_getElem?_getD]; exact h.bk32 i
  bs32 := h.bs32
  bk64 := h.bk64
  bs64 := h.bs64
  size := by rw [Array.size_setIfInBounds]; exact h.size
  one := by
    have := h.one
    rw [Array.all_eq_true_iff_forall_mem] at *
    intro v hv
    rcases Array.mem_or_eq_of_mem_setIfInBounds hv with h2 | rfl
    · exact this v h2
    · rfl
theorem k32_length : k32.length = 64 := by simp [k32]
theorem k64_length : k64.length = 80 := by simp [k64]
theorem hs_length32 (K : List Nat) (v : V8) (l : List UInt8) : (hs32 K v l).length = 32 := by rw [hs32, ends.flat_length]; rfl
theorem hs_length64 (K : List Nat) (v : V8) (l : List UInt8) : (hs64 K v l).length = 64 := by rw [hs64, ends.flat_length]; rfl
end Go.Proofs.Ythfljfampfioaaa.tabs
