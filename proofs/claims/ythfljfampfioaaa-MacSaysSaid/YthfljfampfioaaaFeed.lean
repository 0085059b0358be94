/-
  What sha's Right, Start, Feed and End return for a hasher that was fed with a string: it is valid; the hasher that was fed with both; the hash. Conditions: the tables' words have their bits, the strings have at most 2^39 bytes.
-/
import Derived.Test.YthfljfampfioaaaRBlk
import Derived.Test.YthfljfampfioaaaShelf
import Derived.BigRegion
namespace Go.Proofs.Ythfljfampfioaaa.feed
open Go.RowKit
open Go.Proofs.Ythfljfampfioaaa.oct Go.Proofs.Ythfljfampfioaaa.mem Go.Proofs.Ythfljfampfioaaa.arr Go.Proofs.Ythfljfampfioaaa.sham Go.Proofs.Ythfljfampfioaaa.block Go.Proofs.Ythfljfampfioaaa.thru Go.Proofs.Ythfljfampfioaaa.pad Go.Proofs.Ythfljfampfioaaa.ends Go.Proofs.Ythfljfampfioaaa.hashs Go.Proofs.Ythfljfampfioaaa.rblk
set_option maxRecDepth 100000 in
set_option maxHeartbeats 1000000 in
theorem sclone (x : ByteArray) (w : World) (h : x.size ≤ 281474976710656) : Calls Try.prog 39 #[.string x] w fun e w' => e = .returned (.string x) ∧ Below w.heap.size w w' := by
  have H := Away.mk (fun w1 : World => shelf.clone x w1 h)
  clear h
  go_enter Try.func39, Try.ntmps39
  go_wp2_with fail
  refine (H.out _).mono ?_
  rintro e w1 ⟨rfl, hb⟩
  go_wp2_with fail
  go_ret
  exact ⟨rfl, hb⟩
theorem results_cell_tmp {P : Program} {fn : Func} {p u : Tmp} {ty : TypeId} (h : fn.results = #[.cell p ty, .tmp u]) (tmps : Array Value) (w : World) (g : Nat) (t : TypeId) (cs : Array Value) (fr : Nat × Nat) (d : TypeDesc)
    (hp : tmps.getD p undef = .pointer (some ⟨g, 0, none⟩)) (hg : w.heap[g]? = some (.cells cs t fr))
    (hu : P.underlying ty = some d) (hd : (match d with | .struct _ | .array _ _ => true | _ => false) = true) (hi : (P.info? ty).map (·.size) = some cs.size) (v : Value) (hv : tmps.getD u undef = v) :
    (results fn tmps).run P w = .ok (.tuple #[.agg cs, v]) w := by
  have hp' : tmps[p]?.getD undef = .pointer (some ⟨g, 0, none⟩) := by simpa using hp
  have hv' : tmps[u]?.getD undef = v := by simpa using hv
  simp [results, h, hp', hv', asAddr, run_loadVar_row w g t ty cs fr d hg hu hd hi]

/-! ### 32 bits -/
set_option maxRecDepth 100000 in
set_option maxHeartbeats 1000000 in
theorem right32 (sm lg : V8) (r : ByteArray) (n : Nat) (w : World) (hn : n ≤ 1125899906842624) (hr : r.size = n % 64) :
    Calls Try.prog 53 #[.agg (HC false sm lg r n)] w fun e w' => e = .returned (.bool true) ∧ Below w.heap.size w w' := by
  obtain ⟨A, HA⟩ := ex_eq (HC false sm lg r n)
  obtain ⟨w0, Hw0⟩ := ex_eq (w.alloc (.cells A 56))
  have g0 : w0.heap[w.heap.size]? = some (.cells A 56 (0, 0)) := by rw [← Hw0.out]; exact heap_at _ _ _ rfl
  have c17 : w0.cell? ⟨w.heap.size, 17, none⟩ = some (.string r) := (cell_of_row w0 _ _ _ _ (0, 0) g0).trans (by rw [← HA.out]; rfl)
  have c18 : w0.cell? ⟨w.heap.size, 18, none⟩ = some (.int .i64 (n : Int)) := (cell_of_row w0 _ _ _ _ (0, 0) g0).trans (by rw [← HA.out]; rfl)
  have c0 : w0.cell? ⟨w.heap.size, 0, none⟩ = some (.bool false) := (cell_of_row w0 _ _ _ _ (0, 0) g0).trans (by rw [← HA.out]; rfl)
  have Hb0 : Away (Below w.heap.size w w0) := ⟨by rw [← Hw0.out]; exact below_alloc _ _⟩
  have hd1 : decide ((n : Int) ≤ 1125899906842624) = true := decide_eq_true (by omega)
  have hm : (n : Int).tmod 64 = (r.size : Int) := by rw [Int.tmod_eq_emod_of_nonneg (by omega)]; omega
  have hm2 : (n : Int) % 64 = (r.size : Int) := by omega
  rw [HA.out]
  clear g0 hr
  go_enter Try.func53, Try.ntmps53
  go_wp2_with fail
  rw [Hw0.out]
  refine still_all (by kernel_rfl) (by kernel_rfl) ?_
  repeat still_step
  still_call (size32 _)
  repeat still_step
  refine wpStill_nil ?_
  go_wp2_with fail
  go_ret
  exact ⟨rfl, Hb0.out.drew⟩

set_option maxRecDepth 100000 in
set_option maxHeartbeats 1000000 in
theorem newhash32 (T : Array Value) (K3 K6 : List Nat) (S3 S6 : V8) (w : World) (h : TF T K3 S3 K6 S6) :
    Calls Try.prog 33 #[.agg T, .bool false] w fun e w' => e = .returned (.agg (HC false S3 V0 ⟨#[]⟩ 0)) ∧ Below w.heap.size w w' := by
  obtain ⟨Z, HZ⟩ := ex_eq (HC false V0 V0 ⟨#[]⟩ 0)
  have eZ : (#[.bool false, .int .u32 0, .int .u32 0, .int .u32 0, .int .u32 0, .int .u32 0, .int .u32 0, .int .u32 0, .int .u32 0, .int .u64 0, .int .u64 0, .int .u64 0, .int .u64 0, .int .u64 0, .int .u64 0, .int .u64 0, .int .u64 0, .string ⟨#[]⟩, .int .i64 0] : Array Value) = Z := by rw [← HZ.out]; rfl
  have HZs : Away (Z.size = 19) := ⟨by rw [← HZ.out]; rfl⟩
  obtain ⟨C, HC⟩ := ex_eq (HC false S3 V0 ⟨#[]⟩ 0)
  have HCs : Away (C.size = 19) := ⟨by rw [← HC.out]; rfl⟩
  have HCo : Away (C.all (·.oneCell') = true) := ⟨by rw [← HC.out]; exact hc_one _ _ _ _ _⟩
  have Hst : Away (∀ w1 : World, w1.heap[w.heap.size]? = some (.cells T 33 (0, 0)) → Calls Try.prog 56 #[.pointer (some ⟨w.heap.size, 0, none⟩), .bool false] w1 fun e w' => e = .returned (.agg C) ∧ Below w1.heap.size w1 w') := ⟨fun w1 hw => by rw [← HC.out]; exact start32 w.heap.size T S3 w1 hw h.s32⟩
  rw [HC.out]
  clear h HC HZ
  go_enter Try.func33, Try.ntmps33
  go_wp2_with fail
  clear eZ
  obtain ⟨w0, Hw0⟩ := ex_eq ((w.alloc (.cells T 33)).alloc (.cells Z 56))
  have g0 : w0.heap[w.heap.size]? = some (.cells T 33 (0, 0)) := by rw [← Hw0.out, heap_past _ _ _ (by simp), heap_at _ _ _ rfl]
  have g1 : w0.heap[w.heap.size + 1]? = some (.cells Z 56 (0, 0)) := by rw [← Hw0.out, heap_at _ _ _ (by simp)]
  have hb0 : Below w.heap.size w w0 := by rw [← Hw0.out]; exact ((Below.refl _ _).alloc (Nat.le_refl _) _).alloc (by simp) _
  have z0 : w0.heap.size = w.heap.size + 2 := by rw [← Hw0.out]; simp
  rw [Hw0.out]
  refine (Hst.out w0 g0).mono ?_
  rintro e w1 ⟨rfl, hb1⟩
  have G1 := Away.mk ((hb1.block (w.heap.size + 1) (by omega)).trans g1)
  have Hb1 : Away (Below w.heap.size w w1) := ⟨hb0.trans (hb1.mono (by omega))⟩
  clear g0 g1 hb0 hb1
  go_wp2_with (refine wpList_store_row rfl 56 _ _ rfl (w.heap.size + 1) C rfl rfl 56 _ G1.out (by rw [HCs.out]; exact zHash) (by rw [HZs.out, HCs.out]) HCo.out ?_)
  refine bodyPost_ret_by (v := .agg C) (results_cell_row rfl _ _ (w.heap.size + 1) 56 _ (0, 0) _ rfl (setRow_heap _ _ _ _ _ _ G1.out) Try.underlying56 rfl (by rw [HCs.out]; exact zHash)) rfl ?_
  exact ⟨rfl, Hb1.out.trans (below_setRow _ _ _ (by omega))⟩

set_option maxRecDepth 100000 in
set_option maxHeartbeats 1000000 in
theorem ended32 (T : Array Value) (K3 K6 : List Nat) (S3 S6 : V8) (A : List UInt8) (r : ByteArray) (w : World) (h : TF T K3 S3 K6 S6) (hr : r.data.toList = A.drop (64 * (A.length / 64))) (hA : A.length ≤ 549755813888) :
    Calls Try.prog 58 #[.agg T, .agg (HC false (run32 K3 S3 A (A.length / 64)) V0 r (A.length : Int))] w fun e w' => e = .returned (.tuple #[.string ⟨(hs32 K3 S3 A).toArray⟩, .int .i64 0]) ∧ Below w.heap.size w w' := by
  have hrs : r.size = A.length % 64 := by
    have h1 : r.data.toList.length = r.size := rfl
    rw [← h1, hr, List.length_drop]; omega
  have Hr : Away (∀ w1 : World, Calls Try.prog 53 #[.agg (HC false (run32 K3 S3 A (A.length / 64)) V0 r (A.length : Int))] w1 fun e w' => e = .returned (.bool true) ∧ Below w1.heap.size w1 w') := ⟨fun w1 => right32 _ _ r A.length w1 (by omega) hrs⟩
  have He : Away (∀ w1 : World, w1.heap[w.heap.size]? = some (.cells T 33 (0, 0)) → Calls Try.prog 66 #[.pointer (some ⟨w.heap.size, 0, none⟩), .agg (HC false (run32 K3 S3 A (A.length / 64)) V0 r (A.length : Int))] w1 fun e w' => e = .returned (.string ⟨(hs32 K3 S3 A).toArray⟩) ∧ Below w1.heap.size w1 w') := ⟨fun w1 hw => by
    have hh := end32 w.heap.size K3 T (run32 K3 S3 A (A.length / 64)) V0 r A.length w1 (run_lt32 _ _ _ h.bs32 _) h.bk32 hw h.k32 (by omega) (by omega)
    rw [hr, en_wd32] at hh
    exact hh⟩
  obtain ⟨C, HC⟩ := ex_eq (HC false (run32 K3 S3 A (A.length / 64)) V0 r (A.length : Int))
  have HCs : Away (C.size = 19) := ⟨by rw [← HC.out]; rfl⟩
  rw [HC.out] at Hr He ⊢
  obtain ⟨X, HX⟩ := ex_eq (hs32 K3 S3 A)
  rw [HX.out] at He ⊢
  clear h HC HX hr hrs
  go_enter Try.func58, Try.ntmps58
  obtain ⟨w0, Hw0⟩ := ex_eq ((w.alloc (.cells T 33)).alloc (.cells C 56))
  have g0 : w0.heap[w.heap.size]? = some (.cells T 33 (0, 0)) := by rw [← Hw0.out, heap_past _ _ _ (by simp), heap_at _ _ _ rfl]
  have g1 : w0.heap[w.heap.size + 1]? = some (.cells C 56 (0, 0)) := by rw [← Hw0.out, heap_at _ _ _ (by simp)]
  have hb0 : Below w.heap.size w w0 := by rw [← Hw0.out]; exact ((Below.refl _ _).alloc (Nat.le_refl _) _).alloc (by simp) _
  have z0 : w0.heap.size = w.heap.size + 2 := by rw [← Hw0.out]; simp
  have G0 := Away.mk g0
  have G1 := Away.mk g1
  have Hb0 := Away.mk hb0
  have G1' : Away (((w.alloc (.cells T 33)).alloc (.cells C 56)).heap[w.heap.size + 1]? = some (.cells C 56 (0, 0))) := ⟨by rw [Hw0.out]; exact G1.out⟩
  clear g0 g1 hb0
  go_wp2_with (refine wpList_load_row rfl 56 _ rfl (w.heap.size + 1) rfl 56 C (0, 0) _ G1'.out Try.underlying56 rfl (by rw [HCs.out]; exact zHash) ?_)
  rw [Hw0.out]
  refine (Hr.out w0).mono ?_
  rintro e w1 ⟨rfl, hb1⟩
  have Q0 := Away.mk ((hb1.block w.heap.size (by omega)).trans G0.out)
  have Q1 := Away.mk ((hb1.block (w.heap.size + 1) (by omega)).trans G1.out)
  have Hb1 : Away (Below w.heap.size w w1) := ⟨Hb0.out.trans (hb1.mono (by omega))⟩
  clear hb1
  go_wp2_with (refine wpList_load_row rfl 56 _ rfl (w.heap.size + 1) rfl 56 C (0, 0) _ Q1.out Try.underlying56 rfl (by rw [HCs.out]; exact zHash) ?_)
  refine (He.out w1 Q0.out).mono ?_
  rintro e w2 ⟨rfl, hb2⟩
  have Hb2 : Away (Below w.heap.size w w2) := ⟨Hb1.out.trans (hb2.mono Hb1.out.size)⟩
  clear hb2
  go_wp2_with fail
  go_ret2
  exact ⟨rfl, Hb2.out⟩

set_option maxRecDepth 100000 in
set_option maxHeartbeats 2000000 in
theorem feed_c32 (T : Array Value) (K3 K6 : List Nat) (S3 S6 : V8) (v : V8) (n : Nat) (r s : ByteArray) (w : World) (h : TF T K3 S3 K6 S6) (hv : v.lt 4294967296) (hrs : r.size = n % 64) (hn : n ≤ 549755813888) (hs : s.size ≤ 549755813888) (hcase : r = ⟨#[]⟩ ∨ (r ≠ ⟨#[]⟩ ∧ s.size < 64 - r.size)) :
    Calls Try.prog 32 #[.agg T, .agg (HC false v V0 r (n : Int)), .string s] w fun e w' => (∃ r' : ByteArray, e = .returned (.tuple #[.agg (HC false (run32 K3 v s.data.toList (s.size / 64)) V0 r' ((n : Int) + (s.size : Int))), .int .i64 0]) ∧ r'.data.toList = r.data.toList ++ s.data.toList.drop (64 * (s.size / 64))) ∧ Below w.heap.size w w' := by
  have Hr : Away (∀ w1 : World, Calls Try.prog 53 #[.agg (HC false v V0 r (n : Int))] w1 fun e w' => e = .returned (.bool true) ∧ Below w1.heap.size w1 w') := ⟨fun w1 => right32 _ _ r n w1 (by omega) hrs⟩
  obtain ⟨C, HCe⟩ := ex_eq (HC false v V0 r (n : Int))
  have HCs : Away (C.size = 19) := ⟨by rw [← HCe.out]; rfl⟩
  have HC18 : Away (C[18]? = some (.int .i64 (n : Int))) := ⟨by rw [← HCe.out]; rfl⟩
  have hcs : C.setIfInBounds 18 (.int .i64 ((n : Int) + (s.size : Int))) = HC false v V0 r ((n : Int) + (s.size : Int)) := by rw [← HCe.out]; simp [HC]
  rw [HCe.out] at Hr ⊢
  go_enter Try.func32, Try.ntmps32
  obtain ⟨Z, HZ⟩ := ex_eq (HC false V0 V0 ⟨#[]⟩ 0)
  have eZ : (#[.bool false, .int .u32 0, .int .u32 0, .int .u32 0, .int .u32 0, .int .u32 0, .int .u32 0, .int .u32 0, .int .u32 0, .int .u64 0, .int .u64 0, .int .u64 0, .int .u64 0, .int .u64 0, .int .u64 0, .int .u64 0, .int .u64 0, .string ⟨#[]⟩, .int .i64 0] : Array Value) = Z := by rw [← HZ.out]; rfl
  have HZs : Away (Z.size = 19) := ⟨by rw [← HZ.out]; rfl⟩
  obtain ⟨w0, Hw0⟩ := ex_eq (((w.alloc (.cells T 33)).alloc (.cells C 56)).alloc (.cells Z 56))
  have g0 : w0.heap[w.heap.size]? = some (.cells T 33 (0, 0)) := by rw [← Hw0.out, heap_past _ _ _ (by simp; omega), heap_past _ _ _ (by simp), heap_at _ _ _ rfl]
  have g1 : w0.heap[w.heap.size + 1]? = some (.cells C 56 (0, 0)) := by rw [← Hw0.out, heap_past _ _ _ (by simp), heap_at _ _ _ (by simp)]
  have g2 : w0.heap[w.heap.size + 2]? = some (.cells Z 56 (0, 0)) := by rw [← Hw0.out, heap_at _ _ _ (by simp)]
  have Hb0 : Away (Below w.heap.size w w0) := ⟨by rw [← Hw0.out]; exact (((Below.refl _ _).alloc (Nat.le_refl _) _).alloc (by simp) _).alloc (by simp; omega) _⟩
  have z0 : w0.heap.size = w.heap.size + 3 := by rw [← Hw0.out]; simp
  have g1' : (((w.alloc (.cells T 33)).alloc (.cells C 56)).alloc (.cells Z 56)).heap[w.heap.size + 1]? = some (.cells C 56 (0, 0)) := by rw [Hw0.out]; exact g1
  have G0 := Away.mk g0
  have G1 := Away.mk g1
  have G2 := Away.mk g2
  have G1' := Away.mk g1'
  have HCS := Away.mk hcs
  have HCase := Away.mk hcase
  clear g0 g1 g2 g1' HZ hcs hcase
  go_wp2_with (refine wpList_load_row rfl 56 _ rfl (w.heap.size + 1) rfl 56 C (0, 0) _ G1'.out Try.underlying56 rfl (by rw [HCs.out]; exact zHash) ?_)
  rw [Hw0.out]
  clear eZ
  refine (Hr.out w0).mono ?_
  rintro e w1 ⟨rfl, hb1⟩
  have Q0 := Away.mk ((hb1.block w.heap.size (by omega)).trans G0.out)
  have Q1 := Away.mk ((hb1.block (w.heap.size + 1) (by omega)).trans G1.out)
  have Q2 := Away.mk ((hb1.block (w.heap.size + 2) (by omega)).trans G2.out)
  have z1 := hb1.size
  have Hb1 : Away (Below w.heap.size w w1) := ⟨Hb0.out.trans (hb1.mono (by omega))⟩
  have c18 : w1.cell? ⟨w.heap.size + 1, 18, none⟩ = some (.int .i64 (n : Int)) := (cell_of_row w1 _ _ _ _ (0, 0) Q1.out).trans HC18.out
  have f18 : w1.frozen? ⟨w.heap.size + 1, 18, none⟩ = false := frozen_of_row w1 _ 18 _ _ Q1.out
  clear hb1
  go_wp2_with fail
  obtain ⟨D, HD⟩ := ex_eq (HC false v V0 r ((n : Int) + (s.size : Int)))
  have HD17 : Away (D[17]? = some (.string r)) := ⟨by rw [← HD.out]; rfl⟩
  have HD0 : Away (D[0]? = some (.bool false)) := ⟨by rw [← HD.out]; rfl⟩
  obtain ⟨w2, Hw2⟩ := ex_eq (w1.setCell ⟨w.heap.size + 1, 18, none⟩ (.int .i64 ((n : Int) + (s.size : Int))))
  have hat := at_put (At.refl Q1.out) 18 (.int .i64 ((n : Int) + (s.size : Int)))
  rw [HCS.out, HD.out, Hw2.out] at hat
  have Hat := Away.mk hat
  have c0 : w2.cell? ⟨w.heap.size + 1, 0, none⟩ = some (.bool false) := (hat.cell 0).trans HD0.out
  have c17 : w2.cell? ⟨w.heap.size + 1, 17, none⟩ = some (.string r) := (hat.cell 17).trans HD17.out
  have R0 := Away.mk (hat.other (k := w.heap.size) (by omega) (by omega) Q0.out)
  have R2 := Away.mk (hat.other (k := w.heap.size + 2) (by omega) (by omega) Q2.out)
  have Hb2 : Away (Below w.heap.size w w2) := ⟨Hb1.out.trans (hat.below (by omega) (by omega))⟩
  obtain ⟨V, HV⟩ := ex_eq (run32 K3 v s.data.toList (s.size / 64))
  have Hthr : Away (∀ w3 : World, w3.heap = w2.heap → Calls Try.prog 55 #[.pointer (some ⟨w.heap.size, 0, none⟩), .pointer (some ⟨w.heap.size + 1, 0, none⟩), .string s] w3 fun e w' => (∃ b : ByteArray, e = .returned (.string b) ∧ b.data.toList = s.data.toList.drop (64 * (s.size / 64))) ∧ At (w.heap.size + 1) (HC false V V0 r ((n : Int) + (s.size : Int))) 56 w3 w') := ⟨fun w3 hw3 => by
    have ht := through32 w.heap.size (w.heap.size + 1) K3 T v V0 r ((n : Int) + (s.size : Int)) s w3 hv h.bk32 (by rw [hw3]; exact R0.out) h.k32 (by rw [hw3, HD.out]; exact hat.row) (by omega) (by omega)
    rw [HV.out] at ht
    exact ht⟩
  rw [Hw2.out]
  clear hat h hv
  rcases HCase.out with hre | ⟨hne, hlt⟩
  · have hr0 : r.size = 0 := by rw [hre]; rfl
    refine still_all (by kernel_rfl) (by kernel_rfl) ?_
    repeat still_step
    still_call (size32 _)
    repeat still_step
    refine wpStill_nil ?_
    go_wp2_with fail
    clear hre
    refine (Hthr.out w2.drew rfl).mono ?_
    rintro e w4 ⟨⟨b, rfl, hbl⟩, hA⟩
    have hz4 : w2.heap.size ≤ w4.heap.size := hA.size
    have hz2 : w1.heap.size ≤ w2.heap.size := Hat.out.size
    have hbs : b.size ≤ s.size := by
      have h1 : b.data.toList.length = b.size := rfl
      have h2 : s.data.toList.length = s.size := rfl
      rw [← h1, hbl, List.length_drop, h2]; omega
    have d17 : w4.cell? ⟨w.heap.size + 1, 17, none⟩ = some (.string r) := (hA.cell 17).trans rfl
    have S2 := Away.mk (hA.other (k := w.heap.size + 2) (by show _ < w2.heap.size; omega) (by omega) R2.out)
    have HA := Away.mk hA
    have Hb4 : Away (Below w.heap.size w w4) := ⟨Hb2.out.trans ⟨hA.os, hA.tape, hA.output, hA.size, fun k hk => hA.block k (by show _ < w2.heap.size; omega) (by omega)⟩⟩
    have Hbl : Away ((r ++ b).data.toList = r.data.toList ++ s.data.toList.drop (64 * (s.size / 64))) := ⟨by rw [← hbl]; simp⟩
    have hxs : (r ++ b).size ≤ 281474976710656 := by rw [ByteArray.size_append]; omega
    have hsx : r.size + b.size ≤ 281474976710656 := by omega
    clear hA hbl c0 c17
    go_wp2_with fail
    refine (sclone (r ++ b) _ hxs).mono ?_
    rintro e w5 ⟨rfl, hb5⟩
    have hA5 := HA.out.later hb5
    have e17 : w5.cell? ⟨w.heap.size + 1, 17, none⟩ = some (.string r) := (hA5.cell 17).trans rfl
    have f17 : w5.frozen? ⟨w.heap.size + 1, 17, none⟩ = false := hA5.frozen 17
    have hat6 := at_put hA5 17 (.string (r ++ b))
    rw [show (HC false V V0 r ((n : Int) + (s.size : Int))).setIfInBounds 17 (.string (r ++ b)) = HC false V V0 (r ++ b) ((n : Int) + (s.size : Int)) by simp [HC]] at hat6
    have hz5 : w4.heap.size ≤ w5.heap.size := hb5.size
    have s6 := (Below.heap_setCell w5 ⟨w.heap.size + 1, 17, none⟩ (.string (r ++ b)) (w.heap.size + 2) (by show w.heap.size + 2 ≠ w.heap.size + 1; omega)).trans ((hb5.block (w.heap.size + 2) (by omega)).trans S2.out)
    have Hb6 : Away (Below w.heap.size w (w5.setCell ⟨w.heap.size + 1, 17, none⟩ (.string (r ++ b)))) := ⟨(Hb4.out.trans (hb5.mono (by omega))).setCell (p := ⟨w.heap.size + 1, 17, none⟩) (by show w.heap.size ≤ w.heap.size + 1; omega) _⟩
    have Row6 := Away.mk hat6.row
    have S6 := Away.mk s6
    have Hval : Away ((HC false V V0 (r ++ b) ((n : Int) + (s.size : Int))) = (HC false (run32 K3 v s.data.toList (s.size / 64)) V0 (r ++ b) ((n : Int) + (s.size : Int)))) := ⟨by rw [← HV.out]⟩
    rw [Hval.out] at Row6
    obtain ⟨E, HE⟩ := ex_eq (HC false (run32 K3 v s.data.toList (s.size / 64)) V0 (r ++ b) ((n : Int) + (s.size : Int)))
    rw [HE.out] at Row6
    have HEs : Away (E.size = 19) := ⟨by rw [← HE.out]; rfl⟩
    have HEo : Away (E.all (·.oneCell') = true) := ⟨by rw [← HE.out]; exact hc_one _ _ _ _ _⟩
    clear hA5 hat6 hb5 s6 d17
    go_wp2_with (first
      | (refine wpList_load_row rfl 56 _ rfl (w.heap.size + 1) rfl 56 E (0, 0) _ Row6.out Try.underlying56 rfl (by rw [HEs.out]; exact zHash) ?_)
      | (refine wpList_store_row rfl 56 _ _ rfl (w.heap.size + 1 + 1) E rfl rfl 56 _ S6.out (by rw [HEs.out]; exact zHash) (by rw [HZs.out, HEs.out]) HEo.out ?_))
    refine bodyPost_ret_by (v := .tuple #[.agg E, .int .i64 0]) (results_cell_tmp rfl _ _ (w.heap.size + 1 + 1) 56 _ (0, 0) _ rfl (setRow_heap _ _ _ _ _ _ S6.out) Try.underlying56 rfl (by rw [HEs.out]; exact zHash) _ rfl) rfl ?_
    exact ⟨⟨r ++ b, by rw [HE.out], Hbl.out⟩, Hb6.out.trans (below_setRow _ _ _ (by omega))⟩
  · obtain ⟨rz, hrz⟩ : ∃ rz, r.size = rz := ⟨_, rfl⟩
    rw [hrz] at hlt hrs
    have hm : IntKind.i64.wrap (64 - (rz : Int)) = 64 - (rz : Int) := by rw [IntKind.wrap_i64]; omega
    have kd : decide (64 - (rz : Int) ≤ (s.size : Int)) = false := decide_eq_false (by omega)
    have hrl : rz ≤ 64 := by omega
    clear hrs
    refine still_all (by kernel_rfl) (by kernel_rfl) ?_
    repeat still_step
    still_call (size32 _)
    repeat still_step
    refine wpStill_nil ?_
    go_wp2_with fail
    clear kd hm hne
    all_goals
      refine (Hthr.out w2.drew rfl).mono ?_
      rintro e w4 ⟨⟨b, rfl, hbl⟩, hA⟩
      have hz4 : w2.heap.size ≤ w4.heap.size := hA.size
      have hz2 : w1.heap.size ≤ w2.heap.size := Hat.out.size
      have hbs : b.size ≤ s.size := by
        have h1 : b.data.toList.length = b.size := rfl
        have h2 : s.data.toList.length = s.size := rfl
        rw [← h1, hbl, List.length_drop, h2]; omega
      have d17 : w4.cell? ⟨w.heap.size + 1, 17, none⟩ = some (.string r) := (hA.cell 17).trans rfl
      have S2 := Away.mk (hA.other (k := w.heap.size + 2) (by show _ < w2.heap.size; omega) (by omega) R2.out)
      have HA := Away.mk hA
      have Hb4 : Away (Below w.heap.size w w4) := ⟨Hb2.out.trans ⟨hA.os, hA.tape, hA.output, hA.size, fun k hk => hA.block k (by show _ < w2.heap.size; omega) (by omega)⟩⟩
      have Hbl : Away ((r ++ b).data.toList = r.data.toList ++ s.data.toList.drop (64 * (s.size / 64))) := ⟨by rw [← hbl]; simp⟩
      have hxs : (r ++ b).size ≤ 281474976710656 := by rw [ByteArray.size_append]; omega
      have hsx : r.size + b.size ≤ 281474976710656 := by omega
      clear hA hbl c0 c17
      go_wp2_with fail
      refine (sclone (r ++ b) _ hxs).mono ?_
      rintro e w5 ⟨rfl, hb5⟩
      have hA5 := HA.out.later hb5
      have e17 : w5.cell? ⟨w.heap.size + 1, 17, none⟩ = some (.string r) := (hA5.cell 17).trans rfl
      have f17 : w5.frozen? ⟨w.heap.size + 1, 17, none⟩ = false := hA5.frozen 17
      have hat6 := at_put hA5 17 (.string (r ++ b))
      rw [show (HC false V V0 r ((n : Int) + (s.size : Int))).setIfInBounds 17 (.string (r ++ b)) = HC false V V0 (r ++ b) ((n : Int) + (s.size : Int)) by simp [HC]] at hat6
      have hz5 : w4.heap.size ≤ w5.heap.size := hb5.size
      have s6 := (Below.heap_setCell w5 ⟨w.heap.size + 1, 17, none⟩ (.string (r ++ b)) (w.heap.size + 2) (by show w.heap.size + 2 ≠ w.heap.size + 1; omega)).trans ((hb5.block (w.heap.size + 2) (by omega)).trans S2.out)
      have Hb6 : Away (Below w.heap.size w (w5.setCell ⟨w.heap.size + 1, 17, none⟩ (.string (r ++ b)))) := ⟨(Hb4.out.trans (hb5.mono (by omega))).setCell (p := ⟨w.heap.size + 1, 17, none⟩) (by show w.heap.size ≤ w.heap.size + 1; omega) _⟩
      have Row6 := Away.mk hat6.row
      have S6 := Away.mk s6
      have Hval : Away ((HC false V V0 (r ++ b) ((n : Int) + (s.size : Int))) = (HC false (run32 K3 v s.data.toList (s.size / 64)) V0 (r ++ b) ((n : Int) + (s.size : Int)))) := ⟨by rw [← HV.out]⟩
      rw [Hval.out] at Row6
      obtain ⟨E, HE⟩ := ex_eq (HC false (run32 K3 v s.data.toList (s.size / 64)) V0 (r ++ b) ((n : Int) + (s.size : Int)))
      rw [HE.out] at Row6
      have HEs : Away (E.size = 19) := ⟨by rw [← HE.out]; rfl⟩
      have HEo : Away (E.all (·.oneCell') = true) := ⟨by rw [← HE.out]; exact hc_one _ _ _ _ _⟩
      clear hA5 hat6 hb5 s6 d17
      go_wp2_with (first
        | (refine wpList_load_row rfl 56 _ rfl (w.heap.size + 1) rfl 56 E (0, 0) _ Row6.out Try.underlying56 rfl (by rw [HEs.out]; exact zHash) ?_)
        | (refine wpList_store_row rfl 56 _ _ rfl (w.heap.size + 1 + 1) E rfl rfl 56 _ S6.out (by rw [HEs.out]; exact zHash) (by rw [HZs.out, HEs.out]) HEo.out ?_))
      refine bodyPost_ret_by (v := .tuple #[.agg E, .int .i64 0]) (results_cell_tmp rfl _ _ (w.heap.size + 1 + 1) 56 _ (0, 0) _ rfl (setRow_heap _ _ _ _ _ _ S6.out) Try.underlying56 rfl (by rw [HEs.out]; exact zHash) _ rfl) rfl ?_
      exact ⟨⟨r ++ b, by rw [HE.out], Hbl.out⟩, Hb6.out.trans (below_setRow _ _ _ (by omega))⟩

/-! ### 64 bits -/
set_option maxRecDepth 100000 in
set_option maxHeartbeats 1000000 in
theorem right64 (sm lg : V8) (r : ByteArray) (n : Nat) (w : World) (hn : n ≤ 1125899906842624) (hr : r.size = n % 128) :
    Calls Try.prog 53 #[.agg (HC true sm lg r n)] w fun e w' => e = .returned (.bool true) ∧ Below w.heap.size w w' := by
  obtain ⟨A, HA⟩ := ex_eq (HC true sm lg r n)
  obtain ⟨w0, Hw0⟩ := ex_eq (w.alloc (.cells A 56))
  have g0 : w0.heap[w.heap.size]? = some (.cells A 56 (0, 0)) := by rw [← Hw0.out]; exact heap_at _ _ _ rfl
  have c17 : w0.cell? ⟨w.heap.size, 17, none⟩ = some (.string r) := (cell_of_row w0 _ _ _ _ (0, 0) g0).trans (by rw [← HA.out]; rfl)
  have c18 : w0.cell? ⟨w.heap.size, 18, none⟩ = some (.int .i64 (n : Int)) := (cell_of_row w0 _ _ _ _ (0, 0) g0).trans (by rw [← HA.out]; rfl)
  have c0 : w0.cell? ⟨w.heap.size, 0, none⟩ = some (.bool true) := (cell_of_row w0 _ _ _ _ (0, 0) g0).trans (by rw [← HA.out]; rfl)
  have Hb0 : Away (Below w.heap.size w w0) := ⟨by rw [← Hw0.out]; exact below_alloc _ _⟩
  have hd1 : decide ((n : Int) ≤ 1125899906842624) = true := decide_eq_true (by omega)
  have hm : (n : Int).tmod 128 = (r.size : Int) := by rw [Int.tmod_eq_emod_of_nonneg (by omega)]; omega
  have hm2 : (n : Int) % 128 = (r.size : Int) := by omega
  rw [HA.out]
  clear g0 hr
  go_enter Try.func53, Try.ntmps53
  go_wp2_with fail
  rw [Hw0.out]
  refine still_all (by kernel_rfl) (by kernel_rfl) ?_
  repeat still_step
  still_call (size64 _)
  repeat still_step
  refine wpStill_nil ?_
  go_wp2_with fail
  go_ret
  exact ⟨rfl, Hb0.out.drew⟩

set_option maxRecDepth 100000 in
set_option maxHeartbeats 1000000 in
theorem newhash64 (T : Array Value) (K3 K6 : List Nat) (S3 S6 : V8) (w : World) (h : TF T K3 S3 K6 S6) :
    Calls Try.prog 33 #[.agg T, .bool true] w fun e w' => e = .returned (.agg (HC true V0 S6 ⟨#[]⟩ 0)) ∧ Below w.heap.size w w' := by
  obtain ⟨Z, HZ⟩ := ex_eq (HC false V0 V0 ⟨#[]⟩ 0)
  have eZ : (#[.bool false, .int .u32 0, .int .u32 0, .int .u32 0, .int .u32 0, .int .u32 0, .int .u32 0, .int .u32 0, .int .u32 0, .int .u64 0, .int .u64 0, .int .u64 0, .int .u64 0, .int .u64 0, .int .u64 0, .int .u64 0, .int .u64 0, .string ⟨#[]⟩, .int .i64 0] : Array Value) = Z := by rw [← HZ.out]; rfl
  have HZs : Away (Z.size = 19) := ⟨by rw [← HZ.out]; rfl⟩
  obtain ⟨C, HC⟩ := ex_eq (HC true V0 S6 ⟨#[]⟩ 0)
  have HCs : Away (C.size = 19) := ⟨by rw [← HC.out]; rfl⟩
  have HCo : Away (C.all (·.oneCell') = true) := ⟨by rw [← HC.out]; exact hc_one _ _ _ _ _⟩
  have Hst : Away (∀ w1 : World, w1.heap[w.heap.size]? = some (.cells T 33 (0, 0)) → Calls Try.prog 56 #[.pointer (some ⟨w.heap.size, 0, none⟩), .bool true] w1 fun e w' => e = .returned (.agg C) ∧ Below w1.heap.size w1 w') := ⟨fun w1 hw => by rw [← HC.out]; exact start64 w.heap.size T S6 w1 hw h.s64⟩
  rw [HC.out]
  clear h HC HZ
  go_enter Try.func33, Try.ntmps33
  go_wp2_with fail
  clear eZ
  obtain ⟨w0, Hw0⟩ := ex_eq ((w.alloc (.cells T 33)).alloc (.cells Z 56))
  have g0 : w0.heap[w.heap.size]? = some (.cells T 33 (0, 0)) := by rw [← Hw0.out, heap_past _ _ _ (by simp), heap_at _ _ _ rfl]
  have g1 : w0.heap[w.heap.size + 1]? = some (.cells Z 56 (0, 0)) := by rw [← Hw0.out, heap_at _ _ _ (by simp)]
  have hb0 : Below w.heap.size w w0 := by rw [← Hw0.out]; exact ((Below.refl _ _).alloc (Nat.le_refl _) _).alloc (by simp) _
  have z0 : w0.heap.size = w.heap.size + 2 := by rw [← Hw0.out]; simp
  rw [Hw0.out]
  refine (Hst.out w0 g0).mono ?_
  rintro e w1 ⟨rfl, hb1⟩
  have G1 := Away.mk ((hb1.block (w.heap.size + 1) (by omega)).trans g1)
  have Hb1 : Away (Below w.heap.size w w1) := ⟨hb0.trans (hb1.mono (by omega))⟩
  clear g0 g1 hb0 hb1
  go_wp2_with (refine wpList_store_row rfl 56 _ _ rfl (w.heap.size + 1) C rfl rfl 56 _ G1.out (by rw [HCs.out]; exact zHash) (by rw [HZs.out, HCs.out]) HCo.out ?_)
  refine bodyPost_ret_by (v := .agg C) (results_cell_row rfl _ _ (w.heap.size + 1) 56 _ (0, 0) _ rfl (setRow_heap _ _ _ _ _ _ G1.out) Try.underlying56 rfl (by rw [HCs.out]; exact zHash)) rfl ?_
  exact ⟨rfl, Hb1.out.trans (below_setRow _ _ _ (by omega))⟩

set_option maxRecDepth 100000 in
set_option maxHeartbeats 1000000 in
theorem ended64 (T : Array Value) (K3 K6 : List Nat) (S3 S6 : V8) (A : List UInt8) (r : ByteArray) (w : World) (h : TF T K3 S3 K6 S6) (hr : r.data.toList = A.drop (128 * (A.length / 128))) (hA : A.length ≤ 549755813888) :
    Calls Try.prog 58 #[.agg T, .agg (HC true V0 (run64 K6 S6 A (A.length / 128)) r (A.length : Int))] w fun e w' => e = .returned (.tuple #[.string ⟨(hs64 K6 S6 A).toArray⟩, .int .i64 0]) ∧ Below w.heap.size w w' := by
  have hrs : r.size = A.length % 128 := by
    have h1 : r.data.toList.length = r.size := rfl
    rw [← h1, hr, List.length_drop]; omega
  have Hr : Away (∀ w1 : World, Calls Try.prog 53 #[.agg (HC true V0 (run64 K6 S6 A (A.length / 128)) r (A.length : Int))] w1 fun e w' => e = .returned (.bool true) ∧ Below w1.heap.size w1 w') := ⟨fun w1 => right64 _ _ r A.length w1 (by omega) hrs⟩
  have He : Away (∀ w1 : World, w1.heap[w.heap.size]? = some (.cells T 33 (0, 0)) → Calls Try.prog 66 #[.pointer (some ⟨w.heap.size, 0, none⟩), .agg (HC true V0 (run64 K6 S6 A (A.length / 128)) r (A.length : Int))] w1 fun e w' => e = .returned (.string ⟨(hs64 K6 S6 A).toArray⟩) ∧ Below w1.heap.size w1 w') := ⟨fun w1 hw => by
    have hh := end64 w.heap.size K6 T V0 (run64 K6 S6 A (A.length / 128)) r A.length w1 (run_lt64 _ _ _ h.bs64 _) h.bk64 hw h.k64 (by omega) (by omega)
    rw [hr, en_wd64] at hh
    exact hh⟩
  obtain ⟨C, HC⟩ := ex_eq (HC true V0 (run64 K6 S6 A (A.length / 128)) r (A.length : Int))
  have HCs : Away (C.size = 19) := ⟨by rw [← HC.out]; rfl⟩
  rw [HC.out] at Hr He ⊢
  obtain ⟨X, HX⟩ := ex_eq (hs64 K6 S6 A)
  rw [HX.out] at He ⊢
  clear h HC HX hr hrs
  go_enter Try.func58, Try.ntmps58
  obtain ⟨w0, Hw0⟩ := ex_eq ((w.alloc (.cells T 33)).alloc (.cells C 56))
  have g0 : w0.heap[w.heap.size]? = some (.cells T 33 (0, 0)) := by rw [← Hw0.out, heap_past _ _ _ (by simp), heap_at _ _ _ rfl]
  have g1 : w0.heap[w.heap.size + 1]? = some (.cells C 56 (0, 0)) := by rw [← Hw0.out, heap_at _ _ _ (by simp)]
  have hb0 : Below w.heap.size w w0 := by rw [← Hw0.out]; exact ((Below.refl _ _).alloc (Nat.le_refl _) _).alloc (by simp) _
  have z0 : w0.heap.size = w.heap.size + 2 := by rw [← Hw0.out]; simp
  have G0 := Away.mk g0
  have G1 := Away.mk g1
  have Hb0 := Away.mk hb0
  have G1' : Away (((w.alloc (.cells T 33)).alloc (.cells C 56)).heap[w.heap.size + 1]? = some (.cells C 56 (0, 0))) := ⟨by rw [Hw0.out]; exact G1.out⟩
  clear g0 g1 hb0
  go_wp2_with (refine wpList_load_row rfl 56 _ rfl (w.heap.size + 1) rfl 56 C (0, 0) _ G1'.out Try.underlying56 rfl (by rw [HCs.out]; exact zHash) ?_)
  rw [Hw0.out]
  refine (Hr.out w0).mono ?_
  rintro e w1 ⟨rfl, hb1⟩
  have Q0 := Away.mk ((hb1.block w.heap.size (by omega)).trans G0.out)
  have Q1 := Away.mk ((hb1.block (w.heap.size + 1) (by omega)).trans G1.out)
  have Hb1 : Away (Below w.heap.size w w1) := ⟨Hb0.out.trans (hb1.mono (by omega))⟩
  clear hb1
  go_wp2_with (refine wpList_load_row rfl 56 _ rfl (w.heap.size + 1) rfl 56 C (0, 0) _ Q1.out Try.underlying56 rfl (by rw [HCs.out]; exact zHash) ?_)
  refine (He.out w1 Q0.out).mono ?_
  rintro e w2 ⟨rfl, hb2⟩
  have Hb2 : Away (Below w.heap.size w w2) := ⟨Hb1.out.trans (hb2.mono Hb1.out.size)⟩
  clear hb2
  go_wp2_with fail
  go_ret2
  exact ⟨rfl, Hb2.out⟩

set_option maxRecDepth 100000 in
set_option maxHeartbeats 2000000 in
theorem feed_c64 (T : Array Value) (K3 K6 : List Nat) (S3 S6 : V8) (v : V8) (n : Nat) (r s : ByteArray) (w : World) (h : TF T K3 S3 K6 S6) (hv : v.lt 18446744073709551616) (hrs : r.size = n % 128) (hn : n ≤ 549755813888) (hs : s.size ≤ 549755813888) (hcase : r = ⟨#[]⟩ ∨ (r ≠ ⟨#[]⟩ ∧ s.size < 128 - r.size)) :
    Calls Try.prog 32 #[.agg T, .agg (HC true V0 v r (n : Int)), .string s] w fun e w' => (∃ r' : ByteArray, e = .returned (.tuple #[.agg (HC true V0 (run64 K6 v s.data.toList (s.size / 128)) r' ((n : Int) + (s.size : Int))), .int .i64 0]) ∧ r'.data.toList = r.data.toList ++ s.data.toList.drop (128 * (s.size / 128))) ∧ Below w.heap.size w w' := by
  have Hr : Away (∀ w1 : World, Calls Try.prog 53 #[.agg (HC true V0 v r (n : Int))] w1 fun e w' => e = .returned (.bool true) ∧ Below w1.heap.size w1 w') := ⟨fun w1 => right64 _ _ r n w1 (by omega) hrs⟩
  obtain ⟨C, HCe⟩ := ex_eq (HC true V0 v r (n : Int))
  have HCs : Away (C.size = 19) := ⟨by rw [← HCe.out]; rfl⟩
  have HC18 : Away (C[18]? = some (.int .i64 (n : Int))) := ⟨by rw [← HCe.out]; rfl⟩
  have hcs : C.setIfInBounds 18 (.int .i64 ((n : Int) + (s.size : Int))) = HC true V0 v r ((n : Int) + (s.size : Int)) := by rw [← HCe.out]; simp [HC]
  rw [HCe.out] at Hr ⊢
  go_enter Try.func32, Try.ntmps32
  obtain ⟨Z, HZ⟩ := ex_eq (HC false V0 V0 ⟨#[]⟩ 0)
  have eZ : (#[.bool false, .int .u32 0, .int .u32 0, .int .u32 0, .int .u32 0, .int .u32 0, .int .u32 0, .int .u32 0, .int .u32 0, .int .u64 0, .int .u64 0, .int .u64 0, .int .u64 0, .int .u64 0, .int .u64 0, .int .u64 0, .int .u64 0, .string ⟨#[]⟩, .int .i64 0] : Array Value) = Z := by rw [← HZ.out]; rfl
  have HZs : Away (Z.size = 19) := ⟨by rw [← HZ.out]; rfl⟩
  obtain ⟨w0, Hw0⟩ := ex_eq (((w.alloc (.cells T 33)).alloc (.cells C 56)).alloc (.cells Z 56))
  have g0 : w0.heap[w.heap.size]? = some (.cells T 33 (0, 0)) := by rw [← Hw0.out, heap_past _ _ _ (by simp; omega), heap_past _ _ _ (by simp), heap_at _ _ _ rfl]
  have g1 : w0.heap[w.heap.size + 1]? = some (.cells C 56 (0, 0)) := by rw [← Hw0.out, heap_past _ _ _ (by simp), heap_at _ _ _ (by simp)]
  have g2 : w0.heap[w.heap.size + 2]? = some (.cells Z 56 (0, 0)) := by rw [← Hw0.out, heap_at _ _ _ (by simp)]
  have Hb0 : Away (Below w.heap.size w w0) := ⟨by rw [← Hw0.out]; exact (((Below.refl _ _).alloc (Nat.le_refl _) _).alloc (by simp) _).alloc (by simp; omega) _⟩
  have z0 : w0.heap.size = w.heap.size + 3 := by rw [← Hw0.out]; simp
  have g1' : (((w.alloc (.cells T 33)).alloc (.cells C 56)).alloc (.cells Z 56)).heap[w.heap.size + 1]? = some (.cells C 56 (0, 0)) := by rw [Hw0.out]; exact g1
  have G0 := Away.mk g0
  have G1 := Away.mk g1
  have G2 := Away.mk g2
  have G1' := Away.mk g1'
  have HCS := Away.mk hcs
  have HCase := Away.mk hcase
  clear g0 g1 g2 g1' HZ hcs hcase
  go_wp2_with (refine wpList_load_row rfl 56 _ rfl (w.heap.size + 1) rfl 56 C (0, 0) _ G1'.out Try.underlying56 rfl (by rw [HCs.out]; exact zHash) ?_)
  rw [Hw0.out]
  clear eZ
  refine (Hr.out w0).mono ?_
  rintro e w1 ⟨rfl, hb1⟩
  have Q0 := Away.mk ((hb1.block w.heap.size (by omega)).trans G0.out)
  have Q1 := Away.mk ((hb1.block (w.heap.size + 1) (by omega)).trans G1.out)
  have Q2 := Away.mk ((hb1.block (w.heap.size + 2) (by omega)).trans G2.out)
  have z1 := hb1.size
  have Hb1 : Away (Below w.heap.size w w1) := ⟨Hb0.out.trans (hb1.mono (by omega))⟩
  have c18 : w1.cell? ⟨w.heap.size + 1, 18, none⟩ = some (.int .i64 (n : Int)) := (cell_of_row w1 _ _ _ _ (0, 0) Q1.out).trans HC18.out
  have f18 : w1.frozen? ⟨w.heap.size + 1, 18, none⟩ = false := frozen_of_row w1 _ 18 _ _ Q1.out
  clear hb1
  go_wp2_with fail
  obtain ⟨D, HD⟩ := ex_eq (HC true V0 v r ((n : Int) + (s.size : Int)))
  have HD17 : Away (D[17]? = some (.string r)) := ⟨by rw [← HD.out]; rfl⟩
  have HD0 : Away (D[0]? = some (.bool true)) := ⟨by rw [← HD.out]; rfl⟩
  obtain ⟨w2, Hw2⟩ := ex_eq (w1.setCell ⟨w.heap.size + 1, 18, none⟩ (.int .i64 ((n : Int) + (s.size : Int))))
  have hat := at_put (At.refl Q1.out) 18 (.int .i64 ((n : Int) + (s.size : Int)))
  rw [HCS.out, HD.out, Hw2.out] at hat
  have Hat := Away.mk hat
  have c0 : w2.cell? ⟨w.heap.size + 1, 0, none⟩ = some (.bool true) := (hat.cell 0).trans HD0.out
  have c17 : w2.cell? ⟨w.heap.size + 1, 17, none⟩ = some (.string r) := (hat.cell 17).trans HD17.out
  have R0 := Away.mk (hat.other (k := w.heap.size) (by omega) (by omega) Q0.out)
  have R2 := Away.mk (hat.other (k := w.heap.size + 2) (by omega) (by omega) Q2.out)
  have Hb2 : Away (Below w.heap.size w w2) := ⟨Hb1.out.trans (hat.below (by omega) (by omega))⟩
  obtain ⟨V, HV⟩ := ex_eq (run64 K6 v s.data.toList (s.size / 128))
  have Hthr : Away (∀ w3 : World, w3.heap = w2.heap → Calls Try.prog 55 #[.pointer (some ⟨w.heap.size, 0, none⟩), .pointer (some ⟨w.heap.size + 1, 0, none⟩), .string s] w3 fun e w' => (∃ b : ByteArray, e = .returned (.string b) ∧ b.data.toList = s.data.toList.drop (128 * (s.size / 128))) ∧ At (w.heap.size + 1) (HC true V0 V r ((n : Int) + (s.size : Int))) 56 w3 w') := ⟨fun w3 hw3 => by
    have ht := through64 w.heap.size (w.heap.size + 1) K6 T V0 v r ((n : Int) + (s.size : Int)) s w3 hv h.bk64 (by rw [hw3]; exact R0.out) h.k64 (by rw [hw3, HD.out]; exact hat.row) (by omega) (by omega)
    rw [HV.out] at ht
    exact ht⟩
  rw [Hw2.out]
  clear hat h hv
  rcases HCase.out with hre | ⟨hne, hlt⟩
  · have hr0 : r.size = 0 := by rw [hre]; rfl
    refine still_all (by kernel_rfl) (by kernel_rfl) ?_
    repeat still_step
    still_call (size64 _)
    repeat still_step
    refine wpStill_nil ?_
    go_wp2_with fail
    clear hre
    refine (Hthr.out w2.drew rfl).mono ?_
    rintro e w4 ⟨⟨b, rfl, hbl⟩, hA⟩
    have hz4 : w2.heap.size ≤ w4.heap.size := hA.size
    have hz2 : w1.heap.size ≤ w2.heap.size := Hat.out.size
    have hbs : b.size ≤ s.size := by
      have h1 : b.data.toList.length = b.size := rfl
      have h2 : s.data.toList.length = s.size := rfl
      rw [← h1, hbl, List.length_drop, h2]; omega
    have d17 : w4.cell? ⟨w.heap.size + 1, 17, none⟩ = some (.string r) := (hA.cell 17).trans rfl
    have S2 := Away.mk (hA.other (k := w.heap.size + 2) (by show _ < w2.heap.size; omega) (by omega) R2.out)
    have HA := Away.mk hA
    have Hb4 : Away (Below w.heap.size w w4) := ⟨Hb2.out.trans ⟨hA.os, hA.tape, hA.output, hA.size, fun k hk => hA.block k (by show _ < w2.heap.size; omega) (by omega)⟩⟩
    have Hbl : Away ((r ++ b).data.toList = r.data.toList ++ s.data.toList.drop (128 * (s.size / 128))) := ⟨by rw [← hbl]; simp⟩
    have hxs : (r ++ b).size ≤ 281474976710656 := by rw [ByteArray.size_append]; omega
    have hsx : r.size + b.size ≤ 281474976710656 := by omega
    clear hA hbl c0 c17
    go_wp2_with fail
    refine (sclone (r ++ b) _ hxs).mono ?_
    rintro e w5 ⟨rfl, hb5⟩
    have hA5 := HA.out.later hb5
    have e17 : w5.cell? ⟨w.heap.size + 1, 17, none⟩ = some (.string r) := (hA5.cell 17).trans rfl
    have f17 : w5.frozen? ⟨w.heap.size + 1, 17, none⟩ = false := hA5.frozen 17
    have hat6 := at_put hA5 17 (.string (r ++ b))
    rw [show (HC true V0 V r ((n : Int) + (s.size : Int))).setIfInBounds 17 (.string (r ++ b)) = HC true V0 V (r ++ b) ((n : Int) + (s.size : Int)) by simp [HC]] at hat6
    have hz5 : w4.heap.size ≤ w5.heap.size := hb5.size
    have s6 := (Below.heap_setCell w5 ⟨w.heap.size + 1, 17, none⟩ (.string (r ++ b)) (w.heap.size + 2) (by show w.heap.size + 2 ≠ w.heap.size + 1; omega)).trans ((hb5.block (w.heap.size + 2) (by omega)).trans S2.out)
    have Hb6 : Away (Below w.heap.size w (w5.setCell ⟨w.heap.size + 1, 17, none⟩ (.string (r ++ b)))) := ⟨(Hb4.out.trans (hb5.mono (by omega))).setCell (p := ⟨w.heap.size + 1, 17, none⟩) (by show w.heap.size ≤ w.heap.size + 1; omega) _⟩
    have Row6 := Away.mk hat6.row
    have S6 := Away.mk s6
    have Hval : Away ((HC true V0 V (r ++ b) ((n : Int) + (s.size : Int))) = (HC true V0 (run64 K6 v s.data.toList (s.size / 128)) (r ++ b) ((n : Int) + (s.size : Int)))) := ⟨by rw [← HV.out]⟩
    rw [Hval.out] at Row6
    obtain ⟨E, HE⟩ := ex_eq (HC true V0 (run64 K6 v s.data.toList (s.size / 128)) (r ++ b) ((n : Int) + (s.size : Int)))
    rw [HE.out] at Row6
    have HEs : Away (E.size = 19) := ⟨by rw [← HE.out]; rfl⟩
    have HEo : Away (E.all (·.oneCell') = true) := ⟨by rw [← HE.out]; exact hc_one _ _ _ _ _⟩
    clear hA5 hat6 hb5 s6 d17
    go_wp2_with (first
      | (refine wpList_load_row rfl 56 _ rfl (w.heap.size + 1) rfl 56 E (0, 0) _ Row6.out Try.underlying56 rfl (by rw [HEs.out]; exact zHash) ?_)
      | (refine wpList_store_row rfl 56 _ _ rfl (w.heap.size + 1 + 1) E rfl rfl 56 _ S6.out (by rw [HEs.out]; exact zHash) (by rw [HZs.out, HEs.out]) HEo.out ?_))
    refine bodyPost_ret_by (v := .tuple #[.agg E, .int .i64 0]) (results_cell_tmp rfl _ _ (w.heap.size + 1 + 1) 56 _ (0, 0) _ rfl (setRow_heap _ _ _ _ _ _ S6.out) Try.underlying56 rfl (by rw [HEs.out]; exact zHash) _ rfl) rfl ?_
    exact ⟨⟨r ++ b, by rw [HE.out], Hbl.out⟩, Hb6.out.trans (below_setRow _ _ _ (by omega))⟩
  · obtain ⟨rz, hrz⟩ : ∃ rz, r.size = rz := ⟨_, rfl⟩
    rw [hrz] at hlt hrs
    have hm : IntKind.i64.wrap (128 - (rz : Int)) = 128 - (rz : Int) := by rw [IntKind.wrap_i64]; omega
    have kd : decide (128 - (rz : Int) ≤ (s.size : Int)) = false := decide_eq_false (by omega)
    have hrl : rz ≤ 128 := by omega
    clear hrs
    refine still_all (by kernel_rfl) (by kernel_rfl) ?_
    repeat still_step
    still_call (size64 _)
    repeat still_step
    refine wpStill_nil ?_
    go_wp2_with fail
    clear kd hm hne
    all_goals
      refine (Hthr.out w2.drew rfl).mono ?_
      rintro e w4 ⟨⟨b, rfl, hbl⟩, hA⟩
      have hz4 : w2.heap.size ≤ w4.heap.size := hA.size
      have hz2 : w1.heap.size ≤ w2.heap.size := Hat.out.size
      have hbs : b.size ≤ s.size := by
        have h1 : b.data.toList.length = b.size := rfl
        have h2 : s.data.toList.length = s.size := rfl
        rw [← h1, hbl, List.length_drop, h2]; omega
      have d17 : w4.cell? ⟨w.heap.size + 1, 17, none⟩ = some (.string r) := (hA.cell 17).trans rfl
      have S2 := Away.mk (hA.other (k := w.heap.size + 2) (by show _ < w2.heap.size; omega) (by omega) R2.out)
      have HA := Away.mk hA
      have Hb4 : Away (Below w.heap.size w w4) := ⟨Hb2.out.trans ⟨hA.os, hA.tape, hA.output, hA.size, fun k hk => hA.block k (by show _ < w2.heap.size; omega) (by omega)⟩⟩
      have Hbl : Away ((r ++ b).data.toList = r.data.toList ++ s.data.toList.drop (128 * (s.size / 128))) := ⟨by rw [← hbl]; simp⟩
      have hxs : (r ++ b).size ≤ 281474976710656 := by rw [ByteArray.size_append]; omega
      have hsx : r.size + b.size ≤ 281474976710656 := by omega
      clear hA hbl c0 c17
      go_wp2_with fail
      refine (sclone (r ++ b) _ hxs).mono ?_
      rintro e w5 ⟨rfl, hb5⟩
      have hA5 := HA.out.later hb5
      have e17 : w5.cell? ⟨w.heap.size + 1, 17, none⟩ = some (.string r) := (hA5.cell 17).trans rfl
      have f17 : w5.frozen? ⟨w.heap.size + 1, 17, none⟩ = false := hA5.frozen 17
      have hat6 := at_put hA5 17 (.string (r ++ b))
      rw [show (HC true V0 V r ((n : Int) + (s.size : Int))).setIfInBounds 17 (.string (r ++ b)) = HC true V0 V (r ++ b) ((n : Int) + (s.size : Int)) by simp [HC]] at hat6
      have hz5 : w4.heap.size ≤ w5.heap.size := hb5.size
      have s6 := (Below.heap_setCell w5 ⟨w.heap.size + 1, 17, none⟩ (.string (r ++ b)) (w.heap.size + 2) (by show w.heap.size + 2 ≠ w.heap.size + 1; omega)).trans ((hb5.block (w.heap.size + 2) (by omega)).trans S2.out)
      have Hb6 : Away (Below w.heap.size w (w5.setCell ⟨w.heap.size + 1, 17, none⟩ (.string (r ++ b)))) := ⟨(Hb4.out.trans (hb5.mono (by omega))).setCell (p := ⟨w.heap.size + 1, 17, none⟩) (by show w.heap.size ≤ w.heap.size + 1; omega) _⟩
      have Row6 := Away.mk hat6.row
      have S6 := Away.mk s6
      have Hval : Away ((HC true V0 V (r ++ b) ((n : Int) + (s.size : Int))) = (HC true V0 (run64 K6 v s.data.toList (s.size / 128)) (r ++ b) ((n : Int) + (s.size : Int)))) := ⟨by rw [← HV.out]⟩
      rw [Hval.out] at Row6
      obtain ⟨E, HE⟩ := ex_eq (HC true V0 (run64 K6 v s.data.toList (s.size / 128)) (r ++ b) ((n : Int) + (s.size : Int)))
      rw [HE.out] at Row6
      have HEs : Away (E.size = 19) := ⟨by rw [← HE.out]; rfl⟩
      have HEo : Away (E.all (·.oneCell') = true) := ⟨by rw [← HE.out]; exact hc_one _ _ _ _ _⟩
      clear hA5 hat6 hb5 s6 d17
      go_wp2_with (first
        | (refine wpList_load_row rfl 56 _ rfl (w.heap.size + 1) rfl 56 E (0, 0) _ Row6.out Try.underlying56 rfl (by rw [HEs.out]; exact zHash) ?_)
        | (refine wpList_store_row rfl 56 _ _ rfl (w.heap.size + 1 + 1) E rfl rfl 56 _ S6.out (by rw [HEs.out]; exact zHash) (by rw [HZs.out, HEs.out]) HEo.out ?_))
      refine bodyPost_ret_by (v := .tuple #[.agg E, .int .i64 0]) (results_cell_tmp rfl _ _ (w.heap.size + 1 + 1) 56 _ (0, 0) _ rfl (setRow_heap _ _ _ _ _ _ S6.out) Try.underlying56 rfl (by rw [HEs.out]; exact zHash) _ rfl) rfl ?_
      exact ⟨⟨r ++ b, by rw [HE.out], Hbl.out⟩, Hb6.out.trans (below_setRow _ _ _ (by omega))⟩
end Go.Proofs.Ythfljfampfioaaa.feed
