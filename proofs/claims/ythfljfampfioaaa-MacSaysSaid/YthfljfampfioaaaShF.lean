/-
  What sha's Right, Start, Feed and End return for a hasher that was fed with a string: it is valid; the hasher that was fed with both; the hash. Conditions: the tables' words have their bits, the strings have at most 2^39 bytes.
  What sha's Feed returns where the rest is filled by the string. Conditions: as Feed's.
  What sha's Feed returns for a hasher that was fed with one string: the hasher that was fed with both. Conditions: the tables' words have their bits, the strings have at most 2^39 bytes together.
-/
import Derived.Test.YthfljfampfioaaaRBk
import Derived.Test.YthfljfampfioaaaOc
import Derived.BigRegion
namespace Go.Proofs.Ythfljfampfioaaa.feed
open Go.RowKit
open Go.Proofs.Ythfljfampfioaaa.oct Go.Proofs.Ythfljfampfioaaa.mem Go.Proofs.Ythfljfampfioaaa.arr Go.Proofs.Ythfljfampfioaaa.sham Go.Proofs.Ythfljfampfioaaa.block Go.Proofs.Ythfljfampfioaaa.thru Go.Proofs.Ythfljfampfioaaa.pad Go.Proofs.Ythfljfampfioaaa.ends Go.Proofs.Ythfljfampfioaaa.hashs Go.Proofs.Ythfljfampfioaaa.rblk
set_option maxRecDepth 100000 in
set_option maxHeartbeats 1000000 in
theorem sclone (x : ByteArray) (w : World) (h : x.size ≤ 281474976710656) : Calls Try.prog 39 #[.string x] w fun e w' => e = .returned (.string x) ∧ Below w.heap.size w w' := by
  have H := Away.mk (fun w1 : World => shelf.clone x w1 h)
  clear h
  go_enter Try.func39, Try.ntmps39
  go_wp2_with fail
  refine (H.out _).mono ?_
  rintro e w1 ⟨rfl, hb⟩
  go_wp2_with fail
  go_ret
  exact ⟨rfl, hb⟩
theorem results_cell_tmp {P : Program} {fn : Func} {p u : Tmp} {ty : TypeId} (h : fn.results = #[.cell p ty, .tmp u]) (tmps : Array Value) (w : World) (g : Nat) (t : TypeId) (cs : Array Value) (fr : Nat × Nat) (d : TypeDesc)
    (hp : tmps.getD p undef = .pointer (some ⟨g, 0, none⟩)) (hg : w.heap[g]? = some (.cells cs t fr))
    (hu : P.underlying ty = some d) (hd : (match d with | .struct _ | .array _ _ => true | _ => false) = true) (hi : (P.info? ty).map (·.size) = some cs.size) (v : Value) (hv : tmps.getD u undef = v) :
    (results fn tmps).run P w = .ok (.tuple #[.agg cs, v]) w := by
  have hp' : tmps[p]?.getD undef = .pointer (some ⟨g, 0, none⟩) := by simpa using hp
  have hv' : tmps[u]?.getD undef = v := by simpa using hv
  simp [results, h, hp', hv', asAddr, run_loadVar_row w g t ty cs fr d hg hu hd hi]

/-! ### 32 bits -/
set_option maxRecDepth 100000 in
set_option maxHeartbeats 1000000 in
theorem right32 (sm lg : V8) (r : ByteArray) (n : Nat) (w : World) (hn : n ≤ 1125899906842624) (hr : r.size = n % 64) :
    Calls Try.prog 53 #[.agg (HC false sm lg r n)] w fun e w' => e = .returned (.bool true) ∧ Below w.heap.size w w' := by
  obtain ⟨A, HA⟩ := ex_eq (HC false sm lg r n)
  obtain ⟨w0, Hw0⟩ := ex_eq (w.alloc (.cells A 56))
  have g0 : w0.heap[w.heap.size]? = some (.cells A 56 (0, 0)) := by rw [← Hw0.out]; exact heap_at _ _ _ rfl
  have c17 : w0.cell? ⟨w.heap.size, 17, none⟩ = some (.string r) := (cell_of_row w0 _ _ _ _ (0, 0) g0).trans (by rw [← HA.out]; rfl)
  have c18 : w0.cell? ⟨w.heap.size, 18, none⟩ = some (.int .i64 (n : Int)) := (cell_of_row w0 _ _ _ _ (0, 0) g0).trans (by rw [← HA.out]; rfl)
  have c0 : w0.cell? ⟨w.heap.size, 0, none⟩ = some (.bool false) := (cell_of_row w0 _ _ _ _ (0, 0) g0).trans (by rw [← HA.out]; rfl)
  have Hb0 : Away (Below w.heap.size w w0) := ⟨by rw [← Hw0.out]; exact below_alloc _ _⟩
  have hd1 : decide ((n : Int) ≤ 1125899906842624) = true := decide_eq_true (by omega)
  have hm : (n : Int).tmod 64 = (r.size : Int) := by rw [Int.tmod_eq_emod_of_nonneg (by omega)]; omega
  have hm2 : (n : Int) % 64 = (r.size : Int) := by omega
  rw [HA.out]
  clear g0 hr
  go_enter Try.func53, Try.ntmps53
  go_wp2_with fail
  rw [Hw0.out]
  refine still_all (by kernel_rfl) (by kernel_rfl) ?_
  repeat still_step
  still_call (size32 _)
  repeat still_step
  refine wpStill_nil ?_
  go_wp2_with fail
  go_ret
  exact ⟨rfl, Hb0.out.drew⟩

set_option maxRecDepth 100000 in
set_option maxHeartbeats 1000000 in
theorem newhash32 (T : Array Value) (K3 K6 : List Nat) (S3 S6 : V8) (w : World) (h : TF T K3 S3 K6 S6) :
    Calls Try.prog 33 #[.agg T, .bool false] w fun e w' => e = .returned (.agg (HC false S3 V0 ⟨#[]⟩ 0)) ∧ Below w.heap.size w w' := by
  obtain ⟨Z, HZ⟩ := ex_eq (HC false V0 V0 ⟨#[]⟩ 0)
  have eZ : (#[.bool false, .int .u32 0, .int .u32 0, .int .u32 0, .int .u32 0, .int .u32 0, .int .u32 0, .int .u32 0, .int .u32 0, .int .u64 0, .int .u64 0, .int .u64 0, .int .u64 0, .int .u64 0, .int .u64 0, .int .u64 0, .int .u64 0, .string ⟨#[]⟩, .int .i64 0] : Array Value) = Z := by rw [← HZ.out]; rfl
  have HZs : Away (Z.size = 19) := ⟨by rw [← HZ.out]; rfl⟩
  obtain ⟨C, HC⟩ := ex_eq (HC false S3 V0 ⟨#[]⟩ 0)
  have HCs : Away (C.size = 19) := ⟨by rw [← HC.out]; rfl⟩
  have HCo : Away (C.all (·.oneCell') = true) := ⟨by rw [← HC.out]; exact hc_one _ _ _ _ _⟩
  have Hst : Away (∀ w1 : World, w1.heap[w.heap.size]? = some (.cells T 33 (0, 0)) → Calls Try.prog 56 #[.pointer (some ⟨w.heap.size, 0, none⟩), .bool false] w1 fun e w' => e = .returned (.agg C) ∧ Below w1.heap.size w1 w') := ⟨fun w1 hw => by rw [← HC.out]; exact start32 w.heap.size T S3 w1 hw h.s32⟩
  rw [HC.out]
  clear h HC HZ
  go_enter Try.func33, Try.ntmps33
  go_wp2_with fail
  clear eZ
  obtain ⟨w0, Hw0⟩ := ex_eq ((w.alloc (.cells T 33)).alloc (.cells Z 56))
  have g0 : w0.heap[w.heap.size]? = some (.cells T 33 (0, 0)) := by rw [← Hw0.out, heap_past _ _ _ (by simp), heap_at _ _ _ rfl]
  have g1 : w0.heap[w.heap.size + 1]? = some (.cells Z 56 (0, 0)) := by rw [← Hw0.out, heap_at _ _ _ (by simp)]
  have hb0 : Below w.heap.size w w0 := by rw [← Hw0.out]; exact ((Below.refl _ _).alloc (Nat.le_refl _) _).alloc (by simp) _
  have z0 : w0.heap.size = w.heap.size + 2 := by rw [← Hw0.out]; simp
  rw [Hw0.out]
  refine (Hst.out w0 g0).mono ?_
  rintro e w1 ⟨rfl, hb1⟩
  have G1 := Away.mk ((hb1.block (w.heap.size + 1) (by omega)).trans g1)
  have Hb1 : Away (Below w.heap.size w w1) := ⟨hb0.trans (hb1.mono (by omega))⟩
  clear g0 g1 hb0 hb1
  go_wp2_with (refine wpList_store_row rfl 56 _ _ rfl (w.heap.size + 1) C rfl rfl 56 _ G1.out (by rw [HCs.out]; exact zHash) (by rw [HZs.out, HCs.out]) HCo.out ?_)
  refine bodyPost_ret_by (v := .agg C) (results_cell_row rfl _ _ (w.heap.size + 1) 56 _ (0, 0) _ rfl (setRow_heap _ _ _ _ _ _ G1.out) Try.underlying56 rfl (by rw [HCs.out]; exact zHash)) rfl ?_
  exact ⟨rfl, Hb1.out.trans (below_setRow _ _ _ (by omega))⟩

set_option maxRecDepth 100000 in
set_option maxHeartbeats 1000000 in
theorem ended32 (T : Array Value) (K3 K6 : List Nat) (S3 S6 : V8) (A : List UInt8) (r : ByteArray) (w : World) (h : TF T K3 S3 K6 S6) (hr : r.data.toList = A.drop (64 * (A.length / 64))) (hA : A.length ≤ 549755813888) :
    Calls Try.prog 58 #[.agg T, .agg (HC false (run32 K3 S3 A (A.length / 64)) V0 r (A.length : Int))] w fun e w' => e = .returned (.tuple #[.string ⟨(hs32 K3 S3 A).toArray⟩, .int .i64 0]) ∧ Below w.heap.size w w' := by
  have hrs : r.size = A.length % 64 := by
    have h1 : r.data.toList.length = r.size := rfl
    rw [← h1, hr, List.length_drop]; omega
  have Hr : Away (∀ w1 : World, Calls Try.prog 53 #[.agg (HC false (run32 K3 S3 A (A.length / 64)) V0 r (A.length : Int))] w1 fun e w' => e = .returned (.bool true) ∧ Below w1.heap.size w1 w') := ⟨fun w1 => right32 _ _ r A.length w1 (by omega) hrs⟩
  have He : Away (∀ w1 : World, w1.heap[w.heap.size]? = some (.cells T 33 (0, 0)) → Calls Try.prog 66 #[.pointer (some ⟨w.heap.size, 0, none⟩), .agg (HC false (run32 K3 S3 A (A.length / 64)) V0 r (A.length : Int))] w1 fun e w' => e = .returned (.string ⟨(hs32 K3 S3 A).toArray⟩) ∧ Below w1.heap.size w1 w') := ⟨fun w1 hw => by
    have hh := end32 w.heap.size K3 T (run32 K3 S3 A (A.length / 64)) V0 r A.length w1 (run_lt32 _ _ _ h.bs32 _) h.bk32 hw h.k32 (by omega) (by omega)
    rw [hr, en_wd32] at hh
    exact hh⟩
  obtain ⟨C, HC⟩ := ex_eq (HC false (run32 K3 S3 A (A.length / 64)) V0 r (A.length : Int))
  have HCs : Away (C.size = 19) := ⟨by rw [← HC.out]; rfl⟩
  rw [HC.out] at Hr He ⊢
  obtain ⟨X, HX⟩ := ex_eq (hs32 K3 S3 A)
  rw [HX.out] at He ⊢
  clear h HC HX hr hrs
  go_enter Try.func58, Try.ntmps58
  obtain ⟨w0, Hw0⟩ := ex_eq ((w.alloc (.cells T 33)).alloc (.cells C 56))
  have g0 : w0.heap[w.heap.size]? = some (.cells T 33 (0, 0)) := by rw [← Hw0.out, heap_past _ _ _ (by simp), heap_at _ _ _ rfl]
  have g1 : w0.heap[w.heap.size + 1]? = some (.cells C 56 (0, 0)) := by rw [← Hw0.out, heap_at _ _ _ (by simp)]
  have hb0 : Below w.heap.size w w0 := by rw [← Hw0.out]; exact ((Below.refl _ _).alloc (Nat.le_refl _) _).alloc (by simp) _
  have z0 : w0.heap.size = w.heap.size + 2 := by rw [← Hw0.out]; simp
  have G0 := Away.mk g0
  have G1 := Away.mk g1
  have Hb0 := Away.mk hb0
  have G1' : Away (((w.alloc (.cells T 33)).alloc (.cells C 56)).heap[w.heap.size + 1]? = some (.cells C 56 (0, 0))) := ⟨by rw [Hw0.out]; exact G1.out⟩
  clear g0 g1 hb0
  go_wp2_with (refine wpList_load_row rfl 56 _ rfl (w.heap.size + 1) rfl 56 C (0, 0) _ G1'.out Try.underlying56 rfl (by rw [HCs.out]; exact zHash) ?_)
  rw [Hw0.out]
  refine (Hr.out w0).mono ?_
  rintro e w1 ⟨rfl, hb1⟩
  have Q0 := Away.mk ((hb1.block w.heap.size (by omega)).trans G0.out)
  have Q1 := Away.mk ((hb1.block (w.heap.size + 1) (by omega)).trans G1.out)
  have Hb1 : Away (Below w.heap.size w w1) := ⟨Hb0.out.trans (hb1.mono (by omega))⟩
  clear hb1
  go_wp2_with (refine wpList_load_row rfl 56 _ rfl (w.heap.size + 1) rfl 56 C (0, 0) _ Q1.out Try.underlying56 rfl (by rw [HCs.out]; exact zHash) ?_)
  refine (He.out w1 Q0.out).mono ?_
  rintro e w2 ⟨rfl, hb2⟩
  have Hb2 : Away (Below w.heap.size w w2) := ⟨Hb1.out.trans (hb2.mono Hb1.out.size)⟩
  clear hb2
  go_wp2_with fail
  go_ret2
  exact ⟨rfl, Hb2.out⟩

set_option maxRecDepth 100000 in
set_option maxHeartbeats 2000000 in
theorem feed_c32 (T : Array Value) (K3 K6 : List Nat) (S3 S6 : V8) (v : V8) (n : Nat) (r s : ByteArray) (w : World) (h : TF T K3 S3 K6 S6) (hv : v.lt 4294967296) (hrs : r.size = n % 64) (hn : n ≤ 549755813888) (hs : s.size ≤ 549755813888) (hcase : r = ⟨#[]⟩ ∨ (r ≠ ⟨#[]⟩ ∧ s.size < 64 - r.size)) :
    Calls Try.prog 32 #[.agg T, .agg (HC false v V0 r (n : Int)), .string s] w fun e w' => (∃ r' : ByteArray, e = .returned (.tuple #[.agg (HC false (run32 K3 v s.data.toList (s.size / 64)) V0 r' ((n : Int) + (s.size : Int))), .int .i64 0]) ∧ r'.data.toList = r.data.toList ++ s.data.toList.drop (64 * (s.size / 64))) ∧ Below w.heap.size w w' := by
  have Hr : Away (∀ w1 : World, Calls Try.prog 53 #[.agg (HC false v V0 r (n : Int))] w1 fun e w' => e = .returned (.bool true) ∧ Below w1.heap.size w1 w') := ⟨fun w1 => right32 _ _ r n w1 (by omega) hrs⟩
  obtain ⟨C, HCe⟩ := ex_eq (HC false v V0 r (n : Int))
  have HCs : Away (C.size = 19) := ⟨by rw [← HCe.out]; rfl⟩
  have HC18 : Away (C[18]? = some (.int .i64 (n : Int))) := ⟨by rw [← HCe.out]; rfl⟩
  have hcs : C.setIfInBounds 18 (.int .i64 ((n : Int) + (s.size : Int))) = HC false v V0 r ((n : Int) + (s.size : Int)) := by rw [← HCe.out]; simp [HC]
  rw [HCe.out] at Hr ⊢
  go_enter Try.func32, Try.ntmps32
  obtain ⟨Z, HZ⟩ := ex_eq (HC false V0 V0 ⟨#[]⟩ 0)
  have eZ : (#[.bool false, .int .u32 0, .int .u32 0, .int .u32 0, .int .u32 0, .int .u32 0, .int .u32 0, .int .u32 0, .int .u32 0, .int .u64 0, .int .u64 0, .int .u64 0, .int .u64 0, .int .u64 0, .int .u64 0, .int .u64 0, .int .u64 0, .string ⟨#[]⟩, .int .i64 0] : Array Value) = Z := by rw [← HZ.out]; rfl
  have HZs : Away (Z.size = 19) := ⟨by rw [← HZ.out]; rfl⟩
  obtain ⟨w0, Hw0⟩ := ex_eq (((w.alloc (.cells T 33)).alloc (.cells C 56)).alloc (.cells Z 56))
  have g0 : w0.heap[w.heap.size]? = some (.cells T 33 (0, 0)) := by rw [← Hw0.out, heap_past _ _ _ (by simp; omega), heap_past _ _ _ (by simp), heap_at _ _ _ rfl]
  have g1 : w0.heap[w.heap.size + 1]? = some (.cells C 56 (0, 0)) := by rw [← Hw0.out, heap_past _ _ _ (by simp), heap_at _ _ _ (by simp)]
  have g2 : w0.heap[w.heap.size + 2]? = some (.cells Z 56 (0, 0)) := by rw [← Hw0.out, heap_at _ _ _ (by simp)]
  have Hb0 : Away (Below w.heap.size w w0) := ⟨by rw [← Hw0.out]; exact (((Below.refl _ _).alloc (Nat.le_refl _) _).alloc (by simp) _).alloc (by simp; omega) _⟩
  have z0 : w0.heap.size = w.heap.size + 3 := by rw [← Hw0.out]; simp
  have g1' : (((w.alloc (.cells T 33)).alloc (.cells C 56)).alloc (.cells Z 56)).heap[w.heap.size + 1]? = some (.cells C 56 (0, 0)) := by rw [Hw0.out]; exact g1
  have G0 := Away.mk g0
  have G1 := Away.mk g1
  have G2 := Away.mk g2
  have G1' := Away.mk g1'
  have HCS := Away.mk hcs
  have HCase := Away.mk hcase
  clear g0 g1 g2 g1' HZ hcs hcase
  go_wp2_with (refine wpList_load_row rfl 56 _ rfl (w.heap.size + 1) rfl 56 C (0, 0) _ G1'.out Try.underlying56 rfl (by rw [HCs.out]; exact zHash) ?_)
  rw [Hw0.out]
  clear eZ
  refine (Hr.out w0).mono ?_
  rintro e w1 ⟨rfl, hb1⟩
  have Q0 := Away.mk ((hb1.block w.heap.size (by omega)).trans G0.out)
  have Q1 := Away.mk ((hb1.block (w.heap.size + 1) (by omega)).trans G1.out)
  have Q2 := Away.mk ((hb1.block (w.heap.size + 2) (by omega)).trans G2.out)
  have z1 := hb1.size
  have Hb1 : Away (Below w.heap.size w w1) := ⟨Hb0.out.trans (hb1.mono (by omega))⟩
  have c18 : w1.cell? ⟨w.heap.size + 1, 18, none⟩ = some (.int .i64 (n : Int)) := (cell_of_row w1 _ _ _ _ (0, 0) Q1.out).trans HC18.out
  have f18 : w1.frozen? ⟨w.heap.size + 1, 18, none⟩ = false := frozen_of_row w1 _ 18 _ _ Q1.out
  clear hb1
  go_wp2_with fail
  obtain ⟨D, HD⟩ := ex_eq (HC false v V0 r ((n : Int) + (s.size : Int)))
  have HD17 : Away (D[17]? = some (.string r)) := ⟨by rw [← HD.out]; rfl⟩
  have HD0 : Away (D[0]? = some (.bool false)) := ⟨by rw [← HD.out]; rfl⟩
  obtain ⟨w2, Hw2⟩ := ex_eq (w1.setCell ⟨w.heap.size + 1, 18, none⟩ (.int .i64 ((n : Int) + (s.size : Int))))
  have hat := at_put (At.refl Q1.out) 18 (.int .i64 ((n : Int) + (s.size : Int)))
  rw [HCS.out, HD.out, Hw2.out] at hat
  have Hat := Away.mk hat
  have c0 : w2.cell? ⟨w.heap.size + 1, 0, none⟩ = some (.bool false) := (hat.cell 0).trans HD0.out
  have c17 : w2.cell? ⟨w.heap.size + 1, 17, none⟩ = some (.string r) := (hat.cell 17).trans HD17.out
  have R0 := Away.mk (hat.other (k := w.heap.size) (by omega) (by omega) Q0.out)
  have R2 := Away.mk (hat.other (k := w.heap.size + 2) (by omega) (by omega) Q2.out)
  have Hb2 : Away (Below w.heap.size w w2) := ⟨Hb1.out.trans (hat.below (by omega) (by omega))⟩
  obtain ⟨V, HV⟩ := ex_eq (run32 K3 v s.data.toList (s.size / 64))
  have Hthr : Away (∀ w3 : World, w3.heap = w2.heap → Calls Try.prog 55 #[.pointer (some ⟨w.heap.size, 0, none⟩), .pointer (some ⟨w.heap.size + 1, 0, none⟩), .string s] w3 fun e w' => (∃ b : ByteArray, e = .returned (.string b) ∧ b.data.toList = s.data.toList.drop (64 * (s.size / 64))) ∧ At (w.heap.size + 1) (HC false V V0 r ((n : Int) + (s.size : Int))) 56 w3 w') := ⟨fun w3 hw3 => by
    have ht := through32 w.heap.size (w.heap.size + 1) K3 T v V0 r ((n : Int) + (s.size : Int)) s w3 hv h.bk32 (by rw [hw3]; exact R0.out) h.k32 (by rw [hw3, HD.out]; exact hat.row) (by omega) (by omega)
    rw [HV.out] at ht
    exact ht⟩
  rw [Hw2.out]
  clear hat h hv
  rcases HCase.out with hre | ⟨hne, hlt⟩
  · have hr0 : r.size = 0 := by rw [hre]; rfl
    refine still_all (by kernel_rfl) (by kernel_rfl) ?_
    repeat still_step
    still_call (size32 _)
    repeat still_step
    refine wpStill_nil ?_
    go_wp2_with fail
    clear hre
    refine (Hthr.out w2.drew rfl).mono ?_
    rintro e w4 ⟨⟨b, rfl, hbl⟩, hA⟩
    have hz4 : w2.heap.size ≤ w4.heap.size := hA.size
    have hz2 : w1.heap.size ≤ w2.heap.size := Hat.out.size
    have hbs : b.size ≤ s.size := by
      have h1 : b.data.toList.length = b.size := rfl
      have h2 : s.data.toList.length = s.size := rfl
      rw [← h1, hbl, List.length_drop, h2]; omega
    have d17 : w4.cell? ⟨w.heap.size + 1, 17, none⟩ = some (.string r) := (hA.cell 17).trans rfl
    have S2 := Away.mk (hA.other (k := w.heap.size + 2) (by show _ < w2.heap.size; omega) (by omega) R2.out)
    have HA := Away.mk hA
    have Hb4 : Away (Below w.heap.size w w4) := ⟨Hb2.out.trans ⟨hA.os, hA.tape, hA.output, hA.size, fun k hk => hA.block k (by show _ < w2.heap.size; omega) (by omega)⟩⟩
    have Hbl : Away ((r ++ b).data.toList = r.data.toList ++ s.data.toList.drop (64 * (s.size / 64))) := ⟨by rw [← hbl]; simp⟩
    have hxs : (r ++ b).size ≤ 281474976710656 := by rw [ByteArray.size_append]; omega
    have hsx : r.size + b.size ≤ 281474976710656 := by omega
    clear hA hbl c0 c17
    go_wp2_with fail
    refine (sclone (r ++ b) _ hxs).mono ?_
    rintro e w5 ⟨rfl, hb5⟩
    have hA5 := HA.out.later hb5
    have e17 : w5.cell? ⟨w.heap.size + 1, 17, none⟩ = some (.string r) := (hA5.cell 17).trans rfl
    have f17 : w5.frozen? ⟨w.heap.size + 1, 17, none⟩ = false := hA5.frozen 17
    have hat6 := at_put hA5 17 (.string (r ++ b))
    rw [show (HC false V V0 r ((n : Int) + (s.size : Int))).setIfInBounds 17 (.string (r ++ b)) = HC false V V0 (r ++ b) ((n : Int) + (s.size : Int)) by simp [HC]] at hat6
    have hz5 : w4.heap.size ≤ w5.heap.size := hb5.size
    have s6 := (Below.heap_setCell w5 ⟨w.heap.size + 1, 17, none⟩ (.string (r ++ b)) (w.heap.size + 2) (by show w.heap.size + 2 ≠ w.heap.size + 1; omega)).trans ((hb5.block (w.heap.size + 2) (by omega)).trans S2.out)
    have Hb6 : Away (Below w.heap.size w (w5.setCell ⟨w.heap.size + 1, 17, none⟩ (.string (r ++ b)))) := ⟨(Hb4.out.trans (hb5.mono (by omega))).setCell (p := ⟨w.heap.size + 1, 17, none⟩) (by show w.heap.size ≤ w.heap.size + 1; omega) _⟩
    have Row6 := Away.mk hat6.row
    have S6 := Away.mk s6
    have Hval : Away ((HC false V V0 (r ++ b) ((n : Int) + (s.size : Int))) = (HC false (run32 K3 v s.data.toList (s.size / 64)) V0 (r ++ b) ((n : Int) + (s.size : Int)))) := ⟨by rw [← HV.out]⟩
    rw [Hval.out] at Row6
    obtain ⟨E, HE⟩ := ex_eq (HC false (run32 K3 v s.data.toList (s.size / 64)) V0 (r ++ b) ((n : Int) + (s.size : Int)))
    rw [HE.out] at Row6
    have HEs : Away (E.size = 19) := ⟨by rw [← HE.out]; rfl⟩
    have HEo : Away (E.all (·.oneCell') = true) := ⟨by rw [← HE.out]; exact hc_one _ _ _ _ _⟩
    clear hA5 hat6 hb5 s6 d17
    go_wp2_with (first
      | (refine wpList_load_row rfl 56 _ rfl (w.heap.size + 1) rfl 56 E (0, 0) _ Row6.out Try.underlying56 rfl (by rw [HEs.out]; exact zHash) ?_)
      | (refine wpList_store_row rfl 56 _ _ rfl (w.heap.size + 1 + 1) E rfl rfl 56 _ S6.out (by rw [HEs.out]; exact zHash) (by rw [HZs.out, HEs.out]) HEo.out ?_))
    refine bodyPost_ret_by (v := .tuple #[.agg E, .int .i64 0]) (results_cell_tmp rfl _ _ (w.heap.size + 1 + 1) 56 _ (0, 0) _ rfl (setRow_heap _ _ _ _ _ _ S6.out) Try.underlying56 rfl (by rw [HEs.out]; exact zHash) _ rfl) rfl ?_
    exact ⟨⟨r ++ b, by rw [HE.out], Hbl.out⟩, Hb6.out.trans (below_setRow _ _ _ (by omega))⟩
  · obtain ⟨rz, hrz⟩ : ∃ rz, r.size = rz := ⟨_, rfl⟩
    rw [hrz] at hlt hrs
    have hm : IntKind.i64.wrap (64 - (rz : Int)) = 64 - (rz : Int) := by rw [IntKind.wrap_i64]; omega
    have kd : decide (64 - (rz : Int) ≤ (s.size : Int)) = false := decide_eq_false (by omega)
    have hrl : rz ≤ 64 := by omega
    clear hrs
    refine still_all (by kernel_rfl) (by kernel_rfl) ?_
    repeat still_step
    still_call (size32 _)
    repeat still_step
    refine wpStill_nil ?_
    go_wp2_with fail
    clear kd hm hne
    all_goals
      refine (Hthr.out w2.drew rfl).mono ?_
      rintro e w4 ⟨⟨b, rfl, hbl⟩, hA⟩
      have hz4 : w2.heap.size ≤ w4.heap.size := hA.size
      have hz2 : w1.heap.size ≤ w2.heap.size := Hat.out.size
      have hbs : b.size ≤ s.size := by
        have h1 : b.data.toList.length = b.size := rfl
        have h2 : s.data.toList.length = s.size := rfl
        rw [← h1, hbl, List.length_drop, h2]; omega
      have d17 : w4.cell? ⟨w.heap.size + 1, 17, none⟩ = some (.string r) := (hA.cell 17).trans rfl
      have S2 := Away.mk (hA.other (k := w.heap.size + 2) (by show _ < w2.heap.size; omega) (by omega) R2.out)
      have HA := Away.mk hA
      have Hb4 : Away (Below w.heap.size w w4) := ⟨Hb2.out.trans ⟨hA.os, hA.tape, hA.output, hA.size, fun k hk => hA.block k (by show _ < w2.heap.size; omega) (by omega)⟩⟩
      have Hbl : Away ((r ++ b).data.toList = r.data.toList ++ s.data.toList.drop (64 * (s.size / 64))) := ⟨by rw [← hbl]; simp⟩
      have hxs : (r ++ b).size ≤ 281474976710656 := by rw [ByteArray.size_append]; omega
      have hsx : r.size + b.size ≤ 281474976710656 := by omega
      clear hA hbl c0 c17
      go_wp2_with fail
      refine (sclone (r ++ b) _ hxs).mono ?_
      rintro e w5 ⟨rfl, hb5⟩
      have hA5 := HA.out.later hb5
      have e17 : w5.cell? ⟨w.heap.size + 1, 17, none⟩ = some (.string r) := (hA5.cell 17).trans rfl
      have f17 : w5.frozen? ⟨w.heap.size + 1, 17, none⟩ = false := hA5.frozen 17
      have hat6 := at_put hA5 17 (.string (r ++ b))
      rw [show (HC false V V0 r ((n : Int) + (s.size : Int))).setIfInBounds 17 (.string (r ++ b)) = HC false V V0 (r ++ b) ((n : Int) + (s.size : Int)) by simp [HC]] at hat6
      have hz5 : w4.heap.size ≤ w5.heap.size := hb5.size
      have s6 := (Below.heap_setCell w5 ⟨w.heap.size + 1, 17, none⟩ (.string (r ++ b)) (w.heap.size + 2) (by show w.heap.size + 2 ≠ w.heap.size + 1; omega)).trans ((hb5.block (w.heap.size + 2) (by omega)).trans S2.out)
      have Hb6 : Away (Below w.heap.size w (w5.setCell ⟨w.heap.size + 1, 17, none⟩ (.string (r ++ b)))) := ⟨(Hb4.out.trans (hb5.mono (by omega))).setCell (p := ⟨w.heap.size + 1, 17, none⟩) (by show w.heap.size ≤ w.heap.size + 1; omega) _⟩
      have Row6 := Away.mk hat6.row
      have S6 := Away.mk s6
      have Hval : Away ((HC false V V0 (r ++ b) ((n : Int) + (s.size : Int))) = (HC false (run32 K3 v s.data.toList (s.size / 64)) V0 (r ++ b) ((n : Int) + (s.size : Int)))) := ⟨by rw [← HV.out]⟩
      rw [Hval.out] at Row6
      obtain ⟨E, HE⟩ := ex_eq (HC false (run32 K3 v s.data.toList (s.size / 64)) V0 (r ++ b) ((n : Int) + (s.size : Int)))
      rw [HE.out] at Row6
      have HEs : Away (E.size = 19) := ⟨by rw [← HE.out]; rfl⟩
      have HEo : Away (E.all (·.oneCell') = true) := ⟨by rw [← HE.out]; exact hc_one _ _ _ _ _⟩
      clear hA5 hat6 hb5 s6 d17
      go_wp2_with (first
        | (refine wpList_load_row rfl 56 _ rfl (w.heap.size + 1) rfl 56 E (0, 0) _ Row6.out Try.underlying56 rfl (by rw [HEs.out]; exact zHash) ?_)
        | (refine wpList_store_row rfl 56 _ _ rfl (w.heap.size + 1 + 1) E rfl rfl 56 _ S6.out (by rw [HEs.out]; exact zHash) (by rw [HZs.out, HEs.out]) HEo.out ?_))
      refine bodyPost_ret_by (v := .tuple #[.agg E, .int .i64 0]) (results_cell_tmp rfl _ _ (w.heap.size + 1 + 1) 56 _ (0, 0) _ rfl (setRow_heap _ _ _ _ _ _ S6.out) Try.underlying56 rfl (by rw [HEs.out]; exact zHash) _ rfl) rfl ?_
      exact ⟨⟨r ++ b, by rw [HE.out], Hbl.out⟩, Hb6.out.trans (below_setRow _ _ _ (by omega))⟩

/-! ### 64 bits -/
set_option maxRecDepth 100000 in
set_option maxHeartbeats 1000000 in
theorem right64 (sm lg : V8) (r : ByteArray) (n : Nat) (w : World) (hn : n ≤ 1125899906842624) (hr : r.size = n % 128) :
    Calls Try.prog 53 #[.agg (HC true sm lg r n)] w fun e w' => e = .returned (.bool true) ∧ Below w.heap.size w w' := by
  obtain ⟨A, HA⟩ := ex_eq (HC true sm lg r n)
  obtain ⟨w0, Hw0⟩ := ex_eq (w.alloc (.cells A 56))
  have g0 : w0.heap[w.heap.size]? = some (.cells A 56 (0, 0)) := by rw [← Hw0.out]; exact heap_at _ _ _ rfl
  have c17 : w0.cell? ⟨w.heap.size, 17, none⟩ = some (.string r) := (cell_of_row w0 _ _ _ _ (0, 0) g0).trans (by rw [← HA.out]; rfl)
  have c18 : w0.cell? ⟨w.heap.size, 18, none⟩ = some (.int .i64 (n : Int)) := (cell_of_row w0 _ _ _ _ (0, 0) g0).trans (by rw [← HA.out]; rfl)
  have c0 : w0.cell? ⟨w.heap.size, 0, none⟩ = some (.bool true) := (cell_of_row w0 _ _ _ _ (0, 0) g0).trans (by rw [← HA.out]; rfl)
  have Hb0 : Away (Below w.heap.size w w0) := ⟨by rw [← Hw0.out]; exact below_alloc _ _⟩
  have hd1 : decide ((n : Int) ≤ 1125899906842624) = true := decide_eq_true (by omega)
  have hm : (n : Int).tmod 128 = (r.size : Int) := by rw [Int.tmod_eq_emod_of_nonneg (by omega)]; omega
  have hm2 : (n : Int) % 128 = (r.size : Int) := by omega
  rw [HA.out]
  clear g0 hr
  go_enter Try.func53, Try.ntmps53
  go_wp2_with fail
  rw [Hw0.out]
  refine still_all (by kernel_rfl) (by kernel_rfl) ?_
  repeat still_step
  still_call (size64 _)
  repeat still_step
  refine wpStill_nil ?_
  go_wp2_with fail
  go_ret
  exact ⟨rfl, Hb0.out.drew⟩

set_option maxRecDepth 100000 in
set_option maxHeartbeats 1000000 in
theorem newhash64 (T : Array Value) (K3 K6 : List Nat) (S3 S6 : V8) (w : World) (h : TF T K3 S3 K6 S6) :
    Calls Try.prog 33 #[.agg T, .bool true] w fun e w' => e = .returned (.agg (HC true V0 S6 ⟨#[]⟩ 0)) ∧ Below w.heap.size w w' := by
  obtain ⟨Z, HZ⟩ := ex_eq (HC false V0 V0 ⟨#[]⟩ 0)
  have eZ : (#[.bool false, .int .u32 0, .int .u32 0, .int .u32 0, .int .u32 0, .int .u32 0, .int .u32 0, .int .u32 0, .int .u32 0, .int .u64 0, .int .u64 0, .int .u64 0, .int .u64 0, .int .u64 0, .int .u64 0, .int .u64 0, .int .u64 0, .string ⟨#[]⟩, .int .i64 0] : Array Value) = Z := by rw [← HZ.out]; rfl
  have HZs : Away (Z.size = 19) := ⟨by rw [← HZ.out]; rfl⟩
  obtain ⟨C, HC⟩ := ex_eq (HC true V0 S6 ⟨#[]⟩ 0)
  have HCs : Away (C.size = 19) := ⟨by rw [← HC.out]; rfl⟩
  have HCo : Away (C.all (·.oneCell') = true) := ⟨by rw [← HC.out]; exact hc_one _ _ _ _ _⟩
  have Hst : Away (∀ w1 : World, w1.heap[w.heap.size]? = some (.cells T 33 (0, 0)) → Calls Try.prog 56 #[.pointer (some ⟨w.heap.size, 0, none⟩), .bool true] w1 fun e w' => e = .returned (.agg C) ∧ Below w1.heap.size w1 w') := ⟨fun w1 hw => by rw [← HC.out]; exact start64 w.heap.size T S6 w1 hw h.s64⟩
  rw [HC.out]
  clear h HC HZ
  go_enter Try.func33, Try.ntmps33
  go_wp2_with fail
  clear eZ
  obtain ⟨w0, Hw0⟩ := ex_eq ((w.alloc (.cells T 33)).alloc (.cells Z 56))
  have g0 : w0.heap[w.heap.size]? = some (.cells T 33 (0, 0)) := by rw [← Hw0.out, heap_past _ _ _ (by simp), heap_at _ _ _ rfl]
  have g1 : w0.heap[w.heap.size + 1]? = some (.cells Z 56 (0, 0)) := by rw [← Hw0.out, heap_at _ _ _ (by simp)]
  have hb0 : Below w.heap.size w w0 := by rw [← Hw0.out]; exact ((Below.refl _ _).alloc (Nat.le_refl _) _).alloc (by simp) _
  have z0 : w0.heap.size = w.heap.size + 2 := by rw [← Hw0.out]; simp
  rw [Hw0.out]
  refine (Hst.out w0 g0).mono ?_
  rintro e w1 ⟨rfl, hb1⟩
  have G1 := Away.mk ((hb1.block (w.heap.size + 1) (by omega)).trans g1)
  have Hb1 : Away (Below w.heap.size w w1) := ⟨hb0.trans (hb1.mono (by omega))⟩
  clear g0 g1 hb0 hb1
  go_wp2_with (refine wpList_store_row rfl 56 _ _ rfl (w.heap.size + 1) C rfl rfl 56 _ G1.out (by rw [HCs.out]; exact zHash) (by rw [HZs.out, HCs.out]) HCo.out ?_)
  refine bodyPost_ret_by (v := .agg C) (results_cell_row rfl _ _ (w.heap.size + 1) 56 _ (0, 0) _ rfl (setRow_heap _ _ _ _ _ _ G1.out) Try.underlying56 rfl (by rw [HCs.out]; exact zHash)) rfl ?_
  exact ⟨rfl, Hb1.out.trans (below_setRow _ _ _ (by omega))⟩

set_option maxRecDepth 100000 in
set_option maxHeartbeats 1000000 in
theorem ended64 (T : Array Value) (K3 K6 : List Nat) (S3 S6 : V8) (A : List UInt8) (r : ByteArray) (w : World) (h : TF T K3 S3 K6 S6) (hr : r.data.toList = A.drop (128 * (A.length / 128))) (hA : A.length ≤ 549755813888) :
    Calls Try.prog 58 #[.agg T, .agg (HC true V0 (run64 K6 S6 A (A.length / 128)) r (A.length : Int))] w fun e w' => e = .returned (.tuple #[.string ⟨(hs64 K6 S6 A).toArray⟩, .int .i64 0]) ∧ Below w.heap.size w w' := by
  have hrs : r.size = A.length % 128 := by
    have h1 : r.data.toList.length = r.size := rfl
    rw [← h1, hr, List.length_drop]; omega
  have Hr : Away (∀ w1 : World, Calls Try.prog 53 #[.agg (HC true V0 (run64 K6 S6 A (A.length / 128)) r (A.length : Int))] w1 fun e w' => e = .returned (.bool true) ∧ Below w1.heap.size w1 w') := ⟨fun w1 => right64 _ _ r A.length w1 (by omega) hrs⟩
  have He : Away (∀ w1 : World, w1.heap[w.heap.size]? = some (.cells T 33 (0, 0)) → Calls Try.prog 66 #[.pointer (some ⟨w.heap.size, 0, none⟩), .agg (HC true V0 (run64 K6 S6 A (A.length / 128)) r (A.length : Int))] w1 fun e w' => e = .returned (.string ⟨(hs64 K6 S6 A).toArray⟩) ∧ Below w1.heap.size w1 w') := ⟨fun w1 hw => by
    have hh := end64 w.heap.size K6 T V0 (run64 K6 S6 A (A.length / 128)) r A.length w1 (run_lt64 _ _ _ h.bs64 _) h.bk64 hw h.k64 (by omega) (by omega)
    rw [hr, en_wd64] at hh
    exact hh⟩
  obtain ⟨C, HC⟩ := ex_eq (HC true V0 (run64 K6 S6 A (A.length / 128)) r (A.length : Int))
  have HCs : Away (C.size = 19) := ⟨by rw [← HC.out]; rfl⟩
  rw [HC.out] at Hr He ⊢
  obtain ⟨X, HX⟩ := ex_eq (hs64 K6 S6 A)
  rw [HX.out] at He ⊢
  clear h HC HX hr hrs
  go_enter Try.func58, Try.ntmps58
  obtain ⟨w0, Hw0⟩ := ex_eq ((w.alloc (.cells T 33)).alloc (.cells C 56))
  have g0 : w0.heap[w.heap.size]? = some (.cells T 33 (0, 0)) := by rw [← Hw0.out, heap_past _ _ _ (by simp), heap_at _ _ _ rfl]
  have g1 : w0.heap[w.heap.size + 1]? = some (.cells C 56 (0, 0)) := by rw [← Hw0.out, heap_at _ _ _ (by simp)]
  have hb0 : Below w.heap.size w w0 := by rw [← Hw0.out]; exact ((Below.refl _ _).alloc (Nat.le_refl _) _).alloc (by simp) _
  have z0 : w0.heap.size = w.heap.size + 2 := by rw [← Hw0.out]; simp
  have G0 := Away.mk g0
  have G1 := Away.mk g1
  have Hb0 := Away.mk hb0
  have G1' : Away (((w.alloc (.cells T 33)).alloc (.cells C 56)).heap[w.heap.size + 1]? = some (.cells C 56 (0, 0))) := ⟨by rw [Hw0.out]; exact G1.out⟩
  clear g0 g1 hb0
  go_wp2_with (refine wpList_load_row rfl 56 _ rfl (w.heap.size + 1) rfl 56 C (0, 0) _ G1'.out Try.underlying56 rfl (by rw [HCs.out]; exact zHash) ?_)
  rw [Hw0.out]
  refine (Hr.out w0).mono ?_
  rintro e w1 ⟨rfl, hb1⟩
  have Q0 := Away.mk ((hb1.block w.heap.size (by omega)).trans G0.out)
  have Q1 := Away.mk ((hb1.block (w.heap.size + 1) (by omega)).trans G1.out)
  have Hb1 : Away (Below w.heap.size w w1) := ⟨Hb0.out.trans (hb1.mono (by omega))⟩
  clear hb1
  go_wp2_with (refine wpList_load_row rfl 56 _ rfl (w.heap.size + 1) rfl 56 C (0, 0) _ Q1.out Try.underlying56 rfl (by rw [HCs.out]; exact zHash) ?_)
  refine (He.out w1 Q0.out).mono ?_
  rintro e w2 ⟨rfl, hb2⟩
  have Hb2 : Away (Below w.heap.size w w2) := ⟨Hb1.out.trans (hb2.mono Hb1.out.size)⟩
  clear hb2
  go_wp2_with fail
  go_ret2
  exact ⟨rfl, Hb2.out⟩

set_option maxRecDepth 100000 in
set_option maxHeartbeats 2000000 in
theorem feed_c64 (T : Array Value) (K3 K6 : List Nat) (S3 S6 : V8) (v : V8) (n : Nat) (r s : ByteArray) (w : World) (h : TF T K3 S3 K6 S6) (hv : v.lt 18446744073709551616) (hrs : r.size = n % 128) (hn : n ≤ 549755813888) (hs : s.size ≤ 549755813888) (hcase : r = ⟨#[]⟩ ∨ (r ≠ ⟨#[]⟩ ∧ s.size < 128 - r.size)) :
    Calls Try.prog 32 #[.agg T, .agg (HC true V0 v r (n : Int)), .string s] w fun e w' => (∃ r' : ByteArray, e = .returned (.tuple #[.agg (HC true V0 (run64 K6 v s.data.toList (s.size / 128)) r' ((n : Int) + (s.size : Int))), .int .i64 0]) ∧ r'.data.toList = r.data.toList ++ s.data.toList.drop (128 * (s.size / 128))) ∧ Below w.heap.size w w' := by
  have Hr : Away (∀ w1 : World, Calls Try.prog 53 #[.agg (HC true V0 v r (n : Int))] w1 fun e w' => e = .returned (.bool true) ∧ Below w1.heap.size w1 w') := ⟨fun w1 => right64 _ _ r n w1 (by omega) hrs⟩
  obtain ⟨C, HCe⟩ := ex_eq (HC true V0 v r (n : Int))
  have HCs : Away (C.size = 19) := ⟨by rw [← HCe.out]; rfl⟩
  have HC18 : Away (C[18]? = some (.int .i64 (n : Int))) := ⟨by rw [← HCe.out]; rfl⟩
  have hcs : C.setIfInBounds 18 (.int .i64 ((n : Int) + (s.size : Int))) = HC true V0 v r ((n : Int) + (s.size : Int)) := by rw [← HCe.out]; simp [HC]
  rw [HCe.out] at Hr ⊢
  go_enter Try.func32, Try.ntmps32
  obtain ⟨Z, HZ⟩ := ex_eq (HC false V0 V0 ⟨#[]⟩ 0)
  have eZ : (#[.bool false, .int .u32 0, .int .u32 0, .int .u32 0, .int .u32 0, .int .u32 0, .int .u32 0, .int .u32 0, .int .u32 0, .int .u64 0, .int .u64 0, .int .u64 0, .int .u64 0, .int .u64 0, .int .u64 0, .int .u64 0, .int .u64 0, .string ⟨#[]⟩, .int .i64 0] : Array Value) = Z := by rw [← HZ.out]; rfl
  have HZs : Away (Z.size = 19) := ⟨by rw [← HZ.out]; rfl⟩
  obtain ⟨w0, Hw0⟩ := ex_eq (((w.alloc (.cells T 33)).alloc (.cells C 56)).alloc (.cells Z 56))
  have g0 : w0.heap[w.heap.size]? = some (.cells T 33 (0, 0)) := by rw [← Hw0.out, heap_past _ _ _ (by simp; omega), heap_past _ _ _ (by simp), heap_at _ _ _ rfl]
  have g1 : w0.heap[w.heap.size + 1]? = some (.cells C 56 (0, 0)) := by rw [← Hw0.out, heap_past _ _ _ (by simp), heap_at _ _ _ (by simp)]
  have g2 : w0.heap[w.heap.size + 2]? = some (.cells Z 56 (0, 0)) := by rw [← Hw0.out, heap_at _ _ _ (by simp)]
  have Hb0 : Away (Below w.heap.size w w0) := ⟨by rw [← Hw0.out]; exact (((Below.refl _ _).alloc (Nat.le_refl _) _).alloc (by simp) _).alloc (by simp; omega) _⟩
  have z0 : w0.heap.size = w.heap.size + 3 := by rw [← Hw0.out]; simp
  have g1' : (((w.alloc (.cells T 33)).alloc (.cells C 56)).alloc (.cells Z 56)).heap[w.heap.size + 1]? = some (.cells C 56 (0, 0)) := by rw [Hw0.out]; exact g1
  have G0 := Away.mk g0
  have G1 := Away.mk g1
  have G2 := Away.mk g2
  have G1' := Away.mk g1'
  have HCS := Away.mk hcs
  have HCase := Away.mk hcase
  clear g0 g1 g2 g1' HZ hcs hcase
  go_wp2_with (refine wpList_load_row rfl 56 _ rfl (w.heap.size + 1) rfl 56 C (0, 0) _ G1'.out Try.underlying56 rfl (by rw [HCs.out]; exact zHash) ?_)
  rw [Hw0.out]
  clear eZ
  refine (Hr.out w0).mono ?_
  rintro e w1 ⟨rfl, hb1⟩
  have Q0 := Away.mk ((hb1.block w.heap.size (by omega)).trans G0.out)
  have Q1 := Away.mk ((hb1.block (w.heap.size + 1) (by omega)).trans G1.out)
  have Q2 := Away.mk ((hb1.block (w.heap.size + 2) (by omega)).trans G2.out)
  have z1 := hb1.size
  have Hb1 : Away (Below w.heap.size w w1) := ⟨Hb0.out.trans (hb1.mono (by omega))⟩
  have c18 : w1.cell? ⟨w.heap.size + 1, 18, none⟩ = some (.int .i64 (n : Int)) := (cell_of_row w1 _ _ _ _ (0, 0) Q1.out).trans HC18.out
  have f18 : w1.frozen? ⟨w.heap.size + 1, 18, none⟩ = false := frozen_of_row w1 _ 18 _ _ Q1.out
  clear hb1
  go_wp2_with fail
  obtain ⟨D, HD⟩ := ex_eq (HC true V0 v r ((n : Int) + (s.size : Int)))
  have HD17 : Away (D[17]? = some (.string r)) := ⟨by rw [← HD.out]; rfl⟩
  have HD0 : Away (D[0]? = some (.bool true)) := ⟨by rw [← HD.out]; rfl⟩
  obtain ⟨w2, Hw2⟩ := ex_eq (w1.setCell ⟨w.heap.size + 1, 18, none⟩ (.int .i64 ((n : Int) + (s.size : Int))))
  have hat := at_put (At.refl Q1.out) 18 (.int .i64 ((n : Int) + (s.size : Int)))
  rw [HCS.out, HD.out, Hw2.out] at hat
  have Hat := Away.mk hat
  have c0 : w2.cell? ⟨w.heap.size + 1, 0, none⟩ = some (.bool true) := (hat.cell 0).trans HD0.out
  have c17 : w2.cell? ⟨w.heap.size + 1, 17, none⟩ = some (.string r) := (hat.cell 17).trans HD17.out
  have R0 := Away.mk (hat.other (k := w.heap.size) (by omega) (by omega) Q0.out)
  have R2 := Away.mk (hat.other (k := w.heap.size + 2) (by omega) (by omega) Q2.out)
  have Hb2 : Away (Below w.heap.size w w2) := ⟨Hb1.out.trans (hat.below (by omega) (by omega))⟩
  obtain ⟨V, HV⟩ := ex_eq (run64 K6 v s.data.toList (s.size / 128))
  have Hthr : Away (∀ w3 : World, w3.heap = w2.heap → Calls Try.prog 55 #[.pointer (some ⟨w.heap.size, 0, none⟩), .pointer (some ⟨w.heap.size + 1, 0, none⟩), .string s] w3 fun e w' => (∃ b : ByteArray, e = .returned (.string b) ∧ b.data.toList = s.data.toList.drop (128 * (s.size / 128))) ∧ At (w.heap.size + 1) (HC true V0 V r ((n : Int) + (s.size : Int))) 56 w3 w') := ⟨fun w3 hw3 => by
    have ht := through64 w.heap.size (w.heap.size + 1) K6 T V0 v r ((n : Int) + (s.size : Int)) s w3 hv h.bk64 (by rw [hw3]; exact R0.out) h.k64 (by rw [hw3, HD.out]; exact hat.row) (by omega) (by omega)
    rw [HV.out] at ht
    exact ht⟩
  rw [Hw2.out]
  clear hat h hv
  rcases HCase.out with hre | ⟨hne, hlt⟩
  · have hr0 : r.size = 0 := by rw [hre]; rfl
    refine still_all (by kernel_rfl) (by kernel_rfl) ?_
    repeat still_step
    still_call (size64 _)
    repeat still_step
    refine wpStill_nil ?_
    go_wp2_with fail
    clear hre
    refine (Hthr.out w2.drew rfl).mono ?_
    rintro e w4 ⟨⟨b, rfl, hbl⟩, hA⟩
    have hz4 : w2.heap.size ≤ w4.heap.size := hA.size
    have hz2 : w1.heap.size ≤ w2.heap.size := Hat.out.size
    have hbs : b.size ≤ s.size := by
      have h1 : b.data.toList.length = b.size := rfl
      have h2 : s.data.toList.length = s.size := rfl
      rw [← h1, hbl, List.length_drop, h2]; omega
    have d17 : w4.cell? ⟨w.heap.size + 1, 17, none⟩ = some (.string r) := (hA.cell 17).trans rfl
    have S2 := Away.mk (hA.other (k := w.heap.size + 2) (by show _ < w2.heap.size; omega) (by omega) R2.out)
    have HA := Away.mk hA
    have Hb4 : Away (Below w.heap.size w w4) := ⟨Hb2.out.trans ⟨hA.os, hA.tape, hA.output, hA.size, fun k hk => hA.block k (by show _ < w2.heap.size; omega) (by omega)⟩⟩
    have Hbl : Away ((r ++ b).data.toList = r.data.toList ++ s.data.toList.drop (128 * (s.size / 128))) := ⟨by rw [← hbl]; simp⟩
    have hxs : (r ++ b).size ≤ 281474976710656 := by rw [ByteArray.size_append]; omega
    have hsx : r.size + b.size ≤ 281474976710656 := by omega
    clear hA hbl c0 c17
    go_wp2_with fail
    refine (sclone (r ++ b) _ hxs).mono ?_
    rintro e w5 ⟨rfl, hb5⟩
    have hA5 := HA.out.later hb5
    have e17 : w5.cell? ⟨w.heap.size + 1, 17, none⟩ = some (.string r) := (hA5.cell 17).trans rfl
    have f17 : w5.frozen? ⟨w.heap.size + 1, 17, none⟩ = false := hA5.frozen 17
    have hat6 := at_put hA5 17 (.string (r ++ b))
    rw [show (HC true V0 V r ((n : Int) + (s.size : Int))).setIfInBounds 17 (.string (r ++ b)) = HC true V0 V (r ++ b) ((n : Int) + (s.size : Int)) by simp [HC]] at hat6
    have hz5 : w4.heap.size ≤ w5.heap.size := hb5.size
    have s6 := (Below.heap_setCell w5 ⟨w.heap.size + 1, 17, none⟩ (.string (r ++ b)) (w.heap.size + 2) (by show w.heap.size + 2 ≠ w.heap.size + 1; omega)).trans ((hb5.block (w.heap.size + 2) (by omega)).trans S2.out)
    have Hb6 : Away (Below w.heap.size w (w5.setCell ⟨w.heap.size + 1, 17, none⟩ (.string (r ++ b)))) := ⟨(Hb4.out.trans (hb5.mono (by omega))).setCell (p := ⟨w.heap.size + 1, 17, none⟩) (by show w.heap.size ≤ w.heap.size + 1; omega) _⟩
    have Row6 := Away.mk hat6.row
    have S6 := Away.mk s6
    have Hval : Away ((HC true V0 V (r ++ b) ((n : Int) + (s.size : Int))) = (HC true V0 (run64 K6 v s.data.toList (s.size / 128)) (r ++ b) ((n : Int) + (s.size : Int)))) := ⟨by rw [← HV.out]⟩
    rw [Hval.out] at Row6
    obtain ⟨E, HE⟩ := ex_eq (HC true V0 (run64 K6 v s.data.toList (s.size / 128)) (r ++ b) ((n : Int) + (s.size : Int)))
    rw [HE.out] at Row6
    have HEs : Away (E.size = 19) := ⟨by rw [← HE.out]; rfl⟩
    have HEo : Away (E.all (·.oneCell') = true) := ⟨by rw [← HE.out]; exact hc_one _ _ _ _ _⟩
    clear hA5 hat6 hb5 s6 d17
    go_wp2_with (first
      | (refine wpList_load_row rfl 56 _ rfl (w.heap.size + 1) rfl 56 E (0, 0) _ Row6.out Try.underlying56 rfl (by rw [HEs.out]; exact zHash) ?_)
      | (refine wpList_store_row rfl 56 _ _ rfl (w.heap.size + 1 + 1) E rfl rfl 56 _ S6.out (by rw [HEs.out]; exact zHash) (by rw [HZs.out, HEs.out]) HEo.out ?_))
    refine bodyPost_ret_by (v := .tuple #[.agg E, .int .i64 0]) (results_cell_tmp rfl _ _ (w.heap.size + 1 + 1) 56 _ (0, 0) _ rfl (setRow_heap _ _ _ _ _ _ S6.out) Try.underlying56 rfl (by rw [HEs.out]; exact zHash) _ rfl) rfl ?_
    exact ⟨⟨r ++ b, by rw [HE.out], Hbl.out⟩, Hb6.out.trans (below_setRow _ _ _ (by omega))⟩
  · obtain ⟨rz, hrz⟩ : ∃ rz, r.size = rz := ⟨_, rfl⟩
    rw [hrz] at hlt hrs
    have hm : IntKind.i64.wrap (128 - (rz : Int)) = 128 - (rz : Int) := by rw [IntKind.wrap_i64]; omega
    have kd : decide (128 - (rz : Int) ≤ (s.size : Int)) = false := decide_eq_false (by omega)
    have hrl : rz ≤ 128 := by omega
    clear hrs
    refine still_all (by kernel_rfl) (by kernel_rfl) ?_
    repeat still_step
    still_call (size64 _)
    repeat still_step
    refine wpStill_nil ?_
    go_wp2_with fail
    clear kd hm hne
    all_goals
      refine (Hthr.out w2.drew rfl).mono ?_
      rintro e w4 ⟨⟨b, rfl, hbl⟩, hA⟩
      have hz4 : w2.heap.size ≤ w4.heap.size := hA.size
      have hz2 : w1.heap.size ≤ w2.heap.size := Hat.out.size
      have hbs : b.size ≤ s.size := by
        have h1 : b.data.toList.length = b.size := rfl
        have h2 : s.data.toList.length = s.size := rfl
        rw [← h1, hbl, List.length_drop, h2]; omega
      have d17 : w4.cell? ⟨w.heap.size + 1, 17, none⟩ = some (.string r) := (hA.cell 17).trans rfl
      have S2 := Away.mk (hA.other (k := w.heap.size + 2) (by show _ < w2.heap.size; omega) (by omega) R2.out)
      have HA := Away.mk hA
      have Hb4 : Away (Below w.heap.size w w4) := ⟨Hb2.out.trans ⟨hA.os, hA.tape, hA.output, hA.size, fun k hk => hA.block k (by show _ < w2.heap.size; omega) (by omega)⟩⟩
      have Hbl : Away ((r ++ b).data.toList = r.data.toList ++ s.data.toList.drop (128 * (s.size / 128))) := ⟨by rw [← hbl]; simp⟩
      have hxs : (r ++ b).size ≤ 281474976710656 := by rw [ByteArray.size_append]; omega
      have hsx : r.size + b.size ≤ 281474976710656 := by omega
      clear hA hbl c0 c17
      go_wp2_with fail
      refine (sclone (r ++ b) _ hxs).mono ?_
      rintro e w5 ⟨rfl, hb5⟩
      have hA5 := HA.out.later hb5
      have e17 : w5.cell? ⟨w.heap.size + 1, 17, none⟩ = some (.string r) := (hA5.cell 17).trans rfl
      have f17 : w5.frozen? ⟨w.heap.size + 1, 17, none⟩ = false := hA5.frozen 17
      have hat6 := at_put hA5 17 (.string (r ++ b))
      rw [show (HC true V0 V r ((n : Int) + (s.size : Int))).setIfInBounds 17 (.string (r ++ b)) = HC true V0 V (r ++ b) ((n : Int) + (s.size : Int)) by simp [HC]] at hat6
      have hz5 : w4.heap.size ≤ w5.heap.size := hb5.size
      have s6 := (Below.heap_setCell w5 ⟨w.heap.size + 1, 17, none⟩ (.string (r ++ b)) (w.heap.size + 2) (by show w.heap.size + 2 ≠ w.heap.size + 1; omega)).trans ((hb5.block (w.heap.size + 2) (by omega)).trans S2.out)
      have Hb6 : Away (Below w.heap.size w (w5.setCell ⟨w.heap.size + 1, 17, none⟩ (.string (r ++ b)))) := ⟨(Hb4.out.trans (hb5.mono (by omega))).setCell (p := ⟨w.heap.size + 1, 17, none⟩) (by show w.heap.size ≤ w.heap.size + 1; omega) _⟩
      have Row6 := Away.mk hat6.row
      have S6 := Away.mk s6
      have Hval : Away ((HC true V0 V (r ++ b) ((n : Int) + (s.size : Int))) = (HC true V0 (run64 K6 v s.data.toList (s.size / 128)) (r ++ b) ((n : Int) + (s.size : Int)))) := ⟨by rw [← HV.out]⟩
      rw [Hval.out] at Row6
      obtain ⟨E, HE⟩ := ex_eq (HC true V0 (run64 K6 v s.data.toList (s.size / 128)) (r ++ b) ((n : Int) + (s.size : Int)))
      rw [HE.out] at Row6
      have HEs : Away (E.size = 19) := ⟨by rw [← HE.out]; rfl⟩
      have HEo : Away (E.all (·.oneCell') = true) := ⟨by rw [← HE.out]; exact hc_one _ _ _ _ _⟩
      clear hA5 hat6 hb5 s6 d17
      go_wp2_with (first
        | (refine wpList_load_row rfl 56 _ rfl (w.heap.size + 1) rfl 56 E (0, 0) _ Row6.out Try.underlying56 rfl (by rw [HEs.out]; exact zHash) ?_)
        | (refine wpList_store_row rfl 56 _ _ rfl (w.heap.size + 1 + 1) E rfl rfl 56 _ S6.out (by rw [HEs.out]; exact zHash) (by rw [HZs.out, HEs.out]) HEo.out ?_))
      refine bodyPost_ret_by (v := .tuple #[.agg E, .int .i64 0]) (results_cell_tmp rfl _ _ (w.heap.size + 1 + 1) 56 _ (0, 0) _ rfl (setRow_heap _ _ _ _ _ _ S6.out) Try.underlying56 rfl (by rw [HEs.out]; exact zHash) _ rfl) rfl ?_
      exact ⟨⟨r ++ b, by rw [HE.out], Hbl.out⟩, Hb6.out.trans (below_setRow _ _ _ (by omega))⟩
end Go.Proofs.Ythfljfampfioaaa.feed

namespace Go.Proofs.Ythfljfampfioaaa.feeda
open Go.RowKit
open Go.Proofs.Ythfljfampfioaaa.oct Go.Proofs.Ythfljfampfioaaa.mem Go.Proofs.Ythfljfampfioaaa.arr Go.Proofs.Ythfljfampfioaaa.sham Go.Proofs.Ythfljfampfioaaa.block Go.Proofs.Ythfljfampfioaaa.thru Go.Proofs.Ythfljfampfioaaa.pad Go.Proofs.Ythfljfampfioaaa.ends Go.Proofs.Ythfljfampfioaaa.hashs Go.Proofs.Ythfljfampfioaaa.rblk Go.Proofs.Ythfljfampfioaaa.feed
theorem loop_len (bs : ByteArray) : ∀ (k i : Nat) (r : List UInt8), bs.size - i = k → (ByteArray.toList.loop bs i r).length = k + r.length
  | 0, i, r, h => by rw [ByteArray.toList.loop, if_neg (by omega)]; simp
  | k + 1, i, r, h => by rw [ByteArray.toList.loop, if_pos (by omega), loop_len bs k (i + 1) _ (by omega), List.length_cons]; omega
theorem not_empty (r : ByteArray) (h : 0 < r.size) : r.toList.isEmpty = false := by
  have h1 : r.toList.length = r.size := by rw [ByteArray.toList, loop_len r r.size 0 [] rfl]; simp
  cases e : r.toList with
  | nil => rw [e] at h1; simp at h1; omega
  | cons a l => rfl

set_option maxRecDepth 100000 in
set_option maxHeartbeats 2000000 in
theorem feed_a32 (T : Array Value) (K3 K6 : List Nat) (S3 S6 : V8) (v : V8) (n : Nat) (r s : ByteArray) (w : World) (h : TF T K3 S3 K6 S6) (hv : v.lt 4294967296) (hrs : r.size = n % 64) (hn : n ≤ 549755813888) (hs : s.size ≤ 549755813888) (hcase : 0 < r.size ∧ 64 - r.size ≤ s.size) :
    Calls Try.prog 32 #[.agg T, .agg (HC false v V0 r (n : Int)), .string s] w fun e w' => (∃ r' : ByteArray, e = .returned (.tuple #[.agg (HC false (run32 K3 (run32 K3 v (r.data.toList ++ s.data.toList.take (64 - r.size)) 1) (s.data.toList.drop (64 - r.size)) ((s.data.toList.drop (64 - r.size)).length / 64)) V0 r' ((n : Int) + (s.size : Int))), .int .i64 0]) ∧ r'.data.toList = (s.data.toList.drop (64 - r.size)).drop (64 * ((s.data.toList.drop (64 - r.size)).length / 64))) ∧ Below w.heap.size w w' := by
  have Hr : Away (∀ w1 : World, Calls Try.prog 53 #[.agg (HC false v V0 r (n : Int))] w1 fun e w' => e = .returned (.bool true) ∧ Below w1.heap.size w1 w') := ⟨fun w1 => right32 _ _ r n w1 (by omega) hrs⟩
  obtain ⟨C, HCe⟩ := ex_eq (HC false v V0 r (n : Int))
  have HCs : Away (C.size = 19) := ⟨by rw [← HCe.out]; rfl⟩
  have HC18 : Away (C[18]? = some (.int .i64 (n : Int))) := ⟨by rw [← HCe.out]; rfl⟩
  have hcs : C.setIfInBounds 18 (.int .i64 ((n : Int) + (s.size : Int))) = HC false v V0 r ((n : Int) + (s.size : Int)) := by rw [← HCe.out]; simp [HC]
  rw [HCe.out] at Hr ⊢
  go_enter Try.func32, Try.ntmps32
  obtain ⟨Z, HZ⟩ := ex_eq (HC false V0 V0 ⟨#[]⟩ 0)
  have eZ : (#[.bool false, .int .u32 0, .int .u32 0, .int .u32 0, .int .u32 0, .int .u32 0, .int .u32 0, .int .u32 0, .int .u32 0, .int .u64 0, .int .u64 0, .int .u64 0, .int .u64 0, .int .u64 0, .int .u64 0, .int .u64 0, .int .u64 0, .string ⟨#[]⟩, .int .i64 0] : Array Value) = Z := by rw [← HZ.out]; rfl
  have HZs : Away (Z.size = 19) := ⟨by rw [← HZ.out]; rfl⟩
  obtain ⟨w0, Hw0⟩ := ex_eq (((w.alloc (.cells T 33)).alloc (.cells C 56)).alloc (.cells Z 56))
  have g0 : w0.heap[w.heap.size]? = some (.cells T 33 (0, 0)) := by rw [← Hw0.out, heap_past _ _ _ (by simp; omega), heap_past _ _ _ (by simp), heap_at _ _ _ rfl]
  have g1 : w0.heap[w.heap.size + 1]? = some (.cells C 56 (0, 0)) := by rw [← Hw0.out, heap_past _ _ _ (by simp), heap_at _ _ _ (by simp)]
  have g2 : w0.heap[w.heap.size + 2]? = some (.cells Z 56 (0, 0)) := by rw [← Hw0.out, heap_at _ _ _ (by simp)]
  have Hb0 : Away (Below w.heap.size w w0) := ⟨by rw [← Hw0.out]; exact (((Below.refl _ _).alloc (Nat.le_refl _) _).alloc (by simp) _).alloc (by simp; omega) _⟩
  have z0 : w0.heap.size = w.heap.size + 3 := by rw [← Hw0.out]; simp
  have g1' : (((w.alloc (.cells T 33)).alloc (.cells C 56)).alloc (.cells Z 56)).heap[w.heap.size + 1]? = some (.cells C 56 (0, 0)) := by rw [Hw0.out]; exact g1
  have G0 := Away.mk g0
  have G1 := Away.mk g1
  have G2 := Away.mk g2
  have G1' := Away.mk g1'
  have HCS := Away.mk hcs
  have HCase := Away.mk hcase
  clear g0 g1 g2 g1' HZ hcs hcase
  go_wp2_with (refine wpList_load_row rfl 56 _ rfl (w.heap.size + 1) rfl 56 C (0, 0) _ G1'.out Try.underlying56 rfl (by rw [HCs.out]; exact zHash) ?_)
  rw [Hw0.out]
  clear eZ
  refine (Hr.out w0).mono ?_
  rintro e w1 ⟨rfl, hb1⟩
  have Q0 := Away.mk ((hb1.block w.heap.size (by omega)).trans G0.out)
  have Q1 := Away.mk ((hb1.block (w.heap.size + 1) (by omega)).trans G1.out)
  have Q2 := Away.mk ((hb1.block (w.heap.size + 2) (by omega)).trans G2.out)
  have z1 := hb1.size
  have Hb1 : Away (Below w.heap.size w w1) := ⟨Hb0.out.trans (hb1.mono (by omega))⟩
  have c18 : w1.cell? ⟨w.heap.size + 1, 18, none⟩ = some (.int .i64 (n : Int)) := (cell_of_row w1 _ _ _ _ (0, 0) Q1.out).trans HC18.out
  have f18 : w1.frozen? ⟨w.heap.size + 1, 18, none⟩ = false := frozen_of_row w1 _ 18 _ _ Q1.out
  clear hb1
  go_wp2_with fail
  obtain ⟨D, HD⟩ := ex_eq (HC false v V0 r ((n : Int) + (s.size : Int)))
  have HD17 : Away (D[17]? = some (.string r)) := ⟨by rw [← HD.out]; rfl⟩
  have HD0 : Away (D[0]? = some (.bool false)) := ⟨by rw [← HD.out]; rfl⟩
  obtain ⟨w2, Hw2⟩ := ex_eq (w1.setCell ⟨w.heap.size + 1, 18, none⟩ (.int .i64 ((n : Int) + (s.size : Int))))
  have hat := at_put (At.refl Q1.out) 18 (.int .i64 ((n : Int) + (s.size : Int)))
  rw [HCS.out, HD.out, Hw2.out] at hat
  have Hat := Away.mk hat
  have c0 : w2.cell? ⟨w.heap.size + 1, 0, none⟩ = some (.bool false) := (hat.cell 0).trans HD0.out
  have c17 : w2.cell? ⟨w.heap.size + 1, 17, none⟩ = some (.string r) := (hat.cell 17).trans HD17.out
  have R0 := Away.mk (hat.other (k := w.heap.size) (by omega) (by omega) Q0.out)
  have R2 := Away.mk (hat.other (k := w.heap.size + 2) (by omega) (by omega) Q2.out)
  have Hb2 : Away (Below w.heap.size w w2) := ⟨Hb1.out.trans (hat.below (by omega) (by omega))⟩
  obtain ⟨rz, hrz⟩ : ∃ rz, r.size = rz := ⟨_, rfl⟩
  obtain ⟨h0, hle⟩ := HCase.out
  rw [hrz] at h0 hle hrs
  obtain ⟨m, hm⟩ : ∃ m, 64 - rz = m := ⟨_, rfl⟩
  rw [hm] at hle
  have hmr : (64 : Int) - (rz : Int) = (m : Int) := by omega
  have Hmz : Away (64 - r.size = m) := ⟨by rw [hrz]; exact hm⟩
  have hrl : rz < 64 := by omega
  obtain ⟨V, HV⟩ := ex_eq (run32 K3 v (r.data.toList ++ s.data.toList.take m) 1)
  have hVl : V.lt 4294967296 := by rw [← HV.out]; exact run_lt32 _ _ _ hv _
  have hx1 : (r ++ s.extract 0 m).data.toList = r.data.toList ++ s.data.toList.take m := by simp
  have hx1s : (r ++ s.extract 0 m).size = 64 := by rw [ByteArray.size_append, ByteArray.size_extract]; omega
  have hx2 : (s.extract m s.size).data.toList = s.data.toList.drop m := by
    simp only [ByteArray.data_extract, Array.toList_extract, List.take_of_length_le, List.length_drop, Array.length_toList, ByteArray.size_data, Nat.le_refl]
  have hx2s : (s.extract m s.size).size = s.size - m := by rw [ByteArray.size_extract]; omega
  have Hthr1 : Away (∀ w3 : World, w3.heap = w2.heap → Calls Try.prog 55 #[.pointer (some ⟨w.heap.size, 0, none⟩), .pointer (some ⟨w.heap.size + 1, 0, none⟩), .string (r ++ s.extract 0 m)] w3 fun e w' => (∃ b : ByteArray, e = .returned (.string b)) ∧ At (w.heap.size + 1) (HC false V V0 r ((n : Int) + (s.size : Int))) 56 w3 w') := ⟨fun w3 hw3 => by
    have ht := through32 w.heap.size (w.heap.size + 1) K3 T v V0 r ((n : Int) + (s.size : Int)) (r ++ s.extract 0 m) w3 hv h.bk32 (by rw [hw3]; exact R0.out) h.k32 (by rw [hw3, HD.out]; exact hat.row) (by omega) (by omega)
    rw [hx1, hx1s, Nat.div_self (by decide), HV.out] at ht
    exact ht.mono fun e w' hh => ⟨hh.1.imp fun b hb => hb.1, hh.2⟩⟩
  obtain ⟨x2, Hx2⟩ := ex_eq (s.extract m s.size)
  rw [Hx2.out] at hx2 hx2s
  have hx2l : (s.data.toList.drop m).length = x2.size := by rw [← hx2]; rfl
  obtain ⟨V2, HV2⟩ := ex_eq (run32 K3 V (s.data.toList.drop m) ((s.data.toList.drop m).length / 64))
  have Hthr2 : Away (∀ w3 : World, w3.heap[w.heap.size]? = some (.cells T 33 (0, 0)) → w3.heap[w.heap.size + 1]? = some (.cells (HC false V V0 ⟨#[]⟩ ((n : Int) + (s.size : Int))) 56 (0, 0)) → Calls Try.prog 55 #[.pointer (some ⟨w.heap.size, 0, none⟩), .pointer (some ⟨w.heap.size + 1, 0, none⟩), .string x2] w3 fun e w' => (∃ b : ByteArray, e = .returned (.string b) ∧ b.data.toList = (s.data.toList.drop m).drop (64 * ((s.data.toList.drop m).length / 64))) ∧ At (w.heap.size + 1) (HC false V2 V0 ⟨#[]⟩ ((n : Int) + (s.size : Int))) 56 w3 w') := ⟨fun w3 ht0 hh0 => by
    have ht := through32 w.heap.size (w.heap.size + 1) K3 T V V0 ⟨#[]⟩ ((n : Int) + (s.size : Int)) x2 w3 hVl h.bk32 ht0 h.k32 hh0 (by omega) (by omega)
    rw [hx2, ← hx2l, HV2.out] at ht
    exact ht⟩
  rw [Hw2.out]
  clear hat h hv
  have hx0s : (s.extract 0 m).size = m := by rw [ByteArray.size_extract]; omega
  obtain ⟨x0, Hx0⟩ := ex_eq (s.extract 0 m)
  have e0 := Hx0.out
  rw [e0] at hx0s Hthr1
  have e2 := Hx2.out
  have hsum : (9223372036854775807 < rz + m) = False := by simp; omega
  have hsum2 : rz + m ≤ 9223372036854775807 := by omega
  have hie : r.toList.isEmpty = false := not_empty r (by omega)
  have kd : decide ((m : Int) ≤ (s.size : Int)) = true := decide_eq_true (by omega)
  have hml : m ≤ 64 := by omega
  clear hrs hm hx1 hx1s hx2 hVl hx2l
  have l1 : (m : Int) ≤ (s.size : Int) := by omega
  have l3 : IntKind.i64.wrap (m : Int) = (m : Int) := by rw [IntKind.wrap_i64]; omega
  refine still_all (by kernel_rfl) (by kernel_rfl) ?_
  repeat still_step
  still_call (size32 _)
  repeat still_step
  refine wpStill_nil ?_
  go_wp2_with fail
  refine still_tail 6 (by kernel_rfl) (by kernel_rfl) ?_
  simp only [List.take_succ_cons, List.take_zero, List.drop_succ_cons, List.drop_zero]
  repeat still_step
  refine wpStill_nil ?_
  go_wp2_with fail
  refine (Hthr1.out w2.drew.drew rfl).mono ?_
  rintro e w4 ⟨⟨b, rfl⟩, hA⟩
  have hz4 : w2.heap.size ≤ w4.heap.size := hA.size
  have hz2 : w1.heap.size ≤ w2.heap.size := Hat.out.size
  have d17 : w4.cell? ⟨w.heap.size + 1, 17, none⟩ = some (.string r) := (hA.cell 17).trans rfl
  have f17 : w4.frozen? ⟨w.heap.size + 1, 17, none⟩ = false := hA.frozen 17
  have hat5 := at_put hA 17 (.string ⟨#[]⟩)
  rw [show (HC false V V0 r ((n : Int) + (s.size : Int))).setIfInBounds 17 (.string ⟨#[]⟩) = HC false V V0 ⟨#[]⟩ ((n : Int) + (s.size : Int)) by simp [HC]] at hat5
  obtain ⟨w5, Hw5⟩ := ex_eq ((w4.setCell ⟨w.heap.size + 1, 17, none⟩ (.string ⟨#[]⟩)).drew)
  have hat5' := at_drew hat5
  rw [Hw5.out] at hat5'
  have hz5 : w2.heap.size ≤ w5.heap.size := hat5'.size
  have Hat5 := Away.mk hat5'
  have S0 := Away.mk (hat5'.other (k := w.heap.size) (by show _ < w2.heap.size; omega) (by omega) R0.out)
  have S2 := Away.mk (hat5'.other (k := w.heap.size + 2) (by show _ < w2.heap.size; omega) (by omega) R2.out)
  have Hb5 : Away (Below w.heap.size w w5) := ⟨Hb2.out.trans ⟨hat5'.os, hat5'.tape, hat5'.output, hat5'.size, fun k hk => hat5'.block k (by show _ < w2.heap.size; omega) (by omega)⟩⟩
  clear hA hat5 hat5' c0 c17 hsum hsum2 kd hie
  go_wp2_with fail
  go_region
  rw [Hw5.out]
  go_wp2_with fail
  refine (Hthr2.out w5 S0.out Hat5.out.row).mono ?_
  rintro e w6 ⟨⟨b2, rfl, hbl⟩, hA⟩
  have hz6 : w5.heap.size ≤ w6.heap.size := hA.size
  have g17 : w6.cell? ⟨w.heap.size + 1, 17, none⟩ = some (.string ⟨#[]⟩) := (hA.cell 17).trans rfl
  have T2 := Away.mk (hA.other (k := w.heap.size + 2) (by omega) (by omega) S2.out)
  have HA := Away.mk hA
  have Hb6 : Away (Below w.heap.size w w6) := ⟨Hb5.out.trans ⟨hA.os, hA.tape, hA.output, hA.size, fun k hk => hA.block k (by omega) (by omega)⟩⟩
  have hbs : b2.size ≤ s.size := by
    have h1 : b2.data.toList.length = b2.size := rfl
    have h2 : s.data.toList.length = s.size := rfl
    rw [← h1, hbl, List.length_drop, List.length_drop, h2]; omega
  have Hbl := Away.mk hbl
  clear hA hbl d17 f17
  go_wp2_with fail
  have hxs : ((⟨#[]⟩ : ByteArray) ++ b2).size ≤ 281474976710656 := by rw [ByteArray.size_append]; show 0 + b2.size ≤ _; omega
  refine (sclone ((⟨#[]⟩ : ByteArray) ++ b2) _ hxs).mono ?_
  rintro e w7 ⟨rfl, hb7⟩
  have Hbl2 : Away (((⟨#[]⟩ : ByteArray) ++ b2).data.toList = (s.data.toList.drop m).drop (64 * ((s.data.toList.drop m).length / 64))) := ⟨by rw [← Hbl.out]; simp⟩
  obtain ⟨rx, Hrx⟩ := ex_eq ((⟨#[]⟩ : ByteArray) ++ b2)
  rw [Hrx.out] at Hbl2 ⊢
  have hA7 := HA.out.later hb7
  have e17 : w7.cell? ⟨w.heap.size + 1, 17, none⟩ = some (.string ⟨#[]⟩) := (hA7.cell 17).trans rfl
  have f17 : w7.frozen? ⟨w.heap.size + 1, 17, none⟩ = false := hA7.frozen 17
  have hat8 := at_put hA7 17 (.string rx)
  rw [show (HC false V2 V0 ⟨#[]⟩ ((n : Int) + (s.size : Int))).setIfInBounds 17 (.string rx) = HC false V2 V0 rx ((n : Int) + (s.size : Int)) by simp [HC]] at hat8
  have hz7 : w6.heap.size ≤ w7.heap.size := hb7.size
  have s8 := (Below.heap_setCell w7 ⟨w.heap.size + 1, 17, none⟩ (.string rx) (w.heap.size + 2) (by show w.heap.size + 2 ≠ w.heap.size + 1; omega)).trans ((hb7.block (w.heap.size + 2) (by omega)).trans T2.out)
  have Hb8 : Away (Below w.heap.size w (w7.setCell ⟨w.heap.size + 1, 17, none⟩ (.string rx))) := ⟨(Hb6.out.trans (hb7.mono (by omega))).setCell (p := ⟨w.heap.size + 1, 17, none⟩) (by show w.heap.size ≤ w.heap.size + 1; omega) _⟩
  have Row8 := Away.mk hat8.row
  have S8 := Away.mk s8
  obtain ⟨E, HE⟩ := ex_eq (HC false V2 V0 rx ((n : Int) + (s.size : Int)))
  rw [HE.out] at Row8
  have HEs : Away (E.size = 19) := ⟨by rw [← HE.out]; rfl⟩
  have HEo : Away (E.all (·.oneCell') = true) := ⟨by rw [← HE.out]; exact hc_one _ _ _ _ _⟩
  have HEV : Away ((HC false (run32 K3 (run32 K3 v (r.data.toList ++ s.data.toList.take (64 - r.size)) 1) (s.data.toList.drop (64 - r.size)) ((s.data.toList.drop (64 - r.size)).length / 64)) V0 rx ((n : Int) + (s.size : Int))) = E) := ⟨by rw [Hmz.out, HV.out, HV2.out, HE.out]⟩
  clear hA7 hat8 hb7 s8 g17
  go_wp2_with (first
    | (refine wpList_load_row rfl 56 _ rfl (w.heap.size + 1) rfl 56 E (0, 0) _ Row8.out Try.underlying56 rfl (by rw [HEs.out]; exact zHash) ?_)
    | (refine wpList_store_row rfl 56 _ _ rfl (w.heap.size + 1 + 1) E rfl rfl 56 _ S8.out (by rw [HEs.out]; exact zHash) (by rw [HZs.out, HEs.out]) HEo.out ?_))
  refine bodyPost_ret_by (v := .tuple #[.agg E, .int .i64 0]) (feed.results_cell_tmp rfl _ _ (w.heap.size + 1 + 1) 56 _ (0, 0) _ rfl (setRow_heap _ _ _ _ _ _ S8.out) Try.underlying56 rfl (by rw [HEs.out]; exact zHash) _ rfl) rfl ?_
  refine ⟨⟨rx, by rw [HEV.out], ?_⟩, Hb8.out.trans (below_setRow _ _ _ (by omega))⟩
  rw [Hmz.out]
  exact Hbl2.out

set_option maxRecDepth 100000 in
set_option maxHeartbeats 2000000 in
theorem feed_a64 (T : Array Value) (K3 K6 : List Nat) (S3 S6 : V8) (v : V8) (n : Nat) (r s : ByteArray) (w : World) (h : TF T K3 S3 K6 S6) (hv : v.lt 18446744073709551616) (hrs : r.size = n % 128) (hn : n ≤ 549755813888) (hs : s.size ≤ 549755813888) (hcase : 0 < r.size ∧ 128 - r.size ≤ s.size) :
    Calls Try.prog 32 #[.agg T, .agg (HC true V0 v r (n : Int)), .string s] w fun e w' => (∃ r' : ByteArray, e = .returned (.tuple #[.agg (HC true V0 (run64 K6 (run64 K6 v (r.data.toList ++ s.data.toList.take (128 - r.size)) 1) (s.data.toList.drop (128 - r.size)) ((s.data.toList.drop (128 - r.size)).length / 128)) r' ((n : Int) + (s.size : Int))), .int .i64 0]) ∧ r'.data.toList = (s.data.toList.drop (128 - r.size)).drop (128 * ((s.data.toList.drop (128 - r.size)).length / 128))) ∧ Below w.heap.size w w' := by
  have Hr : Away (∀ w1 : World, Calls Try.prog 53 #[.agg (HC true V0 v r (n : Int))] w1 fun e w' => e = .returned (.bool true) ∧ Below w1.heap.size w1 w') := ⟨fun w1 => right64 _ _ r n w1 (by omega) hrs⟩
  obtain ⟨C, HCe⟩ := ex_eq (HC true V0 v r (n : Int))
  have HCs : Away (C.size = 19) := ⟨by rw [← HCe.out]; rfl⟩
  have HC18 : Away (C[18]? = some (.int .i64 (n : Int))) := ⟨by rw [← HCe.out]; rfl⟩
  have hcs : C.setIfInBounds 18 (.int .i64 ((n : Int) + (s.size : Int))) = HC true V0 v r ((n : Int) + (s.size : Int)) := by rw [← HCe.out]; simp [HC]
  rw [HCe.out] at Hr ⊢
  go_enter Try.func32, Try.ntmps32
  obtain ⟨Z, HZ⟩ := ex_eq (HC false V0 V0 ⟨#[]⟩ 0)
  have eZ : (#[.bool false, .int .u32 0, .int .u32 0, .int .u32 0, .int .u32 0, .int .u32 0, .int .u32 0, .int .u32 0, .int .u32 0, .int .u64 0, .int .u64 0, .int .u64 0, .int .u64 0, .int .u64 0, .int .u64 0, .int .u64 0, .int .u64 0, .string ⟨#[]⟩, .int .i64 0] : Array Value) = Z := by rw [← HZ.out]; rfl
  have HZs : Away (Z.size = 19) := ⟨by rw [← HZ.out]; rfl⟩
  obtain ⟨w0, Hw0⟩ := ex_eq (((w.alloc (.cells T 33)).alloc (.cells C 56)).alloc (.cells Z 56))
  have g0 : w0.heap[w.heap.size]? = some (.cells T 33 (0, 0)) := by rw [← Hw0.out, heap_past _ _ _ (by simp; omega), heap_past _ _ _ (by simp), heap_at _ _ _ rfl]
  have g1 : w0.heap[w.heap.size + 1]? = some (.cells C 56 (0, 0)) := by rw [← Hw0.out, heap_past _ _ _ (by simp), heap_at _ _ _ (by simp)]
  have g2 : w0.heap[w.heap.size + 2]? = some (.cells Z 56 (0, 0)) := by rw [← Hw0.out, heap_at _ _ _ (by simp)]
  have Hb0 : Away (Below w.heap.size w w0) := ⟨by rw [← Hw0.out]; exact (((Below.refl _ _).alloc (Nat.le_refl _) _).alloc (by simp) _).alloc (by simp; omega) _⟩
  have z0 : w0.heap.size = w.heap.size + 3 := by rw [← Hw0.out]; simp
  have g1' : (((w.alloc (.cells T 33)).alloc (.cells C 56)).alloc (.cells Z 56)).heap[w.heap.size + 1]? = some (.cells C 56 (0, 0)) := by rw [Hw0.out]; exact g1
  have G0 := Away.mk g0
  have G1 := Away.mk g1
  have G2 := Away.mk g2
  have G1' := Away.mk g1'
  have HCS := Away.mk hcs
  have HCase := Away.mk hcase
  clear g0 g1 g2 g1' HZ hcs hcase
  go_wp2_with (refine wpList_load_row rfl 56 _ rfl (w.heap.size + 1) rfl 56 C (0, 0) _ G1'.out Try.underlying56 rfl (by rw [HCs.out]; exact zHash) ?_)
  rw [Hw0.out]
  clear eZ
  refine (Hr.out w0).mono ?_
  rintro e w1 ⟨rfl, hb1⟩
  have Q0 := Away.mk ((hb1.block w.heap.size (by omega)).trans G0.out)
  have Q1 := Away.mk ((hb1.block (w.heap.size + 1) (by omega)).trans G1.out)
  have Q2 := Away.mk ((hb1.block (w.heap.size + 2) (by omega)).trans G2.out)
  have z1 := hb1.size
  have Hb1 : Away (Below w.heap.size w w1) := ⟨Hb0.out.trans (hb1.mono (by omega))⟩
  have c18 : w1.cell? ⟨w.heap.size + 1, 18, none⟩ = some (.int .i64 (n : Int)) := (cell_of_row w1 _ _ _ _ (0, 0) Q1.out).trans HC18.out
  have f18 : w1.frozen? ⟨w.heap.size + 1, 18, none⟩ = false := frozen_of_row w1 _ 18 _ _ Q1.out
  clear hb1
  go_wp2_with fail
  obtain ⟨D, HD⟩ := ex_eq (HC true V0 v r ((n : Int) + (s.size : Int)))
  have HD17 : Away (D[17]? = some (.string r)) := ⟨by rw [← HD.out]; rfl⟩
  have HD0 : Away (D[0]? = some (.bool true)) := ⟨by rw [← HD.out]; rfl⟩
  obtain ⟨w2, Hw2⟩ := ex_eq (w1.setCell ⟨w.heap.size + 1, 18, none⟩ (.int .i64 ((n : Int) + (s.size : Int))))
  have hat := at_put (At.refl Q1.out) 18 (.int .i64 ((n : Int) + (s.size : Int)))
  rw [HCS.out, HD.out, Hw2.out] at hat
  have Hat := Away.mk hat
  have c0 : w2.cell? ⟨w.heap.size + 1, 0, none⟩ = some (.bool true) := (hat.cell 0).trans HD0.out
  have c17 : w2.cell? ⟨w.heap.size + 1, 17, none⟩ = some (.string r) := (hat.cell 17).trans HD17.out
  have R0 := Away.mk (hat.other (k := w.heap.size) (by omega) (by omega) Q0.out)
  have R2 := Away.mk (hat.other (k := w.heap.size + 2) (by omega) (by omega) Q2.out)
  have Hb2 : Away (Below w.heap.size w w2) := ⟨Hb1.out.trans (hat.below (by omega) (by omega))⟩
  obtain ⟨rz, hrz⟩ : ∃ rz, r.size = rz := ⟨_, rfl⟩
  obtain ⟨h0, hle⟩ := HCase.out
  rw [hrz] at h0 hle hrs
  obtain ⟨m, hm⟩ : ∃ m, 128 - rz = m := ⟨_, rfl⟩
  rw [hm] at hle
  have hmr : (128 : Int) - (rz : Int) = (m : Int) := by omega
  have Hmz : Away (128 - r.size = m) := ⟨by rw [hrz]; exact hm⟩
  have hrl : rz < 128 := by omega
  obtain ⟨V, HV⟩ := ex_eq (run64 K6 v (r.data.toList ++ s.data.toList.take m) 1)
  have hVl : V.lt 18446744073709551616 := by rw [← HV.out]; exact run_lt64 _ _ _ hv _
  have hx1 : (r ++ s.extract 0 m).data.toList = r.data.toList ++ s.data.toList.take m := by simp
  have hx1s : (r ++ s.extract 0 m).size = 128 := by rw [ByteArray.size_append, ByteArray.size_extract]; omega
  have hx2 : (s.extract m s.size).data.toList = s.data.toList.drop m := by
    simp only [ByteArray.data_extract, Array.toList_extract, List.take_of_length_le, List.length_drop, Array.length_toList, ByteArray.size_data, Nat.le_refl]
  have hx2s : (s.extract m s.size).size = s.size - m := by rw [ByteArray.size_extract]; omega
  have Hthr1 : Away (∀ w3 : World, w3.heap = w2.heap → Calls Try.prog 55 #[.pointer (some ⟨w.heap.size, 0, none⟩), .pointer (some ⟨w.heap.size + 1, 0, none⟩), .string (r ++ s.extract 0 m)] w3 fun e w' => (∃ b : ByteArray, e = .returned (.string b)) ∧ At (w.heap.size + 1) (HC true V0 V r ((n : Int) + (s.size : Int))) 56 w3 w') := ⟨fun w3 hw3 => by
    have ht := through64 w.heap.size (w.heap.size + 1) K6 T V0 v r ((n : Int) + (s.size : Int)) (r ++ s.extract 0 m) w3 hv h.bk64 (by rw [hw3]; exact R0.out) h.k64 (by rw [hw3, HD.out]; exact hat.row) (by omega) (by omega)
    rw [hx1, hx1s, Nat.div_self (by decide), HV.out] at ht
    exact ht.mono fun e w' hh => ⟨hh.1.imp fun b hb => hb.1, hh.2⟩⟩
  obtain ⟨x2, Hx2⟩ := ex_eq (s.extract m s.size)
  rw [Hx2.out] at hx2 hx2s
  have hx2l : (s.data.toList.drop m).length = x2.size := by rw [← hx2]; rfl
  obtain ⟨V2, HV2⟩ := ex_eq (run64 K6 V (s.data.toList.drop m) ((s.data.toList.drop m).length / 128))
  have Hthr2 : Away (∀ w3 : World, w3.heap[w.heap.size]? = some (.cells T 33 (0, 0)) → w3.heap[w.heap.size + 1]? = some (.cells (HC true V0 V ⟨#[]⟩ ((n : Int) + (s.size : Int))) 56 (0, 0)) → Calls Try.prog 55 #[.pointer (some ⟨w.heap.size, 0, none⟩), .pointer (some ⟨w.heap.size + 1, 0, none⟩), .string x2] w3 fun e w' => (∃ b : ByteArray, e = .returned (.string b) ∧ b.data.toList = (s.data.toList.drop m).drop (128 * ((s.data.toList.drop m).length / 128))) ∧ At (w.heap.size + 1) (HC true V0 V2 ⟨#[]⟩ ((n : Int) + (s.size : Int))) 56 w3 w') := ⟨fun w3 ht0 hh0 => by
    have ht := through64 w.heap.size (w.heap.size + 1) K6 T V0 V ⟨#[]⟩ ((n : Int) + (s.size : Int)) x2 w3 hVl h.bk64 ht0 h.k64 hh0 (by omega) (by omega)
    rw [hx2, ← hx2l, HV2.out] at ht
    exact ht⟩
  rw [Hw2.out]
  clear hat h hv
  have hx0s : (s.extract 0 m).size = m := by rw [ByteArray.size_extract]; omega
  obtain ⟨x0, Hx0⟩ := ex_eq (s.extract 0 m)
  have e0 := Hx0.out
  rw [e0] at hx0s Hthr1
  have e2 := Hx2.out
  have hsum : (9223372036854775807 < rz + m) = False := by simp; omega
  have hsum2 : rz + m ≤ 9223372036854775807 := by omega
  have hie : r.toList.isEmpty = false := not_empty r (by omega)
  have kd : decide ((m : Int) ≤ (s.size : Int)) = true := decide_eq_true (by omega)
  have hml : m ≤ 128 := by omega
  clear hrs hm hx1 hx1s hx2 hVl hx2l
  have l1 : (m : Int) ≤ (s.size : Int) := by omega
  have l3 : IntKind.i64.wrap (m : Int) = (m : Int) := by rw [IntKind.wrap_i64]; omega
  refine still_all (by kernel_rfl) (by kernel_rfl) ?_
  repeat still_step
  still_call (size64 _)
  repeat still_step
  refine wpStill_nil ?_
  go_wp2_with fail
  refine still_tail 6 (by kernel_rfl) (by kernel_rfl) ?_
  simp only [List.take_succ_cons, List.take_zero, List.drop_succ_cons, List.drop_zero]
  repeat still_step
  refine wpStill_nil ?_
  go_wp2_with fail
  refine (Hthr1.out w2.drew.drew rfl).mono ?_
  rintro e w4 ⟨⟨b, rfl⟩, hA⟩
  have hz4 : w2.heap.size ≤ w4.heap.size := hA.size
  have hz2 : w1.heap.size ≤ w2.heap.size := Hat.out.size
  have d17 : w4.cell? ⟨w.heap.size + 1, 17, none⟩ = some (.string r) := (hA.cell 17).trans rfl
  have f17 : w4.frozen? ⟨w.heap.size + 1, 17, none⟩ = false := hA.frozen 17
  have hat5 := at_put hA 17 (.string ⟨#[]⟩)
  rw [show (HC true V0 V r ((n : Int) + (s.size : Int))).setIfInBounds 17 (.string ⟨#[]⟩) = HC true V0 V ⟨#[]⟩ ((n : Int) + (s.size : Int)) by simp [HC]] at hat5
  obtain ⟨w5, Hw5⟩ := ex_eq ((w4.setCell ⟨w.heap.size + 1, 17, none⟩ (.string ⟨#[]⟩)).drew)
  have hat5' := at_drew hat5
  rw [Hw5.out] at hat5'
  have hz5 : w2.heap.size ≤ w5.heap.size := hat5'.size
  have Hat5 := Away.mk hat5'
  have S0 := Away.mk (hat5'.other (k := w.heap.size) (by show _ < w2.heap.size; omega) (by omega) R0.out)
  have S2 := Away.mk (hat5'.other (k := w.heap.size + 2) (by show _ < w2.heap.size; omega) (by omega) R2.out)
  have Hb5 : Away (Below w.heap.size w w5) := ⟨Hb2.out.trans ⟨hat5'.os, hat5'.tape, hat5'.output, hat5'.size, fun k hk => hat5'.block k (by show _ < w2.heap.size; omega) (by omega)⟩⟩
  clear hA hat5 hat5' c0 c17 hsum hsum2 kd hie
  go_wp2_with fail
  go_region
  rw [Hw5.out]
  go_wp2_with fail
  refine (Hthr2.out w5 S0.out Hat5.out.row).mono ?_
  rintro e w6 ⟨⟨b2, rfl, hbl⟩, hA⟩
  have hz6 : w5.heap.size ≤ w6.heap.size := hA.size
  have g17 : w6.cell? ⟨w.heap.size + 1, 17, none⟩ = some (.string ⟨#[]⟩) := (hA.cell 17).trans rfl
  have T2 := Away.mk (hA.other (k := w.heap.size + 2) (by omega) (by omega) S2.out)
  have HA := Away.mk hA
  have Hb6 : Away (Below w.heap.size w w6) := ⟨Hb5.out.trans ⟨hA.os, hA.tape, hA.output, hA.size, fun k hk => hA.block k (by omega) (by omega)⟩⟩
  have hbs : b2.size ≤ s.size := by
    have h1 : b2.data.toList.length = b2.size := rfl
    have h2 : s.data.toList.length = s.size := rfl
    rw [← h1, hbl, List.length_drop, List.length_drop, h2]; omega
  have Hbl := Away.mk hbl
  clear hA hbl d17 f17
  go_wp2_with fail
  have hxs : ((⟨#[]⟩ : ByteArray) ++ b2).size ≤ 281474976710656 := by rw [ByteArray.size_append]; show 0 + b2.size ≤ _; omega
  refine (sclone ((⟨#[]⟩ : ByteArray) ++ b2) _ hxs).mono ?_
  rintro e w7 ⟨rfl, hb7⟩
  have Hbl2 : Away (((⟨#[]⟩ : ByteArray) ++ b2).data.toList = (s.data.toList.drop m).drop (128 * ((s.data.toList.drop m).length / 128))) := ⟨by rw [← Hbl.out]; simp⟩
  obtain ⟨rx, Hrx⟩ := ex_eq ((⟨#[]⟩ : ByteArray) ++ b2)
  rw [Hrx.out] at Hbl2 ⊢
  have hA7 := HA.out.later hb7
  have e17 : w7.cell? ⟨w.heap.size + 1, 17, none⟩ = some (.string ⟨#[]⟩) := (hA7.cell 17).trans rfl
  have f17 : w7.frozen? ⟨w.heap.size + 1, 17, none⟩ = false := hA7.frozen 17
  have hat8 := at_put hA7 17 (.string rx)
  rw [show (HC true V0 V2 ⟨#[]⟩ ((n : Int) + (s.size : Int))).setIfInBounds 17 (.string rx) = HC true V0 V2 rx ((n : Int) + (s.size : Int)) by simp [HC]] at hat8
  have hz7 : w6.heap.size ≤ w7.heap.size := hb7.size
  have s8 := (Below.heap_setCell w7 ⟨w.heap.size + 1, 17, none⟩ (.string rx) (w.heap.size + 2) (by show w.heap.size + 2 ≠ w.heap.size + 1; omega)).trans ((hb7.block (w.heap.size + 2) (by omega)).trans T2.out)
  have Hb8 : Away (Below w.heap.size w (w7.setCell ⟨w.heap.size + 1, 17, none⟩ (.string rx))) := ⟨(Hb6.out.trans (hb7.mono (by omega))).setCell (p := ⟨w.heap.size + 1, 17, none⟩) (by show w.heap.size ≤ w.heap.size + 1; omega) _⟩
  have Row8 := Away.mk hat8.row
  have S8 := Away.mk s8
  obtain ⟨E, HE⟩ := ex_eq (HC true V0 V2 rx ((n : Int) + (s.size : Int)))
  rw [HE.out] at Row8
  have HEs : Away (E.size = 19) := ⟨by rw [← HE.out]; rfl⟩
  have HEo : Away (E.all (·.oneCell') = true) := ⟨by rw [← HE.out]; exact hc_one _ _ _ _ _⟩
  have HEV : Away ((HC true V0 (run64 K6 (run64 K6 v (r.data.toList ++ s.data.toList.take (128 - r.size)) 1) (s.data.toList.drop (128 - r.size)) ((s.data.toList.drop (128 - r.size)).length / 128)) rx ((n : Int) + (s.size : Int))) = E) := ⟨by rw [Hmz.out, HV.out, HV2.out, HE.out]⟩
  clear hA7 hat8 hb7 s8 g17
  go_wp2_with (first
    | (refine wpList_load_row rfl 56 _ rfl (w.heap.size + 1) rfl 56 E (0, 0) _ Row8.out Try.underlying56 rfl (by rw [HEs.out]; exact zHash) ?_)
    | (refine wpList_store_row rfl 56 _ _ rfl (w.heap.size + 1 + 1) E rfl rfl 56 _ S8.out (by rw [HEs.out]; exact zHash) (by rw [HZs.out, HEs.out]) HEo.out ?_))
  refine bodyPost_ret_by (v := .tuple #[.agg E, .int .i64 0]) (feed.results_cell_tmp rfl _ _ (w.heap.size + 1 + 1) 56 _ (0, 0) _ rfl (setRow_heap _ _ _ _ _ _ S8.out) Try.underlying56 rfl (by rw [HEs.out]; exact zHash) _ rfl) rfl ?_
  refine ⟨⟨rx, by rw [HEV.out], ?_⟩, Hb8.out.trans (below_setRow _ _ _ (by omega))⟩
  rw [Hmz.out]
  exact Hbl2.out
end Go.Proofs.Ythfljfampfioaaa.feeda

namespace Go.Proofs.Ythfljfampfioaaa.feedb
open Go.RowKit
open Go.Proofs.Ythfljfampfioaaa.oct Go.Proofs.Ythfljfampfioaaa.mem Go.Proofs.Ythfljfampfioaaa.arr Go.Proofs.Ythfljfampfioaaa.sham Go.Proofs.Ythfljfampfioaaa.thru Go.Proofs.Ythfljfampfioaaa.hashs

/-! ### 32 bits -/
theorem step_b32 (K : List Nat) (S : V8) (A l : List UInt8) (k : Nat) (hk : A.length = 64 * k) :
    run32 K (run32 K S A k) l (l.length / 64) = run32 K S (A ++ l) ((A ++ l).length / 64) ∧ l.drop (64 * (l.length / 64)) = (A ++ l).drop (64 * ((A ++ l).length / 64)) := by
  have e : (A ++ l).length / 64 = k + l.length / 64 := by rw [List.length_append, hk, Nat.mul_add_div (by decide)]
  rw [e]
  refine ⟨?_, ?_⟩
  · rw [run_app32 K S A l k hk, run_pre32 K S A l k (by omega)]
  · rw [Nat.mul_add, ← hk, ← List.drop_drop, List.drop_left]
theorem step_c32 (K : List Nat) (S : V8) (A l : List UInt8) (h : A.length % 64 + l.length < 64) :
    run32 K (run32 K S A (A.length / 64)) l (l.length / 64) = run32 K S (A ++ l) ((A ++ l).length / 64) ∧ A.drop (64 * (A.length / 64)) ++ l.drop (64 * (l.length / 64)) = (A ++ l).drop (64 * ((A ++ l).length / 64)) := by
  have e : (A ++ l).length / 64 = A.length / 64 := by rw [List.length_append]; omega
  have e0 : l.length / 64 = 0 := by omega
  rw [e, e0]
  refine ⟨?_, ?_⟩
  · rw [run_pre32 K S A l _ (by omega)]; rfl
  · rw [List.drop_append_of_le_length (by omega)]; rfl
theorem step_a32 (K : List Nat) (S : V8) (A l R : List UInt8) (m : Nat) (hR : R = A.drop (64 * (A.length / 64))) (hm : R.length + m = 64) (hl : m ≤ l.length) :
    run32 K (run32 K (run32 K S A (A.length / 64)) (R ++ l.take m) 1) (l.drop m) ((l.drop m).length / 64) = run32 K S (A ++ l) ((A ++ l).length / 64) ∧ (l.drop m).drop (64 * ((l.drop m).length / 64)) = (A ++ l).drop (64 * ((A ++ l).length / 64)) := by
  obtain ⟨k, hk⟩ : ∃ k, A.length / 64 = k := ⟨_, rfl⟩
  rw [hk] at hR ⊢
  have hkl : 64 * k ≤ A.length := by omega
  have ha : (A.take (64 * k)).length = 64 * k := by rw [List.length_take]; omega
  have hb : (R ++ l.take m).length = 64 * 1 := by rw [List.length_append, List.length_take]; omega
  have e : A ++ l = A.take (64 * k) ++ ((R ++ l.take m) ++ l.drop m) := by
    rw [List.append_assoc, List.take_append_drop, hR, ← List.append_assoc, List.take_append_drop]
  have e2 : (A ++ l).length / 64 = k + (1 + (l.drop m).length / 64) := by
    rw [e, List.length_append, ha, List.length_append, hb, Nat.mul_add_div (by decide), Nat.mul_add_div (by decide)]
  rw [e2]
  refine ⟨?_, ?_⟩
  · have e3 : run32 K S (A ++ l) (k + (1 + (l.drop m).length / 64)) = run32 K (run32 K S (A ++ l) k) ((R ++ l.take m) ++ l.drop m) (1 + (l.drop m).length / 64) := by
      have := run_app32 K S (A.take (64 * k)) ((R ++ l.take m) ++ l.drop m) k ha (1 + (l.drop m).length / 64)
      rw [← e] at this
      exact this
    rw [e3, run_pre32 K S A l k hkl, run_app32 K _ (R ++ l.take m) (l.drop m) 1 hb, run_pre32 K _ (R ++ l.take m) (l.drop m) 1 (by omega)]
  · rw [Nat.mul_add, Nat.mul_add, ← List.drop_drop, ← List.drop_drop]
    have d1 : (A ++ l).drop (64 * k) = (R ++ l.take m) ++ l.drop m := by
      rw [List.drop_append_of_le_length hkl, ← hR, List.append_assoc, List.take_append_drop]
    rw [d1, ← hb, List.drop_left]

theorem feed_any32 (T : Array Value) (K3 K6 : List Nat) (S3 S6 : V8) (A : List UInt8) (r s : ByteArray) (w : World) (h : TF T K3 S3 K6 S6) (hr : r.data.toList = A.drop (64 * (A.length / 64))) (hA : A.length + s.size ≤ 549755813888) :
    Calls Try.prog 32 #[.agg T, .agg (HC false (run32 K3 S3 A (A.length / 64)) V0 r (A.length : Int)), .string s] w fun e w' => (∃ r' : ByteArray, e = .returned (.tuple #[.agg (HC false (run32 K3 S3 (A ++ s.data.toList) ((A ++ s.data.toList).length / 64)) V0 r' ((A ++ s.data.toList).length : Int)), .int .i64 0]) ∧ r'.data.toList = (A ++ s.data.toList).drop (64 * ((A ++ s.data.toList).length / 64))) ∧ Below w.heap.size w w' := by
  have h1 : r.data.toList.length = r.size := rfl
  have h2 : s.data.toList.length = s.size := rfl
  have hrs : r.size = A.length % 64 := by rw [← h1, hr, List.length_drop]; omega
  have hc : (A.length : Int) + (s.size : Int) = ((A ++ s.data.toList).length : Int) := by rw [List.length_append, h2]; omega
  have hv : (run32 K3 S3 A (A.length / 64)).lt 4294967296 := run_lt32 _ _ _ h.bs32 _
  by_cases ha : 0 < r.size ∧ 64 - r.size ≤ s.size
  · have hf := feeda.feed_a32 T K3 K6 S3 S6 _ A.length r s w h hv hrs (by omega) (by omega) ha
    have st := step_a32 K3 S3 A s.data.toList r.data.toList (64 - r.size) hr (by rw [h1]; omega) (by rw [h2]; exact ha.2)
    rw [st.1, st.2, hc] at hf
    exact hf
  · have hcase : r = ⟨#[]⟩ ∨ (r ≠ ⟨#[]⟩ ∧ s.size < 64 - r.size) := by
      by_cases h0 : r.size = 0
      · left
        have : r.data.toList = [] := List.eq_nil_of_length_eq_zero (h1.trans h0)
        apply ByteArray.ext
        apply Array.toList_inj.1
        exact this
      · right
        exact ⟨fun e => h0 (by rw [e]; rfl), by omega⟩
    have hf := feed.feed_c32 T K3 K6 S3 S6 _ A.length r s w h hv hrs (by omega) (by omega) hcase
    have st : run32 K3 (run32 K3 S3 A (A.length / 64)) s.data.toList (s.size / 64) = run32 K3 S3 (A ++ s.data.toList) ((A ++ s.data.toList).length / 64) ∧ r.data.toList ++ s.data.toList.drop (64 * (s.size / 64)) = (A ++ s.data.toList).drop (64 * ((A ++ s.data.toList).length / 64)) := by
      rw [hr, ← h2]
      by_cases h0 : r.size = 0
      · have hk : A.length = 64 * (A.length / 64) := by omega
        have sb := step_b32 K3 S3 A s.data.toList (A.length / 64) hk
        rw [← hk, List.drop_length, List.nil_append]
        exact sb
      · exact step_c32 K3 S3 A s.data.toList (by rw [h2]; omega)
    rw [st.1, st.2, hc] at hf
    exact hf

/-! ### 64 bits -/
theorem step_b64 (K : List Nat) (S : V8) (A l : List UInt8) (k : Nat) (hk : A.length = 128 * k) :
    run64 K (run64 K S A k) l (l.length / 128) = run64 K S (A ++ l) ((A ++ l).length / 128) ∧ l.drop (128 * (l.length / 128)) = (A ++ l).drop (128 * ((A ++ l).length / 128)) := by
  have e : (A ++ l).length / 128 = k + l.length / 128 := by rw [List.length_append, hk, Nat.mul_add_div (by decide)]
  rw [e]
  refine ⟨?_, ?_⟩
  · rw [run_app64 K S A l k hk, run_pre64 K S A l k (by omega)]
  · rw [Nat.mul_add, ← hk, ← List.drop_drop, List.drop_left]
theorem step_c64 (K : List Nat) (S : V8) (A l : List UInt8) (h : A.length % 128 + l.length < 128) :
    run64 K (run64 K S A (A.length / 128)) l (l.length / 128) = run64 K S (A ++ l) ((A ++ l).length / 128) ∧ A.drop (128 * (A.length / 128)) ++ l.drop (128 * (l.length / 128)) = (A ++ l).drop (128 * ((A ++ l).length / 128)) := by
  have e : (A ++ l).length / 128 = A.length / 128 := by rw [List.length_append]; omega
  have e0 : l.length / 128 = 0 := by omega
  rw [e, e0]
  refine ⟨?_, ?_⟩
  · rw [run_pre64 K S A l _ (by omega)]; rfl
  · rw [List.drop_append_of_le_length (by omega)]; rfl
theorem step_a64 (K : List Nat) (S : V8) (A l R : List UInt8) (m : Nat) (hR : R = A.drop (128 * (A.length / 128))) (hm : R.length + m = 128) (hl : m ≤ l.length) :
    run64 K (run64 K (run64 K S A (A.length / 128)) (R ++ l.take m) 1) (l.drop m) ((l.drop m).length / 128) = run64 K S (A ++ l) ((A ++ l).length / 128) ∧ (l.drop m).drop (128 * ((l.drop m).length / 128)) = (A ++ l).drop (128 * ((A ++ l).length / 128)) := by
  obtain ⟨k, hk⟩ : ∃ k, A.length / 128 = k := ⟨_, rfl⟩
  rw [hk] at hR ⊢
  have hkl : 128 * k ≤ A.length := by omega
  have ha : (A.take (128 * k)).length = 128 * k := by rw [List.length_take]; omega
  have hb : (R ++ l.take m).length = 128 * 1 := by rw [List.length_append, List.length_take]; omega
  have e : A ++ l = A.take (128 * k) ++ ((R ++ l.take m) ++ l.drop m) := by
    rw [List.append_assoc, List.take_append_drop, hR, ← List.append_assoc, List.take_append_drop]
  have e2 : (A ++ l).length / 128 = k + (1 + (l.drop m).length / 128) := by
    rw [e, List.length_append, ha, List.length_append, hb, Nat.mul_add_div (by decide), Nat.mul_add_div (by decide)]
  rw [e2]
  refine ⟨?_, ?_⟩
  · have e3 : run64 K S (A ++ l) (k + (1 + (l.drop m).length / 128)) = run64 K (run64 K S (A ++ l) k) ((R ++ l.take m) ++ l.drop m) (1 + (l.drop m).length / 128) := by
      have := run_app64 K S (A.take (128 * k)) ((R ++ l.take m) ++ l.drop m) k ha (1 + (l.drop m).length / 128)
      rw [← e] at this
      exact this
    rw [e3, run_pre64 K S A l k hkl, run_app64 K _ (R ++ l.take m) (l.drop m) 1 hb, run_pre64 K _ (R ++ l.take m) (l.drop m) 1 (by omega)]
  · rw [Nat.mul_add, Nat.mul_add, ← List.drop_drop, ← List.drop_drop]
    have d1 : (A ++ l).drop (128 * k) = (R ++ l.take m) ++ l.drop m := by
      rw [List.drop_append_of_le_length hkl, ← hR, List.append_assoc, List.take_append_drop]
    rw [d1, ← hb, List.drop_left]

theorem feed_any64 (T : Array Value) (K3 K6 : List Nat) (S3 S6 : V8) (A : List UInt8) (r s : ByteArray) (w : World) (h : TF T K3 S3 K6 S6) (hr : r.data.toList = A.drop (128 * (A.length / 128))) (hA : A.length + s.size ≤ 549755813888) :
    Calls Try.prog 32 #[.agg T, .agg (HC true V0 (run64 K6 S6 A (A.length / 128)) r (A.length : Int)), .string s] w fun e w' => (∃ r' : ByteArray, e = .returned (.tuple #[.agg (HC true V0 (run64 K6 S6 (A ++ s.data.toList) ((A ++ s.data.toList).length / 128)) r' ((A ++ s.data.toList).length : Int)), .int .i64 0]) ∧ r'.data.toList = (A ++ s.data.toList).drop (128 * ((A ++ s.data.toList).length / 128))) ∧ Below w.heap.size w w' := by
  have h1 : r.data.toList.length = r.size := rfl
  have h2 : s.data.toList.length = s.size := rfl
  have hrs : r.size = A.length % 128 := by rw [← h1, hr, List.length_drop]; omega
  have hc : (A.length : Int) + (s.size : Int) = ((A ++ s.data.toList).length : Int) := by rw [List.length_append, h2]; omega
  have hv : (run64 K6 S6 A (A.length / 128)).lt 18446744073709551616 := run_lt64 _ _ _ h.bs64 _
  by_cases ha : 0 < r.size ∧ 128 - r.size ≤ s.size
  · have hf := feeda.feed_a64 T K3 K6 S3 S6 _ A.length r s w h hv hrs (by omega) (by omega) ha
    have st := step_a64 K6 S6 A s.data.toList r.data.toList (128 - r.size) hr (by rw [h1]; omega) (by rw [h2]; exact ha.2)
    rw [st.1, st.2, hc] at hf
    exact hf
  · have hcase : r = ⟨#[]⟩ ∨ (r ≠ ⟨#[]⟩ ∧ s.size < 128 - r.size) := by
      by_cases h0 : r.size = 0
      · left
        have : r.data.toList = [] := List.eq_nil_of_length_eq_zero (h1.trans h0)
        apply ByteArray.ext
        apply Array.toList_inj.1
        exact this
      · right
        exact ⟨fun e => h0 (by rw [e]; rfl), by omega⟩
    have hf := feed.feed_c64 T K3 K6 S3 S6 _ A.length r s w h hv hrs (by omega) (by omega) hcase
    have st : run64 K6 (run64 K6 S6 A (A.length / 128)) s.data.toList (s.size / 128) = run64 K6 S6 (A ++ s.data.toList) ((A ++ s.data.toList).length / 128) ∧ r.data.toList ++ s.data.toList.drop (128 * (s.size / 128)) = (A ++ s.data.toList).drop (128 * ((A ++ s.data.toList).length / 128)) := by
      rw [hr, ← h2]
      by_cases h0 : r.size = 0
      · have hk : A.length = 128 * (A.length / 128) := by omega
        have sb := step_b64 K6 S6 A s.data.toList (A.length / 128) hk
        rw [← hk, List.drop_length, List.nil_append]
        exact sb
      · exact step_c64 K6 S6 A s.data.toList (by rw [h2]; omega)
    rw [st.1, st.2, hc] at hf
    exact hf
end Go.Proofs.Ythfljfampfioaaa.feedb
