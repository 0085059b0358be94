/-
  What Shake and Sha3 of the sponge return. Conditions: the tables have their size, and keccak's variable 'places' holds what the program's text lays there.
-/
import Derived.Test.YtpibnfpgokjnpaaDoorSpoJ
namespace Go.Proofs.YtpibnfpgokjnpaaDoor.spok
open Go Go.RowKit
open Go.Proofs.YtpibnfpgokjnpaaDoor.arr Go.Proofs.YtpibnfpgokjnpaaDoor.mem Go.Proofs.YtpibnfpgokjnpaaDoor.kecm Go.Proofs.YtpibnfpgokjnpaaDoor.kecb Go.Proofs.YtpibnfpgokjnpaaDoor.kstep Go.Proofs.YtpibnfpgokjnpaaDoor.kturn Go.Proofs.YtpibnfpgokjnpaaDoor.kfun Go.Proofs.YtpibnfpgokjnpaaDoor.spgm Go.Proofs.YtpibnfpgokjnpaaDoor.spmx Go.Proofs.YtpibnfpgokjnpaaDoor.rspa Go.Proofs.YtpibnfpgokjnpaaDoor.rspb Go.Proofs.YtpibnfpgokjnpaaDoor.rspc Go.Proofs.YtpibnfpgokjnpaaDoor.rspd Go.Proofs.YtpibnfpgokjnpaaDoor.rspe Go.Proofs.YtpibnfpgokjnpaaDoor.spoa Go.Proofs.YtpibnfpgokjnpaaDoor.spob Go.Proofs.YtpibnfpgokjnpaaDoor.spoe Go.Proofs.YtpibnfpgokjnpaaDoor.spof Go.Proofs.YtpibnfpgokjnpaaDoor.spog Go.Proofs.YtpibnfpgokjnpaaDoor.spoh

theorem z_st : St Z := kecd.st_of z_len (by decide)
/-- n bytes of the output for the input b -/
def out (ts rs : List Nat) (k : Int) (b : ByteArray) (n : Nat) : ByteArray := ⟨(u8s (sq (PP ts rs) (rate k) (pad (rate k) (spgm.mark k) (abs (PP ts rs) (rate k) ⟨Z, 0⟩ (bys b))) n)).toArray⟩
set_option maxRecDepth 100000 in
set_option maxHeartbeats 2000000 in
theorem whole_any {T : Array Value} {ts rs : List Nat} (gt : Nat) (k : Int) (b : ByteArray) (n : Nat) (w : World) (hK : KT T ts rs) (hP : Gp w) (hT : w.heap[gt]? = some (.cells T 36 (0, 0))) (hr0 : 0 < rate k) (hn : n ≤ 50000) (hb : b.size ≤ 1125899906842624) :
    Calls Tryd.prog 34 #[.pointer (some ⟨gt, 0, none⟩), .int .i64 k, .string b, .int .i64 (n : Int)] w fun e w' => e = .returned (.string (out ts rs k b n)) ∧ Below w.heap.size w w' := by
  obtain ⟨O, HO⟩ := ex_eq (out ts rs k b n)
  rw [HO.out]
  obtain ⟨E, HE⟩ := ex_eq (abs (PP ts rs) (rate k) ⟨Z, 0⟩ (bys b))
  have hEo : St E.l ∧ E.at' < rate k := by rw [← HE.out]; exact abs_ok (fun _ h => pp_st hK.br h) _ z_st hr0
  obtain ⟨F, HF⟩ := ex_eq (SC k Z 0 false)
  have Fi : Away ((Tryd.prog.info? 25).map (·.size) = some F.size) := ⟨by rw [← HF.out]; exact sc_info _ _ _ z_len⟩
  have Fo : Away (F.all (·.oneCell') = true) := ⟨by rw [← HF.out]; exact sc_one _ _ _ _⟩
  have Fz : Away ((#[.int .i64 0, .int .u64 0, .int .u64 0, .int .u64 0, .int .u64 0, .int .u64 0, .int .u64 0, .int .u64 0, .int .u64 0, .int .u64 0, .int .u64 0, .int .u64 0, .int .u64 0, .int .u64 0, .int .u64 0, .int .u64 0, .int .u64 0, .int .u64 0, .int .u64 0, .int .u64 0, .int .u64 0, .int .u64 0, .int .u64 0, .int .u64 0, .int .u64 0, .int .u64 0, .int .i64 0, .bool false] : Array Value).size = F.size) := ⟨by rw [← HF.out, sc_size _ _ _ z_len]; rfl⟩
  have Fb : Away ((#[.int .i64 k, .int .u64 0, .int .u64 0, .int .u64 0, .int .u64 0, .int .u64 0, .int .u64 0, .int .u64 0, .int .u64 0, .int .u64 0, .int .u64 0, .int .u64 0, .int .u64 0, .int .u64 0, .int .u64 0, .int .u64 0, .int .u64 0, .int .u64 0, .int .u64 0, .int .u64 0, .int .u64 0, .int .u64 0, .int .u64 0, .int .u64 0, .int .u64 0, .int .u64 0, .int .i64 0, .bool false] : Array Value) = F) := ⟨by rw [← HF.out]; rfl⟩
  have hgp := gp_lt hP
  have hgt := lt_of_row hT
  obtain ⟨W, hW⟩ : ∃ x, w.alloc (.cells F 25) = x := ⟨_, rfl⟩
  have HW := Away.mk hW
  have hb0 : Below w.heap.size w W := by rw [← hW]; exact below_alloc _ _
  have hrow : W.heap[w.heap.size]? = some (.cells (SC k Z ((0 : Nat) : Int) false) 25 (0, 0)) := by rw [← hW, show SC k Z ((0 : Nat) : Int) false = F from HF.out]; exact heap_at _ _ _ rfl
  have C1 := Away.mk (spoe.absorb_any gt w.heap.size k 0 Z b W z_st hK (hP.later hb0) ((hb0.block _ hgt).trans hT) (by omega) (by omega) hr0 hb hrow)
  rw [HE.out] at C1
  have C2 : Away (∀ w2 : World, At w.heap.size (SC k E.l (E.at' : Nat) false) 25 W w2 → Calls Tryd.prog 31 #[.pointer (some ⟨gt, 0, none⟩), .pointer (some ⟨w.heap.size, 0, none⟩), .int .i64 (n : Int)] w2 fun e w' => e = .returned (.string O) ∧ Below w.heap.size w2 w') := ⟨fun w2 h2 => by
    have hz : W.heap.size = w.heap.size + 1 := by rw [← hW]; exact size_alloc _ _
    refine (spoh.squeeze_pad gt w.heap.size k E.at' n E.l w2 hEo.1 hK (Gp.at (hP.later hb0) h2 (by omega)) (h2.other (by omega) (by omega) ((hb0.block _ hgt).trans hT)) (by omega) (by omega) hr0 hEo.2 hn h2.row).mono ?_
    rintro e w3 ⟨rfl, h3⟩
    refine ⟨?_, h3.below (by have := h2.size; omega) (Nat.le_refl _)⟩
    rw [← HO.out, out, HE.out]⟩
  have HB0 := Away.mk hb0
  clear hrow hb0 hW hEo hK hP hT
  go_enter Tryd.func34, Tryd.ntmps34
  go_wp2_with (first
    | (rw [HW.out])
    | ((with_reducible refine wpList_buildC rfl _ _ rfl #[.int .i64 k, .int .u64 0, .int .u64 0, .int .u64 0, .int .u64 0, .int .u64 0, .int .u64 0, .int .u64 0, .int .u64 0, .int .u64 0, .int .u64 0, .int .u64 0, .int .u64 0, .int .u64 0, .int .u64 0, .int .u64 0, .int .u64 0, .int .u64 0, .int .u64 0, .int .u64 0, .int .u64 0, .int .u64 0, .int .u64 0, .int .u64 0, .int .u64 0, .int .u64 0, .int .i64 0, .bool false] ?hC ?_); (case hC => kernel_rfl); rw [Fb.out])
    | (refine wpList_store_new rfl 25 _ _ rfl F rfl rfl Fi.out (by first | exact Fz.out | rfl) Fo.out rfl ?_))
  refine C1.out.mono ?_
  rintro e w1 ⟨rfl, h1⟩
  have HB1 : Away (Below w.heap.size w w1) := ⟨HB0.out.trans (h1.below (by have := HB0.out.size; omega) (Nat.le_refl _))⟩
  have C3 := Away.mk (C2.out w1 h1)
  clear h1 C1 C2
  go_wp2_with fail
  refine C3.out.mono ?_
  rintro e w2 ⟨rfl, h2⟩
  have HB2 : Away (Below w.heap.size w w2) := ⟨HB1.out.trans h2⟩
  clear h2
  go_wp2_with fail
  go_ret
  exact ⟨rfl, HB2.out⟩

theorem field2 (r f z : Int) (w : World) : (Instr.field 69 (.agg #[.int .i64 r, .int .u8 f, .int .i64 z]) 2).run Tryd.prog w = .ok (.int .i64 z) w := by kernel_rfl
theorem traits_at (k : Int) : ∃ f : Nat, ∀ w1 : World, Calls Tryd.prog 33 #[.int .i64 k] w1 fun e w' => e = .returned (.agg #[.int .i64 ((rate k : Nat) : Int), .int .u8 (f : Int), .int .i64 ((spoa.size k : Nat) : Int)]) ∧ Below w1.heap.size w1 w' := ⟨fin k, traits_any k⟩
set_option maxRecDepth 100000 in
set_option maxHeartbeats 2000000 in
theorem shake_none {T : Array Value} {ts rs : List Nat} (k : Int) (b : ByteArray) (n : Int) (w : World) (hK : KT T ts rs) (h0 : rate k = 0) :
    Calls Tryd.prog 12 #[.agg T, .int .i64 k, .string b, .int .i64 n] w fun e w' => e = .returned (.tuple #[.string ⟨#[]⟩, .int .i64 1]) ∧ Below w.heap.size w w' := by
  obtain ⟨f, hTr⟩ := traits_at k
  obtain ⟨r, hr⟩ : ∃ r, rate k = r := ⟨_, rfl⟩
  obtain ⟨z, hz⟩ : ∃ z, spoa.size k = z := ⟨_, rfl⟩
  rw [hr] at h0 hTr
  rw [hz] at hTr
  subst h0
  have hTr : ∀ w1 : World, Calls Tryd.prog 33 #[.int .i64 k] w1 fun e w' => e = .returned (.agg #[.int .i64 0, .int .u8 (f : Int), .int .i64 (z : Int)]) ∧ Below w1.heap.size w1 w' := hTr
  have HTr := Away.mk hTr
  have HTz : Away ((Tryd.prog.info? 36).map (·.size) = some T.size) := ⟨by rw [hK.size]; exact rkeb.sizeT⟩
  clear hTr
  obtain ⟨W, hW⟩ : ∃ x, w.alloc (.cells T 36) = x := ⟨_, rfl⟩
  have HW := Away.mk hW
  have HB0 : Away (Below w.heap.size w W) := ⟨by rw [← hW]; exact below_alloc _ _⟩
  have HT : Away (W.heap[w.heap.size]? = some (.cells T 36 (0, 0))) := ⟨by rw [← hW]; exact heap_at _ _ _ rfl⟩
  have hz1 : W.heap.size = w.heap.size + 1 := by rw [← hW]; exact size_alloc _ _
  clear hW
  go_enter Tryd.func12, Tryd.ntmps12
  go_wp2_with (rw [HW.out])
  refine (HTr.out _).mono ?_
  rintro e w1 ⟨rfl, hb1⟩
  obtain ⟨V, hV⟩ : ∃ x, w1.alloc (.cells #[.int .i64 0, .int .u8 (f : Int), .int .i64 (z : Int)] 69) = x := ⟨_, rfl⟩
  have HV := Away.mk hV
  have HB1 : Away (Below w.heap.size w V) := ⟨(HB0.out.trans (hb1.mono (by omega))).trans ((by rw [← hV]; exact (below_alloc _ _).mono (by have := hb1.size; omega)))⟩
  have HT1 : Away (V.heap[w.heap.size]? = some (.cells T 36 (0, 0))) := ⟨by rw [← hV, heap_past _ _ _ (by have := hb1.size; omega)]; exact (hb1.block _ (by omega)).trans HT.out⟩
  have Hrow : V.heap[w1.heap.size]? = some (.cells #[.int .i64 0, .int .u8 (f : Int), .int .i64 (z : Int)] 69 (0, 0)) := by rw [← hV]; exact heap_at _ _ _ rfl
  have k0 : V.cell? ⟨w1.heap.size, 0, none⟩ = some (.int .i64 0) := cell_at Hrow rfl
  have k2 : V.cell? ⟨w1.heap.size, 2, none⟩ = some (.int .i64 (z : Int)) := cell_at Hrow rfl
  have hz2 : w.heap.size < w1.heap.size := by have := hb1.size; omega
  clear hb1 HTr hV Hrow
  go_wp2_with (rw [HV.out])
  go_ret2
  exact ⟨rfl, HB1.out⟩

set_option maxRecDepth 100000 in
set_option maxHeartbeats 2000000 in
theorem shake_sha {T : Array Value} {ts rs : List Nat} (k : Int) (b : ByteArray) (n : Int) (w : World) (hK : KT T ts rs) (h0 : 0 < rate k) (h1 : 0 < spoa.size k) :
    Calls Tryd.prog 12 #[.agg T, .int .i64 k, .string b, .int .i64 n] w fun e w' => e = .returned (.tuple #[.string ⟨#[]⟩, .int .i64 1]) ∧ Below w.heap.size w w' := by
  obtain ⟨f, hTr⟩ := traits_at k
  obtain ⟨r, hr⟩ : ∃ r, rate k = r := ⟨_, rfl⟩
  obtain ⟨z, hz⟩ : ∃ z, spoa.size k = z := ⟨_, rfl⟩
  rw [hr] at h0 hTr
  rw [hz] at h1 hTr
  have q0 : ((r : Int) == 0) = false := beq_eq_false_iff_ne.2 (by omega)
  have q1 : ((z : Int) == 0) = false := beq_eq_false_iff_ne.2 (by omega)
  have HTr := Away.mk hTr
  have HTz : Away ((Tryd.prog.info? 36).map (·.size) = some T.size) := ⟨by rw [hK.size]; exact rkeb.sizeT⟩
  clear hTr
  obtain ⟨W, hW⟩ : ∃ x, w.alloc (.cells T 36) = x := ⟨_, rfl⟩
  have HW := Away.mk hW
  have HB0 : Away (Below w.heap.size w W) := ⟨by rw [← hW]; exact below_alloc _ _⟩
  have HT : Away (W.heap[w.heap.size]? = some (.cells T 36 (0, 0))) := ⟨by rw [← hW]; exact heap_at _ _ _ rfl⟩
  have hz1 : W.heap.size = w.heap.size + 1 := by rw [← hW]; exact size_alloc _ _
  clear hW
  go_enter Tryd.func12, Tryd.ntmps12
  go_wp2_with (rw [HW.out])
  refine (HTr.out _).mono ?_
  rintro e w1 ⟨rfl, hb1⟩
  obtain ⟨V, hV⟩ : ∃ x, w1.alloc (.cells #[.int .i64 (r : Int), .int .u8 (f : Int), .int .i64 (z : Int)] 69) = x := ⟨_, rfl⟩
  have HV := Away.mk hV
  have HB1 : Away (Below w.heap.size w V) := ⟨(HB0.out.trans (hb1.mono (by omega))).trans ((by rw [← hV]; exact (below_alloc _ _).mono (by have := hb1.size; omega)))⟩
  have HT1 : Away (V.heap[w.heap.size]? = some (.cells T 36 (0, 0))) := ⟨by rw [← hV, heap_past _ _ _ (by have := hb1.size; omega)]; exact (hb1.block _ (by omega)).trans HT.out⟩
  have Hrow : V.heap[w1.heap.size]? = some (.cells #[.int .i64 (r : Int), .int .u8 (f : Int), .int .i64 (z : Int)] 69 (0, 0)) := by rw [← hV]; exact heap_at _ _ _ rfl
  have k0 : V.cell? ⟨w1.heap.size, 0, none⟩ = some (.int .i64 (r : Int)) := cell_at Hrow rfl
  have k2 : V.cell? ⟨w1.heap.size, 2, none⟩ = some (.int .i64 (z : Int)) := cell_at Hrow rfl
  have hz2 : w.heap.size < w1.heap.size := by have := hb1.size; omega
  clear hb1 HTr hV Hrow
  go_wp2_with (rw [HV.out])
  go_ret2
  exact ⟨rfl, HB1.out⟩

set_option maxRecDepth 100000 in
set_option maxHeartbeats 2000000 in
theorem shake_far {T : Array Value} {ts rs : List Nat} (k : Int) (b : ByteArray) (n : Int) (w : World) (hK : KT T ts rs) (h0 : 0 < rate k) (h1 : spoa.size k = 0) (hn : n < 0 ∨ 50000 < n) :
    Calls Tryd.prog 12 #[.agg T, .int .i64 k, .string b, .int .i64 n] w fun e w' => e = .returned (.tuple #[.string ⟨#[]⟩, .int .i64 1]) ∧ Below w.heap.size w w' := by
  obtain ⟨f, hTr⟩ := traits_at k
  obtain ⟨r, hr⟩ : ∃ r, rate k = r := ⟨_, rfl⟩
  obtain ⟨z, hz⟩ : ∃ z, spoa.size k = z := ⟨_, rfl⟩
  rw [hr] at h0 hTr
  rw [h1] at hTr
  have q0 : ((r : Int) == 0) = false := beq_eq_false_iff_ne.2 (by omega)
  have hTr : ∀ w1 : World, Calls Tryd.prog 33 #[.int .i64 k] w1 fun e w' => e = .returned (.agg #[.int .i64 (r : Int), .int .u8 (f : Int), .int .i64 0]) ∧ Below w1.heap.size w1 w' := hTr
  have HTr := Away.mk hTr
  have HTz : Away ((Tryd.prog.info? 36).map (·.size) = some T.size) := ⟨by rw [hK.size]; exact rkeb.sizeT⟩
  have HF : Away (∀ w1 : World, Calls Tryd.prog 30 #[.int .i64 n] w1 fun e w' => e = .returned (.bool false) ∧ w' = w1) := ⟨fun w1 => by have h9 := fits_any n w1; rw [decide_eq_false (by omega)] at h9; exact h9⟩
  clear hTr
  obtain ⟨W, hW⟩ : ∃ x, w.alloc (.cells T 36) = x := ⟨_, rfl⟩
  have HW := Away.mk hW
  have HB0 : Away (Below w.heap.size w W) := ⟨by rw [← hW]; exact below_alloc _ _⟩
  have HT : Away (W.heap[w.heap.size]? = some (.cells T 36 (0, 0))) := ⟨by rw [← hW]; exact heap_at _ _ _ rfl⟩
  have hz1 : W.heap.size = w.heap.size + 1 := by rw [← hW]; exact size_alloc _ _
  clear hW
  go_enter Tryd.func12, Tryd.ntmps12
  go_wp2_with (rw [HW.out])
  refine (HTr.out _).mono ?_
  rintro e w1 ⟨rfl, hb1⟩
  obtain ⟨V, hV⟩ : ∃ x, w1.alloc (.cells #[.int .i64 (r : Int), .int .u8 (f : Int), .int .i64 0] 69) = x := ⟨_, rfl⟩
  have HV := Away.mk hV
  have HB1 : Away (Below w.heap.size w V) := ⟨(HB0.out.trans (hb1.mono (by omega))).trans ((by rw [← hV]; exact (below_alloc _ _).mono (by have := hb1.size; omega)))⟩
  have HT1 : Away (V.heap[w.heap.size]? = some (.cells T 36 (0, 0))) := ⟨by rw [← hV, heap_past _ _ _ (by have := hb1.size; omega)]; exact (hb1.block _ (by omega)).trans HT.out⟩
  have Hrow : V.heap[w1.heap.size]? = some (.cells #[.int .i64 (r : Int), .int .u8 (f : Int), .int .i64 0] 69 (0, 0)) := by rw [← hV]; exact heap_at _ _ _ rfl
  have k0 : V.cell? ⟨w1.heap.size, 0, none⟩ = some (.int .i64 (r : Int)) := cell_at Hrow rfl
  have k2 : V.cell? ⟨w1.heap.size, 2, none⟩ = some (.int .i64 0) := cell_at Hrow rfl
  have hz2 : w.heap.size < w1.heap.size := by have := hb1.size; omega
  clear hb1 HTr hV Hrow
  go_wp2_with (rw [HV.out])
  refine (HF.out _).mono ?_
  rintro e w2 ⟨rfl, rfl⟩
  go_wp2_with fail
  go_ret2
  exact ⟨rfl, HB1.out⟩

set_option maxRecDepth 100000 in
set_option maxHeartbeats 2000000 in
theorem shake_go {T : Array Value} {ts rs : List Nat} (k : Int) (b : ByteArray) (n : Nat) (w : World) (hK : KT T ts rs) (hP : Gp w) (h0 : 0 < rate k) (h1 : spoa.size k = 0) (hn : n ≤ 50000) (hb : b.size ≤ 1125899906842624) :
    Calls Tryd.prog 12 #[.agg T, .int .i64 k, .string b, .int .i64 (n : Int)] w fun e w' => e = .returned (.tuple #[.string (out ts rs k b n), .int .i64 0]) ∧ Below w.heap.size w w' := by
  obtain ⟨f, hTr⟩ := traits_at k
  obtain ⟨r, hr⟩ : ∃ r, rate k = r := ⟨_, rfl⟩
  obtain ⟨z, hz⟩ : ∃ z, spoa.size k = z := ⟨_, rfl⟩
  rw [hr] at hTr
  rw [h1] at hTr
  have q0 : ((r : Int) == 0) = false := beq_eq_false_iff_ne.2 (by omega)
  have hTr : ∀ w1 : World, Calls Tryd.prog 33 #[.int .i64 k] w1 fun e w' => e = .returned (.agg #[.int .i64 (r : Int), .int .u8 (f : Int), .int .i64 0]) ∧ Below w1.heap.size w1 w' := hTr
  have HTr := Away.mk hTr
  have HTz : Away ((Tryd.prog.info? 36).map (·.size) = some T.size) := ⟨by rw [hK.size]; exact rkeb.sizeT⟩
  have HF : Away (∀ w1 : World, Calls Tryd.prog 30 #[.int .i64 (n : Int)] w1 fun e w' => e = .returned (.bool true) ∧ w' = w1) := ⟨fun w1 => by have h9 := fits_any (n : Int) w1; rw [decide_eq_true (by omega)] at h9; exact h9⟩
  have HP := Away.mk hP
  have HK := Away.mk hK
  clear hTr
  obtain ⟨W, hW⟩ : ∃ x, w.alloc (.cells T 36) = x := ⟨_, rfl⟩
  have HW := Away.mk hW
  have HB0 : Away (Below w.heap.size w W) := ⟨by rw [← hW]; exact below_alloc _ _⟩
  have HT : Away (W.heap[w.heap.size]? = some (.cells T 36 (0, 0))) := ⟨by rw [← hW]; exact heap_at _ _ _ rfl⟩
  have hz1 : W.heap.size = w.heap.size + 1 := by rw [← hW]; exact size_alloc _ _
  clear hW
  go_enter Tryd.func12, Tryd.ntmps12
  go_wp2_with (rw [HW.out])
  refine (HTr.out _).mono ?_
  rintro e w1 ⟨rfl, hb1⟩
  obtain ⟨V, hV⟩ : ∃ x, w1.alloc (.cells #[.int .i64 (r : Int), .int .u8 (f : Int), .int .i64 0] 69) = x := ⟨_, rfl⟩
  have HV := Away.mk hV
  have HB1 : Away (Below w.heap.size w V) := ⟨(HB0.out.trans (hb1.mono (by omega))).trans ((by rw [← hV]; exact (below_alloc _ _).mono (by have := hb1.size; omega)))⟩
  have HT1 : Away (V.heap[w.heap.size]? = some (.cells T 36 (0, 0))) := ⟨by rw [← hV, heap_past _ _ _ (by have := hb1.size; omega)]; exact (hb1.block _ (by omega)).trans HT.out⟩
  have Hrow : V.heap[w1.heap.size]? = some (.cells #[.int .i64 (r : Int), .int .u8 (f : Int), .int .i64 0] 69 (0, 0)) := by rw [← hV]; exact heap_at _ _ _ rfl
  have k0 : V.cell? ⟨w1.heap.size, 0, none⟩ = some (.int .i64 (r : Int)) := cell_at Hrow rfl
  have k2 : V.cell? ⟨w1.heap.size, 2, none⟩ = some (.int .i64 0) := cell_at Hrow rfl
  have hz2 : w.heap.size < w1.heap.size := by have := hb1.size; omega
  clear hb1 HTr hV Hrow
  go_wp2_with (rw [HV.out])
  refine (HF.out _).mono ?_
  rintro e w2 ⟨rfl, rfl⟩
  go_wp2_with fail
  refine (whole_any w.heap.size k b n w2 HK.out (HP.out.later HB1.out) HT1.out h0 hn hb).mono ?_
  rintro e w3 ⟨rfl, h3⟩
  have HB3 : Away (Below w.heap.size w w3) := ⟨HB1.out.trans (h3.mono (by have := HB1.out.size; omega))⟩
  clear h3
  go_wp2_with fail
  go_ret2
  exact ⟨rfl, HB3.out⟩

set_option maxRecDepth 100000 in
set_option maxHeartbeats 2000000 in
theorem sha3_none {T : Array Value} {ts rs : List Nat} (k : Int) (b : ByteArray)  (w : World) (hK : KT T ts rs) (h1 : spoa.size k = 0) :
    Calls Tryd.prog 14 #[.agg T, .int .i64 k, .string b] w fun e w' => e = .returned (.tuple #[.string ⟨#[]⟩, .int .i64 1]) ∧ Below w.heap.size w w' := by
  obtain ⟨f, hTr⟩ := traits_at k
  obtain ⟨r, hr⟩ : ∃ r, rate k = r := ⟨_, rfl⟩
  obtain ⟨z, hz⟩ : ∃ z, spoa.size k = z := ⟨_, rfl⟩
  rw [hr, h1] at hTr
  have hTr : ∀ w1 : World, Calls Tryd.prog 33 #[.int .i64 k] w1 fun e w' => e = .returned (.agg #[.int .i64 (r : Int), .int .u8 (f : Int), .int .i64 0]) ∧ Below w1.heap.size w1 w' := hTr
  have HTr := Away.mk hTr
  have HTz : Away ((Tryd.prog.info? 36).map (·.size) = some T.size) := ⟨by rw [hK.size]; exact rkeb.sizeT⟩
  clear hTr
  obtain ⟨W, hW⟩ : ∃ x, w.alloc (.cells T 36) = x := ⟨_, rfl⟩
  have HW := Away.mk hW
  have HB0 : Away (Below w.heap.size w W) := ⟨by rw [← hW]; exact below_alloc _ _⟩
  have HT : Away (W.heap[w.heap.size]? = some (.cells T 36 (0, 0))) := ⟨by rw [← hW]; exact heap_at _ _ _ rfl⟩
  have hz1 : W.heap.size = w.heap.size + 1 := by rw [← hW]; exact size_alloc _ _
  clear hW
  go_enter Tryd.func14, Tryd.ntmps14
  go_wp2_with (rw [HW.out])
  refine (HTr.out _).mono ?_
  rintro e w1 ⟨rfl, hb1⟩
  obtain ⟨V, hV⟩ : ∃ x, w1.alloc (.cells #[.int .i64 (r : Int), .int .u8 (f : Int), .int .i64 0] 69) = x := ⟨_, rfl⟩
  have HV := Away.mk hV
  have HB1 : Away (Below w.heap.size w V) := ⟨(HB0.out.trans (hb1.mono (by omega))).trans ((by rw [← hV]; exact (below_alloc _ _).mono (by have := hb1.size; omega)))⟩
  have HT1 : Away (V.heap[w.heap.size]? = some (.cells T 36 (0, 0))) := ⟨by rw [← hV, heap_past _ _ _ (by have := hb1.size; omega)]; exact (hb1.block _ (by omega)).trans HT.out⟩
  have Hrow : V.heap[w1.heap.size]? = some (.cells #[.int .i64 (r : Int), .int .u8 (f : Int), .int .i64 0] 69 (0, 0)) := by rw [← hV]; exact heap_at _ _ _ rfl
  have k0 : V.cell? ⟨w1.heap.size, 0, none⟩ = some (.int .i64 (r : Int)) := cell_at Hrow rfl
  have k2 : V.cell? ⟨w1.heap.size, 2, none⟩ = some (.int .i64 0) := cell_at Hrow rfl
  have hz2 : w.heap.size < w1.heap.size := by have := hb1.size; omega
  clear hb1 HTr hV Hrow
  go_wp2_with (rw [HV.out])
  go_ret2
  exact ⟨rfl, HB1.out⟩

set_option maxRecDepth 100000 in
set_option maxHeartbeats 2000000 in
theorem sha3_go {T : Array Value} {ts rs : List Nat} (k : Int) (b : ByteArray)  (w : World) (hK : KT T ts rs) (hP : Gp w) (h0 : 0 < rate k) (h1 : 0 < spoa.size k) (hn : spoa.size k ≤ 50000) (hb : b.size ≤ 1125899906842624) :
    Calls Tryd.prog 14 #[.agg T, .int .i64 k, .string b] w fun e w' => e = .returned (.tuple #[.string (out ts rs k b (spoa.size k)), .int .i64 0]) ∧ Below w.heap.size w w' := by
  obtain ⟨f, hTr⟩ := traits_at k
  obtain ⟨r, hr⟩ : ∃ r, rate k = r := ⟨_, rfl⟩
  obtain ⟨z, hz⟩ : ∃ z, spoa.size k = z := ⟨_, rfl⟩
  rw [hr, hz] at hTr
  rw [hz] at h1 hn ⊢
  have q1 : ((z : Int) == 0) = false := beq_eq_false_iff_ne.2 (by omega)
  have HTr := Away.mk hTr
  have HTz : Away ((Tryd.prog.info? 36).map (·.size) = some T.size) := ⟨by rw [hK.size]; exact rkeb.sizeT⟩
  have HP := Away.mk hP
  have HK := Away.mk hK
  clear hTr
  obtain ⟨W, hW⟩ : ∃ x, w.alloc (.cells T 36) = x := ⟨_, rfl⟩
  have HW := Away.mk hW
  have HB0 : Away (Below w.heap.size w W) := ⟨by rw [← hW]; exact below_alloc _ _⟩
  have HT : Away (W.heap[w.heap.size]? = some (.cells T 36 (0, 0))) := ⟨by rw [← hW]; exact heap_at _ _ _ rfl⟩
  have hz1 : W.heap.size = w.heap.size + 1 := by rw [← hW]; exact size_alloc _ _
  clear hW
  go_enter Tryd.func14, Tryd.ntmps14
  go_wp2_with (rw [HW.out])
  refine (HTr.out _).mono ?_
  rintro e w1 ⟨rfl, hb1⟩
  obtain ⟨V, hV⟩ : ∃ x, w1.alloc (.cells #[.int .i64 (r : Int), .int .u8 (f : Int), .int .i64 (z : Int)] 69) = x := ⟨_, rfl⟩
  have HV := Away.mk hV
  have HB1 : Away (Below w.heap.size w V) := ⟨(HB0.out.trans (hb1.mono (by omega))).trans ((by rw [← hV]; exact (below_alloc _ _).mono (by have := hb1.size; omega)))⟩
  have HT1 : Away (V.heap[w.heap.size]? = some (.cells T 36 (0, 0))) := ⟨by rw [← hV, heap_past _ _ _ (by have := hb1.size; omega)]; exact (hb1.block _ (by omega)).trans HT.out⟩
  have Hrow : V.heap[w1.heap.size]? = some (.cells #[.int .i64 (r : Int), .int .u8 (f : Int), .int .i64 (z : Int)] 69 (0, 0)) := by rw [← hV]; exact heap_at _ _ _ rfl
  have k0 : V.cell? ⟨w1.heap.size, 0, none⟩ = some (.int .i64 (r : Int)) := cell_at Hrow rfl
  have k2 : V.cell? ⟨w1.heap.size, 2, none⟩ = some (.int .i64 (z : Int)) := cell_at Hrow rfl
  have hz2 : w.heap.size < w1.heap.size := by have := hb1.size; omega
  clear hb1 HTr hV Hrow
  go_wp2_with (rw [HV.out])
  refine (whole_any w.heap.size k b z V HK.out (HP.out.later HB1.out) HT1.out h0 hn hb).mono ?_
  rintro e w3 ⟨rfl, h3⟩
  have HB3 : Away (Below w.heap.size w w3) := ⟨HB1.out.trans (h3.mono (by have := HB1.out.size; omega))⟩
  clear h3
  go_wp2_with fail
  go_ret2
  exact ⟨rfl, HB3.out⟩

end Go.Proofs.YtpibnfpgokjnpaaDoor.spok
