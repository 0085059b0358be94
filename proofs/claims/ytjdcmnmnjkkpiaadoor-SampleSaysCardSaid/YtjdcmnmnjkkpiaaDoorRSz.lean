/-
  What the document's own Shake of layer 6 returns. Conditions: the tables have their size.
-/
import Derived.Test.YtjdcmnmnjkkpiaaDoorRSY
import Derived.Test.YtjdcmnmnjkkpiaaDoorSpY
namespace Go.Proofs.YtjdcmnmnjkkpiaaDoor.rsph
open Go Go.RowKit
open Go.Proofs.YtjdcmnmnjkkpiaaDoor.arr Go.Proofs.YtjdcmnmnjkkpiaaDoor.mem Go.Proofs.YtjdcmnmnjkkpiaaDoor.kecm Go.Proofs.YtjdcmnmnjkkpiaaDoor.kecb Go.Proofs.YtjdcmnmnjkkpiaaDoor.kstep Go.Proofs.YtjdcmnmnjkkpiaaDoor.kfun Go.Proofs.YtjdcmnmnjkkpiaaDoor.spgm Go.Proofs.YtjdcmnmnjkkpiaaDoor.rspa Go.Proofs.YtjdcmnmnjkkpiaaDoor.rspb Go.Proofs.YtjdcmnmnjkkpiaaDoor.rspc Go.Proofs.YtjdcmnmnjkkpiaaDoor.rspd Go.Proofs.YtjdcmnmnjkkpiaaDoor.spof Go.Proofs.YtjdcmnmnjkkpiaaDoor.spok

theorem ok_in (k : Int) (a : Nat) (h : a < rate k) : ok k (a : Int) false = true := by
  unfold ok
  rw [decide_eq_true (show 0 < rate k by omega), decide_eq_true (show (0 : Int) ≤ (a : Int) by omega), decide_eq_true (show (a : Int) < (rate k : Int) by omega)]
  rfl
set_option maxRecDepth 100000 in
set_option maxHeartbeats 4000000 in
theorem once_go {T : Array Value} {ts rs : List Nat} (k : Int) (b : ByteArray) (n : Nat) (w : World) (hK : KT T ts rs) (hra : 0 < rate k) (hn : n ≤ 50000) (hb : b.size ≤ 1125899906842624) :
    Calls Tryd.prog 57 #[.agg T, .int .i64 k, .string b, .int .i64 (n : Int)] w fun e w' => e = .returned (.tuple #[.string (out ts rs k b n), .int .i64 0]) ∧ Below w.heap.size w w' := by
  have hPst : ∀ l, St l → St (PP ts rs l) := fun _ h => pp_st hK.br h
  have hEo : St (abs (PP ts rs) (rate k) ⟨Z, 0⟩ (bys b)).l ∧ (abs (PP ts rs) (rate k) ⟨Z, 0⟩ (bys b)).at' < rate k := abs_ok hPst _ z_st hra
  obtain ⟨A, HA⟩ := ex_eq (out ts rs k b n)
  have C2 : Away (∀ w1 : World, Calls Tryd.prog 78 #[.agg T, .agg (SC k Z 0 false), .string b] w1 fun e w' => e = .returned (.tuple #[.agg (SC k (abs (PP ts rs) (rate k) ⟨Z, 0⟩ (bys b)).l ((abs (PP ts rs) (rate k) ⟨Z, 0⟩ (bys b)).at' : Nat) false), .int .i64 0]) ∧ Below w1.heap.size w1 w') := ⟨fun w1 => rspd.absorb_go k 0 Z b w1 z_st hK (ok_in k 0 hra) hb⟩
  obtain ⟨E, HE⟩ := ex_eq (abs (PP ts rs) (rate k) ⟨Z, 0⟩ (bys b))
  rw [HE.out] at C2 hEo
  have HA2 : Away (⟨(u8s (sq (PP ts rs) (rate k) (pad (rate k) (spgm.mark k) ⟨E.l, E.at'⟩) n)).toArray⟩ = A) := ⟨by rw [← HA.out, ← HE.out]; rfl⟩
  rw [HA.out]
  have C3 : Away (∀ w1 : World, Calls Tryd.prog 79 #[.agg T, .agg (SC k E.l (E.at' : Int) false), .int .i64 (n : Int)] w1 fun e w' => e = .returned (.tuple #[.agg (SC k (sk (PP ts rs) (rate k) (pad (rate k) (spgm.mark k) ⟨E.l, E.at'⟩) n).l ((sk (PP ts rs) (rate k) (pad (rate k) (spgm.mark k) ⟨E.l, E.at'⟩) n).at' : Nat) true), .string A, .int .i64 0]) ∧ Below w1.heap.size w1 w') := ⟨fun w1 => by rw [← HA2.out]; exact rspg.squeeze_pad k E.at' n E.l w1 hEo.1 hK (ok_in k _ hEo.2) ⟨hra, hEo.2, rate_le k⟩ hn⟩
  clear HA HA2 HE
  have C1 : Away (∀ w1 : World, Calls Tryd.prog 77 #[.int .i64 k] w1 fun e w' => e = .returned (.tuple #[.agg (SC k Z 0 false), .int .i64 0]) ∧ Below w1.heap.size w1 w') := ⟨fun w1 => rspe.new_good k w1 hra⟩
  have HTz : Away ((Tryd.prog.info? 34).map (·.size) = some T.size) := ⟨by rw [hK.size]; exact rkeb.sizeT⟩
  obtain ⟨S0, HS0⟩ := ex_eq (SC k Z 0 false)
  have i0 : Away ((Tryd.prog.info? 100).map (·.size) = some S0.size) := ⟨by rw [← HS0.out]; exact sc_info _ _ _ z_len⟩
  have o0 : Away (S0.all (·.oneCell') = true) := ⟨by rw [← HS0.out]; exact sc_one _ _ _ _⟩
  have z0 : Away (S0.size = 28) := ⟨by rw [← HS0.out]; exact sc_size _ _ _ z_len⟩
  obtain ⟨S1, HS1⟩ := ex_eq (SC k E.l (E.at' : Int) false)
  have i1 : Away ((Tryd.prog.info? 100).map (·.size) = some S1.size) := ⟨by rw [← HS1.out]; exact sc_info _ _ _ hEo.1.len⟩
  have o1 : Away (S1.all (·.oneCell') = true) := ⟨by rw [← HS1.out]; exact sc_one _ _ _ _⟩
  have z1 : Away (S1.size = 28) := ⟨by rw [← HS1.out]; exact sc_size _ _ _ hEo.1.len⟩
  have hsk := (sk_ok hPst hra (pad_ok (r := rate k) (m := spgm.mark k) (s := ⟨E.l, E.at'⟩) hEo.1).1 (pad_ok (r := rate k) (m := spgm.mark k) (s := ⟨E.l, E.at'⟩) hEo.1).2 n).1.len
  obtain ⟨E2, HE2⟩ := ex_eq (sk (PP ts rs) (rate k) (pad (rate k) (spgm.mark k) ⟨E.l, E.at'⟩) n)
  rw [HE2.out] at C3 hsk
  obtain ⟨S2, HS2⟩ := ex_eq (SC k E2.l (E2.at' : Int) true)
  have i2 : Away ((Tryd.prog.info? 100).map (·.size) = some S2.size) := ⟨by rw [← HS2.out]; exact sc_info _ _ _ hsk⟩
  have o2 : Away (S2.all (·.oneCell') = true) := ⟨by rw [← HS2.out]; exact sc_one _ _ _ _⟩
  have z2 : Away (S2.size = 28) := ⟨by rw [← HS2.out]; exact sc_size _ _ _ hsk⟩
  rw [HS2.out] at C3
  clear hsk HS2 HE2
  rw [HS0.out] at C1 C2
  rw [HS1.out] at C2 C3
  clear hEo hPst HS0 HS1 hK
  obtain ⟨W, hW⟩ : ∃ x, w.alloc (.cells T 34) = x := ⟨_, rfl⟩
  have HW := Away.mk hW
  have BW : Away (Below w.heap.size w W) := ⟨by rw [← hW]; exact below_alloc _ _⟩
  have GW : Away (W.heap[w.heap.size]? = some (.cells T 34 (0, 0))) := ⟨by rw [← hW]; exact heap_at _ _ _ rfl⟩
  have hzW : W.heap.size = w.heap.size + 1 := by rw [← hW]; exact size_alloc _ _
  clear hW
  go_enter Tryd.func57, Tryd.ntmps57
  go_wp2_with (rw [HW.out])
  refine (C1.out _).mono ?_
  rintro e w2 ⟨rfl, hb2⟩
  obtain ⟨W3, hW3⟩ : ∃ x, w2.alloc (.cells S0 100) = x := ⟨_, rfl⟩
  have HW3 := Away.mk hW3
  have B3 : Away (Below W.heap.size W W3) := ⟨by rw [← hW3]; exact hb2.alloc hb2.size _⟩
  have G3 : Away (W3.heap[w.heap.size]? = some (.cells T 34 (0, 0))) := ⟨(B3.out.block _ (by omega)).trans GW.out⟩
  have R3 : Away (W3.heap[w2.heap.size]? = some (.cells S0 100 (0, 0))) := ⟨by rw [← hW3]; exact heap_at _ _ _ rfl⟩
  have h2W : W.heap.size ≤ w2.heap.size := hb2.size
  clear hb2 hW3
  go_wp2_with (first
    | (refine wpList_store_new rfl 100 _ _ rfl S0 rfl rfl i0.out (by exact z0.out.symm) o0.out rfl ?_)
    | (rw [HW3.out])
    | (refine wpList_load_row rfl 34 _ rfl w.heap.size rfl 34 T (0, 0) _ G3.out Tryd.underlying34 rfl HTz.out ?_)
    | (refine wpList_load_row rfl 100 _ rfl w2.heap.size rfl 100 S0 (0, 0) _ R3.out Tryd.underlying100 rfl i0.out ?_))
  refine (C2.out _).mono ?_
  rintro e w4 ⟨rfl, hb4⟩
  obtain ⟨W5, hW5⟩ : ∃ x, w4.setRow w2.heap.size S1 = x := ⟨_, rfl⟩
  have HW5 := Away.mk hW5
  have R4 : Away (w4.heap[w2.heap.size]? = some (.cells S0 100 (0, 0))) := ⟨(hb4.block _ (lt_of_row R3.out)).trans R3.out⟩
  have B5 : Away (Below W.heap.size W W5) := ⟨by rw [← hW5]; exact (B3.out.trans (hb4.mono B3.out.size)).trans (below_setRow _ _ _ h2W)⟩
  have G5 : Away (W5.heap[w.heap.size]? = some (.cells T 34 (0, 0))) := ⟨(B5.out.block _ (by omega)).trans GW.out⟩
  have R5 : Away (W5.heap[w2.heap.size]? = some (.cells S1 100 (0, 0))) := ⟨by rw [← hW5]; exact setRow_heap _ _ _ _ _ _ R4.out⟩
  clear hb4 hW5 HW3
  go_wp2_with (first
    | (refine wpList_store_row rfl 100 _ _ rfl w2.heap.size S1 rfl rfl 100 _ R4.out i1.out (z0.out.trans z1.out.symm) o1.out ?_)
    | (rw [HW5.out])
    | (refine wpList_load_row rfl 34 _ rfl w.heap.size rfl 34 T (0, 0) _ G5.out Tryd.underlying34 rfl HTz.out ?_)
    | (refine wpList_load_row rfl 100 _ rfl w2.heap.size rfl 100 S1 (0, 0) _ R5.out Tryd.underlying100 rfl i1.out ?_))
  refine (C3.out _).mono ?_
  rintro e w6 ⟨rfl, hb6⟩
  obtain ⟨W7, hW7⟩ : ∃ x, w6.alloc (.cells S2 100) = x := ⟨_, rfl⟩
  have HW7 := Away.mk hW7
  have B7 : Away (Below w.heap.size w W7) := ⟨by rw [← hW7]; exact (BW.out.trans ((B5.out.trans (hb6.mono B5.out.size)).mono BW.out.size)).alloc (Nat.le_trans BW.out.size (Nat.le_trans B5.out.size hb6.size)) _⟩
  clear hb6 hW7 HW5
  go_wp2_with (first
    | (refine wpList_store_new rfl 100 _ _ rfl S2 rfl rfl i2.out (by exact z2.out.symm) o2.out rfl ?_)
    | (rw [HW7.out]))
  go_ret2
  exact ⟨rfl, B7.out⟩

set_option maxRecDepth 100000 in
set_option maxHeartbeats 4000000 in
theorem once_far {T : Array Value} {ts rs : List Nat} (k : Int) (b : ByteArray) (n : Int) (w : World) (hK : KT T ts rs) (hra : 0 < rate k) (hn : n < 0 ∨ 50000 < n) (hb : b.size ≤ 1125899906842624) :
    Calls Tryd.prog 57 #[.agg T, .int .i64 k, .string b, .int .i64 n] w fun e w' => e = .returned (.tuple #[.string ⟨#[]⟩, .int .i64 1]) ∧ Below w.heap.size w w' := by
  have hPst : ∀ l, St l → St (PP ts rs l) := fun _ h => pp_st hK.br h
  have hEo : St (abs (PP ts rs) (rate k) ⟨Z, 0⟩ (bys b)).l ∧ (abs (PP ts rs) (rate k) ⟨Z, 0⟩ (bys b)).at' < rate k := abs_ok hPst _ z_st hra
  have C2 : Away (∀ w1 : World, Calls Tryd.prog 78 #[.agg T, .agg (SC k Z 0 false), .string b] w1 fun e w' => e = .returned (.tuple #[.agg (SC k (abs (PP ts rs) (rate k) ⟨Z, 0⟩ (bys b)).l ((abs (PP ts rs) (rate k) ⟨Z, 0⟩ (bys b)).at' : Nat) false), .int .i64 0]) ∧ Below w1.heap.size w1 w') := ⟨fun w1 => rspd.absorb_go k 0 Z b w1 z_st hK (ok_in k 0 hra) hb⟩
  obtain ⟨E, HE⟩ := ex_eq (abs (PP ts rs) (rate k) ⟨Z, 0⟩ (bys b))
  rw [HE.out] at C2 hEo
  have C3 : Away (∀ w1 : World, Calls Tryd.prog 79 #[.agg T, .agg (SC k E.l (E.at' : Int) false), .int .i64 n] w1 fun e w' => e = .returned (.tuple #[.agg (SC k E.l (E.at' : Int) false), .string ⟨#[]⟩, .int .i64 1]) ∧ Below w1.heap.size w1 w') := ⟨fun w1 => by
    rcases hn with h9 | h9
    · exact rspg.squeeze_neg k _ false E.l n w1 hEo.1 (ok_in k _ hEo.2) h9
    · exact rspg.squeeze_far k _ false E.l n w1 hEo.1 (ok_in k _ hEo.2) h9⟩
  clear HE
  have C1 : Away (∀ w1 : World, Calls Tryd.prog 77 #[.int .i64 k] w1 fun e w' => e = .returned (.tuple #[.agg (SC k Z 0 false), .int .i64 0]) ∧ Below w1.heap.size w1 w') := ⟨fun w1 => rspe.new_good k w1 hra⟩
  have HTz : Away ((Tryd.prog.info? 34).map (·.size) = some T.size) := ⟨by rw [hK.size]; exact rkeb.sizeT⟩
  obtain ⟨S0, HS0⟩ := ex_eq (SC k Z 0 false)
  have i0 : Away ((Tryd.prog.info? 100).map (·.size) = some S0.size) := ⟨by rw [← HS0.out]; exact sc_info _ _ _ z_len⟩
  have o0 : Away (S0.all (·.oneCell') = true) := ⟨by rw [← HS0.out]; exact sc_one _ _ _ _⟩
  have z0 : Away (S0.size = 28) := ⟨by rw [← HS0.out]; exact sc_size _ _ _ z_len⟩
  obtain ⟨S1, HS1⟩ := ex_eq (SC k E.l (E.at' : Int) false)
  have i1 : Away ((Tryd.prog.info? 100).map (·.size) = some S1.size) := ⟨by rw [← HS1.out]; exact sc_info _ _ _ hEo.1.len⟩
  have o1 : Away (S1.all (·.oneCell') = true) := ⟨by rw [← HS1.out]; exact sc_one _ _ _ _⟩
  have z1 : Away (S1.size = 28) := ⟨by rw [← HS1.out]; exact sc_size _ _ _ hEo.1.len⟩
  rw [HS0.out] at C1 C2
  rw [HS1.out] at C2 C3
  clear hEo hPst HS0 HS1 hK
  obtain ⟨W, hW⟩ : ∃ x, w.alloc (.cells T 34) = x := ⟨_, rfl⟩
  have HW := Away.mk hW
  have BW : Away (Below w.heap.size w W) := ⟨by rw [← hW]; exact below_alloc _ _⟩
  have GW : Away (W.heap[w.heap.size]? = some (.cells T 34 (0, 0))) := ⟨by rw [← hW]; exact heap_at _ _ _ rfl⟩
  have hzW : W.heap.size = w.heap.size + 1 := by rw [← hW]; exact size_alloc _ _
  clear hW
  go_enter Tryd.func57, Tryd.ntmps57
  go_wp2_with (rw [HW.out])
  refine (C1.out _).mono ?_
  rintro e w2 ⟨rfl, hb2⟩
  obtain ⟨W3, hW3⟩ : ∃ x, w2.alloc (.cells S0 100) = x := ⟨_, rfl⟩
  have HW3 := Away.mk hW3
  have B3 : Away (Below W.heap.size W W3) := ⟨by rw [← hW3]; exact hb2.alloc hb2.size _⟩
  have G3 : Away (W3.heap[w.heap.size]? = some (.cells T 34 (0, 0))) := ⟨(B3.out.block _ (by omega)).trans GW.out⟩
  have R3 : Away (W3.heap[w2.heap.size]? = some (.cells S0 100 (0, 0))) := ⟨by rw [← hW3]; exact heap_at _ _ _ rfl⟩
  have h2W : W.heap.size ≤ w2.heap.size := hb2.size
  clear hb2 hW3
  go_wp2_with (first
    | (refine wpList_store_new rfl 100 _ _ rfl S0 rfl rfl i0.out (by exact z0.out.symm) o0.out rfl ?_)
    | (rw [HW3.out])
    | (refine wpList_load_row rfl 34 _ rfl w.heap.size rfl 34 T (0, 0) _ G3.out Tryd.underlying34 rfl HTz.out ?_)
    | (refine wpList_load_row rfl 100 _ rfl w2.heap.size rfl 100 S0 (0, 0) _ R3.out Tryd.underlying100 rfl i0.out ?_))
  refine (C2.out _).mono ?_
  rintro e w4 ⟨rfl, hb4⟩
  obtain ⟨W5, hW5⟩ : ∃ x, w4.setRow w2.heap.size S1 = x := ⟨_, rfl⟩
  have HW5 := Away.mk hW5
  have R4 : Away (w4.heap[w2.heap.size]? = some (.cells S0 100 (0, 0))) := ⟨(hb4.block _ (lt_of_row R3.out)).trans R3.out⟩
  have B5 : Away (Below W.heap.size W W5) := ⟨by rw [← hW5]; exact (B3.out.trans (hb4.mono B3.out.size)).trans (below_setRow _ _ _ h2W)⟩
  have G5 : Away (W5.heap[w.heap.size]? = some (.cells T 34 (0, 0))) := ⟨(B5.out.block _ (by omega)).trans GW.out⟩
  have R5 : Away (W5.heap[w2.heap.size]? = some (.cells S1 100 (0, 0))) := ⟨by rw [← hW5]; exact setRow_heap _ _ _ _ _ _ R4.out⟩
  clear hb4 hW5 HW3
  go_wp2_with (first
    | (refine wpList_store_row rfl 100 _ _ rfl w2.heap.size S1 rfl rfl 100 _ R4.out i1.out (z0.out.trans z1.out.symm) o1.out ?_)
    | (rw [HW5.out])
    | (refine wpList_load_row rfl 34 _ rfl w.heap.size rfl 34 T (0, 0) _ G5.out Tryd.underlying34 rfl HTz.out ?_)
    | (refine wpList_load_row rfl 100 _ rfl w2.heap.size rfl 100 S1 (0, 0) _ R5.out Tryd.underlying100 rfl i1.out ?_))
  refine (C3.out _).mono ?_
  rintro e w6 ⟨rfl, hb6⟩
  obtain ⟨W7, hW7⟩ : ∃ x, w6.alloc (.cells S1 100) = x := ⟨_, rfl⟩
  have HW7 := Away.mk hW7
  have B7 : Away (Below w.heap.size w W7) := ⟨by rw [← hW7]; exact (BW.out.trans ((B5.out.trans (hb6.mono B5.out.size)).mono BW.out.size)).alloc (Nat.le_trans BW.out.size (Nat.le_trans B5.out.size hb6.size)) _⟩
  clear hb6 hW7 HW5
  go_wp2_with (first
    | (refine wpList_store_new rfl 100 _ _ rfl S1 rfl rfl i1.out (by exact z1.out.symm) o1.out rfl ?_)
    | (rw [HW7.out]))
  go_ret2
  exact ⟨rfl, B7.out⟩

set_option maxRecDepth 100000 in
set_option maxHeartbeats 2000000 in
theorem shake_none {T : Array Value} (k : Int) (b : ByteArray) (n : Int) (w : World) (h1 : k ≠ 1) (h2 : k ≠ 2) :
    Calls Tryd.prog 34 #[.agg T, .int .i64 k, .string b, .int .i64 n] w fun e w' => e = .returned (.tuple #[.string ⟨#[]⟩, .int .i64 1]) ∧ Below w.heap.size w w' := by
  have HTz : True := trivial
  have q1 : (k != 1) = true := bne_iff_ne.2 h1
  have q2 : (k != 2) = true := bne_iff_ne.2 h2
  clear h1 h2
  obtain ⟨W, hW⟩ : ∃ x, w.alloc (.cells T 34) = x := ⟨_, rfl⟩
  have HW := Away.mk hW
  have BW : Away (Below w.heap.size w W) := ⟨by rw [← hW]; exact below_alloc _ _⟩
  have GW : Away (W.heap[w.heap.size]? = some (.cells T 34 (0, 0))) := ⟨by rw [← hW]; exact heap_at _ _ _ rfl⟩
  clear hW
  go_enter Tryd.func34, Tryd.ntmps34
  go_wp2_with (first
    | (rw [HW.out])
    | (refine wpList_load_row rfl 34 _ rfl w.heap.size rfl 34 T (0, 0) _ GW.out Tryd.underlying34 rfl HTz.out ?_))
  go_ret2
  exact ⟨rfl, BW.out⟩

set_option maxRecDepth 100000 in
set_option maxHeartbeats 2000000 in
theorem shake_far1 {T : Array Value} {ts rs : List Nat} (k : Int) (b : ByteArray) (n : Int) (w : World) (hK : KT T ts rs) (h1 : k = 1) (hn : n < 0 ∨ 50000 < n) (hb : b.size ≤ 1125899906842624) :
    Calls Tryd.prog 34 #[.agg T, .int .i64 k, .string b, .int .i64 n] w fun e w' => e = .returned (.tuple #[.string ⟨#[]⟩, .int .i64 1]) ∧ Below w.heap.size w w' := by
  have HTz : Away ((Tryd.prog.info? 34).map (·.size) = some T.size) := ⟨by rw [hK.size]; exact rkeb.sizeT⟩
  have C3 : Away (∀ w1 : World, Calls Tryd.prog 57 #[.agg T, .int .i64 k, .string b, .int .i64 n] w1 fun e w' => e = .returned (.tuple #[.string ⟨#[]⟩, .int .i64 1]) ∧ Below w1.heap.size w1 w') := ⟨fun w1 => once_far k b n w1 hK (by rw [h1]; decide) hn hb⟩
  subst h1
  clear hn hK
  obtain ⟨W, hW⟩ : ∃ x, w.alloc (.cells T 34) = x := ⟨_, rfl⟩
  have HW := Away.mk hW
  have BW : Away (Below w.heap.size w W) := ⟨by rw [← hW]; exact below_alloc _ _⟩
  have GW : Away (W.heap[w.heap.size]? = some (.cells T 34 (0, 0))) := ⟨by rw [← hW]; exact heap_at _ _ _ rfl⟩
  clear hW
  go_enter Tryd.func34, Tryd.ntmps34
  go_wp2_with (first
    | (rw [HW.out])
    | (refine wpList_load_row rfl 34 _ rfl w.heap.size rfl 34 T (0, 0) _ GW.out Tryd.underlying34 rfl HTz.out ?_))
  refine (C3.out W).mono ?_
  rintro e w3 ⟨rfl, h3⟩
  have HB3 : Away (Below w.heap.size w w3) := ⟨BW.out.trans (h3.mono BW.out.size)⟩
  clear h3
  go_wp2_with fail
  go_ret2
  exact ⟨rfl, HB3.out⟩

set_option maxRecDepth 100000 in
set_option maxHeartbeats 2000000 in
theorem shake_go1 {T : Array Value} {ts rs : List Nat} (k : Int) (b : ByteArray) (n : Nat) (w : World) (hK : KT T ts rs) (h1 : k = 1) (hn : n ≤ 50000) (hb : b.size ≤ 1125899906842624) :
    Calls Tryd.prog 34 #[.agg T, .int .i64 k, .string b, .int .i64 (n : Int)] w fun e w' => e = .returned (.tuple #[.string (out ts rs k b n), .int .i64 0]) ∧ Below w.heap.size w w' := by
  have HTz : Away ((Tryd.prog.info? 34).map (·.size) = some T.size) := ⟨by rw [hK.size]; exact rkeb.sizeT⟩
  have C3 : Away (∀ w1 : World, Calls Tryd.prog 57 #[.agg T, .int .i64 k, .string b, .int .i64 (n : Int)] w1 fun e w' => e = .returned (.tuple #[.string (out ts rs k b n), .int .i64 0]) ∧ Below w1.heap.size w1 w') := ⟨fun w1 => once_go k b n w1 hK (by rw [h1]; decide) hn hb⟩
  obtain ⟨A, HA⟩ := ex_eq (out ts rs k b n)
  rw [HA.out] at C3 ⊢
  subst h1
  clear hn hK HA
  obtain ⟨W, hW⟩ : ∃ x, w.alloc (.cells T 34) = x := ⟨_, rfl⟩
  have HW := Away.mk hW
  have BW : Away (Below w.heap.size w W) := ⟨by rw [← hW]; exact below_alloc _ _⟩
  have GW : Away (W.heap[w.heap.size]? = some (.cells T 34 (0, 0))) := ⟨by rw [← hW]; exact heap_at _ _ _ rfl⟩
  clear hW
  go_enter Tryd.func34, Tryd.ntmps34
  go_wp2_with (first
    | (rw [HW.out])
    | (refine wpList_load_row rfl 34 _ rfl w.heap.size rfl 34 T (0, 0) _ GW.out Tryd.underlying34 rfl HTz.out ?_))
  refine (C3.out W).mono ?_
  rintro e w3 ⟨rfl, h3⟩
  have HB3 : Away (Below w.heap.size w w3) := ⟨BW.out.trans (h3.mono BW.out.size)⟩
  clear h3
  go_wp2_with fail
  go_ret2
  exact ⟨rfl, HB3.out⟩

set_option maxRecDepth 100000 in
set_option maxHeartbeats 2000000 in
theorem shake_far2 {T : Array Value} {ts rs : List Nat} (k : Int) (b : ByteArray) (n : Int) (w : World) (hK : KT T ts rs) (h1 : k = 2) (hn : n < 0 ∨ 50000 < n) (hb : b.size ≤ 1125899906842624) :
    Calls Tryd.prog 34 #[.agg T, .int .i64 k, .string b, .int .i64 n] w fun e w' => e = .returned (.tuple #[.string ⟨#[]⟩, .int .i64 1]) ∧ Below w.heap.size w w' := by
  have HTz : Away ((Tryd.prog.info? 34).map (·.size) = some T.size) := ⟨by rw [hK.size]; exact rkeb.sizeT⟩
  have C3 : Away (∀ w1 : World, Calls Tryd.prog 57 #[.agg T, .int .i64 k, .string b, .int .i64 n] w1 fun e w' => e = .returned (.tuple #[.string ⟨#[]⟩, .int .i64 1]) ∧ Below w1.heap.size w1 w') := ⟨fun w1 => once_far k b n w1 hK (by rw [h1]; decide) hn hb⟩
  subst h1
  clear hn hK
  obtain ⟨W, hW⟩ : ∃ x, w.alloc (.cells T 34) = x := ⟨_, rfl⟩
  have HW := Away.mk hW
  have BW : Away (Below w.heap.size w W) := ⟨by rw [← hW]; exact below_alloc _ _⟩
  have GW : Away (W.heap[w.heap.size]? = some (.cells T 34 (0, 0))) := ⟨by rw [← hW]; exact heap_at _ _ _ rfl⟩
  clear hW
  go_enter Tryd.func34, Tryd.ntmps34
  go_wp2_with (first
    | (rw [HW.out])
    | (refine wpList_load_row rfl 34 _ rfl w.heap.size rfl 34 T (0, 0) _ GW.out Tryd.underlying34 rfl HTz.out ?_))
  refine (C3.out W).mono ?_
  rintro e w3 ⟨rfl, h3⟩
  have HB3 : Away (Below w.heap.size w w3) := ⟨BW.out.trans (h3.mono BW.out.size)⟩
  clear h3
  go_wp2_with fail
  go_ret2
  exact ⟨rfl, HB3.out⟩

set_option maxRecDepth 100000 in
set_option maxHeartbeats 2000000 in
theorem shake_go2 {T : Array Value} {ts rs : List Nat} (k : Int) (b : ByteArray) (n : Nat) (w : World) (hK : KT T ts rs) (h1 : k = 2) (hn : n ≤ 50000) (hb : b.size ≤ 1125899906842624) :
    Calls Tryd.prog 34 #[.agg T, .int .i64 k, .string b, .int .i64 (n : Int)] w fun e w' => e = .returned (.tuple #[.string (out ts rs k b n), .int .i64 0]) ∧ Below w.heap.size w w' := by
  have HTz : Away ((Tryd.prog.info? 34).map (·.size) = some T.size) := ⟨by rw [hK.size]; exact rkeb.sizeT⟩
  have C3 : Away (∀ w1 : World, Calls Tryd.prog 57 #[.agg T, .int .i64 k, .string b, .int .i64 (n : Int)] w1 fun e w' => e = .returned (.tuple #[.string (out ts rs k b n), .int .i64 0]) ∧ Below w1.heap.size w1 w') := ⟨fun w1 => once_go k b n w1 hK (by rw [h1]; decide) hn hb⟩
  obtain ⟨A, HA⟩ := ex_eq (out ts rs k b n)
  rw [HA.out] at C3 ⊢
  subst h1
  clear hn hK HA
  obtain ⟨W, hW⟩ : ∃ x, w.alloc (.cells T 34) = x := ⟨_, rfl⟩
  have HW := Away.mk hW
  have BW : Away (Below w.heap.size w W) := ⟨by rw [← hW]; exact below_alloc _ _⟩
  have GW : Away (W.heap[w.heap.size]? = some (.cells T 34 (0, 0))) := ⟨by rw [← hW]; exact heap_at _ _ _ rfl⟩
  clear hW
  go_enter Tryd.func34, Tryd.ntmps34
  go_wp2_with (first
    | (rw [HW.out])
    | (refine wpList_load_row rfl 34 _ rfl w.heap.size rfl 34 T (0, 0) _ GW.out Tryd.underlying34 rfl HTz.out ?_))
  refine (C3.out W).mono ?_
  rintro e w3 ⟨rfl, h3⟩
  have HB3 : Away (Below w.heap.size w w3) := ⟨BW.out.trans (h3.mono BW.out.size)⟩
  clear h3
  go_wp2_with fail
  go_ret2
  exact ⟨rfl, HB3.out⟩

end Go.Proofs.YtjdcmnmnjkkpiaaDoor.rsph
