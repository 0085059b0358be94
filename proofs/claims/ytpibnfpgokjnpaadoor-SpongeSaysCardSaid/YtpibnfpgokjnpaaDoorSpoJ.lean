/-
  What Absorb and Squeeze of the sponge return. Conditions: the sponge's state has 25 words of 64 bits, the tables have their size, and keccak's variable 'places' holds what the program's text lays there.
-/
import Derived.Test.YtpibnfpgokjnpaaDoorSpoH
import Derived.Test.YtpibnfpgokjnpaaDoorSpoI
namespace Go.Proofs.YtpibnfpgokjnpaaDoor.spoj
open Go Go.RowKit
open Go.Proofs.YtpibnfpgokjnpaaDoor.arr Go.Proofs.YtpibnfpgokjnpaaDoor.mem Go.Proofs.YtpibnfpgokjnpaaDoor.kecm Go.Proofs.YtpibnfpgokjnpaaDoor.kecb Go.Proofs.YtpibnfpgokjnpaaDoor.kstep Go.Proofs.YtpibnfpgokjnpaaDoor.kturn Go.Proofs.YtpibnfpgokjnpaaDoor.kfun Go.Proofs.YtpibnfpgokjnpaaDoor.spgm Go.Proofs.YtpibnfpgokjnpaaDoor.spmx Go.Proofs.YtpibnfpgokjnpaaDoor.rspa Go.Proofs.YtpibnfpgokjnpaaDoor.rspb Go.Proofs.YtpibnfpgokjnpaaDoor.rspc Go.Proofs.YtpibnfpgokjnpaaDoor.rspd Go.Proofs.YtpibnfpgokjnpaaDoor.rspe Go.Proofs.YtpibnfpgokjnpaaDoor.spoa Go.Proofs.YtpibnfpgokjnpaaDoor.spob Go.Proofs.YtpibnfpgokjnpaaDoor.spoe Go.Proofs.YtpibnfpgokjnpaaDoor.spof Go.Proofs.YtpibnfpgokjnpaaDoor.spog Go.Proofs.YtpibnfpgokjnpaaDoor.spoh Go.Proofs.YtpibnfpgokjnpaaDoor.spoi

theorem ok_le (k : Int) (a : Nat) (h : ok k (a : Int) true = true) : a ≤ rate k ∧ 0 < rate k := by
  unfold ok at h
  generalize rate k = r at h
  simp at h
  omega
set_option maxRecDepth 100000 in
set_option maxHeartbeats 2000000 in
theorem absorb_bad {T : Array Value} {ts rs : List Nat} (k a : Int) (o : Bool) (l : List Nat) (b : ByteArray) (w : World) (h : St l) (hK : KT T ts rs) (hok : ok k a o = false) :
    Calls Tryd.prog 8 #[.agg T, .agg (SC k l a o), .string b] w fun e w' => e = .returned (.tuple #[.agg (SC k l a o), .int .i64 1]) ∧ Below w.heap.size w w' := by
  have Hrt : Away (∀ w1 : World, Calls Tryd.prog 18 #[.agg (SC k l a o)] w1 fun e w' => e = .returned (.bool false) ∧ Below w1.heap.size w1 w') := ⟨fun w1 => by have h9 := spoi.right_any k a o l w1 h.len; rw [hok] at h9; exact h9⟩
  have H := Away.mk h
  have HK := Away.mk hK
  obtain ⟨z, HZ⟩ := ex_eq Z
  have HZl : Away (z.length = 25) := ⟨by rw [← HZ.out]; rfl⟩
  have Hz : Away ((#[.int .i64 0, .int .u64 0, .int .u64 0, .int .u64 0, .int .u64 0, .int .u64 0, .int .u64 0, .int .u64 0, .int .u64 0, .int .u64 0, .int .u64 0, .int .u64 0, .int .u64 0, .int .u64 0, .int .u64 0, .int .u64 0, .int .u64 0, .int .u64 0, .int .u64 0, .int .u64 0, .int .u64 0, .int .u64 0, .int .u64 0, .int .u64 0, .int .u64 0, .int .u64 0, .int .i64 0, .bool false] : Array Value) = SC 0 z 0 false) := ⟨by rw [← HZ.out]; exact zs_is⟩
  clear h hK HZ
  go_enter Tryd.func8, Tryd.ntmps8
  obtain ⟨W, hW⟩ : ∃ x, ((w.alloc (.cells T 36)).alloc (.cells (SC k l a o) 25)).alloc (.cells (SC 0 z 0 false) 25) = x := ⟨_, rfl⟩
  obtain ⟨b0, b1, b2, hWs, hWb⟩ := three hW
  have B0 := Away.mk b0
  have B1 := Away.mk b1
  have B2 := Away.mk b2
  have HWs := Away.mk hWs
  have HWb := Away.mk hWb
  have HW := Away.mk hW
  have Si := Away.mk (sc_info k a o H.out.len)
  have So := Away.mk (sc_one k l a o)
  have Sz := Away.mk (sc_same k 0 a 0 o false H.out.len HZl.out)
  obtain ⟨S, HS⟩ := ex_eq (SC k l a o)
  rw [HS.out] at B1 Si So Sz HW Hrt
  clear hWs hWb hW b0 b1 b2
  rw [HS.out]
  go_wp2_with (first
    | (rw [Hz.out, HW.out])
    | (refine wpList_load_row rfl 25 _ rfl (w.heap.size + 1) rfl 25 S (0, 0) _ B1.out Tryd.underlying25 rfl Si.out ?_))
  refine (Hrt.out _).mono ?_
  rintro e w1 ⟨rfl, hb1⟩
  have B1' : Away (w1.heap[w.heap.size + 1]? = some (.cells S 25 (0, 0))) := ⟨(hb1.block _ (by have := HWs.out; omega)).trans B1.out⟩
  have B2' : Away (w1.heap[w.heap.size + 2]? = some (.cells (SC 0 z 0 false) 25 (0, 0))) := ⟨(hb1.block _ (by have := HWs.out; omega)).trans B2.out⟩
  have Hb1 : Away (Below w.heap.size w w1) := ⟨HWb.out.trans (hb1.mono (by have := HWs.out; omega))⟩
  clear hb1
  go_wp2_with (first
    | (refine wpList_load_row rfl 25 _ rfl (w.heap.size + 1) rfl 25 S (0, 0) _ B1'.out Tryd.underlying25 rfl Si.out ?_)
    | (refine wpList_store_row rfl 25 _ _ rfl (w.heap.size + 2) S rfl rfl 25 _ B2'.out Si.out Sz.out.symm So.out ?_))
  refine bodyPost_ret_by (v := .tuple #[.agg S, .int .i64 1]) (rspc.results_cell_tmp rfl _ _ (w.heap.size + 2) 25 _ (0, 0) _ rfl (setRow_heap _ _ _ _ _ _ B2'.out) Tryd.underlying25 rfl Si.out _ rfl) rfl ?_
  exact ⟨rfl, Hb1.out.trans (below_setRow _ _ _ (by omega))⟩

set_option maxRecDepth 100000 in
set_option maxHeartbeats 2000000 in
theorem absorb_out {T : Array Value} {ts rs : List Nat} (k a : Int) (l : List Nat) (b : ByteArray) (w : World) (h : St l) (hK : KT T ts rs) (hok : ok k a true = true) :
    Calls Tryd.prog 8 #[.agg T, .agg (SC k l a true), .string b] w fun e w' => e = .returned (.tuple #[.agg (SC k l a true), .int .i64 16]) ∧ Below w.heap.size w w' := by
  have Hrt : Away (∀ w1 : World, Calls Tryd.prog 18 #[.agg (SC k l a true)] w1 fun e w' => e = .returned (.bool true) ∧ Below w1.heap.size w1 w') := ⟨fun w1 => by have h9 := spoi.right_any k a true l w1 h.len; rw [hok] at h9; exact h9⟩
  have H := Away.mk h
  have HK := Away.mk hK
  obtain ⟨z, HZ⟩ := ex_eq Z
  have HZl : Away (z.length = 25) := ⟨by rw [← HZ.out]; rfl⟩
  have Hz : Away ((#[.int .i64 0, .int .u64 0, .int .u64 0, .int .u64 0, .int .u64 0, .int .u64 0, .int .u64 0, .int .u64 0, .int .u64 0, .int .u64 0, .int .u64 0, .int .u64 0, .int .u64 0, .int .u64 0, .int .u64 0, .int .u64 0, .int .u64 0, .int .u64 0, .int .u64 0, .int .u64 0, .int .u64 0, .int .u64 0, .int .u64 0, .int .u64 0, .int .u64 0, .int .u64 0, .int .i64 0, .bool false] : Array Value) = SC 0 z 0 false) := ⟨by rw [← HZ.out]; exact zs_is⟩
  clear h hK HZ
  go_enter Tryd.func8, Tryd.ntmps8
  obtain ⟨W, hW⟩ : ∃ x, ((w.alloc (.cells T 36)).alloc (.cells (SC k l a true) 25)).alloc (.cells (SC 0 z 0 false) 25) = x := ⟨_, rfl⟩
  obtain ⟨b0, b1, b2, hWs, hWb⟩ := three hW
  have B0 := Away.mk b0
  have B1 := Away.mk b1
  have B2 := Away.mk b2
  have HWs := Away.mk hWs
  have HWb := Away.mk hWb
  have HW := Away.mk hW
  have Si := Away.mk (sc_info k a true H.out.len)
  have So := Away.mk (sc_one k l a true)
  have Sz := Away.mk (sc_same k 0 a 0 true false H.out.len HZl.out)
  obtain ⟨S, HS⟩ := ex_eq (SC k l a true)
  rw [HS.out] at B1 Si So Sz HW Hrt
  clear hWs hWb hW b0 b1 b2
  rw [HS.out]
  go_wp2_with (first
    | (rw [Hz.out, HW.out])
    | (refine wpList_load_row rfl 25 _ rfl (w.heap.size + 1) rfl 25 S (0, 0) _ B1.out Tryd.underlying25 rfl Si.out ?_))
  refine (Hrt.out _).mono ?_
  rintro e w1 ⟨rfl, hb1⟩
  have B1' : Away (w1.heap[w.heap.size + 1]? = some (.cells S 25 (0, 0))) := ⟨(hb1.block _ (by have := HWs.out; omega)).trans B1.out⟩
  have B2' : Away (w1.heap[w.heap.size + 2]? = some (.cells (SC 0 z 0 false) 25 (0, 0))) := ⟨(hb1.block _ (by have := HWs.out; omega)).trans B2.out⟩
  have Hb1 : Away (Below w.heap.size w w1) := ⟨HWb.out.trans (hb1.mono (by have := HWs.out; omega))⟩
  have c3 : w1.cell? ⟨w.heap.size + 1, 27, none⟩ = some (.bool true) := cell_at B1'.out (by rw [← HS.out]; exact sc_out k a true H.out.len)
  clear hb1
  go_wp2_with (first
    | (refine wpList_load_row rfl 25 _ rfl (w.heap.size + 1) rfl 25 S (0, 0) _ B1'.out Tryd.underlying25 rfl Si.out ?_)
    | (refine wpList_store_row rfl 25 _ _ rfl (w.heap.size + 2) S rfl rfl 25 _ B2'.out Si.out Sz.out.symm So.out ?_))
  refine bodyPost_ret_by (v := .tuple #[.agg S, .int .i64 16]) (rspc.results_cell_tmp rfl _ _ (w.heap.size + 2) 25 _ (0, 0) _ rfl (setRow_heap _ _ _ _ _ _ B2'.out) Tryd.underlying25 rfl Si.out _ rfl) rfl ?_
  exact ⟨rfl, Hb1.out.trans (below_setRow _ _ _ (by omega))⟩

set_option maxRecDepth 100000 in
set_option maxHeartbeats 2000000 in
theorem absorb_go {T : Array Value} {ts rs : List Nat} (k : Int) (a : Nat) (l : List Nat) (b : ByteArray) (w : World) (h : St l) (hK : KT T ts rs) (hP : Gp w) (hok : ok k (a : Int) false = true) (hb : b.size ≤ 1125899906842624) :
    Calls Tryd.prog 8 #[.agg T, .agg (SC k l (a : Int) false), .string b] w fun e w' => e = .returned (.tuple #[.agg (SC k (abs (PP ts rs) (rate k) ⟨l, a⟩ (bys b)).l ((abs (PP ts rs) (rate k) ⟨l, a⟩ (bys b)).at' : Nat) false), .int .i64 0]) ∧ Below w.heap.size w w' := by
  have Hrt : Away (∀ w1 : World, Calls Tryd.prog 18 #[.agg (SC k l (a : Int) false)] w1 fun e w' => e = .returned (.bool true) ∧ Below w1.heap.size w1 w') := ⟨fun w1 => by have h9 := spoi.right_any k (a : Int) false l w1 h.len; rw [hok] at h9; exact h9⟩
  have hra := ok_lt k a hok
  clear hok
  have H := Away.mk h
  have HK := Away.mk hK
  obtain ⟨z, HZ⟩ := ex_eq Z
  have HZl : Away (z.length = 25) := ⟨by rw [← HZ.out]; rfl⟩
  have Hz : Away ((#[.int .i64 0, .int .u64 0, .int .u64 0, .int .u64 0, .int .u64 0, .int .u64 0, .int .u64 0, .int .u64 0, .int .u64 0, .int .u64 0, .int .u64 0, .int .u64 0, .int .u64 0, .int .u64 0, .int .u64 0, .int .u64 0, .int .u64 0, .int .u64 0, .int .u64 0, .int .u64 0, .int .u64 0, .int .u64 0, .int .u64 0, .int .u64 0, .int .u64 0, .int .u64 0, .int .i64 0, .bool false] : Array Value) = SC 0 z 0 false) := ⟨by rw [← HZ.out]; exact zs_is⟩
  clear h hK HZ
  have HP := Away.mk hP
  have hgl := gp_lt hP
  clear hP
  obtain ⟨E, HE⟩ := ex_eq (abs (PP ts rs) (rate k) ⟨l, a⟩ (bys b))
  have HEs : Away (St E.l) := ⟨by rw [← HE.out]; exact (abs_ok (fun _ h => pp_st HK.out.br h) _ H.out hra).1⟩
  have HC : Away (∀ (gt gs : Nat) (w1 : World), Gp w1 → w1.heap[gt]? = some (.cells T 36 (0, 0)) → gt ≠ gs → gs ≠ 0 → w1.heap[gs]? = some (.cells (SC k l (a : Int) false) 25 (0, 0)) → Calls Tryd.prog 27 #[.pointer (some ⟨gt, 0, none⟩), .pointer (some ⟨gs, 0, none⟩), .string b] w1 fun e w' => e = .returned (.tuple #[]) ∧ At gs (SC k E.l (E.at' : Int) false) 25 w1 w') :=
    ⟨fun gt gs w1 hP hT hne hgp hrow => by rw [← HE.out]; exact spoe.absorb_any gt gs k a l b w1 H.out HK.out hP hT hne hgp hra hb hrow⟩
  rw [HE.out]
  clear hra HE
  go_enter Tryd.func8, Tryd.ntmps8
  obtain ⟨W, hW⟩ : ∃ x, ((w.alloc (.cells T 36)).alloc (.cells (SC k l (a : Int) false) 25)).alloc (.cells (SC 0 z 0 false) 25) = x := ⟨_, rfl⟩
  obtain ⟨b0, b1, b2, hWs, hWb⟩ := three hW
  have B0 := Away.mk b0
  have B1 := Away.mk b1
  have B2 := Away.mk b2
  have HWs := Away.mk hWs
  have HWb := Away.mk hWb
  have HW := Away.mk hW
  have Si := Away.mk (sc_info k (a : Int) false H.out.len)
  have So := Away.mk (sc_one k l (a : Int) false)
  have Sz := Away.mk (sc_same k 0 (a : Int) 0 false false H.out.len HZl.out)
  obtain ⟨S, HS⟩ := ex_eq (SC k l (a : Int) false)
  rw [HS.out] at B1 Si So Sz HW Hrt
  clear hWs hWb hW b0 b1 b2
  rw [HS.out]
  go_wp2_with (first
    | (rw [Hz.out, HW.out])
    | (refine wpList_load_row rfl 25 _ rfl (w.heap.size + 1) rfl 25 S (0, 0) _ B1.out Tryd.underlying25 rfl Si.out ?_))
  refine (Hrt.out _).mono ?_
  rintro e w1 ⟨rfl, hb1⟩
  have B1' : Away (w1.heap[w.heap.size + 1]? = some (.cells S 25 (0, 0))) := ⟨(hb1.block _ (by have := HWs.out; omega)).trans B1.out⟩
  have B2' : Away (w1.heap[w.heap.size + 2]? = some (.cells (SC 0 z 0 false) 25 (0, 0))) := ⟨(hb1.block _ (by have := HWs.out; omega)).trans B2.out⟩
  have Hb1 : Away (Below w.heap.size w w1) := ⟨HWb.out.trans (hb1.mono (by have := HWs.out; omega))⟩
  have c3 : w1.cell? ⟨w.heap.size + 1, 27, none⟩ = some (.bool false) := cell_at B1'.out (by rw [← HS.out]; exact sc_out k (a : Int) false H.out.len)
  have B0' : w1.heap[w.heap.size]? = some (.cells T 36 (0, 0)) := (hb1.block _ (by have := HWs.out; omega)).trans B0.out
  have HC1 := Away.mk (HC.out w.heap.size (w.heap.size + 1) w1 (HP.out.later Hb1.out) B0' (by omega) (by omega) (by rw [HS.out]; exact B1'.out))
  have hs1 : w.heap.size + 2 < w1.heap.size := lt_of_row B2'.out
  clear hb1 B0' HC
  go_wp2_with fail
  refine HC1.out.mono ?_
  rintro e w2 ⟨rfl, h2⟩
  obtain ⟨F, HF⟩ := ex_eq (SC k E.l (E.at' : Int) false)
  have Fi : Away ((Tryd.prog.info? 25).map (·.size) = some F.size) := ⟨by rw [← HF.out]; exact sc_info k _ _ HEs.out.len⟩
  have Fo : Away (F.all (·.oneCell') = true) := ⟨by rw [← HF.out]; exact sc_one k E.l _ _⟩
  have Fz : Away ((SC 0 z 0 false).size = F.size) := ⟨by rw [← HF.out]; exact sc_same _ _ _ _ _ _ HZl.out HEs.out.len⟩
  rw [HF.out] at h2
  have Hrow := Away.mk h2.row
  have Hres : Away (w2.heap[w.heap.size + 2]? = some (.cells (SC 0 z 0 false) 25 (0, 0))) := ⟨h2.other hs1 (by omega) B2'.out⟩
  have Hb5 : Away (Below w.heap.size w w2) := ⟨Hb1.out.trans (h2.below (by omega) (by omega))⟩
  clear h2 c3 HC1
  go_wp2_with (first
    | (refine wpList_load_row rfl 25 _ rfl (w.heap.size + 1) rfl 25 F (0, 0) _ Hrow.out Tryd.underlying25 rfl Fi.out ?_)
    | (refine wpList_store_row rfl 25 _ _ rfl (w.heap.size + 2) F rfl rfl 25 _ Hres.out Fi.out Fz.out Fo.out ?_))
  refine bodyPost_ret_by (v := .tuple #[.agg F, .int .i64 0]) (rspc.results_cell_tmp rfl _ _ (w.heap.size + 2) 25 _ (0, 0) _ rfl (setRow_heap _ _ _ _ _ _ Hres.out) Tryd.underlying25 rfl Fi.out _ rfl) rfl ?_
  exact ⟨by rw [← HF.out], Hb5.out.trans (below_setRow _ _ _ (by omega))⟩

set_option maxRecDepth 100000 in
set_option maxHeartbeats 2000000 in
theorem squeeze_bad {T : Array Value} {ts rs : List Nat} (k a : Int) (o : Bool) (l : List Nat) (n : Int) (w : World) (h : St l) (hK : KT T ts rs) (hok : ok k a o = false) :
    Calls Tryd.prog 10 #[.agg T, .agg (SC k l a o), .int .i64 n] w fun e w' => e = .returned (.tuple #[.agg (SC k l a o), .string ⟨#[]⟩, .int .i64 1]) ∧ Below w.heap.size w w' := by
  have Hrt : Away (∀ w1 : World, Calls Tryd.prog 18 #[.agg (SC k l a o)] w1 fun e w' => e = .returned (.bool false) ∧ Below w1.heap.size w1 w') := ⟨fun w1 => by have h9 := spoi.right_any k a o l w1 h.len; rw [hok] at h9; exact h9⟩
  have H := Away.mk h
  have HK := Away.mk hK
  obtain ⟨z, HZ⟩ := ex_eq Z
  have HZl : Away (z.length = 25) := ⟨by rw [← HZ.out]; rfl⟩
  have Hz : Away ((#[.int .i64 0, .int .u64 0, .int .u64 0, .int .u64 0, .int .u64 0, .int .u64 0, .int .u64 0, .int .u64 0, .int .u64 0, .int .u64 0, .int .u64 0, .int .u64 0, .int .u64 0, .int .u64 0, .int .u64 0, .int .u64 0, .int .u64 0, .int .u64 0, .int .u64 0, .int .u64 0, .int .u64 0, .int .u64 0, .int .u64 0, .int .u64 0, .int .u64 0, .int .u64 0, .int .i64 0, .bool false] : Array Value) = SC 0 z 0 false) := ⟨by rw [← HZ.out]; exact zs_is⟩
  clear h hK HZ
  go_enter Tryd.func10, Tryd.ntmps10
  obtain ⟨W, hW⟩ : ∃ x, ((w.alloc (.cells T 36)).alloc (.cells (SC k l a o) 25)).alloc (.cells (SC 0 z 0 false) 25) = x := ⟨_, rfl⟩
  obtain ⟨b0, b1, b2, hWs, hWb⟩ := three hW
  have B0 := Away.mk b0
  have B1 := Away.mk b1
  have B2 := Away.mk b2
  have HWs := Away.mk hWs
  have HWb := Away.mk hWb
  have HW := Away.mk hW
  have Si := Away.mk (sc_info k a o H.out.len)
  have So := Away.mk (sc_one k l a o)
  have Sz := Away.mk (sc_same k 0 a 0 o false H.out.len HZl.out)
  obtain ⟨S, HS⟩ := ex_eq (SC k l a o)
  rw [HS.out] at B1 Si So Sz HW Hrt
  clear hWs hWb hW b0 b1 b2
  rw [HS.out]
  go_wp2_with (first
    | (rw [Hz.out, HW.out])
    | (refine wpList_load_row rfl 25 _ rfl (w.heap.size + 1) rfl 25 S (0, 0) _ B1.out Tryd.underlying25 rfl Si.out ?_))
  refine (Hrt.out _).mono ?_
  rintro e w1 ⟨rfl, hb1⟩
  have B1' : Away (w1.heap[w.heap.size + 1]? = some (.cells S 25 (0, 0))) := ⟨(hb1.block _ (by have := HWs.out; omega)).trans B1.out⟩
  have B2' : Away (w1.heap[w.heap.size + 2]? = some (.cells (SC 0 z 0 false) 25 (0, 0))) := ⟨(hb1.block _ (by have := HWs.out; omega)).trans B2.out⟩
  have Hb1 : Away (Below w.heap.size w w1) := ⟨HWb.out.trans (hb1.mono (by have := HWs.out; omega))⟩
  clear hb1
  go_wp2_with (first
    | (refine wpList_load_row rfl 25 _ rfl (w.heap.size + 1) rfl 25 S (0, 0) _ B1'.out Tryd.underlying25 rfl Si.out ?_)
    | (refine wpList_store_row rfl 25 _ _ rfl (w.heap.size + 2) S rfl rfl 25 _ B2'.out Si.out Sz.out.symm So.out ?_))
  refine bodyPost_ret_by (v := .tuple #[.agg S, .string ⟨#[]⟩, .int .i64 1]) (rspc.results_cell_tmp2 rfl _ _ (w.heap.size + 2) 25 _ (0, 0) _ rfl (setRow_heap _ _ _ _ _ _ B2'.out) Tryd.underlying25 rfl Si.out _ _ rfl rfl) rfl ?_
  exact ⟨rfl, Hb1.out.trans (below_setRow _ _ _ (by omega))⟩

set_option maxRecDepth 100000 in
set_option maxHeartbeats 2000000 in
theorem squeeze_far {T : Array Value} {ts rs : List Nat} (k a : Int) (o : Bool) (l : List Nat) (n : Int) (w : World) (h : St l) (hK : KT T ts rs) (hok : ok k a o = true) (hn : n < 0 ∨ 50000 < n) :
    Calls Tryd.prog 10 #[.agg T, .agg (SC k l a o), .int .i64 n] w fun e w' => e = .returned (.tuple #[.agg (SC k l a o), .string ⟨#[]⟩, .int .i64 1]) ∧ Below w.heap.size w w' := by
  have Hrt : Away (∀ w1 : World, Calls Tryd.prog 18 #[.agg (SC k l a o)] w1 fun e w' => e = .returned (.bool true) ∧ Below w1.heap.size w1 w') := ⟨fun w1 => by have h9 := spoi.right_any k a o l w1 h.len; rw [hok] at h9; exact h9⟩
  have HF : Away (∀ w1 : World, Calls Tryd.prog 30 #[.int .i64 n] w1 fun e w' => e = .returned (.bool false) ∧ w' = w1) := ⟨fun w1 => by have h9 := fits_any n w1; rw [decide_eq_false (by omega)] at h9; exact h9⟩
  have H := Away.mk h
  have HK := Away.mk hK
  obtain ⟨z, HZ⟩ := ex_eq Z
  have HZl : Away (z.length = 25) := ⟨by rw [← HZ.out]; rfl⟩
  have Hz : Away ((#[.int .i64 0, .int .u64 0, .int .u64 0, .int .u64 0, .int .u64 0, .int .u64 0, .int .u64 0, .int .u64 0, .int .u64 0, .int .u64 0, .int .u64 0, .int .u64 0, .int .u64 0, .int .u64 0, .int .u64 0, .int .u64 0, .int .u64 0, .int .u64 0, .int .u64 0, .int .u64 0, .int .u64 0, .int .u64 0, .int .u64 0, .int .u64 0, .int .u64 0, .int .u64 0, .int .i64 0, .bool false] : Array Value) = SC 0 z 0 false) := ⟨by rw [← HZ.out]; exact zs_is⟩
  clear h hK HZ
  go_enter Tryd.func10, Tryd.ntmps10
  obtain ⟨W, hW⟩ : ∃ x, ((w.alloc (.cells T 36)).alloc (.cells (SC k l a o) 25)).alloc (.cells (SC 0 z 0 false) 25) = x := ⟨_, rfl⟩
  obtain ⟨b0, b1, b2, hWs, hWb⟩ := three hW
  have B0 := Away.mk b0
  have B1 := Away.mk b1
  have B2 := Away.mk b2
  have HWs := Away.mk hWs
  have HWb := Away.mk hWb
  have HW := Away.mk hW
  have Si := Away.mk (sc_info k a o H.out.len)
  have So := Away.mk (sc_one k l a o)
  have Sz := Away.mk (sc_same k 0 a 0 o false H.out.len HZl.out)
  obtain ⟨S, HS⟩ := ex_eq (SC k l a o)
  rw [HS.out] at B1 Si So Sz HW Hrt
  clear hWs hWb hW b0 b1 b2
  rw [HS.out]
  go_wp2_with (first
    | (rw [Hz.out, HW.out])
    | (refine wpList_load_row rfl 25 _ rfl (w.heap.size + 1) rfl 25 S (0, 0) _ B1.out Tryd.underlying25 rfl Si.out ?_))
  refine (Hrt.out _).mono ?_
  rintro e w1 ⟨rfl, hb1⟩
  have B1' : Away (w1.heap[w.heap.size + 1]? = some (.cells S 25 (0, 0))) := ⟨(hb1.block _ (by have := HWs.out; omega)).trans B1.out⟩
  have B2' : Away (w1.heap[w.heap.size + 2]? = some (.cells (SC 0 z 0 false) 25 (0, 0))) := ⟨(hb1.block _ (by have := HWs.out; omega)).trans B2.out⟩
  have Hb1 : Away (Below w.heap.size w w1) := ⟨HWb.out.trans (hb1.mono (by have := HWs.out; omega))⟩
  clear hb1
  go_wp2_with fail
  refine (HF.out _).mono ?_
  rintro e w2 ⟨rfl, rfl⟩
  go_wp2_with (first
    | (refine wpList_load_row rfl 25 _ rfl (w.heap.size + 1) rfl 25 S (0, 0) _ B1'.out Tryd.underlying25 rfl Si.out ?_)
    | (refine wpList_store_row rfl 25 _ _ rfl (w.heap.size + 2) S rfl rfl 25 _ B2'.out Si.out Sz.out.symm So.out ?_))
  refine bodyPost_ret_by (v := .tuple #[.agg S, .string ⟨#[]⟩, .int .i64 1]) (rspc.results_cell_tmp2 rfl _ _ (w.heap.size + 2) 25 _ (0, 0) _ rfl (setRow_heap _ _ _ _ _ _ B2'.out) Tryd.underlying25 rfl Si.out _ _ rfl rfl) rfl ?_
  exact ⟨rfl, Hb1.out.trans (below_setRow _ _ _ (by omega))⟩

set_option maxRecDepth 100000 in
set_option maxHeartbeats 2000000 in
theorem squeeze_go {T : Array Value} {ts rs : List Nat} (k : Int) (a n : Nat) (l : List Nat) (w : World) (h : St l) (hK : KT T ts rs) (hP : Gp w) (hok : ok k (a : Int) true = true) (hn : n ≤ 50000) :
    Calls Tryd.prog 10 #[.agg T, .agg (SC k l (a : Int) true), .int .i64 (n : Int)] w fun e w' => e = .returned (.tuple #[.agg (SC k (sk (PP ts rs) (rate k) ⟨l, a⟩ n).l ((sk (PP ts rs) (rate k) ⟨l, a⟩ n).at' : Nat) true), .string ⟨(u8s (sq (PP ts rs) (rate k) ⟨l, a⟩ n)).toArray⟩, .int .i64 0]) ∧ Below w.heap.size w w' := by
  have Hrt : Away (∀ w1 : World, Calls Tryd.prog 18 #[.agg (SC k l (a : Int) true)] w1 fun e w' => e = .returned (.bool true) ∧ Below w1.heap.size w1 w') := ⟨fun w1 => by have h9 := spoi.right_any k (a : Int) true l w1 h.len; rw [hok] at h9; exact h9⟩
  have hra := ok_le k a hok
  clear hok
  have HFt : Away (∀ w1 : World, Calls Tryd.prog 30 #[.int .i64 (n : Int)] w1 fun e w' => e = .returned (.bool true) ∧ w' = w1) := ⟨fun w1 => by have h9 := fits_any (n : Int) w1; rw [decide_eq_true (by omega)] at h9; exact h9⟩
  have H := Away.mk h
  have HK := Away.mk hK
  obtain ⟨z, HZ⟩ := ex_eq Z
  have HZl : Away (z.length = 25) := ⟨by rw [← HZ.out]; rfl⟩
  have Hz : Away ((#[.int .i64 0, .int .u64 0, .int .u64 0, .int .u64 0, .int .u64 0, .int .u64 0, .int .u64 0, .int .u64 0, .int .u64 0, .int .u64 0, .int .u64 0, .int .u64 0, .int .u64 0, .int .u64 0, .int .u64 0, .int .u64 0, .int .u64 0, .int .u64 0, .int .u64 0, .int .u64 0, .int .u64 0, .int .u64 0, .int .u64 0, .int .u64 0, .int .u64 0, .int .u64 0, .int .i64 0, .bool false] : Array Value) = SC 0 z 0 false) := ⟨by rw [← HZ.out]; exact zs_is⟩
  clear h hK HZ
  have HP := Away.mk hP
  have hgl := gp_lt hP
  clear hP
  obtain ⟨E, HE⟩ := ex_eq (sk (PP ts rs) (rate k) ⟨l, a⟩ n)
  obtain ⟨bs, Hbs⟩ := ex_eq (⟨(u8s (sq (PP ts rs) (rate k) ⟨l, a⟩ n)).toArray⟩ : ByteArray)
  have HEs : Away (St E.l) := ⟨by rw [← HE.out]; exact (sk_ok (fun _ h => pp_st HK.out.br h) (by omega) H.out hra.1 n).1⟩
  have HC : Away (∀ (gt gs : Nat) (w1 : World), Gp w1 → w1.heap[gt]? = some (.cells T 36 (0, 0)) → gt ≠ gs → gs ≠ 0 → w1.heap[gs]? = some (.cells (SC k l (a : Int) true) 25 (0, 0)) → Calls Tryd.prog 31 #[.pointer (some ⟨gt, 0, none⟩), .pointer (some ⟨gs, 0, none⟩), .int .i64 (n : Int)] w1 fun e w' => e = .returned (.string bs) ∧ At gs (SC k E.l (E.at' : Int) true) 25 w1 w') :=
    ⟨fun gt gs w1 hP hT hne hgp hrow => by rw [← HE.out, ← Hbs.out]; exact spog.squeeze_out gt gs k a n l w1 H.out HK.out hP hT hne hgp hra.2 hra.1 hn hrow⟩
  rw [HE.out, Hbs.out]
  clear hra HE Hbs
  go_enter Tryd.func10, Tryd.ntmps10
  obtain ⟨W, hW⟩ : ∃ x, ((w.alloc (.cells T 36)).alloc (.cells (SC k l (a : Int) true) 25)).alloc (.cells (SC 0 z 0 false) 25) = x := ⟨_, rfl⟩
  obtain ⟨b0, b1, b2, hWs, hWb⟩ := three hW
  have B0 := Away.mk b0
  have B1 := Away.mk b1
  have B2 := Away.mk b2
  have HWs := Away.mk hWs
  have HWb := Away.mk hWb
  have HW := Away.mk hW
  have Si := Away.mk (sc_info k (a : Int) true H.out.len)
  have So := Away.mk (sc_one k l (a : Int) true)
  have Sz := Away.mk (sc_same k 0 (a : Int) 0 true false H.out.len HZl.out)
  obtain ⟨S, HS⟩ := ex_eq (SC k l (a : Int) true)
  rw [HS.out] at B1 Si So Sz HW Hrt
  clear hWs hWb hW b0 b1 b2
  rw [HS.out]
  go_wp2_with (first
    | (rw [Hz.out, HW.out])
    | (refine wpList_load_row rfl 25 _ rfl (w.heap.size + 1) rfl 25 S (0, 0) _ B1.out Tryd.underlying25 rfl Si.out ?_))
  refine (Hrt.out _).mono ?_
  rintro e w1 ⟨rfl, hb1⟩
  have B1' : Away (w1.heap[w.heap.size + 1]? = some (.cells S 25 (0, 0))) := ⟨(hb1.block _ (by have := HWs.out; omega)).trans B1.out⟩
  have B2' : Away (w1.heap[w.heap.size + 2]? = some (.cells (SC 0 z 0 false) 25 (0, 0))) := ⟨(hb1.block _ (by have := HWs.out; omega)).trans B2.out⟩
  have Hb1 : Away (Below w.heap.size w w1) := ⟨HWb.out.trans (hb1.mono (by have := HWs.out; omega))⟩
  have B0' : w1.heap[w.heap.size]? = some (.cells T 36 (0, 0)) := (hb1.block _ (by have := HWs.out; omega)).trans B0.out
  have HC1 := Away.mk (HC.out w.heap.size (w.heap.size + 1) w1 (HP.out.later Hb1.out) B0' (by omega) (by omega) (by rw [HS.out]; exact B1'.out))
  have hs1 : w.heap.size + 2 < w1.heap.size := lt_of_row B2'.out
  clear hb1 B0' HC
  go_wp2_with fail
  refine (HFt.out _).mono ?_
  rintro e w2 ⟨rfl, rfl⟩
  go_wp2_with fail
  refine HC1.out.mono ?_
  rintro e w2 ⟨rfl, h2⟩
  obtain ⟨F, HF⟩ := ex_eq (SC k E.l (E.at' : Int) true)
  have Fi : Away ((Tryd.prog.info? 25).map (·.size) = some F.size) := ⟨by rw [← HF.out]; exact sc_info k _ _ HEs.out.len⟩
  have Fo : Away (F.all (·.oneCell') = true) := ⟨by rw [← HF.out]; exact sc_one k E.l _ _⟩
  have Fz : Away ((SC 0 z 0 false).size = F.size) := ⟨by rw [← HF.out]; exact sc_same _ _ _ _ _ _ HZl.out HEs.out.len⟩
  rw [HF.out] at h2
  have Hrow := Away.mk h2.row
  have Hres : Away (w2.heap[w.heap.size + 2]? = some (.cells (SC 0 z 0 false) 25 (0, 0))) := ⟨h2.other hs1 (by omega) B2'.out⟩
  have Hb5 : Away (Below w.heap.size w w2) := ⟨Hb1.out.trans (h2.below (by omega) (by omega))⟩
  clear h2 HC1
  go_wp2_with (first
    | (refine wpList_load_row rfl 25 _ rfl (w.heap.size + 1) rfl 25 F (0, 0) _ Hrow.out Tryd.underlying25 rfl Fi.out ?_)
    | (refine wpList_store_row rfl 25 _ _ rfl (w.heap.size + 2) F rfl rfl 25 _ Hres.out Fi.out Fz.out Fo.out ?_))
  refine bodyPost_ret_by (v := .tuple #[.agg F, .string bs, .int .i64 0]) (rspc.results_cell_tmp2 rfl _ _ (w.heap.size + 2) 25 _ (0, 0) _ rfl (setRow_heap _ _ _ _ _ _ Hres.out) Tryd.underlying25 rfl Fi.out _ _ rfl rfl) rfl ?_
  exact ⟨by rw [← HF.out], Hb5.out.trans (below_setRow _ _ _ (by omega))⟩

set_option maxRecDepth 100000 in
set_option maxHeartbeats 2000000 in
theorem squeeze_pad {T : Array Value} {ts rs : List Nat} (k : Int) (a n : Nat) (l : List Nat) (w : World) (h : St l) (hK : KT T ts rs) (hP : Gp w) (hok : ok k (a : Int) false = true) (hn : n ≤ 50000) :
    Calls Tryd.prog 10 #[.agg T, .agg (SC k l (a : Int) false), .int .i64 (n : Int)] w fun e w' => e = .returned (.tuple #[.agg (SC k (sk (PP ts rs) (rate k) (pad (rate k) (spgm.mark k) ⟨l, a⟩) n).l ((sk (PP ts rs) (rate k) (pad (rate k) (spgm.mark k) ⟨l, a⟩) n).at' : Nat) true), .string ⟨(u8s (sq (PP ts rs) (rate k) (pad (rate k) (spgm.mark k) ⟨l, a⟩) n)).toArray⟩, .int .i64 0]) ∧ Below w.heap.size w w' := by
  have Hrt : Away (∀ w1 : World, Calls Tryd.prog 18 #[.agg (SC k l (a : Int) false)] w1 fun e w' => e = .returned (.bool true) ∧ Below w1.heap.size w1 w') := ⟨fun w1 => by have h9 := spoi.right_any k (a : Int) false l w1 h.len; rw [hok] at h9; exact h9⟩
  have hra := ok_lt k a hok
  clear hok
  have HFt : Away (∀ w1 : World, Calls Tryd.prog 30 #[.int .i64 (n : Int)] w1 fun e w' => e = .returned (.bool true) ∧ w' = w1) := ⟨fun w1 => by have h9 := fits_any (n : Int) w1; rw [decide_eq_true (by omega)] at h9; exact h9⟩
  have H := Away.mk h
  have HK := Away.mk hK
  obtain ⟨z, HZ⟩ := ex_eq Z
  have HZl : Away (z.length = 25) := ⟨by rw [← HZ.out]; rfl⟩
  have Hz : Away ((#[.int .i64 0, .int .u64 0, .int .u64 0, .int .u64 0, .int .u64 0, .int .u64 0, .int .u64 0, .int .u64 0, .int .u64 0, .int .u64 0, .int .u64 0, .int .u64 0, .int .u64 0, .int .u64 0, .int .u64 0, .int .u64 0, .int .u64 0, .int .u64 0, .int .u64 0, .int .u64 0, .int .u64 0, .int .u64 0, .int .u64 0, .int .u64 0, .int .u64 0, .int .u64 0, .int .i64 0, .bool false] : Array Value) = SC 0 z 0 false) := ⟨by rw [← HZ.out]; exact zs_is⟩
  clear h hK HZ
  have HP := Away.mk hP
  have hgl := gp_lt hP
  clear hP
  obtain ⟨E, HE⟩ := ex_eq (sk (PP ts rs) (rate k) (pad (rate k) (spgm.mark k) ⟨l, a⟩) n)
  obtain ⟨bs, Hbs⟩ := ex_eq (⟨(u8s (sq (PP ts rs) (rate k) (pad (rate k) (spgm.mark k) ⟨l, a⟩) n)).toArray⟩ : ByteArray)
  have HEs : Away (St E.l) := ⟨by rw [← HE.out]; exact (sk_ok (fun _ h => pp_st HK.out.br h) (by omega) (pad_ok (s := ⟨l, a⟩) H.out).1 (pad_ok (s := ⟨l, a⟩) H.out).2 n).1⟩
  have HC : Away (∀ (gt gs : Nat) (w1 : World), Gp w1 → w1.heap[gt]? = some (.cells T 36 (0, 0)) → gt ≠ gs → gs ≠ 0 → w1.heap[gs]? = some (.cells (SC k l (a : Int) false) 25 (0, 0)) → Calls Tryd.prog 31 #[.pointer (some ⟨gt, 0, none⟩), .pointer (some ⟨gs, 0, none⟩), .int .i64 (n : Int)] w1 fun e w' => e = .returned (.string bs) ∧ At gs (SC k E.l (E.at' : Int) true) 25 w1 w') :=
    ⟨fun gt gs w1 hP hT hne hgp hrow => by rw [← HE.out, ← Hbs.out]; exact spoh.squeeze_pad gt gs k a n l w1 H.out HK.out hP hT hne hgp (by omega) hra hn hrow⟩
  rw [HE.out, Hbs.out]
  clear hra HE Hbs
  go_enter Tryd.func10, Tryd.ntmps10
  obtain ⟨W, hW⟩ : ∃ x, ((w.alloc (.cells T 36)).alloc (.cells (SC k l (a : Int) false) 25)).alloc (.cells (SC 0 z 0 false) 25) = x := ⟨_, rfl⟩
  obtain ⟨b0, b1, b2, hWs, hWb⟩ := three hW
  have B0 := Away.mk b0
  have B1 := Away.mk b1
  have B2 := Away.mk b2
  have HWs := Away.mk hWs
  have HWb := Away.mk hWb
  have HW := Away.mk hW
  have Si := Away.mk (sc_info k (a : Int) false H.out.len)
  have So := Away.mk (sc_one k l (a : Int) false)
  have Sz := Away.mk (sc_same k 0 (a : Int) 0 false false H.out.len HZl.out)
  obtain ⟨S, HS⟩ := ex_eq (SC k l (a : Int) false)
  rw [HS.out] at B1 Si So Sz HW Hrt
  clear hWs hWb hW b0 b1 b2
  rw [HS.out]
  go_wp2_with (first
    | (rw [Hz.out, HW.out])
    | (refine wpList_load_row rfl 25 _ rfl (w.heap.size + 1) rfl 25 S (0, 0) _ B1.out Tryd.underlying25 rfl Si.out ?_))
  refine (Hrt.out _).mono ?_
  rintro e w1 ⟨rfl, hb1⟩
  have B1' : Away (w1.heap[w.heap.size + 1]? = some (.cells S 25 (0, 0))) := ⟨(hb1.block _ (by have := HWs.out; omega)).trans B1.out⟩
  have B2' : Away (w1.heap[w.heap.size + 2]? = some (.cells (SC 0 z 0 false) 25 (0, 0))) := ⟨(hb1.block _ (by have := HWs.out; omega)).trans B2.out⟩
  have Hb1 : Away (Below w.heap.size w w1) := ⟨HWb.out.trans (hb1.mono (by have := HWs.out; omega))⟩
  have B0' : w1.heap[w.heap.size]? = some (.cells T 36 (0, 0)) := (hb1.block _ (by have := HWs.out; omega)).trans B0.out
  have HC1 := Away.mk (HC.out w.heap.size (w.heap.size + 1) w1 (HP.out.later Hb1.out) B0' (by omega) (by omega) (by rw [HS.out]; exact B1'.out))
  have hs1 : w.heap.size + 2 < w1.heap.size := lt_of_row B2'.out
  clear hb1 B0' HC
  go_wp2_with fail
  refine (HFt.out _).mono ?_
  rintro e w2 ⟨rfl, rfl⟩
  go_wp2_with fail
  refine HC1.out.mono ?_
  rintro e w2 ⟨rfl, h2⟩
  obtain ⟨F, HF⟩ := ex_eq (SC k E.l (E.at' : Int) true)
  have Fi : Away ((Tryd.prog.info? 25).map (·.size) = some F.size) := ⟨by rw [← HF.out]; exact sc_info k _ _ HEs.out.len⟩
  have Fo : Away (F.all (·.oneCell') = true) := ⟨by rw [← HF.out]; exact sc_one k E.l _ _⟩
  have Fz : Away ((SC 0 z 0 false).size = F.size) := ⟨by rw [← HF.out]; exact sc_same _ _ _ _ _ _ HZl.out HEs.out.len⟩
  rw [HF.out] at h2
  have Hrow := Away.mk h2.row
  have Hres : Away (w2.heap[w.heap.size + 2]? = some (.cells (SC 0 z 0 false) 25 (0, 0))) := ⟨h2.other hs1 (by omega) B2'.out⟩
  have Hb5 : Away (Below w.heap.size w w2) := ⟨Hb1.out.trans (h2.below (by omega) (by omega))⟩
  clear h2 HC1
  go_wp2_with (first
    | (refine wpList_load_row rfl 25 _ rfl (w.heap.size + 1) rfl 25 F (0, 0) _ Hrow.out Tryd.underlying25 rfl Fi.out ?_)
    | (refine wpList_store_row rfl 25 _ _ rfl (w.heap.size + 2) F rfl rfl 25 _ Hres.out Fi.out Fz.out Fo.out ?_))
  refine bodyPost_ret_by (v := .tuple #[.agg F, .string bs, .int .i64 0]) (rspc.results_cell_tmp2 rfl _ _ (w.heap.size + 2) 25 _ (0, 0) _ rfl (setRow_heap _ _ _ _ _ _ Hres.out) Tryd.underlying25 rfl Fi.out _ _ rfl rfl) rfl ?_
  exact ⟨by rw [← HF.out], Hb5.out.trans (below_setRow _ _ _ (by omega))⟩

end Go.Proofs.YtpibnfpgokjnpaaDoor.spoj
