/-
  The statement MacSays (P4.1 to P4.4): hashes, HMAC and masks of any strings, with either hash function, and cutting, agree with the reference. Conditions: none; for every input that the form speaks of.
-/
import Derived.Test.YthfljfampfioaaaRows
import Derived.Test.YthfljfampfioaaaAwake4
import Derived.Test.YthfljfampfioaaaBase
import Derived.Test.YthfljfampfioaaaRMac
import Derived.Test.YthfljfampfioaaaRTM
import Derived.ShutString
import Derived.SizedLaws
import Derived.ProofKit
import Derived.OpenShut
import Derived.Carry
namespace Go.Proofs.Ythfljfampfioaaa.lmacs
open Go.ChangeShapes Go.WideShapes Go.ChangeAt Go.RowKit
open Go.ChangeMaps (open_string shut_string)
open Go.Proofs.Ythfljfampfioaaa.oct Go.Proofs.Ythfljfampfioaaa.qops Go.Proofs.Ythfljfampfioaaa.arr Go.Proofs.Ythfljfampfioaaa.mem Go.Proofs.Ythfljfampfioaaa.tabv Go.Proofs.Ythfljfampfioaaa.built Go.Proofs.Ythfljfampfioaaa.hashs Go.Proofs.Ythfljfampfioaaa.macm
set_option linter.unusedVariables false
theorem own : ownKnob Try.prog.godebug = none := by kernel_rfl
theorem laidOut : laidOutB Try.prog = true := by kernel_rfl

set_option maxRecDepth 100000 in
set_option maxHeartbeats 2000000 in
theorem far1 (key s : ByteArray) (n : Int) (w : World) (k1 : key.size ≤ 1125899906842624) (k2 : s.size ≤ 1125899906842624) (h : 2000 < key.size + s.size) :
    Calls Try.prog 3 #[.string key, .string s, .int .i64 n] w fun e w' => e = .returned (.bool true) ∧ Below w.heap.size w w' := by
  have hz : (2000 : Int) < (key.size : Int) + (s.size : Int) := by omega
  go_enter Try.func3, Try.ntmps3
  go_wp2_with fail
  refine (awake4.live_any _).mono ?_
  rintro e w3 ⟨rfl, hb⟩
  go_wp2_with fail
  go_ret
  exact ⟨rfl, hb⟩
set_option maxRecDepth 100000 in
set_option maxHeartbeats 2000000 in
theorem far2 (key s : ByteArray) (n : Int) (w : World) (k1 : key.size ≤ 1125899906842624) (k2 : s.size ≤ 1125899906842624) (h0 : key.size + s.size ≤ 2000) (h : 2000 < n) :
    Calls Try.prog 3 #[.string key, .string s, .int .i64 n] w fun e w' => e = .returned (.bool true) ∧ Below w.heap.size w w' := by
  have hz : (key.size : Int) + (s.size : Int) ≤ 2000 := by omega
  go_enter Try.func3, Try.ntmps3
  go_wp2_with fail
  refine (awake4.live_any _).mono ?_
  rintro e w3 ⟨rfl, hb⟩
  go_wp2_with fail
  go_ret
  exact ⟨rfl, hb⟩
set_option maxRecDepth 100000 in
set_option maxHeartbeats 4000000 in
theorem near (key s : ByteArray) (n : Int) (w : World) (hks : key.size + s.size ≤ 2000) (hn : n ≤ 2000) :
    Calls Try.prog 3 #[.string key, .string s, .int .i64 n] w fun e w' => e = .returned (.bool true) ∧ Below w.heap.size w w' := by
  obtain ⟨hz, hsize⟩ := zero_of_info infoT
  obtain ⟨Z, HZ⟩ := ex_eq TZ
  rw [HZ.out] at hz
  have HZs : Away (Z.size = 465) := ⟨by rw [← HZ.out]; exact tz_size⟩
  have Hsize := Away.mk hsize
  clear hsize
  have htx := awake4.tx_doc
  obtain ⟨T, HT⟩ := ex_eq TA
  rw [HT.out] at htx
  have HTs : Away (T.size = 465) := ⟨htx.size⟩
  have HTo : Away (T.all (·.oneCell') = true) := ⟨htx.one⟩
  have Hmk : Away (∀ w1 : World, Calls Try.prog 8 #[] w1 fun e w' => e = .returned (.agg T) ∧ Below w1.heap.size w1 w') := ⟨fun w1 => by rw [← HT.out]; exact rmake.make_any w1⟩
  obtain ⟨Xf, hXf⟩ : ∃ A : ByteArray, (⟨(hx wx false s.data.toList).toArray⟩ : ByteArray) = A := ⟨_, rfl⟩
  obtain ⟨Yf, hYf⟩ : ∃ A : ByteArray, (⟨(hm wx false key.data.toList s.data.toList).toArray⟩ : ByteArray) = A := ⟨_, rfl⟩
  obtain ⟨Zf, hZf⟩ : ∃ A : ByteArray, (⟨(ms wx false s.data.toList n).toArray⟩ : ByteArray) = A := ⟨_, rfl⟩
  have HAf : Away (∀ w1 : World, Calls Try.prog 9 #[.agg T, .bool false, .string s] w1 fun e w' => e = .returned (.string Xf) ∧ Below w1.heap.size w1 w') := ⟨fun w1 => by rw [← hXf]; exact mach.hash_any T wx false s w1 htx (by omega)⟩
  have HBf : Away (∀ w1 : World, Calls Try.prog 10 #[.agg T, .bool false, .string s] w1 fun e w' => e = .returned (.string Xf) ∧ Below w1.heap.size w1 w') := ⟨fun w1 => by rw [← hXf]; exact rmach.rhash_any T wx false s w1 htx (by omega)⟩
  have HCf : Away (∀ w1 : World, Calls Try.prog 11 #[.agg T, .bool false, .string key, .string s] w1 fun e w' => e = .returned (.string Yf) ∧ Below w1.heap.size w1 w') := ⟨fun w1 => by rw [← hYf]; exact hmac.hmac_any T wx false key s w1 htx (by omega) (by omega)⟩
  have HDf : Away (∀ w1 : World, Calls Try.prog 12 #[.agg T, .bool false, .string key, .string s] w1 fun e w' => e = .returned (.string Yf) ∧ Below w1.heap.size w1 w') := ⟨fun w1 => by rw [← hYf]; exact rhmac.hmac_any T wx false key s w1 htx (by omega) (by omega)⟩
  have HEf : Away (∀ w1 : World, Calls Try.prog 13 #[.agg T, .bool false, .string s, .int .i64 n] w1 fun e w' => e = .returned (.string Zf) ∧ Below w1.heap.size w1 w') := ⟨fun w1 => by rw [← hZf]; exact mask.mask_any T wx false s n w1 htx (by omega)⟩
  have HFf : Away (∀ w1 : World, Calls Try.prog 14 #[.agg T, .bool false, .string s, .int .i64 n] w1 fun e w' => e = .returned (.string Zf) ∧ Below w1.heap.size w1 w') := ⟨fun w1 => by rw [← hZf]; exact rmask.mask_any T wx false s n w1 htx (by omega)⟩
  clear hXf hYf hZf
  obtain ⟨Xt, hXt⟩ : ∃ A : ByteArray, (⟨(hx wx true s.data.toList).toArray⟩ : ByteArray) = A := ⟨_, rfl⟩
  obtain ⟨Yt, hYt⟩ : ∃ A : ByteArray, (⟨(hm wx true key.data.toList s.data.toList).toArray⟩ : ByteArray) = A := ⟨_, rfl⟩
  obtain ⟨Zt, hZt⟩ : ∃ A : ByteArray, (⟨(ms wx true s.data.toList n).toArray⟩ : ByteArray) = A := ⟨_, rfl⟩
  have HAt : Away (∀ w1 : World, Calls Try.prog 9 #[.agg T, .bool true, .string s] w1 fun e w' => e = .returned (.string Xt) ∧ Below w1.heap.size w1 w') := ⟨fun w1 => by rw [← hXt]; exact mach.hash_any T wx true s w1 htx (by omega)⟩
  have HBt : Away (∀ w1 : World, Calls Try.prog 10 #[.agg T, .bool true, .string s] w1 fun e w' => e = .returned (.string Xt) ∧ Below w1.heap.size w1 w') := ⟨fun w1 => by rw [← hXt]; exact rmach.rhash_any T wx true s w1 htx (by omega)⟩
  have HCt : Away (∀ w1 : World, Calls Try.prog 11 #[.agg T, .bool true, .string key, .string s] w1 fun e w' => e = .returned (.string Yt) ∧ Below w1.heap.size w1 w') := ⟨fun w1 => by rw [← hYt]; exact hmac.hmac_any T wx true key s w1 htx (by omega) (by omega)⟩
  have HDt : Away (∀ w1 : World, Calls Try.prog 12 #[.agg T, .bool true, .string key, .string s] w1 fun e w' => e = .returned (.string Yt) ∧ Below w1.heap.size w1 w') := ⟨fun w1 => by rw [← hYt]; exact rhmac.hmac_any T wx true key s w1 htx (by omega) (by omega)⟩
  have HEt : Away (∀ w1 : World, Calls Try.prog 13 #[.agg T, .bool true, .string s, .int .i64 n] w1 fun e w' => e = .returned (.string Zt) ∧ Below w1.heap.size w1 w') := ⟨fun w1 => by rw [← hZt]; exact mask.mask_any T wx true s n w1 htx (by omega)⟩
  have HFt : Away (∀ w1 : World, Calls Try.prog 14 #[.agg T, .bool true, .string s, .int .i64 n] w1 fun e w' => e = .returned (.string Zt) ∧ Below w1.heap.size w1 w') := ⟨fun w1 => by rw [← hZt]; exact rmask.mask_any T wx true s n w1 htx (by omega)⟩
  clear hXt hYt hZt
  obtain ⟨U, hU⟩ : ∃ U : ByteArray, (⟨(s.data.toList.take n.toNat).toArray⟩ : ByteArray) = U := ⟨_, rfl⟩
  have HU : Away (∀ w1 : World, Calls Try.prog 15 #[.string s, .int .i64 n] w1 fun e w' => e = .returned (.string U) ∧ Below w1.heap.size w1 w') := ⟨fun w1 => by rw [← hU]; exact cut.cut_any s n w1 (by omega)⟩
  have HV : Away (∀ w1 : World, Calls Try.prog 16 #[.string s, .int .i64 n] w1 fun e w' => e = .returned (.string U) ∧ w' = w1) := ⟨fun w1 => by rw [← hU]; exact cut.rcut_any s n w1 (by omega)⟩
  have hks2 : (key.size : Int) + (s.size : Int) ≤ 2000 := by omega
  have kz : key.size ≤ 2000 := by omega
  have sz : s.size ≤ 2000 := by omega
  clear hU htx HT HZ
  go_enter Try.func3, Try.ntmps3
  go_wp2_with fail
  refine (Hmk.out _).mono ?_
  rintro e w1 ⟨rfl, hb1⟩
  go_wp2_with (refine wpList_store_new rfl 33 _ _ rfl _ rfl rfl (by rw [HTs.out]; exact Hsize.out) (by rw [HTs.out]; exact HZs.out) HTo.out rfl ?_)
  clear hz
  obtain ⟨W, hW⟩ : ∃ W, (w1.alloc (.cells T 33)).alloc (.cells #[.bool false, .bool true] 4) = W := ⟨_, rfl⟩
  have hg0 : W.heap[w1.heap.size]? = some (.cells T 33 (0, 0)) := by rw [← hW, heap_past _ _ _ (by simp), heap_at _ _ _ rfl]
  have hg1 : W.heap[w1.heap.size + 1]? = some (.cells #[.bool false, .bool true] 4 (0, 0)) := by rw [← hW, heap_at _ _ _ (by simp)]
  have Hb : Away (Below w.heap.size w W) := ⟨by rw [← hW]; exact (hb1.alloc hb1.size _).alloc (by have := hb1.size; simp; omega) _⟩
  have Hg0 := Away.mk hg0
  have Hg1 := Away.mk hg1
  rw [hW]
  clear hW hb1 hg0 hg1
  go_loopw [24] (fun i wr => (i = .int .i64 0 ∨ i = .int .i64 1 ∨ i = .int .i64 2) ∧ Away (Below W.heap.size W wr)) (fun i _ => 2 - (intOf i).toNat)
  case atStart => exact ⟨Or.inl rfl, ⟨Below.refl _ _⟩⟩
  case round =>
    obtain ⟨hi, Hbe⟩ := hrel
    have F0 : Away (wr.heap[w1.heap.size]? = some (.cells T 33 (0, 0))) := ⟨(Hbe.out.block _ (lt_of_row Hg0.out)).trans Hg0.out⟩
    have f1 := (Hbe.out.block _ (lt_of_row Hg1.out)).trans Hg1.out
    have c0 : wr.cell? ⟨w1.heap.size + 1, 0, none⟩ = some (.bool false) := (cell_of_row wr _ 0 _ _ (0, 0) f1).trans rfl
    have c1 : wr.cell? ⟨w1.heap.size + 1, 1, none⟩ = some (.bool true) := (cell_of_row wr _ 1 _ _ (0, 0) f1).trans rfl
    clear f1
    rcases hi with rfl | rfl | rfl
    · clear c1
      go_wp2_with fail
      refine region_quiet_ops (by kernel_rfl) (by kernel_rfl) (fun ops HO => ?_)
      refine wpQuiet_load rfl 33 _ rfl _ rfl 33 _ _ (fun w' hC => heap_regrown F0.out hC) Try.underlying33 rfl (by rw [HTs.out]; exact sizeT) ?_
      quiet_step (skip)
      quiet_step (skip)
      quiet_step (exact Calls.regrown_of (HAf.out _))
      refine wpQuiet_load rfl 33 _ rfl _ rfl 33 _ _ (fun w' hC => heap_regrown F0.out hC) Try.underlying33 rfl (by rw [HTs.out]; exact sizeT) ?_
      quiet_step (skip)
      quiet_step (skip)
      quiet_step (exact Calls.regrown_of (HBf.out _))
      quiet_step (skip)
      quiet_step (skip)
      refine wpQuiet_load (by rw [← HO.out]; kernel_rfl) 33 _ rfl _ rfl 33 _ _ (fun w' hC => heap_regrown F0.out hC) Try.underlying33 rfl (by rw [HTs.out]; exact sizeT) ?_
      refine wpQuiet_want (by rw [← HO.out]; kernel_rfl) (fun K hK => ?_)
      go_simp
      refine hK _ ?_
      clear hK K
      refine wpQuiet_want (by rw [← HO.out]; kernel_rfl) (fun K hK => ?_)
      go_simp
      refine hK _ ?_
      clear hK K
      refine wpQuiet_want (by rw [← HO.out]; kernel_rfl) (fun K hK => ?_)
      go_simp
      refine hK _ ?_
      clear hK K
      refine wpQuiet_want (by rw [← HO.out]; kernel_rfl) (fun K hK => ?_)
      go_simp
      apply Exists.intro
      refine ⟨fun _ => ?_, hK _ ?_⟩
      exact Calls.regrown_of (HCf.out _)
      clear hK K
      refine wpQuiet_load (by rw [← HO.out]; kernel_rfl) 33 _ rfl _ rfl 33 _ _ (fun w' hC => heap_regrown F0.out hC) Try.underlying33 rfl (by rw [HTs.out]; exact sizeT) ?_
      refine wpQuiet_want (by rw [← HO.out]; kernel_rfl) (fun K hK => ?_)
      go_simp
      refine hK _ ?_
      clear hK K
      refine wpQuiet_want (by rw [← HO.out]; kernel_rfl) (fun K hK => ?_)
      go_simp
      refine hK _ ?_
      clear hK K
      refine wpQuiet_want (by rw [← HO.out]; kernel_rfl) (fun K hK => ?_)
      go_simp
      refine hK _ ?_
      clear hK K
      refine wpQuiet_want (by rw [← HO.out]; kernel_rfl) (fun K hK => ?_)
      go_simp
      apply Exists.intro
      refine ⟨fun _ => ?_, hK _ ?_⟩
      exact Calls.regrown_of (HDf.out _)
      clear hK K
      refine wpQuiet_want (by rw [← HO.out]; kernel_rfl) (fun K hK => ?_)
      go_simp
      refine hK _ ?_
      clear hK K
      quiet_step (skip)
      quiet_step (skip)
      refine wpQuiet_load (by rw [← HO.out]; kernel_rfl) 33 _ rfl _ rfl 33 _ _ (fun w' hC => heap_regrown F0.out hC) Try.underlying33 rfl (by rw [HTs.out]; exact sizeT) ?_
      refine wpQuiet_want (by rw [← HO.out]; kernel_rfl) (fun K hK => ?_)
      go_simp
      refine hK _ ?_
      clear hK K
      refine wpQuiet_want (by rw [← HO.out]; kernel_rfl) (fun K hK => ?_)
      go_simp
      refine hK _ ?_
      clear hK K
      refine wpQuiet_want (by rw [← HO.out]; kernel_rfl) (fun K hK => ?_)
      go_simp
      refine hK _ ?_
      clear hK K
      refine wpQuiet_want (by rw [← HO.out]; kernel_rfl) (fun K hK => ?_)
      go_simp
      apply Exists.intro
      refine ⟨fun _ => ?_, hK _ ?_⟩
      exact Calls.regrown_of (HEf.out _)
      clear hK K
      refine wpQuiet_load (by rw [← HO.out]; kernel_rfl) 33 _ rfl _ rfl 33 _ _ (fun w' hC => heap_regrown F0.out hC) Try.underlying33 rfl (by rw [HTs.out]; exact sizeT) ?_
      refine wpQuiet_want (by rw [← HO.out]; kernel_rfl) (fun K hK => ?_)
      go_simp
      refine hK _ ?_
      clear hK K
      refine wpQuiet_want (by rw [← HO.out]; kernel_rfl) (fun K hK => ?_)
      go_simp
      refine hK _ ?_
      clear hK K
      refine wpQuiet_want (by rw [← HO.out]; kernel_rfl) (fun K hK => ?_)
      go_simp
      refine hK _ ?_
      clear hK K
      refine wpQuiet_want (by rw [← HO.out]; kernel_rfl) (fun K hK => ?_)
      go_simp
      apply Exists.intro
      refine ⟨fun _ => ?_, hK _ ?_⟩
      exact Calls.regrown_of (HFf.out _)
      clear hK K
      refine wpQuiet_want (by rw [← HO.out]; kernel_rfl) (fun K hK => ?_)
      go_simp
      refine hK _ ?_
      clear hK K
      quiet_step (skip)
      refine wpQuiet_nil ?_
      intro w3 hC
      have hb3 : Below wr.heap.size wr w3 := by
        obtain ⟨pp, rfl⟩ := hC
        exact below_regrown _ _ _
      have Hb3 : Away (Below W.heap.size W w3) := ⟨Hbe.out.trans (hb3.mono Hbe.out.size)⟩
      clear hC hb3
      go_wp2_with fail
      go_roundw
      case rel => exact ⟨Or.inr (Or.inl (by go_num)), ⟨Hb3.out⟩⟩
      case measure => simp [intOf]
    · clear c0
      go_wp2_with fail
      refine region_quiet_ops (by kernel_rfl) (by kernel_rfl) (fun ops HO => ?_)
      refine wpQuiet_load rfl 33 _ rfl _ rfl 33 _ _ (fun w' hC => heap_regrown F0.out hC) Try.underlying33 rfl (by rw [HTs.out]; exact sizeT) ?_
      quiet_step (skip)
      quiet_step (skip)
      quiet_step (exact Calls.regrown_of (HAt.out _))
      refine wpQuiet_load rfl 33 _ rfl _ rfl 33 _ _ (fun w' hC => heap_regrown F0.out hC) Try.underlying33 rfl (by rw [HTs.out]; exact sizeT) ?_
      quiet_step (skip)
      quiet_step (skip)
      quiet_step (exact Calls.regrown_of (HBt.out _))
      quiet_step (skip)
      quiet_step (skip)
      refine wpQuiet_load (by rw [← HO.out]; kernel_rfl) 33 _ rfl _ rfl 33 _ _ (fun w' hC => heap_regrown F0.out hC) Try.underlying33 rfl (by rw [HTs.out]; exact sizeT) ?_
      refine wpQuiet_want (by rw [← HO.out]; kernel_rfl) (fun K hK => ?_)
      go_simp
      refine hK _ ?_
      clear hK K
      refine wpQuiet_want (by rw [← HO.out]; kernel_rfl) (fun K hK => ?_)
      go_simp
      refine hK _ ?_
      clear hK K
      refine wpQuiet_want (by rw [← HO.out]; kernel_rfl) (fun K hK => ?_)
      go_simp
      refine hK _ ?_
      clear hK K
      refine wpQuiet_want (by rw [← HO.out]; kernel_rfl) (fun K hK => ?_)
      go_simp
      apply Exists.intro
      refine ⟨fun _ => ?_, hK _ ?_⟩
      exact Calls.regrown_of (HCt.out _)
      clear hK K
      refine wpQuiet_load (by rw [← HO.out]; kernel_rfl) 33 _ rfl _ rfl 33 _ _ (fun w' hC => heap_regrown F0.out hC) Try.underlying33 rfl (by rw [HTs.out]; exact sizeT) ?_
      refine wpQuiet_want (by rw [← HO.out]; kernel_rfl) (fun K hK => ?_)
      go_simp
      refine hK _ ?_
      clear hK K
      refine wpQuiet_want (by rw [← HO.out]; kernel_rfl) (fun K hK => ?_)
      go_simp
      refine hK _ ?_
      clear hK K
      refine wpQuiet_want (by rw [← HO.out]; kernel_rfl) (fun K hK => ?_)
      go_simp
      refine hK _ ?_
      clear hK K
      refine wpQuiet_want (by rw [← HO.out]; kernel_rfl) (fun K hK => ?_)
      go_simp
      apply Exists.intro
      refine ⟨fun _ => ?_, hK _ ?_⟩
      exact Calls.regrown_of (HDt.out _)
      clear hK K
      refine wpQuiet_want (by rw [← HO.out]; kernel_rfl) (fun K hK => ?_)
      go_simp
      refine hK _ ?_
      clear hK K
      quiet_step (skip)
      quiet_step (skip)
      refine wpQuiet_load (by rw [← HO.out]; kernel_rfl) 33 _ rfl _ rfl 33 _ _ (fun w' hC => heap_regrown F0.out hC) Try.underlying33 rfl (by rw [HTs.out]; exact sizeT) ?_
      refine wpQuiet_want (by rw [← HO.out]; kernel_rfl) (fun K hK => ?_)
      go_simp
      refine hK _ ?_
      clear hK K
      refine wpQuiet_want (by rw [← HO.out]; kernel_rfl) (fun K hK => ?_)
      go_simp
      refine hK _ ?_
      clear hK K
      refine wpQuiet_want (by rw [← HO.out]; kernel_rfl) (fun K hK => ?_)
      go_simp
      refine hK _ ?_
      clear hK K
      refine wpQuiet_want (by rw [← HO.out]; kernel_rfl) (fun K hK => ?_)
      go_simp
      apply Exists.intro
      refine ⟨fun _ => ?_, hK _ ?_⟩
      exact Calls.regrown_of (HEt.out _)
      clear hK K
      refine wpQuiet_load (by rw [← HO.out]; kernel_rfl) 33 _ rfl _ rfl 33 _ _ (fun w' hC => heap_regrown F0.out hC) Try.underlying33 rfl (by rw [HTs.out]; exact sizeT) ?_
      refine wpQuiet_want (by rw [← HO.out]; kernel_rfl) (fun K hK => ?_)
      go_simp
      refine hK _ ?_
      clear hK K
      refine wpQuiet_want (by rw [← HO.out]; kernel_rfl) (fun K hK => ?_)
      go_simp
      refine hK _ ?_
      clear hK K
      refine wpQuiet_want (by rw [← HO.out]; kernel_rfl) (fun K hK => ?_)
      go_simp
      refine hK _ ?_
      clear hK K
      refine wpQuiet_want (by rw [← HO.out]; kernel_rfl) (fun K hK => ?_)
      go_simp
      apply Exists.intro
      refine ⟨fun _ => ?_, hK _ ?_⟩
      exact Calls.regrown_of (HFt.out _)
      clear hK K
      refine wpQuiet_want (by rw [← HO.out]; kernel_rfl) (fun K hK => ?_)
      go_simp
      refine hK _ ?_
      clear hK K
      quiet_step (skip)
      refine wpQuiet_nil ?_
      intro w3 hC
      have hb3 : Below wr.heap.size wr w3 := by
        obtain ⟨pp, rfl⟩ := hC
        exact below_regrown _ _ _
      have Hb3 : Away (Below W.heap.size W w3) := ⟨Hbe.out.trans (hb3.mono Hbe.out.size)⟩
      clear hC hb3
      go_wp2_with fail
      go_roundw
      case rel => exact ⟨Or.inr (Or.inr (by go_num)), ⟨Hb3.out⟩⟩
      case measure => simp [intOf]
    · clear c0 c1
      go_wp2_with fail
      refine (HU.out _).mono ?_
      rintro e w4 ⟨rfl, hb4⟩
      go_wp2_with fail
      refine (HV.out _).mono ?_
      rintro e w5 ⟨rfl, rfl⟩
      have Hb4 : Away (Below W.heap.size W w5) := ⟨Hbe.out.trans (hb4.mono Hbe.out.size)⟩
      clear hb4
      go_wp2_with fail
      refine (awake4.live_any _).mono ?_
      rintro e w6 ⟨rfl, hb6⟩
      have Hb6 : Away (Below w.heap.size w w6) := ⟨Hb.out.trans ((Hb4.out.trans (hb6.mono Hb4.out.size)).mono Hb.out.size)⟩
      clear hb6
      go_wp2_with fail
      go_ret
      exact ⟨rfl, Hb6.out⟩
theorem walk (key s : ByteArray) (n : Int) (w : World) (w0 : key.size ≤ 140737488355328) (w1 : s.size ≤ 140737488355328) (w2 : (Lit.int .i64 n).wf = true) :
    Calls Try.prog 3 #[.string key, .string s, .int .i64 n] w fun e w' => e = .returned (.bool true) ∧ Below w.heap.size w w' := by
  by_cases h : 2000 < key.size + s.size
  · exact far1 key s n w (by omega) (by omega) h
  by_cases h2 : 2000 < n
  · exact far2 key s n w (by omega) (by omega) (by omega) h2
  · exact near key s n w (by omega) (by omega)

/-! ### The row -/
set_option maxRecDepth 100000 in
theorem lifted (os : Os) (started : os.Started) (H : Type) (enc : TypeId × Value → H) :
    ReturnsInHanded {} Try.checked os 3 .any (Rows.macSaysSpec.pre6 enc Try.prog Try.f3 Rows.macSaysRow.domain false) (Rows.macSaysSpec.post enc Try.prog Try.f3 false true false false) := by
  refine returnsInHanded_of_change_sized (C := Try.checked) own started (by kernel_rfl) Try.func3
    (ChangeSpec.witness6 (enc := enc) (C := Try.checked) false ⟨#[], #[.string ByteArray.empty, .string ByteArray.empty, .int .i64 0], []⟩ 8 (by kernel_rfl) (by kernel_rfl) (by kernel_rfl) (by kernel_rfl)) ?_
  intro W base args ds gs before hval0 hW hcnd hsz _
  have hval : ∀ (j : Nat) t v, Try.f3.params[j]? = some t → args[j]? = some v → Value.okWide Try.prog W .any base t v := hval0
  have hW' := hW
  have hlt := hW.lt
  obtain ⟨p, q, hA0, hV, rfl, hfz, hnd⟩ := hW
  have hA : DataW.TrodAll enc Try.prog W 0 (fun _ => true) true Try.f3.params.toList args.toList ds p := hA0
  rw [Try.params3] at hA hval
  obtain ⟨v0, vs0, d0, ds0, p0, q0, hargs, rfl, rfl, h0, r0⟩ := trodAll_cons hA
  obtain ⟨v1, vs1, d1, ds1, p1, q1, rfl, rfl, rfl, h1, r1⟩ := trodAll_cons r0
  obtain ⟨v2, vs2, d2, ds2, p2, q2, rfl, rfl, rfl, h2, r2⟩ := trodAll_cons r1
  obtain ⟨rfl, rfl, rfl⟩ := trodAll_nil r2
  obtain rfl : args = #[v0, v1, v2] := by cases args; simp_all
  obtain ⟨rfl, rfl⟩ := trodVars_none hV
  obtain ⟨a0, rfl, rfl, rfl, x0⟩ := open_string Try.underlying9 (hval 0 9 v0 rfl rfl) h0
  have w0 : a0.size ≤ 140737488355328 := Nat.le_trans (sized_string hsz (j := 0) rfl rfl) (Nat.le_of_lt reachBytes_lt)
  obtain ⟨a1, rfl, rfl, rfl, x1⟩ := open_string Try.underlying9 (hval 1 9 v1 rfl rfl) h1
  have w1 : a1.size ≤ 140737488355328 := Nat.le_trans (sized_string hsz (j := 1) rfl rfl) (Nat.le_of_lt reachBytes_lt)
  obtain ⟨a2, rfl, rfl, rfl, w2⟩ := open_int Try.underlying3 (hval 2 3 v2 rfl rfl) h2
  clear hA0 hval0
  refine (walk a0 a1 a2 W w0 w1 w2).mono fun e W' ⟨he, bel⟩ => ?_
  subst he
  exact ⟨_, rfl, _, _, _, [], _, [], hW', trodAll_mk1 (shut_bool Try.underlying4 _), (trodAll_cons_mk (Below.trod laidOut (by kernel_rfl) (of_decide_eq_true (by kernel_rfl)) h0 bel (fun x hx => by first | exact absurd hx (by simp) | exact hlt x (by simpa using hx) | exact hlt x (by simp; exact Or.inl hx) | exact hlt x (by simp; exact Or.inr hx) | exact hlt x (by simp; exact Or.inr (Or.inl hx)) | exact hlt x (by simp; exact Or.inr (Or.inr hx)))) (trodAll_cons_mk (Below.trod laidOut (by kernel_rfl) (of_decide_eq_true (by kernel_rfl)) h1 bel (fun x hx => by first | exact absurd hx (by simp) | exact hlt x (by simpa using hx) | exact hlt x (by simp; exact Or.inl hx) | exact hlt x (by simp; exact Or.inr hx) | exact hlt x (by simp; exact Or.inr (Or.inl hx)) | exact hlt x (by simp; exact Or.inr (Or.inr hx)))) (trodAll_cons_mk (Below.trod laidOut (by kernel_rfl) (of_decide_eq_true (by kernel_rfl)) h2 bel (fun x hx => by first | exact absurd hx (by simp) | exact hlt x (by simpa using hx) | exact hlt x (by simp; exact Or.inl hx) | exact hlt x (by simp; exact Or.inr hx) | exact hlt x (by simp; exact Or.inr (Or.inl hx)) | exact hlt x (by simp; exact Or.inr (Or.inr hx)))) trodAll_mk0))), rfl, bel.frame _, fun h => by cases h⟩

theorem over : Rows.macSaysRow.holds Try.pinned (OpenSpec.ofChange Rows.macSaysSpec) :=
  OpenClaim.holds_of_wide 3 Try.f3 rfl rfl rfl rfl rfl rfl rfl ⟨rfl, rfl, rfl, rfl, rfl⟩ rfl rfl rfl rfl rfl (by kernel_rfl) Try.func3 (by kernel_rfl)
    (of_decide_eq_true (by kernel_rfl)) (by unfold Func.isWrapper; first | (rw [if_pos (by decide +kernel)]; kernel_rfl) | (rw [if_neg (by decide +kernel)]; exact ⟨rfl, rfl⟩))
    (fun os started H enc _ => lifted os started H enc)

theorem proved : Rows.MacSaysSaid :=
  over
end Go.Proofs.Ythfljfampfioaaa.lmacs
