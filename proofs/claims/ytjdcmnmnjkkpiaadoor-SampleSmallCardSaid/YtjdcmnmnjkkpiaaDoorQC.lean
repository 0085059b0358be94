/-
  What package sample's functions return, in the sponge's bytes. Conditions: the tables hold the constants of the text; keccak's variable 'places' holds what the program's text lays there; seeds of at most 1000 bytes.
-/
import Derived.Test.YtjdcmnmnjkkpiaaDoorSaCx
import Derived.Test.YtjdcmnmnjkkpiaaDoorQA
import Derived.Test.YtjdcmnmnjkkpiaaDoorQB
import Derived.Test.YtjdcmnmnjkkpiaaDoorSpY
import Derived.Test.YtjdcmnmnjkkpiaaDoorPB1
namespace Go.Proofs.YtjdcmnmnjkkpiaaDoor.qdoc
open Go Go.RowKit
open Go.Proofs.YtjdcmnmnjkkpiaaDoor.arr Go.Proofs.YtjdcmnmnjkkpiaaDoor.mem Go.Proofs.YtjdcmnmnjkkpiaaDoor.keca Go.Proofs.YtjdcmnmnjkkpiaaDoor.kstep Go.Proofs.YtjdcmnmnjkkpiaaDoor.kturn Go.Proofs.YtjdcmnmnjkkpiaaDoor.spok Go.Proofs.YtjdcmnmnjkkpiaaDoor.polys Go.Proofs.YtjdcmnmnjkkpiaaDoor.polt Go.Proofs.YtjdcmnmnjkkpiaaDoor.pols Go.Proofs.YtjdcmnmnjkkpiaaDoor.rbita Go.Proofs.YtjdcmnmnjkkpiaaDoor.rbitc Go.Proofs.YtjdcmnmnjkkpiaaDoor.rbitf Go.Proofs.YtjdcmnmnjkkpiaaDoor.rbitg Go.Proofs.YtjdcmnmnjkkpiaaDoor.rndm Go.Proofs.YtjdcmnmnjkkpiaaDoor.samm Go.Proofs.YtjdcmnmnjkkpiaaDoor.samb Go.Proofs.YtjdcmnmnjkkpiaaDoor.samc Go.Proofs.YtjdcmnmnjkkpiaaDoor.saml Go.Proofs.YtjdcmnmnjkkpiaaDoor.samr Go.Proofs.YtjdcmnmnjkkpiaaDoor.rsdoc

theorem shake {T : Array Value} (k : Int) (b : ByteArray) (n : Nat) (w : World) (hK : KT T TL RL) (hP : Gp w) (hk : k = 1 ∨ k = 2) (hn : n ≤ 50000) (hb : b.size ≤ 1125899906842624) :
    ∀ w1 : World, Below w.heap.size w w1 → Calls Tryd.prog 32 #[.agg T, .int .i64 k, .string b, .int .i64 (n : Int)] w1 fun e w' => e = .returned (.tuple #[.string (out TL RL k b n), .int .i64 0]) ∧ Below w1.heap.size w1 w' := fun w1 h1 => by
  rcases hk with rfl | rfl
  · exact shake_go 1 b n w1 hK (hP.later h1) (by decide) rfl hn hb
  · exact shake_go 2 b n w1 hK (hP.later h1) (by decide) rfl hn hb
theorem uniform {T : Array Value} (b : ByteArray) (w : World) (hK : KT T TL RL) (hP : Gp w) (hb : b.size ≤ 1125899906842624) :
    Calls Tryd.prog 8 #[.agg T, .string b] w fun e w' => e = .returned (.agg (FL .i64 256 (dU b))) ∧ Below w.heap.size w w' :=
  quni.Uniform_any b _ w (infoT T hK) (out_size 1 b 1008) (shake 1 b 1008 w hK hP (Or.inl rfl) (by decide) hb)
theorem small {T : Array Value} (b : ByteArray) (e : Int) (w : World) (hK : KT T TL RL) (hP : Gp w) (hb : b.size ≤ 1125899906842624) :
    Calls Tryd.prog 10 #[.agg T, .string b, .int .i64 e] w fun x w' => x = .returned (.agg (FL .i64 256 (dS b e))) ∧ Below w.heap.size w w' :=
  qsma.Small_any b _ e w (infoT T hK) (out_size 2 b 816) (shake 2 b 816 w hK hP (Or.inr rfl) (by decide) hb)
theorem ball {T : Array Value} (b : ByteArray) (tau : Int) (w : World) (hK : KT T TL RL) (hP : Gp w) (hb : b.size ≤ 1125899906842624) :
    Calls Tryd.prog 12 #[.agg T, .string b, .int .i64 tau] w fun x w' => x = .returned (.agg (FL .i64 256 (dB b tau))) ∧ Below w.heap.size w w' := by
  unfold dB
  by_cases h : 1 ≤ tau ∧ tau ≤ 64
  · obtain ⟨t, rfl⟩ := Int.eq_ofNat_of_zero_le (a := tau) (by omega)
    rw [ball_in _ t (by omega) (by omega)]
    exact qbal.Ball_good b _ t w (infoT T hK) (by omega) (by omega) (out_size 2 b 544) (shake 2 b 544 w hK hP (Or.inr rfl) (by decide) hb)
  · rw [ball_out _ _ h]
    exact qbal.Ball_bad b tau w h
theorem unsigned (s : ByteArray) (a : Int) (w : World) (ha : a = 131072 ∨ a = 524288) (hs : s.size = 32 * mw a) :
    Calls Tryd.prog 42 #[.string s, .int .i64 (a - 1), .int .i64 a] w fun x w' => x = .returned (.tuple #[.agg (FL .i64 256 (un (up s (mw a)) a)), .int .i64 0]) ∧ Below w.heap.size w w' := by
  obtain ⟨h1, h2, h3⟩ := mw_two a ha
  have hin : ∀ i, 0 ≤ up s (mw a) i ∧ up s (mw a) i ≤ a - 1 + a := fun i => by have := up_lt s (mw a) i; rw [h3] at this; omega
  refine puns.unsigned_good s (a - 1) a w (up s (mw a)) (by omega) (by omega) (by omega) (by omega) (fun i _ => hin i) fun w1 => ?_
  have h := punp.unpack_any s (a - 1 + a) w1 (by omega) (by omega) (by rw [h1]; exact hs)
  rw [h1, if_pos (show rbitd.inb (up s (mw a)) (a - 1 + a) from fun i _ => hin i)] at h
  exact h
theorem secrets {T : Array Value} (kn ln : Nat) (e t a b o s : Int) (sd : ByteArray) (w : World) (hK : KT T TL RL) (hP : Gp w) (h : latt (kn : Int) (ln : Int) e t a b o s = true) (hsd : sd.size ≤ 1000) :
    Calls Tryd.prog 16 #[.agg T, .agg #[.int .i64 (kn : Int), .int .i64 (ln : Int), .int .i64 e, .int .i64 t, .int .i64 a, .int .i64 b, .int .i64 o, .int .i64 s], .string sd] w fun x w' => (∃ v1 v2, x = .returned (.tuple #[v1, v2]) ∧ Holds w' w.heap.size v1 ln (qS sd e) ∧ Holds w' w.heap.size v2 kn (fun i => qS sd e (ln + i))) ∧ Below w.heap.size w w' := by
  obtain ⟨h1, h2, -⟩ := latt_of h
  exact qsec.secrets_yes kn ln e t a b o s sd (qS sd e) w (infoT T hK) (by omega) (by omega) h (by omega) fun r _ w1 hb => small (tw sd r 0) e w1 hK (hP.later hb) (by rw [tw_size]; omega)
theorem matrix {T : Array Value} (kn ln : Nat) (e t a b o s : Int) (sd : ByteArray) (w : World) (hK : KT T TL RL) (hP : Gp w) (h : latt (kn : Int) (ln : Int) e t a b o s = true) (hsd : sd.size ≤ 1000) :
    Calls Tryd.prog 14 #[.agg T, .agg #[.int .i64 (kn : Int), .int .i64 (ln : Int), .int .i64 e, .int .i64 t, .int .i64 a, .int .i64 b, .int .i64 o, .int .i64 s], .string sd] w fun x w' => (∃ v vs, x = .returned v ∧ w'.ownsRow w.heap.size 44 1 v kn vs ∧ Rowl w' w.heap.size v.ownBlock vs ln (qX sd)) ∧ Below w.heap.size w w' := by
  obtain ⟨h1, h2, -⟩ := latt_of h
  exact qmat.matrix_yes kn ln e t a b o s sd (qX sd) w (infoT T hK) (by omega) (by omega) h (by omega) fun r c _ _ w1 hb => uniform (tw sd c r) w1 hK (hP.later hb) (by rw [tw_size]; omega)
theorem masks {T : Array Value} (ln fn : Nat) (k e t a b o s : Int) (sd : ByteArray) (w : World) (hK : KT T TL RL) (hP : Gp w) (hf : fn ≤ 65000) (h : latt k (ln : Int) e t a b o s = true) (hsd : sd.size ≤ 1000) :
    Calls Tryd.prog 19 #[.agg T, .agg #[.int .i64 k, .int .i64 (ln : Int), .int .i64 e, .int .i64 t, .int .i64 a, .int .i64 b, .int .i64 o, .int .i64 s], .string sd, .int .i64 (fn : Int)] w fun x w' => (∃ v1, x = .returned v1 ∧ Holds w' w.heap.size v1 ln (qM sd a fn)) ∧ Below w.heap.size w w' := by
  obtain ⟨h1, h2, -, -, ha⟩ := latt_of h
  obtain ⟨m1, m2, m3⟩ := mw_two a ha
  refine qmsk.masks_yes ln fn (mw a) (32 * mw a) k e t a b o s sd (fun r => out TL RL 2 (tw sd ((fn + r) % 256) ((fn + r) / 256)) (32 * mw a)) (qM sd a fn) w (infoT T hK) (by omega) hf m2 rfl (by omega) h (by omega) (fun w1 => ?_) (fun r _ w1 hb => ?_) (fun r _ w1 => ?_)
  · have h3 := plong.long_any (2 * a - 1) (by omega) w1
    rw [show 2 * a - 1 = a - 1 + a by omega, m1] at h3
    rw [show 2 * a - 1 = a - 1 + a by omega]
    exact h3
  · exact shake 2 _ (32 * mw a) w hK hP (Or.inr rfl) (by omega) (by rw [tw_size]; omega) w1 hb
  · exact unsigned _ a w1 ha (out_size 2 _ _)
end Go.Proofs.YtjdcmnmnjkkpiaaDoor.qdoc
