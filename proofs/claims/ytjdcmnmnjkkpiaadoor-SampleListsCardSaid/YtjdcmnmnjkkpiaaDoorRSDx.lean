/-
  What the document's own functions of layer 11 return, in the sponge's bytes. Conditions: the tables hold the constants of the text; seeds of at most 2^50 bytes.
-/
import Derived.Test.YtjdcmnmnjkkpiaaDoorRS1
import Derived.Test.YtjdcmnmnjkkpiaaDoorRSXx
import Derived.Test.YtjdcmnmnjkkpiaaDoorRSKx
import Derived.Test.YtjdcmnmnjkkpiaaDoorRSz
import Derived.Test.YtjdcmnmnjkkpiaaDoorRB1
import Derived.Test.YtjdcmnmnjkkpiaaDoorSaCx
namespace Go.Proofs.YtjdcmnmnjkkpiaaDoor.rsdoc
open Go Go.RowKit
open Go.Proofs.YtjdcmnmnjkkpiaaDoor.arr Go.Proofs.YtjdcmnmnjkkpiaaDoor.mem Go.Proofs.YtjdcmnmnjkkpiaaDoor.keca Go.Proofs.YtjdcmnmnjkkpiaaDoor.kstep Go.Proofs.YtjdcmnmnjkkpiaaDoor.spok Go.Proofs.YtjdcmnmnjkkpiaaDoor.polys Go.Proofs.YtjdcmnmnjkkpiaaDoor.polt Go.Proofs.YtjdcmnmnjkkpiaaDoor.rbita Go.Proofs.YtjdcmnmnjkkpiaaDoor.rbitc Go.Proofs.YtjdcmnmnjkkpiaaDoor.rbitf Go.Proofs.YtjdcmnmnjkkpiaaDoor.rbitg Go.Proofs.YtjdcmnmnjkkpiaaDoor.rndm Go.Proofs.YtjdcmnmnjkkpiaaDoor.samm Go.Proofs.YtjdcmnmnjkkpiaaDoor.samb Go.Proofs.YtjdcmnmnjkkpiaaDoor.samc Go.Proofs.YtjdcmnmnjkkpiaaDoor.saml Go.Proofs.YtjdcmnmnjkkpiaaDoor.samr

theorem uniform {T : Array Value} (b : ByteArray) (w : World) (hK : KT T TL RL) (hb : b.size ≤ 1125899906842624) :
    Calls Tryd.prog 9 #[.agg T, .string b] w fun e w' => e = .returned (.agg (FL .i64 256 (dU b))) ∧ Below w.heap.size w w' :=
  rsuni.uniform_any b _ w (infoT T hK) (out_size 1 b 1008) fun w1 => rsph.shake_go1 1 b 1008 w1 hK rfl (by decide) hb
theorem small {T : Array Value} (b : ByteArray) (e : Int) (w : World) (hK : KT T TL RL) (hb : b.size ≤ 1125899906842624) :
    Calls Tryd.prog 11 #[.agg T, .string b, .int .i64 e] w fun x w' => x = .returned (.agg (FL .i64 256 (dS b e))) ∧ Below w.heap.size w w' :=
  rssma.small_any b _ e w (infoT T hK) (out_size 2 b 816) fun w1 => rsph.shake_go2 2 b 816 w1 hK rfl (by decide) hb
theorem ball {T : Array Value} (b : ByteArray) (tau : Int) (w : World) (hK : KT T TL RL) (hb : b.size ≤ 1125899906842624) :
    Calls Tryd.prog 13 #[.agg T, .string b, .int .i64 tau] w fun x w' => x = .returned (.agg (FL .i64 256 (dB b tau))) ∧ Below w.heap.size w w' := by
  unfold dB
  by_cases h : 1 ≤ tau ∧ tau ≤ 64
  · obtain ⟨t, rfl⟩ := Int.eq_ofNat_of_zero_le (a := tau) (by omega)
    rw [ball_in _ t (by omega) (by omega)]
    exact rsball.ball_good b _ t w (infoT T hK) (by omega) (by omega) (out_size 2 b 544) fun w1 => rsph.shake_go2 2 b 544 w1 hK rfl (by decide) hb
  · rw [ball_out _ _ h]
    exact rsball.ball_bad b (out TL RL 2 b 544) tau w (infoT T hK) h fun w1 => rsph.shake_go2 2 b 544 w1 hK rfl (by decide) hb
theorem unsigned (s : ByteArray) (a : Int) (w : World) (ha : a = 131072 ∨ a = 524288) (hs : s.size = 32 * mw a) :
    Calls Tryd.prog 44 #[.string s, .int .i64 (a - 1), .int .i64 a] w fun x w' => x = .returned (.tuple #[.agg (FL .i64 256 (un (up s (mw a)) a)), .int .i64 0]) ∧ Below w.heap.size w w' := by
  obtain ⟨h1, h2, h3⟩ := mw_two a ha
  have hin : ∀ i, 0 ≤ up s (mw a) i ∧ up s (mw a) i ≤ a - 1 + a := fun i => by have := up_lt s (mw a) i; rw [h3] at this; omega
  refine rbitg.unsigned_good s (a - 1) a w (up s (mw a)) (by omega) (by omega) (by omega) (by omega) (fun i _ => hin i) fun w1 => ?_
  have h := rbitf.unpack_any s (a - 1 + a) w1 (by omega) (by omega) (by rw [h1]; exact hs)
  rw [h1, if_pos (show rbitd.inb (up s (mw a)) (a - 1 + a) from fun i _ => hin i)] at h
  exact h
theorem secrets {T : Array Value} (kn ln : Nat) (e t a b o s : Int) (sd : ByteArray) (w : World) (hK : KT T TL RL) (h : latt (kn : Int) (ln : Int) e t a b o s = true) (hsd : sd.size ≤ 1000) :
    Calls Tryd.prog 17 #[.agg T, .agg #[.int .i64 (kn : Int), .int .i64 (ln : Int), .int .i64 e, .int .i64 t, .int .i64 a, .int .i64 b, .int .i64 o, .int .i64 s], .string sd] w fun x w' => (∃ v1 v2, x = .returned (.tuple #[v1, v2]) ∧ w'.ownsRow w.heap.size 36 256 v1 ln (cq (qS sd e) ln) ∧ w'.ownsRow w.heap.size 36 256 v2 kn (cq (fun i => qS sd e (ln + i)) kn)) ∧ Below w.heap.size w w' := by
  obtain ⟨h1, h2, -⟩ := latt_of h
  exact rssec.secrets_yes kn ln e t a b o s sd (qS sd e) w (infoT T hK) (by omega) (by omega) h (by omega) fun r _ w1 => small (tw sd r 0) e w1 hK (by rw [tw_size]; omega)
theorem matrix {T : Array Value} (kn ln : Nat) (e t a b o s : Int) (sd : ByteArray) (w : World) (hK : KT T TL RL) (h : latt (kn : Int) (ln : Int) e t a b o s = true) (hsd : sd.size ≤ 1000) :
    Calls Tryd.prog 15 #[.agg T, .agg #[.int .i64 (kn : Int), .int .i64 (ln : Int), .int .i64 e, .int .i64 t, .int .i64 a, .int .i64 b, .int .i64 o, .int .i64 s], .string sd] w fun x w' => (∃ v vs, x = .returned v ∧ w'.ownsRow w.heap.size 44 1 v kn vs ∧ Rowl w' w.heap.size v.ownBlock vs ln (qX sd)) ∧ Below w.heap.size w w' := by
  obtain ⟨h1, h2, -⟩ := latt_of h
  exact rsmat.matrix_yes kn ln e t a b o s sd (qX sd) w (infoT T hK) (by omega) (by omega) h (by omega) fun r c _ _ w1 => uniform (tw sd c r) w1 hK (by rw [tw_size]; omega)
theorem masks {T : Array Value} (ln fn : Nat) (k e t a b o s : Int) (sd : ByteArray) (w : World) (hK : KT T TL RL) (hf : fn ≤ 65000) (h : latt k (ln : Int) e t a b o s = true) (hsd : sd.size ≤ 1000) :
    Calls Tryd.prog 20 #[.agg T, .agg #[.int .i64 k, .int .i64 (ln : Int), .int .i64 e, .int .i64 t, .int .i64 a, .int .i64 b, .int .i64 o, .int .i64 s], .string sd, .int .i64 (fn : Int)] w fun x w' => (∃ v1, x = .returned v1 ∧ w'.ownsRow w.heap.size 36 256 v1 ln (cq (qM sd a fn) ln)) ∧ Below w.heap.size w w' := by
  obtain ⟨h1, h2, -, -, ha⟩ := latt_of h
  obtain ⟨m1, m2, m3⟩ := mw_two a ha
  have hl : lb (a - 1).toNat + 1 = mw a := rfl
  have h64 : lb (a - 1).toNat ≤ 64 := by omega
  have h50 : 32 * mw a ≤ 50000 := by omega
  refine rsmsk.masks_yes ln fn (lb (a - 1).toNat) (mw a) (32 * mw a) k e t a b o s sd (fun r => out TL RL 2 (tw sd ((fn + r) % 256) ((fn + r) / 256)) (32 * mw a)) (qM sd a fn) w (infoT T hK) (by omega) hf h64 hl rfl (by omega) h (by omega) (fun w1 => rbita.long_any (a - 1) (by omega) w1) (fun r _ w1 => ?_) (fun r _ w1 => ?_)
  · exact rsph.shake_go2 2 _ (32 * mw a) w1 hK rfl h50 (by rw [tw_size]; omega)
  · exact unsigned _ a w1 ha (out_size 2 _ _)
end Go.Proofs.YtjdcmnmnjkkpiaaDoor.rsdoc
