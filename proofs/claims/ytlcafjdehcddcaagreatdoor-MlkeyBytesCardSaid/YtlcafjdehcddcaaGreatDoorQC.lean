/-
  What package sample's functions return, in the sponge's bytes. Conditions: the tables hold the constants of the text; keccak's variable 'places' holds what the program's text lays there; seeds of at most 1000 bytes.
-/
import Derived.Test.YtlcafjdehcddcaaGreatDoorSaO
import Derived.Test.YtlcafjdehcddcaaGreatDoorQA
import Derived.Test.YtlcafjdehcddcaaGreatDoorQB
import Derived.Test.YtlcafjdehcddcaaGreatDoorSpY
namespace Go.Proofs.YtlcafjdehcddcaaGreatDoor
namespace qdoc
open Go Go.RowKit
open arr mem keca kstep kturn spok polys polt pols rbita rbitc rbitf rbitg rndm samm samb samc saml samr rsdoc
theorem shake {T : Array Value} (k : Int) (b : ByteArray) (n : Nat) (w : World) (hK : KT T TL RL) (hP : Gp w) (hk : k = 1 ∨ k = 2) (hn : n ≤ 50000) (hb : b.size ≤ 1125899906842624) :
 ∀ w1 : World, Below w.heap.size w w1 → Calls Tryz.prog 81 #[.agg T, .int .i64 k, .string b, .int .i64 (n : Int)] w1 fun e w' => e = .returned (.tuple #[.string (out TL RL k b n), .int .i64 0]) ∧ Below w1.heap.size w1 w' := fun w1 h1 => by
 rcases hk with rfl | rfl
 ·exact shake_go 1 b n w1 hK (hP.later h1) (by decide) rfl hn hb
 ·exact shake_go 2 b n w1 hK (hP.later h1) (by decide) rfl hn hb
theorem uniform {T : Array Value} (b : ByteArray) (w : World) (hK : KT T TL RL) (hP : Gp w) (hb : b.size ≤ 1125899906842624) :
 Calls Tryz.prog 85 #[.agg T, .string b] w fun e w' => e = .returned (.agg (FL .i64 256 (dU b))) ∧ Below w.heap.size w w' :=
 quni.Uniform_any b _ w (infoT T hK) (out_size 1 b 1008) (shake 1 b 1008 w hK hP (Or.inl rfl) (by decide) hb)
theorem small {T : Array Value} (b : ByteArray) (e : Int) (w : World) (hK : KT T TL RL) (hP : Gp w) (hb : b.size ≤ 1125899906842624) :
 Calls Tryz.prog 82 #[.agg T, .string b, .int .i64 e] w fun x w' => x = .returned (.agg (FL .i64 256 (dS b e))) ∧ Below w.heap.size w w' :=
 qsma.Small_any b _ e w (infoT T hK) (out_size 2 b 816) (shake 2 b 816 w hK hP (Or.inr rfl) (by decide) hb)
theorem secrets {T : Array Value} (kn ln : Nat) (e t a b o s : Int) (sd : ByteArray) (w : World) (hK : KT T TL RL) (hP : Gp w) (h : latt (kn : Int) (ln : Int) e t a b o s = true) (hsd : sd.size ≤ 1000) :
 Calls Tryz.prog 38 #[.agg T, .agg #[.int .i64 (kn : Int), .int .i64 (ln : Int), .int .i64 e, .int .i64 t, .int .i64 a, .int .i64 b, .int .i64 o, .int .i64 s], .string sd] w fun x w' => (∃ v1 v2, x = .returned (.tuple #[v1, v2]) ∧ Holds w' w.heap.size v1 ln (qS sd e) ∧ Holds w' w.heap.size v2 kn (fun i => qS sd e (ln + i))) ∧ Below w.heap.size w w' := by
 obtain ⟨h1, h2, -⟩ := latt_of h
 exact qsec.secrets_yes kn ln e t a b o s sd (qS sd e) w (infoT T hK) (by omega) (by omega) h (by omega) fun r _ w1 hb => small (tw sd r 0) e w1 hK (hP.later hb) (by rw [tw_size]; omega)
theorem matrix {T : Array Value} (kn ln : Nat) (e t a b o s : Int) (sd : ByteArray) (w : World) (hK : KT T TL RL) (hP : Gp w) (h : latt (kn : Int) (ln : Int) e t a b o s = true) (hsd : sd.size ≤ 1000) :
 Calls Tryz.prog 40 #[.agg T, .agg #[.int .i64 (kn : Int), .int .i64 (ln : Int), .int .i64 e, .int .i64 t, .int .i64 a, .int .i64 b, .int .i64 o, .int .i64 s], .string sd] w fun x w' => (∃ v vs, x = .returned v ∧ w'.ownsRow w.heap.size 45 1 v kn vs ∧ Rowl w' w.heap.size v.ownBlock vs ln (qX sd)) ∧ Below w.heap.size w w' := by
 obtain ⟨h1, h2, -⟩ := latt_of h
 exact qmat.matrix_yes kn ln e t a b o s sd (qX sd) w (infoT T hK) (by omega) (by omega) h (by omega) fun r c _ _ w1 hb => uniform (tw sd c r) w1 hK (hP.later hb) (by rw [tw_size]; omega)
end qdoc
end Go.Proofs.YtlcafjdehcddcaaGreatDoor
