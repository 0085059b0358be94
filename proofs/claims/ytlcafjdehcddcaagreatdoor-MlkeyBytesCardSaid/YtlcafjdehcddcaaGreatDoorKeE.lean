/-
  What mlkey's PublicBytes and SecretBytes return for an argument that isn't valid. Conditions: none. What package mlkey's PublicBytes, SecretBytes, Public and Secret and the document's own return: the same, for any arguments. Conditions: the lists are nil or hold polynomials; as each theorem says.
-/
import Derived.Test.YtlcafjdehcddcaaGreatDoorMlk
import Derived.Test.YtlcafjdehcddcaaGreatDoorRRA
import Derived.Test.YtlcafjdehcddcaaGreatDoorKeC
import Derived.Test.YtlcafjdehcddcaaGreatDoorRKb
import Derived.Test.YtlcafjdehcddcaaGreatDoorRKt
import Derived.Test.YtlcafjdehcddcaaGreatDoorLPf
namespace Go.Proofs.YtlcafjdehcddcaaGreatDoor
namespace kpd
set_option linter.unusedSimpArgs false
open Go Go.RowKit
open arr mem stil polys polt rndm
set_option maxRecDepth 100000 in
set_option maxHeartbeats 4000000 in
theorem pb_bad (k l e t a b o s : Int) (rho : ByteArray) (v : Value) (m : Nat) (x : Option Addr) (c : Nat) (hv : v = .slice x m c) (w : World) (h : latt k l e t a b o s = false ∨ rho.size ≠ 32 ∨ (m : Int) ≠ k) :
 Calls Tryz.prog 16 #[.agg #[.int .i64 k, .int .i64 l, .int .i64 e, .int .i64 t, .int .i64 a, .int .i64 b, .int .i64 o, .int .i64 s], .string rho, v] w fun x w' => x = .returned (.tuple #[.string ⟨#[]⟩, .int .i64 1]) ∧ Below w.heap.size w w' := by
 subst hv
 obtain ⟨cc, hc⟩ : ∃ c, latt k l e t a b o s = c := ⟨_, rfl⟩
 rw [hc] at h
 have HR : Away (∀ w1 : World, Calls Tryz.prog 32 #[.agg #[.int .i64 k, .int .i64 l, .int .i64 e, .int .i64 t, .int .i64 a, .int .i64 b, .int .i64 o, .int .i64 s]] w1 fun e0 w' => e0 = .returned (.bool cc) ∧ Below w1.heap.size w1 w') := ⟨fun w1 => by rw [← hc]; exact rright.right_any k l e t a b o s w1⟩
 obtain ⟨C, HC⟩ := ex_eq (#[.int .i64 k, .int .i64 l, .int .i64 e, .int .i64 t, .int .i64 a, .int .i64 b, .int .i64 o, .int .i64 s] : Array Value)
 rw [HC.out] at HR ⊢
 have HCs : Away ((Tryz.prog.info? 23).map (·.size) = some C.size) := ⟨by rw [← HC.out]; kernel_rfl⟩
 obtain ⟨W, hW⟩ : ∃ x, w.alloc (.cells C 23) = x := ⟨_, rfl⟩
 obtain ⟨r0, hWs, b0⟩ := one hW
 have L0 : Away (W.heap[w.heap.size]? = some (.cells C 23 (0, 0))) := ⟨r0⟩
 have BW := Away.mk b0
 have HWs := Away.mk hWs
 have HW := Away.mk hW
 have h : cc = false ∨ (cc = true ∧ (rho.size ≠ 32 ∨ (rho.size = 32 ∧ (m : Int) ≠ k))) := by
  cases cc
  ·exact Or.inl rfl
  ·refine Or.inr ⟨rfl, ?_⟩
   rcases h with h | h | h
   ·exact absurd h (by decide)
   ·exact Or.inl h
   ·by_cases h3 : rho.size = 32
    ·exact Or.inr ⟨h3, h⟩
    ·exact Or.inl h3
 clear hW r0 b0 hc hWs
 rcases h with rfl | ⟨rfl, h1 | ⟨h1, h2⟩⟩
 ·go_enter Tryz.func16, Tryz.ntmps16
  go_wp2_with (first
   | (rw [HW.out])
   | (refine wpList_load_row rfl 23 _ rfl w.heap.size rfl 23 _ (0, 0) _ L0.out Tryz.underlying23 rfl HCs.out ?_))
  refine (HR.out _).mono ?_
  rintro x u1 ⟨rfl, hb1⟩
  have B1 : Away (Below w.heap.size w u1) := ⟨BW.out.trans (hb1.mono (by rw [HWs.out]; omega))⟩
  clear hb1
  go_wp2_with fail
  go_ret2
  exact ⟨rfl, B1.out⟩
 ·have hz : ((rho.size : Int) != 32) = true := by simp; omega
  go_enter Tryz.func16, Tryz.ntmps16
  go_wp2_with (first
   | (rw [HW.out])
   | (refine wpList_load_row rfl 23 _ rfl w.heap.size rfl 23 _ (0, 0) _ L0.out Tryz.underlying23 rfl HCs.out ?_))
  refine (HR.out _).mono ?_
  rintro x u1 ⟨rfl, hb1⟩
  have B1 : Away (Below w.heap.size w u1) := ⟨BW.out.trans (hb1.mono (by rw [HWs.out]; omega))⟩
  clear hb1
  go_wp2_with fail
  go_ret2
  exact ⟨rfl, B1.out⟩
 ·have hz : ((rho.size : Int) != 32) = false := by rw [h1]; rfl
  have hz2 : ((m : Int) != k) = true := by simpa using h2
  have hs3 : (rho.size : Int) = 32 := by omega
  go_enter Tryz.func16, Tryz.ntmps16
  go_wp2_with (first
   | (rw [HW.out])
   | (refine wpList_load_row rfl 23 _ rfl w.heap.size rfl 23 _ (0, 0) _ L0.out Tryz.underlying23 rfl HCs.out ?_))
  refine (HR.out _).mono ?_
  rintro x u1 ⟨rfl, hb1⟩
  have B1 : Away (Below w.heap.size w u1) := ⟨BW.out.trans (hb1.mono (by rw [HWs.out]; omega))⟩
  have cK : u1.cell? ⟨w.heap.size, 0, none⟩ = some (.int .i64 k) := cell_at ((hb1.block _ (by rw [HWs.out]; omega)).trans L0.out) (by rw [← HC.out]; rfl)
  clear hb1
  go_wp2_with fail
  go_ret2
  exact ⟨rfl, B1.out⟩
set_option maxRecDepth 100000 in
set_option maxHeartbeats 8000000 in
theorem sb_bad (k l e t a b o s : Int) (hd : ByteArray) (va vb vl : Value) (ma mb ml : Nat) (xa xb xl : Option Addr) (ca cb cl : Nat) (ha : va = .slice xa ma ca) (hb : vb = .slice xb mb cb) (hl : vl = .slice xl ml cl) (w : World) (h : latt k l e t a b o s = false ∨ hd.size ≠ 128 ∨ (ma : Int) ≠ l ∨ (mb : Int) ≠ k ∨ (ml : Int) ≠ k) :
 Calls Tryz.prog 18 #[.agg #[.int .i64 k, .int .i64 l, .int .i64 e, .int .i64 t, .int .i64 a, .int .i64 b, .int .i64 o, .int .i64 s], .string hd, va, vb, vl] w fun x w' => x = .returned (.tuple #[.string ⟨#[]⟩, .int .i64 1]) ∧ Below w.heap.size w w' := by
 subst ha hb hl
 obtain ⟨cc, hc⟩ : ∃ c, latt k l e t a b o s = c := ⟨_, rfl⟩
 rw [hc] at h
 have HR : Away (∀ w1 : World, Calls Tryz.prog 32 #[.agg #[.int .i64 k, .int .i64 l, .int .i64 e, .int .i64 t, .int .i64 a, .int .i64 b, .int .i64 o, .int .i64 s]] w1 fun e0 w' => e0 = .returned (.bool cc) ∧ Below w1.heap.size w1 w') := ⟨fun w1 => by rw [← hc]; exact rright.right_any k l e t a b o s w1⟩
 obtain ⟨C, HC⟩ := ex_eq (#[.int .i64 k, .int .i64 l, .int .i64 e, .int .i64 t, .int .i64 a, .int .i64 b, .int .i64 o, .int .i64 s] : Array Value)
 rw [HC.out] at HR ⊢
 have HCs : Away ((Tryz.prog.info? 23).map (·.size) = some C.size) := ⟨by rw [← HC.out]; kernel_rfl⟩
 obtain ⟨W, hW⟩ : ∃ x, w.alloc (.cells C 23) = x := ⟨_, rfl⟩
 obtain ⟨r0, hWs, b0⟩ := one hW
 have L0 : Away (W.heap[w.heap.size]? = some (.cells C 23 (0, 0))) := ⟨r0⟩
 have BW := Away.mk b0
 have HWs := Away.mk hWs
 have HW := Away.mk hW
 have h : cc = false ∨ (cc = true ∧ (hd.size ≠ 128 ∨ (hd.size = 128 ∧ ((ma : Int) ≠ l ∨ ((ma : Int) = l ∧ ((mb : Int) ≠ k ∨ ((mb : Int) = k ∧ (ml : Int) ≠ k))))))) := by
  cases cc
  ·exact Or.inl rfl
  ·refine Or.inr ⟨rfl, ?_⟩
   have h := h.resolve_left (by decide)
   omega
 clear hW r0 b0 hc hWs
 rcases h with rfl | ⟨rfl, h1 | ⟨h1, h2 | ⟨h2, h3 | ⟨h3, h4⟩⟩⟩⟩
 ·go_enter Tryz.func18, Tryz.ntmps18
  go_wp2_with (first
   | (rw [HW.out])
   | (refine wpList_load_row rfl 23 _ rfl w.heap.size rfl 23 _ (0, 0) _ L0.out Tryz.underlying23 rfl HCs.out ?_))
  refine (HR.out _).mono ?_
  rintro x u1 ⟨rfl, hb1⟩
  have B1 : Away (Below w.heap.size w u1) := ⟨BW.out.trans (hb1.mono (by rw [HWs.out]; omega))⟩
  have cK : u1.cell? ⟨w.heap.size, 0, none⟩ = some (.int .i64 k) := cell_at ((hb1.block _ (by rw [HWs.out]; omega)).trans L0.out) (by rw [← HC.out]; rfl)
  have cL : u1.cell? ⟨w.heap.size, 1, none⟩ = some (.int .i64 l) := cell_at ((hb1.block _ (by rw [HWs.out]; omega)).trans L0.out) (by rw [← HC.out]; rfl)
  clear hb1
  go_wp2_with fail
  go_ret2
  exact ⟨rfl, B1.out⟩
 ·have z1 : ((hd.size : Int) != 128) = true := by simp; omega
  go_enter Tryz.func18, Tryz.ntmps18
  go_wp2_with (first
   | (rw [HW.out])
   | (refine wpList_load_row rfl 23 _ rfl w.heap.size rfl 23 _ (0, 0) _ L0.out Tryz.underlying23 rfl HCs.out ?_))
  refine (HR.out _).mono ?_
  rintro x u1 ⟨rfl, hb1⟩
  have B1 : Away (Below w.heap.size w u1) := ⟨BW.out.trans (hb1.mono (by rw [HWs.out]; omega))⟩
  have cK : u1.cell? ⟨w.heap.size, 0, none⟩ = some (.int .i64 k) := cell_at ((hb1.block _ (by rw [HWs.out]; omega)).trans L0.out) (by rw [← HC.out]; rfl)
  have cL : u1.cell? ⟨w.heap.size, 1, none⟩ = some (.int .i64 l) := cell_at ((hb1.block _ (by rw [HWs.out]; omega)).trans L0.out) (by rw [← HC.out]; rfl)
  clear hb1
  go_wp2_with fail
  go_ret2
  exact ⟨rfl, B1.out⟩
 ·have z1 : ((hd.size : Int) != 128) = false := by rw [h1]; rfl
  have z2 : (hd.size : Int) = 128 := by omega
  have z3 : ((ma : Int) != l) = true := by simpa using h2
  go_enter Tryz.func18, Tryz.ntmps18
  go_wp2_with (first
   | (rw [HW.out])
   | (refine wpList_load_row rfl 23 _ rfl w.heap.size rfl 23 _ (0, 0) _ L0.out Tryz.underlying23 rfl HCs.out ?_))
  refine (HR.out _).mono ?_
  rintro x u1 ⟨rfl, hb1⟩
  have B1 : Away (Below w.heap.size w u1) := ⟨BW.out.trans (hb1.mono (by rw [HWs.out]; omega))⟩
  have cK : u1.cell? ⟨w.heap.size, 0, none⟩ = some (.int .i64 k) := cell_at ((hb1.block _ (by rw [HWs.out]; omega)).trans L0.out) (by rw [← HC.out]; rfl)
  have cL : u1.cell? ⟨w.heap.size, 1, none⟩ = some (.int .i64 l) := cell_at ((hb1.block _ (by rw [HWs.out]; omega)).trans L0.out) (by rw [← HC.out]; rfl)
  clear hb1
  go_wp2_with fail
  go_ret2
  exact ⟨rfl, B1.out⟩
 ·have z1 : ((hd.size : Int) != 128) = false := by rw [h1]; rfl
  have z2 : (hd.size : Int) = 128 := by omega
  have z3 : ((ma : Int) != l) = false := by simpa using h2
  have z4 : ((mb : Int) != k) = true := by simpa using h3
  go_enter Tryz.func18, Tryz.ntmps18
  go_wp2_with (first
   | (rw [HW.out])
   | (refine wpList_load_row rfl 23 _ rfl w.heap.size rfl 23 _ (0, 0) _ L0.out Tryz.underlying23 rfl HCs.out ?_))
  refine (HR.out _).mono ?_
  rintro x u1 ⟨rfl, hb1⟩
  have B1 : Away (Below w.heap.size w u1) := ⟨BW.out.trans (hb1.mono (by rw [HWs.out]; omega))⟩
  have cK : u1.cell? ⟨w.heap.size, 0, none⟩ = some (.int .i64 k) := cell_at ((hb1.block _ (by rw [HWs.out]; omega)).trans L0.out) (by rw [← HC.out]; rfl)
  have cL : u1.cell? ⟨w.heap.size, 1, none⟩ = some (.int .i64 l) := cell_at ((hb1.block _ (by rw [HWs.out]; omega)).trans L0.out) (by rw [← HC.out]; rfl)
  clear hb1
  go_wp2_with fail
  go_ret2
  exact ⟨rfl, B1.out⟩
 ·have z1 : ((hd.size : Int) != 128) = false := by rw [h1]; rfl
  have z2 : (hd.size : Int) = 128 := by omega
  have z3 : ((ma : Int) != l) = false := by simpa using h2
  have z4 : ((mb : Int) != k) = false := by simpa using h3
  have z5 : ((ml : Int) != k) = true := by simpa using h4
  go_enter Tryz.func18, Tryz.ntmps18
  go_wp2_with (first
   | (rw [HW.out])
   | (refine wpList_load_row rfl 23 _ rfl w.heap.size rfl 23 _ (0, 0) _ L0.out Tryz.underlying23 rfl HCs.out ?_))
  refine (HR.out _).mono ?_
  rintro x u1 ⟨rfl, hb1⟩
  have B1 : Away (Below w.heap.size w u1) := ⟨BW.out.trans (hb1.mono (by rw [HWs.out]; omega))⟩
  have cK : u1.cell? ⟨w.heap.size, 0, none⟩ = some (.int .i64 k) := cell_at ((hb1.block _ (by rw [HWs.out]; omega)).trans L0.out) (by rw [← HC.out]; rfl)
  have cL : u1.cell? ⟨w.heap.size, 1, none⟩ = some (.int .i64 l) := cell_at ((hb1.block _ (by rw [HWs.out]; omega)).trans L0.out) (by rw [← HC.out]; rfl)
  clear hb1
  go_wp2_with fail
  go_ret2
  exact ⟨rfl, B1.out⟩
end kpd
namespace kbo
set_option linter.unusedSimpArgs false
open Go Go.RowKit
open arr mem polys polt pols rbita rbite saml lsl11 mlkm mlkb rksz rkpb rksb
open rndm (latt)
theorem sl_hold {w : World} {v : Value} {m : Nat} {q : Nat → Nat → Int} (h : SL w v m q) (hm : 1 ≤ m) : ∃ B, Holds w B v m q := by
 rcases h with ⟨rfl, -⟩ | ⟨-, -, B, h⟩
 ·omega
 ·exact ⟨B, h⟩
theorem polys_sl (v1 v2 : Value) (m : Nat) (q : Nat → Nat → Int) (w : World) (h1 : SL w v1 m q) (h2 : SL w v2 m q) : Calls Tryz.prog 11 #[v1, v2] w fun e w' => e = .returned (.bool true) ∧ Below w.heap.size w w' := by
 rcases h1 with ⟨rfl, rfl⟩ | ⟨m1, m8, B, h1⟩
 ·rcases h2 with ⟨-, rfl⟩ | ⟨m1, -⟩
  ·exact lpolf.nil_any w
  ·omega
 ·obtain ⟨B2, h2⟩ := sl_hold h2 m1
  exact lpolf.same_any v1 v2 m B B2 q w (by omega) h1 h2
def LL (w : World) (v : Value) (n : Nat) (ms : Nat → Nat) (qs : Nat → Nat → Nat → Int) : Prop :=
 (n = 0 ∧ v = .slice none 0 0) ∨ (∃ g c, v = .slice (some ⟨g, 0, none⟩) n c ∧ g < w.heap.size ∧ ∀ i, i < n → ∃ u, w.cell? ⟨g, i, none⟩ = some u ∧ SL w u (ms i) (qs i))
theorem LL.later {w w' : World} {v : Value} {n : Nat} {ms : Nat → Nat} {qs : Nat → Nat → Nat → Int} (h : LL w v n ms qs) (hb : Below w.heap.size w w') : LL w' v n ms qs := by
 rcases h with h | ⟨g, c, e, hg, h⟩
 ·exact Or.inl h
 ·refine Or.inr ⟨g, c, e, Nat.lt_of_lt_of_le hg hb.size, fun i hi => ?_⟩
  obtain ⟨u, h1, h2⟩ := h i hi
  exact ⟨u, (hb.cell (p := ⟨g, i, none⟩) hg).trans h1, h2.later hb⟩
theorem ll_slice {w : World} {v : Value} {n : Nat} {ms : Nat → Nat} {qs : Nat → Nat → Nat → Int} (h : LL w v n ms qs) : ∃ a c, v = .slice a n c := by
 rcases h with ⟨rfl, rfl⟩ | ⟨g, c, rfl, -⟩
 ·exact ⟨_, _, rfl⟩
 ·exact ⟨_, _, rfl⟩
theorem ll_at {w : World} {v : Value} {n : Nat} {ms : Nat → Nat} {qs : Nat → Nat → Nat → Int} (h : LL w v n ms qs) (i : Nat) (hi : i < n) : ∃ g c u, v = .slice (some ⟨g, 0, none⟩) n c ∧ g < w.heap.size ∧ w.cell? ⟨g, i, none⟩ = some u ∧ SL w u (ms i) (qs i) := by
 rcases h with ⟨rfl, rfl⟩ | ⟨g, c, rfl, hg, h⟩
 ·omega
 ·obtain ⟨u, h1, h2⟩ := h i hi
  exact ⟨g, c, u, rfl, hg, h1, h2⟩
def ms3 (kn ln : Nat) : Nat → Nat := fun i => if i = 0 then ln else kn
def qs3 (x : ByteArray) (kn ln : Nat) (e : Int) : Nat → Nat → Nat → Int := fun i => if i = 0 then rdS x 128 (lb (e + e).toNat) e else if i = 1 then rdS x (128 + 32 * lb (e + e).toNat * ln) (lb (e + e).toNat) e else rdS x (128 + 32 * lb (e + e).toNat * ln + 32 * lb (e + e).toNat * kn) 13 4096
theorem ll_three {w : World} {v : Value} {x : ByteArray} {kn ln : Nat} {e : Int} (hk : 1 ≤ kn ∧ kn ≤ 8) (hl : 1 ≤ ln ∧ ln ≤ 8) (h : rkse.three w v x kn ln e) :
 LL w v 3 (ms3 kn ln) (qs3 x kn ln e) := by
 obtain ⟨g, c, v1, v2, v3, e0, hg, x0, x1, x2, h0, h1, h2⟩ := h
 refine Or.inr ⟨g, c, e0, hg, fun i hi => ?_⟩
 rcases (show i = 0 ∨ i = 1 ∨ i = 2 by omega) with rfl | rfl | rfl
 ·exact ⟨v1, x0, Or.inr ⟨hl.1, hl.2, 0, h0⟩⟩
 ·exact ⟨v2, x1, Or.inr ⟨hk.1, hk.2, 0, h1⟩⟩
 ·exact ⟨v3, x2, Or.inr ⟨hk.1, hk.2, 0, h2⟩⟩
section
variable (k l e t a b o s : Int)
theorem pb_both (hd : ByteArray) (m0 : Nat) (q : Nat → Nat → Int) (hm : max 0 (min k 8) = (m0 : Int)) : ∃ (x : ByteArray) (c : Int), ∀ (w : World) (v : Value), SL w v m0 q →
 (Calls Tryz.prog 16 #[.agg #[.int .i64 k, .int .i64 l, .int .i64 e, .int .i64 t, .int .i64 a, .int .i64 b, .int .i64 o, .int .i64 s], .string hd, v] w fun r w' => r = .returned (.tuple #[.string x, .int .i64 c]) ∧ Below w.heap.size w w')
 ∧ (Calls Tryz.prog 17 #[.agg #[.int .i64 k, .int .i64 l, .int .i64 e, .int .i64 t, .int .i64 a, .int .i64 b, .int .i64 o, .int .i64 s], .string hd, v] w fun r w' => r = .returned (.tuple #[.string x, .int .i64 c]) ∧ Below w.heap.size w w') := by
 by_cases h : latt k l e t a b o s = true ∧ hd.size = 32
 ·obtain ⟨h, hs⟩ := h
  obtain ⟨hk, -⟩ := latt_all h
  obtain rfl : k = (m0 : Int) := by omega
  obtain ⟨x, c, hx⟩ : ∃ (x : ByteArray) (c : Int), resP hd q 1023 m0 = .tuple #[.string x, .int .i64 c] := by
   unfold resP
   split
   ·exact ⟨_, _, rfl⟩
   ·exact ⟨_, _, rfl⟩
  refine ⟨x, c, fun w v hv => ?_⟩
  obtain ⟨B, hB⟩ := sl_hold hv (by omega)
  rw [← hx]
  exact ⟨kpb.pb_any m0 l e t a b o s hd v B q w h hs hB, rkpb.pb_any m0 l e t a b o s hd v q w (by omega) h hs hv⟩
 ·refine ⟨⟨#[]⟩, 1, fun w v hv => ?_⟩
  obtain ⟨y, c, hv2⟩ := sl_slice hv
  have hbad : latt k l e t a b o s = false ∨ hd.size ≠ 32 ∨ (m0 : Int) ≠ k := by
   by_cases h3 : latt k l e t a b o s = true
   ·exact Or.inr (Or.inl fun h4 => h ⟨h3, h4⟩)
   ·exact Or.inl (by simpa using h3)
  exact ⟨kpd.pb_bad k l e t a b o s hd v m0 y c hv2 w hbad, rkpb.pb_bad k l e t a b o s hd v m0 y c hv2 w hbad⟩
theorem sb_both (hd : ByteArray) (m0 m2 : Nat) (p q lo : Nat → Nat → Int) (hm : max 0 (min k 8) = (m0 : Int)) (hm2 : max 0 (min l 8) = (m2 : Int)) : ∃ (x : ByteArray) (c : Int), ∀ (w : World) (va vb vl : Value), SL w va m2 p → SL w vb m0 q → SL w vl m0 lo →
 (Calls Tryz.prog 18 #[.agg #[.int .i64 k, .int .i64 l, .int .i64 e, .int .i64 t, .int .i64 a, .int .i64 b, .int .i64 o, .int .i64 s], .string hd, va, vb, vl] w fun r w' => r = .returned (.tuple #[.string x, .int .i64 c]) ∧ Below w.heap.size w w')
 ∧ (Calls Tryz.prog 19 #[.agg #[.int .i64 k, .int .i64 l, .int .i64 e, .int .i64 t, .int .i64 a, .int .i64 b, .int .i64 o, .int .i64 s], .string hd, va, vb, vl] w fun r w' => r = .returned (.tuple #[.string x, .int .i64 c]) ∧ Below w.heap.size w w') := by
 by_cases h : latt k l e t a b o s = true ∧ hd.size = 128
 ·obtain ⟨h, hs⟩ := h
  obtain ⟨hk, hl, he, -⟩ := latt_all h
  obtain rfl : k = (m0 : Int) := by omega
  obtain rfl : l = (m2 : Int) := by omega
  obtain ⟨x, c, hx⟩ : ∃ (x : ByteArray) (c : Int), resK m0 m2 e hd p q lo = .tuple #[.string x, .int .i64 c] := by
   unfold resK
   split
   ·exact ⟨_, _, rfl⟩
   ·exact ⟨_, _, rfl⟩
  refine ⟨x, c, fun w va vb vl h1 h2 h3 => ?_⟩
  obtain ⟨B1, H1⟩ := sl_hold h1 (by omega)
  obtain ⟨B2, H2⟩ := sl_hold h2 (by omega)
  obtain ⟨B3, H3⟩ := sl_hold h3 (by omega)
  rw [← hx]
  exact ⟨ksb.sb_any m0 m2 e t a b o s hd va vb vl B1 B2 B3 p q lo w h hs H1 H2 H3, rksb.sb_any m0 m2 e t a b o s hd va vb vl B1 B2 B3 p q lo w (by omega) (by omega) he h hs H1 H2 H3⟩
 ·refine ⟨⟨#[]⟩, 1, fun w va vb vl h1 h2 h3 => ?_⟩
  obtain ⟨y1, c1, e1⟩ := sl_slice h1
  obtain ⟨y2, c2, e2⟩ := sl_slice h2
  obtain ⟨y3, c3, e3⟩ := sl_slice h3
  have hbad : latt k l e t a b o s = false ∨ hd.size ≠ 128 ∨ (m2 : Int) ≠ l ∨ (m0 : Int) ≠ k ∨ (m0 : Int) ≠ k := by
   by_cases h3 : latt k l e t a b o s = true
   ·exact Or.inr (Or.inl fun h4 => h ⟨h3, h4⟩)
   ·exact Or.inl (by simpa using h3)
  exact ⟨kpd.sb_bad k l e t a b o s hd va vb vl m2 m0 m0 y1 y2 y3 c1 c2 c3 e1 e2 e3 w hbad, rksd.sb_bad k l e t a b o s hd va vb vl m2 m0 m0 y1 y2 y3 c1 c2 c3 e1 e2 e3 w hbad⟩
theorem pu_both (x : ByteArray) : ∃ (u : ByteArray) (c : Int) (m : Nat) (q : Nat → Nat → Int), ∀ w : World,
 (Calls Tryz.prog 20 #[.agg #[.int .i64 k, .int .i64 l, .int .i64 e, .int .i64 t, .int .i64 a, .int .i64 b, .int .i64 o, .int .i64 s], .string x] w fun r w' => (∃ v, r = .returned (.tuple #[.string u, v, .int .i64 c]) ∧ SL w' v m q) ∧ Below w.heap.size w w')
 ∧ (Calls Tryz.prog 21 #[.agg #[.int .i64 k, .int .i64 l, .int .i64 e, .int .i64 t, .int .i64 a, .int .i64 b, .int .i64 o, .int .i64 s], .string x] w fun r w' => (∃ v, r = .returned (.tuple #[.string u, v, .int .i64 c]) ∧ SL w' v m q) ∧ Below w.heap.size w w') := by
 have nil : ∀ (c : Int) (w : World) (f : FuncId), (Calls Tryz.prog f #[.agg #[.int .i64 k, .int .i64 l, .int .i64 e, .int .i64 t, .int .i64 a, .int .i64 b, .int .i64 o, .int .i64 s], .string x] w fun r w' => r = .returned (.tuple #[.string ⟨#[]⟩, .slice none 0 0, .int .i64 c]) ∧ Below w.heap.size w w') → Calls Tryz.prog f #[.agg #[.int .i64 k, .int .i64 l, .int .i64 e, .int .i64 t, .int .i64 a, .int .i64 b, .int .i64 o, .int .i64 s], .string x] w fun r w' => (∃ v, r = .returned (.tuple #[.string ⟨#[]⟩, v, .int .i64 c]) ∧ SL w' v 0 (fun _ _ => 0)) ∧ Below w.heap.size w w' := fun c w f h => h.mono fun r w' ⟨h1, h2⟩ => ⟨⟨_, h1, sl_nil _ _⟩, h2⟩
 by_cases h : latt k l e t a b o s = true
 ·obtain ⟨hk, -⟩ := latt_all h
  obtain ⟨kn, rfl⟩ := Int.eq_ofNat_of_zero_le (a := k) (by omega)
  by_cases hx : (x.size : Int) = sz1 kn
  ·have hs : x.size = 32 + 320 * kn := by unfold sz1 at hx; omega
   refine ⟨x.extract 0 32, 0, kn, rdU x 32 10, fun w => ⟨?_, ?_⟩⟩
   ·refine (kpu.public_good kn l e t a b o s x w h hs).mono ?_
    rintro r w' ⟨⟨v, rfl, hv⟩, hb⟩
    exact ⟨⟨v, rfl, sl_holds (by omega) (by omega) hv⟩, hb⟩
   ·refine (rkpu.public_good kn l e t a b o s x w h hs).mono ?_
    rintro r w' ⟨⟨v, rfl, hv⟩, hb⟩
    exact ⟨⟨v, rfl, sl_own (by omega) (by omega) hv⟩, hb⟩
  ·exact ⟨⟨#[]⟩, 3, 0, fun _ _ => 0, fun w => ⟨nil 3 w _ (kpu.public_len (kn : Int) l e t a b o s x w h hx), nil 3 w _ (rkpu.public_len (kn : Int) l e t a b o s x w h hx)⟩⟩
 ·have h : latt k l e t a b o s = false := by simpa using h
  exact ⟨⟨#[]⟩, 1, 0, fun _ _ => 0, fun w => ⟨nil 1 w _ (kpu.public_bad k l e t a b o s x w h), nil 1 w _ (rkpu.public_bad k l e t a b o s x w h)⟩⟩
theorem se_both (x : ByteArray) : ∃ (u : ByteArray) (c : Int) (n : Nat) (ms : Nat → Nat) (qs : Nat → Nat → Nat → Int), n ≤ 3 ∧ ∀ w : World,
 (Calls Tryz.prog 22 #[.agg #[.int .i64 k, .int .i64 l, .int .i64 e, .int .i64 t, .int .i64 a, .int .i64 b, .int .i64 o, .int .i64 s], .string x] w fun r w' => (∃ v, r = .returned (.tuple #[.string u, v, .int .i64 c]) ∧ LL w' v n ms qs) ∧ Below w.heap.size w w')
 ∧ (Calls Tryz.prog 23 #[.agg #[.int .i64 k, .int .i64 l, .int .i64 e, .int .i64 t, .int .i64 a, .int .i64 b, .int .i64 o, .int .i64 s], .string x] w fun r w' => (∃ v, r = .returned (.tuple #[.string u, v, .int .i64 c]) ∧ LL w' v n ms qs) ∧ Below w.heap.size w w') := by
 have nil : ∀ (c : Int) (w : World) (f : FuncId), (Calls Tryz.prog f #[.agg #[.int .i64 k, .int .i64 l, .int .i64 e, .int .i64 t, .int .i64 a, .int .i64 b, .int .i64 o, .int .i64 s], .string x] w fun r w' => r = .returned (.tuple #[.string ⟨#[]⟩, .slice none 0 0, .int .i64 c]) ∧ Below w.heap.size w w') → Calls Tryz.prog f #[.agg #[.int .i64 k, .int .i64 l, .int .i64 e, .int .i64 t, .int .i64 a, .int .i64 b, .int .i64 o, .int .i64 s], .string x] w fun r w' => (∃ v, r = .returned (.tuple #[.string ⟨#[]⟩, v, .int .i64 c]) ∧ LL w' v 0 (fun _ => 0) (fun _ _ _ => 0)) ∧ Below w.heap.size w w' := fun c w f h => h.mono fun r w' ⟨h1, h2⟩ => ⟨⟨_, h1, Or.inl ⟨rfl, rfl⟩⟩, h2⟩
 by_cases h : latt k l e t a b o s = true
 ·obtain ⟨hk, hl, -⟩ := latt_all h
  obtain ⟨kn, rfl⟩ := Int.eq_ofNat_of_zero_le (a := k) (by omega)
  obtain ⟨ln, rfl⟩ := Int.eq_ofNat_of_zero_le (a := l) (by omega)
  by_cases hx : (x.size : Int) = sz2 kn ln e
  ·by_cases hok : rkse.okK x kn ln e
   ·refine ⟨x.extract 0 128, 0, 3, ms3 kn ln, qs3 x kn ln e, Nat.le_refl _, fun w => ⟨?_, ?_⟩⟩
    rotate_left
    ·refine (rkse.secret_good kn ln e t a b o s x w h hx).mono ?_
     rintro r w' ⟨⟨-, v, rfl, hv⟩ | ⟨hno, -⟩, hb⟩
     ·exact ⟨⟨v, rfl, ll_three (by omega) (by omega) hv⟩, hb⟩
     ·exact absurd hok hno
    ·refine (kse.secret_good kn ln e t a b o s x w h hx).mono ?_
     rintro r w' ⟨⟨-, v, rfl, hv⟩ | ⟨hno, -⟩, hb⟩
     ·exact ⟨⟨v, rfl, ll_three (by omega) (by omega) hv⟩, hb⟩
     ·exact absurd hok hno
   ·refine ⟨⟨#[]⟩, 3, 0, fun _ => 0, fun _ _ _ => 0, by decide, fun w => ⟨nil 3 w _ ?_, nil 3 w _ ?_⟩⟩
    ·refine (kse.secret_good kn ln e t a b o s x w h hx).mono ?_
     rintro r w' ⟨⟨hyes, -⟩ | ⟨-, hr⟩, hb⟩
     ·exact absurd hyes hok
     ·exact ⟨hr, hb⟩
    ·refine (rkse.secret_good kn ln e t a b o s x w h hx).mono ?_
     rintro r w' ⟨⟨hyes, -⟩ | ⟨-, hr⟩, hb⟩
     ·exact absurd hyes hok
     ·exact ⟨hr, hb⟩
  ·exact ⟨⟨#[]⟩, 3, 0, fun _ => 0, fun _ _ _ => 0, by decide, fun w => ⟨nil 3 w _ (kse.secret_len (kn : Int) (ln : Int) e t a b o s x w h hx), nil 3 w _ (rkse.secret_len (kn : Int) (ln : Int) e t a b o s x w h hx)⟩⟩
 ·have h : latt k l e t a b o s = false := by simpa using h
  exact ⟨⟨#[]⟩, 1, 0, fun _ => 0, fun _ _ _ => 0, by decide, fun w => ⟨nil 1 w _ (kse.secret_bad k l e t a b o s x w h), nil 1 w _ (rkse.secret_bad k l e t a b o s x w h)⟩⟩
end
end kbo
end Go.Proofs.YtlcafjdehcddcaaGreatDoor
