/-
  What the document's own Shake of layer 6 returns. Conditions: the tables have their size. What the document's own functions of layer 11 return, in the sponge's bytes. Conditions: the tables hold the constants of the text; seeds of at most 2^50 bytes. What the document's own Split of layer 9 returns. Conditions: none. A region that draws its order and makes a variable for a result ('x, err := f(..)' with x a struct or an array): the allocation may come at any time, so that the variable's address is not known; all else is walked once, in the order of the text. No program is named here. Conditions: as each theorem says. A region that draws its order and makes several variables for results ('x, y := f(..), g(..)' with structs or arrays): the allocations may come at any time, so that no variable's address is known; all else is walked once, in the order of the text. No program is named here. Conditions: as each theorem says. VaryN's end for two and for three variables. No program is named here. Conditions: as each theorem says. Variables of type api.Poly made in a region that draws its order. No function of the program is named. Conditions: none. What the reference's Cut returns, for any string and number: the first bytes. Conditions: none but that the string's length fits an int.
-/
import Derived.Test.YtlcafjdehcddcaaGreatDoorZs19
import Derived.Test.YtlcafjdehcddcaaGreatDoorZs07
import Derived.Test.YtlcafjdehcddcaaGreatDoorZs18
import Derived.Test.YtlcafjdehcddcaaGreatDoorZs09
import Derived.Test.YtlcafjdehcddcaaGreatDoorZs08
import Derived.Test.YtlcafjdehcddcaaGreatDoorZs03
import Derived.Test.YtlcafjdehcddcaaGreatDoorZs15
import Derived.Test.YtlcafjdehcddcaaGreatDoorZs01
import Derived.Test.YtlcafjdehcddcaaGreatDoorProg
import Derived.Great.Frames
import Derived.Lib.MinMax
namespace Go.Proofs.YtlcafjdehcddcaaGreatDoor
namespace rsph
open Go Go.RowKit
open arr mem kecm kecb kstep kfun spgm rspa rspb rspc rspd spof spok
theorem ok_in (k : Int) (a : Nat) (h : a < rate k) : ok k (a : Int) false = true := by
 unfold ok
 rw [decide_eq_true (show 0 < rate k by omega), decide_eq_true (show (0 : Int) ≤ (a : Int) by omega), decide_eq_true (show (a : Int) < (rate k : Int) by omega)]
 rfl
set_option maxRecDepth 100000 in
set_option maxHeartbeats 4000000 in
theorem once_go {T : Array Value} {ts rs : List Nat} (k : Int) (b : ByteArray) (n : Nat) (w : World) (hK : KT T ts rs) (hra : 0 < rate k) (hn : n ≤ 50000) (hb : b.size ≤ 1125899906842624) :
 Calls Tryz.prog 86 #[.agg T, .int .i64 k, .string b, .int .i64 (n : Int)] w fun e w' => e = .returned (.tuple #[.string (out ts rs k b n), .int .i64 0]) ∧ Below w.heap.size w w' := by
 have hPst : ∀ l, St l → St (PP ts rs l) := fun _ h => pp_st hK.br h
 have hEo : St (abs (PP ts rs) (rate k) ⟨Z, 0⟩ (bys b)).l ∧ (abs (PP ts rs) (rate k) ⟨Z, 0⟩ (bys b)).at' < rate k := abs_ok hPst _ z_st hra
 obtain ⟨A, HA⟩ := ex_eq (out ts rs k b n)
 have C2 : Away (∀ w1 : World, Calls Tryz.prog 119 #[.agg T, .agg (SC k Z 0 false), .string b] w1 fun e w' => e = .returned (.tuple #[.agg (SC k (abs (PP ts rs) (rate k) ⟨Z, 0⟩ (bys b)).l ((abs (PP ts rs) (rate k) ⟨Z, 0⟩ (bys b)).at' : Nat) false), .int .i64 0]) ∧ Below w1.heap.size w1 w') := ⟨fun w1 => rspd.absorb_go k 0 Z b w1 z_st hK (ok_in k 0 hra) hb⟩
 obtain ⟨E, HE⟩ := ex_eq (abs (PP ts rs) (rate k) ⟨Z, 0⟩ (bys b))
 rw [HE.out] at C2 hEo
 have HA2 : Away (⟨(u8s (sq (PP ts rs) (rate k) (pad (rate k) (spgm.mark k) ⟨E.l, E.at'⟩) n)).toArray⟩ = A) := ⟨by rw [← HA.out, ← HE.out]; rfl⟩
 rw [HA.out]
 have C3 : Away (∀ w1 : World, Calls Tryz.prog 120 #[.agg T, .agg (SC k E.l (E.at' : Int) false), .int .i64 (n : Int)] w1 fun e w' => e = .returned (.tuple #[.agg (SC k (sk (PP ts rs) (rate k) (pad (rate k) (spgm.mark k) ⟨E.l, E.at'⟩) n).l ((sk (PP ts rs) (rate k) (pad (rate k) (spgm.mark k) ⟨E.l, E.at'⟩) n).at' : Nat) true), .string A, .int .i64 0]) ∧ Below w1.heap.size w1 w') := ⟨fun w1 => by rw [← HA2.out]; exact rspg.squeeze_pad k E.at' n E.l w1 hEo.1 hK (ok_in k _ hEo.2) ⟨hra, hEo.2, rate_le k⟩ hn⟩
 clear HA HA2 HE
 have C1 : Away (∀ w1 : World, Calls Tryz.prog 118 #[.int .i64 k] w1 fun e w' => e = .returned (.tuple #[.agg (SC k Z 0 false), .int .i64 0]) ∧ Below w1.heap.size w1 w') := ⟨fun w1 => rspe.new_good k w1 hra⟩
 have HTz : Away ((Tryz.prog.info? 38).map (·.size) = some T.size) := ⟨by rw [hK.size]; exact rkeb.sizeT⟩
 obtain ⟨S0, HS0⟩ := ex_eq (SC k Z 0 false)
 have i0 : Away ((Tryz.prog.info? 130).map (·.size) = some S0.size) := ⟨by rw [← HS0.out]; exact sc_info _ _ _ z_len⟩
 have o0 : Away (S0.all (·.oneCell') = true) := ⟨by rw [← HS0.out]; exact sc_one _ _ _ _⟩
 have z0 : Away (S0.size = 28) := ⟨by rw [← HS0.out]; exact sc_size _ _ _ z_len⟩
 obtain ⟨S1, HS1⟩ := ex_eq (SC k E.l (E.at' : Int) false)
 have i1 : Away ((Tryz.prog.info? 130).map (·.size) = some S1.size) := ⟨by rw [← HS1.out]; exact sc_info _ _ _ hEo.1.len⟩
 have o1 : Away (S1.all (·.oneCell') = true) := ⟨by rw [← HS1.out]; exact sc_one _ _ _ _⟩
 have z1 : Away (S1.size = 28) := ⟨by rw [← HS1.out]; exact sc_size _ _ _ hEo.1.len⟩
 have hsk := (sk_ok hPst hra (pad_ok (r := rate k) (m := spgm.mark k) (s := ⟨E.l, E.at'⟩) hEo.1).1 (pad_ok (r := rate k) (m := spgm.mark k) (s := ⟨E.l, E.at'⟩) hEo.1).2 n).1.len
 obtain ⟨E2, HE2⟩ := ex_eq (sk (PP ts rs) (rate k) (pad (rate k) (spgm.mark k) ⟨E.l, E.at'⟩) n)
 rw [HE2.out] at C3 hsk
 obtain ⟨S2, HS2⟩ := ex_eq (SC k E2.l (E2.at' : Int) true)
 have i2 : Away ((Tryz.prog.info? 130).map (·.size) = some S2.size) := ⟨by rw [← HS2.out]; exact sc_info _ _ _ hsk⟩
 have o2 : Away (S2.all (·.oneCell') = true) := ⟨by rw [← HS2.out]; exact sc_one _ _ _ _⟩
 have z2 : Away (S2.size = 28) := ⟨by rw [← HS2.out]; exact sc_size _ _ _ hsk⟩
 rw [HS2.out] at C3
 clear hsk HS2 HE2
 rw [HS0.out] at C1 C2
 rw [HS1.out] at C2 C3
 clear hEo hPst HS0 HS1 hK
 obtain ⟨W, hW⟩ : ∃ x, w.alloc (.cells T 38) = x := ⟨_, rfl⟩
 have HW := Away.mk hW
 have BW : Away (Below w.heap.size w W) := ⟨by rw [← hW]; exact below_alloc _ _⟩
 have GW : Away (W.heap[w.heap.size]? = some (.cells T 38 (0, 0))) := ⟨by rw [← hW]; exact heap_at _ _ _ rfl⟩
 have hzW : W.heap.size = w.heap.size + 1 := by rw [← hW]; exact size_alloc _ _
 clear hW
 go_enter Tryz.func86, Tryz.ntmps86
 go_wp2_with (rw [HW.out])
 refine (C1.out _).mono ?_
 rintro e w2 ⟨rfl, hb2⟩
 obtain ⟨W3, hW3⟩ : ∃ x, w2.alloc (.cells S0 130) = x := ⟨_, rfl⟩
 have HW3 := Away.mk hW3
 have B3 : Away (Below W.heap.size W W3) := ⟨by rw [← hW3]; exact hb2.alloc hb2.size _⟩
 have G3 : Away (W3.heap[w.heap.size]? = some (.cells T 38 (0, 0))) := ⟨(B3.out.block _ (by omega)).trans GW.out⟩
 have R3 : Away (W3.heap[w2.heap.size]? = some (.cells S0 130 (0, 0))) := ⟨by rw [← hW3]; exact heap_at _ _ _ rfl⟩
 have h2W : W.heap.size ≤ w2.heap.size := hb2.size
 clear hb2 hW3
 go_wp2_with (first
  | (refine wpList_store_new rfl 130 _ _ rfl S0 rfl rfl i0.out (by exact z0.out.symm) o0.out rfl ?_)
  | (rw [HW3.out])
  | (refine wpList_load_row rfl 38 _ rfl w.heap.size rfl 38 T (0, 0) _ G3.out Tryz.underlying38 rfl HTz.out ?_)
  | (refine wpList_load_row rfl 130 _ rfl w2.heap.size rfl 130 S0 (0, 0) _ R3.out Tryz.underlying130 rfl i0.out ?_))
 refine (C2.out _).mono ?_
 rintro e w4 ⟨rfl, hb4⟩
 obtain ⟨W5, hW5⟩ : ∃ x, w4.setRow w2.heap.size S1 = x := ⟨_, rfl⟩
 have HW5 := Away.mk hW5
 have R4 : Away (w4.heap[w2.heap.size]? = some (.cells S0 130 (0, 0))) := ⟨(hb4.block _ (lt_of_row R3.out)).trans R3.out⟩
 have B5 : Away (Below W.heap.size W W5) := ⟨by rw [← hW5]; exact (B3.out.trans (hb4.mono B3.out.size)).trans (below_setRow _ _ _ h2W)⟩
 have G5 : Away (W5.heap[w.heap.size]? = some (.cells T 38 (0, 0))) := ⟨(B5.out.block _ (by omega)).trans GW.out⟩
 have R5 : Away (W5.heap[w2.heap.size]? = some (.cells S1 130 (0, 0))) := ⟨by rw [← hW5]; exact setRow_heap _ _ _ _ _ _ R4.out⟩
 clear hb4 hW5 HW3
 go_wp2_with (first
  | (refine wpList_store_row rfl 130 _ _ rfl w2.heap.size S1 rfl rfl 130 _ R4.out i1.out (z0.out.trans z1.out.symm) o1.out ?_)
  | (rw [HW5.out])
  | (refine wpList_load_row rfl 38 _ rfl w.heap.size rfl 38 T (0, 0) _ G5.out Tryz.underlying38 rfl HTz.out ?_)
  | (refine wpList_load_row rfl 130 _ rfl w2.heap.size rfl 130 S1 (0, 0) _ R5.out Tryz.underlying130 rfl i1.out ?_))
 refine (C3.out _).mono ?_
 rintro e w6 ⟨rfl, hb6⟩
 obtain ⟨W7, hW7⟩ : ∃ x, w6.alloc (.cells S2 130) = x := ⟨_, rfl⟩
 have HW7 := Away.mk hW7
 have B7 : Away (Below w.heap.size w W7) := ⟨by rw [← hW7]; exact (BW.out.trans ((B5.out.trans (hb6.mono B5.out.size)).mono BW.out.size)).alloc (Nat.le_trans BW.out.size (Nat.le_trans B5.out.size hb6.size)) _⟩
 clear hb6 hW7 HW5
 go_wp2_with (first
  | (refine wpList_store_new rfl 130 _ _ rfl S2 rfl rfl i2.out (by exact z2.out.symm) o2.out rfl ?_)
  | (rw [HW7.out]))
 go_ret2
 exact ⟨rfl, B7.out⟩
set_option maxRecDepth 100000 in
set_option maxHeartbeats 2000000 in
theorem shake_go1 {T : Array Value} {ts rs : List Nat} (k : Int) (b : ByteArray) (n : Nat) (w : World) (hK : KT T ts rs) (h1 : k = 1) (hn : n ≤ 50000) (hb : b.size ≤ 1125899906842624) :
 Calls Tryz.prog 41 #[.agg T, .int .i64 k, .string b, .int .i64 (n : Int)] w fun e w' => e = .returned (.tuple #[.string (out ts rs k b n), .int .i64 0]) ∧ Below w.heap.size w w' := by
 have HTz : Away ((Tryz.prog.info? 38).map (·.size) = some T.size) := ⟨by rw [hK.size]; exact rkeb.sizeT⟩
 have C3 : Away (∀ w1 : World, Calls Tryz.prog 86 #[.agg T, .int .i64 k, .string b, .int .i64 (n : Int)] w1 fun e w' => e = .returned (.tuple #[.string (out ts rs k b n), .int .i64 0]) ∧ Below w1.heap.size w1 w') := ⟨fun w1 => once_go k b n w1 hK (by rw [h1]; decide) hn hb⟩
 obtain ⟨A, HA⟩ := ex_eq (out ts rs k b n)
 rw [HA.out] at C3 ⊢
 subst h1
 clear hn hK HA
 obtain ⟨W, hW⟩ : ∃ x, w.alloc (.cells T 38) = x := ⟨_, rfl⟩
 have HW := Away.mk hW
 have BW : Away (Below w.heap.size w W) := ⟨by rw [← hW]; exact below_alloc _ _⟩
 have GW : Away (W.heap[w.heap.size]? = some (.cells T 38 (0, 0))) := ⟨by rw [← hW]; exact heap_at _ _ _ rfl⟩
 clear hW
 go_enter Tryz.func41, Tryz.ntmps41
 go_wp2_with (first
  | (rw [HW.out])
  | (refine wpList_load_row rfl 38 _ rfl w.heap.size rfl 38 T (0, 0) _ GW.out Tryz.underlying38 rfl HTz.out ?_))
 refine (C3.out W).mono ?_
 rintro e w3 ⟨rfl, h3⟩
 have HB3 : Away (Below w.heap.size w w3) := ⟨BW.out.trans (h3.mono BW.out.size)⟩
 clear h3
 go_wp2_with fail
 go_ret2
 exact ⟨rfl, HB3.out⟩
set_option maxRecDepth 100000 in
set_option maxHeartbeats 2000000 in
theorem shake_go2 {T : Array Value} {ts rs : List Nat} (k : Int) (b : ByteArray) (n : Nat) (w : World) (hK : KT T ts rs) (h1 : k = 2) (hn : n ≤ 50000) (hb : b.size ≤ 1125899906842624) :
 Calls Tryz.prog 41 #[.agg T, .int .i64 k, .string b, .int .i64 (n : Int)] w fun e w' => e = .returned (.tuple #[.string (out ts rs k b n), .int .i64 0]) ∧ Below w.heap.size w w' := by
 have HTz : Away ((Tryz.prog.info? 38).map (·.size) = some T.size) := ⟨by rw [hK.size]; exact rkeb.sizeT⟩
 have C3 : Away (∀ w1 : World, Calls Tryz.prog 86 #[.agg T, .int .i64 k, .string b, .int .i64 (n : Int)] w1 fun e w' => e = .returned (.tuple #[.string (out ts rs k b n), .int .i64 0]) ∧ Below w1.heap.size w1 w') := ⟨fun w1 => once_go k b n w1 hK (by rw [h1]; decide) hn hb⟩
 obtain ⟨A, HA⟩ := ex_eq (out ts rs k b n)
 rw [HA.out] at C3 ⊢
 subst h1
 clear hn hK HA
 obtain ⟨W, hW⟩ : ∃ x, w.alloc (.cells T 38) = x := ⟨_, rfl⟩
 have HW := Away.mk hW
 have BW : Away (Below w.heap.size w W) := ⟨by rw [← hW]; exact below_alloc _ _⟩
 have GW : Away (W.heap[w.heap.size]? = some (.cells T 38 (0, 0))) := ⟨by rw [← hW]; exact heap_at _ _ _ rfl⟩
 clear hW
 go_enter Tryz.func41, Tryz.ntmps41
 go_wp2_with (first
  | (rw [HW.out])
  | (refine wpList_load_row rfl 38 _ rfl w.heap.size rfl 38 T (0, 0) _ GW.out Tryz.underlying38 rfl HTz.out ?_))
 refine (C3.out W).mono ?_
 rintro e w3 ⟨rfl, h3⟩
 have HB3 : Away (Below w.heap.size w w3) := ⟨BW.out.trans (h3.mono BW.out.size)⟩
 clear h3
 go_wp2_with fail
 go_ret2
 exact ⟨rfl, HB3.out⟩
end rsph
end Go.Proofs.YtlcafjdehcddcaaGreatDoor
namespace Go.Proofs.YtlcafjdehcddcaaGreatDoor
namespace rsdoc
open Go Go.RowKit
open arr mem keca kstep spok polys polt rbita rbitc rbitf rbitg rndm samm samb samc saml samr
theorem uniform {T : Array Value} (b : ByteArray) (w : World) (hK : KT T TL RL) (hb : b.size ≤ 1125899906842624) :
 Calls Tryz.prog 88 #[.agg T, .string b] w fun e w' => e = .returned (.agg (FL .i64 256 (dU b))) ∧ Below w.heap.size w w' :=
 rsuni.uniform_any b _ w (infoT T hK) (out_size 1 b 1008) fun w1 => rsph.shake_go1 1 b 1008 w1 hK rfl (by decide) hb
theorem small {T : Array Value} (b : ByteArray) (e : Int) (w : World) (hK : KT T TL RL) (hb : b.size ≤ 1125899906842624) :
 Calls Tryz.prog 87 #[.agg T, .string b, .int .i64 e] w fun x w' => x = .returned (.agg (FL .i64 256 (dS b e))) ∧ Below w.heap.size w w' :=
 rssma.small_any b _ e w (infoT T hK) (out_size 2 b 816) fun w1 => rsph.shake_go2 2 b 816 w1 hK rfl (by decide) hb
theorem secrets {T : Array Value} (kn ln : Nat) (e t a b o s : Int) (sd : ByteArray) (w : World) (hK : KT T TL RL) (h : latt (kn : Int) (ln : Int) e t a b o s = true) (hsd : sd.size ≤ 1000) :
 Calls Tryz.prog 43 #[.agg T, .agg #[.int .i64 (kn : Int), .int .i64 (ln : Int), .int .i64 e, .int .i64 t, .int .i64 a, .int .i64 b, .int .i64 o, .int .i64 s], .string sd] w fun x w' => (∃ v1 v2, x = .returned (.tuple #[v1, v2]) ∧ w'.ownsRow w.heap.size 25 256 v1 ln (cq (qS sd e) ln) ∧ w'.ownsRow w.heap.size 25 256 v2 kn (cq (fun i => qS sd e (ln + i)) kn)) ∧ Below w.heap.size w w' := by
 obtain ⟨h1, h2, -⟩ := latt_of h
 exact rssec.secrets_yes kn ln e t a b o s sd (qS sd e) w (infoT T hK) (by omega) (by omega) h (by omega) fun r _ w1 => small (tw sd r 0) e w1 hK (by rw [tw_size]; omega)
theorem matrix {T : Array Value} (kn ln : Nat) (e t a b o s : Int) (sd : ByteArray) (w : World) (hK : KT T TL RL) (h : latt (kn : Int) (ln : Int) e t a b o s = true) (hsd : sd.size ≤ 1000) :
 Calls Tryz.prog 44 #[.agg T, .agg #[.int .i64 (kn : Int), .int .i64 (ln : Int), .int .i64 e, .int .i64 t, .int .i64 a, .int .i64 b, .int .i64 o, .int .i64 s], .string sd] w fun x w' => (∃ v vs, x = .returned v ∧ w'.ownsRow w.heap.size 45 1 v kn vs ∧ Rowl w' w.heap.size v.ownBlock vs ln (qX sd)) ∧ Below w.heap.size w w' := by
 obtain ⟨h1, h2, -⟩ := latt_of h
 exact rsmat.matrix_yes kn ln e t a b o s sd (qX sd) w (infoT T hK) (by omega) (by omega) h (by omega) fun r c _ _ w1 => uniform (tw sd c r) w1 hK (by rw [tw_size]; omega)
end rsdoc
end Go.Proofs.YtlcafjdehcddcaaGreatDoor
namespace Go.Proofs.YtlcafjdehcddcaaGreatDoor
namespace rspl
open Go Go.RowKit
open arr mem stil polys polt fldm rfld rndm floa twor
set_option maxRecDepth 100000 in
set_option maxHeartbeats 4000000 in
theorem split_any (f : Nat → Int) (w : World) :
 Calls Tryz.prog 45 #[.agg (FL .i64 256 f)] w fun e w' => e = .returned (.tuple #[.agg (FL .i64 256 fun i => sh (f i)), .agg (FL .i64 256 fun i => sl (f i) % 8380417)]) ∧ Below w.heap.size w w' := by
 obtain ⟨hz, hsize⟩ := zero_of_info infoP
 obtain ⟨z, HZ⟩ := ex_eq (FL .i64 256 fun _ => 0)
 rw [HZ.out] at hz
 have Hzs : Away (z.size = 256) := ⟨by rw [← HZ.out]; exact fl_size _ _ _⟩
 obtain ⟨F, HF⟩ : ∃ F : Nat → Int, Away (F = fun i => sh (f i)) := ⟨_, ⟨rfl⟩⟩
 have HFi : Away (∀ i, F i = sh (f i)) := ⟨fun i => by rw [HF.out]⟩
 obtain ⟨G, HG⟩ : ∃ G : Nat → Int, Away (G = fun i => sl (f i) % 8380417) := ⟨_, ⟨rfl⟩⟩
 have HGi : Away (∀ i, G i = sl (f i) % 8380417) := ⟨fun i => by rw [HG.out]⟩
 rw [← HF.out, ← HG.out]
 clear HF HG
 have sz : ∀ h : Nat → Int, (Tryz.prog.info? 25).map (·.size) = some (FL .i64 256 h).size := fun h => by rw [fl_size]; exact hsize
 obtain ⟨R, HR⟩ := ex_eq (FL .i64 256 F)
 have Ri : Away ((Tryz.prog.info? 25).map (·.size) = some R.size) := ⟨by rw [← HR.out]; exact sz _⟩
 have Ro : Away (R.all (·.oneCell') = true) := ⟨by rw [← HR.out]; exact fl_one _ _ _⟩
 have Rz : Away (z.size = R.size) := ⟨by rw [Hzs.out, ← HR.out, fl_size]⟩
 obtain ⟨S, HS⟩ := ex_eq (FL .i64 256 G)
 have Si : Away ((Tryz.prog.info? 25).map (·.size) = some S.size) := ⟨by rw [← HS.out]; exact sz _⟩
 have So : Away (S.all (·.oneCell') = true) := ⟨by rw [← HS.out]; exact fl_one _ _ _⟩
 have Sz : Away (z.size = S.size) := ⟨by rw [Hzs.out, ← HS.out, fl_size]⟩
 obtain ⟨I, HI⟩ := ex_eq (FL .i64 256 f)
 have Ii : Away ((Tryz.prog.info? 25).map (·.size) = some I.size) := ⟨by rw [← HI.out]; exact sz _⟩
 rw [HR.out, HS.out, HI.out]
 clear hsize sz
 have Hix : Away (∀ (i : Nat), i < 256 → ∀ w1 : World, (Instr.index 25 (.agg I) (.int .i64 (i : Int))).run Tryz.prog w1 = .ok (.int .i64 (f i)) w1) := ⟨fun i hi w1 => by rw [← HI.out]; exact index_poly f i hi w1⟩
 have Hred := Away.mk reduce_any
 have Hcen := Away.mk centre_any
 have Io : Away (I.all (·.oneCell') = true) := ⟨by rw [← HI.out]; exact fl_one _ _ _⟩
 have Iz : Away (z.size = I.size) := ⟨by rw [Hzs.out, ← HI.out, fl_size]⟩
 obtain ⟨W1, hW1⟩ : ∃ x, ((w.alloc (.cells I 25)).alloc (.cells z 25)).alloc (.cells z 25) = x := ⟨_, rfl⟩
 obtain ⟨b0, b1, b2, hWs1, hWb1⟩ := three hW1
 obtain ⟨W, hW⟩ : ∃ x, W1.alloc (.cells I 25) = x := ⟨_, rfl⟩
 obtain ⟨c3, hWs, hWb⟩ := one hW
 rw [hWs1] at c3 hWs
 have R0 : Away (W1.heap[w.heap.size]? = some (.cells I 25 (0, 0))) := ⟨b0⟩
 have B0 : Away (W.heap[w.heap.size]? = some (.cells I 25 (0, 0))) := ⟨(hWb.block _ (by omega)).trans b0⟩
 have B1 : Away (W.heap[w.heap.size + 1]? = some (.cells z 25 (0, 0))) := ⟨(hWb.block _ (by omega)).trans b1⟩
 have B2 : Away (W.heap[w.heap.size + 2]? = some (.cells z 25 (0, 0))) := ⟨(hWb.block _ (by omega)).trans b2⟩
 have B3 : Away (W.heap[w.heap.size + 3]? = some (.cells I 25 (0, 0))) := ⟨c3⟩
 have HW1s : Away (W1.heap.size = w.heap.size + 3) := ⟨hWs1⟩
 have HWB : Away (Below w.heap.size w W) := ⟨hWb1.trans (hWb.mono (by omega))⟩
 have HW1 := Away.mk hW1
 have HW := Away.mk hW
 clear hW hW1 b0 b1 b2 c3 hWs1 hWs hWb1 hWb
 go_enter Tryz.func45, Tryz.ntmps45
 go_wp2_with (first
  | (rw [HW1.out])
  | (rw [HW.out])
  | (refine wpList_load_row rfl 25 _ rfl w.heap.size rfl 25 I (0, 0) _ R0.out Tryz.underlying25 rfl Ii.out ?_)
  | (refine wpList_store_new rfl 25 _ _ rfl I rfl rfl Ii.out (by exact Iz.out) Io.out rfl ?_)
  | (refine wpList_load_row rfl 25 _ rfl w.heap.size rfl 25 I (0, 0) _ B0.out Tryz.underlying25 rfl Ii.out ?_))
 clear hz
 rw [HW1s.out]
 go_loopw [10] (fun v wr => ∃ i : Nat, i ≤ 256 ∧ v = .int .i64 (i : Int) ∧ Away (Below w.heap.size w wr ∧ wr.heap[w.heap.size + 1]? = some (.cells z 25 (0, 0)) ∧ wr.heap[w.heap.size + 2]? = some (.cells z 25 (0, 0)) ∧
  wr.heap[w.heap.size]? = some (.cells (FL .i64 256 (pt F f i)) 25 (0, 0)) ∧ wr.heap[w.heap.size + 3]? = some (.cells (FL .i64 256 (pt G f i)) 25 (0, 0)))) (fun v _ => 256 - (intOf v).toNat)
 case atStart => exact ⟨0, Nat.zero_le _, rfl, ⟨HWB.out, B1.out, B2.out, by rw [pt_zero, HI.out]; exact B0.out, by rw [pt_zero, HI.out]; exact B3.out⟩⟩
 case round =>
  obtain ⟨i, hi, rfl, A0⟩ := hrel
  by_cases hlt : i < 256
  ·have hiz : (i : Int) < 256 := by omega
   have hx0 := Hix.out i hlt wr
   obtain ⟨x, hx⟩ : ∃ x, f i = x := ⟨_, rfl⟩
   rw [hx] at hx0
   have HV : Away (F i = sh x ∧ G i = sl x % 8380417) := ⟨by rw [HFi.out, HGi.out, hx]; exact ⟨rfl, rfl⟩⟩
   have hb := sl_bound x
   have hs := (split_is x)
   have Hr := Hred.out x
   have Hc := Hcen.out (x % 8380417) 8192
   rw [show ce 8192 (x % 8380417) = sl x from rfl] at Hc
   obtain ⟨v, hv⟩ := ex_eq (sh x)
   have hvd : (x % 8380417 - sl x) / 8192 = v := hv.out
   obtain ⟨l, hl⟩ := ex_eq (sl x)
   rw [hl.out] at Hc hb hs hvd
   rw [hv.out] at hs
   obtain ⟨r, hr⟩ := ex_eq (x % 8380417)
   have hrb : 0 ≤ r ∧ r < 8380417 := by rw [← hr.out]; omega
   rw [hr.out] at Hr Hc hb hvd hs
   have Hl := Hred.out l
   obtain ⟨u, hu⟩ := ex_eq (l % 8380417)
   rw [hu.out] at Hl
   obtain ⟨d, hd⟩ : ∃ d, r - l = d := ⟨_, rfl⟩
   have f1 : IntKind.i64.wrap (r - l) = d := by rw [hd, IntKind.wrap_i64]; omega
   rw [hd] at hvd
   have hd0 : 0 ≤ d := by omega
   have f2 : d / 8192 = v := hvd
   have f3 : IntKind.i64.wrap (d / 8192) = v := by rw [hvd, IntKind.wrap_i64]; omega
   have f4 : IntKind.i64.wrap v = v := by rw [IntKind.wrap_i64]; omega
   have HU : Away (upd (pt F f i) i v = pt F f (i + 1)) := ⟨pt_upd F f i v (by rw [HV.out.1, hv.out])⟩
   have HU2 : Away (upd (pt G f i) i u = pt G f (i + 1)) := ⟨pt_upd G f i u (by rw [HV.out.2, hl.out, hu.out])⟩
   clear hx hb hs hd hd0 hvd hrb hr hv hl hu HV
   go_wp2_with fail
   refine (Hr _).mono ?_
   rintro e wx ⟨rfl, rfl⟩
   go_wp2_with fail
   refine (Hc _).mono ?_
   rintro e wy ⟨rfl, rfl⟩
   have A1 : Away (At w.heap.size (FL .i64 256 (pt F f i)) 25 wy wy) := ⟨At.refl A0.out.2.2.2.1⟩
   go_wp2_with ((with_reducible refine wpList_put2 A1 rfl _ _ _ rfl rfl ?_); refine ⟨_, _, _, rfl, rfl, rfl, (by rw [fl_size]; exact hlt), ?_⟩; intro w5 A2; rw [fl_set, HU.out] at A2)
   refine (Hl _).mono ?_
   rintro e w5 ⟨rfl, rfl⟩
   have A3 : Away (At (w.heap.size + 3) (FL .i64 256 (pt G f i)) 25 w5 w5) := ⟨At.refl (A2.out.other (lt_of_row A0.out.2.2.2.2) (by omega) A0.out.2.2.2.2)⟩
   go_wp2_with ((with_reducible refine wpList_put2 A3 rfl _ _ _ rfl rfl ?_); refine ⟨_, _, _, rfl, rfl, rfl, (by rw [fl_size]; exact hlt), ?_⟩; intro w6 A4; rw [fl_set, HU2.out] at A4)
   have AE : Away (Below w.heap.size w w6 ∧ w6.heap[w.heap.size + 1]? = some (.cells z 25 (0, 0)) ∧ w6.heap[w.heap.size + 2]? = some (.cells z 25 (0, 0)) ∧
    w6.heap[w.heap.size]? = some (.cells (FL .i64 256 (pt F f (i + 1))) 25 (0, 0)) ∧ w6.heap[w.heap.size + 3]? = some (.cells (FL .i64 256 (pt G f (i + 1))) 25 (0, 0))) := ⟨by
    have s0 := A0.out.1.size
    have s1 := A2.out.size
    have l1 := lt_of_row A0.out.2.1
    have l2 := lt_of_row A0.out.2.2.1
    have l3 := lt_of_row A2.out.row
    exact ⟨(A0.out.1.trans (A2.out.below (by omega) (by omega))).trans (A4.out.below (by omega) (by omega)),
     A4.out.other (by omega) (by omega) (A2.out.other l1 (by omega) A0.out.2.1), A4.out.other (by omega) (by omega) (A2.out.other l2 (by omega) A0.out.2.2.1),
     A4.out.other (by omega) (by omega) A2.out.row, A4.out.row⟩⟩
   clear A0 A1 A2 A3 A4
   go_wp2_with fail
   go_roundw
   case rel => exact ⟨i + 1, by omega, by go_num, AE⟩
   case measure => simp [intOf]; omega
  ·obtain rfl : i = 256 := by omega
   simp only [Int.cast_ofNat_Int]
   rw [fl_all, fl_all, HR.out, HS.out] at A0
   have K0 : Two Tryz.prog wr.drew 25 w.heap.size (w.heap.size + 1) R := ⟨⟨_, _, A0.out.2.2.2.1⟩, ⟨_, _, A0.out.2.1, Rz.out⟩, ⟨_, Tryz.underlying25, rfl⟩, Ri.out, Ro.out⟩
   have K1 : Two Tryz.prog wr.drew 25 (w.heap.size + 3) (w.heap.size + 2) S := ⟨⟨_, _, A0.out.2.2.2.2⟩, ⟨_, _, A0.out.2.2.1, Sz.out⟩, ⟨_, Tryz.underlying25, rfl⟩, Si.out, So.out⟩
   have HK := Away.mk (And.intro K0 K1)
   clear K0 K1
   go_wp2_with fail
   refine region_two 25 25 1 4 2 3 29 30 (by kernel_rfl) (by kernel_rfl) ⟨rfl, rfl, rfl⟩ ⟨rfl, rfl, rfl⟩ ⟨rfl, rfl, rfl⟩ ⟨rfl, rfl, rfl⟩ (by decide) ⟨(of_decide_eq_true rfl : 29 < 31), (of_decide_eq_true rfl : 30 < 31)⟩ _ _ _ _ R S rfl rfl rfl rfl HK.out.1 HK.out.2 (by omega) (by omega) ?_
   go_wp2_with fail
   have q0 : (wr.drew.setRow (w.heap.size + 1) R).heap[w.heap.size + 1]? = some (.cells R 25 (0, 0)) := setRow_heap _ _ _ _ _ _ A0.out.2.1
   have q1 : (wr.drew.setRow (w.heap.size + 1) R).heap[w.heap.size + 2]? = some (.cells z 25 (0, 0)) := (setRow_other _ _ _ _ (by omega)).trans A0.out.2.2.1
   refine bodyPost_ret_by (v := .tuple #[.agg R, .agg S]) (results_cells rfl _ _ (w.heap.size + 1) (w.heap.size + 2) R S rfl rfl 25 25 (0, 0) (0, 0) ((setRow_other _ _ _ _ (by omega)).trans q0) (setRow_heap _ _ _ _ _ _ q1) _ _ Tryz.underlying25 rfl Tryz.underlying25 rfl Ri.out Si.out) rfl ?_
   exact ⟨rfl, (A0.out.1.drew.trans (below_setRow _ _ _ (by omega))).trans (below_setRow _ _ _ (by omega))⟩
end rspl
end Go.Proofs.YtlcafjdehcddcaaGreatDoor
namespace Go.Proofs.YtlcafjdehcddcaaGreatDoor
namespace vary
set_option linter.unusedSimpArgs false
open Go Go.RowKit
open arr mem
section
variable {P : Program} {ops : Array Oper} {md : Region.Mode} {C : World → Prop}
def Mild (P : Program) (C : World → Prop) (o : Oper) (a : Act) (v : Value) : Prop := ∀ w, C w → o.quietAt P a (fun w' => Below w.heap.size w w') w v
def wpMild (P : Program) (ops : Array Oper) (C : World → Prop) (Q : Act → Prop) : List Oper → Act → Prop
 | [], a => Q a
 | o :: rest, a => if Region.wanted o (yielded ops a.tmps) = true then ∃ v, Mild P C o a v ∧ wpMild P ops C Q rest (a.put o.dst v) else wpMild P ops C Q rest (a.put o.dst undef)
def mOp (P : Program) (ops : Array Oper) (C : World → Prop) (o : Oper) (K : Act → Prop) (a : Act) : Prop :=
 if Region.wanted o (yielded ops a.tmps) = true then ∃ v, Mild P C o a v ∧ K (a.put o.dst v) else K (a.put o.dst undef)
def anyM (P : Program) (md : Region.Mode) (ops : Array Oper) (C : World → Prop) (Q : Act → Prop) : Nat → Array Bool → Act → Prop
 | 0, b, a => Region.ready md ops b = [] ∧ Q a
 | f + 1, b, a => (Region.ready md ops b = [] → Q a) ∧ ∀ i o, i ∈ Region.ready md ops b → ops[i]? = some o → mOp P ops C o (anyM P md ops C Q f (b.setIfInBounds i true)) a
def YieldsM (P : Program) (ops : Array Oper) (C : World → Prop) (o : Oper) (v : Value) (a : Act) : Prop :=
 (Region.wanted o (yielded ops a.tmps) = true ∧ Mild P C o a v) ∨ (Region.wanted o (yielded ops a.tmps) = false ∧ v = undef)
theorem YieldsM.mOp {o : Oper} {v : Value} {a : Act} (hy : YieldsM P ops C o v a) {K : Act → Prop} (h : K (a.put o.dst v)) : mOp P ops C o K a := by
 unfold vary.mOp
 rcases hy with ⟨h1, h2⟩ | ⟨h1, rfl⟩
 ·rw [if_pos h1]; exact ⟨v, h2, h⟩
 ·rw [if_neg (by rw [h1]; decide)]; exact h
theorem yieldsM_of {o : Oper} {a : Act} {K : Act → Prop} (h : mOp P ops C o K a) : ∃ v, YieldsM P ops C o v a ∧ K (a.put o.dst v) := by
 unfold mOp at h
 by_cases hw : Region.wanted o (yielded ops a.tmps) = true
 ·rw [if_pos hw] at h
  obtain ⟨v, h1, h2⟩ := h
  exact ⟨v, Or.inl ⟨hw, h1⟩, h2⟩
 ·rw [if_neg hw] at h
  exact ⟨undef, Or.inr ⟨by simpa using hw, rfl⟩, h⟩
theorem mOp_mono {o : Oper} {a : Act} {K K' : Act → Prop} (h : ∀ a, K a → K' a) (hh : mOp P ops C o K a) : mOp P ops C o K' a := by
 obtain ⟨v, h1, h2⟩ := yieldsM_of hh
 exact h1.mOp (h _ h2)
theorem YieldsM.put {o : Oper} {v : Value} {a : Act} (hs : ∀ cs b, o.op ≠ .select cs b) (x : Option Tmp) (u : Value) (h : ∀ d, x = some d → d ∉ o.looksAt ops) (hy : YieldsM P ops C o v a) : YieldsM P ops C o v (a.put x u) := by
 unfold YieldsM Mild Oper.quietAt at *
 rw [execOp_put o hs a x u h, wanted_put o a x u h]
 exact hy
theorem YieldsM.back {o : Oper} {v : Value} {a : Act} (hs : ∀ cs b, o.op ≠ .select cs b) (x : Option Tmp) (u : Value) (h : ∀ d, x = some d → d ∉ o.looksAt ops) (hy : YieldsM P ops C o v (a.put x u)) : YieldsM P ops C o v a := by
 unfold YieldsM Mild Oper.quietAt at *
 rw [execOp_put o hs a x u h, wanted_put o a x u h] at hy
 exact hy
theorem mOp_put {oi oj : Oper} {v : Value} (hap : oi.apart ops oj = true) (hsi : ∀ cs b, oi.op ≠ .select cs b) (hsj : ∀ cs b, oj.op ≠ .select cs b) {K : Act → Prop} {a : Act}
 (hy : YieldsM P ops C oi v a) (h : mOp P ops C oj K (a.put oi.dst v)) : mOp P ops C oj (fun a' => YieldsM P ops C oi v a' ∧ K (a'.put oi.dst v)) a := by
 obtain ⟨h1, h2, h3⟩ := Oper.apart_spec hap
 obtain ⟨u, hu, hK⟩ := yieldsM_of h
 refine (hu.back hsj oi.dst v h1).mOp ⟨hy.put hsi oj.dst u h3, ?_⟩
 rw [← Act.put_comm a v u h2]
 exact hK
theorem anyM_first {Q : Act → Prop} {i : Nat} {oi : Oper} {v : Value} (hi : ops[i]? = some oi) (hsel : ∀ (j : Nat) (o : Oper) cs b, ops[j]? = some o → o.op ≠ .select cs b) (f : Nat) :
 ∀ (b : Array Bool) (a : Act), (∀ j oj, ops[j]? = some oj → j ≠ i → b.getD j true = false → (∀ e ∈ oj.after, Region.binds md e = true → e.on ≠ i) → oi.apart ops oj = true) →
  i ∈ Region.ready md ops b → YieldsM P ops C oi v a → anyM P md ops C Q f (b.setIfInBounds i true) (a.put oi.dst v) → anyM P md ops C Q (f + 1) b a := by
 induction f with
 | zero =>
  intro b a _ hr hy H
  refine ⟨fun h => absurd h (List.ne_nil_of_mem hr), fun j oj hj hoj => ?_⟩
  by_cases e : j = i
  ·subst e
   obtain rfl : oj = oi := Option.some.inj (hoj.symm.trans hi)
   exact hy.mOp H
  ·have := ready_mono hj e
   rw [H.1] at this
   cases this
 | succ f ih =>
  intro b a hap hr hy H
  refine ⟨fun h => absurd h (List.ne_nil_of_mem hr), fun j oj hj hoj => ?_⟩
  by_cases e : j = i
  ·subst e
   obtain rfl : oj = oi := Option.some.inj (hoj.symm.trans hi)
   exact hy.mOp H
  ·obtain ⟨hju, oj', hoj', hall⟩ := mem_ready.1 hj
   obtain rfl : oj' = oj := Option.some.inj (hoj'.symm.trans hoj)
   have hno : ∀ x ∈ oj'.after, Region.binds md x = true → x.on ≠ i := fun x hx hb h => by
    have h1 := hall x hx hb
    have h0 := (mem_ready.1 hr).1
    rw [h] at h1
    rcases Nat.lt_or_ge i b.size with h' | h'
    ·simp [h'] at h0 h1; rw [h0] at h1; cases h1
    ·simp [Array.getElem?_eq_none h'] at h1
   have hq := mOp_put (hap j oj' hoj e hju hno) (fun cs b => hsel i oi cs b hi) (fun cs b => hsel j oj' cs b hoj) hy (H.2 j oj' (ready_mono hj e) hoj)
   refine mOp_mono (fun a' h3 => ih _ a' (fun k ok hk hki hku hkn => hap k ok hk hki ?_ hkn) (ready_mono hr (Ne.symm e)) h3.1 ?_) hq
   ·by_cases hjk : j = k
    ·rw [← hjk]; exact hju
    ·rwa [getD_set_ne true hjk] at hku
   ·rw [Array.setIfInBounds_comm _ _ e]; exact h3.2
def lexIdx (md : Region.Mode) (ops : Array Oper) : List Nat → Array Bool → Bool
 | [], b => (Region.ready md ops b).isEmpty
 | k :: ks, b => (Region.ready md ops b).contains k && Region.free md ops b k && lexIdx md ops ks (b.setIfInBounds k true)
theorem anyM_lex {Q : Act → Prop} (hsel : Region.noSelect ops = true) : ∀ (ks : List Nat) (l : List Oper) (b : Array Bool) (a : Act), ks.map (fun k => ops[k]?) = l.map some → lexIdx md ops ks b = true → wpMild P ops C Q l a → anyM P md ops C Q ks.length b a
 | [], [], b, a, _, hB, h => ⟨by simpa [lexIdx] using hB, h⟩
 | [], _ :: _, _, _, hl, _, _ => by simp at hl
 | _ :: _, [], _, _, hl, _, _ => by simp at hl
 | k :: ks, o :: l, b, a, hl, hB, h => by
  simp only [List.map_cons, List.cons.injEq] at hl
  simp only [lexIdx, Bool.and_eq_true, List.contains_iff_mem] at hB
  have hm : mOp P ops C o (wpMild P ops C Q l) a := h
  obtain ⟨v, hy, hK⟩ := yieldsM_of hm
  exact anyM_first hl.1 (Region.noSelect_spec hsel) ks.length b a (Region.free_spec hl.1 hB.1.2) hB.1.1 hy (anyM_lex hsel ks l _ _ hl.2 hB.2 hK)
def backB (md : Region.Mode) (ops : Array Oper) : Bool := (List.range ops.size).all fun j => match ops[j]? with
 | some o => o.after.all fun e => !Region.binds md e || decide (e.on < j)
 | none => true
theorem all_listed {b : Array Bool} (hb : backB md ops = true) (hz : b.size = ops.size) (hr : Region.ready md ops b = []) (j : Nat) : j < ops.size → b.getD j true = true := by
 induction j using Nat.strongRecOn with
 | _ j ih =>
  intro hj
  by_cases hl : b.getD j true = true
  ·exact hl
  ·exfalso
   have hmem : j ∈ Region.ready md ops b := mem_ready.2 ⟨by simpa using hl, ops[j], Array.getElem?_eq_getElem hj, fun e he hbd => by
    have h1 := List.all_eq_true.1 hb j (List.mem_range.2 hj)
    rw [Array.getElem?_eq_getElem hj] at h1
    have h2 := Array.all_eq_true_iff_forall_mem.1 h1 e he
    simp only [hbd, Bool.not_true, Bool.false_or, decide_eq_true_eq] at h2
    have h3 := ih e.on h2 (by omega)
    simp only [Array.getD_eq_getD_getElem?] at h3 ⊢
    rw [Array.getElem?_eq_getElem (by omega)] at h3 ⊢
    exact h3⟩
   rw [hr] at hmem
   cases hmem
def varyB (md : Region.Mode) (ops : Array Oper) (m s ke d e : Nat) (ty : TypeId) : Bool :=
 Region.noSelect ops && backB md ops && decide (m ≠ s) && decide (ke ≠ m) && decide (ke ≠ s) && decide (d ≠ e) &&
 (match ops[m]? with
  | some o => (match o.op with | .alloc t => t == ty | _ => false) && o.dst == some d && o.guard.isNone
  | none => false) &&
 (match ops[s]? with
  | some o => (match o.op with | .store t (.tmp x) (.tmp y) => t == ty && x == d && y == e | _ => false) && o.dst.isNone && o.guard.isNone &&
   o.after.any (fun x => Region.binds md x && x.on == m) && o.after.any (fun x => Region.binds md x && x.on == ke)
  | none => false) &&
 ((List.range ops.size).all fun j => match ops[j]? with
  | some o => (j == m || j == s || (!(o.looksAt ops).contains d && o.dst != some d)) && (j == ke || o.dst != some e)
  | none => true)
structure VaryOk (md : Region.Mode) (ops : Array Oper) (m s ke d e : Nat) (ty : TypeId) : Prop where
 sel : Region.noSelect ops = true
 back : backB md ops = true
 ms : m ≠ s
 km : ke ≠ m
 kss : ke ≠ s
 de : d ≠ e
 om : ∃ o, ops[m]? = some o ∧ o.op = .alloc ty ∧ o.dst = some d ∧ o.guard = none
 os : ∃ o, ops[s]? = some o ∧ o.op = .store ty (.tmp d) (.tmp e) ∧ o.dst = none ∧ o.guard = none ∧ (∃ x ∈ o.after, Region.binds md x = true ∧ x.on = m) ∧ (∃ x ∈ o.after, Region.binds md x = true ∧ x.on = ke)
 off : ∀ j o, ops[j]? = some o → j ≠ m → j ≠ s → d ∉ o.looksAt ops ∧ o.dst ≠ some d
 only : ∀ j o, ops[j]? = some o → j ≠ ke → o.dst ≠ some e
theorem rep_un (n i : Nat) (h : i < n) : (Array.replicate n false).getD i true = false := by
 rw [Array.getD_eq_getD_getElem?, Array.getElem?_replicate, if_pos h]
 rfl
theorem on_true {b : Array Bool} {i : Nat} (h : b.getD i false = true) : b.getD i true = true := by
 rcases Nat.lt_or_ge i b.size with h' | h'
 ·simp [h'] at h ⊢; exact h
 ·simp [Array.getElem?_eq_none h'] at h
theorem set_on {b : Array Bool} {i j : Nat} (h : b.getD j true = true) : (b.setIfInBounds i true).getD j true = true := by
 by_cases e : i = j
 ·subst e
  rcases Nat.lt_or_ge i b.size with h' | h'
  ·simp [h']
  ·simp [Array.getElem?_eq_none h']
 ·rw [getD_set_ne true e]; exact h
section
variable {P : Program} {md : Region.Mode} {ops : Array Oper} {m s ke d e : Nat} {ty : TypeId} {Z : Array Value} {Q : Exit → Act → World → Prop} {W : World}
def ptr (p : Nat) : Value := .pointer (some ⟨p, 0, none⟩)
def Fits (P : Program) (ty : TypeId) (Z cs : Array Value) : Prop := (P.info? ty).map (·.size) = some cs.size ∧ Z.size = cs.size ∧ cs.all (·.oneCell') = true
def Ends (P : Program) (d e : Nat) (ty : TypeId) (Z : Array Value) (Q : Exit → Act → World → Prop) (W : World) (a : Act) : Prop :=
 ∃ cs, a.eval (.tmp e) = .agg cs ∧ Fits P ty Z cs ∧ ∀ p w', W.heap.size ≤ p → Below W.heap.size W w' → w'.heap[p]? = some (.cells cs ty (0, 0)) → Q .normal (a.put (some d) (ptr p)) w'
end
theorem wpMild_step {P : Program} {ops : Array Oper} {C : World → Prop} {Q : Act → Prop} {a : Act} {o : Oper} {rest : List Oper} (hw : Region.wanted o (yielded ops a.tmps) = true)
 (h : ∀ K : Act → Prop, (∀ a, wpMild P ops C Q rest a → K a) → ∃ v, (∀ w, C w → o.quietAt P a (fun w' => Below w.heap.size w w') w v) ∧ K (a.put o.dst v)) : wpMild P ops C Q (o :: rest) a := by
 unfold wpMild
 rw [if_pos hw]
 exact h _ fun _ h => h
theorem wpMild_pure {P : Program} {ops : Array Oper} {C : World → Prop} {Q : Act → Prop} {a : Act} {o : Oper} {rest : List Oper} (hw : Region.wanted o (yielded ops a.tmps) = true) (v : Value)
 (hv : ∀ w, C w → (execOp a.eval o).run P w = .ok (.value v) w) (h : wpMild P ops C Q rest (a.put o.dst v)) : wpMild P ops C Q (o :: rest) a :=
 wpMild_step hw fun K hK => ⟨v, fun w hC => by unfold Oper.quietAt; rw [hv w hC]; exact ⟨rfl, rfl⟩, hK _ h⟩
theorem wpMild_load {P : Program} {ops : Array Oper} {C : World → Prop} {Q : Act → Prop} {rest : List Oper} {o : Oper} {a : Act} (hw : Region.wanted o (yielded ops a.tmps) = true) (ty : TypeId) (x : Operand) (ho : o.op = .load ty x)
 (g : Nat) (hx : a.eval x = .pointer (some ⟨g, 0, none⟩)) (t : TypeId) (cs : Array Value) (d : TypeDesc) (hS : ∀ w, C w → w.heap[g]? = some (.cells cs t (0, 0)))
 (hu : P.underlying ty = some d) (hd : (match d with | .struct _ | .array _ _ => true | _ => false) = true) (hi : (P.info? ty).map (·.size) = some cs.size)
 (h : wpMild P ops C Q rest (a.put o.dst (.agg cs))) : wpMild P ops C Q (o :: rest) a :=
 wpMild_pure hw (.agg cs) (fun w hC => by
  unfold execOp
  simp only [ho, hx, Instr.loadAt, Instr.sureAddr, Sem.run_bind, Sem.run_pure, Result.andThen_ok, run_loadVar_row w g t ty cs (0, 0) d (hS w hC) hu hd hi]) h
end
end vary
namespace varyn
set_option linter.unusedSimpArgs false
set_option linter.unusedVariables false
open Go Go.RowKit
open arr mem vary
structure Vr where
 m : Nat
 s : Nat
 ke : Nat
 d : Nat
 e : Nat
 ty : TypeId
 Z : Array Value
section
variable {P : Program} {md : Region.Mode} {ops : Array Oper} {Q : Exit → Act → World → Prop} {W : World} {V : List Vr}
def puts (V : List Vr) (ps : Nat → Option Nat) (a : Act) : Act := V.foldr (fun v a => match ps v.d with | some p => a.put (some v.d) (ptr p) | none => a) a
def upd (ps : Nat → Option Nat) (d p : Nat) : Nat → Option Nat := fun x => if x = d then some p else ps x
theorem puts_none (a : Act) : puts V (fun _ => none) a = a := by
 induction V with
 | nil => rfl
 | cons v V ih => show (match (none : Option Nat) with | some p => (puts V (fun _ => none) a).put (some v.d) (ptr p) | none => puts V (fun _ => none) a) = a; exact ih
theorem puts_out (ps : Nat → Option Nat) (d p : Nat) (a : Act) (h : ∀ v ∈ V, v.d ≠ d) : puts V (upd ps d p) a = puts V ps a := by
 induction V with
 | nil => rfl
 | cons v V ih =>
  have e : upd ps d p v.d = ps v.d := if_neg (h v (by simp))
  have ih := ih fun u hu => h u (by simp [hu])
  show (match upd ps d p v.d with | some q => (puts V (upd ps d p) a).put (some v.d) (ptr q) | none => puts V (upd ps d p) a) = _
  rw [e, ih]
  rfl
theorem puts_upd (ps : Nat → Option Nat) (v : Vr) (p : Nat) (a : Act) (hv : v ∈ V) (hn : (V.map (·.d)).Nodup) (hp : ps v.d = none) : puts V (upd ps v.d p) a = (puts V ps a).put (some v.d) (ptr p) := by
 induction V with
 | nil => cases hv
 | cons u V ih =>
  simp only [List.map_cons, List.nodup_cons] at hn
  show (match upd ps v.d p u.d with | some q => (puts V (upd ps v.d p) a).put (some u.d) (ptr q) | none => puts V (upd ps v.d p) a) = (match ps u.d with | some q => (puts V ps a).put (some u.d) (ptr q) | none => puts V ps a).put (some v.d) (ptr p)
  by_cases e : u.d = v.d
  ·have e1 : upd ps v.d p u.d = some p := if_pos e
   rw [e1, e, hp, puts_out ps v.d p a (fun x hx hxe => hn.1 (by rw [e, ← hxe]; exact List.mem_map_of_mem hx))]
  ·have e1 : upd ps v.d p u.d = ps u.d := if_neg e
   have hv' : v ∈ V := by
    rcases List.mem_cons.1 hv with h | h
    ·subst h; exact absurd rfl e
    ·exact h
   rw [e1, ih hv' hn.2]
   cases ps u.d with
   | none => rfl
   | some q => exact Act.put_comm _ _ _ (fun d hd => by injection hd with hd; rw [← hd]; intro x; injection x with x; exact e x)
theorem puts_put (ps : Nat → Option Nat) (a : Act) (x : Option Tmp) (y : Value) (h : ∀ v ∈ V, x ≠ some v.d) : puts V ps (a.put x y) = (puts V ps a).put x y := by
 induction V with
 | nil => rfl
 | cons v V ih =>
  have ih := ih fun u hu => h u (by simp [hu])
  show (match ps v.d with | some p => (puts V ps (a.put x y)).put (some v.d) (ptr p) | none => puts V ps (a.put x y)) = (match ps v.d with | some p => (puts V ps a).put (some v.d) (ptr p) | none => puts V ps a).put x y
  rw [ih]
  cases ps v.d with
  | none => rfl
  | some q => exact Act.put_comm _ _ _ (fun d hd => by rw [← hd]; exact fun e => h v (by simp) e.symm)
theorem puts_size (ps : Nat → Option Nat) (a : Act) : (puts V ps a).tmps.size = a.tmps.size := by
 induction V with
 | nil => rfl
 | cons v V ih =>
  show (match ps v.d with | some p => (puts V ps a).put (some v.d) (ptr p) | none => puts V ps a).tmps.size = _
  cases ps v.d with
  | none => exact ih
  | some q => rw [Act.size_put]; exact ih
theorem puts_eval (ps : Nat → Option Nat) (a : Act) (e : Nat) (h : ∀ v ∈ V, v.d ≠ e) : (puts V ps a).eval (.tmp e) = a.eval (.tmp e) := by
 induction V with
 | nil => rfl
 | cons v V ih =>
  have ih := ih fun u hu => h u (by simp [hu])
  show (match ps v.d with | some p => (puts V ps a).put (some v.d) (ptr p) | none => puts V ps a).eval (.tmp e) = _
  cases ps v.d with
  | none => exact ih
  | some q => exact (Act.eval_put_ne _ _ _ _ (h v (by simp))).trans ih
theorem puts_eval_at (ps : Nat → Option Nat) (a : Act) (v : Vr) (p : Nat) (hv : v ∈ V) (hn : (V.map (·.d)).Nodup) (hp : ps v.d = some p) (hd : v.d < a.tmps.size) : (puts V ps a).eval (.tmp v.d) = ptr p := by
 induction V with
 | nil => cases hv
 | cons u V ih =>
  simp only [List.map_cons, List.nodup_cons] at hn
  show (match ps u.d with | some p => (puts V ps a).put (some u.d) (ptr p) | none => puts V ps a).eval (.tmp v.d) = _
  by_cases e : u.d = v.d
  ·rw [e, hp]
   exact Act.eval_put_same _ _ _ (by rw [puts_size]; exact hd)
  ·have hv' : v ∈ V := by
    rcases List.mem_cons.1 hv with h | h
    ·subst h; exact absurd rfl e
    ·exact h
   have ih := ih hv' hn.2
   cases ps u.d with
   | none => exact ih
   | some q => exact (Act.eval_put_ne _ _ _ _ e).trans ih
theorem puts_exec (o : Oper) (hs : ∀ cs b, o.op ≠ .select cs b) (ps : Nat → Option Nat) (a : Act) (h : ∀ v ∈ V, v.d ∉ o.looksAt ops) : execOp (puts V ps a).eval o = execOp a.eval o := by
 induction V with
 | nil => rfl
 | cons v V ih =>
  have ih := ih fun u hu => h u (by simp [hu])
  show execOp (match ps v.d with | some p => (puts V ps a).put (some v.d) (ptr p) | none => puts V ps a).eval o = _
  cases ps v.d with
  | none => exact ih
  | some q => exact (execOp_put o hs _ _ _ (fun d hd => by injection hd with hd; rw [← hd]; exact h v (by simp))).trans ih
theorem puts_wanted (o : Oper) (ps : Nat → Option Nat) (a : Act) (h : ∀ v ∈ V, v.d ∉ o.looksAt ops) : Region.wanted o (yielded ops (puts V ps a).tmps) = Region.wanted o (yielded ops a.tmps) := by
 induction V with
 | nil => rfl
 | cons v V ih =>
  have ih := ih fun u hu => h u (by simp [hu])
  show Region.wanted o (yielded ops (match ps v.d with | some p => (puts V ps a).put (some v.d) (ptr p) | none => puts V ps a).tmps) = _
  cases ps v.d with
  | none => exact ih
  | some q => exact (wanted_put o _ _ _ (fun d hd => by injection hd with hd; rw [← hd]; exact h v (by simp))).trans ih
theorem mOp_reals {C : World → Prop} {i : Nat} {o : Oper} (hi : ops[i]? = some o) (hs : ∀ cs b, o.op ≠ .select cs b) (ps : Nat → Option Nat) (h1 : ∀ v ∈ V, v.d ∉ o.looksAt ops) (h2 : ∀ v ∈ V, o.dst ≠ some v.d)
 {K : Act → Prop} {a : Act} {w : World} (hC : C w) (h : mOp P ops C o K a) : wpOp P ops Q i (fun a' w' => ∃ x, a' = puts V ps (a.put o.dst x) ∧ K (a.put o.dst x) ∧ Below w.heap.size w w') (puts V ps a) w := by
 unfold wpOp
 simp only [hi]
 rw [puts_wanted o ps a h1]
 unfold mOp at h
 by_cases hw : Region.wanted o (yielded ops a.tmps) = true
 ·rw [if_pos hw] at h ⊢
  obtain ⟨v, hv, hK⟩ := h
  refine Or.inl ?_
  have hq := hv w hC
  unfold Oper.quietAt at hq
  unfold Oper.wp
  rw [puts_exec o hs ps a h1]
  generalize (execOp a.eval o).run P w = r at *
  cases r with
  | ok n w' =>
   cases n <;> simp only [Oper.quietUpon] at hq <;> simp only [Oper.upon]
   case value y =>
    obtain ⟨e1, e2⟩ := hq
    rw [e1, e2]
    exact ⟨v, (puts_put ps a _ _ h2).symm, hK, Below.refl _ _⟩
   case skip =>
    obtain ⟨e1, e2⟩ := hq
    rw [e1]
    exact ⟨v, by rw [e2]; exact (puts_put ps a _ _ h2).symm, hK, Below.refl _ _⟩
   case enter f args =>
    obtain ⟨e1, hc⟩ := hq
    rw [e1]
    exact hc.mono fun e w'' ⟨he, hb⟩ => by subst he; exact ⟨v, (puts_put ps a _ _ h2).symm, hK, hb⟩
  | halt y w' => simp only [Oper.quietUpon] at hq
 ·rw [if_neg hw] at h ⊢
  exact ⟨undef, (puts_put ps a _ _ h2).symm, h, Below.refl _ _⟩
def varyNB (md : Region.Mode) (ops : Array Oper) (V : List Vr) : Bool :=
 Region.noSelect ops && backB md ops && decide ((V.map (·.d)).Nodup) && decide ((V.map (·.m)).Nodup) && decide ((V.map (·.s)).Nodup) &&
 (V.all fun v => V.all fun u => decide (v.m ≠ u.s) && decide (v.ke ≠ u.m) && decide (v.ke ≠ u.s) && decide (v.d ≠ u.e)) &&
 (V.all fun v => match ops[v.m]? with
  | some o => (match o.op with | .alloc t => t == v.ty | _ => false) && o.dst == some v.d && o.guard.isNone
  | none => false) &&
 (V.all fun v => match ops[v.s]? with
  | some o => (match o.op with | .store t (.tmp x) (.tmp y) => t == v.ty && x == v.d && y == v.e | _ => false) && o.dst.isNone && o.guard.isNone &&
   o.after.any (fun x => Region.binds md x && x.on == v.m) && o.after.any (fun x => Region.binds md x && x.on == v.ke)
  | none => false) &&
 ((List.range ops.size).all fun j => match ops[j]? with
  | some o => ((V.any fun v => j == v.m || j == v.s) || (V.all fun v => !(o.looksAt ops).contains v.d && o.dst != some v.d)) && (V.all fun v => j == v.ke || o.dst != some v.e)
  | none => true)
structure VN (md : Region.Mode) (ops : Array Oper) (V : List Vr) : Prop where
 sel : Region.noSelect ops = true
 back : backB md ops = true
 nd : (V.map (·.d)).Nodup
 nm : (V.map (·.m)).Nodup
 ns : (V.map (·.s)).Nodup
 ms : ∀ v ∈ V, ∀ u ∈ V, v.m ≠ u.s ∧ v.ke ≠ u.m ∧ v.ke ≠ u.s ∧ v.d ≠ u.e
 om : ∀ v ∈ V, ∃ o, ops[v.m]? = some o ∧ o.op = .alloc v.ty ∧ o.dst = some v.d ∧ o.guard = none
 os : ∀ v ∈ V, ∃ o, ops[v.s]? = some o ∧ o.op = .store v.ty (.tmp v.d) (.tmp v.e) ∧ o.dst = none ∧ o.guard = none ∧ (∃ x ∈ o.after, Region.binds md x = true ∧ x.on = v.m) ∧ (∃ x ∈ o.after, Region.binds md x = true ∧ x.on = v.ke)
 off : ∀ j o, ops[j]? = some o → (∀ v ∈ V, j ≠ v.m ∧ j ≠ v.s) → ∀ v ∈ V, v.d ∉ o.looksAt ops ∧ o.dst ≠ some v.d
 only : ∀ j o, ops[j]? = some o → ∀ v ∈ V, j ≠ v.ke → o.dst ≠ some v.e
theorem vn_of (h : varyNB md ops V = true) : VN md ops V := by
 simp only [varyNB, Bool.and_eq_true, decide_eq_true_eq] at h
 obtain ⟨⟨⟨⟨⟨⟨⟨⟨h1, h2⟩, h3⟩, h4⟩, h5⟩, h6⟩, h7⟩, h8⟩, h9⟩ := h
 have hall : ∀ j o, ops[j]? = some o → ((∃ v ∈ V, j = v.m ∨ j = v.s) ∨ (∀ v ∈ V, v.d ∉ o.looksAt ops ∧ o.dst ≠ some v.d)) ∧ (∀ v ∈ V, j = v.ke ∨ o.dst ≠ some v.e) := by
  intro j o hj
  have := List.all_eq_true.1 h9 j (List.mem_range.2 (Array.getElem?_eq_some_iff.1 hj).1)
  rw [hj] at this
  simpa using this
 refine ⟨h1, h2, h3, h4, h5, fun v hv u hu => ?_, fun v hv => ?_, fun v hv => ?_, fun j o hj hm v hv => ?_, fun j o hj v hv hk => ((hall j o hj).2 v hv).resolve_left hk⟩
 ·have := List.all_eq_true.1 (List.all_eq_true.1 h6 v hv) u hu
  simp only [Bool.and_eq_true, decide_eq_true_eq] at this
  exact ⟨this.1.1.1, this.1.1.2, this.1.2, this.2⟩
 ·have h7 := List.all_eq_true.1 h7 v hv
  cases ho : ops[v.m]? with
  | none => rw [ho] at h7; cases h7
  | some o =>
   rw [ho] at h7
   simp only [Bool.and_eq_true, beq_iff_eq, Option.isNone_iff_eq_none] at h7
   refine ⟨o, rfl, ?_, h7.1.2, h7.2⟩
   have h10 := h7.1.1
   split at h10
   ·rename_i t ht; rw [ht, beq_iff_eq.1 h10]
   ·cases h10
 ·have h8 := List.all_eq_true.1 h8 v hv
  cases ho : ops[v.s]? with
  | none => rw [ho] at h8; cases h8
  | some o =>
   rw [ho] at h8
   simp only [Bool.and_eq_true, Option.isNone_iff_eq_none] at h8
   obtain ⟨⟨⟨⟨h10, h11⟩, h12⟩, h13⟩, h14⟩ := h8
   refine ⟨o, rfl, ?_, h11, h12, ?_, ?_⟩
   ·split at h10
    ·rename_i t x y ht
     simp only [Bool.and_eq_true, beq_iff_eq] at h10
     rw [ht, h10.1.1, h10.1.2, h10.2]
    ·cases h10
   ·obtain ⟨x, hx, hb⟩ := Array.any_eq_true'.1 h13
    simp only [Bool.and_eq_true, beq_iff_eq] at hb
    exact ⟨x, hx, hb.1, hb.2⟩
   ·obtain ⟨x, hx, hb⟩ := Array.any_eq_true'.1 h14
    simp only [Bool.and_eq_true, beq_iff_eq] at hb
    exact ⟨x, hx, hb.1, hb.2⟩
 ·rcases (hall j o hj).1 with ⟨u, hu, h | h⟩ | h
  ·exact absurd h (hm u hu).1
  ·exact absurd h (hm u hu).2
  ·exact h v hv
theorem by_key {k : Vr → Nat} (h : (V.map k).Nodup) : ∀ u ∈ V, ∀ v ∈ V, k u = k v → u = v := by
 induction V with
 | nil => intro u hu; cases hu
 | cons x V ih =>
  simp only [List.map_cons, List.nodup_cons] at h
  intro u hu v hv e
  rcases List.mem_cons.1 hu with rfl | hu' <;> rcases List.mem_cons.1 hv with rfl | hv'
  ·rfl
  ·exact absurd (e ▸ List.mem_map_of_mem hv') h.1
  ·exact absurd (e ▸ List.mem_map_of_mem hu') h.1
  ·exact ih h.2 u hu' v hv' e
def marks (V : List Vr) (b : Array Bool) : Array Bool := V.foldr (fun v b => (b.setIfInBounds v.m true).setIfInBounds v.s true) b
theorem set_comm (b : Array Bool) (i j : Nat) : (b.setIfInBounds i true).setIfInBounds j true = (b.setIfInBounds j true).setIfInBounds i true := by
 by_cases e : i = j
 ·subst e; rfl
 ·exact Array.setIfInBounds_comm _ _ e
theorem marks_set (b : Array Bool) (i : Nat) : marks V (b.setIfInBounds i true) = (marks V b).setIfInBounds i true := by
 induction V with
 | nil => rfl
 | cons v V ih =>
  show ((marks V (b.setIfInBounds i true)).setIfInBounds v.m true).setIfInBounds v.s true = (((marks V b).setIfInBounds v.m true).setIfInBounds v.s true).setIfInBounds i true
  rw [ih, set_comm _ i v.m, set_comm _ i v.s]
theorem marks_on {b : Array Bool} {j : Nat} (h : b.getD j true = true) : (marks V b).getD j true = true := by
 induction V with
 | nil => exact h
 | cons v V ih => exact set_on (set_on ih)
theorem set_at (b : Array Bool) (i : Nat) : (b.setIfInBounds i true).getD i true = true := by
 rcases Nat.lt_or_ge i b.size with h' | h'
 ·simp [h']
 ·simp [Array.getElem?_eq_none h']
theorem marks_at {b : Array Bool} {v : Vr} (hv : v ∈ V) : (marks V b).getD v.m true = true ∧ (marks V b).getD v.s true = true := by
 induction V with
 | nil => cases hv
 | cons u V ih =>
  rcases List.mem_cons.1 hv with rfl | hv'
  ·exact ⟨set_on (set_at _ _), set_at _ _⟩
  ·exact ⟨set_on (set_on (ih hv').1), set_on (set_on (ih hv').2)⟩
theorem set_same {b : Array Bool} {i : Nat} (h : b.getD i true = true) : b.setIfInBounds i true = b := by
 apply Array.ext (by simp)
 intro j h1 h2
 rw [Array.getElem_setIfInBounds]
 split
 ·rename_i e; subst e; simp [h2] at h; exact h.symm
 ·rfl
theorem marks_ready {b : Array Bool} {i : Nat} (hi : i ∈ Region.ready md ops b) (h : ∀ v ∈ V, i ≠ v.m ∧ i ≠ v.s) : i ∈ Region.ready md ops (marks V b) := by
 induction V with
 | nil => exact hi
 | cons v V ih => exact ready_mono (ready_mono (ih fun u hu => h u (by simp [hu])) (h v (by simp)).1) (h v (by simp)).2
theorem none_ready {b : Array Bool} (h : ∀ j, j < ops.size → b.getD j true = true) : Region.ready md ops b = [] := by
 apply List.eq_nil_iff_forall_not_mem.2
 intro i hi
 obtain ⟨hu, o, ho, -⟩ := mem_ready.1 hi
 rw [h i (Array.getElem?_eq_some_iff.1 ho).1] at hu
 cases hu
theorem countP_le {p q : Vr → Bool} (h : ∀ x, q x = true → p x = true) : V.countP q ≤ V.countP p := List.countP_mono_left fun x _ => h x
theorem countP_lt {p q : Vr → Bool} (h : ∀ x, q x = true → p x = true) {v : Vr} (hv : v ∈ V) (hp : p v = true) (hq : q v = false) : V.countP q + 1 ≤ V.countP p := by
 induction V with
 | nil => cases hv
 | cons u V ih =>
  rw [List.countP_cons, List.countP_cons]
  rcases List.mem_cons.1 hv with rfl | hv'
  ·have := countP_le (V := V) h
   rw [hp, hq]
   simp
   omega
  ·have := ih hv'
   by_cases hqu : q u = true
   ·rw [hqu, h u hqu]; simp; omega
   ·rw [if_neg hqu]; omega
def cnt (V : List Vr) (b : Array Bool) : Nat := V.countP (fun v => !b.getD v.m true) + V.countP (fun v => !b.getD v.s true)
theorem un_set {b : Array Bool} {i j : Nat} (h : (b.setIfInBounds i true).getD j true = false) : b.getD j true = false := by
 cases h2 : b.getD j true with
 | false => rfl
 | true => rw [set_on h2] at h; cases h
theorem cnt_le (b : Array Bool) (i : Nat) : cnt V (b.setIfInBounds i true) ≤ cnt V b :=
 Nat.add_le_add (countP_le fun x hx => by simp only [Bool.not_eq_true'] at hx ⊢; exact un_set hx) (countP_le fun x hx => by simp only [Bool.not_eq_true'] at hx ⊢; exact un_set hx)
theorem cnt_m {b : Array Bool} {v : Vr} (hv : v ∈ V) (h : b.getD v.m true = false) : cnt V (b.setIfInBounds v.m true) + 1 ≤ cnt V b := by
 have h1 := countP_lt (V := V) (p := fun v => !b.getD v.m true) (q := fun u => !(b.setIfInBounds v.m true).getD u.m true) (fun x hx => by simp only [Bool.not_eq_true'] at hx ⊢; exact un_set hx) hv (by simp only [h]; rfl) (by simp only [set_at]; rfl)
 have h2 := countP_le (V := V) (p := fun v => !b.getD v.s true) (q := fun u => !(b.setIfInBounds v.m true).getD u.s true) (fun x hx => by simp only [Bool.not_eq_true'] at hx ⊢; exact un_set hx)
 unfold cnt
 omega
theorem cnt_s {b : Array Bool} {v : Vr} (hv : v ∈ V) (h : b.getD v.s true = false) : cnt V (b.setIfInBounds v.s true) + 1 ≤ cnt V b := by
 have h1 := countP_lt (V := V) (p := fun v => !b.getD v.s true) (q := fun u => !(b.setIfInBounds v.s true).getD u.s true) (fun x hx => by simp only [Bool.not_eq_true'] at hx ⊢; exact un_set hx) hv (by simp only [h]; rfl) (by simp only [set_at]; rfl)
 have h2 := countP_le (V := V) (p := fun v => !b.getD v.m true) (q := fun u => !(b.setIfInBounds v.s true).getD u.m true) (fun x hx => by simp only [Bool.not_eq_true'] at hx ⊢; exact un_set hx)
 unfold cnt
 omega
def EndsN (P : Program) (V : List Vr) (Q : Exit → Act → World → Prop) (W : World) (a : Act) : Prop :=
 (∀ v ∈ V, ∃ cs, a.eval (.tmp v.e) = .agg cs ∧ Fits P v.ty v.Z cs) ∧
 ∀ ps w', (∀ v ∈ V, ∃ p cs, ps v.d = some p ∧ W.heap.size ≤ p ∧ a.eval (.tmp v.e) = .agg cs ∧ w'.heap[p]? = some (.cells cs v.ty (0, 0))) → (∀ u ∈ V, ∀ v ∈ V, ∀ p, ps u.d = some p → ps v.d = some p → u.d = v.d) → Below W.heap.size W w' → Q .normal (puts V ps a) w'
theorem fin_valueN (H : VN md ops V) {C : World → Prop} {v : Vr} (hv : v ∈ V) (f : Nat) : ∀ (b : Array Bool) (a : Act), anyM P md ops C (EndsN P V Q W) f b a → b.getD v.ke true = true → ∃ cs, a.eval (.tmp v.e) = .agg cs ∧ Fits P v.ty v.Z cs := by
 induction f with
 | zero => intro b a h _; exact h.2.1 v hv
 | succ f ih =>
  intro b a h hk
  by_cases hr : Region.ready md ops b = []
  ·exact (h.1 hr).1 v hv
  ·obtain ⟨i, hi⟩ := List.exists_mem_of_ne_nil _ hr
   obtain ⟨hu, o, ho, -⟩ := mem_ready.1 hi
   have hik : i ≠ v.ke := fun x => by rw [x, hk] at hu; cases hu
   obtain ⟨x, -, hK⟩ := yieldsM_of (h.2 i o hi ho)
   obtain ⟨cs, h1, h2⟩ := ih _ _ hK (set_on hk)
   refine ⟨cs, ?_, h2⟩
   rw [← h1]
   exact (Act.eval_put fun y hy hye => H.only i o ho v hv hik (by rw [hy]; injection hye with hye; rw [hye])).symm
structure Inv (P : Program) (ops : Array Oper) (V : List Vr) (W : World) (b : Array Bool) (a : Act) (w : World) (ps : Nat → Option Nat) : Prop where
 bm : ∀ v ∈ V, (b.getD v.m true = true ↔ (ps v.d).isSome = true)
 bs : ∀ v ∈ V, ps v.d = none → b.getD v.s true = false
 mem : ∀ v ∈ V, ∀ p, ps v.d = some p → W.heap.size ≤ p ∧ (b.getD v.s true = false → w.heap[p]? = some (.cells v.Z v.ty (0, 0))) ∧ (b.getD v.s true = true → b.getD v.ke true = true ∧ ∃ cs, a.eval (.tmp v.e) = .agg cs ∧ w.heap[p]? = some (.cells cs v.ty (0, 0)))
 inj : ∀ u ∈ V, ∀ v ∈ V, ∀ p, ps u.d = some p → ps v.d = some p → u.d = v.d
 bel : Below W.heap.size W w
 bz : b.size = ops.size
 asz : ∀ v ∈ V, v.d < a.tmps.size
theorem Inv.there {b : Array Bool} {a : Act} {w : World} {ps : Nat → Option Nat} (I : Inv P ops V W b a w ps) {v : Vr} (hv : v ∈ V) {p : Nat} (hp : ps v.d = some p) : p < w.heap.size := by
 obtain ⟨-, h1, h2⟩ := I.mem v hv p hp
 cases h : b.getD v.s true with
 | false => exact lt_of_row (h1 h)
 | true => obtain ⟨-, cs, -, h3⟩ := h2 h; exact lt_of_row h3
theorem simN (H : VN md ops V) (HA : ∀ v ∈ V, ∀ (ρ : Operand → Value) (o : Oper) (w : World), o.op = .alloc v.ty → (execOp ρ o).run P w = .ok (.value (ptr w.heap.size)) (w.alloc (.cells v.Z v.ty))) (F : Nat) :
 ∀ (f : Nat) (b : Array Bool) (a : Act) (w : World) (ps : Nat → Option Nat), f + cnt V b ≤ F → anyM P md ops (fun w' => Below W.heap.size W w') (EndsN P V Q W) f (marks V b) a → Inv P ops V W b a w ps → wpAny P md ops Q F b (puts V ps a) w := by
 have fin : ∀ (f : Nat) (b : Array Bool) (a : Act) (w : World) (ps : Nat → Option Nat), Region.ready md ops b = [] → anyM P md ops (fun w' => Below W.heap.size W w') (EndsN P V Q W) f (marks V b) a → Inv P ops V W b a w ps → Q .normal (puts V ps a) w := by
  intro f b a w ps h0 h I
  have hl : ∀ j, j < ops.size → b.getD j true = true := all_listed H.back I.bz h0
  have hE : EndsN P V Q W a := by
   have hr := none_ready (md := md) (ops := ops) (b := marks V b) fun j hj => marks_on (hl j hj)
   cases f with
   | zero => exact h.2
   | succ f => exact h.1 hr
  refine hE.2 ps w (fun v hv => ?_) I.inj I.bel
  obtain ⟨om, hom, -⟩ := H.om v hv
  obtain ⟨os, hos, -⟩ := H.os v hv
  have h1 := (I.bm v hv).1 (hl _ (Array.getElem?_eq_some_iff.1 hom).1)
  obtain ⟨p, hp⟩ := Option.isSome_iff_exists.1 h1
  obtain ⟨h2, -, h3⟩ := I.mem v hv p hp
  obtain ⟨-, cs, h4, h5⟩ := h3 (hl _ (Array.getElem?_eq_some_iff.1 hos).1)
  exact ⟨p, cs, hp, h2, h4, h5⟩
 induction F with
 | zero =>
  intro f b a w ps hF h I
  have hr : Region.ready md ops b = [] := by
   apply List.eq_nil_iff_forall_not_mem.2
   intro i hi
   by_cases hm : ∃ v ∈ V, i = v.m ∨ i = v.s
   ·obtain ⟨v, hv, hx⟩ := hm
    have hu := (mem_ready.1 hi).1
    rcases hx with rfl | rfl
    ·have := cnt_m hv hu; omega
    ·have := cnt_s hv hu; omega
   ·have := marks_ready hi (V := V) fun v hv => ⟨fun x => hm ⟨v, hv, Or.inl x⟩, fun x => hm ⟨v, hv, Or.inr x⟩⟩
    obtain rfl : f = 0 := by omega
    rw [h.1] at this
    cases this
  exact ⟨hr, fin f b a w ps hr h I⟩
 | succ F ih =>
  intro f b a w ps hF h I
  refine ⟨fun h0 => fin f b a w ps h0 h I, fun i hi => ?_⟩
  obtain ⟨hu, o, ho, hall⟩ := mem_ready.1 hi
  by_cases hm : ∃ v ∈ V, i = v.m
  ·obtain ⟨v, hv, rfl⟩ := hm
   obtain ⟨om, hom, hop, hdst, hgd⟩ := H.om v hv
   obtain rfl : o = om := Option.some.inj (ho.symm.trans hom)
   have hnone : ps v.d = none := by
    cases hq : ps v.d with
    | none => rfl
    | some q => have := (I.bm v hv).2 (by rw [hq]; rfl); rw [hu] at this; cases this
   unfold wpOp
   simp only [ho]
   rw [if_pos (by unfold Region.wanted; rw [hgd])]
   refine Or.inl ?_
   unfold Oper.wp
   rw [HA v hv _ o w hop]
   simp only [Oper.upon, hdst]
   rw [← puts_upd ps v w.heap.size a hv H.nd hnone]
   have hc := cnt_m hv hu
   refine ih f _ a _ _ (by omega) (by rw [marks_set, set_same (marks_at hv).1]; exact h) ?_
   have hmz : v.m < b.size := by rw [I.bz]; exact (Array.getElem?_eq_some_iff.1 ho).1
   have old : ∀ u ∈ V, u ≠ v → upd ps v.d w.heap.size u.d = ps u.d := fun u hu' huv => if_neg fun e => huv (by_key H.nd u hu' v hv e)
   have new : upd ps v.d w.heap.size v.d = some w.heap.size := if_pos rfl
   refine ⟨fun u hu' => ?_, fun u hu' hx => ?_, fun u hu' p hp => ?_, fun u hu' x hx p hp hq => ?_, I.bel.alloc I.bel.size _, by simpa using I.bz, I.asz⟩
   ·by_cases e : u = v
    ·subst e; rw [new]; simp [hmz]
    ·rw [old u hu' e, getD_set_ne true (fun x => e (by_key H.nm u hu' v hv x.symm))]; exact I.bm u hu'
   ·by_cases e : u = v
    ·subst e; rw [new] at hx; cases hx
    ·rw [old u hu' e] at hx
     rw [getD_set_ne true (H.ms v hv u hu').1]; exact I.bs u hu' hx
   ·by_cases e : u = v
    ·subst e
     rw [new] at hp
     obtain rfl := Option.some.inj hp
     refine ⟨I.bel.size, fun _ => heap_at _ _ _ rfl, fun hx => ?_⟩
     rw [getD_set_ne true (H.ms u hu' u hu').1, I.bs u hu' hnone] at hx
     cases hx
    ·rw [old u hu' e] at hp
     have hlt := I.there hu' hp
     obtain ⟨h1, h2, h3⟩ := I.mem u hu' p hp
     refine ⟨h1, fun hx => ?_, fun hx => ?_⟩
     ·rw [getD_set_ne true (H.ms v hv u hu').1] at hx
      rw [heap_past _ _ _ hlt]; exact h2 hx
     ·rw [getD_set_ne true (H.ms v hv u hu').1] at hx
      obtain ⟨h4, cs, h5, h6⟩ := h3 hx
      exact ⟨set_on h4, cs, h5, by rw [heap_past _ _ _ hlt]; exact h6⟩
   ·by_cases e1 : u = v <;> by_cases e2 : x = v
    ·rw [e1, e2]
    ·rw [e1, new] at hp
     rw [old x hx e2] at hq
     have := I.there hx hq
     injection hp with hp
     omega
    ·rw [e2, new] at hq
     rw [old u hu' e1] at hp
     have := I.there hu' hp
     injection hq with hq
     omega
    ·rw [old u hu' e1] at hp
     rw [old x hx e2] at hq
     exact I.inj u hu' x hx p hp hq
  ·by_cases hs : ∃ v ∈ V, i = v.s
   ·obtain ⟨v, hv, rfl⟩ := hs
    obtain ⟨os, hos, hop, hdst, hgd, ⟨xm, hxm, hbm, honm⟩, ⟨xk, hxk, hbk, honk⟩⟩ := H.os v hv
    obtain rfl : o = os := Option.some.inj (ho.symm.trans hos)
    have hml : b.getD v.m true = true := on_true (honm ▸ hall xm hxm hbm)
    have hkl : b.getD v.ke true = true := on_true (honk ▸ hall xk hxk hbk)
    obtain ⟨p, hp⟩ := Option.isSome_iff_exists.1 ((I.bm v hv).1 hml)
    obtain ⟨h1, h2, -⟩ := I.mem v hv p hp
    obtain ⟨cs, hcs, hf⟩ := fin_valueN H hv f _ _ h (marks_on hkl)
    unfold wpOp
    simp only [ho]
    rw [if_pos (by unfold Region.wanted; rw [hgd])]
    refine Or.inl (wp_store_row v.ty _ _ hop p cs (puts_eval_at ps a v p hv H.nd hp (I.asz v hv)) ((puts_eval ps a v.e (fun u hu' => (H.ms u hu' v hv).2.2.2)).trans hcs) v.ty v.Z (h2 hu) hf.1 hf.2.1 hf.2.2 ?_)
    rw [hdst]
    have hc := cnt_s hv hu
    refine ih f _ a _ _ (by omega) (by rw [marks_set, set_same (marks_at hv).2]; exact h) ?_
    have hsz : v.s < b.size := by rw [I.bz]; exact (Array.getElem?_eq_some_iff.1 ho).1
    refine ⟨fun u hu' => ?_, fun u hu' hx => ?_, fun u hu' q hq => ?_, I.inj, I.bel.trans (below_setRow _ _ _ h1), by simpa using I.bz, I.asz⟩
    ·rw [getD_set_ne true (fun x => (H.ms u hu' v hv).1 x.symm)]; exact I.bm u hu'
    ·have e : u ≠ v := fun e => by rw [e, hp] at hx; cases hx
     rw [getD_set_ne true (fun x => e (by_key H.ns u hu' v hv x.symm))]; exact I.bs u hu' hx
    ·by_cases e : u = v
     ·subst e
      rw [hp] at hq
      obtain rfl := Option.some.inj hq
      refine ⟨h1, fun hx => ?_, fun _ => ⟨set_on hkl, cs, hcs, setRow_heap _ _ _ _ _ _ (h2 hu)⟩⟩
      rw [set_at] at hx
      cases hx
     ·have hne : q ≠ p := fun x => e (by_key H.nd u hu' v hv (I.inj u hu' v hv p (x ▸ hq) hp))
      obtain ⟨h3, h4, h5⟩ := I.mem u hu' q hq
      have hsn : v.s ≠ u.s := fun x => e (by_key H.ns u hu' v hv x.symm)
      refine ⟨h3, fun hx => ?_, fun hx => ?_⟩
      ·rw [getD_set_ne true hsn] at hx
       rw [setRow_other _ _ _ _ hne]; exact h4 hx
      ·rw [getD_set_ne true hsn] at hx
       obtain ⟨h6, cs', h7, h8⟩ := h5 hx
       exact ⟨set_on h6, cs', h7, by rw [setRow_other _ _ _ _ hne]; exact h8⟩
   ·have hoff : ∀ v ∈ V, i ≠ v.m ∧ i ≠ v.s := fun v hv => ⟨fun x => hm ⟨v, hv, x⟩, fun x => hs ⟨v, hv, x⟩⟩
    have hrm := marks_ready hi hoff
    cases f with
    | zero => rw [h.1] at hrm; cases hrm
    | succ f =>
     have ho2 := H.off i o ho hoff
     refine wpOp_mono ?_ (mOp_reals ho (fun cs b => Region.noSelect_spec H.sel i o cs b ho) ps (fun v hv => (ho2 v hv).1) (fun v hv => (ho2 v hv).2) I.bel (h.2 i o hrm ho))
     rintro a' w' ⟨x, rfl, hK, hbw⟩
     have hc := cnt_le (V := V) b i
     refine ih f _ _ _ ps (by omega) (by rw [marks_set]; exact hK) ?_
     refine ⟨fun u hu' => ?_, fun u hu' hx => ?_, fun u hu' q hq => ?_, I.inj, I.bel.trans (hbw.mono I.bel.size), by simpa using I.bz, fun u hu' => by rw [Act.size_put]; exact I.asz u hu'⟩
     ·rw [getD_set_ne true (hoff u hu').1]; exact I.bm u hu'
     ·rw [getD_set_ne true (hoff u hu').2]; exact I.bs u hu' hx
     ·have hlt := I.there hu' hq
      obtain ⟨h3, h4, h5⟩ := I.mem u hu' q hq
      refine ⟨h3, fun hx => ?_, fun hx => ?_⟩
      ·rw [getD_set_ne true (hoff u hu').2] at hx
       exact (hbw.block _ hlt).trans (h4 hx)
      ·rw [getD_set_ne true (hoff u hu').2] at hx
       obtain ⟨h6, cs', h7, h8⟩ := h5 hx
       have hik : i ≠ u.ke := fun x => by rw [x, h6] at hu; cases hu
       refine ⟨set_on h6, cs', ?_, (hbw.block _ hlt).trans h8⟩
       rw [← h7]
       exact Act.eval_put fun y hy hye => H.only i o ho u hu' hik (by rw [hy]; injection hye with hye; rw [hye])
theorem region_varyN {P : Program} {id : Nat} {Q : Exit → Act → World → Prop} {a : Act} {w : World} {l : List Oper} (V : List Vr) (ks : List Nat) (l' : List Oper) (hm : P.follows .mixedOrders = true)
 (hB : varyNB .any l.toArray V = true) (hk : ks.map (fun k => l.toArray[k]?) = l'.map some) (hx : lexIdx .any l.toArray ks (marks V (Array.replicate l.toArray.size false)) = true) (hn : ks.length + (V.length + V.length) ≤ l.toArray.size)
 (HA : ∀ v ∈ V, ∀ (ρ : Operand → Value) (o : Oper) (w : World), o.op = .alloc v.ty → (execOp ρ o).run P w = .ok (.value (ptr w.heap.size)) (w.alloc (.cells v.Z v.ty))) (hd : (V.all fun v => decide (v.d < a.tmps.size)) = true)
 (h : ∀ ops : Array Oper, Away (l.toArray = ops) → wpMild P ops (fun w' => Below w.heap.size w w') (EndsN P V Q w) l' a) : (Code.region id l.toArray true).wp P Q a w := by
 have H := vn_of hB
 have h1 := anyM_lex (md := .any) H.sel ks l' _ a hk hx (h _ ⟨rfl⟩)
 have hc : cnt V (Array.replicate l.toArray.size false) ≤ V.length + V.length := Nat.add_le_add List.countP_le_length List.countP_le_length
 have hun : ∀ v ∈ V, (Array.replicate l.toArray.size false).getD v.m true = false ∧ (Array.replicate l.toArray.size false).getD v.s true = false := fun v hv => by
  obtain ⟨om, hom, -⟩ := H.om v hv
  obtain ⟨os, hos, -⟩ := H.os v hv
  exact ⟨rep_un _ _ (Array.getElem?_eq_some_iff.1 hom).1, rep_un _ _ (Array.getElem?_eq_some_iff.1 hos).1⟩
 have h2 := simN (Q := Q) H HA l.toArray.size ks.length (Array.replicate l.toArray.size false) a w.drew (fun _ => none) (by omega) h1
  ⟨fun v hv => by rw [(hun v hv).1]; simp, fun v hv _ => (hun v hv).2, fun v hv p hp => (by cases hp), fun u hu v hv p hp => (by cases hp), (Below.refl _ _).drew, by simp, fun v hv => of_decide_eq_true (List.all_eq_true.1 hd v hv)⟩
 rw [puts_none] at h2
 exact wp_region_any hm h2
end
end varyn
namespace varye
set_option linter.unusedSimpArgs false
set_option linter.unusedVariables false
open Go Go.RowKit
open arr mem vary varyn
theorem ends2 {P : Program} {Q : Exit → Act → World → Prop} {W : World} {a : Act} {v1 v2 : Vr} (c1 c2 : Array Value) (h1 : a.eval (.tmp v1.e) = .agg c1) (f1 : Fits P v1.ty v1.Z c1) (h2 : a.eval (.tmp v2.e) = .agg c2) (f2 : Fits P v2.ty v2.Z c2) (n12 : v1.d ≠ v2.d)
 (h : ∀ p1 p2 w', W.heap.size ≤ p1 → W.heap.size ≤ p2 → p1 ≠ p2 → Below W.heap.size W w' → w'.heap[p1]? = some (.cells c1 v1.ty (0, 0)) → w'.heap[p2]? = some (.cells c2 v2.ty (0, 0)) → Q .normal ((a.put (some v2.d) (.pointer (some ⟨p2, 0, none⟩))).put (some v1.d) (.pointer (some ⟨p1, 0, none⟩))) w') : EndsN P [v1, v2] Q W a := by
 refine ⟨fun v hv => ?_, fun ps w' hm hi hb => ?_⟩
 ·simp only [List.mem_cons, List.not_mem_nil, or_false] at hv
  rcases hv with rfl | rfl
  ·exact ⟨c1, h1, f1⟩
  ·exact ⟨c2, h2, f2⟩
 ·obtain ⟨p1, d1, e1, l1, k1, r1⟩ := hm v1 (by simp)
  obtain ⟨p2, d2, e2, l2, k2, r2⟩ := hm v2 (by simp)
  obtain rfl : d1 = c1 := by rw [h1] at k1; injection k1 with k1; exact k1.symm
  obtain rfl : d2 = c2 := by rw [h2] at k2; injection k2 with k2; exact k2.symm
  have e : puts [v1, v2] ps a = ((a.put (some v2.d) (.pointer (some ⟨p2, 0, none⟩))).put (some v1.d) (.pointer (some ⟨p1, 0, none⟩))) := by
   simp only [puts, List.foldr_cons, List.foldr_nil, e1, e2]
   rfl
  rw [e]
  exact h p1 p2 w' l1 l2 (fun x => n12 (hi v1 (by simp) v2 (by simp) p1 e1 (x ▸ e2))) hb r1 r2
theorem region_vary_take {P : Program} {id : Nat} {Q : Exit → Act → World → Prop} {a : Act} {w : World} {l : List Oper} (V : List Vr) (n : Nat) (hm : P.follows .mixedOrders = true)
 (hB : varyNB .any l.toArray V = true) (hk : (List.range n).map (fun k => l.toArray[k]?) = (l.take n).map some) (hx : lexIdx .any l.toArray (List.range n) (marks V (Array.replicate l.toArray.size false)) = true) (hn : (List.range n).length + (V.length + V.length) ≤ l.toArray.size)
 (HA : ∀ v ∈ V, ∀ (ρ : Operand → Value) (o : Oper) (w : World), o.op = .alloc v.ty → (execOp ρ o).run P w = .ok (.value (ptr w.heap.size)) (w.alloc (.cells v.Z v.ty))) (hd : (V.all fun v => decide (v.d < a.tmps.size)) = true)
 (h : ∀ ops : Array Oper, Away (l.toArray = ops) → wpMild P ops (fun w' => Below w.heap.size w w') (EndsN P V Q w) (l.take n) a) : (Code.region id l.toArray true).wp P Q a w :=
 region_varyN V _ _ hm hB hk hx hn HA hd h
end varye
end Go.Proofs.YtlcafjdehcddcaaGreatDoor
namespace Go.Proofs.YtlcafjdehcddcaaGreatDoor
namespace pvar
open Go Go.RowKit
open arr mem polys polt vary varyn
theorem allocP (ρ : Operand → Value) (o : Oper) (w1 : World) (ho : o.op = .alloc 25) : (execOp ρ o).run Tryz.prog w1 = .ok (.value (ptr w1.heap.size)) (w1.alloc (.cells (FL .i64 256 fun _ => 0) 25)) := by
 obtain ⟨hz, -⟩ := zero_of_info infoP
 generalize (FL .i64 256 fun _ => 0) = z at hz ⊢
 unfold execOp
 simp only [ho]
 go_simp
 rfl
def vrP (m s ke d e : Nat) : Vr := ⟨m, s, ke, d, e, 25, FL .i64 256 fun _ => 0⟩
theorem fitsP (f : Nat → Int) : Fits Tryz.prog 25 (FL .i64 256 fun _ => 0) (FL .i64 256 f) := ⟨by rw [fl_size]; exact (zero_of_info infoP).2, by rw [fl_size, fl_size], fl_one _ _ _⟩
end pvar
end Go.Proofs.YtlcafjdehcddcaaGreatDoor
namespace Go.Proofs.YtlcafjdehcddcaaGreatDoor
namespace rcut
open Go Go.RowKit
open arr
theorem cut_bytes (s : ByteArray) (m n : Nat) (h : m = min n s.size) : s.extract 0 m = ⟨(s.data.toList.take n).toArray⟩ := by
 subst h
 apply ByteArray.ext
 apply Array.toList_inj.1
 have h1 : (s.extract 0 (min n s.size)).data.toList = s.data.toList.take (min n s.size) := by simp
 have h2 : min n s.size = min n s.data.toList.length := rfl
 rw [h1, h2, ← List.take_eq_take_min]
set_option maxRecDepth 100000 in
set_option maxHeartbeats 1000000 in
theorem rcut_any (s : ByteArray) (n : Int) (w : World) (hs : s.size ≤ 140737488355328) :
 Calls Tryz.prog 42 #[.string s, .int .i64 n] w fun e w' => e = .returned (.string ⟨(s.data.toList.take n.toNat).toArray⟩) ∧ w' = w := by
 have hc := cut_bytes s _ n.toNat rfl
 rw [← hc]
 clear hc
 obtain ⟨m, hm⟩ : ∃ m, min n.toNat s.size = m := ⟨_, rfl⟩
 have h1 : max 0 (min n (s.size : Int)) = (m : Int) := by omega
 have h3 : m ≤ s.size := by omega
 rw [hm]
 clear hm
 go_enter Tryz.func42, Tryz.ntmps42
 go_wp2_with fail
 go_ret
 exact ⟨rfl, rfl⟩
end rcut
end Go.Proofs.YtlcafjdehcddcaaGreatDoor
