/-
  What the document's own Pair of layer 12 returns, for a valid set and a seed of 32 bytes. Conditions: the tables hold the constants of the text. What the document's own Pair of layer 12 returns for a set that isn't valid or a seed of another length. Conditions: none. What the document's own Sizes of layer 12 returns. Conditions: none. The statement MlkeySays (P12.1, P12.2, P12.7): sizes and key pairs of any parameters and seed, and rows of any polynomials, agree with the reference. Conditions: none, but what the row lists of keccak's variable 'places', which the card ties to the program's text; for every input that the form speaks of. Plain facts on what an argument that is an array of two numbers looks like. No function of the program is named. Conditions: as the theorem says. An argument that is a parameter set (eight ints). No function of the program is named. Conditions: as the theorem says. An argument that is two rows of two polynomials. No function of the program is named. Conditions: as the theorem says.
-/
import Derived.Test.YtlcafjdehcddcaaGreatDoorZs07
import Derived.Test.YtlcafjdehcddcaaGreatDoorZs09
import Derived.Test.YtlcafjdehcddcaaGreatDoorZs10
import Derived.Test.YtlcafjdehcddcaaGreatDoorZs20
import Derived.Test.YtlcafjdehcddcaaGreatDoorZs08
import Derived.Test.YtlcafjdehcddcaaGreatDoorRows
import Derived.Test.YtlcafjdehcddcaaGreatDoorCards
import Derived.Test.YtlcafjdehcddcaaGreatDoorTie
import Derived.Test.YtlcafjdehcddcaaGreatDoorZs05
import Derived.Test.YtlcafjdehcddcaaGreatDoorZs12
import Derived.Test.YtlcafjdehcddcaaGreatDoorZs17
import Derived.Test.YtlcafjdehcddcaaGreatDoorZs03
import Derived.OwnWalk
import Derived.ProofKit
import Derived.OpenShut
import Derived.Carry
import Derived.SevenTiedAt
namespace Go.Proofs.YtlcafjdehcddcaaGreatDoor
namespace rkpr
set_option linter.unusedSimpArgs false
open Go Go.RowKit
open arr mem stil polys polt pols rbita rbitb rbitd rbite bitp rndm keca kstep spok saml samr rsdoc lsl11 helda vary varyn varye pvar mlkm rkpb rksb rkrw mlkd
def Apart (a b : Value) : Prop := ∀ k, a.ownBlock = some k → b.ownBlock ≠ some k
theorem Apart.symm {a b : Value} (h : Apart a b) : Apart b a := fun k h1 h2 => h k h2 h1
theorem Apart.kept {w w' : World} {B e sz n : Nat} {x y : Value} {ys : List Value} (h : w.ownsRow B e sz y n ys) (hap : Apart x y) (hg : w.grownBy w' x.ownBlock) : w'.ownsRow B e sz y n ys :=
 h.kept hg (by
  cases hy : y.ownBlock with
  | none => exact Or.inl rfl
  | some k => exact Or.inr fun h1 => hap k h1.symm hy)
theorem Apart.next {w : World} {B e sz n m : Nat} {x x' y : Value} {ys : List Value} (h : w.ownsRow B e sz y n ys) (hap : Apart x y) (hb : x'.ownBlock = x.ownBlock ∨ x'.ownBlock = some m) (hm : w.heap.size ≤ m) : Apart x' y := fun k hk hy => by
 rcases hb with h1 | h1
 ·exact hap k (by rw [← h1]; exact hk) hy
 ·rw [h1] at hk
  injection hk with hk
  have := (h.lt k hy).2
  omega
theorem wpMild_load_mid {P : Program} {ops : Array Oper} {C : World → Prop} {Q : Act → Prop} {rest : List Oper} {o : Oper} {a : Act} (hw : Region.wanted o (yielded ops a.tmps) = true) (ty : TypeId) (x : Operand) (ho : o.op = .load ty x)
 (b n : Nat) (hx : a.eval x = .pointer (some ⟨b, n, none⟩)) (cs : List Value) (d : TypeDesc) (hS : ∀ w, C w → w.rangeAt b n cs)
 (hu : P.underlying ty = some d) (hd : d.isRow = true) (hi : (P.info? ty).map (·.size) = some cs.length)
 (h : wpMild P ops C Q rest (a.put o.dst (.agg cs.toArray))) : wpMild P ops C Q (o :: rest) a :=
 wpMild_pure hw (.agg cs.toArray) (fun w hC => by
  unfold execOp
  simp only [ho, hx, Instr.loadAt, Instr.sureAddr, Sem.run_bind, Sem.run_pure, Result.andThen_ok, run_loadVar_mid w b n ty cs d (hS w hC) hu hd hi]) h
set_option maxRecDepth 100000 in
set_option maxHeartbeats 16000000 in
theorem pair_any {T : Array Value} (Z : Nat → Int) (kn ln : Nat) (e t a b o s : Int) (sd : ByteArray) (w : World) (hK : KT T TL RL) (hT : ∀ k, k < 256 → T[209 + k]? = some (.int .i64 (Z k))) (h : latt (kn : Int) (ln : Int) e t a b o s = true) (hsd : sd.size = 32) :
 Calls Tryz.prog 10 #[.agg T, .agg #[.int .i64 (kn : Int), .int .i64 (ln : Int), .int .i64 e, .int .i64 t, .int .i64 a, .int .i64 b, .int .i64 o, .int .i64 s], .string sd] w fun x w' => x = .returned (.tuple #[.string (pPk (fun k => Z k % 8380417) sd kn ln e), .string (pSk (fun k => Z k % 8380417) sd kn ln e), .int .i64 0]) ∧ Below w.heap.size w w' := by
 obtain ⟨hk, hl, -, he, -⟩ := latt_of h
 have hk : 1 ≤ kn ∧ kn ≤ 8 := by omega
 have hl : 1 ≤ ln ∧ ln ≤ 8 := by omega
 obtain ⟨ζ, hζ⟩ := ex_eq (fun k => Z k % 8380417)
 have HR : Away (∀ w1 : World, Calls Tryz.prog 35 #[.agg #[.int .i64 (kn : Int), .int .i64 (ln : Int), .int .i64 e, .int .i64 t, .int .i64 a, .int .i64 b, .int .i64 o, .int .i64 s]] w1 fun e0 w' => e0 = .returned (.bool true) ∧ Below w1.heap.size w1 w') := ⟨fun w1 => by rw [← h]; exact rfright.right_any _ _ e t a b o s w1⟩
 have HS1 : Away (∀ w1 : World, Calls Tryz.prog 41 #[.agg T, .int .i64 2, .string (tw sd kn ln), .int .i64 128] w1 fun x w' => x = .returned (.tuple #[.string (pS sd kn ln), .int .i64 0]) ∧ Below w1.heap.size w1 w') := ⟨fun w1 => rsph.shake_go2 2 _ 128 w1 hK rfl (by decide) (by rw [tw_size]; omega)⟩
 have HCu : Away (∀ w1 : World, Calls Tryz.prog 42 #[.string (pS sd kn ln), .int .i64 32] w1 fun x w' => x = .returned (.string (pRho sd kn ln)) ∧ w' = w1) := ⟨fun w1 => by
  have h1 := rcut.rcut_any (pS sd kn ln) 32 w1 (by rw [pS_size]; decide)
  rw [show (32 : Int).toNat = 32 from rfl, ← rcut.cut_bytes (pS sd kn ln) 32 32 (by rw [pS_size]; rfl)] at h1
  exact h1⟩
 have HSe : Away (∀ w1 : World, Calls Tryz.prog 43 #[.agg T, .agg #[.int .i64 (kn : Int), .int .i64 (ln : Int), .int .i64 e, .int .i64 t, .int .i64 a, .int .i64 b, .int .i64 o, .int .i64 s], .string (pSig sd kn ln)] w1 fun x w' => (∃ v1 v2, x = .returned (.tuple #[v1, v2]) ∧ w'.ownsRow w1.heap.size 25 256 v1 ln (cq (qS (pSig sd kn ln) e) ln) ∧ w'.ownsRow w1.heap.size 25 256 v2 kn (cq (fun i => qS (pSig sd kn ln) e (ln + i)) kn)) ∧ Below w1.heap.size w1 w') := ⟨fun w1 => secrets kn ln e t a b o s _ w1 hK h (by rw [pSig_size]; decide)⟩
 have HMa : Away (∀ w1 : World, Calls Tryz.prog 44 #[.agg T, .agg #[.int .i64 (kn : Int), .int .i64 (ln : Int), .int .i64 e, .int .i64 t, .int .i64 a, .int .i64 b, .int .i64 o, .int .i64 s], .string (pRho sd kn ln)] w1 fun x w' => (∃ v vs, x = .returned v ∧ w'.ownsRow w1.heap.size 45 1 v kn vs ∧ Rowl w' w1.heap.size v.ownBlock vs ln (qX (pRho sd kn ln))) ∧ Below w1.heap.size w1 w') := ⟨fun w1 => matrix kn ln e t a b o s _ w1 hK h (by rw [pRho_size]; decide)⟩
 obtain ⟨Y, hY⟩ := ex_eq (fun r => rowv ζ (qX (pRho sd kn ln) r) (qS (pSig sd kn ln) e) ln)
 have HRw : Away (∀ (w1 : World) (v vv : Value) (B : Nat), MX w1 v kn (fun _ => ln) (qX (pRho sd kn ln)) → Holds w1 B vv ln (qS (pSig sd kn ln) e) → Calls Tryz.prog 13 #[.agg T, v, vv] w1 fun e w' => (∃ v', e = .returned v' ∧ w'.ownsRow w1.heap.size 25 256 v' kn (cq Y kn)) ∧ Below w1.heap.size w1 w') := ⟨fun w1 v vv B h1 h2 => by
  have h3 := rows_any T Z kn ln (fun _ => ln) (qX (pRho sd kn ln)) (qS (pSig sd kn ln) e) v vv B w1 hK.size hT hk.2 (fun _ _ => hl.2) hl h1 h2
  simp only [Nat.min_self, hζ.out, hY.out] at h3
  exact h3⟩
 have HPb : Away (∀ (w1 : World) (v : Value), SL w1 v kn (pHi ζ sd kn ln e) → Calls Tryz.prog 17 #[.agg #[.int .i64 (kn : Int), .int .i64 (ln : Int), .int .i64 e, .int .i64 t, .int .i64 a, .int .i64 b, .int .i64 o, .int .i64 s], .string (pRho sd kn ln), v] w1 fun x w' => x = .returned (.tuple #[.string (pPk ζ sd kn ln e), .int .i64 0]) ∧ Below w1.heap.size w1 w') := ⟨fun w1 v hv => by
  have h1 := pb_any kn ln e t a b o s (pRho sd kn ln) v _ w1 hk h (pRho_size _ _ _) hv
  unfold resP at h1
  rw [if_pos (show okP (pHi ζ sd kn ln e) 1023 kn from fun i _ => pHi_in ζ sd kn ln e i)] at h1
  exact h1⟩
 have HS2 : Away (∀ w1 : World, Calls Tryz.prog 41 #[.agg T, .int .i64 2, .string (pPk ζ sd kn ln e), .int .i64 64] w1 fun x w' => x = .returned (.tuple #[.string (pTr ζ sd kn ln e), .int .i64 0]) ∧ Below w1.heap.size w1 w') := ⟨fun w1 => rsph.shake_go2 2 _ 64 w1 hK rfl (by decide) (by rw [pPk_size]; omega)⟩
 have HSb : Away (∀ (w1 : World) (va vb vl : Value) (Ba Bb Bl : Nat), Holds w1 Ba va ln (qS (pSig sd kn ln) e) → Holds w1 Bb vb kn (fun i => qS (pSig sd kn ln) e (ln + i)) → Holds w1 Bl vl kn (pLo ζ sd kn ln e) → Calls Tryz.prog 19 #[.agg #[.int .i64 (kn : Int), .int .i64 (ln : Int), .int .i64 e, .int .i64 t, .int .i64 a, .int .i64 b, .int .i64 o, .int .i64 s], .string (pRho sd kn ln ++ pKey sd kn ln ++ pTr ζ sd kn ln e), va, vb, vl] w1 fun x w' => x = .returned (.tuple #[.string (pSk ζ sd kn ln e), .int .i64 0]) ∧ Below w1.heap.size w1 w') := ⟨fun w1 va vb vl Ba Bb Bl h1 h2 h3 => by
  have h4 := sb_any kn ln e t a b o s (pHead ζ sd kn ln e) va vb vl Ba Bb Bl _ _ _ w1 hk hl he h (pHead_size _ _ _ _ _) h1 h2 h3
  unfold resK at h4
  rw [if_pos ⟨fun i _ => qS_in _ e he i, fun i _ => qS_in _ e he (ln + i), fun i _ => pLo_in ζ sd kn ln e i⟩] at h4
  exact h4⟩
 have HAd : Away (∀ (i : Nat) (w1 : World), Calls Tryz.prog 46 #[.agg (FL .i64 256 (Y i)), .agg (FL .i64 256 (qS (pSig sd kn ln) e (ln + i)))] w1 fun x w' => x = .returned (.agg (FL .i64 256 (pT ζ sd kn ln e i))) ∧ Below w1.heap.size w1 w') := ⟨fun i w1 => by
  have h1 := radd.add_any (Y i) (qS (pSig sd kn ln) e (ln + i)) w1
  rw [← hY.out] at h1 ⊢
  exact h1⟩
 have HSp : Away (∀ (i : Nat) (w1 : World), Calls Tryz.prog 45 #[.agg (FL .i64 256 (pT ζ sd kn ln e i))] w1 fun x w' => x = .returned (.tuple #[.agg (FL .i64 256 (pHi ζ sd kn ln e i)), .agg (FL .i64 256 (pLo ζ sd kn ln e i))]) ∧ Below w1.heap.size w1 w') := ⟨fun i w1 => rspl.split_any _ w1⟩
 rw [hζ.out]
 have HTz : Away ((Tryz.prog.info? 38).map (·.size) = some T.size) := ⟨infoT T hK⟩
 obtain ⟨ρS, hρS⟩ := ex_eq (pS sd kn ln)
 obtain ⟨ρR, hρR⟩ := ex_eq (pRho sd kn ln)
 obtain ⟨ρK, hρK⟩ := ex_eq (pKey sd kn ln)
 obtain ⟨ρG, hρG⟩ := ex_eq (pSig sd kn ln)
 obtain ⟨PK, hPK⟩ := ex_eq (pPk ζ sd kn ln e)
 obtain ⟨SK, hSK⟩ := ex_eq (pSk ζ sd kn ln e)
 obtain ⟨TR, hTR⟩ := ex_eq (pTr ζ sd kn ln e)
 obtain ⟨A, hA⟩ := ex_eq (qS (pSig sd kn ln) e)
 obtain ⟨Bq, hBq⟩ := ex_eq (fun i => qS (pSig sd kn ln) e (ln + i))
 obtain ⟨X, hX⟩ := ex_eq (qX (pRho sd kn ln))
 obtain ⟨hi, hhi⟩ := ex_eq (pHi ζ sd kn ln e)
 obtain ⟨lo, hlo⟩ := ex_eq (pLo ζ sd kn ln e)
 obtain ⟨tt, htt⟩ := ex_eq (pT ζ sd kn ln e)
 have hBi : ∀ i, qS (pSig sd kn ln) e (ln + i) = Bq i := fun i => by rw [← hBq.out]
 have sS : ρS.size = 128 := by rw [← hρS.out]; exact pS_size _ _ _
 have sR : ρR.size = 32 := by rw [← hρR.out]; exact pRho_size _ _ _
 have sK : ρK.size = 32 := by rw [← hρK.out]; exact pKey_size _ _ _
 have sT : TR.size = 64 := by rw [← hTR.out]; exact pTr_size _ _ _ _ _
 have eG : ρS.extract 32 96 = ρG := by rw [← hρS.out, ← hρG.out]; rfl
 have eK : ρS.extract 96 128 = ρK := by rw [← hρS.out, ← hρK.out]; rfl
 simp only [hBq.out] at HSe HSb
 simp only [hBi] at HAd
 simp only [hX.out] at HMa HRw
 simp only [hρS.out, hρR.out, hρK.out, hρG.out, hPK.out, hSK.out, hTR.out, hhi.out, hlo.out, htt.out] at HS1 HCu HSe HMa HRw HPb HS2 HSb HAd HSp hA ⊢
 simp only [hA.out] at HSe HRw HSb
 have HsS := Away.mk sS
 have HsR := Away.mk sR
 have HsK := Away.mk sK
 have HsT := Away.mk sT
 have HeG := Away.mk eG
 have HeK := Away.mk eK
 have Hk := Away.mk hk
 have Hl := Away.mk hl
 have Hsd := Away.mk hsd
 clear hρS hρR hρK hρG hPK hSK hTR hA hBq hBi hX hhi hlo htt hY hζ hT hK h he hk hl sS sR sK sT eG eK
 obtain ⟨i0, hi0, hz0, hz1, hz2⟩ := parts infoPoly
 obtain ⟨hz, hsize⟩ := zero_of_info polt.infoP
 obtain ⟨z, HZ⟩ := ex_eq (FL .i64 256 fun _ => 0)
 rw [HZ.out] at hz hz0
 have HI := Away.mk (And.intro hi0 (And.intro hz0 (And.intro hz1 hz2)))
 have Hz := Away.mk hz
 have Hzs : Away (z.size = 256) := ⟨by rw [← HZ.out]; exact fl_size _ _ _⟩
 have Hzc : Away ((Value.agg z).cells.size = 256) := ⟨Hzs.out⟩
 have Hsize := Away.mk hsize
 clear hi0 hz0 hz1 hz2 hsize hz
 obtain ⟨C, HC⟩ := ex_eq (#[.int .i64 (kn : Int), .int .i64 (ln : Int), .int .i64 e, .int .i64 t, .int .i64 a, .int .i64 b, .int .i64 o, .int .i64 s] : Array Value)
 simp only [HC.out] at HR HSe HMa HPb HSb ⊢
 have HCs : Away ((Tryz.prog.info? 23).map (·.size) = some C.size) := ⟨by rw [← HC.out]; kernel_rfl⟩
 obtain ⟨W, hW⟩ : ∃ x, (w.alloc (.cells T 38)).alloc (.cells C 23) = x := ⟨_, rfl⟩
 obtain ⟨r0, r1, hWs, b0⟩ := two hW
 have T0 : Away (W.heap[w.heap.size]? = some (.cells T 38 (0, 0))) := ⟨r0⟩
 have L0 : Away (W.heap[w.heap.size + 1]? = some (.cells C 23 (0, 0))) := ⟨r1⟩
 have BW := Away.mk b0
 have HWs := Away.mk hWs
 have HW := Away.mk hW
 have hsz : (sd.size : Int) = 32 := by omega
 have TB : Away (∀ w' : World, Below W.heap.size W w' → w'.heap[w.heap.size]? = some (.cells T 38 (0, 0))) := ⟨fun w' hb => (hb.block _ (by rw [hWs]; omega)).trans r0⟩
 have CB : Away (∀ w' : World, Below W.heap.size W w' → w'.heap[w.heap.size + 1]? = some (.cells C 23 (0, 0))) := ⟨fun w' hb => (hb.block _ (by rw [hWs]; omega)).trans r1⟩
 clear hW r0 r1 b0 hWs hsd
 go_enter Tryz.func10, Tryz.ntmps10
 go_wp2_with (first
  | (rw [HW.out])
  | (refine wpList_load_row rfl 23 _ rfl (w.heap.size + 1) rfl 23 _ (0, 0) _ L0.out Tryz.underlying23 rfl HCs.out ?_))
 refine (HR.out _).mono ?_
 rintro x u1 ⟨rfl, hb1⟩
 have E1 : Away (Below W.heap.size W u1) := ⟨hb1⟩
 have cK : u1.cell? ⟨w.heap.size + 1, 0, none⟩ = some (.int .i64 (kn : Int)) := cell_at (CB.out _ hb1) (by rw [← HC.out]; rfl)
 have cL : u1.cell? ⟨w.heap.size + 1, 1, none⟩ = some (.int .i64 (ln : Int)) := cell_at (CB.out _ hb1) (by rw [← HC.out]; rfl)
 have f8k : IntKind.u8.wrap (kn : Int) = (kn : Int) := by rw [IntKind.wrap_u8]; have := Hk.out; omega
 have f8l : IntKind.u8.wrap (ln : Int) = (ln : Int) := by rw [IntKind.wrap_u8]; have := Hl.out; omega
 obtain ⟨W2, hW2⟩ : ∃ x, u1.alloc (.cells #[.int .u8 (kn : Int), .int .u8 (ln : Int)] 5) = x := ⟨_, rfl⟩
 obtain ⟨r2, hs2, b2⟩ := one hW2
 have hcv := conv_lk (t := 5) (l := [kn, ln]) (cap := 2) (n := 2) rfl (by have := Hk.out; have := Hl.out; simp; omega) r2
 obtain ⟨XX, hXX⟩ : ∃ X : ByteArray, ⟨(u8s [kn, ln]).toArray⟩ = X := ⟨_, rfl⟩
 have hXs : XX.size = 2 := by rw [← hXX]; rfl
 have hcat : sd ++ XX = tw sd kn ln := by rw [← hXX]; rfl
 rw [hXX] at hcv
 have E2 : Away (Below W.heap.size W W2) := ⟨hb1.trans (b2.mono hb1.size)⟩
 have HW2 := Away.mk hW2
 have Hcat := Away.mk hcat
 clear hXX hcat r2 hs2 b2 hW2 hb1
 have hsdz := Hsd.out
 go_wp2_with (first
  | (refine wpList_load_row rfl 38 _ rfl w.heap.size rfl 38 T (0, 0) _ (TB.out _ E1.out) Tryz.underlying38 rfl HTz.out ?_)
  | (rw [HW2.out]))
 have HS1a := HS1.out W2
 rw [← Hcat.out] at HS1a
 refine HS1a.mono ?_
 rintro x w3 ⟨rfl, hb3⟩
 have E3 : Away (Below W.heap.size W w3) := ⟨E2.out.trans (hb3.mono E2.out.size)⟩
 clear HS1a hb3 hcv cK cL hXs
 have hsS := HsS.out
 have hsSz : (ρS.size : Int) = 128 := by omega
 have hsR := HsR.out
 have hsRz : (ρR.size : Int) = 32 := by omega
 go_wp2_with fail
 refine (HCu.out _).mono ?_
 rintro x w4 ⟨rfl, rfl⟩
 have f96 : IntKind.i64.wrap 96 = 96 := by decide
 have hEG := HeG.out
 go_wp2_with fail
 have KT4 : Away (∀ w' : World, Below w4.heap.size w4 w' → w'.heap[w.heap.size]? = some (.cells T 38 (0, 0))) := ⟨fun w' hb => TB.out w' (E3.out.trans (hb.mono E3.out.size))⟩
 have KC4 : Away (∀ w' : World, Below w4.heap.size w4 w' → w'.heap[w.heap.size + 1]? = some (.cells C 23 (0, 0))) := ⟨fun w' hb => CB.out w' (E3.out.trans (hb.mono E3.out.size))⟩
 refine hk_begin w4.heap.size 15 [0, 1, 2, 3, 5, 4, 6, 7, 8, 9, 10, 11, 12, 13, 14] (by kernel_rfl) rfl rfl (by decide) (fun hS ops HO => ?_)
 simp only [List.filterMap_cons, List.filterMap_nil, List.getElem?_cons_succ, List.getElem?_cons_zero]
 refine hk_load (by rw [← HO.out]; kernel_rfl) (by rw [← HO.out]; kernel_rfl) (by rw [← HO.out]; kernel_rfl) (by rw [← HO.out]; kernel_rfl) (fun _ _ _ _ h => h) 38 _ rfl w.heap.size rfl 38 T _ KT4.out Tryz.underlying38 rfl HTz.out hS ?_
 simp only [Act.put, List.setIfInBounds_toArray, List.set_cons_zero, List.set_cons_succ]
 refine hk_load (by rw [← HO.out]; kernel_rfl) (by rw [← HO.out]; kernel_rfl) (by rw [← HO.out]; kernel_rfl) (by rw [← HO.out]; kernel_rfl) (fun _ _ _ _ h => h) 23 _ rfl (w.heap.size + 1) rfl 23 C _ KC4.out Tryz.underlying23 rfl HCs.out hS ?_
 simp only [Act.put, List.setIfInBounds_toArray, List.set_cons_zero, List.set_cons_succ]
 (focus (refine hk_take (v := ?_) (by rw [← HO.out]; kernel_rfl) (by rw [← HO.out]; kernel_rfl) (by rw [← HO.out]; kernel_rfl) (by rw [← HO.out]; kernel_rfl) (fun _ _ _ h => h) ?_ hS ?_; rotate_left; focus (intro w9 h9; go_simp; first | done | with_reducible rfl); all_goals skip))
 simp only [Act.put, List.setIfInBounds_toArray, List.set_cons_zero, List.set_cons_succ]
 (focus (refine hk_take (v := ?_) (by rw [← HO.out]; kernel_rfl) (by rw [← HO.out]; kernel_rfl) (by rw [← HO.out]; kernel_rfl) (by rw [← HO.out]; kernel_rfl) (fun _ _ _ h => h) ?_ hS ?_; rotate_left; focus (intro w9 h9; go_simp; first | done | with_reducible rfl); all_goals skip))
 simp only [Act.put, List.setIfInBounds_toArray, List.set_cons_zero, List.set_cons_succ]
 (focus (refine hk_take (v := ?_) (by rw [← HO.out]; kernel_rfl) (by rw [← HO.out]; kernel_rfl) (by rw [← HO.out]; kernel_rfl) (by rw [← HO.out]; kernel_rfl) (fun _ _ _ h => h) ?_ hS ?_; rotate_left; focus (intro w9 h9; go_simp; first | done | with_reducible rfl); all_goals skip))
 simp only [Act.put, List.setIfInBounds_toArray, List.set_cons_zero, List.set_cons_succ]
 (focus (refine hk_take (v := ?_) (by rw [← HO.out]; kernel_rfl) (by rw [← HO.out]; kernel_rfl) (by rw [← HO.out]; kernel_rfl) (by rw [← HO.out]; kernel_rfl) (fun _ _ _ h => h) ?_ hS ?_; rotate_left; focus (intro w9 h9; go_simp; first | done | with_reducible rfl); all_goals skip))
 simp only [Act.put, List.setIfInBounds_toArray, List.set_cons_zero, List.set_cons_succ]
 (focus (refine hk_take (v := ?_) (by rw [← HO.out]; kernel_rfl) (by rw [← HO.out]; kernel_rfl) (by rw [← HO.out]; kernel_rfl) (by rw [← HO.out]; kernel_rfl) (fun _ _ _ h => h) ?_ hS ?_; rotate_left; focus (intro w9 h9; go_simp; first | done | with_reducible rfl); all_goals skip))
 simp only [Act.put, List.setIfInBounds_toArray, List.set_cons_zero, List.set_cons_succ]
 (focus (refine hk_take (v := ?_) (by rw [← HO.out]; kernel_rfl) (by rw [← HO.out]; kernel_rfl) (by rw [← HO.out]; kernel_rfl) (by rw [← HO.out]; kernel_rfl) (fun _ _ _ h => h) ?_ hS ?_; rotate_left; focus (intro w9 h9; go_simp; first | done | with_reducible rfl); all_goals skip))
 simp only [Act.put, List.setIfInBounds_toArray, List.set_cons_zero, List.set_cons_succ]
 (focus (refine hk_take (v := ?_) (by rw [← HO.out]; kernel_rfl) (by rw [← HO.out]; kernel_rfl) (by rw [← HO.out]; kernel_rfl) (by rw [← HO.out]; kernel_rfl) (fun _ _ _ h => h) ?_ hS ?_; rotate_left; focus (intro w9 h9; go_simp; first | done | with_reducible rfl); all_goals skip))
 simp only [Act.put, List.setIfInBounds_toArray, List.set_cons_zero, List.set_cons_succ]
 refine hk_step (by rw [← HO.out]; kernel_rfl) (by rw [← HO.out]; kernel_rfl) (fun K hK => ?_)
 go_simp
 refine (HSe.out _).mono ?_
 rintro x w9 ⟨⟨va, vb, rfl, oa, ob⟩, hb9⟩
 have h9 : Below w4.heap.size w4 w9 := hS.trans (hb9.mono hS.size)
 have HH : ∃ Bs, Holds w9 Bs va ln A ∧ Holds w9 Bs vb kn Bq := ⟨_, own_holds Hl.out.1 oa, own_holds Hk.out.1 ob⟩
 obtain ⟨Bs, Ha, Hb⟩ := HH
 obtain ⟨ga, ca, rfl, hga⟩ := hd_any Ha
 obtain ⟨gb, cb, rfl, hgb⟩ := hd_any Hb
 refine hK _ _ h9 ?_
 clear hK K hb9 oa ob
 try simp only [Act.put, List.setIfInBounds_toArray, List.set_cons_zero, List.set_cons_succ]
 (focus (refine hk_take (v := ?_) (by rw [← HO.out]; kernel_rfl) (by rw [← HO.out]; kernel_rfl) (by rw [← HO.out]; kernel_rfl) (by rw [← HO.out]; kernel_rfl) (fun _ _ _ h => h) ?_ h9 ?_; rotate_left; focus (intro w9 h9; go_simp; first | done | with_reducible rfl); all_goals skip))
 simp only [Act.put, List.setIfInBounds_toArray, List.set_cons_zero, List.set_cons_succ]
 (focus (refine hk_take (v := ?_) (by rw [← HO.out]; kernel_rfl) (by rw [← HO.out]; kernel_rfl) (by rw [← HO.out]; kernel_rfl) (by rw [← HO.out]; kernel_rfl) (fun _ _ _ h => h) ?_ h9 ?_; rotate_left; focus (intro w9 h9; go_simp; first | done | with_reducible rfl); all_goals skip))
 simp only [Act.put, List.setIfInBounds_toArray, List.set_cons_zero, List.set_cons_succ]
 (focus (refine hk_take (v := ?_) (by rw [← HO.out]; kernel_rfl) (by rw [← HO.out]; kernel_rfl) (by rw [← HO.out]; kernel_rfl) (by rw [← HO.out]; kernel_rfl) (fun _ _ _ h => h) ?_ h9 ?_; rotate_left; focus (intro w9 h9; go_simp; first | done | with_reducible rfl); all_goals skip))
 simp only [Act.put, List.setIfInBounds_toArray, List.set_cons_zero, List.set_cons_succ]
 (focus (refine hk_take (v := ?_) (by rw [← HO.out]; kernel_rfl) (by rw [← HO.out]; kernel_rfl) (by rw [← HO.out]; kernel_rfl) (by rw [← HO.out]; kernel_rfl) (fun _ _ _ h => h) ?_ h9 ?_; rotate_left; focus (intro w9 h9; go_simp; first | done | with_reducible rfl); all_goals skip))
 simp only [Act.put, List.setIfInBounds_toArray, List.set_cons_zero, List.set_cons_succ]
 (focus (refine hk_take (v := ?_) (by rw [← HO.out]; kernel_rfl) (by rw [← HO.out]; kernel_rfl) (by rw [← HO.out]; kernel_rfl) (by rw [← HO.out]; kernel_rfl) (fun _ _ _ h => h) ?_ h9 ?_; rotate_left; focus (intro w9 h9; go_simp; first | done | with_reducible rfl); all_goals skip))
 simp only [Act.put, List.setIfInBounds_toArray, List.set_cons_zero, List.set_cons_succ]
 refine hk_nil (by rw [← HO.out]; kernel_rfl) ?_
 have E9 : Away (Below W.heap.size W w9) := ⟨E3.out.trans (h9.mono E3.out.size)⟩
 have HAh := Away.mk Ha
 have HBh := Away.mk Hb
 have Hgb := Away.mk hgb
 clear h9 hS HO Ha Hb hga hgb KT4 KC4
 obtain ⟨B0, hB0⟩ : ∃ x, w9.heap.size = x := ⟨_, rfl⟩
 have HB0 := Away.mk hB0
 have TB9 : Away (∀ w' : World, Below B0 w9 w' → w'.heap[w.heap.size]? = some (.cells T 38 (0, 0))) := ⟨fun w' hb => TB.out w' (E9.out.trans (hb.mono (by rw [← HB0.out]; exact E9.out.size)))⟩
 have CB9 : Away (∀ w' : World, Below B0 w9 w' → w'.heap[w.heap.size + 1]? = some (.cells C 23 (0, 0))) := ⟨fun w' hb => CB.out w' (E9.out.trans (hb.mono (by rw [← HB0.out]; exact E9.out.size)))⟩
 have HAh2 : Away (∀ w' : World, Below B0 w9 w' → Holds w' Bs (.slice (some ⟨ga, 0, none⟩) ln ca) ln A) := ⟨fun w' hb => HAh.out.later (by rw [HB0.out]; exact hb)⟩
 clear hB0
 go_wp2_with fail
 refine hk_begin B0 9 [0, 1, 2, 3, 5, 8, 4, 6, 7] (by kernel_rfl) rfl rfl (by decide) (fun hS ops HO => ?_)
 simp only [List.filterMap_cons, List.filterMap_nil, List.getElem?_cons_succ, List.getElem?_cons_zero]
 refine hk_load (by rw [← HO.out]; kernel_rfl) (by rw [← HO.out]; kernel_rfl) (by rw [← HO.out]; kernel_rfl) (by rw [← HO.out]; kernel_rfl) (fun _ _ _ _ h => h) 38 _ rfl w.heap.size rfl 38 T _ TB9.out Tryz.underlying38 rfl HTz.out hS ?_
 simp only [Act.put, List.setIfInBounds_toArray, List.set_cons_zero, List.set_cons_succ]
 refine hk_load (by rw [← HO.out]; kernel_rfl) (by rw [← HO.out]; kernel_rfl) (by rw [← HO.out]; kernel_rfl) (by rw [← HO.out]; kernel_rfl) (fun _ _ _ _ h => h) 38 _ rfl w.heap.size rfl 38 T _ TB9.out Tryz.underlying38 rfl HTz.out hS ?_
 simp only [Act.put, List.setIfInBounds_toArray, List.set_cons_zero, List.set_cons_succ]
 refine hk_load (by rw [← HO.out]; kernel_rfl) (by rw [← HO.out]; kernel_rfl) (by rw [← HO.out]; kernel_rfl) (by rw [← HO.out]; kernel_rfl) (fun _ _ _ _ h => h) 23 _ rfl (w.heap.size + 1) rfl 23 C _ CB9.out Tryz.underlying23 rfl HCs.out hS ?_
 simp only [Act.put, List.setIfInBounds_toArray, List.set_cons_zero, List.set_cons_succ]
 (focus (refine hk_take (v := ?_) (by rw [← HO.out]; kernel_rfl) (by rw [← HO.out]; kernel_rfl) (by rw [← HO.out]; kernel_rfl) (by rw [← HO.out]; kernel_rfl) (fun _ _ _ h => h) ?_ hS ?_; rotate_left; focus (intro w9 h9; go_simp; first | done | with_reducible rfl); all_goals skip))
 simp only [Act.put, List.setIfInBounds_toArray, List.set_cons_zero, List.set_cons_succ]
 (focus (refine hk_take (v := ?_) (by rw [← HO.out]; kernel_rfl) (by rw [← HO.out]; kernel_rfl) (by rw [← HO.out]; kernel_rfl) (by rw [← HO.out]; kernel_rfl) (fun _ _ _ h => h) ?_ hS ?_; rotate_left; focus (intro w9 h9; go_simp; first | done | with_reducible rfl); all_goals skip))
 simp only [Act.put, List.setIfInBounds_toArray, List.set_cons_zero, List.set_cons_succ]
 (focus (refine hk_take (v := ?_) (by rw [← HO.out]; kernel_rfl) (by rw [← HO.out]; kernel_rfl) (by rw [← HO.out]; kernel_rfl) (by rw [← HO.out]; kernel_rfl) (fun _ _ _ h => h) ?_ hS ?_; rotate_left; focus (intro w9 h9; go_simp; first | done | with_reducible rfl); all_goals skip))
 simp only [Act.put, List.setIfInBounds_toArray, List.set_cons_zero, List.set_cons_succ]
 refine hk_step (by rw [← HO.out]; kernel_rfl) (by rw [← HO.out]; kernel_rfl) (fun K hK => ?_)
 go_simp
 refine (HMa.out _).mono ?_
 rintro x w11 ⟨⟨vm, vs, rfl, om, rm⟩, hb11⟩
 have h11 : Below B0 w9 w11 := hS.trans (hb11.mono (by have := hS.size; rw [HB0.out] at this; exact this))
 have MXm := mx_of Hk.out.1 om rm
 refine hK _ _ h11 ?_
 clear hK K om rm hb11
 try simp only [Act.put, List.setIfInBounds_toArray, List.set_cons_zero, List.set_cons_succ]
 refine hk_step (by rw [← HO.out]; kernel_rfl) (by rw [← HO.out]; kernel_rfl) (fun K hK => ?_)
 go_simp
 refine (HRw.out w11 vm _ _ MXm (HAh2.out _ h11)).mono ?_
 rintro x w12 ⟨⟨vr, rfl, orr⟩, hb12⟩
 have h12 : Below B0 w9 w12 := h11.trans (hb12.mono (by have := h11.size; rw [HB0.out] at this; exact this))
 have Hr := own_holds Hk.out.1 orr
 obtain ⟨gr, cr, rfl, hgr⟩ := hd_any Hr
 refine hK _ _ h12 ?_
 clear hK K orr hb12 MXm
 try simp only [Act.put, List.setIfInBounds_toArray, List.set_cons_zero, List.set_cons_succ]
 refine hk_step (by rw [← HO.out]; kernel_rfl) (by rw [← HO.out]; kernel_rfl) (fun K hK => ?_)
 go_simp
 refine hK _ _ h12 ?_
 clear hK K
 try simp only [Act.put, List.setIfInBounds_toArray, List.set_cons_zero, List.set_cons_succ]
 refine hk_nil (by rw [← HO.out]; kernel_rfl) ?_
 have HRh := Away.mk Hr
 have Hgr := Away.mk hgr
 have E12 : Away (Below W.heap.size W w12) := ⟨E9.out.trans (h12.mono (by rw [← HB0.out]; exact E9.out.size))⟩
 have HA12 : Away (Holds w12 Bs (.slice (some ⟨ga, 0, none⟩) ln ca) ln A) := ⟨HAh2.out _ h12⟩
 have HB12 : Away (Holds w12 Bs (.slice (some ⟨gb, 0, none⟩) kn cb) kn Bq) := ⟨HBh.out.later (by rw [HB0.out]; exact h12)⟩
 have Hgb12 : Away (gb < w12.heap.size) := ⟨Nat.lt_of_lt_of_le Hgb.out h12.size⟩
 clear Hr hgr h12 h11 HO hS TB9 CB9 HAh2 HAh HBh
 obtain ⟨B1, hB1⟩ : ∃ x, w12.heap.size = x := ⟨_, rfl⟩
 have HB1 := Away.mk hB1
 rw [hB1] at Hgb12 Hgr
 clear hB1
 go_wp2_with fail
 go_loopw [71, 14, 15] (fun iv hv lv wr => ∃ r : Nat, r ≤ kn ∧ iv = .int .i64 (r : Int) ∧ Away (wr.ownsRow B1 25 256 hv r (cq hi r)) ∧ Away (wr.ownsRow B1 25 256 lv r (cq lo r)) ∧ Away (Apart hv lv) ∧ Away (Below B1 w12 wr)) (fun iv _ _ _ => kn - (intOf iv).toNat)
 case atStart => exact ⟨0, Nat.zero_le _, rfl, ⟨⟨rfl, Or.inl ⟨rfl, rfl⟩⟩⟩, ⟨⟨rfl, Or.inl ⟨rfl, rfl⟩⟩⟩, ⟨fun k h => by simp [Value.ownBlock] at h⟩, ⟨Below.refl _ _⟩⟩
 case round =>
  obtain ⟨r, hr, rfl, O1, O2, AP, Hb⟩ := hrel
  have hbs : Away (B1 ≤ wr.heap.size) := ⟨by rw [← HB1.out]; exact Hb.out.size⟩
  by_cases hlt : r < kn
  ·have hrz : (r : Int) < (kn : Int) := by omega
   have hr8 : r < 8 := by have := Hk.out; omega
   have hrg := hd_row (HRh.out.later (by rw [HB1.out]; exact Hb.out)) r hlt
   have hrb := hd_row (HB12.out.later (by rw [HB1.out]; exact Hb.out)) r hlt
   have HAr : Away (∀ w1 : World, _) := ⟨HAd.out r⟩
   have HSr : Away (∀ w1 : World, _) := ⟨HSp.out r⟩
   obtain ⟨F, HF⟩ := ex_eq (FL .i64 256 (Y r))
   obtain ⟨G, HG⟩ := ex_eq (FL .i64 256 (Bq r))
   obtain ⟨M, HM⟩ := ex_eq (FL .i64 256 (tt r))
   obtain ⟨H, HH⟩ := ex_eq (FL .i64 256 (hi r))
   obtain ⟨J, HJ⟩ := ex_eq (FL .i64 256 (lo r))
   obtain ⟨o6, ho6⟩ : ∃ o6, r * 256 = o6 := ⟨_, rfl⟩
   rw [HF.out, ho6] at hrg
   rw [HG.out, ho6] at hrb
   simp only [HF.out, HG.out, HM.out, HH.out, HJ.out] at HAr HSr
   have Hrg := Away.mk hrg
   have Fs : Away (F.size = 256) := ⟨by rw [← HF.out]; exact fl_size _ _ _⟩
   have Fo : Away (F.all (·.oneCell') = true) := ⟨by rw [← HF.out]; exact fl_one _ _ _⟩
   have Fi : Away ((Tryz.prog.info? 25).map (·.size) = some F.size) := ⟨by rw [Fs.out]; exact Hsize.out⟩
   have Fz : Away (z.size = F.size) := ⟨by rw [Hzs.out, Fs.out]⟩
   have Gi : Away ((Tryz.prog.info? 25).map (·.size) = some G.toList.length) := ⟨by rw [Array.length_toList, ← HG.out, fl_size]; exact Hsize.out⟩
   have Hs : Away (H.size = 256) := ⟨by rw [← HH.out]; exact fl_size _ _ _⟩
   have Ho : Away (H.all (·.oneCell') = true) := ⟨by rw [← HH.out]; exact fl_one _ _ _⟩
   have Hfi : Away ((Tryz.prog.info? 25).map (·.size) = some H.size) := ⟨by rw [Hs.out]; exact Hsize.out⟩
   have Hft : Away (Fits Tryz.prog 25 (FL .i64 256 fun _ => 0) H) := ⟨by rw [← HH.out]; exact fitsP _⟩
   have Js : Away (J.size = 256) := ⟨by rw [← HJ.out]; exact fl_size _ _ _⟩
   have Jo : Away (J.all (·.oneCell') = true) := ⟨by rw [← HJ.out]; exact fl_one _ _ _⟩
   have Jfi : Away ((Tryz.prog.info? 25).map (·.size) = some J.size) := ⟨by rw [Js.out]; exact Hsize.out⟩
   have Jft : Away (Fits Tryz.prog 25 (FL .i64 256 fun _ => 0) J) := ⟨by rw [← HJ.out]; exact fitsP _⟩
   obtain ⟨W11, hW11⟩ : ∃ x, wr.alloc (.cells F 25) = x := ⟨_, rfl⟩
   obtain ⟨r11, hs11, b11⟩ := one hW11
   have HW11 := Away.mk hW11
   have R11 := Away.mk r11
   have D11 := Away.mk b11
   have Hrb : Away (W11.rangeAt gb o6 G.toList) := ⟨range_later hrb (Nat.lt_of_lt_of_le Hgb12.out hbs.out) b11⟩
   have Hgb11 : Away (gb < W11.heap.size) := ⟨Nat.lt_of_lt_of_le Hgb12.out (Nat.le_trans hbs.out b11.size)⟩
   have Hlt := Away.mk hlt
   have hz := Hz.out
   clear hrg hrb hW11 r11 hs11 b11 HF HG HM
   go_wp2_with (first
    | ((with_reducible refine wpList_load_mid rfl 25 _ rfl gr o6 ?hx F.toList _ Hrg.out Tryz.underlying25 rfl ?hi ?_); (case hx => rfl); (case hi => rw [Array.length_toList]; exact Fi.out))
    | (refine wpList_store_new rfl 25 _ _ rfl F rfl rfl Fi.out (by exact Fz.out) Fo.out rfl ?_)
    | (rw [HW11.out]))
   refine region_vary_take [vrP 10 12 8 18 84, vrP 11 13 9 19 85] 10 (by kernel_rfl) (by kernel_rfl) (by kernel_rfl) (by kernel_rfl) (by decide) (fun v hv ρ o w1 ho => by
    simp only [List.mem_cons, List.not_mem_nil, or_false] at hv
    rcases hv with rfl | rfl <;> exact allocP ρ o w1 ho) (by simp [vrP]) (fun ops HO => ?_)
   simp only [List.take_succ_cons, List.take_zero]
   refine wpMild_load rfl 25 _ rfl _ rfl 25 _ _ (fun w9 hw9 => (hw9.block _ (lt_of_row R11.out)).trans R11.out) Tryz.underlying25 rfl Fi.out ?_
   refine wpMild_step rfl (fun K hK => ?_)
   go_simp
   apply Exists.intro
   refine ⟨fun w9 hw9 => ?_, hK _ ?_⟩
   rfl
   clear hK K
   refine wpMild_step rfl (fun K hK => ?_)
   go_simp
   apply Exists.intro
   refine ⟨fun w9 hw9 => ?_, hK _ ?_⟩
   rfl
   clear hK K
   refine wpMild_step rfl (fun K hK => ?_)
   go_simp
   apply Exists.intro
   refine ⟨fun w9 hw9 => ?_, hK _ ?_⟩
   rfl
   clear hK K
   refine wpMild_load_mid rfl 25 _ rfl gb o6 rfl G.toList _ (fun w9 hw9 => range_later Hrb.out Hgb11.out hw9) Tryz.underlying25 rfl Gi.out ?_
   refine wpMild_step rfl (fun K hK => ?_)
   go_simp
   apply Exists.intro
   refine ⟨fun w9 hw9 => ?_, hK _ ?_⟩
   exact HAr.out w9
   clear hK K
   refine wpMild_step rfl (fun K hK => ?_)
   go_simp
   apply Exists.intro
   refine ⟨fun w9 hw9 => ?_, hK _ ?_⟩
   exact HSr.out w9
   clear hK K
   refine wpMild_step rfl (fun K hK => ?_)
   go_simp
   apply Exists.intro
   refine ⟨fun w9 hw9 => ?_, hK _ ?_⟩
   rfl
   clear hK K
   refine wpMild_step rfl (fun K hK => ?_)
   go_simp
   apply Exists.intro
   refine ⟨fun w9 hw9 => ?_, hK _ ?_⟩
   rfl
   clear hK K
   refine wpMild_step rfl (fun K hK => ?_)
   go_simp
   apply Exists.intro
   refine ⟨fun w9 hw9 => ?_, hK _ ?_⟩
   rfl
   clear hK K
   refine ends2 H J rfl Hft.out rfl Jft.out (by decide) (fun p1 p2 w6 l1 l2 n12 hb6 r1 r2 => ?_)
   simp only [vrP, Act.put, List.setIfInBounds_toArray, List.set_cons_zero, List.set_cons_succ] at r1 r2 ⊢
   have D6 : Away (Below wr.heap.size wr w6) := ⟨D11.out.trans (hb6.mono D11.out.size)⟩
   have O1a : Away (w6.ownsRow B1 25 256 u14 r (cq hi r)) := ⟨own_later O1.out D6.out⟩
   have O2a : Away (w6.ownsRow B1 25 256 u15 r (cq lo r)) := ⟨own_later O2.out D6.out⟩
   have R1 := Away.mk r1
   have R2 := Away.mk r2
   have P2 : Away (wr.heap.size ≤ p2) := ⟨Nat.le_trans D11.out.size l2⟩
   have hws : B1 ≤ w6.heap.size := Nat.le_trans hbs.out D6.out.size
   clear HO hb6 r1 r2 l1 l2 n12 Hrb R11
   go_wp2_with (refine wpList_load_row rfl 25 _ rfl p1 rfl 25 H (0, 0) _ R1.out Tryz.underlying25 rfl Hfi.out ?_)
   refine wp_buildSlice 45 25 1 _ rfl H i0 (.agg z) Tryz.underlying45 HI.out.1 HI.out.2.1 (by rw [HI.out.2.2.1]; decide) (by rw [HI.out.2.2.1]; decide) ?hf ?_
   case hf =>
    go_simp
    exact ⟨⟨decide_eq_false (fun h => h (Hs.out.trans HI.out.2.2.1.symm)), by rw [Hs.out, HI.out.2.2.1]; exact Nat.le_refl _⟩, fold_one H _ Hs.out (by simp [HI.out.2.2.1])⟩
   go_wp2_with (at_builtin; refine wpList_append_own_at _ rfl _ _ 45 rfl B1 25 i0 (.agg z) 256 2048 Tryz.underlying45 HI.out.1 HI.out.2.1 HI.out.2.2.1 HI.out.2.2.2 Hzc.out (by decide) _ _ _ rfl (O1a.out.alloc _) ⟨w6.heap.size, 0, none⟩ 1 1 H.toList rfl (by rw [Array.length_toList, Hs.out]) (fun j u hu => cell_at_new hu) (fun u hu => all_one Ho.out u hu) (by unfold maxLen; omega) (by omega) (by rw [size_alloc]; omega) ?_)
   intro v7 w7 hown7 hgrow7 _ hblk7
   have b7 : Below B1 w6 w7 := ((Below.refl B1 w6).alloc hws _).grown hgrow7 (by rw [size_alloc]; omega) (fun k hk => (O1a.out.lt k hk).1)
   have O2b : Away (w7.ownsRow B1 25 256 u15 r (cq lo r)) := ⟨Apart.kept (O2a.out.alloc _) AP.out hgrow7⟩
   have AP7 : Away (Apart v7 u15) := ⟨Apart.next O2a.out AP.out hblk7 (by omega)⟩
   have O1b : Away (w7.ownsRow B1 25 256 v7 (r + 1) (cq hi (r + 1))) := ⟨by rw [cq, HH.out]; exact hown7⟩
   have R2b : Away (w7.heap[p2]? = some (.cells J 25 (0, 0))) := ⟨by
    have hp := lt_of_row R2.out
    rw [hgrow7.block p2 (by rw [size_alloc]; omega) (fun e => by have := (O1.out.lt p2 e.symm).2; have := P2.out; omega), heap_alloc_old _ _ hp]
    exact R2.out⟩
   have D7 : Away (Below B1 w12 w7) := ⟨Hb.out.trans ((D6.out.mono hbs.out).trans b7)⟩
   have hws7 : B1 ≤ w7.heap.size := Nat.le_trans hws b7.size
   clear hown7 hgrow7 hblk7 b7 O1a O2a O1 O2 hws R1 R2
   go_wp2_with (refine wpList_load_row rfl 25 _ rfl p2 rfl 25 J (0, 0) _ R2b.out Tryz.underlying25 rfl Jfi.out ?_)
   refine wp_buildSlice 45 25 1 _ rfl J i0 (.agg z) Tryz.underlying45 HI.out.1 HI.out.2.1 (by rw [HI.out.2.2.1]; decide) (by rw [HI.out.2.2.1]; decide) ?hf ?_
   case hf =>
    go_simp
    exact ⟨⟨decide_eq_false (fun h => h (Js.out.trans HI.out.2.2.1.symm)), by rw [Js.out, HI.out.2.2.1]; exact Nat.le_refl _⟩, fold_one J _ Js.out (by simp [HI.out.2.2.1])⟩
   go_wp2_with (at_builtin; refine wpList_append_own_at _ rfl _ _ 45 rfl B1 25 i0 (.agg z) 256 2048 Tryz.underlying45 HI.out.1 HI.out.2.1 HI.out.2.2.1 HI.out.2.2.2 Hzc.out (by decide) _ _ _ rfl (O2b.out.alloc _) ⟨w7.heap.size, 0, none⟩ 1 1 J.toList rfl (by rw [Array.length_toList, Js.out]) (fun j u hu => cell_at_new hu) (fun u hu => all_one Jo.out u hu) (by unfold maxLen; omega) (by omega) (by rw [size_alloc]; omega) ?_)
   intro v8 w8 hown8 hgrow8 _ hblk8
   have b8 : Below B1 w7 w8 := ((Below.refl B1 w7).alloc hws7 _).grown hgrow8 (by rw [size_alloc]; omega) (fun k hk => (O2b.out.lt k hk).1)
   have O1c : Away (w8.ownsRow B1 25 256 v7 (r + 1) (cq hi (r + 1))) := ⟨Apart.kept (O1b.out.alloc _) AP7.out.symm hgrow8⟩
   have AP8 : Away (Apart v7 v8) := ⟨(Apart.next O1b.out AP7.out.symm hblk8 (by omega)).symm⟩
   have O2c : Away (w8.ownsRow B1 25 256 v8 (r + 1) (cq lo (r + 1))) := ⟨by rw [cq, HJ.out]; exact hown8⟩
   have D8 : Away (Below B1 w12 w8) := ⟨D7.out.trans b8⟩
   clear hown8 hgrow8 hblk8 b8
   go_wp2_with fail
   go_roundw
   case rel => exact ⟨r + 1, by have := Hlt.out; omega, by go_num, O1c, O2c, AP8, D8⟩
   case measure => have := Hlt.out; simp [intOf]; omega
  ·obtain rfl : r = kn := by omega
   have SLh := Away.mk (sl_own Hk.out.1 Hk.out.2 O1.out)
   have HLo := Away.mk (own_holds Hk.out.1 O2.out)
   have hb9 : Below w12.heap.size w12 wr := by rw [HB1.out]; exact Hb.out
   have E13 : Away (Below W.heap.size W wr) := ⟨E12.out.trans (hb9.mono E12.out.size)⟩
   have HA13 := Away.mk (HA12.out.later hb9)
   have HB13 := Away.mk (HB12.out.later hb9)
   clear hb9 O1 O2 AP hlt
   go_wp2_with (refine wpList_load_row rfl 23 _ rfl (w.heap.size + 1) rfl 23 C (0, 0) _ (CB.out _ E13.out) Tryz.underlying23 rfl HCs.out ?_)
   refine (HPb.out _ _ SLh.out).mono ?_
   rintro x w14 ⟨rfl, hb14⟩
   have E14 : Away (Below W.heap.size W w14) := ⟨E13.out.trans (hb14.mono E13.out.size)⟩
   have HA14 := Away.mk (HA13.out.later hb14)
   have HB14 := Away.mk (HB13.out.later hb14)
   have HL14 := Away.mk (HLo.out.later hb14)
   clear hb14
   go_wp2_with (refine wpList_load_row rfl 38 _ rfl w.heap.size rfl 38 T (0, 0) _ (TB.out _ E14.out) Tryz.underlying38 rfl HTz.out ?_)
   refine (HS2.out _).mono ?_
   rintro x w15 ⟨rfl, hb15⟩
   have E15 : Away (Below W.heap.size W w15) := ⟨E14.out.trans (hb15.mono E14.out.size)⟩
   have HA15 := Away.mk (HA14.out.later hb15)
   have HB15 := Away.mk (HB14.out.later hb15)
   have HL15 := Away.mk (HL14.out.later hb15)
   clear hb15
   have hEK := HeK.out
   have hsK := HsK.out
   have hsT := HsT.out
   have hsX : (ρR ++ ρK).size = 64 := by rw [ByteArray.size_append, hsR, hsK]
   go_wp2_with fail
   refine wp_region_quiet_below (by kernel_rfl) (by kernel_rfl) ?_
   refine wpQuiet_load rfl 23 _ rfl _ rfl 23 _ _ (fun w' hC => heap_regrown (CB.out _ E15.out) hC) Tryz.underlying23 rfl HCs.out ?_
   quiet_step (skip)
   quiet_step (skip)
   quiet_step (skip)
   quiet_step (skip)
   quiet_step (skip)
   quiet_step (skip)
   quiet_step (skip)
   quiet_step (skip)
   quiet_step (skip)
   quiet_step (skip)
   quiet_step (skip)
   quiet_step (skip)
   quiet_step (exact Calls.regrown_of (HSb.out _ _ _ _ _ _ _ (HA15.out.later (below_regrown _ _ _)) (HB15.out.later (below_regrown _ _ _)) (HL15.out.later (below_regrown _ _ _))))
   quiet_step (skip)
   quiet_step (skip)
   quiet_step (skip)
   quiet_step (skip)
   quiet_step (skip)
   refine wpQuiet_nil ?_
   intro w17 hC
   have hbn : Below w15.heap.size w15 w17 := by
    obtain ⟨pp, rfl⟩ := hC
    exact below_regrown _ _ _
   have E18 : Away (Below w.heap.size w w17) := ⟨BW.out.trans ((E15.out.trans (hbn.mono E15.out.size)).mono (by rw [HWs.out]; omega))⟩
   clear hC hbn
   go_wp2_with fail
   go_ret3
   exact ⟨rfl, E18.out⟩
end rkpr
namespace rkpd
set_option linter.unusedSimpArgs false
open Go Go.RowKit
open arr mem stil keca polt rndm
set_option maxRecDepth 100000 in
set_option maxHeartbeats 4000000 in
theorem pair_bad {T : Array Value} (k l e t a b o s : Int) (sd : ByteArray) (w : World) (h : latt k l e t a b o s = false ∨ sd.size ≠ 32) :
 Calls Tryz.prog 10 #[.agg T, .agg #[.int .i64 k, .int .i64 l, .int .i64 e, .int .i64 t, .int .i64 a, .int .i64 b, .int .i64 o, .int .i64 s], .string sd] w fun x w' => x = .returned (.tuple #[.string ⟨#[]⟩, .string ⟨#[]⟩, .int .i64 1]) ∧ Below w.heap.size w w' := by
 obtain ⟨cc, hc⟩ : ∃ c, latt k l e t a b o s = c := ⟨_, rfl⟩
 rw [hc] at h
 have HR : Away (∀ w1 : World, Calls Tryz.prog 35 #[.agg #[.int .i64 k, .int .i64 l, .int .i64 e, .int .i64 t, .int .i64 a, .int .i64 b, .int .i64 o, .int .i64 s]] w1 fun e0 w' => e0 = .returned (.bool cc) ∧ Below w1.heap.size w1 w') := ⟨fun w1 => by rw [← hc]; exact rfright.right_any k l e t a b o s w1⟩
 obtain ⟨C, HC⟩ := ex_eq (#[.int .i64 k, .int .i64 l, .int .i64 e, .int .i64 t, .int .i64 a, .int .i64 b, .int .i64 o, .int .i64 s] : Array Value)
 rw [HC.out] at HR ⊢
 have HCs : Away ((Tryz.prog.info? 23).map (·.size) = some C.size) := ⟨by rw [← HC.out]; kernel_rfl⟩
 obtain ⟨W, hW⟩ : ∃ x, (w.alloc (.cells T 38)).alloc (.cells C 23) = x := ⟨_, rfl⟩
 obtain ⟨-, r1, hWs, b0⟩ := two hW
 have L0 : Away (W.heap[w.heap.size + 1]? = some (.cells C 23 (0, 0))) := ⟨r1⟩
 have BW := Away.mk b0
 have HWs := Away.mk hWs
 have HW := Away.mk hW
 have h : cc = false ∨ (cc = true ∧ sd.size ≠ 32) := by
  cases cc
  ·exact Or.inl rfl
  ·exact Or.inr ⟨rfl, h.resolve_left (by decide)⟩
 clear hW r1 b0 hc hWs
 rcases h with rfl | ⟨rfl, h1⟩
 ·go_enter Tryz.func10, Tryz.ntmps10
  go_wp2_with (first
   | (rw [HW.out])
   | (refine wpList_load_row rfl 23 _ rfl (w.heap.size + 1) rfl 23 _ (0, 0) _ L0.out Tryz.underlying23 rfl HCs.out ?_))
  refine (HR.out _).mono ?_
  rintro x u1 ⟨rfl, hb1⟩
  have B1 : Away (Below w.heap.size w u1) := ⟨BW.out.trans (hb1.mono (by rw [HWs.out]; omega))⟩
  clear hb1
  go_wp2_with fail
  go_ret3
  exact ⟨rfl, B1.out⟩
 ·have hz : ((sd.size : Int) != 32) = true := by simp; omega
  go_enter Tryz.func10, Tryz.ntmps10
  go_wp2_with (first
   | (rw [HW.out])
   | (refine wpList_load_row rfl 23 _ rfl (w.heap.size + 1) rfl 23 _ (0, 0) _ L0.out Tryz.underlying23 rfl HCs.out ?_))
  refine (HR.out _).mono ?_
  rintro x u1 ⟨rfl, hb1⟩
  have B1 : Away (Below w.heap.size w u1) := ⟨BW.out.trans (hb1.mono (by rw [HWs.out]; omega))⟩
  clear hb1
  go_wp2_with fail
  go_ret3
  exact ⟨rfl, B1.out⟩
end rkpd
end Go.Proofs.YtlcafjdehcddcaaGreatDoor
namespace Go.Proofs.YtlcafjdehcddcaaGreatDoor
namespace rksz
open Go Go.RowKit
open arr mem stil polys polt rbita rndm mlkm
set_option maxRecDepth 100000 in
set_option maxHeartbeats 8000000 in
theorem sizes_any (k l e t a b o s : Int) (w : World) :
 Calls Tryz.prog 8 #[.agg #[.int .i64 k, .int .i64 l, .int .i64 e, .int .i64 t, .int .i64 a, .int .i64 b, .int .i64 o, .int .i64 s]] w fun x w' => x = .returned (szs k l e t a b o s) ∧ Below w.heap.size w w' := by
 have HR0 := fun w1 => rfright.right_any k l e t a b o s w1
 obtain ⟨V, HV⟩ := ex_eq (szs k l e t a b o s)
 rw [HV.out]
 obtain ⟨C, HC⟩ := ex_eq (#[.int .i64 k, .int .i64 l, .int .i64 e, .int .i64 t, .int .i64 a, .int .i64 b, .int .i64 o, .int .i64 s] : Array Value)
 rw [HC.out] at HR0 ⊢
 have HCs : Away ((Tryz.prog.info? 23).map (·.size) = some C.size) := ⟨by rw [← HC.out]; kernel_rfl⟩
 obtain ⟨W, hW⟩ : ∃ x, w.alloc (.cells C 23) = x := ⟨_, rfl⟩
 obtain ⟨r0, hWs, b0⟩ := one hW
 have L0 : Away (W.heap[w.heap.size]? = some (.cells C 23 (0, 0))) := ⟨r0⟩
 have BW := Away.mk b0
 have HWs := Away.mk hWs
 have HW := Away.mk hW
 clear hW r0 b0 hWs
 by_cases h : latt k l e t a b o s = true
 rotate_left
 ·have h : latt k l e t a b o s = false := by simpa using h
  have hVe : Away (V = .tuple #[.int .i64 0, .int .i64 0, .int .i64 0]) := ⟨by rw [← HV.out]; unfold szs; rw [h]; rfl⟩
  rw [h] at HR0
  have HR := Away.mk HR0
  clear HR0 h
  go_enter Tryz.func8, Tryz.ntmps8
  go_wp2_with (first
   | (rw [HW.out])
   | (refine wpList_load_row rfl 23 _ rfl w.heap.size rfl 23 _ (0, 0) _ L0.out Tryz.underlying23 rfl HCs.out ?_))
  refine (HR.out _).mono ?_
  rintro x u1 ⟨rfl, hb1⟩
  have B1 : Away (Below w.heap.size w u1) := ⟨BW.out.trans (hb1.mono (by rw [HWs.out]; omega))⟩
  clear hb1
  go_wp2_with fail
  go_ret3
  exact ⟨by rw [hVe.out]; rfl, B1.out⟩
 rw [h] at HR0
 have HR := Away.mk HR0
 obtain ⟨⟨k1, k8⟩, ⟨l1, l8⟩, he, ha, ⟨o1, o8⟩, hs⟩ := latt_all h
 obtain ⟨E, hE⟩ : ∃ E : Nat, lb (2 * e).toNat = E := ⟨_, rfl⟩
 obtain ⟨A, hA⟩ : ∃ A : Nat, lb (a - 1).toNat = A := ⟨_, rfl⟩
 have hE3 : E = 3 ∨ E = 4 := by rcases he with rfl | rfl <;> (rw [← hE]; decide +kernel)
 have hA3 : A = 17 ∨ A = 19 := by rcases ha with rfl | rfl <;> (rw [← hA]; decide +kernel)
 have HE : Away (∀ w1 : World, Calls Tryz.prog 36 #[.int .i64 (2 * e)] w1 fun x w' => x = .returned (.int .i64 (E : Int)) ∧ w' = w1) := ⟨fun w1 => by have h := rbita.long_any (2 * e) (by omega) w1; rw [hE] at h; exact h⟩
 have HA : Away (∀ w1 : World, Calls Tryz.prog 36 #[.int .i64 (a - 1)] w1 fun x w' => x = .returned (.int .i64 (A : Int)) ∧ w' = w1) := ⟨fun w1 => by have h := rbita.long_any (a - 1) (by omega) w1; rw [hA] at h; exact h⟩
 obtain ⟨M, hM⟩ : ∃ M : Int, 32 * (E : Int) = M := ⟨_, rfl⟩
 obtain ⟨q, hq⟩ : ∃ q : Int, l + k = q := ⟨_, rfl⟩
 obtain ⟨p, hp⟩ : ∃ p : Int, M * q = p := ⟨_, rfl⟩
 obtain ⟨N, hN⟩ : ∃ N : Int, 32 * ((A : Int) + 1) = N := ⟨_, rfl⟩
 obtain ⟨r, hr⟩ : ∃ r : Int, N * l = r := ⟨_, rfl⟩
 obtain ⟨d, hd⟩ : ∃ d : Int, s / 4 = d := ⟨_, rfl⟩
 have hpb : 0 ≤ p ∧ p ≤ 2048 := by rcases hE3 with rfl | rfl <;> (rw [← hp, ← hM]; omega)
 have hrb : 0 ≤ r ∧ r ≤ 5120 := by rcases hA3 with rfl | rfl <;> (rw [← hr, ← hN]; omega)
 have f1 : IntKind.i64.wrap (2 * e) = 2 * e := by rw [IntKind.wrap_i64]; omega
 have f2 : IntKind.i64.wrap (32 * (E : Int)) = M := by rw [hM, IntKind.wrap_i64]; omega
 have f3 : IntKind.i64.wrap (320 * k) = 320 * k := by rw [IntKind.wrap_i64]; omega
 have f4 : IntKind.i64.wrap (32 + 320 * k) = 32 + 320 * k := by rw [IntKind.wrap_i64]; omega
 have f5 : IntKind.i64.wrap (l + k) = q := by rw [hq, IntKind.wrap_i64]; omega
 have f6 : IntKind.i64.wrap (M * q) = p := by rw [hp, IntKind.wrap_i64]; omega
 have f7 : IntKind.i64.wrap (128 + p) = 128 + p := by rw [IntKind.wrap_i64]; omega
 have f8 : IntKind.i64.wrap (416 * k) = 416 * k := by rw [IntKind.wrap_i64]; omega
 have f9 : IntKind.i64.wrap (128 + p + 416 * k) = 128 + p + 416 * k := by rw [IntKind.wrap_i64]; omega
 have g1 : s.tdiv 4 = d := by rw [Int.tdiv_eq_ediv_of_nonneg (by omega)]; exact hd
 have g1' : IntKind.i64.wrap (s.tdiv 4) = d := by rw [g1, IntKind.wrap_i64]; omega
 have g1'' : IntKind.i64.wrap d = d := by rw [IntKind.wrap_i64]; omega
 have g2 : IntKind.i64.wrap (a - 1) = a - 1 := by rw [IntKind.wrap_i64]; omega
 have g3 : IntKind.i64.wrap ((A : Int) + 1) = (A : Int) + 1 := by rw [IntKind.wrap_i64]; omega
 have g4 : IntKind.i64.wrap (32 * ((A : Int) + 1)) = N := by rw [hN, IntKind.wrap_i64]; omega
 have g5 : IntKind.i64.wrap (N * l) = r := by rw [hr, IntKind.wrap_i64]; omega
 have g6 : IntKind.i64.wrap (d + r) = d + r := by rw [IntKind.wrap_i64]; omega
 have g7 : IntKind.i64.wrap (d + r + o) = d + r + o := by rw [IntKind.wrap_i64]; omega
 have g8 : IntKind.i64.wrap (d + r + o + k) = d + r + o + k := by rw [IntKind.wrap_i64]; omega
 have hVe : Away (V = .tuple #[.int .i64 (32 + 320 * k), .int .i64 (128 + p + 416 * k), .int .i64 (d + r + o + k)]) := ⟨by
  rw [← HV.out]
  unfold szs sz1 sz2 sz3
  rw [if_pos h, hE, hA, hM, hN, hq, hp, hr, hd]⟩
 clear HR0 h he ha hs hE hA hE3 hA3 hM hq hp hN hr hd hpb hrb k1 k8 l1 l8 o1 o8
 go_enter Tryz.func8, Tryz.ntmps8
 go_wp2_with (first
  | (rw [HW.out])
  | (refine wpList_load_row rfl 23 _ rfl w.heap.size rfl 23 _ (0, 0) _ L0.out Tryz.underlying23 rfl HCs.out ?_))
 refine (HR.out _).mono ?_
 rintro x u1 ⟨rfl, hb1⟩
 have B1 : Away (Below w.heap.size w u1) := ⟨BW.out.trans (hb1.mono (by rw [HWs.out]; omega))⟩
 have L1 : u1.heap[w.heap.size]? = some (.cells C 23 (0, 0)) := (hb1.block _ (by rw [HWs.out]; omega)).trans L0.out
 have c0 : u1.cell? ⟨w.heap.size, 0, none⟩ = some (.int .i64 k) := cell_at L1 (by rw [← HC.out]; rfl)
 have c1 : u1.cell? ⟨w.heap.size, 1, none⟩ = some (.int .i64 l) := cell_at L1 (by rw [← HC.out]; rfl)
 have c2 : u1.cell? ⟨w.heap.size, 2, none⟩ = some (.int .i64 e) := cell_at L1 (by rw [← HC.out]; rfl)
 have c4 : u1.cell? ⟨w.heap.size, 4, none⟩ = some (.int .i64 a) := cell_at L1 (by rw [← HC.out]; rfl)
 have c6 : u1.cell? ⟨w.heap.size, 6, none⟩ = some (.int .i64 o) := cell_at L1 (by rw [← HC.out]; rfl)
 have c7 : u1.cell? ⟨w.heap.size, 7, none⟩ = some (.int .i64 s) := cell_at L1 (by rw [← HC.out]; rfl)
 clear hb1 L1
 go_wp2_with fail
 refine (HE.out _).mono ?_
 rintro x u1 ⟨rfl, rfl⟩
 go_wp2_with fail
 refine still_all (by kernel_rfl) (by kernel_rfl) ?_
 repeat still_step
 still_call (HA.out _)
 repeat still_step
 refine wpStill_nil ?_
 clear c0 c1 c2 c4 c6 c7
 go_wp2_with fail
 go_ret3
 exact ⟨by rw [hVe.out]; rfl, B1.out.drew⟩
end rksz
end Go.Proofs.YtlcafjdehcddcaaGreatDoor
namespace Go.Proofs.YtlcafjdehcddcaaGreatDoor.l12s
open Go Go.ChangeShapes Go.WideShapes Go.ChangeAt Go.RowKit
open Go.Proofs.YtlcafjdehcddcaaGreatDoor.arr Go.Proofs.YtlcafjdehcddcaaGreatDoor.mem Go.Proofs.YtlcafjdehcddcaaGreatDoor.kturn
set_option linter.unusedVariables false
open Go.Proofs.YtlcafjdehcddcaaGreatDoor.polys Go.Proofs.YtlcafjdehcddcaaGreatDoor.polt Go.Proofs.YtlcafjdehcddcaaGreatDoor.pols Go.Proofs.YtlcafjdehcddcaaGreatDoor.mlkm Go.Proofs.YtlcafjdehcddcaaGreatDoor.mlkd Go.Proofs.YtlcafjdehcddcaaGreatDoor.tabm Go.Proofs.YtlcafjdehcddcaaGreatDoor.tabt Go.Proofs.YtlcafjdehcddcaaGreatDoor.tabv Go.Proofs.YtlcafjdehcddcaaGreatDoor.kcon
open Go.Proofs.YtlcafjdehcddcaaGreatDoor.rndm (latt)
theorem own : ownKnob Tryz.prog.godebug = none := by kernel_rfl
theorem laidOut : laidOutB Tryz.prog = true := by kernel_rfl
set_option maxRecDepth 100000 in
set_option maxHeartbeats 4000000 in
theorem far (k l e t a b o s : Int) (sd : ByteArray) (f : Nat → Int) (w : World) (h : 200 < sd.size) (hP : Gp w) :
 Calls Tryz.prog 3 #[.agg #[.int .i64 k, .int .i64 l, .int .i64 e, .int .i64 t, .int .i64 a, .int .i64 b, .int .i64 o, .int .i64 s], .string sd, .agg (FL .i64 1024 f)] w fun e w' => e = .returned (.bool true) ∧ Below w.heap.size w w' := by
 have HP := Away.mk hP
 have hz : (200 : Int) < (sd.size : Int) := by omega
 obtain ⟨L, HL⟩ := ex_eq (#[.int .i64 k, .int .i64 l, .int .i64 e, .int .i64 t, .int .i64 a, .int .i64 b, .int .i64 o, .int .i64 s] : Array Value)
 rw [HL.out]
 obtain ⟨M, HM⟩ := ex_eq (FL .i64 1024 f)
 rw [HM.out]
 obtain ⟨W0, hW0⟩ : ∃ x, (w.alloc (.cells L 23)).alloc (.cells M 27) = x := ⟨_, rfl⟩
 obtain ⟨-, -, -, b0⟩ := polt.two hW0
 have B0 := Away.mk b0
 have HW0 := Away.mk hW0
 clear hW0 b0 h hP HL HM
 go_enter Tryz.func3, Tryz.ntmps3
 go_wp2_with (rw [HW0.out])
 refine (kaw.awake_any _ (HP.out.later B0.out)).mono ?_
 rintro e w3 ⟨rfl, hb⟩
 have HB : Away (Below w.heap.size w w3) := ⟨B0.out.trans (hb.mono B0.out.size)⟩
 clear hb
 go_wp2_with fail
 go_ret
 exact ⟨rfl, HB.out⟩
theorem walk (k l e t a b o s : Int) (sd : ByteArray) (f : Nat → Int) (w : World) (wb : sd.size ≤ maxLen) (hP : Gp w) :
 Calls Tryz.prog 3 #[.agg #[.int .i64 k, .int .i64 l, .int .i64 e, .int .i64 t, .int .i64 a, .int .i64 b, .int .i64 o, .int .i64 s], .string sd, .agg (FL .i64 1024 f)] w fun e w' => e = .returned (.bool true) ∧ Below w.heap.size w w' := by
 by_cases h2 : 200 < sd.size
 ·exact far k l e t a b o s sd f w h2 hP
 have HR1 : ∀ (w1 : World) (v vv : Value), Gp w1 → rkrw.MX w1 v 2 says12.nn (says12.xx f) → Holds w1 0 vv 2 (says12.yy f) → Calls Tryz.prog 12 #[.agg TA, v, vv] w1 fun x w' => (∃ v', x = .returned v' ∧ Holds w' 0 v' 2 (fun r => rowv ζd (says12.xx f r) (says12.yy f) (min (says12.nn r) 2))) ∧ Below w1.heap.size w1 w' := fun w1 v vv _ h3 h4 => by
  refine (krw.rows_any TA _ 2 2 says12.nn (says12.xx f) (says12.yy f) v vv 0 w1 ta_size kaw.zt_doc (by decide) (fun r _ => by unfold says12.nn; split <;> decide) (by decide) h3 h4).mono ?_
  rintro x w' ⟨⟨v', rfl, hv⟩, hb⟩
  exact ⟨⟨v', rfl, rkse.holds_base hv⟩, hb⟩
 have HR2 : ∀ (w1 : World) (v vv : Value), rkrw.MX w1 v 2 says12.nn (says12.xx f) → Holds w1 0 vv 2 (says12.yy f) → Calls Tryz.prog 13 #[.agg TA, v, vv] w1 fun x w' => (∃ v', x = .returned v' ∧ Holds w' 0 v' 2 (fun r => rowv ζd (says12.xx f r) (says12.yy f) (min (says12.nn r) 2))) ∧ Below w1.heap.size w1 w' := fun w1 v vv h3 h4 => by
  refine (rkrw.rows_any TA _ 2 2 says12.nn (says12.xx f) (says12.yy f) v vv 0 w1 ta_size ht_doc (by decide) (fun r _ => by unfold says12.nn; split <;> decide) (by decide) h3 h4).mono ?_
  rintro x w' ⟨⟨v', rfl, hv⟩, hb⟩
  exact ⟨⟨v', rfl, rkse.holds_base (saml.own_holds (by decide) hv)⟩, hb⟩
 obtain ⟨A, B, C, hsz⟩ : ∃ A B C : Int, rksz.szs k l e t a b o s = .tuple #[.int .i64 A, .int .i64 B, .int .i64 C] := by
  unfold rksz.szs
  split
  ·exact ⟨_, _, _, rfl⟩
  ·exact ⟨_, _, _, rfl⟩
 have HS1 := fun w1 => ksz.sizes_any k l e t a b o s w1
 have HS2 := fun w1 => rksz.sizes_any k l e t a b o s w1
 simp only [hsz] at HS1 HS2
 by_cases h : latt k l e t a b o s = true ∧ sd.size = 32
 ·obtain ⟨h, h3⟩ := h
  obtain ⟨q1, q2, -⟩ := rksz.latt_all h
  obtain ⟨kn, rfl⟩ := Int.eq_ofNat_of_zero_le (a := k) (by omega)
  obtain ⟨ln, rfl⟩ := Int.eq_ofNat_of_zero_le (a := l) (by omega)
  exact says12.near f kn ln e t a b o s sd A B C _ _ 0 _ w (by omega) hP HS1 HS2 (fun w1 hg => pair kn ln e t a b o s sd h w1 hg h3) (fun w1 => rkpr.pair_any _ kn ln e t a b o s sd w1 kecd.kt_doc ht_doc h h3) HR1 HR2 (fun w1 hg => kaw.awake_any w1 hg)
 ·have hbad : latt k l e t a b o s = false ∨ sd.size ≠ 32 := by
   by_cases h3 : latt k l e t a b o s = true
   ·exact Or.inr fun h4 => h ⟨h3, h4⟩
   ·exact Or.inl (by simpa using h3)
  exact says12.near f k l e t a b o s sd A B C _ _ 1 _ w (by omega) hP HS1 HS2 (fun w1 _ => kpr.pair_bad k l e t a b o s sd w1 hbad) (fun w1 => rkpd.pair_bad k l e t a b o s sd w1 hbad) HR1 HR2 (fun w1 hg => kaw.awake_any w1 hg)
end Go.Proofs.YtlcafjdehcddcaaGreatDoor.l12s
namespace Go.Proofs.YtlcafjdehcddcaaGreatDoor
namespace optwo
open Go Go.ChangeShapes Go.WideShapes Go.ChangeAt Go.RowKit
open Go.Proofs.YtlcafjdehcddcaaGreatDoor.opens
section
variable {H : Type} {enc : TypeId × Value → H} {P : Program} {w : World} {base : Nat} {spare held : Bool}
end
end optwo
namespace lattm
open Go Go.ChangeShapes Go.WideShapes Go.ChangeAt Go.RowKit
section
variable {H : Type} {enc : TypeId × Value → H} {w : World}
set_option maxRecDepth 100000 in
theorem open_lattice {r : Reach} {b0 b1 : Nat} {sp : Nat → Bool} {hd : Bool} {v : Value} {d : DataW H} {p : List MemPlace} (hv : Value.okWide Tryz.prog w r b0 23 v) (h : DataW.Trod enc Tryz.prog w b1 sp hd 23 v d p) :
 ∃ k l e t a b o s : Int, v = .agg #[.int .i64 k, .int .i64 l, .int .i64 e, .int .i64 t, .int .i64 a, .int .i64 b, .int .i64 o, .int .i64 s] := by
 have hC : Tryz.prog.cellsOf 23 = 8 := by kernel_rfl
 have hI : Tryz.prog.cellsOf 3 = 1 := by kernel_rfl
 obtain ⟨⟨cs⟩, rfl, hsz⟩ := okWide_struct Tryz.underlying23 hv
 rw [hC] at hsz
 simp only [List.size_toArray] at hsz
 obtain ⟨fuel, hf⟩ := h
 obtain ⟨xs, n, _, -, hl, hlen, hg⟩ := DataW.trod_struct Tryz.underlying23 hf
 match cs, hsz with
 | [c0, c1, c2, c3, c4, c5, c6, c7], _ =>
 match xs, hlen with
 | [y0, y1, y2, y3, y4, y5, y6, y7], _ =>
  have h0 := hg 0 _ rfl
  have h1 := hg 1 _ rfl
  have h2 := hg 2 _ rfl
  have h3 := hg 3 _ rfl
  have h4 := hg 4 _ rfl
  have h5 := hg 5 _ rfl
  have h6 := hg 6 _ rfl
  have h7 := hg 7 _ rfl
  simp [Value.cells, hI] at h0 h1 h2 h3 h4 h5 h6 h7
  obtain ⟨k, e0, -, -⟩ := DataW.trod_int (by kernel_rfl) h0
  obtain ⟨l, e1, -, -⟩ := DataW.trod_int (by kernel_rfl) h1
  obtain ⟨e, e2, -, -⟩ := DataW.trod_int (by kernel_rfl) h2
  obtain ⟨t, e3, -, -⟩ := DataW.trod_int (by kernel_rfl) h3
  obtain ⟨a, e4, -, -⟩ := DataW.trod_int (by kernel_rfl) h4
  obtain ⟨b, e5, -, -⟩ := DataW.trod_int (by kernel_rfl) h5
  obtain ⟨o, e6, -, -⟩ := DataW.trod_int (by kernel_rfl) h6
  obtain ⟨s, e7, -, -⟩ := DataW.trod_int (by kernel_rfl) h7
  simp only [List.cons.injEq, and_true] at e0 e1 e2 e3 e4 e5 e6 e7
  exact ⟨k, l, e, t, a, b, o, s, by rw [e0, e1, e2, e3, e4, e5, e6, e7]⟩
end
end lattm
end Go.Proofs.YtlcafjdehcddcaaGreatDoor
namespace Go.Proofs.YtlcafjdehcddcaaGreatDoor
namespace opcube
open Go Go.ChangeShapes Go.WideShapes Go.ChangeAt Go.RowKit
open Go.Proofs.YtlcafjdehcddcaaGreatDoor.opens polys
theorem piece {cs : List Value} {a b c : Nat} {x : Value} (ha : c < 256) (h : ((((((cs.drop (a * 512)).take 512).drop (b * 256)).take 256).drop (c * 1)).take 1) = [x]) (hb : b < 2) : cs[512 * a + 256 * b + c]? = some x := by
 have e : ((((((cs.drop (a * 512)).take 512).drop (b * 256)).take 256).drop (c * 1)).take 1)[0]? = some x := by rw [h]; rfl
 rw [List.getElem?_take, if_pos (by decide), List.getElem?_drop, List.getElem?_take, if_pos (by omega), List.getElem?_drop, List.getElem?_take, if_pos (by omega), List.getElem?_drop] at e
 rw [← e]
 congr 1
 omega
theorem fl_of (n : Nat) (cs : Array Value) (hsz : cs.size = n) (key : ∀ j, j < n → ∃ x : Int, cs[j]? = some (.int .i64 x)) : ∃ f : Nat → Int, Value.agg cs = .agg (FL .i64 n f) := by
 refine ⟨fun i => match cs[i]? with | some (.int _ a) => a | _ => 0, ?_⟩
 congr 1
 apply Array.ext (by rw [hsz, fl_size])
 intro i h1 h2
 obtain ⟨x, hx⟩ := key i (by omega)
 have e2 := fl_get .i64 n (fun i => match cs[i]? with | some (.int _ a) => a | _ => 0) i (by omega)
 rw [Array.getElem?_eq_getElem h2] at e2
 rw [Option.some.inj e2]
 rw [Array.getElem?_eq_getElem h1] at hx
 simp [Array.getElem?_eq_getElem h1, Option.some.inj hx]
section
variable {H : Type} {enc : TypeId × Value → H} {P : Program} {w : World}
theorem open_cube {r : Reach} {b0 b1 : Nat} {sp : Nat → Bool} {hd : Bool} {t2 t1 tp ti : TypeId} {v : Value} {d : DataW H} {p : List MemPlace} (h2 : P.underlying t2 = some (.array 2 t1)) (h1 : P.underlying t1 = some (.array 2 tp)) (hp : P.underlying tp = some (.array 256 ti)) (hi : P.underlying ti = some (.int .i64))
 (c2 : P.cellsOf t2 = 1024) (c1 : P.cellsOf t1 = 512) (cp : P.cellsOf tp = 256) (ci : P.cellsOf ti = 1) (hv : Value.okWide P w r b0 t2 v) (h : DataW.Trod enc P w b1 sp hd t2 v d p) : ∃ f : Nat → Int, v = .agg (FL .i64 1024 f) := by
 obtain ⟨cs, rfl, hsz⟩ := okWide_array h2 hv
 rw [c2] at hsz
 obtain ⟨fuel, hf⟩ := h
 obtain ⟨xs, m, -, -, -, hl, hg⟩ := DataW.trod_array h2 hf
 have key : ∀ j, j < 1024 → ∃ x : Int, cs[j]? = some (.int .i64 x) := by
  intro j hj
  have ha := hg (j / 512) (by omega)
  rw [c1, List.getElem?_eq_getElem (by omega)] at ha
  obtain ⟨ys, m1, -, -, -, hl1, hg1⟩ := DataW.trod_array h1 ha
  have hb := hg1 (j / 256 % 2) (by omega)
  rw [cp, List.getElem?_eq_getElem (by omega)] at hb
  obtain ⟨zs, m2, -, -, -, hl2, hg2⟩ := DataW.trod_array hp hb
  have hc := hg2 (j % 256) (by omega)
  rw [ci, List.getElem?_eq_getElem (by omega)] at hc
  obtain ⟨x, hx, -, -⟩ := DataW.trod_int hi hc
  have hq := piece (by omega) hx (by omega)
  refine ⟨x, ?_⟩
  rw [show 512 * (j / 512) + 256 * (j / 256 % 2) + j % 256 = j by omega] at hq
  simpa [Value.cells] using hq
 exact fl_of 1024 cs hsz key
end
end opcube
end Go.Proofs.YtlcafjdehcddcaaGreatDoor
