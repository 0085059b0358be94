/-
  The statement MlkeySays (P12.1, P12.2, P12.7): its row and its card. Conditions: none, but what the row lists of keccak's variable 'places', which the card ties to the program's text; for every input that the form speaks of.
-/
import Derived.Test.YtlcafjdehcddcaaGreatDoorRows
import Derived.Test.YtlcafjdehcddcaaGreatDoorCards
import Derived.Test.YtlcafjdehcddcaaGreatDoorTie
import Derived.Test.YtlcafjdehcddcaaGreatDoorZs05
import Derived.Test.YtlcafjdehcddcaaGreatDoorZs21
import Derived.ShutString
import Derived.ProofKit
import Derived.OpenShut
import Derived.Carry
import Derived.SevenTiedAt
namespace Go.Proofs.YtlcafjdehcddcaaGreatDoor.l12sc
open Go Go.ChangeShapes Go.WideShapes Go.ChangeAt Go.RowKit
open Go.ChangeMaps (open_string)
open Go.Proofs.YtlcafjdehcddcaaGreatDoor.arr Go.Proofs.YtlcafjdehcddcaaGreatDoor.kturn Go.Proofs.YtlcafjdehcddcaaGreatDoor.laids Go.Proofs.YtlcafjdehcddcaaGreatDoor.l12s
set_option linter.unusedVariables false
theorem cube_types : Tryz.prog.cellTypes Tryz.prog.depth 27 = some (List.replicate 2 (List.replicate 2 (List.replicate 256 [3]).flatten).flatten).flatten := by kernel_rfl
theorem cells_cube : Tryz.prog.cellsOf 27 = 1024 := by kernel_rfl
theorem rep_len (n : Nat) (l : List Nat) : (List.replicate n l).flatten.length = n * l.length := by simp
theorem rep_mem (n x : Nat) (l : List Nat) (h : ∀ u ∈ l, u = x) : ∀ u ∈ (List.replicate n l).flatten, u = x := fun u hu => by
 obtain ⟨l', h1, h2⟩ := List.mem_flatten.1 hu
 rw [List.eq_of_mem_replicate h1] at h2
 exact h u h2
set_option maxRecDepth 100000 in
theorem cube_ok (w : World) (b : Nat) (hi0 : Cell.okWide Tryz.prog w .any b 3 (.int .i64 0)) : Value.okWide Tryz.prog w .any b 27 (.agg (polys.FL .i64 1024 fun _ => 0)) := by
 unfold Value.okWide
 rw [Tryz.underlying27]
 obtain ⟨ts, hts⟩ : ∃ x, (List.replicate 2 (List.replicate 2 (List.replicate 256 [3]).flatten).flatten).flatten = x := ⟨_, rfl⟩
 have hl : ts.length = 1024 := by rw [← hts, rep_len, rep_len, rep_len]; rfl
 have hm : ∀ u ∈ ts, u = 3 := by rw [← hts]; exact rep_mem _ _ _ (rep_mem _ _ _ (rep_mem _ _ _ (fun u hu => by simpa using hu)))
 refine ⟨_, rfl, by rw [polys.fl_size, cells_cube], ts, by rw [cube_types, hts], ⟨1, by rw [polys.fl_size, hl]⟩, fun i v hv => ?_⟩
 have hi : i < 1024 := by
  have := (Array.getElem?_eq_some_iff.1 hv).1
  rwa [polys.fl_size] at this
 rw [polys.fl_get .i64 1024 _ i hi] at hv
 obtain rfl := Option.some.inj hv
 have hlt : i % ts.length < ts.length := by rw [hl]; omega
 obtain ⟨u, hu⟩ : ∃ u, ts[i % ts.length]? = some u := ⟨_, List.getElem?_eq_getElem hlt⟩
 obtain rfl := hm u (List.mem_of_getElem? hu)
 exact ⟨_, hu, hi0⟩
set_option maxRecDepth 100000 in
theorem lifted (os : Os) (started : os.Started) (H : Type) (enc : TypeId × Value → H) :
 ReturnsInHanded {} Tryz.checked os 3 .any (fun w args => (Rows.mlkeySaysSpec.pre enc Tryz.prog Tryz.f3 [] false w args ∧ laidMetH Tryz.prog [("sigil/keccak.places", Rows.laid_sigil_keccak_places)] w) ∧ sizedMet enc Tryz.prog Tryz.f3 (OpenSpec.ofChange Rows.mlkeySaysSpec) false w args)
  (Rows.mlkeySaysSpec.post enc Tryz.prog Tryz.f3 false true false false) := by
 refine returnsInHanded_of_change_and (C := Tryz.checked) (X := fun w _ => laidMetH Tryz.prog [("sigil/keccak.places", Rows.laid_sigil_keccak_places)] w) (fun _ _ _ hh h => h.of_heap hh) own started (by kernel_rfl) Tryz.func3
  ⟨World.doorLaid Tryz.prog 400 os, fun _ _ => 0, ⟨#[], #[.agg #[.int .i64 0, .int .i64 0, .int .i64 0, .int .i64 0, .int .i64 0, .int .i64 0, .int .i64 0, .int .i64 0], .string ByteArray.empty, .agg (polys.FL .i64 1024 fun _ => 0)], []⟩, rfl, World.shaped_of_RefB (by kernel_rfl) (by kernel_rfl), rfl,
   ⟨fun o ho => by simp at ho, fun g hg => by simp at hg, by kernel_rfl, Tryz.f3, Tryz.func3, by kernel_rfl, by kernel_rfl, by kernel_rfl, by kernel_rfl, fun j t v hj hv => by
    rw [Tryz.params3] at hj
    rcases (show j = 0 ∨ j = 1 ∨ j = 2 by have := (Array.getElem?_eq_some_iff.1 hj).1; simp at this; omega) with rfl | rfl | rfl
    ·obtain rfl : 23 = t := Option.some.inj hj
     obtain rfl := Option.some.inj hv
     exact Value.okWide_of_okWideB (by kernel_rfl)
    ·obtain rfl : 9 = t := Option.some.inj hj
     obtain rfl := Option.some.inj hv
     exact Value.okWide_of_okWideB (by kernel_rfl)
    ·obtain rfl : 27 = t := Option.some.inj hj
     obtain rfl := Option.some.inj hv
     exact cube_ok _ _ (Cell.okWide_of_okWideB (by kernel_rfl))⟩,
   ⟨⟨ChangeSpec.pre_of_preB (fuel := 8) (by kernel_rfl), laids.door_met os _⟩, sizedMet_of_sizedB (fuel := 8) (by kernel_rfl)⟩, by
    simp only [Assume.holds]
    exact ⟨by simp, by simp, fun _ => Modest.zero, by simp, by simp⟩⟩ ?_
 intro W base args ds gs before hval0 hW _ _ hL _
 have hval : ∀ (j : Nat) t v, Tryz.f3.params[j]? = some t → args[j]? = some v → Value.okWide Tryz.prog W .any base t v := hval0
 have hW' := hW
 have hlt := hW.lt
 obtain ⟨p, q, hA0, hV, rfl, hfz, hnd⟩ := hW
 have hA : DataW.TrodAll enc Tryz.prog W 0 (fun _ => true) true Tryz.f3.params.toList args.toList ds p := hA0
 rw [Tryz.params3] at hA hval
 obtain ⟨v0, vs0, d0, ds0, p0, q0, hargs, rfl, rfl, h0, r0⟩ := trodAll_cons hA
 obtain ⟨v1, vs1, d1, ds1, p1, q1, rfl, rfl, rfl, h1, r1⟩ := trodAll_cons r0
 obtain ⟨v2, vs2, d2, ds2, p2, q2, rfl, rfl, rfl, h2, r2⟩ := trodAll_cons r1
 obtain ⟨rfl, rfl, rfl⟩ := trodAll_nil r2
 obtain rfl : args = #[v0, v1, v2] := by cases args; simp_all
 obtain ⟨rfl, rfl⟩ := trodVars_none hV
 obtain ⟨k0, l0, e0, t0, a0, b0, o0, s0, rfl⟩ := lattm.open_lattice (hval 0 23 v0 rfl rfl) h0
 obtain ⟨a1, rfl, rfl, rfl, w1⟩ := open_string Tryz.underlying9 (hval 1 9 v1 rfl rfl) h1
 obtain ⟨a2, rfl⟩ := opcube.open_cube Tryz.underlying27 Tryz.underlying26 Tryz.underlying25 Tryz.underlying3 (by kernel_rfl) (by kernel_rfl) (by kernel_rfl) (by kernel_rfl) (hval 2 27 v2 rfl rfl) h2
 have hG := laids.gp_of hL
 clear hA0 hval0 hL
 refine (walk k0 l0 e0 t0 a0 b0 o0 s0 a1 a2 W w1 hG).mono fun e W' ⟨he, bel⟩ => ?_
 subst he
 exact ⟨_, rfl, _, _, _, [], _, [], hW', trodAll_mk1 (shut_bool Tryz.underlying4 _), (trodAll_cons_mk (Below.trod laidOut (by kernel_rfl) (of_decide_eq_true (by kernel_rfl)) h0 bel (fun x hx => by first | exact absurd hx (by simp) | exact hlt x (by simpa using hx) | exact hlt x (by simp; exact Or.inl hx) | exact hlt x (by simp; exact Or.inr hx) | exact hlt x (by simp; exact Or.inr (Or.inl hx)) | exact hlt x (by simp; exact Or.inr (Or.inr hx)))) (trodAll_cons_mk (Below.trod laidOut (by kernel_rfl) (of_decide_eq_true (by kernel_rfl)) h1 bel (fun x hx => by first | exact absurd hx (by simp) | exact hlt x (by simpa using hx) | exact hlt x (by simp; exact Or.inl hx) | exact hlt x (by simp; exact Or.inr hx) | exact hlt x (by simp; exact Or.inr (Or.inl hx)) | exact hlt x (by simp; exact Or.inr (Or.inr hx)))) (trodAll_cons_mk (Below.trod laidOut (by kernel_rfl) (of_decide_eq_true (by kernel_rfl)) h2 bel (fun x hx => by first | exact absurd hx (by simp) | exact hlt x (by simpa using hx) | exact hlt x (by simp; exact Or.inl hx) | exact hlt x (by simp; exact Or.inr hx) | exact hlt x (by simp; exact Or.inr (Or.inl hx)) | exact hlt x (by simp; exact Or.inr (Or.inr hx)))) trodAll_mk0))), rfl, bel.frame _, fun h => by cases h⟩
theorem over : Rows.MlkeySaysSaid :=
 OpenClaim.holds_of_wide 3 Tryz.f3 rfl rfl rfl rfl rfl rfl rfl ⟨rfl, rfl, rfl, rfl, rfl⟩ rfl rfl rfl rfl rfl (by kernel_rfl) Tryz.func3 (by kernel_rfl)
  (of_decide_eq_true (by kernel_rfl)) (by unfold Func.isWrapper; first | (rw [if_pos (by decide +kernel)]; kernel_rfl) | (rw [if_neg (by decide +kernel)]; exact ⟨rfl, rfl⟩))
  (fun os started H enc _ => lifted os started H enc)
theorem proved : Rows.MlkeySaysCardSaid :=
 Claim7.holds_tied_plain_at .later [] [.data] true _ false
  over (fun _ h => by cases h) (by kernel_rfl) (fun _ h => by cases h) mlkeySays_row_tie rfl ⟨rfl, rfl⟩ (by kernel_rfl) rfl
  (fun f fn hf hfn => by
   obtain rfl : f = 3 := Option.some.inj ((show Tryz.prog.funcNamed "sigil/sigillaw12.MlkeySays" = some 3 by kernel_rfl).symm.trans hf) |>.symm
   obtain rfl : fn = Tryz.f3 := (Option.some.inj (Tryz.func3.symm.trans hfn)).symm
   exact ⟨by kernel_rfl, fun j t ht => by
    rw [Tryz.params3] at ht
    have hm : t ∈ [23, 9, 27] := by simpa using Array.mem_of_getElem? ht
    have hall : ([23, 9, 27].all fun u => !Tryz.prog.wantsStandIn u) = true := by kernel_rfl
    exact (show Tryz.prog.wantsStandIn t = false by simpa using List.all_eq_true.1 hall t hm)⟩)
  (by kernel_rfl)
end Go.Proofs.YtlcafjdehcddcaaGreatDoor.l12sc
