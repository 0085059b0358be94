/-
  The statement SpongePieces (P6.7, P6.8): the pieces in which input is absorbed and output is squeezed make no difference; the sponge remains valid: its row and its card. Conditions: none, but what the row lists of keccak's variable 'places', which the card ties to the program's text; for every input that the form speaks of.
-/
import Derived.Test.YtpibnfpgokjnpaaDoorRows
import Derived.Test.YtpibnfpgokjnpaaDoorCards
import Derived.Test.YtpibnfpgokjnpaaDoorTie
import Derived.Test.YtpibnfpgokjnpaaDoorLd
import Derived.Test.YtpibnfpgokjnpaaDoorL6P
import Derived.ShutString
import Derived.SliceStrings
import Derived.ChangeSlices
import Derived.ProofKit
import Derived.OpenShut
import Derived.Carry
import Derived.SevenTiedAt
namespace Go.Proofs.YtpibnfpgokjnpaaDoor.lpieces6c
open Go Go.ChangeShapes Go.WideShapes Go.ChangeAt Go.RowKit
open Go.ChangeMaps (open_string)
open Go.Proofs.YtpibnfpgokjnpaaDoor.arr Go.Proofs.YtpibnfpgokjnpaaDoor.kturn Go.Proofs.YtpibnfpgokjnpaaDoor.laids
set_option linter.unusedVariables false
open Go.Proofs.YtpibnfpgokjnpaaDoor.lpieces6 (own laidOut)

theorem walk (a0 : Option Addr) (n0 c0 : Nat) (S0 : Nat → ByteArray) (a1 : Option Addr) (n1 c1 : Nat) (S1 : Nat → Int) (a2 : Int) (w : World) (h0 : ∀ i, i < n0 → ∃ a, a0 = some a ∧ a.block < w.heap.size ∧ w.cell? (a.add i) = some (.string (S0 i)))
    (h1 : ∀ i, i < n1 → ∃ a, a1 = some a ∧ a.block < w.heap.size ∧ w.cell? (a.add i) = some (.int .i64 (S1 i))) (w2 : (Lit.int .i64 a2).wf = true) (hP : Gp w) :
    Calls Tryd.prog 4 #[.slice a0 n0 c0, .slice a1 n1 c1, .int .i64 a2] w fun e w' => e = .returned (.bool true) ∧ Below w.heap.size w w' :=
  lpieces6.walk a0 a1 n0 c0 n1 c1 a2 S0 S1 w h0 h1 hP
/-! ### The row and its card -/
set_option maxRecDepth 100000 in
theorem lifted (os : Os) (started : os.Started) (H : Type) (enc : TypeId × Value → H) :
    ReturnsInHanded {} Tryd.checked os 4 .any (fun w args => (Rows.spongePiecesSpec.pre enc Tryd.prog Tryd.f4 [] false w args ∧ laidMetH Tryd.prog [("sigil/keccak.places", Rows.laid_sigil_keccak_places)] w) ∧ sizedMet enc Tryd.prog Tryd.f4 (OpenSpec.ofChange Rows.spongePiecesSpec) false w args)
      (Rows.spongePiecesSpec.post enc Tryd.prog Tryd.f4 false true false false) := by
  refine returnsInHanded_of_change_and (C := Tryd.checked) (X := fun w _ => laidMetH Tryd.prog [("sigil/keccak.places", Rows.laid_sigil_keccak_places)] w) (fun _ _ _ hh h => h.of_heap hh) own started (by kernel_rfl) Tryd.func4
    (ChangeSpec.witness_shaped (enc := enc) (C := Tryd.checked) (os := os) (X := fun w _ => laidMetH Tryd.prog [("sigil/keccak.places", Rows.laid_sigil_keccak_places)] w) false (World.doorLaid Tryd.prog 400 os) #[.slice none 0 0, .slice none 0 0, .int .i64 0] 8 rfl (World.shaped_of_RefB (by kernel_rfl) (by kernel_rfl)) (by kernel_rfl) (by kernel_rfl) (by kernel_rfl) (laids.door_met os _)) ?_
  intro W base args ds gs before hval0 hW _ _ hL _
  have hval : ∀ (j : Nat) t v, Tryd.f4.params[j]? = some t → args[j]? = some v → Value.okWide Tryd.prog W .any base t v := hval0
  have hW' := hW
  have hlt := hW.lt
  obtain ⟨p, q, hA0, hV, rfl, hfz, hnd⟩ := hW
  have hA : DataW.TrodAll enc Tryd.prog W 0 (fun _ => true) true Tryd.f4.params.toList args.toList ds p := hA0
  rw [Tryd.params4] at hA hval
  obtain ⟨v0, vs0, d0, ds0, p0, q0, hargs, rfl, rfl, h0, r0⟩ := trodAll_cons hA
  obtain ⟨v1, vs1, d1, ds1, p1, q1, rfl, rfl, rfl, h1, r1⟩ := trodAll_cons r0
  obtain ⟨v2, vs2, d2, ds2, p2, q2, rfl, rfl, rfl, h2, r2⟩ := trodAll_cons r1
  obtain ⟨rfl, rfl, rfl⟩ := trodAll_nil r2
  obtain rfl : args = #[v0, v1, v2] := by cases args; simp_all
  obtain ⟨rfl, rfl⟩ := trodVars_none hV
  obtain ⟨a0, n0, c0, rfl⟩ := okWide_slice Tryd.underlying49 (hval 0 49 v0 rfl rfl)
  have hcell0 : ∃ S : Nat → ByteArray, ∀ i, i < n0 → ∃ a, a0 = some a ∧ a.block < W.heap.size ∧ W.cell? (a.add i) = some (.string (S i)) := by
    have h0c := h0
    obtain ⟨fuel, hf⟩ := h0c
    rcases open_strings Tryd.underlying49 Tryd.underlying9 (by kernel_rfl) hf with ⟨hcs, hx⟩ | ⟨a, len', cap', ss, hcs, hb1, hl, hm, hz, hx, hc, hsz⟩
    · refine ⟨fun _ => ByteArray.empty, fun i hi => ?_⟩
      simp [Value.cells] at hcs
      omega
    · have e : a0 = some a ∧ n0 = len' ∧ c0 = cap' := by simpa [Value.cells] using hcs
      obtain ⟨rfl, rfl, rfl⟩ := e
      refine ⟨fun i => ss.getD i ByteArray.empty, fun i hi => ⟨a, rfl, ?_, hc i ?_⟩⟩
      · have := hc 0 (by rw [hz]; split <;> omega)
        have h1 := block_lt_of_cell this
        simp only [Addr.add] at h1
        split at h1 <;> exact h1
      · rw [hz]; split <;> omega
  obtain ⟨S0, w0⟩ := hcell0
  obtain ⟨a1, n1, c1, rfl⟩ := okWide_slice Tryd.underlying50 (hval 1 50 v1 rfl rfl)
  have hcell1 : ∃ S : Nat → Int, ∀ i, i < n1 → ∃ a, a1 = some a ∧ a.block < W.heap.size ∧ W.cell? (a.add i) = some (.int .i64 (S i)) := by
    have h0c := h1
    obtain ⟨fuel, hf⟩ := h0c
    rcases open_ints Tryd.underlying50 Tryd.underlying3 (by kernel_rfl) hf with ⟨hcs, hx⟩ | ⟨a, len', cap', ss, hcs, hb1, hl, hm, hz, hx, hc, hsz⟩
    · refine ⟨fun _ => 0, fun i hi => ?_⟩
      simp [Value.cells] at hcs
      omega
    · have e : a1 = some a ∧ n1 = len' ∧ c1 = cap' := by simpa [Value.cells] using hcs
      obtain ⟨rfl, rfl, rfl⟩ := e
      refine ⟨fun i => ss.getD i 0, fun i hi => ⟨a, rfl, ?_, hc i ?_⟩⟩
      · have := hc 0 (by rw [hz]; split <;> omega)
        have h1 := block_lt_of_cell this
        simp only [Addr.add] at h1
        split at h1 <;> exact h1
      · rw [hz]; split <;> omega
  obtain ⟨S1, w1⟩ := hcell1
  obtain ⟨a2, rfl, rfl, rfl, w2⟩ := open_int Tryd.underlying3 (hval 2 3 v2 rfl rfl) h2
  have hG := laids.gp_of hL
  clear hA0 hval0 hL
  refine (walk a0 n0 c0 S0 a1 n1 c1 S1 a2 W w0 w1 w2 hG).mono fun e W' ⟨he, bel⟩ => ?_
  subst he
  exact ⟨_, rfl, _, _, _, [], _, [], hW', trodAll_mk1 (shut_bool Tryd.underlying4 _), (trodAll_cons_mk (Below.trod laidOut (by kernel_rfl) (of_decide_eq_true (by kernel_rfl)) h0 bel (fun x hx => by first | exact absurd hx (by simp) | exact hlt x (by simpa using hx) | exact hlt x (by simp; exact Or.inl hx) | exact hlt x (by simp; exact Or.inr hx) | exact hlt x (by simp; exact Or.inr (Or.inl hx)) | exact hlt x (by simp; exact Or.inr (Or.inr hx)))) (trodAll_cons_mk (Below.trod laidOut (by kernel_rfl) (of_decide_eq_true (by kernel_rfl)) h1 bel (fun x hx => by first | exact absurd hx (by simp) | exact hlt x (by simpa using hx) | exact hlt x (by simp; exact Or.inl hx) | exact hlt x (by simp; exact Or.inr hx) | exact hlt x (by simp; exact Or.inr (Or.inl hx)) | exact hlt x (by simp; exact Or.inr (Or.inr hx)))) (trodAll_cons_mk (Below.trod laidOut (by kernel_rfl) (of_decide_eq_true (by kernel_rfl)) h2 bel (fun x hx => by first | exact absurd hx (by simp) | exact hlt x (by simpa using hx) | exact hlt x (by simp; exact Or.inl hx) | exact hlt x (by simp; exact Or.inr hx) | exact hlt x (by simp; exact Or.inr (Or.inl hx)) | exact hlt x (by simp; exact Or.inr (Or.inr hx)))) trodAll_mk0))), rfl, bel.frame _, fun h => by cases h⟩

theorem over : Rows.SpongePiecesSaid :=
  OpenClaim.holds_of_wide 4 Tryd.f4 rfl rfl rfl rfl rfl rfl rfl ⟨rfl, rfl, rfl, rfl, rfl⟩ rfl rfl rfl rfl rfl (by kernel_rfl) Tryd.func4 (by kernel_rfl)
    (of_decide_eq_true (by kernel_rfl)) (by unfold Func.isWrapper; first | (rw [if_pos (by decide +kernel)]; kernel_rfl) | (rw [if_neg (by decide +kernel)]; exact ⟨rfl, rfl⟩))
    (fun os started H enc _ => lifted os started H enc)

theorem proved : Rows.SpongePiecesCardSaid :=
  Claim7.holds_tied_plain_at .later [] [.data] true _ false
    over (fun _ h => by cases h) (by kernel_rfl) (fun _ h => by cases h) spongePieces_row_tie rfl ⟨rfl, rfl⟩ (by kernel_rfl) rfl
    (fun f fn hf hfn => by
      obtain rfl : f = 4 := Option.some.inj ((show Tryd.prog.funcNamed "sigil/sigillaw06.SpongePieces" = some 4 by kernel_rfl).symm.trans hf) |>.symm
      obtain rfl : fn = Tryd.f4 := (Option.some.inj (Tryd.func4.symm.trans hfn)).symm
      exact ⟨by kernel_rfl, fun j t ht => by
        rw [Tryd.params4] at ht
        have hm : t ∈ [49, 50, 3] := by simpa using Array.mem_of_getElem? ht
        have hall : ([49, 50, 3].all fun u => !Tryd.prog.wantsStandIn u) = true := by kernel_rfl
        exact (show Tryd.prog.wantsStandIn t = false by simpa using List.all_eq_true.1 hall t hm)⟩)
    (by kernel_rfl)
end Go.Proofs.YtpibnfpgokjnpaaDoor.lpieces6c
