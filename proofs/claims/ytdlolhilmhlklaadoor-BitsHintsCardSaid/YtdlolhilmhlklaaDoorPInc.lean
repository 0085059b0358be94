/-
  What package bits' increasing returns: whether each byte is greater than the one before it. Conditions: the string's length is an int.
-/
import Derived.Test.YtdlolhilmhlklaaDoorBiD
namespace Go.Proofs.YtdlolhilmhlklaaDoor.pinc
open Go Go.RowKit
open Go.Proofs.YtdlolhilmhlklaaDoor.arr Go.Proofs.YtdlolhilmhlklaaDoor.mem Go.Proofs.YtdlolhilmhlklaaDoor.stil Go.Proofs.YtdlolhilmhlklaaDoor.rbitc

/-- the bytes from place 0 on increase, k of them looked at -/
def incs (s : ByteArray) : Prop := ∀ k, k < s.size → 0 < k → (bys s).getD (k - 1) 0 < (bys s).getD k 0
instance (s : ByteArray) : Decidable (incs s) := by unfold incs; exact inferInstance
theorem byte_lt (s : ByteArray) (k : Nat) : (bys s).getD k 0 < 256 := by
  by_cases hj : k < (bys s).length
  · rw [List.getD_eq_getElem?_getD, List.getElem?_eq_getElem hj]
    exact bys_lt s _ (List.getElem_mem hj)
  · rw [List.getD_eq_getElem?_getD, List.getElem?_eq_none (by omega)]
    decide
set_option maxRecDepth 100000 in
set_option maxHeartbeats 2000000 in
theorem inc_any (s : ByteArray) (n : Nat) (hn : s.size = n) (hs : n < 4294967296) (w : World) : Calls Tryd.prog 26 #[.string s] w fun e w' => e = .returned (.bool (decide (incs s))) ∧ Below w.heap.size w w' := by
  obtain ⟨V, HV⟩ := ex_eq (decide (incs s))
  rw [HV.out]
  have Hix : Away (∀ j, j < n → ∀ w1 : World, (Instr.index 9 (.string s) (.int .i64 (j : Int))).run Tryd.prog w1 = .ok (.int .u8 (((bys s).getD j 0 : Nat) : Int)) w1) := ⟨fun j hj w1 => byte_of s j _ (by omega) rfl w1⟩
  have Hsz := Away.mk hn
  go_enter Tryd.func26, Tryd.ntmps26
  go_wp2_with fail
  go_loopw [3] (fun v wr => ∃ k : Nat, 1 ≤ k ∧ (k ≤ n ∨ k = 1) ∧ v = .int .i64 (k : Int) ∧ Away (∀ j, j < k → j < n → 0 < j → (bys s).getD (j - 1) 0 < (bys s).getD j 0) ∧ Away (Below w.heap.size w wr)) (fun v _ => n + 1 - (intOf v).toNat)
  case atStart => exact ⟨1, Nat.le_refl _, Or.inr rfl, rfl, ⟨fun j h1 _ h2 => by omega⟩, ⟨Below.refl _ _⟩⟩
  case round =>
    obtain ⟨k, hk1, hkn, rfl, Hin, Hb⟩ := hrel
    by_cases hlt : k < n
    · have hkz : (k : Int) < (n : Int) := by omega
      have hkz2 : (k : Int) < (s.size : Int) := by omega
      have i1 := Hix.out k hlt
      have i2 := Hix.out (k - 1) (by omega)
      obtain ⟨k1, hk⟩ : ∃ k1, k - 1 = k1 := ⟨_, rfl⟩
      rw [hk] at i2
      have fk1 : IntKind.i64.wrap ((k : Int) - 1) = (k1 : Int) := by rw [IntKind.wrap_i64]; omega
      obtain ⟨a, ha⟩ : ∃ a, (bys s).getD k1 0 = a := ⟨_, rfl⟩
      obtain ⟨b, hb⟩ : ∃ b, (bys s).getD k 0 = b := ⟨_, rfl⟩
      rw [hb] at i1
      rw [ha] at i2
      have BD : Away (Below w.heap.size w wr.drew) := ⟨Hb.out.drew⟩
      by_cases hab : b ≤ a
      · have hV : Away (V = false) := ⟨by
          rw [← HV.out]
          refine decide_eq_false fun h => ?_
          have := h k (by rw [hn]; exact hlt) (by omega)
          rw [hk, ha, hb] at this
          omega⟩
        have fd : decide ((b : Int) ≤ (a : Int)) = true := decide_eq_true (by omega)
        have fd2 : decide (b ≤ a) = true := decide_eq_true hab
        clear hk ha hb
        go_wp2_with fail
        refine still_all (by kernel_rfl) (by kernel_rfl) ?_
        repeat still_step
        refine wpStill_nil ?_
        go_wp2_with fail
        go_ret
        exact ⟨by rw [hV.out]; rfl, BD.out⟩
      · have Hin2 : Away (∀ j, j < k + 1 → j < n → 0 < j → (bys s).getD (j - 1) 0 < (bys s).getD j 0) := ⟨fun j h1 h2 h3 => by
          by_cases e : j = k
          · subst e; rw [hk, ha, hb]; omega
          · exact Hin.out j (by omega) h2 h3⟩
        have fd : decide ((b : Int) ≤ (a : Int)) = false := decide_eq_false (by omega)
        have fd2 : decide (b ≤ a) = false := decide_eq_false hab
        clear hk ha hb
        go_wp2_with fail
        refine still_all (by kernel_rfl) (by kernel_rfl) ?_
        repeat still_step
        refine wpStill_nil ?_
        go_wp2_with fail
        go_roundw
        case rel => exact ⟨k + 1, by omega, Or.inl (by omega), by go_num, Hin2, BD⟩
        case measure => simp [intOf]; omega
    · have hkz : ¬ (k : Int) < (n : Int) := by omega
      have hkz2 : ¬ (k : Int) < (s.size : Int) := by omega
      have hV : Away (V = true) := ⟨by
        rw [← HV.out]
        exact decide_eq_true fun j h1 h2 => Hin.out j (by omega) (by omega) h2⟩
      go_wp2_with fail
      go_ret
      exact ⟨by rw [hV.out]; rfl, Hb.out⟩
end Go.Proofs.YtdlolhilmhlklaaDoor.pinc
