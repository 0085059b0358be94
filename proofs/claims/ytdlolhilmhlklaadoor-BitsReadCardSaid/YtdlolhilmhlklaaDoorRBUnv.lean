/-
  The document's own Unhints of layer 10 for bounds or a length that are not as they must be. Conditions: none.
-/
import Derived.Test.YtdlolhilmhlklaaDoorBiD
namespace Go.Proofs.YtdlolhilmhlklaaDoor.rbitv
open Go Go.RowKit
open Go.Proofs.YtdlolhilmhlklaaDoor.arr Go.Proofs.YtdlolhilmhlklaaDoor.mem Go.Proofs.YtdlolhilmhlklaaDoor.stil

set_option maxRecDepth 100000 in
set_option maxHeartbeats 4000000 in
theorem unhints_bad (s : ByteArray) (om m : Int) (w : World) (hm : om < 1 ∨ 255 < om ∨ m < 1 ∨ 8 < m ∨ (s.size : Int) ≠ om + m) :
    Calls Tryd.prog 11 #[.string s, .int .i64 om, .int .i64 m] w fun e w' => e = .returned (.tuple #[.slice none 0 0, .int .i64 1]) ∧ Below w.heap.size w w' := by
  have hm : om < 1 ∨ (¬ om < 1 ∧ 255 < om) ∨ (¬ om < 1 ∧ ¬ 255 < om ∧ m < 1) ∨ (¬ om < 1 ∧ ¬ 255 < om ∧ ¬ m < 1 ∧ 8 < m) ∨ (¬ om < 1 ∧ ¬ 255 < om ∧ ¬ m < 1 ∧ ¬ 8 < m ∧ (s.size : Int) ≠ om + m) := by omega
  rcases hm with hm | ⟨h1, hm⟩ | ⟨h1, h2, hm⟩ | ⟨h1, h2, h3, hm⟩ | ⟨h1, h2, h3, h4, hm⟩
  · go_enter Tryd.func11, Tryd.ntmps11
    go_wp2_with fail
    go_ret2
    exact ⟨rfl, Below.refl _ _⟩
  · go_enter Tryd.func11, Tryd.ntmps11
    go_wp2_with fail
    go_ret2
    exact ⟨rfl, Below.refl _ _⟩
  · go_enter Tryd.func11, Tryd.ntmps11
    go_wp2_with fail
    go_ret2
    exact ⟨rfl, Below.refl _ _⟩
  · go_enter Tryd.func11, Tryd.ntmps11
    go_wp2_with fail
    go_ret2
    exact ⟨rfl, Below.refl _ _⟩
  · have fw : IntKind.i64.wrap (om + m) = om + m := by rw [IntKind.wrap_i64]; omega
    have fne : ((s.size : Int) != om + m) = true := by simpa using hm
    clear hm
    go_enter Tryd.func11, Tryd.ntmps11
    go_wp2_with fail
    go_ret2
    exact ⟨rfl, Below.refl _ _⟩
end Go.Proofs.YtdlolhilmhlklaaDoor.rbitv
