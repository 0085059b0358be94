/-
  Variables of type api.Poly made in a region that draws its order. No function of the program is named. Conditions: none.
-/
import Derived.Test.YtfgigpmhncfpbaaVr
import Derived.Test.YtfgigpmhncfpbaaPot
namespace Go.Proofs.Ytfgigpmhncfpbaa.pvar
open Go Go.RowKit
open Go.Proofs.Ytfgigpmhncfpbaa.arr Go.Proofs.Ytfgigpmhncfpbaa.mem Go.Proofs.Ytfgigpmhncfpbaa.polys Go.Proofs.Ytfgigpmhncfpbaa.polt Go.Proofs.Ytfgigpmhncfpbaa.vary Go.Proofs.Ytfgigpmhncfpbaa.varyn

theorem allocP (ρ : Operand → Value) (o : Oper) (w1 : World) (ho : o.op = .alloc 30) : (execOp ρ o).run Try.prog w1 = .ok (.value (ptr w1.heap.size)) (w1.alloc (.cells (FL .i64 256 fun _ => 0) 30)) := by
  obtain ⟨hz, -⟩ := zero_of_info infoP
  generalize (FL .i64 256 fun _ => 0) = z at hz ⊢
  unfold execOp
  simp only [ho]
  go_simp
  rfl
def vrP (m s ke d e : Nat) : Vr := ⟨m, s, ke, d, e, 30, FL .i64 256 fun _ => 0⟩
theorem fitsP (f : Nat → Int) : Fits Try.prog 30 (FL .i64 256 fun _ => 0) (FL .i64 256 f) := ⟨by rw [fl_size]; exact (zero_of_info infoP).2, by rw [fl_size, fl_size], fl_one _ _ _⟩
theorem built0 : Try.prog.built 30 [] = some (FL .i64 256 fun _ => 0) := by kernel_rfl
end Go.Proofs.Ytfgigpmhncfpbaa.pvar
