/-
  A slice literal of two polynomials. No function of a program is named here. Conditions: as each theorem says.
-/
import Derived.Test.YtdlolhilmhlklaaDoorPolS
namespace Go.Proofs.YtdlolhilmhlklaaDoor.polb
open Go Go.RowKit
open Go.Proofs.YtdlolhilmhlklaaDoor.arr Go.Proofs.YtdlolhilmhlklaaDoor.mem Go.Proofs.YtdlolhilmhlklaaDoor.polys Go.Proofs.YtdlolhilmhlklaaDoor.pols

def pair (f g : Nat → Int) : Nat → Nat → Int := fun i => if i = 0 then f else g
theorem rw_pair (f g : Nat → Int) : ((FL .i64 256 f).toList ++ (FL .i64 256 g).toList).toArray = RW 2 (pair f g) := by
  apply Array.ext (by rw [List.size_toArray, List.length_append, Array.length_toList, Array.length_toList, fl_size, fl_size, rw_size])
  intro i h1 h2
  have hi : i < 512 := by rw [rw_size] at h2; exact h2
  have e2 : (RW 2 (pair f g))[i]? = some (.int .i64 (pair f g (i / 256) (i % 256))) := fl_get .i64 512 _ i hi
  have e1 : ((FL .i64 256 f).toList ++ (FL .i64 256 g).toList).toArray[i]? = some (.int .i64 (pair f g (i / 256) (i % 256))) := by
    rw [List.getElem?_toArray]
    by_cases hlt : i < 256
    · rw [List.getElem?_append_left (by rw [Array.length_toList, fl_size]; exact hlt)]
      have := fl_get .i64 256 f i hlt
      rw [show i / 256 = 0 by omega, show i % 256 = i by omega]
      simpa [pair] using this
    · rw [List.getElem?_append_right (by rw [Array.length_toList, fl_size]; omega), Array.length_toList, fl_size]
      have := fl_get .i64 256 g (i - 256) (by omega)
      rw [show i / 256 = 1 by omega, show i % 256 = i - 256 by omega]
      simpa [pair] using this
  rw [Array.getElem?_eq_getElem h1] at e1
  rw [Array.getElem?_eq_getElem h2] at e2
  rw [Option.some.inj e1, Option.some.inj e2]
theorem fill_two (F G cells : Array Value) (sF : F.size = 256) (sG : G.size = 256) (hc : cells.size = 512) : Instr.fill (fun i => some (i * 256, 256)) cells [(0, .agg F), (1, .agg G)] = some (F.toList ++ G.toList).toArray := by
  have h := Great.fill_whole (s := 256) (by decide) [Value.agg F, Value.agg G] cells (by intro v hv; simp at hv; rcases hv with rfl | rfl <;> simp [Value.cells, sF, sG]) (by simp [hc])
  have e : (([Value.agg F, Value.agg G].flatMap fun v => v.cells.toList).toArray) = (F.toList ++ G.toList).toArray := by simp [Value.cells]
  rw [e] at h
  exact h
theorem wpList_buildTwo {P : Program} {ops : Array Oper} {rest : List Oper} {o : Oper} {a : Act} {w : World} {Q : Exit → Act → World → Prop} (hg : o.guard = none) (t e : TypeId) (x y : Operand) (ho : o.op = .buildSlice t 2 #[(0, x), (1, y)])
    (f g : Nat → Int) (F G : Array Value) (hF : FL .i64 256 f = F) (hG : FL .i64 256 g = G) (ie : TypeInfo) (z : Array Value)
    (hu : P.underlying t = some (.slice e)) (hie : P.info? e = some ie) (hz : ie.zero = some (.agg z)) (hsz : ie.size = 256) (hx : a.eval x = .agg F) (hy : a.eval y = .agg G)
    (h : wpList P ops Q rest (a.put o.dst (.slice (some ⟨w.heap.size, 0, none⟩) 2 2)) (w.alloc (.cells (RW 2 (pair f g)) e))) : wpList P ops Q (o :: rest) a w := by
  refine wpList_buildSlice hg t e 2 _ ho (RW 2 (pair f g)) ie (.agg z) hu hie hz (by rw [hsz]; decide) (by rw [hsz]; decide) ?_ h
  have hc : ((#[(0, x), (1, y)] : Array (Nat × Operand)).map fun (i, x) => (i, a.eval x)).toList = ([Value.agg F, Value.agg G].zipIdx 0).map fun x => (x.2, x.1) := by simp [hx, hy]
  have sF : F.size = 256 := by rw [← hF, fl_size]
  have sG : G.size = 256 := by rw [← hG, fl_size]
  have hc2 : ([Value.agg F, Value.agg G].zipIdx 0).map (fun x => (x.2, x.1)) = [(0, Value.agg F), (1, Value.agg G)] := rfl
  rw [hc, hc2, ← rw_pair f g, hF, hG, hsz]
  exact fill_two F G _ sF sG (by rw [Array.size_map, Array.size_range])
end Go.Proofs.YtdlolhilmhlklaaDoor.polb
