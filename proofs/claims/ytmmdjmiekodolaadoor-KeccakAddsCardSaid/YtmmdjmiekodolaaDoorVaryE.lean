/-
  VaryN's end for two and for three variables. No program is named here. Conditions: as each theorem says.
-/
import Derived.Test.YtmmdjmiekodolaaDoorVaryN
namespace Go.Proofs.YtmmdjmiekodolaaDoor.varye
set_option linter.unusedSimpArgs false
set_option linter.unusedVariables false
open Go Go.RowKit
open Go.Proofs.YtmmdjmiekodolaaDoor.arr Go.Proofs.YtmmdjmiekodolaaDoor.mem Go.Proofs.YtmmdjmiekodolaaDoor.vary Go.Proofs.YtmmdjmiekodolaaDoor.varyn

theorem ends2 {P : Program} {Q : Exit → Act → World → Prop} {W : World} {a : Act} {v1 v2 : Vr} (c1 c2 : Array Value) (h1 : a.eval (.tmp v1.e) = .agg c1) (f1 : Fits P v1.ty v1.Z c1) (h2 : a.eval (.tmp v2.e) = .agg c2) (f2 : Fits P v2.ty v2.Z c2) (n12 : v1.d ≠ v2.d)
    (h : ∀ p1 p2 w', W.heap.size ≤ p1 → W.heap.size ≤ p2 → p1 ≠ p2 → Below W.heap.size W w' → w'.heap[p1]? = some (.cells c1 v1.ty (0, 0)) → w'.heap[p2]? = some (.cells c2 v2.ty (0, 0)) → Q .normal ((a.put (some v2.d) (.pointer (some ⟨p2, 0, none⟩))).put (some v1.d) (.pointer (some ⟨p1, 0, none⟩))) w') : EndsN P [v1, v2] Q W a := by
  refine ⟨fun v hv => ?_, fun ps w' hm hi hb => ?_⟩
  · simp only [List.mem_cons, List.not_mem_nil, or_false] at hv
    rcases hv with rfl | rfl
    · exact ⟨c1, h1, f1⟩
    · exact ⟨c2, h2, f2⟩
  · obtain ⟨p1, d1, e1, l1, k1, r1⟩ := hm v1 (by simp)
    obtain ⟨p2, d2, e2, l2, k2, r2⟩ := hm v2 (by simp)
    obtain rfl : d1 = c1 := by rw [h1] at k1; injection k1 with k1; exact k1.symm
    obtain rfl : d2 = c2 := by rw [h2] at k2; injection k2 with k2; exact k2.symm
    have e : puts [v1, v2] ps a = ((a.put (some v2.d) (.pointer (some ⟨p2, 0, none⟩))).put (some v1.d) (.pointer (some ⟨p1, 0, none⟩))) := by
      simp only [puts, List.foldr_cons, List.foldr_nil, e1, e2]
      rfl
    rw [e]
    exact h p1 p2 w' l1 l2 (fun x => n12 (hi v1 (by simp) v2 (by simp) p1 e1 (x ▸ e2))) hb r1 r2
theorem ends3 {P : Program} {Q : Exit → Act → World → Prop} {W : World} {a : Act} {v1 v2 v3 : Vr} (c1 c2 c3 : Array Value) (h1 : a.eval (.tmp v1.e) = .agg c1) (f1 : Fits P v1.ty v1.Z c1) (h2 : a.eval (.tmp v2.e) = .agg c2) (f2 : Fits P v2.ty v2.Z c2) (h3 : a.eval (.tmp v3.e) = .agg c3) (f3 : Fits P v3.ty v3.Z c3) (n12 : v1.d ≠ v2.d) (n13 : v1.d ≠ v3.d) (n23 : v2.d ≠ v3.d)
    (h : ∀ p1 p2 p3 w', W.heap.size ≤ p1 → W.heap.size ≤ p2 → W.heap.size ≤ p3 → p1 ≠ p2 → p1 ≠ p3 → p2 ≠ p3 → Below W.heap.size W w' → w'.heap[p1]? = some (.cells c1 v1.ty (0, 0)) → w'.heap[p2]? = some (.cells c2 v2.ty (0, 0)) → w'.heap[p3]? = some (.cells c3 v3.ty (0, 0)) → Q .normal (((a.put (some v3.d) (.pointer (some ⟨p3, 0, none⟩))).put (some v2.d) (.pointer (some ⟨p2, 0, none⟩))).put (some v1.d) (.pointer (some ⟨p1, 0, none⟩))) w') : EndsN P [v1, v2, v3] Q W a := by
  refine ⟨fun v hv => ?_, fun ps w' hm hi hb => ?_⟩
  · simp only [List.mem_cons, List.not_mem_nil, or_false] at hv
    rcases hv with rfl | rfl | rfl
    · exact ⟨c1, h1, f1⟩
    · exact ⟨c2, h2, f2⟩
    · exact ⟨c3, h3, f3⟩
  · obtain ⟨p1, d1, e1, l1, k1, r1⟩ := hm v1 (by simp)
    obtain ⟨p2, d2, e2, l2, k2, r2⟩ := hm v2 (by simp)
    obtain ⟨p3, d3, e3, l3, k3, r3⟩ := hm v3 (by simp)
    obtain rfl : d1 = c1 := by rw [h1] at k1; injection k1 with k1; exact k1.symm
    obtain rfl : d2 = c2 := by rw [h2] at k2; injection k2 with k2; exact k2.symm
    obtain rfl : d3 = c3 := by rw [h3] at k3; injection k3 with k3; exact k3.symm
    have e : puts [v1, v2, v3] ps a = (((a.put (some v3.d) (.pointer (some ⟨p3, 0, none⟩))).put (some v2.d) (.pointer (some ⟨p2, 0, none⟩))).put (some v1.d) (.pointer (some ⟨p1, 0, none⟩))) := by
      simp only [puts, List.foldr_cons, List.foldr_nil, e1, e2, e3]
      rfl
    rw [e]
    exact h p1 p2 p3 w' l1 l2 l3 (fun x => n12 (hi v1 (by simp) v2 (by simp) p1 e1 (x ▸ e2))) (fun x => n13 (hi v1 (by simp) v3 (by simp) p1 e1 (x ▸ e3))) (fun x => n23 (hi v2 (by simp) v3 (by simp) p2 e2 (x ▸ e3))) hb r1 r2 r3
/-- .. where the allocations and the stores stand behind all else -/
theorem region_vary_take {P : Program} {id : Nat} {Q : Exit → Act → World → Prop} {a : Act} {w : World} {l : List Oper} (V : List Vr) (n : Nat) (hm : P.follows .mixedOrders = true)
    (hB : varyNB .any l.toArray V = true) (hk : (List.range n).map (fun k => l.toArray[k]?) = (l.take n).map some) (hx : lexIdx .any l.toArray (List.range n) (marks V (Array.replicate l.toArray.size false)) = true) (hn : (List.range n).length + (V.length + V.length) ≤ l.toArray.size)
    (HA : ∀ v ∈ V, ∀ (ρ : Operand → Value) (o : Oper) (w : World), o.op = .alloc v.ty → (execOp ρ o).run P w = .ok (.value (ptr w.heap.size)) (w.alloc (.cells v.Z v.ty))) (hd : (V.all fun v => decide (v.d < a.tmps.size)) = true)
    (h : ∀ ops : Array Oper, Away (l.toArray = ops) → wpMild P ops (fun w' => Below w.heap.size w w') (EndsN P V Q w) (l.take n) a) : (Code.region id l.toArray true).wp P Q a w :=
  region_varyN V _ _ hm hB hk hx hn HA hd h
end Go.Proofs.YtmmdjmiekodolaaDoor.varye
