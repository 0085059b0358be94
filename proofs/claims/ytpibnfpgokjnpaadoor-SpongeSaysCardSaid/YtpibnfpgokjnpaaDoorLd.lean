/-
  A package-level array of ints that a row lists, as a block of memory; '==' of two arrays of 25 words (no function of the program is named here). Conditions: as each theorem says.
-/
import Derived.Test.YtpibnfpgokjnpaaDoorKw
import Derived.Test.YtpibnfpgokjnpaaDoorWds
import Derived.Test.YtpibnfpgokjnpaaDoorRows
import Derived.LaidMore
import Derived.OpenShut
import Derived.Stop.Joined
namespace Go.Proofs.YtpibnfpgokjnpaaDoor.laids
open Go Go.ChangeShapes Go.WideShapes Go.ChangeAt Go.RowKit
open Go.Proofs.YtpibnfpgokjnpaaDoor.arr Go.Proofs.YtpibnfpgokjnpaaDoor.mem Go.Proofs.YtpibnfpgokjnpaaDoor.kturn

theorem ints_of_laid {P : Program} {w : World} {g n : Nat} {name : String} {t e : TypeId} (ds : List Nat) (h : laidMetH P [(name, .agg (ds.map fun d : Nat => .lit (.int .i64 (d : Int))))] w) (hg : P.globalNamed name = some g) (ht : (P.globals[g]?).map (·.type) = some t)
    (hu : P.underlying t = some (.array n e)) (he : P.underlying e = some (.int .i64)) (hce : P.cellsOf e = 1) (hct : P.cellsOf t = n) (hl : ds.length = n) (hn : 0 < n) : ∃ t, w.heap[g]? = some (.cells (LK .i64 ds) t (0, 0)) := by
  rw [MakeChecks.laidMetH_plain _ _ _ (by simp [DataW.handleName?])] at h
  obtain ⟨ps, ⟨g0, t0, cs, fuel, p, q, hg0, ht0, hv, hd, hq, hps⟩, -, hb⟩ := h
  obtain rfl := Option.some.inj (hg.symm.trans hg0)
  obtain rfl := Option.some.inj (ht.symm.trans ht0)
  obtain ⟨xs, m, -, hx, hlen, hxs, hel⟩ := DataW.trod_array hu hd
  simp only [Prod.mk.injEq, DataW.agg.injEq] at hx
  have hsz : cs.size = n := by rw [← hct, ← hlen]; simp
  have hmem : MemPlace.cell g 0 ∈ ps := by
    rw [hps]
    refine List.mem_append_left _ (List.mem_append_left _ (MemPlace.mem_row.2 ⟨0, by omega, by simp⟩))
  obtain ⟨⟨c, t', hc⟩, -⟩ := hb g 0 hmem
  have hcc : c = cs := by
    simp only [World.var?, hg, Option.bind_some, hc] at hv
    exact Option.some.inj hv
  subst hcc
  refine ⟨t', ?_⟩
  rw [hc]
  congr 2
  apply Array.ext (by rw [lk_size, hsz, hl])
  intro i h1 h2
  have h3 := hel i (by omega)
  rw [hce, Nat.mul_one, List.drop_eq_getElem_cons (by simpa using h1), List.take_succ_cons, List.take_zero, List.getElem?_eq_getElem (by omega)] at h3
  obtain ⟨a, e1, e2, -⟩ := DataW.trod_int he h3
  have e3 : (ds.map fun d : Nat => (DataW.lit (.int .i64 (d : Int)) : DataW Unit))[i]? = (xs.map (·.1))[i]? := by rw [hx.1]
  rw [List.getElem?_map, List.getElem?_map, List.getElem?_eq_getElem (by omega), List.getElem?_eq_getElem (by omega), e2] at e3
  simp only [Option.map_some, Option.some.injEq, DataW.lit.injEq, Lit.int.injEq, true_and] at e3
  simp only [List.cons.injEq, and_true] at e1
  have e4 : c[i] = .int .i64 a := by simpa using e1
  rw [e4, ← e3]
  simp [LK]
/-- the row's condition on 'places' -/
theorem gp_of {w : World} (h : laidMetH Tryd.prog [("sigil/keccak.places", Rows.laid_sigil_keccak_places)] w) : Gp w :=
  ints_of_laid (n := 25) (t := 33) (e := 3) PL h (by kernel_rfl) (by kernel_rfl) (by kernel_rfl) (by kernel_rfl) (by kernel_rfl) (by kernel_rfl) rfl (by decide)
theorem door_met (os : Os) (args : Array Value) : laidMetH Tryd.prog [("sigil/keccak.places", Rows.laid_sigil_keccak_places)] ((World.doorLaid Tryd.prog 400 os).forCall (fun _ _ => 0) ⟨#[], args, []⟩).memory :=
  laidMetH_of_parts3 (fuel := 8) (laidMet_of_run' 8 (by kernel_rfl) (by kernel_rfl)) (by kernel_rfl) (by kernel_rfl)
theorem eq25 (x y : List Nat) (hx : x.length = 25) (hy : y.length = 25) : ∀ w, (binOp .eql 23 (.agg (LK .u64 x)) (.agg (LK .u64 y))).run Tryd.prog w = .ok (.bool (decide (x = y))) w := fun w => by
  obtain ⟨i64, h64⟩ := eqs.info_of (P := Tryd.prog) (e := 22) (s := 1) (by kernel_rfl)
  have nx := words.nums_lk .u64 x
  have ny := words.nums_lk .u64 y
  rw [hx] at nx
  rw [hy] at ny
  rw [run_eql_struct, eqs.run_eq_array w 9998 (t := 23) (e := 22) (n := 25) (k := .u64) (by kernel_rfl) h64 (by kernel_rfl) (by kernel_rfl) _ _ nx ny]
  simp [Result.andThen, words.all_eq x y 25 hx hy]
theorem guard25 : Tryd.prog.eqGuardType Tryd.prog.depth 23 = false := by kernel_rfl
end Go.Proofs.YtpibnfpgokjnpaaDoor.laids
