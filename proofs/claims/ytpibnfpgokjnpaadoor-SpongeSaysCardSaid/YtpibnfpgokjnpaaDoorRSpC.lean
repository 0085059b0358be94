/-
  A sponge in memory: its lanes read and written as a whole, results of a cell and one or two temporaries, the byte of a string (no function of the program is named here). Conditions: as each theorem says.
-/
import Derived.Test.YtpibnfpgokjnpaaDoorRSpA
import Derived.Test.YtpibnfpgokjnpaaDoorKp
namespace Go.Proofs.YtpibnfpgokjnpaaDoor.rspc
open Go Go.RowKit
open Go.Proofs.YtpibnfpgokjnpaaDoor.arr Go.Proofs.YtpibnfpgokjnpaaDoor.mem Go.Proofs.YtpibnfpgokjnpaaDoor.kecm Go.Proofs.YtpibnfpgokjnpaaDoor.kecb Go.Proofs.YtpibnfpgokjnpaaDoor.spgm Go.Proofs.YtpibnfpgokjnpaaDoor.rspa Go.Proofs.YtpibnfpgokjnpaaDoor.kfun

theorem sp_list (X : List Value) : ∀ (vs : List Value) (a z : List Value), a.length = vs.length → sp (X ++ (a ++ z)).toArray X.length vs = (X ++ (vs ++ z)).toArray := by
  intro vs
  induction vs generalizing X with
  | nil => intro a z h; obtain rfl := List.eq_nil_of_length_eq_zero h; rfl
  | cons v vs ih =>
    intro a z h
    cases a with
    | nil => cases h
    | cons y a =>
      have e1 : ((X ++ (y :: a ++ z)).toArray).setIfInBounds X.length v = ((X ++ [v]) ++ (a ++ z)).toArray := by
        rw [List.setIfInBounds_toArray, List.set_append_right _ _ (Nat.le_refl _), Nat.sub_self]
        simp
      rw [sp, e1, show X.length + 1 = (X ++ [v]).length by simp, ih (X ++ [v]) a z (by simpa using h)]
      simp
theorem sp_sc (k : Int) {l l' : List Nat} (a : Int) (o : Bool) (h : l.length = 25) (h' : l'.length = 25) : sp (SC k l a o) 1 (LK .u64 l').toList = SC k l' a o :=
  sp_list [Value.int .i64 k] (LK .u64 l').toList (LK .u64 l).toList [Value.int .i64 a, Value.bool o] (by simp [LK, h, h'])
/-- the lanes are written as a whole -/
theorem wpList_putl {ops : Array Oper} {Q : Exit → Act → World → Prop} {rest : List Oper} {op : Oper} {ac : Act} {w0 w : World} {g : Nat} {t : TypeId} {k : Int} {l l' : List Nat} {a : Int} {o : Bool} (H : Away (At g (SC k l a o) t w0 w)) (hl : l.length = 25) (hl' : l'.length = 25)
    (hgd : op.guard = none) (x y : Operand) (ho : op.op = .store 23 x y) (hd : op.dst = none) (hx : ac.eval x = .pointer (some ⟨g, 1, none⟩)) (hy : ac.eval y = .agg (LK .u64 l'))
    (h : ∀ w', Away (At g (SC k l' a o) t w0 w') → wpList Tryd.prog ops Q rest ac w') : wpList Tryd.prog ops Q (op :: rest) ac w := by
  refine wpList_store_mid hgd _ x y ho g 1 (LK .u64 l') hx hy (fun j hj => ?_) (size25 hl') (lk_one _ _) ?_
  · rw [lk_size, hl'] at hj
    rw [H.out.cell, H.out.frozen, sc_lane k a o hl j hj]
    exact ⟨rfl, rfl⟩
  · rw [hd]
    refine h _ ⟨?_⟩
    have h1 : At g (sp (SC k l a o) 1 (LK .u64 l').toList) t w (w.setCells g 1 (LK .u64 l').toList) := At.set H.out.row H.out.lt (Below.refl _ _)
    rw [sp_sc k a o hl hl'] at h1
    exact H.out.trans h1
/-- .. and read -/
theorem lanes_at {w : World} {g : Nat} {t : TypeId} {k : Int} {l : List Nat} {a : Int} {o : Bool} (h : w.heap[g]? = some (.cells (SC k l a o) t (0, 0))) (hl : l.length = 25) : w.rangeAt g 1 (LK .u64 l).toList := fun j v hv => by
  rw [Array.getElem?_toList] at hv
  have hj : j < 25 := by
    by_cases hj : j < 25
    · exact hj
    · rw [Array.getElem?_eq_none (by rw [lk_size, hl]; omega)] at hv; cases hv
  rw [lane_get hl j hj] at hv
  rw [cell_of_row w g (1 + j) _ t (0, 0) h, sc_lane k a o hl j hj, hv]
theorem results_cell_tmp {P : Program} {fn : Func} {p u : Tmp} {ty : TypeId} (h : fn.results = #[.cell p ty, .tmp u]) (tmps : Array Value) (w : World) (g : Nat) (t : TypeId) (cs : Array Value) (fr : Nat × Nat) (d : TypeDesc)
    (hp : tmps.getD p undef = .pointer (some ⟨g, 0, none⟩)) (hg : w.heap[g]? = some (.cells cs t fr))
    (hu : P.underlying ty = some d) (hd : (match d with | .struct _ | .array _ _ => true | _ => false) = true) (hi : (P.info? ty).map (·.size) = some cs.size) (v : Value) (hv : tmps.getD u undef = v) :
    (results fn tmps).run P w = .ok (.tuple #[.agg cs, v]) w := by
  have hp' : tmps[p]?.getD undef = .pointer (some ⟨g, 0, none⟩) := by simpa using hp
  have hv' : tmps[u]?.getD undef = v := by simpa using hv
  simp [results, h, hp', hv', asAddr, run_loadVar_row w g t ty cs fr d hg hu hd hi]
theorem results_cell_tmp2 {P : Program} {fn : Func} {p u u2 : Tmp} {ty : TypeId} (h : fn.results = #[.cell p ty, .tmp u, .tmp u2]) (tmps : Array Value) (w : World) (g : Nat) (t : TypeId) (cs : Array Value) (fr : Nat × Nat) (d : TypeDesc)
    (hp : tmps.getD p undef = .pointer (some ⟨g, 0, none⟩)) (hg : w.heap[g]? = some (.cells cs t fr))
    (hu : P.underlying ty = some d) (hd : (match d with | .struct _ | .array _ _ => true | _ => false) = true) (hi : (P.info? ty).map (·.size) = some cs.size) (v v2 : Value) (hv : tmps.getD u undef = v) (hv2 : tmps.getD u2 undef = v2) :
    (results fn tmps).run P w = .ok (.tuple #[.agg cs, v, v2]) w := by
  have hp' : tmps[p]?.getD undef = .pointer (some ⟨g, 0, none⟩) := by simpa using hp
  have hv' : tmps[u]?.getD undef = v := by simpa using hv
  have hv2' : tmps[u2]?.getD undef = v2 := by simpa using hv2
  simp [results, h, hp', hv', hv2', asAddr, run_loadVar_row w g t ty cs fr d hg hu hd hi]
/-- a string's bytes as numbers -/
def bys (b : ByteArray) : List Nat := b.data.toList.map (·.toNat)
theorem bys_length (b : ByteArray) : (bys b).length = b.size := by unfold bys; rw [List.length_map]; rfl
theorem bys_lt (b : ByteArray) (i : Nat) : (bys b).getD i 0 < 256 := by
  by_cases h : i < b.size
  · have : ∀ x ∈ bys b, x < 256 := by
      intro x hx
      obtain ⟨u, -, rfl⟩ := List.mem_map.1 hx
      exact u.toNat_lt
    rw [List.getD_eq_getElem?_getD, List.getElem?_eq_getElem (by rw [bys_length]; exact h)]
    exact this _ (List.getElem_mem _)
  · rw [List.getD_eq_getElem?_getD, List.getElem?_eq_none (by rw [bys_length]; omega)]; decide
theorem byte_of (b : ByteArray) (i β : Nat) (hi : i < b.size) (hb : (bys b).getD i 0 = β) (w : World) : (Instr.index 9 (.string b) (.int .i64 (i : Int))).run Tryd.prog w = .ok (.int .u8 (β : Int)) w := by
  subst hb
  rw [run_index_string w 9 b .i64 (i : Int) Tryd.underlying9, dif_pos ⟨by omega, by omega⟩]
  have e : (bys b).getD i 0 = (b[i]'hi).toNat := by
    rw [List.getD_eq_getElem?_getD, List.getElem?_eq_getElem (by rw [bys_length]; exact hi)]
    simp only [bys, List.getElem_map, Option.getD_some]
    rfl
  rw [e]
  rfl
end Go.Proofs.YtpibnfpgokjnpaaDoor.rspc
