/-
  '==' and '!=' of a sponge with itself; absorbed and squeezed in pieces; loads that a guard lets by (no function of the program is named here). Conditions: as each theorem says.
-/
import Derived.Test.YtpibnfpgokjnpaaDoorSp3
import Derived.Test.YtpibnfpgokjnpaaDoorWds
import Derived.Test.YtpibnfpgokjnpaaDoorBase
namespace Go.Proofs.YtpibnfpgokjnpaaDoor.spol
open Go Go.RowKit
open Go.Proofs.YtpibnfpgokjnpaaDoor.mem Go.Proofs.YtpibnfpgokjnpaaDoor.arr Go.Proofs.YtpibnfpgokjnpaaDoor.kecm Go.Proofs.YtpibnfpgokjnpaaDoor.kecb Go.Proofs.YtpibnfpgokjnpaaDoor.spgm Go.Proofs.YtpibnfpgokjnpaaDoor.spmx Go.Proofs.YtpibnfpgokjnpaaDoor.rspa Go.Proofs.YtpibnfpgokjnpaaDoor.rspb Go.Proofs.YtpibnfpgokjnpaaDoor.rspc Go.Proofs.YtpibnfpgokjnpaaDoor.rspd Go.Proofs.YtpibnfpgokjnpaaDoor.spof Go.Proofs.YtpibnfpgokjnpaaDoor.eqs

theorem eqf_step {P : Program} {w : World} {d : Nat} {xs ys : Array Value} {f : Field} {fs : List Field} (hn : f.name ≠ "_") (x y : Value) (hx : (part f.type xs f.offset).run P w = .ok x w) (hy : (part f.type ys f.offset).run P w = .ok y w)
    (he : (Op.equalIn d f.type x y).run P w = .ok true w) (hr : (Op.eqFields d xs ys fs).run P w = .ok true w) : (Op.eqFields d xs ys (f :: fs)).run P w = .ok true w := by
  rw [Op.eqFields, if_pos hn]
  simp only [Sem.run_bind, hx, hy, Result.andThen_ok, he]
  simpa using hr
theorem sc_nums (k : Int) {l : List Nat} (a : Int) (o : Bool) (h : l.length = 25) : Nums .u64 (SC k l a o) 1 25 := fun i hi => ⟨_, sc_lane k a o h i hi⟩
theorem same_sp (k a : Int) (o : Bool) {l : List Nat} (h : l.length = 25) (w : World) : (Op.equalIn 10000 25 (.agg (SC k l a o)) (.agg (SC k l a o))).run Tryd.prog w = .ok true w := by
  obtain ⟨i64, h64⟩ := info_of (P := Tryd.prog) (e := 22) (s := 1) (by kernel_rfl)
  rw [run_equalIn_agg w 9999 25 _ _ (by kernel_rfl) (by kernel_rfl)]
  unfold Program.fieldsOf
  rw [Tryd.underlying25]
  have hx := run_part_agg w (P := Tryd.prog) (t := 23) (e := 22) (n := 25) (s := 25) (by kernel_rfl) (by kernel_rfl) (SC k l a o) 1
  have hnn := nums_extract (sc_nums k a o h) (by rw [sc_size k a o h]; decide)
  have he := run_eq_array w 9997 (P := Tryd.prog) (t := 23) (e := 22) (n := 25) (k := .u64) (by kernel_rfl) h64 (by kernel_rfl) (by kernel_rfl) _ _ hnn hnn
  have ei := run_equalIn_int w (P := Tryd.prog) 9998 3 .i64 .i64 k k (by kernel_rfl)
  have ea := run_equalIn_int w (P := Tryd.prog) 9998 3 .i64 .i64 a a (by kernel_rfl)
  have eb := run_equalIn_bool' w (P := Tryd.prog) 9998 4 o o (by kernel_rfl)
  refine eqf_step (by simp) _ _ (run_part_plain w (by kernel_rfl) (sc_kind k l a o)) (run_part_plain w (by kernel_rfl) (sc_kind k l a o)) (by simpa using ei) ?_
  refine eqf_step (by simp) _ _ hx hx (he.trans (by simp only [beq_self_eq_true]; rfl)) ?_
  refine eqf_step (by simp) _ _ (run_part_plain w (by kernel_rfl) (sc_at k a o h)) (run_part_plain w (by kernel_rfl) (sc_at k a o h)) (by simpa using ea) ?_
  refine eqf_step (by simp) _ _ (run_part_plain w (by kernel_rfl) (sc_out k a o h)) (run_part_plain w (by kernel_rfl) (sc_out k a o h)) (by simpa using eb) ?_
  simp [Op.eqFields]
theorem eql_sp (k a : Int) (o : Bool) {l : List Nat} (h : l.length = 25) (w : World) : (binOp .eql 25 (.agg (SC k l a o)) (.agg (SC k l a o))).run Tryd.prog w = .ok (.bool true) w := by
  rw [run_eql_struct, same_sp k a o h w]; rfl
theorem neq_sp (k a : Int) (o : Bool) {l : List Nat} (h : l.length = 25) (w : World) : (binOp .neq 25 (.agg (SC k l a o)) (.agg (SC k l a o))).run Tryd.prog w = .ok (.bool false) w := by
  rw [run_neq_struct, same_sp k a o h w]; rfl
theorem guardS : Tryd.prog.eqGuardType Tryd.prog.depth 25 = false := by kernel_rfl
theorem wpList_load_want {P : Program} {ops : Array Oper} {w : World} {Q : Exit → Act → World → Prop} {rest : List Oper} {o : Oper} {a : Act} (hw : Region.wanted o (yielded ops a.tmps) = true) (ty : TypeId) (x : Operand) (ho : o.op = .load ty x)
    (g : Nat) (hx : a.eval x = .pointer (some ⟨g, 0, none⟩)) (t : TypeId) (cs : Array Value) (d : TypeDesc) (hg : w.heap[g]? = some (.cells cs t (0, 0)))
    (hu : P.underlying ty = some d) (hd : (match d with | .struct _ | .array _ _ => true | _ => false) = true) (hi : (P.info? ty).map (·.size) = some cs.size)
    (h : wpList P ops Q rest (a.put o.dst (.agg cs)) w) : wpList P ops Q (o :: rest) a w :=
  wpList_step fun K hK => by rw [if_pos hw]; exact wp_load_row ty x ho g hx t cs (0, 0) d hg hu hd hi (hK _ _ h)
theorem at_row6 {g : Nat} {C C' : Array Value} {t : TypeId} {w w' : World} (h : At g C t w w') : At g C' t w (w'.setRow g C') :=
  ⟨h.os, h.tape, h.output, by simpa [World.setRow] using h.size, setRow_heap _ _ _ _ _ _ h.row, fun k hk hg => (setRow_other w' g k C' hg).trans (h.block k hk hg)⟩
theorem bys_app (x y : ByteArray) : bys (x ++ y) = bys x ++ bys y := by
  unfold bys
  rw [ByteArray.data_append, Array.toList_append, List.map_append]
theorem str_u8s (x y : List Nat) : (⟨(u8s x).toArray⟩ : ByteArray) ++ ⟨(u8s y).toArray⟩ = ⟨(u8s (x ++ y)).toArray⟩ := by
  rw [bits8.str_app, u8s, u8s, u8s, List.map_append]
theorem size_u8s (x : List Nat) : (⟨(u8s x).toArray⟩ : ByteArray).size = x.length := by
  show (u8s x).toArray.size = x.length
  rw [List.size_toArray, u8s_length]
theorem ok_in (k : Int) (a : Nat) (h : a < rate k) : ok k (a : Int) false = true := by
  unfold ok
  rw [decide_eq_true (show 0 < rate k by omega), decide_eq_true (show (0 : Int) ≤ (a : Int) by omega), decide_eq_true (show (a : Int) < (rate k : Int) by omega)]
  rfl
theorem ok_to (k : Int) (a : Nat) (h0 : 0 < rate k) (h : a ≤ rate k) : ok k (a : Int) true = true := by
  unfold ok
  rw [decide_eq_true h0, decide_eq_true (show (0 : Int) ≤ (a : Int) by omega)]
  simp
  omega
end Go.Proofs.YtpibnfpgokjnpaaDoor.spol
