/-
  What mixByte, worth and next of the sponge do: one byte mixed into a state in memory, the lane of a string's first eight bytes, the permutation in place. Conditions: as each theorem says.
-/
import Derived.Test.YtpibnfpgokjnpaaDoorSpoA
import Derived.Test.YtpibnfpgokjnpaaDoorRSpD
import Derived.Test.YtpibnfpgokjnpaaDoorBase
import Derived.Deep.MidRow
import Derived.Lib.QuietBelow
namespace Go.Proofs.YtpibnfpgokjnpaaDoor.spob
open Go Go.RowKit
open Go.Proofs.YtpibnfpgokjnpaaDoor.arr Go.Proofs.YtpibnfpgokjnpaaDoor.mem Go.Proofs.YtpibnfpgokjnpaaDoor.kecm Go.Proofs.YtpibnfpgokjnpaaDoor.kecb Go.Proofs.YtpibnfpgokjnpaaDoor.kstep Go.Proofs.YtpibnfpgokjnpaaDoor.kturn Go.Proofs.YtpibnfpgokjnpaaDoor.kfun Go.Proofs.YtpibnfpgokjnpaaDoor.spgm Go.Proofs.YtpibnfpgokjnpaaDoor.spmx Go.Proofs.YtpibnfpgokjnpaaDoor.rspa Go.Proofs.YtpibnfpgokjnpaaDoor.rspc Go.Proofs.YtpibnfpgokjnpaaDoor.rspd Go.Proofs.YtpibnfpgokjnpaaDoor.spoa

set_option maxRecDepth 100000 in
set_option maxHeartbeats 1000000 in
theorem mixByte_any (gs : Nat) (k a : Int) (o : Bool) (l : List Nat) (t : TypeId) (p β : Nat) (w : World) (h : St l) (hp : p < 200) (hβ : β < 256) (hrow : w.heap[gs]? = some (.cells (SC k l a o) t (0, 0))) :
    Calls Tryd.prog 46 #[.pointer (some ⟨gs, 1, none⟩), .int .i64 (p : Int), .int .u8 (β : Int)] w fun e w' => e = .returned (.tuple #[]) ∧ At gs (SC k (xb l p β) a o) t w w' := by
  obtain ⟨q, hq⟩ : ∃ q, p / 8 = q := ⟨_, rfl⟩
  obtain ⟨m, hm⟩ : ∃ m, p % 8 = m := ⟨_, rfl⟩
  obtain ⟨c, hc⟩ : ∃ c, c = 8 * m := ⟨_, rfl⟩
  have fq : (p : Int).tdiv 8 = (q : Int) := by rw [Int.tdiv_eq_ediv_of_nonneg (by omega)]; omega
  have fqw : IntKind.i64.wrap ((p : Int).tdiv 8) = (q : Int) := by rw [fq, IntKind.wrap_i64]; omega
  have fm : (p : Int).tmod 8 = (m : Int) := by rw [Int.tmod_eq_emod_of_nonneg (by omega)]; omega
  have fq2 : (p : Int) / 8 = (q : Int) := by omega
  have fq3 : IntKind.i64.wrap (q : Int) = (q : Int) := by rw [IntKind.wrap_i64]; omega
  have fm2 : (p : Int) % 8 = (m : Int) := by omega
  have fc : IntKind.i64.wrap ((m : Int) * 8) = (c : Int) := by rw [IntKind.wrap_i64]; omega
  have fc2 : IntKind.i64.wrap (8 * (m : Int)) = (c : Int) := by rw [IntKind.wrap_i64]; omega
  have hc63 : c ≤ 63 := by omega
  have hq25 : q < 25 := by omega
  have hqz : (q : Int) < 25 := by omega
  obtain ⟨x, hx⟩ : ∃ x, g l q = x := ⟨_, rfl⟩
  have bx : x < 18446744073709551616 := hx ▸ h.lt q
  obtain ⟨y, hy⟩ : ∃ y, β * 2 ^ c % 18446744073709551616 = y := ⟨_, rfl⟩
  have by' : y < 18446744073709551616 := hy ▸ Nat.mod_lt _ (by decide)
  have fs := shl_is β c
  rw [hy] at fs
  have fb : IntKind.u64.wrap (β : Int) = (β : Int) := by rw [IntKind.wrap_u64]; omega
  have fy : IntKind.u64.wrap ((β : Int) * 2 ^ c) = (y : Int) := by rw [IntKind.wrap_u64]; exact fs
  obtain ⟨v, hv⟩ : ∃ v, x ^^^ y = v := ⟨_, rfl⟩
  have V := xor2 x y v bx by' hv
  have Hxb : Away (l.set q v = xb l p β) := ⟨by unfold xb; rw [hq, hm, ← hc, hx, hy, hv]⟩
  have H := Away.mk h
  have A0 := Away.mk (At.refl hrow)
  have cx : w.cell? ⟨gs, 1 + q, none⟩ = some (.int .u64 (x : Int)) := by rw [← hx]; exact cell_at hrow (sc_lane k a o h.len q hq25)
  clear hq hm hc hx hy hv h hrow hp
  go_enter Tryd.func46, Tryd.ntmps46
  refine still_tail 15 (by kernel_rfl) (by kernel_rfl) ?_
  simp only [List.take_succ_cons, List.take_zero, List.drop_succ_cons, List.drop_zero]
  repeat still_step
  refine wpStill_nil ?_
  have A1 : Away (At gs (SC k l a o) t w w.drew) := ⟨at_drew A0.out⟩
  clear cx fq fqw fm fq2 fq3 fm2 fc fc2 fs V A0 fb fy
  with_reducible refine wpList_put2 A1 rfl _ _ _ rfl rfl ?_
  refine ⟨_, _, _, rfl, rfl, rfl, by rw [sc_size k a o H.out.len]; omega, ?_⟩
  intro wn HR1
  rw [sc_setl k a o H.out.len q v hq25, Hxb.out] at HR1
  go_wp2_with fail
  go_end0
  exact ⟨rfl, HR1.out⟩

theorem wpQuiet_load_mid {P : Program} {ops : Array Oper} {C : World → Prop} {Q : Act → Prop} {rest : List Oper} {o : Oper} {a : Act} (hw : Region.wanted o (yielded ops a.tmps) = true) (ty : TypeId) (x : Operand) (ho : o.op = .load ty x)
    (b n : Nat) (hx : a.eval x = .pointer (some ⟨b, n, none⟩)) (cs : List Value) (d : TypeDesc) (hS : ∀ w, C w → w.rangeAt b n cs)
    (hu : P.underlying ty = some d) (hd : d.isRow = true) (hi : (P.info? ty).map (·.size) = some cs.length)
    (h : wpQuiet P ops C Q rest (a.put o.dst (.agg cs.toArray))) : wpQuiet P ops C Q (o :: rest) a := by
  refine wpQuiet_step fun K hK => ?_
  rw [if_pos hw]
  refine ⟨.agg cs.toArray, fun w hC => ?_, hK _ h⟩
  unfold Oper.quietAt execOp
  simp only [ho, hx, Instr.loadAt, Instr.sureAddr, Sem.run_bind, Sem.run_pure, Result.andThen_ok, run_loadVar_mid w b n ty cs d (hS w hC) hu hd hi]
  exact ⟨rfl, rfl⟩
set_option maxRecDepth 100000 in
set_option maxHeartbeats 1000000 in
theorem next_any {T : Array Value} {ts rs : List Nat} (gt gs : Nat) (k a : Int) (o : Bool) (l : List Nat) (w : World) (h : St l) (hK : KT T ts rs) (hP : Gp w) (hT : w.heap[gt]? = some (.cells T 36 (0, 0))) (hrow : w.heap[gs]? = some (.cells (SC k l a o) 25 (0, 0))) :
    Calls Tryd.prog 44 #[.pointer (some ⟨gt, 0, none⟩), .pointer (some ⟨gs, 0, none⟩)] w fun e w' => e = .returned (.tuple #[]) ∧ At gs (SC k (PP ts rs l) 0 o) 25 w w' := by
  have HTz : Away ((Tryd.prog.info? 36).map (·.size) = some T.size) := ⟨by rw [hK.size]; exact rkeb.sizeT⟩
  have Xz := Away.mk (show (Tryd.prog.info? 23).map (·.size) = some (LK .u64 l).toList.length by rw [Array.length_toList]; exact size25 h.len)
  have HQ : Away (St (PP ts rs l)) := ⟨pp_st hK.br h⟩
  obtain ⟨xl, Hxl⟩ := ex_eq (PP ts rs l)
  rw [Hxl.out] at HQ ⊢
  have C2 : Away (∀ w1 : World, Below w.heap.size w w1 → Calls Tryd.prog 54 #[.agg T, .agg (LK .u64 l)] w1 fun e w' => e = .returned (.agg (LK .u64 xl)) ∧ Below w1.heap.size w1 w') := ⟨fun w1 hb => by rw [← Hxl.out]; exact kfun.perm_any l w1 h hK (hP.later hb)⟩
  have H := Away.mk h
  have B0 := Away.mk hT
  have B1 := Away.mk hrow
  have L1 := Away.mk (lanes_at hrow h.len)
  clear h hK hP hT hrow Hxl
  go_enter Tryd.func44, Tryd.ntmps44
  go_wp2_with fail
  refine qtail.region_below_tail 9 (by kernel_rfl) (by kernel_rfl) ?_
  simp only [List.take_succ_cons, List.take_zero, List.drop_succ_cons, List.drop_zero]
  quiet_step (skip)
  quiet_step (skip)
  quiet_step (skip)
  refine wpQuiet_load rfl 36 _ rfl _ rfl 36 T _ (fun w' hC => heap_regrown B0.out hC) Tryd.underlying36 rfl HTz.out ?_
  quiet_step (skip)
  quiet_step (skip)
  quiet_step (skip)
  refine wpQuiet_load_mid rfl 23 _ rfl gs 1 rfl (LK .u64 l).toList _ (fun w' hC => lanes_at (heap_regrown B1.out hC) H.out.len) Tryd.underlying23 rfl Xz.out ?_
  quiet_step (exact Calls.regrown_of (C2.out _ (below_regrown _ _ _)))
  refine wpQuiet_nil ?_
  rintro w1 ⟨pp, rfl⟩
  have A1 : Away (At gs (SC k l a o) 25 w _) := ⟨(At.refl B1.out).later (below_regrown w pp.d pp.os)⟩
  obtain ⟨w1, hw1⟩ : ∃ x, Sort.grow (redrawn w pp.d) pp.os = x := ⟨_, rfl⟩
  rw [hw1] at A1 ⊢
  clear hw1 C2 L1 B0 B1
  go_wp2_with (first
    | ((with_reducible refine wpList_putl A1 H.out.len HQ.out.len rfl _ _ rfl rfl ?hx ?hy ?_); (case hx => exact rfl); (case hy => exact rfl); intro w7 HR4; clear A1)
    | ((with_reducible refine wpList_put2 (by assumption) rfl _ _ _ rfl rfl ?_); refine ⟨_, _, _, rfl, rfl, rfl, (by rw [sc_size k a o HQ.out.len]; decide), ?_⟩; intro w8 HR5; rw [sc_seta k _ _ o HQ.out.len] at HR5))
  go_end0
  exact ⟨rfl, HR5.out⟩
end Go.Proofs.YtpibnfpgokjnpaaDoor.spob
