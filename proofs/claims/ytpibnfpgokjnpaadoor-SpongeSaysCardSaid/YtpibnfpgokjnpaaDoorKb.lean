/-
  What the turning functions of layer 5 return: a word turned to the left. Conditions: the word has its 64 bits, and the amount is not negative.
  Plain facts for the walks of layer 5: regions that draw their order, cells of a state, words (no function of the program is named here). Conditions: as each theorem says.
-/
import Derived.Test.YtpibnfpgokjnpaaDoorProg
import Derived.Test.YtpibnfpgokjnpaaDoorKc
import Derived.Test.YtpibnfpgokjnpaaDoorBase
import Derived.StillTailTactics
import Derived.BigQuiet
import Derived.ChangeKeysEq
namespace Go.Proofs.YtpibnfpgokjnpaaDoor.rols
open Go.RowKit
open Go.Proofs.YtpibnfpgokjnpaaDoor.arr Go.Proofs.YtpibnfpgokjnpaaDoor.kecm

theorem castm (x m M : Nat) : (x : Int) * 2 ^ m % (M : Int) = ((x * 2 ^ m % M : Nat) : Int) := by push_cast; rfl
theorem castd (x n : Nat) : (x : Int) / 2 ^ n = ((x / 2 ^ n : Nat) : Int) := by push_cast; rfl
theorem orl (x n m : Nat) (hm : m = 64 - n) (hx : x < 18446744073709551616) : bits .or .u64 ((x : Int) * 2 ^ n % 18446744073709551616) ((x : Int) / 2 ^ m) = ((rol x n : Nat) : Int) := by
  subst hm
  have e := castm x n 18446744073709551616
  have e2 := castd x (64 - n)
  rw [e2, show (x : Int) * 2 ^ n % 18446744073709551616 = ((x * 2 ^ n % 18446744073709551616 : Nat) : Int) from e]
  rw [u64_or_nat _ _ (Nat.mod_lt _ (by decide)) (Nat.lt_of_le_of_lt (Nat.div_le_self _ _) hx)]
  rfl
theorem mask (k : Nat) (hk : k < 9223372036854775808) : bits .and .u64 (k : Int) 63 = ((k % 64 : Nat) : Int) := by
  have := u64_and_nat k 63 (by omega) (by decide)
  rw [show ((63 : Nat) : Int) = 63 from rfl] at this
  rw [this, nat_mask6]

set_option maxRecDepth 100000 in
set_option maxHeartbeats 1000000 in
theorem rotl_any (x k : Nat) (w : World) (hx : x < 18446744073709551616) (hk : k < 9223372036854775808) :
    Calls Tryd.prog 60 #[.int .u64 (x : Int), .int .i64 (k : Int)] w fun e w' => e = .returned (.int .u64 ((rol x (k % 64) : Nat) : Int)) ∧ w' = w := by
  have hq := mask k hk
  have hw : IntKind.u64.wrap (k : Int) = (k : Int) := by rw [IntKind.wrap_u64]; omega
  obtain ⟨n, hn⟩ : ∃ n, k % 64 = n := ⟨_, rfl⟩
  rw [hn] at hq ⊢
  have hn63 : n ≤ 63 := by omega
  clear hn
  go_enter Tryd.func60, Tryd.ntmps60
  go_wp2_with fail
  go_ret
  exact ⟨ret_int (orl x n (64 - n) rfl hx), rfl⟩
set_option maxRecDepth 100000 in
set_option maxHeartbeats 1000000 in
theorem left_any (x k : Nat) (w : World) (hx : x < 18446744073709551616) (hk : k < 9223372036854775808) :
    Calls Tryd.prog 45 #[.int .u64 (x : Int), .int .i64 (k : Int)] w fun e w' => e = .returned (.int .u64 ((rol x (k % 64) : Nat) : Int)) ∧ w' = w := by
  have hq := mask k hk
  have hw : IntKind.u64.wrap (k : Int) = (k : Int) := by rw [IntKind.wrap_u64]; omega
  obtain ⟨n, hn⟩ : ∃ n, k % 64 = n := ⟨_, rfl⟩
  rw [hn] at hq ⊢
  have hn63 : n ≤ 63 := by omega
  clear hn
  by_cases h0 : n = 0
  · subst h0
    have h1 : bits .and .u64 (k : Int) 63 = 0 := hq
    have h2 : bits .and .u64 64 63 = 0 := by decide +kernel
    clear hq hn63
    have h3 : bits .or .u64 (x : Int) (x : Int) = (x : Int) := by rw [u64_or_nat x x hx hx, Nat.or_self]
    have h4 : (x : Int) < 18446744073709551616 := by omega
    rw [rol_zero x hx]
    go_enter Tryd.func45, Tryd.ntmps45
    go_wp2_with fail
    go_ret
    exact ⟨rfl, rfl⟩
  · obtain ⟨m, hm⟩ : ∃ m, m = 64 - n := ⟨_, rfl⟩
    have Hm := Away.mk hm
    have h2 : bits .and .u64 (64 - (n : Int)) 63 = (m : Int) := by
      have h := mask (64 - n) (by omega)
      rw [show ((64 - n : Nat) : Int) = 64 - (n : Int) by omega] at h
      rw [h]
      omega
    have hm63 : m ≤ 63 := by omega
    have hn1 : 1 ≤ n := by omega
    clear hm h0
    go_enter Tryd.func45, Tryd.ntmps45
    go_wp2_with fail
    go_ret
    exact ⟨ret_int (orl x n m Hm.out hx), rfl⟩
end Go.Proofs.YtpibnfpgokjnpaaDoor.rols

namespace Go.Proofs.YtpibnfpgokjnpaaDoor.kecb
open Go Go.RowKit
open Go.Proofs.YtpibnfpgokjnpaaDoor.arr Go.Proofs.YtpibnfpgokjnpaaDoor.mem Go.Proofs.YtpibnfpgokjnpaaDoor.kecm

theorem still_tail {P : Program} {id : Nat} {Q : Exit → Act → World → Prop} {a : Act} {w : World} {l : List Oper} (n : Nat) (hm : P.follows .mixedOrders = true) (hB : Region.lexTailB .any l.toArray n = true)
    (h : wpStill P l.toArray w.drew (fun a' => wpList P l.toArray Q (l.drop n) a' w.drew) (l.take n) a) : (Code.region id l.toArray true).wp P Q a w := wp_region_still_tail n hm hB h
theorem still_all {P : Program} {id : Nat} {Q : Exit → Act → World → Prop} {a : Act} {w : World} {l : List Oper} (hm : P.follows .mixedOrders = true) (hB : Region.lexB .any l.toArray = true)
    (h : wpStill P l.toArray w.drew (fun a' => Q .normal a' w.drew) l a) : (Code.region id l.toArray true).wp P Q a w := wp_region_still_lit hm hB h
theorem at_put {g : Nat} {C : Array Value} {t : TypeId} {w w' : World} (h : At g C t w w') (o : Nat) (v : Value) : At g (C.setIfInBounds o v) t w (w'.setCell ⟨g, o, none⟩ v) :=
  ⟨h.os, h.tape, h.output, by rw [size_setCell]; exact h.size, heap_setCell h.row o v, fun k hk hg => (Below.heap_setCell w' ⟨g, o, none⟩ v k hg).trans (h.block k hk hg)⟩
theorem at_drew {g : Nat} {C : Array Value} {t : TypeId} {w w' : World} (h : At g C t w w') : At g C t w w'.drew := ⟨h.os, h.tape, h.output, h.size, h.row, h.block⟩
theorem store_newg {P : Program} {ops : Array Oper} {Q : Exit → Act → World → Prop} {rest : List Oper} {o : Oper} {a : Act} {w0 : World} {old : Array Value} {t : TypeId} (hgd : o.guard = none) (ty : TypeId) (x y : Operand) (ho : o.op = .store ty x y)
    (cells : Array Value) (g : Nat) (hg : g = w0.heap.size) (hx : a.eval x = .pointer (some ⟨g, 0, none⟩)) (hy : a.eval y = .agg cells) (hi : (P.info? ty).map (·.size) = some cells.size) (hold : old.size = cells.size) (h1 : cells.all (·.oneCell') = true) (hn : o.dst = none)
    (h : wpList P ops Q rest a (w0.alloc (.cells cells t))) : wpList P ops Q (o :: rest) a (w0.alloc (.cells old t)) := by
  subst hg
  exact wpList_store_new hgd ty x y ho cells hx hy hi hold h1 hn h
theorem index_row {P : Program} {t e : TypeId} {n : Nat} (hu : P.underlying t = some (.array n e)) (he : P.plainKey e = true) (hi0 : (P.info? e).isSome = true) (hc : P.cellsOf e = 1) (C : Array Value) (v : Value) (k : Nat) (hk : k < n) (hx : C[k]? = some v) (w : World) :
    (Instr.index t (.agg C) (.int .i64 (k : Int))).run P w = .ok v w := by
  obtain ⟨i, hi⟩ := Option.isSome_iff_exists.1 hi0
  have h1 : (0 : Int) ≤ (k : Int) ∧ (k : Int) < (n : Int) := ⟨by omega, by omega⟩
  unfold Instr.index
  simp only [asIntOf, Sem.run_bind, Sem.run_pure, run_underlying hu, Result.andThen_ok, if_pos h1, run_sizeOf w hi, hc, Nat.mul_one, Int.toNat_natCast]
  exact run_part_plain w he hx
/-- a cell of a row is written: the row that follows, in whatever world -/
theorem run_storeVar_lane {P : Program} (w : World) (g n : Nat) (t ty : TypeId) (C : Array Value) (v : Value) (hg : w.heap[g]? = some (.cells C t (0, 0))) (hi : (P.info? ty).map (·.size) = some 1) (h1 : v.oneCell' = true) (hn : n < C.size) :
    (storeVar ty ⟨g, n, none⟩ v).run P w = .ok () (w.setCell ⟨g, n, none⟩ v) := by
  have hc : v.cells = #[v] := by cases v <;> first | rfl | cases h1
  cases hq : P.info? ty with
  | none => simp [hq] at hi
  | some i =>
    have hs : i.size = 1 := by simpa [hq] using hi
    have hadd : (⟨g, n, none⟩ : Addr).add 0 = ⟨g, n, none⟩ := by unfold Addr.add; split <;> simp_all
    have hst : (store (⟨g, n, none⟩ : Addr) v).run P w = .ok () (w.setCell ⟨g, n, none⟩ v) := by
      rw [run_store P w _ v _ h1, cell_of_row w g n C t (0, 0) hg, frozen_of_row w g n C t hg, Array.getElem?_eq_getElem hn]
      rfl
    simp [storeVar, sizeOf, typeInfo, hq, hc, hs, storeCells, hadd, hst]
theorem wpList_put {P : Program} {ops : Array Oper} {Q : Exit → Act → World → Prop} {rest : List Oper} {o : Oper} {a : Act} {w0 w : World} {g : Nat} {C : Array Value} {t : TypeId} (H : Away (At g C t w0 w)) (hgd : o.guard = none) (ty : TypeId) (x y : Operand) (ho : o.op = .store ty x y)
    (n : Nat) (v : Value) (hx : a.eval x = .pointer (some ⟨g, n, none⟩)) (hy : a.eval y = v) (hi : (P.info? ty).map (·.size) = some 1) (h1 : v.oneCell' = true) (hn : n < C.size) (hd : o.dst = none)
    (h : ∀ w', Away (At g (C.setIfInBounds n v) t w0 w') → wpList P ops Q rest a w') : wpList P ops Q (o :: rest) a w :=
  wpList_plain hgd fun K hK => by
    unfold Oper.wp execOp
    simp only [ho, hx, hy, Instr.storeAt, Instr.sureAddr, Sem.run_bind, Sem.run_pure, Result.andThen_ok, run_storeVar_lane w g n t ty C v H.out.row hi h1 hn]
    have h2 := hK _ _ (h _ ⟨at_put H.out n v⟩)
    show K (a.put o.dst undef) _
    rw [hd]
    exact h2
theorem run_not {P : Program} (n : Nat) (hn : n < 18446744073709551616) (w : World) : (Op.unary .xor (.int .u64 (n : Int))).run P w = .ok (.int .u64 ((not64 n : Nat) : Int)) w := by
  have h := not_bits n hn
  have e : (if IntKind.u64.signed then -1 else IntKind.u64.max : Int) = 18446744073709551615 := rfl
  rw [unary_xor, e, intBits_xor, h]
  rfl
theorem wpList_not {P : Program} {ops : Array Oper} {Q : Exit → Act → World → Prop} {rest : List Oper} {o : Oper} {a : Act} {w : World} (n : Nat) (hn : n < 18446744073709551616) (hgd : o.guard = none) (ty : TypeId) (x : Operand) (ho : o.op = .unOp .xor ty x)
    (hx : a.eval x = .int .u64 (n : Int)) (h : wpList P ops Q rest (a.put o.dst (.int .u64 ((not64 n : Nat) : Int))) w) : wpList P ops Q (o :: rest) a w :=
  wpList_plain hgd fun K hK => by
    have h2 := hK _ _ h
    unfold Oper.wp execOp
    simp only [ho, hx, Sem.run_bind, run_not n hn, Result.andThen_ok]
    exact h2
theorem bendz (x y z r : Nat) (hx : x < 18446744073709551616) (hz : z < 18446744073709551616) (h : x ^^^ (not64 y &&& z) = r) :
    bits .xor .u64 (x : Int) (bits .and .u64 ((not64 y : Nat) : Int) (z : Int)) = (r : Int) := by
  subst h
  have hn : not64 y < 18446744073709551616 := by unfold not64; omega
  rw [u64_and_nat _ z hn hz, u64_xor_nat x _ hx (and_lt _ _ hn)]
/-- .. the place and the value found by the walk -/
theorem wpList_put2 {P : Program} {ops : Array Oper} {Q : Exit → Act → World → Prop} {rest : List Oper} {o : Oper} {a : Act} {w0 w : World} {g : Nat} {C : Array Value} {t : TypeId} (H : Away (At g C t w0 w)) (hgd : o.guard = none) (ty : TypeId) (x y : Operand) (ho : o.op = .store ty x y) (hd : o.dst = none)
    (h : ∃ n k z, a.eval x = .pointer (some ⟨g, n, none⟩) ∧ a.eval y = .int k z ∧ (P.info? ty).map (·.size) = some 1 ∧ n < C.size ∧ ∀ w', Away (At g (C.setIfInBounds n (.int k z)) t w0 w') → wpList P ops Q rest a w') : wpList P ops Q (o :: rest) a w := by
  obtain ⟨n, k, z, h1, h2, h3, h5, h6⟩ := h
  exact wpList_put H hgd ty x y ho n _ h1 h2 h3 rfl h5 hd h6
theorem lk25 (l : List Nat) (h : l.length = 25) : (LK .u64 l).size = 25 := by rw [lk_size, h]
/-- lane i as a cell -/
theorem lane_get {a : List Nat} (h : a.length = 25) (i : Nat) (hi : i < 25) : (LK .u64 a)[i]? = some (.int .u64 ((g a i : Nat) : Int)) := lk_get _ _ _ (by omega)
theorem lane_at {a : List Nat} {ga : Nat} {t : TypeId} {w : World} (h : a.length = 25) (hw : w.heap[ga]? = some (.cells (LK .u64 a) t (0, 0))) (i x : Nat) (hi : i < 25) (hx : g a i = x) : w.cell? ⟨ga, i, none⟩ = some (.int .u64 (x : Int)) := by
  subst hx; exact cell_at hw (lane_get h i hi)
theorem part_lane {ord f d : Nat → Nat} {m : Nat} (i0 v : Nat) (h0 : i0 < 25) (hm : ord i0 = m) (hi : ∀ i, i < 25 → ord i = m → i = i0) (hv : f i0 = v) :
    (LK .u64 (kecm.part ord f d m)).setIfInBounds i0 (.int .u64 (v : Int)) = LK .u64 (kecm.part ord f d (m + 1)) := by
  subst hv; rw [lk_set, part_set ord f d m i0 h0 hm hi]
theorem xor2 (a b c : Nat) (ha : a < 18446744073709551616) (hb : b < 18446744073709551616) (h : a ^^^ b = c) : bits .xor .u64 (a : Int) (b : Int) = (c : Int) := by
  subst h; exact u64_xor_nat a b ha hb
theorem xor5 (a b c d e r : Nat) (ha : a < 18446744073709551616) (hb : b < 18446744073709551616) (hc : c < 18446744073709551616) (hd : d < 18446744073709551616) (he : e < 18446744073709551616) (h : a ^^^ b ^^^ c ^^^ d ^^^ e = r) :
    bits .xor .u64 (bits .xor .u64 (bits .xor .u64 (bits .xor .u64 (a : Int) (b : Int)) (c : Int)) (d : Int)) (e : Int) = (r : Int) := by
  subst h
  rw [u64_xor_nat a b ha hb, u64_xor_nat _ c (xor_lt _ _ ha hb) hc, u64_xor_nat _ d (xor_lt _ _ (xor_lt _ _ ha hb) hc) hd, u64_xor_nat _ e (xor_lt _ _ (xor_lt _ _ (xor_lt _ _ ha hb) hc) hd) he]
theorem bend3 (x y z r : Nat) (hx : x < 18446744073709551616) (hy : y < 18446744073709551616) (hz : z < 18446744073709551616) (h : x ^^^ (not64 y &&& z) = r) :
    bits .xor .u64 (x : Int) (bits .and .u64 (bits .xor .u64 18446744073709551615 (y : Int)) (z : Int)) = (r : Int) := by
  subst h
  have hn : not64 y < 18446744073709551616 := by unfold not64; omega
  rw [not_bits y hy, u64_and_nat _ z hn hz, u64_xor_nat x _ hx (and_lt _ _ hn)]
theorem kd_mod (a : List Nat) (i j : Nat) (h : i % 5 = j % 5) : kd a i = kd a j := by
  unfold kd
  rw [show (i + 4) % 5 = (j + 4) % 5 by omega, show (i + 1) % 5 = (j + 1) % 5 by omega]
theorem kd_is (a : List Nat) (j p q c d r : Nat) (hp : (j + 4) % 5 = p) (hq : (j + 1) % 5 = q) (hc : kc a p = c) (hd : rol (kc a q) 1 = d) (hr : kd a j = r) : c ^^^ d = r := by
  rw [← hr, kd, hp, hq, hc, hd]
end Go.Proofs.YtpibnfpgokjnpaaDoor.kecb
