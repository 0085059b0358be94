/-
  What the document's own small and large of layer 3 return: eight words behind a block. Conditions: the words have their bits, the string has a block's bytes.
-/
import Derived.Test.YthfljfampfioaaaSh3
import Derived.Test.YthfljfampfioaaaRef1
import Derived.StillTailTactics
import Derived.BigQuiet
namespace Go.Proofs.Ythfljfampfioaaa.rblk
open Go.RowKit
open Go.Proofs.Ythfljfampfioaaa.oct Go.Proofs.Ythfljfampfioaaa.mem Go.Proofs.Ythfljfampfioaaa.arr Go.Proofs.Ythfljfampfioaaa.rot Go.Proofs.Ythfljfampfioaaa.sham Go.Proofs.Ythfljfampfioaaa.block Go.Proofs.Ythfljfampfioaaa.ends Go.Proofs.Ythfljfampfioaaa.hashs

theorem still_all {P : Program} {id : Nat} {Q : Exit → Act → World → Prop} {a : Act} {w : World} {l : List Oper} (hm : P.follows .mixedOrders = true) (hB : Region.lexB .any l.toArray = true)
    (h : wpStill P l.toArray w.drew (fun a' => Q .normal a' w.drew) l a) : (Code.region id l.toArray true).wp P Q a w := wp_region_still_lit hm hB h
theorem at_put {g : Nat} {C : Array Value} {t : TypeId} {w w' : World} (h : At g C t w w') (o : Nat) (v : Value) : At g (C.setIfInBounds o v) t w (w'.setCell ⟨g, o, none⟩ v) :=
  ⟨h.os, h.tape, h.output, by rw [size_setCell]; exact h.size, heap_setCell h.row o v, fun k hk hg => (Below.heap_setCell w' ⟨g, o, none⟩ v k hg).trans (h.block k hk hg)⟩
theorem at_drew {g : Nat} {C : Array Value} {t : TypeId} {w w' : World} (h : At g C t w w') : At g C t w w'.drew := ⟨h.os, h.tape, h.output, h.size, h.row, h.block⟩
theorem store_newg {P : Program} {ops : Array Oper} {Q : Exit → Act → World → Prop} {rest : List Oper} {o : Oper} {a : Act} {w0 : World} {old : Array Value} {t : TypeId} (hgd : o.guard = none) (ty : TypeId) (x y : Operand) (ho : o.op = .store ty x y)
    (cells : Array Value) (g : Nat) (hg : g = w0.heap.size) (hx : a.eval x = .pointer (some ⟨g, 0, none⟩)) (hy : a.eval y = .agg cells) (hi : (P.info? ty).map (·.size) = some cells.size) (hold : old.size = cells.size) (h1 : cells.all (·.oneCell') = true) (hn : o.dst = none)
    (h : wpList P ops Q rest a (w0.alloc (.cells cells t))) : wpList P ops Q (o :: rest) a (w0.alloc (.cells old t)) := by
  subst hg
  exact wpList_store_new hgd ty x y ho cells hx hy hi hold h1 hn h
/-- the first k words are added already -/
def mix (a b : List Nat) (k : Nat) : List Nat := b.take k ++ a.drop k
theorem mix_length (a b : List Nat) (k : Nat) (ha : a.length = 8) (hb : b.length = 8) (hk : k ≤ 8) : (mix a b k).length = 8 := by
  simp [mix, ha, hb]; omega
theorem mix_get (a b : List Nat) (k : Nat) (_ha : a.length = 8) (hb : b.length = 8) (hk : k < 8) : (mix a b k).getD k 0 = a.getD k 0 := by
  rw [mix, List.getD_eq_getElem?_getD, List.getElem?_append_right (by simp; omega), List.length_take, List.getElem?_drop, List.getD_eq_getElem?_getD]
  congr 2
  omega
theorem mix_set (a b : List Nat) (k : Nat) (ha : a.length = 8) (hb : b.length = 8) (hk : k < 8) : (mix a b k).set k (b.getD k 0) = mix a b (k + 1) := by
  rw [mix, List.set_append_right _ _ (by simp; omega), mix, take_snocN b k (by omega), List.append_assoc]
  congr 1
  rw [List.length_take, show k - min k b.length = 0 by omega, List.drop_eq_getElem_cons (by omega : k < a.length)]
  rfl
theorem join24 (x y : Nat) (hy : y < 16777216) : x * 16777216 ||| y = x * 16777216 + y := nat_join 24 _ _ (Nat.mul_mod_left x (2 ^ 24)) hy
theorem join16 (x y : Nat) (hy : y < 65536) : x * 65536 ||| y = x * 65536 + y := nat_join 16 _ _ (Nat.mul_mod_left x (2 ^ 16)) hy
theorem join8 (x y : Nat) (hy : y < 256) : x * 256 ||| y = x * 256 + y := nat_join 8 _ _ (Nat.mul_mod_left x (2 ^ 8)) hy
theorem sum4 (a b c d : Nat) (ha : a < 256) (hb : b < 256) (hc : c < 256) (hd : d < 256) :
    bits .or .u32 (bits .or .u32 (bits .or .u32 ((a : Int) * 16777216) ((b : Int) * 65536)) ((c : Int) * 256)) (d : Int) = ((((a * 256 + b) * 256 + c) * 256 + d : Nat) : Int) := by
  have e1 : (a : Int) * 16777216 = ((a * 16777216 : Nat) : Int) := by omega
  have e2 : (b : Int) * 65536 = ((b * 65536 : Nat) : Int) := by omega
  have e3 : (c : Int) * 256 = ((c * 256 : Nat) : Int) := by omega
  have f1 : (a * 16777216 ||| b * 65536 : Nat) = (a * 256 + b) * 65536 := by rw [join24 a (b * 65536) (by omega)]; omega
  have f2 : ((a * 256 + b) * 65536 ||| c * 256 : Nat) = ((a * 256 + b) * 256 + c) * 256 := by rw [join16 _ (c * 256) (by omega)]; omega
  have f3 : (((a * 256 + b) * 256 + c) * 256 ||| d : Nat) = ((a * 256 + b) * 256 + c) * 256 + d := join8 _ d hd
  rw [e1, e2, e3, u32_or_nat _ _ (by omega) (by omega), f1, u32_or_nat _ _ (by omega) (by omega), f2, u32_or_nat _ _ (by omega) (by omega), f3]
theorem arr8 {k : IntKind} {x x' y y' : Int} {b c d f g h : Value} (e1 : x = x') (e2 : y = y') : (#[.int k x, b, c, d, .int k y, f, g, h] : Array Value) = #[.int k x', b, c, d, .int k y', f, g, h] := by rw [e1, e2]
theorem one8 (k : IntKind) (a b c d e f g h : Int) : (#[.int k a, .int k b, .int k c, .int k d, .int k e, .int k f, .int k g, .int k h] : Array Value).all (·.oneCell') = true := by simp [Value.oneCell']
theorem word4 (l : List UInt8) (k : Nat) (h : 4 * k + 4 ≤ l.length) : word 4 l k = (((l.getD (4 * k) 0).toNat * 256 + (l.getD (4 * k + 1) 0).toNat) * 256 + (l.getD (4 * k + 2) 0).toNat) * 256 + (l.getD (4 * k + 3) 0).toNat := by
  have e : (l.drop (4 * k)).take 4 = [l.getD (4 * k) 0, l.getD (4 * k + 1) 0, l.getD (4 * k + 2) 0, l.getD (4 * k + 3) 0] := by
    apply List.ext_getElem?
    intro j
    rw [List.getElem?_take]
    split
    · rw [List.getElem?_drop]
      rename_i hj
      match j, hj with
      | 0, _ => simp [List.getD_eq_getElem?_getD, List.getElem?_eq_getElem (show 4 * k < l.length by omega)]
      | 1, _ => simp [List.getD_eq_getElem?_getD, List.getElem?_eq_getElem (show 4 * k + 1 < l.length by omega)]
      | 2, _ => simp [List.getD_eq_getElem?_getD, List.getElem?_eq_getElem (show 4 * k + 2 < l.length by omega)]
      | 3, _ => simp [List.getD_eq_getElem?_getD, List.getElem?_eq_getElem (show 4 * k + 3 < l.length by omega)]
    · rw [List.getElem?_eq_none (by simp; omega)]
  rw [word, e]
  simp [wo]
theorem byte_at (s : ByteArray) (j : Nat) (h : j < s.size) : (s[j]'h).toNat = (s.data.toList.getD j 0).toNat := by
  have : j < s.data.toList.length := h
  rw [List.getD_eq_getElem?_getD, List.getElem?_eq_getElem this]
  rfl

/-! ### 32 bits -/
theorem rsch_a32 (p : Nat) (hp : p < 4294967296) : bits .xor .u32 (bits .xor .u32 ((rr 32 p 7 : Nat) : Int) ((rr 32 p 18 : Nat) : Int)) ((p : Int) / 8) = ((sg32 p 7 18 3 : Nat) : Int) := by
  rw [turned.xr32 p 7 18 hp, show ((p : Int) / 8) = ((p / 8 : Nat) : Int) from rfl, u32_xor_nat _ _ (turned.r2_lt32 p 7 18 hp) (by omega)]
  rfl
theorem rsch_b32 (q : Nat) (hq : q < 4294967296) : bits .xor .u32 (bits .xor .u32 ((rr 32 q 17 : Nat) : Int) ((rr 32 q 19 : Nat) : Int)) ((q : Int) / 1024) = ((sg32 q 17 19 10 : Nat) : Int) := by
  rw [turned.xr32 q 17 19 hq, show ((q : Int) / 1024) = ((q / 1024 : Nat) : Int) from rfl, u32_xor_nat _ _ (turned.r2_lt32 q 17 19 hq) (by omega)]
  rfl

set_option maxRecDepth 100000 in
set_option maxHeartbeats 4000000 in
theorem rblock32 (T : Array Value) (K : List Nat) (v : V8) (s : ByteArray) (w : World) (hs : s.size = 64) (hv : v.lt 4294967296) (hK : ∀ i, K.getD i 0 < 4294967296)
    (hT : ∀ i, i < 64 → T[0 + i]? = some (.int .u32 ((K.getD i 0 : Nat) : Int))) (hTs : T.size = 465) :
    Calls Try.prog 52 #[.agg T, .agg (LK .u32 v.l), .string s] w fun e w' => e = .returned (.agg (LK .u32 (bl32 K v s.data.toList).l)) ∧ Below w.heap.size w w' := by
  have HT := Away.mk hT
  have HTs := Away.mk hTs
  have HK := Away.mk hK
  have hf : ∀ i, word 4 s.data.toList i < 4294967296 := word_lt 4 s.data.toList
  have hw : ∀ k : Nat, k < 16 → (((((s.data.toList.getD (4 * k) 0).toNat * 256 + (s.data.toList.getD (4 * k + 1) 0).toNat) * 256 + (s.data.toList.getD (4 * k + 2) 0).toNat) * 256 + (s.data.toList.getD (4 * k + 3) 0).toNat : Nat)) = word 4 s.data.toList k := fun k hk => by rw [word4 s.data.toList k (by show 4 * k + 4 ≤ s.size; omega)]
  obtain ⟨f, Hf⟩ := ex_eq (word 4 s.data.toList)
  rw [Hf.out] at hf hw
  have Hw := Away.mk hw
  have HF := Away.mk hf
  obtain ⟨Y, HY⟩ := ex_eq (LK .u32 (bl32 K v s.data.toList).l)
  rw [HY.out]
  have HYs : Away (Y.size = 8) := ⟨by rw [← HY.out]; rfl⟩
  have HYo : Away (Y.all (·.oneCell') = true) := ⟨by rw [← HY.out]; exact lk_one _ _⟩
  obtain ⟨L, HL⟩ := ex_eq v.l
  rw [HL.out]
  have HLl : Away (L.length = 8) := ⟨by rw [← HL.out]; rfl⟩
  clear hf hT hTs hK hw
  go_enter Try.func52, Try.ntmps52
  go_wp2_with fail
  obtain ⟨w3, Hw3⟩ := ex_eq (((w.alloc (.cells T 33)).alloc (.cells (LK .u32 L) 25)).alloc (.cells #[.int .u32 0, .int .u32 0, .int .u32 0, .int .u32 0, .int .u32 0, .int .u32 0, .int .u32 0, .int .u32 0] 25))
  have z3 : w3.heap.size = w.heap.size + 3 := by rw [← Hw3.out]; simp
  have hb3 : Below w.heap.size w w3 := by rw [← Hw3.out]; exact (((Below.refl _ _).alloc (Nat.le_refl _) _).alloc (by simp) _).alloc (by simp; omega) _
  have g0 : w3.heap[w.heap.size]? = some (.cells T 33 (0, 0)) := by rw [← Hw3.out, heap_past _ _ _ (by simp; omega), heap_past _ _ _ (by simp), heap_at _ _ _ rfl]
  have g1 : w3.heap[w.heap.size + 1]? = some (.cells (LK .u32 L) 25 (0, 0)) := by rw [← Hw3.out, heap_past _ _ _ (by simp), heap_at _ _ _ (by simp)]
  have g2 : w3.heap[w.heap.size + 2]? = some (.cells #[.int .u32 0, .int .u32 0, .int .u32 0, .int .u32 0, .int .u32 0, .int .u32 0, .int .u32 0, .int .u32 0] 25 (0, 0)) := by rw [← Hw3.out, heap_at _ _ _ (by simp)]
  have Z3 := Away.mk z3
  have Hb3 := Away.mk hb3
  have G0 := Away.mk g0
  have G1 := Away.mk g1
  have G2 := Away.mk g2
  rw [Hw3.out]
  clear z3 hb3 g0 g1 g2
  obtain ⟨Z, HZ⟩ := ex_eq (#[.int .u32 0, .int .u32 0, .int .u32 0, .int .u32 0, .int .u32 0, .int .u32 0, .int .u32 0, .int .u32 0, .int .u32 0, .int .u32 0, .int .u32 0, .int .u32 0, .int .u32 0, .int .u32 0, .int .u32 0, .int .u32 0, .int .u32 0, .int .u32 0, .int .u32 0, .int .u32 0, .int .u32 0, .int .u32 0, .int .u32 0, .int .u32 0, .int .u32 0, .int .u32 0, .int .u32 0, .int .u32 0, .int .u32 0, .int .u32 0, .int .u32 0, .int .u32 0, .int .u32 0, .int .u32 0, .int .u32 0, .int .u32 0, .int .u32 0, .int .u32 0, .int .u32 0, .int .u32 0, .int .u32 0, .int .u32 0, .int .u32 0, .int .u32 0, .int .u32 0, .int .u32 0, .int .u32 0, .int .u32 0, .int .u32 0, .int .u32 0, .int .u32 0, .int .u32 0, .int .u32 0, .int .u32 0, .int .u32 0, .int .u32 0, .int .u32 0, .int .u32 0, .int .u32 0, .int .u32 0, .int .u32 0, .int .u32 0, .int .u32 0, .int .u32 0] : Array Value)
  rw [HZ.out]
  have HZ2 : Away (Z = LK .u32 (sc32 f 0)) := ⟨HZ.out.symm⟩
  clear HZ
  rw [HZ2.out]
  clear HZ2
  rw [show w.heap.size + 1 + 1 + 1 = w3.heap.size from Z3.out.symm]
  go_loopw [19] (fun i wr => ∃ k n : Nat, k ≤ 16 ∧ i = .int .i64 k ∧ wr = (w3.alloc (.cells (LK .u32 (sc32 f k)) 24)).drewN n) (fun i _ => 16 - (intOf i).toNat)
  case atStart => exact ⟨0, 0, by decide, rfl, rfl⟩
  case round =>
    obtain ⟨k, nd, hk, rfl, rfl⟩ := hrel
    by_cases hlt : k < 16
    · have hget := lk_get .u32 (sc32 f k) k (by rw [sc_length32]; omega)
      have hbw := Hw.out k hlt
      have h0 : 4 * k + 3 < s.size := by omega
      obtain ⟨x0, hx0⟩ : ∃ x, 4 * k = x := ⟨_, rfl⟩
      obtain ⟨x1, hx1⟩ : ∃ x, x0 + 1 = x := ⟨_, rfl⟩
      obtain ⟨x2, hx2⟩ : ∃ x, x0 + 2 = x := ⟨_, rfl⟩
      obtain ⟨x3, hx3⟩ : ∃ x, x0 + 3 = x := ⟨_, rfl⟩
      have i0 : IntKind.i64.wrap (4 * (k : Int)) = (x0 : Int) := by rw [IntKind.wrap_i64]; omega
      have i1 : IntKind.i64.wrap ((x0 : Int) + 1) = (x1 : Int) := by rw [IntKind.wrap_i64]; omega
      have i2 : IntKind.i64.wrap ((x0 : Int) + 2) = (x2 : Int) := by rw [IntKind.wrap_i64]; omega
      have i3 : IntKind.i64.wrap ((x0 : Int) + 3) = (x3 : Int) := by rw [IntKind.wrap_i64]; omega
      have v0 : ∀ h, (s[x0]'h).toNat = (s.data.toList.getD x0 0).toNat := fun h => byte_at s x0 h
      have v1 : ∀ h, (s[x1]'h).toNat = (s.data.toList.getD x1 0).toNat := fun h => byte_at s x1 h
      have v2 : ∀ h, (s[x2]'h).toNat = (s.data.toList.getD x2 0).toNat := fun h => byte_at s x2 h
      have v3 : ∀ h, (s[x3]'h).toNat = (s.data.toList.getD x3 0).toNat := fun h => byte_at s x3 h
      have l0 : (x0 : Int) < 64 := by omega
      have l1 : (x1 : Int) < 64 := by omega
      have l2 : (x2 : Int) < 64 := by omega
      have l3 : (x3 : Int) < 64 := by omega
      have lk : (k : Int) < 64 := by omega
      rw [hx0, hx1, hx2, hx3] at hbw
      have c0 := UInt8.toNat_lt (s.data.toList.getD x0 0)
      have c1 := UInt8.toNat_lt (s.data.toList.getD x1 0)
      have c2 := UInt8.toNat_lt (s.data.toList.getD x2 0)
      have c3 := UInt8.toNat_lt (s.data.toList.getD x3 0)
      obtain ⟨y0, hy0⟩ : ∃ y, (s.data.toList.getD x0 0).toNat = y := ⟨_, rfl⟩
      obtain ⟨y1, hy1⟩ : ∃ y, (s.data.toList.getD x1 0).toNat = y := ⟨_, rfl⟩
      obtain ⟨y2, hy2⟩ : ∃ y, (s.data.toList.getD x2 0).toNat = y := ⟨_, rfl⟩
      obtain ⟨y3, hy3⟩ : ∃ y, (s.data.toList.getD x3 0).toNat = y := ⟨_, rfl⟩
      rw [hy0] at hbw v0 c0
      rw [hy1] at hbw v1 c1
      rw [hy2] at hbw v2 c2
      rw [hy3] at hbw v3 c3
      have hset := lk_setI .u32 (sc32 f k) k (f k) _ ((sum4 y0 y1 y2 y3 c0 c1 c2 c3).trans (congrArg _ hbw))
      rw [show (sc32 f k).set k (f k) = sc32 f (k + 1) by rw [sc32, if_pos hlt]] at hset
      clear hx0 hx1 hx2 hx3 hy0 hy1 hy2 hy3 hbw h0
      go_wp2_with fail
      refine still_tail 31 (by kernel_rfl) (by kernel_rfl) ?_
      simp only [List.take_succ_cons, List.take_zero, List.drop_succ_cons, List.drop_zero]
      repeat still_step
      refine wpStill_nil ?_
      go_wp2_with fail
      go_roundw
      case rel => exact ⟨k + 1, _, by omega, by go_num, rfl⟩
      case measure => simp [intOf]; omega
    · obtain rfl : k = 16 := by omega
      clear Hw
      simp only [Int.cast_ofNat_Int]
      go_wp2_with fail
      go_loopw [9] (fun i wr => ∃ k n : Nat, 16 ≤ k ∧ k ≤ 64 ∧ i = .int .i64 k ∧ wr = (w3.alloc (.cells (LK .u32 (sc32 f k)) 24)).drewN n) (fun i _ => 64 - (intOf i).toNat)
      case atStart => exact ⟨16, nd, by decide, by decide, rfl, rfl⟩
      case round =>
        clear nd
        obtain ⟨k, nd, hk16, hk, rfl, rfl⟩ := hrel
        by_cases hlt : k < 64
        · have hl := sc_length32 f k
          have g16 := lk_get .u32 (sc32 f k) (k - 16) (by omega)
          have g15 := lk_get .u32 (sc32 f k) (k - 15) (by omega)
          have g7 := lk_get .u32 (sc32 f k) (k - 7) (by omega)
          have g2 := lk_get .u32 (sc32 f k) (k - 2) (by omega)
          have g0 := lk_get .u32 (sc32 f k) k (by omega)
          have b15 := sc_lt32 f HF.out k (k - 15)
          have b2 := sc_lt32 f HF.out k (k - 2)
          have hwn : (sc32 f k).set k (wn32 (sc32 f k) k) = sc32 f (k + 1) := by rw [sc32, if_neg (by omega)]
          unfold wn32 at hwn
          obtain ⟨w16, h16⟩ : ∃ x, (sc32 f k).getD (k - 16) 0 = x := ⟨_, rfl⟩
          obtain ⟨p, hp⟩ : ∃ x, (sc32 f k).getD (k - 15) 0 = x := ⟨_, rfl⟩
          obtain ⟨w7, h7⟩ : ∃ x, (sc32 f k).getD (k - 7) 0 = x := ⟨_, rfl⟩
          obtain ⟨q, hq⟩ : ∃ x, (sc32 f k).getD (k - 2) 0 = x := ⟨_, rfl⟩
          rw [h16, hp, h7, hq] at hwn
          rw [h16] at g16
          rw [hp] at g15 b15
          rw [h7] at g7
          rw [hq] at g2 b2
          obtain ⟨x16, hx16⟩ : ∃ x, k - 16 = x := ⟨_, rfl⟩
          obtain ⟨x15, hx15⟩ : ∃ x, k - 15 = x := ⟨_, rfl⟩
          obtain ⟨x7, hx7⟩ : ∃ x, k - 7 = x := ⟨_, rfl⟩
          obtain ⟨x2, hx2⟩ : ∃ x, k - 2 = x := ⟨_, rfl⟩
          rw [hx16] at g16
          rw [hx15] at g15
          rw [hx7] at g7
          rw [hx2] at g2
          have wr16 : IntKind.i64.wrap ((k : Int) - 16) = (x16 : Int) := by rw [IntKind.wrap_i64]; omega
          have wr15 : IntKind.i64.wrap ((k : Int) - 15) = (x15 : Int) := by rw [IntKind.wrap_i64]; omega
          have wr7 : IntKind.i64.wrap ((k : Int) - 7) = (x7 : Int) := by rw [IntKind.wrap_i64]; omega
          have wr2 : IntKind.i64.wrap ((k : Int) - 2) = (x2 : Int) := by rw [IntKind.wrap_i64]; omega
          have l16 : (x16 : Int) < 64 := by omega
          have l15 : (x15 : Int) < 64 := by omega
          have l7 : (x7 : Int) < 64 := by omega
          have l2 : (x2 : Int) < 64 := by omega
          have l0 : (k : Int) < 64 := by omega
          have Ha := Away.mk (rsch_a32 p b15)
          have Hbb := Away.mk (rsch_b32 q b2)
          have Hwn := Away.mk hwn
          clear h16 hp h7 hq hwn hl hx16 hx15 hx7 hx2
          go_wp2_with fail
          refine still_all (by kernel_rfl) (by kernel_rfl) ?_
          repeat still_step
          still_call (right32_any p 7 _ b15 (by decide) (by decide))
          repeat still_step
          still_call (right32_any p 18 _ b15 (by decide) (by decide))
          repeat still_step
          refine wpStill_nil ?_
          rw [Ha.out]
          go_wp2_with fail
          refine still_all (by kernel_rfl) (by kernel_rfl) ?_
          repeat still_step
          still_call (right32_any q 17 _ b2 (by decide) (by decide))
          repeat still_step
          still_call (right32_any q 19 _ b2 (by decide) (by decide))
          repeat still_step
          refine wpStill_nil ?_
          rw [Hbb.out]
          have hset : (LK .u32 (sc32 f k)).setIfInBounds k (.int .u32 (((w16 : Int) + ((sg32 p 7 18 3 : Nat) : Int) + (w7 : Int) + ((sg32 q 17 19 10 : Nat) : Int)) % 4294967296)) = LK .u32 (sc32 f (k + 1)) := by
            rw [lk_setI .u32 (sc32 f k) k ((w16 + sg32 p 7 18 3 + w7 + sg32 q 17 19 10) % 4294967296) _ (by first | omega | (simp only [IntKind.wrap_u32]; omega)), Hwn.out]
          go_wp2_with fail
          refine still_tail 15 (by kernel_rfl) (by kernel_rfl) ?_
          simp only [List.take_succ_cons, List.take_zero, List.drop_succ_cons, List.drop_zero]
          repeat still_step
          refine wpStill_nil ?_
          go_wp2_with fail
          go_roundw
          case rel => exact ⟨k + 1, _, by omega, by omega, by go_num, rfl⟩
          case measure => simp [intOf]; omega
        · obtain rfl : k = 64 := by omega
          simp only [Int.cast_ofNat_Int]
          obtain ⟨W, HW⟩ := ex_eq (sc32 f 64)
          have hW : ∀ i, W.getD i 0 < 4294967296 := by rw [← HW.out]; exact sc_lt32 f HF.out 64
          have hWl : W.length = 64 := by rw [← HW.out]; exact sc_length32 f 64
          rw [HW.out]
          have HWb := Away.mk hW
          have HWl := Away.mk hWl
          obtain ⟨w4, Hw4⟩ : ∃ w4, Away ((w3.alloc (.cells (LK .u32 W) 24)).drewN nd = w4) := ⟨_, ⟨rfl⟩⟩
          have z4 : w4.heap.size = w3.heap.size + 1 := by rw [← Hw4.out]; simp
          have hb4 : Below w3.heap.size w3 w4 := by rw [← Hw4.out]; exact (below_alloc _ _).trans (drewn_below _ _ _)
          have z3 := Z3.out
          have q0 : w4.heap[w.heap.size]? = some (.cells T 33 (0, 0)) := (hb4.block _ (by omega)).trans G0.out
          have q1 : w4.heap[w.heap.size + 1]? = some (.cells (LK .u32 L) 25 (0, 0)) := (hb4.block _ (by omega)).trans G1.out
          have q2 : w4.heap[w.heap.size + 2]? = some (.cells #[.int .u32 0, .int .u32 0, .int .u32 0, .int .u32 0, .int .u32 0, .int .u32 0, .int .u32 0, .int .u32 0] 25 (0, 0)) := (hb4.block _ (by omega)).trans G2.out
          have q3 : w4.heap[w3.heap.size]? = some (.cells (LK .u32 W) 24 (0, 0)) := by rw [← Hw4.out]; exact heap_at _ _ _ rfl
          have Hbw4 : Away (Below w.heap.size w w4) := ⟨Hb3.out.trans (hb4.mono (by omega))⟩
          have Z4 := Away.mk z4
          have Q0 := Away.mk q0
          have Q1 := Away.mk q1
          have Q2 := Away.mk q2
          have Q3 := Away.mk q3
          rw [Hw4.out]
          obtain ⟨pw, Hpw⟩ := ex_eq w3.heap.size
          rw [Hpw.out]
          rw [Hpw.out] at Q3 Z4
          have Zpw : Away (pw = w.heap.size + 3) := ⟨by rw [← Hpw.out]; exact z3⟩
          obtain ⟨va, vb, vc, vd, ve, vf, vg, vh⟩ := v
          obtain ⟨ha, hb, hc, hd, he, hf, hg, hh⟩ := hv
          simp only at ha hb hc hd he hf hg hh
          have Hv : Away (V8.lt 4294967296 ⟨va, vb, vc, vd, ve, vf, vg, vh⟩) := ⟨⟨ha, hb, hc, hd, he, hf, hg, hh⟩⟩
          clear hW hWl z3 z4 hb4 q0 q1 q2 q3 ha hb hc hd he hf hg hh HF Hb3 G0 G1 G2 Z3
          go_wp2_with (first
            | (refine wpList_load_row rfl 25 _ rfl (w.heap.size + 1) rfl 25 _ (0, 0) _ Q1.out Try.underlying25 rfl (by rw [lk_size, HLl.out]; exact z8_32) ?_)
            | (refine wpList_store_new rfl 25 _ _ rfl (LK .u32 L) rfl rfl (by rw [lk_size, HLl.out]; exact z8_32) (by rw [lk_size, HLl.out]; rfl) (lk_one _ _) rfl ?_))
          go_loopw [108] (fun i wr => ∃ (k nd : Nat) (u : V8), k ≤ 64 ∧ i = .int .i64 k ∧ Away (u = st32 K W ⟨va, vb, vc, vd, ve, vf, vg, vh⟩ k) ∧ wr = (w4.alloc (.cells (LK .u32 u.l) 25)).drewN nd) (fun i _ => 64 - (intOf i).toNat)
          case atStart => exact ⟨0, 0, ⟨va, vb, vc, vd, ve, vf, vg, vh⟩, by decide, rfl, ⟨rfl⟩, by rw [HL.out]; rfl⟩
          case round =>
            obtain ⟨k, nd, u, hk, rfl, Hu, rfl⟩ := hrel
            have hu : u.lt 4294967296 := by rw [Hu.out]; exact st_lt32 _ _ _ Hv.out _
            by_cases hlt : k < 64
            · obtain ⟨ua, ub, uc, ud, ue, uf, ug, uh⟩ := u
              obtain ⟨ka, kb, kc, kd, ke, kf, kg, kh⟩ := hu
              simp only at ka kb kc kd ke kf kg kh
              have hzz : w.heap.size ≤ w4.heap.size := by have := Z4.out; have := Zpw.out; omega
              have c1 : ∀ o, (w4.alloc o).cell? ⟨w.heap.size, k, none⟩ = some (.int .u32 ((K.getD k 0 : Nat) : Int)) := fun o => by
                have h := HT.out k hlt
                rw [(below_alloc w4 o).cell (p := ⟨w.heap.size, k, none⟩) (lt_of_row Q0.out), cell_of_row w4 _ _ _ _ (0, 0) Q0.out]
                simpa using h
              have c2 : ∀ o, (w4.alloc o).cell? ⟨pw, k, none⟩ = some (.int .u32 ((W.getD k 0 : Nat) : Int)) := fun o => by
                rw [(below_alloc w4 o).cell (p := ⟨pw, k, none⟩) (lt_of_row Q3.out), cell_of_row w4 _ _ _ _ (0, 0) Q3.out]
                exact lk_get _ _ _ (by rw [HWl.out]; exact hlt)
              have bk := HK.out k
              have bw := HWb.out k
              obtain ⟨kk, hkk⟩ : ∃ x, K.getD k 0 = x := ⟨_, rfl⟩
              obtain ⟨ww, hww⟩ : ∃ x, W.getD k 0 = x := ⟨_, rfl⟩
              rw [hkk] at c1 bk
              rw [hww] at c2 bw
              have Hn : Away (rd32 kk ww ⟨ua, ub, uc, ud, ue, uf, ug, uh⟩ = st32 K W ⟨va, vb, vc, vd, ve, vf, vg, vh⟩ (k + 1)) := ⟨by rw [st32, ← Hu.out, hkk, hww]⟩
              rw [show LK .u32 (V8.l ⟨ua, ub, uc, ud, ue, uf, ug, uh⟩) = #[.int .u32 ua, .int .u32 ub, .int .u32 uc, .int .u32 ud, .int .u32 ue, .int .u32 uf, .int .u32 ug, .int .u32 uh] from rfl]
              have l0 : (k : Int) < 64 := by omega
              have Hx := Away.mk (x_val32 ua ub uc ud ue uf ug uh kk ww ke kf kg)
              have Hy := Away.mk (y_val32 ua ub uc ka kb kc)
              have Hs1 := Away.mk (turned.xr32 ue 6 11 ke)
              have Hs2 := Away.mk (turned.xr332 ue 6 11 25 ke)
              have Hs3 := Away.mk (turned.xr32 ua 2 13 ka)
              have Hs4 := Away.mk (turned.xr332 ua 2 13 22 ka)
              clear hkk hww Hu hzz
              go_wp2_with fail
              refine still_all (by kernel_rfl) (by kernel_rfl) ?_
              repeat still_step
              still_call (right32_any ue 6 _ ke (by decide) (by decide))
              repeat still_step
              still_call (right32_any ue 11 _ ke (by decide) (by decide))
              repeat still_step
              still_call (right32_any ue 25 _ ke (by decide) (by decide))
              repeat still_step
              refine wpStill_nil ?_
              rw [Hs1.out, Hs2.out]
              go_wp2_with fail
              refine still_all (by kernel_rfl) (by kernel_rfl) ?_
              repeat still_step
              still_call (right32_any ua 2 _ ka (by decide) (by decide))
              repeat still_step
              still_call (right32_any ua 13 _ ka (by decide) (by decide))
              repeat still_step
              still_call (right32_any ua 22 _ ka (by decide) (by decide))
              repeat still_step
              refine wpStill_nil ?_
              rw [Hs3.out, Hs4.out]
              go_wp2_with fail
              refine still_all (by kernel_rfl) (by kernel_rfl) ?_
              repeat still_step
              refine wpStill_nil ?_
              rw [show (if IntKind.u32.signed = true then (-1 : Int) else IntKind.u32.max) = IntKind.u32.max from rfl, Hx.out]
              obtain ⟨xv, hxv⟩ : ∃ x, xx32 kk ww ⟨ua, ub, uc, ud, ue, uf, ug, uh⟩ = x := ⟨_, rfl⟩
              rw [hxv]
              have Hxv := Away.mk hxv
              clear hxv c1 c2
              go_wp2_with fail
              rw [Hy.out]
              refine ⟨?rel, ?measure⟩
              case rel =>
                refine ⟨k + 1, _, rd32 kk ww ⟨ua, ub, uc, ud, ue, uf, ug, uh⟩, by omega, by go_num, Hn, congrArg (fun c => (w4.alloc (Obj.cells c 25)).drewN _) (arr8 (b := .int .u32 ua) (c := .int .u32 ub) (d := .int .u32 uc) (f := .int .u32 ue) (g := .int .u32 uf) (h := .int .u32 ug) ?_ ?_)⟩
                · show _ = (((xx32 kk ww ⟨ua, ub, uc, ud, ue, uf, ug, uh⟩ + yy32 ⟨ua, ub, uc, ud, ue, uf, ug, uh⟩) % 4294967296 : Nat) : Int)
                  rw [Hxv.out]
                  unfold yy32
                  simp only
                  first | omega | (simp only [IntKind.wrap_u32]; omega)
                · show _ = (((ud + xx32 kk ww ⟨ua, ub, uc, ud, ue, uf, ug, uh⟩) % 4294967296 : Nat) : Int)
                  rw [Hxv.out]
                  first | omega | (simp only [IntKind.wrap_u32]; omega)
              case measure => simp [intOf]; omega
            · obtain rfl : k = 64 := by omega
              simp only [Int.cast_ofNat_Int]
              have hul : ∀ i, u.l.getD i 0 < 4294967296 := hu.get (by decide)
              have hvl : ∀ i, L.getD i 0 < 4294967296 := by rw [← HL.out]; exact Hv.out.get (by decide)
              have HXY : Away (LK .u32 (ad32 ⟨va, vb, vc, vd, ve, vf, vg, vh⟩ u).l = Y) := ⟨by rw [← HY.out, bl32, Hf.out, HW.out, ← Hu.out]⟩
              obtain ⟨M, HM⟩ := ex_eq u.l
              rw [HM.out] at hul
              have HMl : Away (M.length = 8) := ⟨by rw [← HM.out]; rfl⟩
              obtain ⟨X, HX⟩ := ex_eq (ad32 ⟨va, vb, vc, vd, ve, vf, vg, vh⟩ u).l
              have HXl : Away (X.length = 8) := ⟨by rw [← HX.out]; rfl⟩
              have HXg : Away (∀ i, i < 8 → X.getD i 0 = (L.getD i 0 + M.getD i 0) % 4294967296) := ⟨fun i hi => by rw [← HX.out, ad_get32 _ _ i hi, HL.out, HM.out]⟩
              rw [HX.out] at HXY
              rw [HM.out]
              obtain ⟨w5, Hw5⟩ : ∃ w5, Away ((w4.alloc (.cells (LK .u32 M) 25)).drewN nd = w5) := ⟨_, ⟨rfl⟩⟩
              have hb5 : Below w4.heap.size w4 w5 := by rw [← Hw5.out]; exact (below_alloc _ _).trans (drewn_below _ _ _)
              have z5 : w5.heap.size = w4.heap.size + 1 := by rw [← Hw5.out]; simp
              have r3 : w5.heap[w4.heap.size]? = some (.cells (LK .u32 M) 25 (0, 0)) := by rw [← Hw5.out]; exact heap_at _ _ _ rfl
              have z4 := Z4.out
              have zp := Zpw.out
              have r1 : w5.heap[w.heap.size + 1]? = some (.cells (LK .u32 L) 25 (0, 0)) := (hb5.block _ (by omega)).trans Q1.out
              have r2 := (hb5.block (w.heap.size + 2) (by omega)).trans Q2.out
              have R1 := Away.mk r1
              have R2 := Away.mk r2
              have R3 := Away.mk r3
              have Hb5 : Away (Below w.heap.size w w5) := ⟨Hbw4.out.trans (hb5.mono (by omega))⟩
              have Z5 : Away (w.heap.size + 2 < w5.heap.size ∧ w.heap.size + 2 < w4.heap.size ∧ w4.heap.size < w5.heap.size) := ⟨by omega⟩
              rw [Hw5.out]
              clear hb5 z5 r1 r2 r3 z4 zp Q0 Q1 Q2 Q3 Hu hu HX HM HY HL Hf HW HT HK Hw3 Hbw4
              have HUl := Away.mk hul
              have HVl := Away.mk hvl
              clear hul hvl
              go_wp2_with fail
              go_loopw [199] (fun i wr => ∃ k : Nat, k ≤ 8 ∧ i = .int .i64 k ∧ Away (At (w.heap.size + 1) (LK .u32 (mix L X k)) 25 w5 wr)) (fun i _ => 8 - (intOf i).toNat)
              case atStart => exact ⟨0, by decide, rfl, ⟨At.refl R1.out⟩⟩
              case round =>
                obtain ⟨k, hk, rfl, Hx⟩ := hrel
                by_cases hlt : k < 8
                · have b1 := HVl.out k
                  have b2 := HUl.out k
                  have hxk := HXg.out k hlt
                  have h1 : wr.cell? ⟨w.heap.size + 1, k, none⟩ = some (.int .u32 ((L.getD k 0 : Nat) : Int)) := by
                    rw [Hx.out.cell, lk_get _ _ _ (by rw [mix_length L X k HLl.out HXl.out hk]; exact hlt), mix_get L X k HLl.out HXl.out hlt]
                  have h2 : wr.frozen? ⟨w.heap.size + 1, k, none⟩ = false := Hx.out.frozen k
                  have h3 : wr.cell? ⟨w4.heap.size, k, none⟩ = some (.int .u32 ((M.getD k 0 : Nat) : Int)) := by
                    have h5 := Z5.out
                    exact (cell_of_row wr _ k _ _ (0, 0) (Hx.out.other (by omega) (by omega) R3.out)).trans (lk_get _ _ _ (by rw [HMl.out]; exact hlt))
                  have hms := mix_set L X k HLl.out HXl.out hlt
                  rw [hxk] at hms
                  obtain ⟨p, hp⟩ : ∃ x, L.getD k 0 = x := ⟨_, rfl⟩
                  obtain ⟨q, hq⟩ : ∃ x, M.getD k 0 = x := ⟨_, rfl⟩
                  rw [hp] at h1 b1 hms
                  rw [hq] at h3 b2 hms
                  have Hn : Away (At (w.heap.size + 1) (LK .u32 (mix L X (k + 1))) 25 w5 (wr.setCell ⟨w.heap.size + 1, k, none⟩ (.int .u32 (((p : Int) + (q : Int)) % 4294967296)))) := ⟨by
                    have h := at_put Hx.out k (.int .u32 (((p : Int) + (q : Int)) % 4294967296))
                    rw [lk_setI .u32 (mix L X k) k ((p + q) % 4294967296) _ (by omega), hms] at h
                    exact h⟩
                  have l0 : (k : Int) < 8 := by omega
                  clear hxk hp hq hms Hx
                  go_wp2_with fail
                  refine still_tail 8 (by kernel_rfl) (by kernel_rfl) ?_
                  simp only [List.take_succ_cons, List.take_zero, List.drop_succ_cons, List.drop_zero]
                  repeat still_step
                  refine wpStill_nil ?_
                  go_wp2_with fail
                  go_roundw
                  case rel => exact ⟨k + 1, by omega, by go_num, ⟨at_drew Hn.out⟩⟩
                  case measure => simp [intOf]; omega
                · obtain rfl : k = 8 := by omega
                  have hrow := Hx.out.row
                  have hm8 : mix L X 8 = X := by
                    rw [mix, List.take_of_length_le (by rw [HXl.out]; decide), List.drop_eq_nil_of_le (by rw [HLl.out]; decide), List.append_nil]
                  rw [hm8, HXY.out] at hrow
                  have h5 := Z5.out
                  have hrow2 := Hx.out.other (k := w.heap.size + 2) (by omega) (by omega) R2.out
                  have Hrow := Away.mk hrow
                  have Hrow2 := Away.mk hrow2
                  have Hbr : Away (Below w.heap.size w wr) := ⟨Hb5.out.trans (Hx.out.below (by omega) (by omega))⟩
                  clear hrow hrow2 h5 hm8
                  go_wp2_with (first
                    | (refine wpList_load_row rfl 25 _ rfl (w.heap.size + 1) rfl 25 Y (0, 0) _ Hrow.out Try.underlying25 rfl (by rw [HYs.out]; exact z8_32) ?_)
                    | (refine wpList_store_row rfl 25 _ _ rfl (w.heap.size + 1 + 1) Y rfl rfl 25 _ Hrow2.out (by rw [HYs.out]; exact z8_32) (by rw [HYs.out]; rfl) HYo.out ?_))
                  refine bodyPost_ret_by (v := .agg Y) (results_cell_row rfl _ _ (w.heap.size + 1 + 1) 25 _ (0, 0) _ rfl (setRow_heap _ _ _ _ _ _ Hrow2.out) Try.underlying25 rfl (by rw [HYs.out]; exact z8_32)) rfl ?_
                  exact ⟨rfl, Hbr.out.trans (below_setRow _ _ _ (by omega))⟩

/-! ### 64 bits -/
theorem rsch_a64 (p : Nat) (hp : p < 18446744073709551616) : bits .xor .u64 (bits .xor .u64 ((rr 64 p 1 : Nat) : Int) ((rr 64 p 8 : Nat) : Int)) ((p : Int) / 128) = ((sg64 p 1 8 7 : Nat) : Int) := by
  rw [turned.xr64 p 1 8 hp, show ((p : Int) / 128) = ((p / 128 : Nat) : Int) from rfl, u64_xor_nat _ _ (turned.r2_lt64 p 1 8 hp) (by omega)]
  rfl
theorem rsch_b64 (q : Nat) (hq : q < 18446744073709551616) : bits .xor .u64 (bits .xor .u64 ((rr 64 q 19 : Nat) : Int) ((rr 64 q 61 : Nat) : Int)) ((q : Int) / 64) = ((sg64 q 19 61 6 : Nat) : Int) := by
  rw [turned.xr64 q 19 61 hq, show ((q : Int) / 64) = ((q / 64 : Nat) : Int) from rfl, u64_xor_nat _ _ (turned.r2_lt64 q 19 61 hq) (by omega)]
  rfl

set_option maxRecDepth 100000 in
set_option maxHeartbeats 4000000 in
theorem rblock64 (T : Array Value) (K : List Nat) (v : V8) (s : ByteArray) (w : World) (hs : s.size = 128) (hv : v.lt 18446744073709551616) (hK : ∀ i, K.getD i 0 < 18446744073709551616)
    (hT : ∀ i, i < 80 → T[72 + i]? = some (.int .u64 ((K.getD i 0 : Nat) : Int))) (hTs : T.size = 465) :
    Calls Try.prog 51 #[.agg T, .agg (LK .u64 v.l), .string s] w fun e w' => e = .returned (.agg (LK .u64 (bl64 K v s.data.toList).l)) ∧ Below w.heap.size w w' := by
  have HT := Away.mk hT
  have HTs := Away.mk hTs
  have HK := Away.mk hK
  have hf : ∀ i, word 8 s.data.toList i < 18446744073709551616 := word_lt 8 s.data.toList
  have hw : ∀ k : Nat, (woU (List.take 8 (List.drop (8 * k) s.data.toList)) : Int) = ((word 8 s.data.toList k : Nat) : Int) := word_is64 s.data.toList
  obtain ⟨f, Hf⟩ := ex_eq (word 8 s.data.toList)
  rw [Hf.out] at hf hw
  have Hw := Away.mk hw
  have HF := Away.mk hf
  obtain ⟨Y, HY⟩ := ex_eq (LK .u64 (bl64 K v s.data.toList).l)
  rw [HY.out]
  have HYs : Away (Y.size = 8) := ⟨by rw [← HY.out]; rfl⟩
  have HYo : Away (Y.all (·.oneCell') = true) := ⟨by rw [← HY.out]; exact lk_one _ _⟩
  obtain ⟨L, HL⟩ := ex_eq v.l
  rw [HL.out]
  have HLl : Away (L.length = 8) := ⟨by rw [← HL.out]; rfl⟩
  clear hf hT hTs hK hw
  go_enter Try.func51, Try.ntmps51
  go_wp2_with fail
  obtain ⟨w3, Hw3⟩ := ex_eq (((w.alloc (.cells T 33)).alloc (.cells (LK .u64 L) 28)).alloc (.cells #[.int .u64 0, .int .u64 0, .int .u64 0, .int .u64 0, .int .u64 0, .int .u64 0, .int .u64 0, .int .u64 0] 28))
  have z3 : w3.heap.size = w.heap.size + 3 := by rw [← Hw3.out]; simp
  have hb3 : Below w.heap.size w w3 := by rw [← Hw3.out]; exact (((Below.refl _ _).alloc (Nat.le_refl _) _).alloc (by simp) _).alloc (by simp; omega) _
  have g0 : w3.heap[w.heap.size]? = some (.cells T 33 (0, 0)) := by rw [← Hw3.out, heap_past _ _ _ (by simp; omega), heap_past _ _ _ (by simp), heap_at _ _ _ rfl]
  have g1 : w3.heap[w.heap.size + 1]? = some (.cells (LK .u64 L) 28 (0, 0)) := by rw [← Hw3.out, heap_past _ _ _ (by simp), heap_at _ _ _ (by simp)]
  have g2 : w3.heap[w.heap.size + 2]? = some (.cells #[.int .u64 0, .int .u64 0, .int .u64 0, .int .u64 0, .int .u64 0, .int .u64 0, .int .u64 0, .int .u64 0] 28 (0, 0)) := by rw [← Hw3.out, heap_at _ _ _ (by simp)]
  have Z3 := Away.mk z3
  have Hb3 := Away.mk hb3
  have G0 := Away.mk g0
  have G1 := Away.mk g1
  have G2 := Away.mk g2
  rw [Hw3.out]
  clear z3 hb3 g0 g1 g2
  obtain ⟨Z, HZ⟩ := ex_eq Try.zeroCells27
  rw [HZ.out]
  have HZ2 : Away (Z = LK .u64 (sc64 f 0)) := ⟨HZ.out.symm⟩
  clear HZ
  rw [HZ2.out]
  clear HZ2
  rw [show w.heap.size + 1 + 1 + 1 = w3.heap.size from Z3.out.symm]
  go_loopw [19] (fun i wr => ∃ k n : Nat, k ≤ 16 ∧ i = .int .i64 k ∧ wr = (w3.alloc (.cells (LK .u64 (sc64 f k)) 27)).drewN n) (fun i _ => 16 - (intOf i).toNat)
  case atStart => exact ⟨0, 0, by decide, rfl, rfl⟩
  case round =>
    obtain ⟨k, nd, hk, rfl, rfl⟩ := hrel
    by_cases hlt : k < 16
    · have hget := lk_get .u64 (sc64 f k) k (by rw [sc_length64]; omega)
      have hset := lk_setI .u64 (sc64 f k) k (f k) _ (Hw.out k)
      rw [show (sc64 f k).set k (f k) = sc64 f (k + 1) by rw [sc64, if_pos hlt]] at hset
      go_wp2_with fail
      refine (r01.worth_any _ _ (by rw [ByteArray.size_extract]; unfold maxLen; omega)).mono ?_
      rintro e w1 ⟨rfl, rfl⟩
      go_wp2_with fail
      go_roundw
      case rel => exact ⟨k + 1, nd, by omega, by go_num, rfl⟩
      case measure => simp [intOf]; omega
    · obtain rfl : k = 16 := by omega
      clear Hw
      simp only [Int.cast_ofNat_Int]
      go_wp2_with fail
      go_loopw [9] (fun i wr => ∃ k n : Nat, 16 ≤ k ∧ k ≤ 80 ∧ i = .int .i64 k ∧ wr = (w3.alloc (.cells (LK .u64 (sc64 f k)) 27)).drewN n) (fun i _ => 80 - (intOf i).toNat)
      case atStart => exact ⟨16, nd, by decide, by decide, rfl, rfl⟩
      case round =>
        clear nd
        obtain ⟨k, nd, hk16, hk, rfl, rfl⟩ := hrel
        by_cases hlt : k < 80
        · have hl := sc_length64 f k
          have g16 := lk_get .u64 (sc64 f k) (k - 16) (by omega)
          have g15 := lk_get .u64 (sc64 f k) (k - 15) (by omega)
          have g7 := lk_get .u64 (sc64 f k) (k - 7) (by omega)
          have g2 := lk_get .u64 (sc64 f k) (k - 2) (by omega)
          have g0 := lk_get .u64 (sc64 f k) k (by omega)
          have b15 := sc_lt64 f HF.out k (k - 15)
          have b2 := sc_lt64 f HF.out k (k - 2)
          have hwn : (sc64 f k).set k (wn64 (sc64 f k) k) = sc64 f (k + 1) := by rw [sc64, if_neg (by omega)]
          unfold wn64 at hwn
          obtain ⟨w16, h16⟩ : ∃ x, (sc64 f k).getD (k - 16) 0 = x := ⟨_, rfl⟩
          obtain ⟨p, hp⟩ : ∃ x, (sc64 f k).getD (k - 15) 0 = x := ⟨_, rfl⟩
          obtain ⟨w7, h7⟩ : ∃ x, (sc64 f k).getD (k - 7) 0 = x := ⟨_, rfl⟩
          obtain ⟨q, hq⟩ : ∃ x, (sc64 f k).getD (k - 2) 0 = x := ⟨_, rfl⟩
          rw [h16, hp, h7, hq] at hwn
          rw [h16] at g16
          rw [hp] at g15 b15
          rw [h7] at g7
          rw [hq] at g2 b2
          obtain ⟨x16, hx16⟩ : ∃ x, k - 16 = x := ⟨_, rfl⟩
          obtain ⟨x15, hx15⟩ : ∃ x, k - 15 = x := ⟨_, rfl⟩
          obtain ⟨x7, hx7⟩ : ∃ x, k - 7 = x := ⟨_, rfl⟩
          obtain ⟨x2, hx2⟩ : ∃ x, k - 2 = x := ⟨_, rfl⟩
          rw [hx16] at g16
          rw [hx15] at g15
          rw [hx7] at g7
          rw [hx2] at g2
          have wr16 : IntKind.i64.wrap ((k : Int) - 16) = (x16 : Int) := by rw [IntKind.wrap_i64]; omega
          have wr15 : IntKind.i64.wrap ((k : Int) - 15) = (x15 : Int) := by rw [IntKind.wrap_i64]; omega
          have wr7 : IntKind.i64.wrap ((k : Int) - 7) = (x7 : Int) := by rw [IntKind.wrap_i64]; omega
          have wr2 : IntKind.i64.wrap ((k : Int) - 2) = (x2 : Int) := by rw [IntKind.wrap_i64]; omega
          have l16 : (x16 : Int) < 80 := by omega
          have l15 : (x15 : Int) < 80 := by omega
          have l7 : (x7 : Int) < 80 := by omega
          have l2 : (x2 : Int) < 80 := by omega
          have l0 : (k : Int) < 80 := by omega
          have Ha := Away.mk (rsch_a64 p b15)
          have Hbb := Away.mk (rsch_b64 q b2)
          have Hwn := Away.mk hwn
          clear h16 hp h7 hq hwn hl hx16 hx15 hx7 hx2
          go_wp2_with fail
          refine still_all (by kernel_rfl) (by kernel_rfl) ?_
          repeat still_step
          still_call (right64_any p 1 _ b15 (by decide) (by decide))
          repeat still_step
          still_call (right64_any p 8 _ b15 (by decide) (by decide))
          repeat still_step
          refine wpStill_nil ?_
          rw [Ha.out]
          go_wp2_with fail
          refine still_all (by kernel_rfl) (by kernel_rfl) ?_
          repeat still_step
          still_call (right64_any q 19 _ b2 (by decide) (by decide))
          repeat still_step
          still_call (right64_any q 61 _ b2 (by decide) (by decide))
          repeat still_step
          refine wpStill_nil ?_
          rw [Hbb.out]
          have hset : (LK .u64 (sc64 f k)).setIfInBounds k (.int .u64 (IntKind.u64.wrap (IntKind.u64.wrap (IntKind.u64.wrap ((w16 : Int) + ((sg64 p 1 8 7 : Nat) : Int)) + (w7 : Int)) + ((sg64 q 19 61 6 : Nat) : Int)))) = LK .u64 (sc64 f (k + 1)) := by
            rw [lk_setI .u64 (sc64 f k) k ((w16 + sg64 p 1 8 7 + w7 + sg64 q 19 61 6) % 18446744073709551616) _ (by first | omega | (simp only [IntKind.wrap_u64]; omega)), Hwn.out]
          go_wp2_with fail
          refine still_tail 15 (by kernel_rfl) (by kernel_rfl) ?_
          simp only [List.take_succ_cons, List.take_zero, List.drop_succ_cons, List.drop_zero]
          repeat still_step
          refine wpStill_nil ?_
          go_wp2_with fail
          go_roundw
          case rel => exact ⟨k + 1, _, by omega, by omega, by go_num, rfl⟩
          case measure => simp [intOf]; omega
        · obtain rfl : k = 80 := by omega
          simp only [Int.cast_ofNat_Int]
          obtain ⟨W, HW⟩ := ex_eq (sc64 f 80)
          have hW : ∀ i, W.getD i 0 < 18446744073709551616 := by rw [← HW.out]; exact sc_lt64 f HF.out 80
          have hWl : W.length = 80 := by rw [← HW.out]; exact sc_length64 f 80
          rw [HW.out]
          have HWb := Away.mk hW
          have HWl := Away.mk hWl
          obtain ⟨w4, Hw4⟩ : ∃ w4, Away ((w3.alloc (.cells (LK .u64 W) 27)).drewN nd = w4) := ⟨_, ⟨rfl⟩⟩
          have z4 : w4.heap.size = w3.heap.size + 1 := by rw [← Hw4.out]; simp
          have hb4 : Below w3.heap.size w3 w4 := by rw [← Hw4.out]; exact (below_alloc _ _).trans (drewn_below _ _ _)
          have z3 := Z3.out
          have q0 : w4.heap[w.heap.size]? = some (.cells T 33 (0, 0)) := (hb4.block _ (by omega)).trans G0.out
          have q1 : w4.heap[w.heap.size + 1]? = some (.cells (LK .u64 L) 28 (0, 0)) := (hb4.block _ (by omega)).trans G1.out
          have q2 : w4.heap[w.heap.size + 2]? = some (.cells #[.int .u64 0, .int .u64 0, .int .u64 0, .int .u64 0, .int .u64 0, .int .u64 0, .int .u64 0, .int .u64 0] 28 (0, 0)) := (hb4.block _ (by omega)).trans G2.out
          have q3 : w4.heap[w3.heap.size]? = some (.cells (LK .u64 W) 27 (0, 0)) := by rw [← Hw4.out]; exact heap_at _ _ _ rfl
          have Hbw4 : Away (Below w.heap.size w w4) := ⟨Hb3.out.trans (hb4.mono (by omega))⟩
          have Z4 := Away.mk z4
          have Q0 := Away.mk q0
          have Q1 := Away.mk q1
          have Q2 := Away.mk q2
          have Q3 := Away.mk q3
          rw [Hw4.out]
          obtain ⟨pw, Hpw⟩ := ex_eq w3.heap.size
          rw [Hpw.out]
          rw [Hpw.out] at Q3 Z4
          have Zpw : Away (pw = w.heap.size + 3) := ⟨by rw [← Hpw.out]; exact z3⟩
          obtain ⟨va, vb, vc, vd, ve, vf, vg, vh⟩ := v
          obtain ⟨ha, hb, hc, hd, he, hf, hg, hh⟩ := hv
          simp only at ha hb hc hd he hf hg hh
          have Hv : Away (V8.lt 18446744073709551616 ⟨va, vb, vc, vd, ve, vf, vg, vh⟩) := ⟨⟨ha, hb, hc, hd, he, hf, hg, hh⟩⟩
          clear hW hWl z3 z4 hb4 q0 q1 q2 q3 ha hb hc hd he hf hg hh HF Hb3 G0 G1 G2 Z3
          go_wp2_with (first
            | (refine wpList_load_row rfl 28 _ rfl (w.heap.size + 1) rfl 28 _ (0, 0) _ Q1.out Try.underlying28 rfl (by rw [lk_size, HLl.out]; exact z8_64) ?_)
            | (refine wpList_store_new rfl 28 _ _ rfl (LK .u64 L) rfl rfl (by rw [lk_size, HLl.out]; exact z8_64) (by rw [lk_size, HLl.out]; rfl) (lk_one _ _) rfl ?_))
          go_loopw [87] (fun i wr => ∃ (k nd : Nat) (u : V8), k ≤ 80 ∧ i = .int .i64 k ∧ Away (u = st64 K W ⟨va, vb, vc, vd, ve, vf, vg, vh⟩ k) ∧ wr = (w4.alloc (.cells (LK .u64 u.l) 28)).drewN nd) (fun i _ => 80 - (intOf i).toNat)
          case atStart => exact ⟨0, 0, ⟨va, vb, vc, vd, ve, vf, vg, vh⟩, by decide, rfl, ⟨rfl⟩, by rw [HL.out]; rfl⟩
          case round =>
            obtain ⟨k, nd, u, hk, rfl, Hu, rfl⟩ := hrel
            have hu : u.lt 18446744073709551616 := by rw [Hu.out]; exact st_lt64 _ _ _ Hv.out _
            by_cases hlt : k < 80
            · obtain ⟨ua, ub, uc, ud, ue, uf, ug, uh⟩ := u
              obtain ⟨ka, kb, kc, kd, ke, kf, kg, kh⟩ := hu
              simp only at ka kb kc kd ke kf kg kh
              have hzz : w.heap.size ≤ w4.heap.size := by have := Z4.out; have := Zpw.out; omega
              have c1 : ∀ o, (w4.alloc o).cell? ⟨w.heap.size, 72 + k, none⟩ = some (.int .u64 ((K.getD k 0 : Nat) : Int)) := fun o => by
                have h := HT.out k hlt
                rw [(below_alloc w4 o).cell (p := ⟨w.heap.size, 72 + k, none⟩) (lt_of_row Q0.out), cell_of_row w4 _ _ _ _ (0, 0) Q0.out]
                simpa using h
              have c2 : ∀ o, (w4.alloc o).cell? ⟨pw, k, none⟩ = some (.int .u64 ((W.getD k 0 : Nat) : Int)) := fun o => by
                rw [(below_alloc w4 o).cell (p := ⟨pw, k, none⟩) (lt_of_row Q3.out), cell_of_row w4 _ _ _ _ (0, 0) Q3.out]
                exact lk_get _ _ _ (by rw [HWl.out]; exact hlt)
              have bk := HK.out k
              have bw := HWb.out k
              obtain ⟨kk, hkk⟩ : ∃ x, K.getD k 0 = x := ⟨_, rfl⟩
              obtain ⟨ww, hww⟩ : ∃ x, W.getD k 0 = x := ⟨_, rfl⟩
              rw [hkk] at c1 bk
              rw [hww] at c2 bw
              have Hn : Away (rd64 kk ww ⟨ua, ub, uc, ud, ue, uf, ug, uh⟩ = st64 K W ⟨va, vb, vc, vd, ve, vf, vg, vh⟩ (k + 1)) := ⟨by rw [st64, ← Hu.out, hkk, hww]⟩
              rw [show LK .u64 (V8.l ⟨ua, ub, uc, ud, ue, uf, ug, uh⟩) = #[.int .u64 ua, .int .u64 ub, .int .u64 uc, .int .u64 ud, .int .u64 ue, .int .u64 uf, .int .u64 ug, .int .u64 uh] from rfl]
              have l0 : (k : Int) < 80 := by omega
              have Hx := Away.mk (x_val64 ua ub uc ud ue uf ug uh kk ww ke kf kg)
              have Hy := Away.mk (y_val64 ua ub uc ka kb kc)
              have Hs1 := Away.mk (turned.xr64 ue 14 18 ke)
              have Hs2 := Away.mk (turned.xr364 ue 14 18 41 ke)
              have Hs3 := Away.mk (turned.xr64 ua 28 34 ka)
              have Hs4 := Away.mk (turned.xr364 ua 28 34 39 ka)
              clear hkk hww Hu hzz
              go_wp2_with fail
              refine still_all (by kernel_rfl) (by kernel_rfl) ?_
              repeat still_step
              still_call (right64_any ue 14 _ ke (by decide) (by decide))
              repeat still_step
              still_call (right64_any ue 18 _ ke (by decide) (by decide))
              repeat still_step
              still_call (right64_any ue 41 _ ke (by decide) (by decide))
              repeat still_step
              refine wpStill_nil ?_
              rw [Hs1.out, Hs2.out]
              go_wp2_with fail
              refine still_all (by kernel_rfl) (by kernel_rfl) ?_
              repeat still_step
              still_call (right64_any ua 28 _ ka (by decide) (by decide))
              repeat still_step
              still_call (right64_any ua 34 _ ka (by decide) (by decide))
              repeat still_step
              still_call (right64_any ua 39 _ ka (by decide) (by decide))
              repeat still_step
              refine wpStill_nil ?_
              rw [Hs3.out, Hs4.out]
              go_wp2_with fail
              refine still_all (by kernel_rfl) (by kernel_rfl) ?_
              repeat still_step
              refine wpStill_nil ?_
              rw [show (if IntKind.u64.signed = true then (-1 : Int) else IntKind.u64.max) = IntKind.u64.max from rfl, Hx.out]
              obtain ⟨xv, hxv⟩ : ∃ x, xx64 kk ww ⟨ua, ub, uc, ud, ue, uf, ug, uh⟩ = x := ⟨_, rfl⟩
              rw [hxv]
              have Hxv := Away.mk hxv
              clear hxv c1 c2
              go_wp2_with fail
              rw [Hy.out]
              refine ⟨?rel, ?measure⟩
              case rel =>
                refine ⟨k + 1, _, rd64 kk ww ⟨ua, ub, uc, ud, ue, uf, ug, uh⟩, by omega, by go_num, Hn, congrArg (fun c => (w4.alloc (Obj.cells c 28)).drewN _) (arr8 (b := .int .u64 ua) (c := .int .u64 ub) (d := .int .u64 uc) (f := .int .u64 ue) (g := .int .u64 uf) (h := .int .u64 ug) ?_ ?_)⟩
                · show _ = (((xx64 kk ww ⟨ua, ub, uc, ud, ue, uf, ug, uh⟩ + yy64 ⟨ua, ub, uc, ud, ue, uf, ug, uh⟩) % 18446744073709551616 : Nat) : Int)
                  rw [Hxv.out]
                  unfold yy64
                  simp only
                  first | omega | (simp only [IntKind.wrap_u64]; omega)
                · show _ = (((ud + xx64 kk ww ⟨ua, ub, uc, ud, ue, uf, ug, uh⟩) % 18446744073709551616 : Nat) : Int)
                  rw [Hxv.out]
                  first | omega | (simp only [IntKind.wrap_u64]; omega)
              case measure => simp [intOf]; omega
            · obtain rfl : k = 80 := by omega
              simp only [Int.cast_ofNat_Int]
              have hul : ∀ i, u.l.getD i 0 < 18446744073709551616 := hu.get (by decide)
              have hvl : ∀ i, L.getD i 0 < 18446744073709551616 := by rw [← HL.out]; exact Hv.out.get (by decide)
              have HXY : Away (LK .u64 (ad64 ⟨va, vb, vc, vd, ve, vf, vg, vh⟩ u).l = Y) := ⟨by rw [← HY.out, bl64, Hf.out, HW.out, ← Hu.out]⟩
              obtain ⟨M, HM⟩ := ex_eq u.l
              rw [HM.out] at hul
              have HMl : Away (M.length = 8) := ⟨by rw [← HM.out]; rfl⟩
              obtain ⟨X, HX⟩ := ex_eq (ad64 ⟨va, vb, vc, vd, ve, vf, vg, vh⟩ u).l
              have HXl : Away (X.length = 8) := ⟨by rw [← HX.out]; rfl⟩
              have HXg : Away (∀ i, i < 8 → X.getD i 0 = (L.getD i 0 + M.getD i 0) % 18446744073709551616) := ⟨fun i hi => by rw [← HX.out, ad_get64 _ _ i hi, HL.out, HM.out]⟩
              rw [HX.out] at HXY
              rw [HM.out]
              obtain ⟨w5, Hw5⟩ : ∃ w5, Away ((w4.alloc (.cells (LK .u64 M) 28)).drewN nd = w5) := ⟨_, ⟨rfl⟩⟩
              have hb5 : Below w4.heap.size w4 w5 := by rw [← Hw5.out]; exact (below_alloc _ _).trans (drewn_below _ _ _)
              have z5 : w5.heap.size = w4.heap.size + 1 := by rw [← Hw5.out]; simp
              have r3 : w5.heap[w4.heap.size]? = some (.cells (LK .u64 M) 28 (0, 0)) := by rw [← Hw5.out]; exact heap_at _ _ _ rfl
              have z4 := Z4.out
              have zp := Zpw.out
              have r1 : w5.heap[w.heap.size + 1]? = some (.cells (LK .u64 L) 28 (0, 0)) := (hb5.block _ (by omega)).trans Q1.out
              have r2 := (hb5.block (w.heap.size + 2) (by omega)).trans Q2.out
              have R1 := Away.mk r1
              have R2 := Away.mk r2
              have R3 := Away.mk r3
              have Hb5 : Away (Below w.heap.size w w5) := ⟨Hbw4.out.trans (hb5.mono (by omega))⟩
              have Z5 : Away (w.heap.size + 2 < w5.heap.size ∧ w.heap.size + 2 < w4.heap.size ∧ w4.heap.size < w5.heap.size) := ⟨by omega⟩
              rw [Hw5.out]
              clear hb5 z5 r1 r2 r3 z4 zp Q0 Q1 Q2 Q3 Hu hu HX HM HY HL Hf HW HT HK Hw3 Hbw4
              have HUl := Away.mk hul
              have HVl := Away.mk hvl
              clear hul hvl
              go_wp2_with fail
              go_loopw [178] (fun i wr => ∃ k : Nat, k ≤ 8 ∧ i = .int .i64 k ∧ Away (At (w.heap.size + 1) (LK .u64 (mix L X k)) 28 w5 wr)) (fun i _ => 8 - (intOf i).toNat)
              case atStart => exact ⟨0, by decide, rfl, ⟨At.refl R1.out⟩⟩
              case round =>
                obtain ⟨k, hk, rfl, Hx⟩ := hrel
                by_cases hlt : k < 8
                · have b1 := HVl.out k
                  have b2 := HUl.out k
                  have hxk := HXg.out k hlt
                  have h1 : wr.cell? ⟨w.heap.size + 1, k, none⟩ = some (.int .u64 ((L.getD k 0 : Nat) : Int)) := by
                    rw [Hx.out.cell, lk_get _ _ _ (by rw [mix_length L X k HLl.out HXl.out hk]; exact hlt), mix_get L X k HLl.out HXl.out hlt]
                  have h2 : wr.frozen? ⟨w.heap.size + 1, k, none⟩ = false := Hx.out.frozen k
                  have h3 : wr.cell? ⟨w4.heap.size, k, none⟩ = some (.int .u64 ((M.getD k 0 : Nat) : Int)) := by
                    have h5 := Z5.out
                    exact (cell_of_row wr _ k _ _ (0, 0) (Hx.out.other (by omega) (by omega) R3.out)).trans (lk_get _ _ _ (by rw [HMl.out]; exact hlt))
                  have hms := mix_set L X k HLl.out HXl.out hlt
                  rw [hxk] at hms
                  obtain ⟨p, hp⟩ : ∃ x, L.getD k 0 = x := ⟨_, rfl⟩
                  obtain ⟨q, hq⟩ : ∃ x, M.getD k 0 = x := ⟨_, rfl⟩
                  rw [hp] at h1 b1 hms
                  rw [hq] at h3 b2 hms
                  have Hn : Away (At (w.heap.size + 1) (LK .u64 (mix L X (k + 1))) 28 w5 (wr.setCell ⟨w.heap.size + 1, k, none⟩ (.int .u64 (((p : Int) + (q : Int)) % 18446744073709551616)))) := ⟨by
                    have h := at_put Hx.out k (.int .u64 (((p : Int) + (q : Int)) % 18446744073709551616))
                    rw [lk_setI .u64 (mix L X k) k ((p + q) % 18446744073709551616) _ (by omega), hms] at h
                    exact h⟩
                  have l0 : (k : Int) < 8 := by omega
                  clear hxk hp hq hms Hx
                  go_wp2_with fail
                  refine still_tail 8 (by kernel_rfl) (by kernel_rfl) ?_
                  simp only [List.take_succ_cons, List.take_zero, List.drop_succ_cons, List.drop_zero]
                  repeat still_step
                  refine wpStill_nil ?_
                  go_wp2_with fail
                  go_roundw
                  case rel => exact ⟨k + 1, by omega, by go_num, ⟨at_drew Hn.out⟩⟩
                  case measure => simp [intOf]; omega
                · obtain rfl : k = 8 := by omega
                  have hrow := Hx.out.row
                  have hm8 : mix L X 8 = X := by
                    rw [mix, List.take_of_length_le (by rw [HXl.out]; decide), List.drop_eq_nil_of_le (by rw [HLl.out]; decide), List.append_nil]
                  rw [hm8, HXY.out] at hrow
                  have h5 := Z5.out
                  have hrow2 := Hx.out.other (k := w.heap.size + 2) (by omega) (by omega) R2.out
                  have Hrow := Away.mk hrow
                  have Hrow2 := Away.mk hrow2
                  have Hbr : Away (Below w.heap.size w wr) := ⟨Hb5.out.trans (Hx.out.below (by omega) (by omega))⟩
                  clear hrow hrow2 h5 hm8
                  go_wp2_with (first
                    | (refine wpList_load_row rfl 28 _ rfl (w.heap.size + 1) rfl 28 Y (0, 0) _ Hrow.out Try.underlying28 rfl (by rw [HYs.out]; exact z8_64) ?_)
                    | (refine wpList_store_row rfl 28 _ _ rfl (w.heap.size + 1 + 1) Y rfl rfl 28 _ Hrow2.out (by rw [HYs.out]; exact z8_64) (by rw [HYs.out]; rfl) HYo.out ?_))
                  refine bodyPost_ret_by (v := .agg Y) (results_cell_row rfl _ _ (w.heap.size + 1 + 1) 28 _ (0, 0) _ rfl (setRow_heap _ _ _ _ _ _ Hrow2.out) Try.underlying28 rfl (by rw [HYs.out]; exact z8_64)) rfl ?_
                  exact ⟨rfl, Hbr.out.trans (below_setRow _ _ _ (by omega))⟩
end Go.Proofs.Ythfljfampfioaaa.rblk
