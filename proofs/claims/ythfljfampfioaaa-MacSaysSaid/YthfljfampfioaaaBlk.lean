/-
  What sha's smallBlock and largeBlock do: the eight words behind a pointer become those behind the block; all other memory that was there stays as it was. Conditions: the words have their bits, the string has a block's bytes, and the two pointers point to different blocks of memory.
-/
import Derived.Test.YthfljfampfioaaaSh1
import Derived.Test.YthfljfampfioaaaOc
import Derived.StillTailTactics
import Derived.Deep.RegionHeld3
import Derived.BigQuiet
namespace Go.Proofs.Ythfljfampfioaaa.block
open Go.RowKit
open Go.Proofs.Ythfljfampfioaaa.oct Go.Proofs.Ythfljfampfioaaa.mem Go.Proofs.Ythfljfampfioaaa.arr Go.Proofs.Ythfljfampfioaaa.rot Go.Proofs.Ythfljfampfioaaa.sham

theorem still_tail {P : Program} {id : Nat} {Q : Exit → Act → World → Prop} {a : Act} {w : World} {l : List Oper} (n : Nat) (hm : P.follows .mixedOrders = true) (hB : Region.lexTailB .any l.toArray n = true)
    (h : wpStill P l.toArray w.drew (fun a' => wpList P l.toArray Q (l.drop n) a' w.drew) (l.take n) a) : (Code.region id l.toArray true).wp P Q a w := wp_region_still_tail n hm hB h

theorem word_is32 (l : List UInt8) (k : Nat) : (woU (List.take 4 (List.drop (4 * k) l)) : Int) % 4294967296 = ((word 4 l k : Nat) : Int) := by
  have h := word_lt 4 l k
  have e : woU (List.take 4 (List.drop (4 * k) l)) = word 4 l k := by
    unfold woU word at *
    exact Nat.mod_eq_of_lt (Nat.lt_of_lt_of_le h (by decide))
  rw [e]; omega
theorem sch_val32 (w16 w7 p q : Nat) (hp : p < 4294967296) (hq : q < 4294967296) :
    (((w16 : Int) + bits .xor .u32 ((rot.r2 32 p 7 18 : Nat) : Int) ((p : Int) / 8) + (w7 : Int) + bits .xor .u32 ((rot.r2 32 q 17 19 : Nat) : Int) ((q : Int) / 1024)) % 4294967296 : Int)
      = (((w16 + sg32 p 7 18 3 + w7 + sg32 q 17 19 10) % 4294967296 : Nat) : Int) := by
  have e1 : bits .xor .u32 ((rot.r2 32 p 7 18 : Nat) : Int) ((p : Int) / 8) = ((sg32 p 7 18 3 : Nat) : Int) := by
    rw [show ((p : Int) / 8) = ((p / 8 : Nat) : Int) from rfl, u32_xor_nat _ _ (turned.r2_lt32 p 7 18 hp) (by omega)]
    rfl
  have e2 : bits .xor .u32 ((rot.r2 32 q 17 19 : Nat) : Int) ((q : Int) / 1024) = ((sg32 q 17 19 10 : Nat) : Int) := by
    rw [show ((q : Int) / 1024) = ((q / 1024 : Nat) : Int) from rfl, u32_xor_nat _ _ (turned.r2_lt32 q 17 19 hq) (by omega)]
    rfl
  rw [e1, e2]
  first | omega | (simp only [IntKind.wrap_u32]; omega)

theorem not32 (e : Nat) (h : e < 4294967296) : bits .xor .u32 IntKind.u32.max (e : Int) = ((4294967295 - e : Nat) : Int) := by
  have h1 := u32_xor_nat 4294967295 e (by decide) h
  have h2 : (4294967295 ^^^ e : Nat) = 4294967295 - e := by
    have h0 : e < 2 ^ 32 := h
    apply Nat.eq_of_testBit_eq
    intro i
    rw [Nat.testBit_xor, show (4294967295 : Nat) = 2 ^ 32 - 1 from rfl, Nat.testBit_two_pow_sub_one, show 2 ^ 32 - 1 - e = 2 ^ 32 - (e + 1) by omega, Nat.testBit_two_pow_sub_succ h0]
    by_cases hi : i < 32
    · simp [hi]
    · rw [Nat.testBit_lt_two_pow (Nat.lt_of_lt_of_le h0 (Nat.pow_le_pow_right (by decide) (by omega)))]
      simp [hi]
  rw [show (IntKind.u32.max : Int) = ((4294967295 : Nat) : Int) from rfl, h1, h2]
theorem x_val32 (a b c d e f g h kk ww : Nat) (he : e < 4294967296) (hf : f < 4294967296) (hg : g < 4294967296) :
    IntKind.u32.wrap (IntKind.u32.wrap (IntKind.u32.wrap (IntKind.u32.wrap ((h : Int) + ((rot.r3 32 e 6 11 25 : Nat) : Int)) + bits .xor .u32 (bits .and .u32 (e : Int) (f : Int)) (bits .and .u32 (bits .xor .u32 IntKind.u32.max (e : Int)) (g : Int))) + (kk : Int)) + (ww : Int))
      = ((xx32 kk ww ⟨a, b, c, d, e, f, g, h⟩ : Nat) : Int) := by
  rw [not32 e he, u32_and_nat e f he hf, u32_and_nat (4294967295 - e) g (by omega) hg, u32_xor_nat _ _ (Nat.and_lt_two_pow (n := 32) _ hf) (Nat.and_lt_two_pow (n := 32) _ hg)]
  have e3 : (e &&& f ^^^ (4294967295 - e) &&& g : Nat) = ch32 e f g := rfl
  rw [e3]
  simp only [IntKind.wrap_u32]
  unfold xx32
  simp only
  omega
theorem y_val32 (a b c : Nat) (ha : a < 4294967296) (hb : b < 4294967296) (hc : c < 4294967296) :
    bits .xor .u32 (bits .xor .u32 (bits .and .u32 (a : Int) (b : Int)) (bits .and .u32 (a : Int) (c : Int))) (bits .and .u32 (b : Int) (c : Int)) = ((mj32 a b c : Nat) : Int) := by
  rw [u32_and_nat a b ha hb, u32_and_nat a c ha hc, u32_and_nat b c hb hc, u32_xor_nat _ _ (Nat.and_lt_two_pow (n := 32) _ hb) (Nat.and_lt_two_pow (n := 32) _ hc), u32_xor_nat _ _ (Nat.xor_lt_two_pow (n := 32) (Nat.and_lt_two_pow _ hb) (Nat.and_lt_two_pow _ hc)) (Nat.and_lt_two_pow (n := 32) _ hc)]
  rfl

set_option maxRecDepth 100000 in
set_option maxHeartbeats 4000000 in
theorem block32 (gt gv : Nat) (K : List Nat) (v : V8) (s : ByteArray) (w : World) (hs : s.size = 64) (hv : v.lt 4294967296) (hK : ∀ i, K.getD i 0 < 4294967296)
    (hT : ∀ i, i < 64 → w.cell? ⟨gt, 0 + i, none⟩ = some (.int .u32 ((K.getD i 0 : Nat) : Int)))
    (hV : ∀ i, i < 8 → w.cell? ⟨gv, 1 + i, none⟩ = some (.int .u32 ((v.l.getD i 0 : Nat) : Int)) ∧ w.frozen? ⟨gv, 1 + i, none⟩ = false)
    (hgt : gt < w.heap.size) (hgv : gv < w.heap.size) :
    Calls Try.prog 71 #[.pointer (some ⟨gt, 0, none⟩), .pointer (some ⟨gv, 1, none⟩), .string s] w fun e w' => e = .returned (.tuple #[]) ∧ Below w.heap.size (w.setCells gv 1 (LK .u32 (bl32 K v s.data.toList).l).toList) w' := by
  have Hs := Away.mk hs
  have HT := Away.mk hT
  have HV := Away.mk hV
  have hf : ∀ i, word 4 s.data.toList i < 4294967296 := word_lt 4 s.data.toList
  have HK := Away.mk hK
  have hw : ∀ k : Nat, (woU (List.take 4 (List.drop (4 * k) s.data.toList)) : Int) % 4294967296 = ((word 4 s.data.toList k : Nat) : Int) := word_is32 s.data.toList
  obtain ⟨f, Hf⟩ := ex_eq (word 4 s.data.toList)
  rw [Hf.out] at hf hw
  have Hw := Away.mk hw
  clear hw
  have HF := Away.mk hf
  clear hf hT hV hK
  obtain ⟨Y, HY⟩ := ex_eq (w.setCells gv 1 (LK .u32 (bl32 K v s.data.toList).l).toList)
  rw [HY.out]
  go_enter Try.func71, Try.ntmps71
  go_wp2_with fail
  obtain ⟨Z, HZ⟩ := ex_eq (#[.int .u32 0, .int .u32 0, .int .u32 0, .int .u32 0, .int .u32 0, .int .u32 0, .int .u32 0, .int .u32 0, .int .u32 0, .int .u32 0, .int .u32 0, .int .u32 0, .int .u32 0, .int .u32 0, .int .u32 0, .int .u32 0, .int .u32 0, .int .u32 0, .int .u32 0, .int .u32 0, .int .u32 0, .int .u32 0, .int .u32 0, .int .u32 0, .int .u32 0, .int .u32 0, .int .u32 0, .int .u32 0, .int .u32 0, .int .u32 0, .int .u32 0, .int .u32 0, .int .u32 0, .int .u32 0, .int .u32 0, .int .u32 0, .int .u32 0, .int .u32 0, .int .u32 0, .int .u32 0, .int .u32 0, .int .u32 0, .int .u32 0, .int .u32 0, .int .u32 0, .int .u32 0, .int .u32 0, .int .u32 0, .int .u32 0, .int .u32 0, .int .u32 0, .int .u32 0, .int .u32 0, .int .u32 0, .int .u32 0, .int .u32 0, .int .u32 0, .int .u32 0, .int .u32 0, .int .u32 0, .int .u32 0, .int .u32 0, .int .u32 0, .int .u32 0] : Array Value)
  rw [HZ.out]
  have HZ2 : Away (Z = LK .u32 (sc32 f 0)) := ⟨HZ.out.symm⟩
  clear HZ
  rw [HZ2.out]
  clear HZ2
  go_loopw [24] (fun i wr => ∃ k : Nat, k ≤ 16 ∧ i = .int .i64 k ∧ wr = w.alloc (.cells (LK .u32 (sc32 f k)) 24)) (fun i _ => 16 - (intOf i).toNat)
  case atStart => exact ⟨0, by decide, rfl, rfl⟩
  case round =>
    obtain ⟨k, hk, rfl, rfl⟩ := hrel
    by_cases hlt : k < 16
    · have hget := lk_get .u32 (sc32 f k) k (by rw [sc_length32]; omega)
      have hset := lk_setI .u32 (sc32 f k) k (f k) _ (Hw.out k)
      rw [show (sc32 f k).set k (f k) = sc32 f (k + 1) by rw [sc32, if_pos hlt]] at hset
      go_wp2_with fail
      refine (worth.worth_any _ _ (by rw [ByteArray.size_extract]; unfold maxLen; omega)).mono ?_
      rintro e w1 ⟨rfl, rfl⟩
      go_wp2_with fail
      go_roundw
      case rel => exact ⟨k + 1, by omega, by go_num, rfl⟩
      case measure => simp [intOf]; omega
    · obtain rfl : k = 16 := by omega
      clear Hw
      simp only [Int.cast_ofNat_Int]
      go_wp2_with fail
      go_loopw [8] (fun i wr => ∃ k n : Nat, 16 ≤ k ∧ k ≤ 64 ∧ i = .int .i64 k ∧ wr = (w.alloc (.cells (LK .u32 (sc32 f k)) 24)).drewN n) (fun i _ => 64 - (intOf i).toNat)
      case atStart => exact ⟨16, 0, by decide, by decide, rfl, rfl⟩
      case round =>
        obtain ⟨k, nd, hk16, hk, rfl, rfl⟩ := hrel
        by_cases hlt : k < 64
        · have hl := sc_length32 f k
          have g16 := lk_get .u32 (sc32 f k) (k - 16) (by omega)
          have g15 := lk_get .u32 (sc32 f k) (k - 15) (by omega)
          have g7 := lk_get .u32 (sc32 f k) (k - 7) (by omega)
          have g2 := lk_get .u32 (sc32 f k) (k - 2) (by omega)
          have g0 := lk_get .u32 (sc32 f k) k (by omega)
          have b15 := sc_lt32 f HF.out k (k - 15)
          have b2 := sc_lt32 f HF.out k (k - 2)
          have hwn : (sc32 f k).set k (wn32 (sc32 f k) k) = sc32 f (k + 1) := by rw [sc32, if_neg (by omega)]
          unfold wn32 at hwn
          obtain ⟨w16, h16⟩ : ∃ x, (sc32 f k).getD (k - 16) 0 = x := ⟨_, rfl⟩
          obtain ⟨p, hp⟩ : ∃ x, (sc32 f k).getD (k - 15) 0 = x := ⟨_, rfl⟩
          obtain ⟨w7, h7⟩ : ∃ x, (sc32 f k).getD (k - 7) 0 = x := ⟨_, rfl⟩
          obtain ⟨q, hq⟩ : ∃ x, (sc32 f k).getD (k - 2) 0 = x := ⟨_, rfl⟩
          rw [h16, hp, h7, hq] at hwn
          rw [h16] at g16
          rw [hp] at g15 b15
          rw [h7] at g7
          rw [hq] at g2 b2
          have hset := lk_setI .u32 (sc32 f k) k _ _ (sch_val32 w16 w7 p q b15 b2)
          rw [hwn] at hset
          have e16 : ((k : Int) - 16).toNat = k - 16 := by omega
          have e15 : ((k : Int) - 15).toNat = k - 15 := by omega
          have e7 : ((k : Int) - 7).toNat = k - 7 := by omega
          have e2 : ((k : Int) - 2).toNat = k - 2 := by omega
          have i16 : (0 : Int) ≤ (k : Int) - 16 ∧ (k : Int) - 16 < 64 := by omega
          have i15 : (0 : Int) ≤ (k : Int) - 15 ∧ (k : Int) - 15 < 64 := by omega
          have i7 : (0 : Int) ≤ (k : Int) - 7 ∧ (k : Int) - 7 < 64 := by omega
          have i2 : (0 : Int) ≤ (k : Int) - 2 ∧ (k : Int) - 2 < 64 := by omega
          clear h16 hp h7 hq hwn hl
          go_wp2_with fail
          go_quiet (fail)
          go_wp2_with fail
          clear e16 e15 e7 e2 i16 i15 i7 i2 g15 g2
          obtain ⟨x16, hx16⟩ : ∃ x, k - 16 = x := ⟨_, rfl⟩
          obtain ⟨x7, hx7⟩ : ∃ x, k - 7 = x := ⟨_, rfl⟩
          rw [hx16] at g16
          rw [hx7] at g7
          have wr16 : IntKind.i64.wrap ((k : Int) - 16) = (x16 : Int) := by rw [IntKind.wrap_i64]; omega
          have wr7 : IntKind.i64.wrap ((k : Int) - 7) = (x7 : Int) := by rw [IntKind.wrap_i64]; omega
          have l16 : (x16 : Int) < 64 := by omega
          have l7 : (x7 : Int) < 64 := by omega
          have l0 : (k : Int) < 64 := by omega
          refine still_tail 23 (by kernel_rfl) (by kernel_rfl) ?_
          simp only [List.take_succ_cons, List.take_zero, List.drop_succ_cons, List.drop_zero]
          repeat still_step
          still_call (turned.two32 p 7 18 _ b15 (by decide) (by decide) (by decide) (by decide))
          repeat still_step
          still_call (turned.two32 q 17 19 _ b2 (by decide) (by decide) (by decide) (by decide))
          repeat still_step
          refine wpStill_nil ?_
          go_wp2_with fail
          go_roundw
          case rel => exact ⟨k + 1, _, by omega, by omega, by go_num, rfl⟩
          case measure => simp [intOf]; omega
        · obtain rfl : k = 64 := by omega
          simp only [Int.cast_ofNat_Int]
          go_wp2_with fail
          obtain ⟨W, HW⟩ := ex_eq (sc32 f 64)
          have hW : ∀ i, W.getD i 0 < 4294967296 := by rw [← HW.out]; exact sc_lt32 f HF.out 64
          have hWl : W.length = 64 := by rw [← HW.out]; exact sc_length32 f 64
          rw [HW.out]
          obtain ⟨va, vb, vc, vd, ve, vf, vg, vh⟩ := v
          obtain ⟨ha, hb, hc, hd, he, hf, hg, hh⟩ := hv
          simp only at ha hb hc hd he hf hg hh
          obtain ⟨w2, Hw2⟩ : ∃ w2, Away (w2 = (w.alloc (.cells (LK .u32 W) 24)).drewN nd) := ⟨_, ⟨rfl⟩⟩
          have hw2s : w2.heap.size = w.heap.size + 1 := by rw [Hw2.out]; simp
          have hb2 : Below w.heap.size w w2 := by rw [Hw2.out]; exact ((Below.refl _ _).alloc (Nat.le_refl _) _).trans (drewn_below _ _ _)
          have hg2 : w2.heap[w.heap.size]? = some (.cells (LK .u32 W) 24 (0, 0)) := by rw [Hw2.out]; exact heap_at _ _ _ rfl
          have cv : ∀ i x, i < 8 → V8.l ⟨va, vb, vc, vd, ve, vf, vg, vh⟩ = x → w2.cell? ⟨gv, 1 + i, none⟩ = some (.int .u32 ((x.getD i 0 : Nat) : Int)) := fun i x hi hx => by
            rw [hb2.cell (p := ⟨gv, 1 + i, none⟩) hgv, (HV.out i hi).1, hx]
          have cv0 := cv 0 _ (by decide) rfl
          have cv1 := cv 1 _ (by decide) rfl
          have cv2 := cv 2 _ (by decide) rfl
          have cv3 := cv 3 _ (by decide) rfl
          have cv4 := cv 4 _ (by decide) rfl
          have cv5 := cv 5 _ (by decide) rfl
          have cv6 := cv 6 _ (by decide) rfl
          have cv7 := cv 7 _ (by decide) rfl
          simp only [V8.l, List.getD_cons_zero, List.getD_cons_succ, Nat.reduceAdd] at cv0 cv1 cv2 cv3 cv4 cv5 cv6 cv7
          rw [← Hw2.out]
          clear cv
          go_quiet (fail)
          have HW2 := Away.mk hw2s
          have Hb2 := Away.mk hb2
          have Hg2 := Away.mk hg2
          clear cv0 cv1 cv2 cv3 cv4 cv5 cv6 cv7 hw2s hb2 hg2
          go_wp2_with fail
          go_loopw [11, 12, 13, 14, 15, 16, 17, 18, 106] (fun a b c d e f g h i wr => ∃ (k : Nat) (u : V8), k ≤ 64 ∧ i = .int .i64 k ∧ a = .int .u32 u.a ∧ b = .int .u32 u.b ∧ c = .int .u32 u.c ∧ d = .int .u32 u.d ∧ e = .int .u32 u.e ∧ f = .int .u32 u.f ∧ g = .int .u32 u.g ∧ h = .int .u32 u.h ∧ Away (u = st32 K W ⟨va, vb, vc, vd, ve, vf, vg, vh⟩ k) ∧ Away (Below w2.heap.size w2 wr)) (fun _ _ _ _ _ _ _ _ i _ => 64 - (intOf i).toNat)
          case atStart => exact ⟨0, ⟨va, vb, vc, vd, ve, vf, vg, vh⟩, by decide, rfl, rfl, rfl, rfl, rfl, rfl, rfl, rfl, rfl, ⟨rfl⟩, ⟨drewn_below _ _ _⟩⟩
          case round =>
            obtain ⟨k, u, hk, rfl, rfl, rfl, rfl, rfl, rfl, rfl, rfl, rfl, Hu, Hb⟩ := hrel
            have hu : u.lt 4294967296 := by rw [Hu.out]; exact st_lt32 _ _ _ ⟨ha, hb, hc, hd, he, hf, hg, hh⟩ _
            by_cases hlt : k < 64
            · obtain ⟨ua, ub, uc, ud, ue, uf, ug, uh⟩ := u
              obtain ⟨ka, kb, kc, kd, ke, kf, kg, kh⟩ := hu
              simp only at ka kb kc kd ke kf kg kh
              have z2 := HW2.out
              have c1 : wr.cell? ⟨gt, k, none⟩ = some (.int .u32 ((K.getD k 0 : Nat) : Int)) := by
                have h := HT.out k hlt
                rw [Hb.out.cell (p := ⟨gt, k, none⟩) (by show gt < _; omega), Hb2.out.cell (p := ⟨gt, k, none⟩) hgt]
                simpa using h
              have c2 : wr.cell? ⟨w.heap.size, k, none⟩ = some (.int .u32 ((W.getD k 0 : Nat) : Int)) := by
                rw [Hb.out.cell (p := ⟨w.heap.size, k, none⟩) (by show w.heap.size < _; omega)]
                exact cell_at Hg2.out (lk_get _ _ _ (by omega))
              have bk := HK.out k
              have bw := hW k
              obtain ⟨kk, hkk⟩ : ∃ x, K.getD k 0 = x := ⟨_, rfl⟩
              obtain ⟨ww, hww⟩ : ∃ x, W.getD k 0 = x := ⟨_, rfl⟩
              rw [hkk] at c1 bk
              rw [hww] at c2 bw
              have l0 : (k : Int) < 64 := by omega
              have hsz := Hb.out.size
              have d1 : ∀ o, (wr.alloc o).cell? ⟨gt, k, none⟩ = some (.int .u32 (kk : Int)) := fun o => by
                rw [(below_alloc wr o).cell (p := ⟨gt, k, none⟩) (by show gt < _; omega)]; exact c1
              have d2 : ∀ o, (wr.alloc o).cell? ⟨w.heap.size, k, none⟩ = some (.int .u32 (ww : Int)) := fun o => by
                rw [(below_alloc wr o).cell (p := ⟨w.heap.size, k, none⟩) (by show w.heap.size < _; omega)]; exact c2
              clear hsz z2
              go_wp2_with fail
              go_region_held3 (fun w' : World => w'.cell? ⟨gt, k, none⟩ = some (.int .u32 (kk : Int)) ∧ w'.cell? ⟨w.heap.size, k, none⟩ = some (.int .u32 (ww : Int))) (first | exact ⟨c1, c2⟩ | exact ⟨d1 _, d2 _⟩ | assumption) (first | (go_at_call 79; refine Calls.mono (turned.three32 ue 6 11 25 wr.heap.size _ ?hc ke (by decide) (by decide) (by decide) (by decide) (by decide) (by decide)) ?_; (case hc => exact new1 wr _ _); rintro e w1 ⟨rfl, rfl⟩))
              clear c1 c2 d1 d2
              rw [x_val32 ua ub uc ud ue uf ug uh kk ww ke kf kg]
              obtain ⟨xv, hxv⟩ : ∃ x, xx32 kk ww ⟨ua, ub, uc, ud, ue, uf, ug, uh⟩ = x := ⟨_, rfl⟩
              have Hy := Away.mk (y_val32 ua ub uc ka kb kc)
              rw [hxv]
              go_wp2_with (first | (go_at_call 79; refine Calls.mono (turned.three32 ua 2 13 22 (wr.heap.size + 1) _ ?hc ka (by decide) (by decide) (by decide) (by decide) (by decide) (by decide)) ?_; (case hc => exact cell_at (heap_at _ _ _ (by simp)) rfl); rintro e w1 ⟨rfl, rfl⟩))
              rw [Hy.out]
              have Hn : Away (rd32 kk ww ⟨ua, ub, uc, ud, ue, uf, ug, uh⟩ = st32 K W ⟨va, vb, vc, vd, ve, vf, vg, vh⟩ (k + 1)) := ⟨by rw [st32, ← Hu.out, hkk, hww]⟩
              have Hbn : Away (Below w2.heap.size w2 ((wr.alloc (.cells #[.int .i64 25] 3)).alloc (.cells #[.int .i64 22] 3)).drew) := ⟨((Hb.out.alloc Hb.out.size _).alloc (by have := Hb.out.size; simp; omega) _).drew⟩
              have Hxv := Away.mk hxv
              clear hxv Hy
              refine ⟨⟨k + 1, rd32 kk ww ⟨ua, ub, uc, ud, ue, uf, ug, uh⟩, by omega, by go_num, val_int ?_, rfl, rfl, rfl, val_int ?_, rfl, rfl, rfl, Hn, Hbn⟩, by simp [intOf]; omega⟩
              · show _ = (((xx32 kk ww ⟨ua, ub, uc, ud, ue, uf, ug, uh⟩ + yy32 ⟨ua, ub, uc, ud, ue, uf, ug, uh⟩) % 4294967296 : Nat) : Int)
                rw [Hxv.out]
                unfold yy32
                simp only
                first | omega | (simp only [IntKind.wrap_u32]; omega)
              · show _ = (((ud + xx32 kk ww ⟨ua, ub, uc, ud, ue, uf, ug, uh⟩) % 4294967296 : Nat) : Int)
                rw [Hxv.out]
                first | omega | (simp only [IntKind.wrap_u32]; omega)
            · obtain rfl : k = 64 := by omega
              simp only [Int.cast_ofNat_Int]
              go_wp2_with fail
              have z2 := HW2.out
              have Hbw : Away (Below w.heap.size w wr) := ⟨Hb2.out.trans (Hb.out.mono (by omega))⟩
              clear z2 HW2 Hg2
              obtain ⟨U, HU⟩ := ex_eq u
              have hul : ∀ i, u.l.getD i 0 < 4294967296 := hu.get (by decide)
              obtain ⟨L, HL⟩ := ex_eq u.l
              rw [HL.out] at hul
              have HLl : Away (L.length = 8) := ⟨by rw [← HL.out]; rfl⟩
              have e9 : (#[.int .u32 u.a, .int .u32 u.b, .int .u32 u.c, .int .u32 u.d, .int .u32 u.e, .int .u32 u.f, .int .u32 u.g, .int .u32 u.h] : Array Value) = LK .u32 L := by rw [← HL.out]; rfl
              rw [e9]
              clear e9
              obtain ⟨V, HV2⟩ := ex_eq (V8.l ⟨va, vb, vc, vd, ve, vf, vg, vh⟩)
              have hvl : ∀ i, V.getD i 0 < 4294967296 := by rw [← HV2.out]; exact V8.lt.get ⟨ha, hb, hc, hd, he, hf, hg, hh⟩ (by decide)
              have Hc : Away (∀ i, i < 8 → w.cell? ⟨gv, 1 + i, none⟩ = some (.int .u32 ((V.getD i 0 : Nat) : Int)) ∧ w.frozen? ⟨gv, 1 + i, none⟩ = false) := ⟨by rw [← HV2.out]; exact HV.out⟩
              have Hres : Away (bl32 K ⟨va, vb, vc, vd, ve, vf, vg, vh⟩ s.data.toList = ad32 ⟨va, vb, vc, vd, ve, vf, vg, vh⟩ u) := ⟨by unfold bl32; rw [Hf.out, HW.out, ← Hu.out]⟩
              obtain ⟨X, HX⟩ := ex_eq (LK .u32 (ad32 ⟨va, vb, vc, vd, ve, vf, vg, vh⟩ u).l).toList
              have HXl : Away (X.length = 8) := ⟨by rw [← HX.out]; rfl⟩
              have HXg : Away (∀ i, i < 8 → X[i]? = some (.int .u32 (((V.getD i 0 + L.getD i 0) % 4294967296 : Nat) : Int))) := ⟨fun i hi => by
                rw [← HX.out, ← HV2.out, ← HL.out, ← ad_get32 _ _ i hi, Array.getElem?_toList]
                exact lk_get _ _ _ hi⟩
              have HXY : Away (w.setCells gv 1 X = Y) := ⟨by rw [← HX.out, ← HY.out, Hres.out]⟩
              clear HY Hres HX HV Hu Hb Hf HF HT HK Hb2 HW hW hWl ha hb hc hd he hf hg hh hu HU U
              go_loopw [170] (fun i wx => ∃ k : Nat, k ≤ 8 ∧ i = .int .i64 k ∧ Away (Below w.heap.size (w.setCells gv 1 (X.take k)) wx)) (fun i _ => 8 - (intOf i).toNat)
              case atStart => exact ⟨0, by decide, rfl, Hbw⟩
              case round =>
                obtain ⟨k, hk, rfl, Hx⟩ := hrel
                by_cases hlt : k < 8
                · have hag : ∀ w : World, (Instr.index 25 (.agg (LK .u32 L)) (.int .i64 (k : Int))).run Try.prog w = .ok (.int .u32 ((L.getD k 0 : Nat) : Int)) w := idx.index32 L k HLl.out hlt
                  obtain ⟨h1, h2⟩ := Hc.out k hlt
                  have b1 := hvl k
                  have b2 := hul k
                  have hxk := HXg.out k hlt
                  obtain ⟨p, hp⟩ : ∃ x, V.getD k 0 = x := ⟨_, rfl⟩
                  obtain ⟨q, hq⟩ : ∃ x, L.getD k 0 = x := ⟨_, rfl⟩
                  rw [hp] at h1 b1 hxk
                  rw [hq] at hag b2 hxk
                  have hc : wr.cell? ⟨gv, 1 + k, none⟩ = some (.int .u32 (p : Int)) := by
                    rw [Hx.out.cell (p := ⟨gv, 1 + k, none⟩) hgv, World.cell?_setCells_out gv _ _ _ _ (fun _ _ => Or.inr (by rw [List.length_take]; show 1 + min k _ ≤ 1 + k; omega))]
                    exact h1
                  have hz : wr.frozen? ⟨gv, 1 + k, none⟩ = false := by
                    rw [Hx.out.frozen (p := ⟨gv, 1 + k, none⟩) hgv, World.frozen?_setCells]; exact h2
                  have Hn : Away (Below w.heap.size (w.setCells gv 1 (X.take (k + 1))) (wr.setCell ⟨gv, 1 + k, none⟩ (.int .u32 (((p : Int) + (q : Int)) % 4294967296)))) := ⟨by
                    have hkx : k < X.length := by rw [HXl.out]; exact hlt
                    rw [List.take_add_one, hxk, show (some (Value.int .u32 (((p + q) % 4294967296 : Nat) : Int))).toList = [.int .u32 (((p + q) % 4294967296 : Nat) : Int)] from rfl, setCells_snoc, List.length_take, Nat.min_eq_left (by omega), show (((p + q) % 4294967296 : Nat) : Int) = ((p : Int) + (q : Int)) % 4294967296 by omega]
                    exact setBoth Hx.out _ _⟩
                  have l0 : (k : Int) < 8 := by omega
                  clear h1 h2 hxk hp hq Hx
                  go_wp2_with fail
                  go_region
                  go_wp2_with fail
                  go_roundw
                  case rel => exact ⟨k + 1, by omega, by go_num, ⟨Hn.out.drew⟩⟩
                  case measure => simp [intOf]; omega
                · obtain rfl : k = 8 := by omega
                  go_wp2_with fail
                  refine bodyPost_end (v := .tuple #[]) (results_none rfl _ _ _) rfl ?_
                  have hfin := Hx.out
                  rw [List.take_of_length_le (by rw [HXl.out]; decide), HXY.out] at hfin
                  exact ⟨rfl, hfin⟩

theorem word_is64 (l : List UInt8) (k : Nat) : (woU (List.take 8 (List.drop (8 * k) l)) : Int) = ((word 8 l k : Nat) : Int) := by
  have h := word_lt 8 l k
  have e : woU (List.take 8 (List.drop (8 * k) l)) = word 8 l k := by
    unfold woU word at *
    exact Nat.mod_eq_of_lt (Nat.lt_of_lt_of_le h (by decide))
  rw [e]
theorem sch_val64 (w16 w7 p q : Nat) (hp : p < 18446744073709551616) (hq : q < 18446744073709551616) :
    (IntKind.u64.wrap (IntKind.u64.wrap (IntKind.u64.wrap ((w16 : Int) + bits .xor .u64 ((rot.r2 64 p 1 8 : Nat) : Int) ((p : Int) / 128)) + (w7 : Int)) + bits .xor .u64 ((rot.r2 64 q 19 61 : Nat) : Int) ((q : Int) / 64)) : Int)
      = (((w16 + sg64 p 1 8 7 + w7 + sg64 q 19 61 6) % 18446744073709551616 : Nat) : Int) := by
  have e1 : bits .xor .u64 ((rot.r2 64 p 1 8 : Nat) : Int) ((p : Int) / 128) = ((sg64 p 1 8 7 : Nat) : Int) := by
    rw [show ((p : Int) / 128) = ((p / 128 : Nat) : Int) from rfl, u64_xor_nat _ _ (turned.r2_lt64 p 1 8 hp) (by omega)]
    rfl
  have e2 : bits .xor .u64 ((rot.r2 64 q 19 61 : Nat) : Int) ((q : Int) / 64) = ((sg64 q 19 61 6 : Nat) : Int) := by
    rw [show ((q : Int) / 64) = ((q / 64 : Nat) : Int) from rfl, u64_xor_nat _ _ (turned.r2_lt64 q 19 61 hq) (by omega)]
    rfl
  rw [e1, e2]
  first | omega | (simp only [IntKind.wrap_u64]; omega)

theorem not64 (e : Nat) (h : e < 18446744073709551616) : bits .xor .u64 IntKind.u64.max (e : Int) = ((18446744073709551615 - e : Nat) : Int) := by
  have h1 := u64_xor_nat 18446744073709551615 e (by decide) h
  have h2 : (18446744073709551615 ^^^ e : Nat) = 18446744073709551615 - e := by
    have h0 : e < 2 ^ 64 := h
    apply Nat.eq_of_testBit_eq
    intro i
    rw [Nat.testBit_xor, show (18446744073709551615 : Nat) = 2 ^ 64 - 1 from rfl, Nat.testBit_two_pow_sub_one, show 2 ^ 64 - 1 - e = 2 ^ 64 - (e + 1) by omega, Nat.testBit_two_pow_sub_succ h0]
    by_cases hi : i < 64
    · simp [hi]
    · rw [Nat.testBit_lt_two_pow (Nat.lt_of_lt_of_le h0 (Nat.pow_le_pow_right (by decide) (by omega)))]
      simp [hi]
  rw [show (IntKind.u64.max : Int) = ((18446744073709551615 : Nat) : Int) from rfl, h1, h2]
theorem x_val64 (a b c d e f g h kk ww : Nat) (he : e < 18446744073709551616) (hf : f < 18446744073709551616) (hg : g < 18446744073709551616) :
    IntKind.u64.wrap (IntKind.u64.wrap (IntKind.u64.wrap (IntKind.u64.wrap ((h : Int) + ((rot.r3 64 e 14 18 41 : Nat) : Int)) + bits .xor .u64 (bits .and .u64 (e : Int) (f : Int)) (bits .and .u64 (bits .xor .u64 IntKind.u64.max (e : Int)) (g : Int))) + (kk : Int)) + (ww : Int))
      = ((xx64 kk ww ⟨a, b, c, d, e, f, g, h⟩ : Nat) : Int) := by
  rw [not64 e he, u64_and_nat e f he hf, u64_and_nat (18446744073709551615 - e) g (by omega) hg, u64_xor_nat _ _ (Nat.and_lt_two_pow (n := 64) _ hf) (Nat.and_lt_two_pow (n := 64) _ hg)]
  have e3 : (e &&& f ^^^ (18446744073709551615 - e) &&& g : Nat) = ch64 e f g := rfl
  rw [e3]
  simp only [IntKind.wrap_u64]
  unfold xx64
  simp only
  omega
theorem y_val64 (a b c : Nat) (ha : a < 18446744073709551616) (hb : b < 18446744073709551616) (hc : c < 18446744073709551616) :
    bits .xor .u64 (bits .xor .u64 (bits .and .u64 (a : Int) (b : Int)) (bits .and .u64 (a : Int) (c : Int))) (bits .and .u64 (b : Int) (c : Int)) = ((mj64 a b c : Nat) : Int) := by
  rw [u64_and_nat a b ha hb, u64_and_nat a c ha hc, u64_and_nat b c hb hc, u64_xor_nat _ _ (Nat.and_lt_two_pow (n := 64) _ hb) (Nat.and_lt_two_pow (n := 64) _ hc), u64_xor_nat _ _ (Nat.xor_lt_two_pow (n := 64) (Nat.and_lt_two_pow _ hb) (Nat.and_lt_two_pow _ hc)) (Nat.and_lt_two_pow (n := 64) _ hc)]
  rfl

set_option maxRecDepth 100000 in
set_option maxHeartbeats 4000000 in
theorem block64 (gt gv : Nat) (K : List Nat) (v : V8) (s : ByteArray) (w : World) (hs : s.size = 128) (hv : v.lt 18446744073709551616) (hK : ∀ i, K.getD i 0 < 18446744073709551616)
    (hT : ∀ i, i < 80 → w.cell? ⟨gt, 72 + i, none⟩ = some (.int .u64 ((K.getD i 0 : Nat) : Int)))
    (hV : ∀ i, i < 8 → w.cell? ⟨gv, 9 + i, none⟩ = some (.int .u64 ((v.l.getD i 0 : Nat) : Int)) ∧ w.frozen? ⟨gv, 9 + i, none⟩ = false)
    (hgt : gt < w.heap.size) (hgv : gv < w.heap.size) :
    Calls Try.prog 70 #[.pointer (some ⟨gt, 72, none⟩), .pointer (some ⟨gv, 9, none⟩), .string s] w fun e w' => e = .returned (.tuple #[]) ∧ Below w.heap.size (w.setCells gv 9 (LK .u64 (bl64 K v s.data.toList).l).toList) w' := by
  have Hs := Away.mk hs
  have HT := Away.mk hT
  have HV := Away.mk hV
  have hf : ∀ i, word 8 s.data.toList i < 18446744073709551616 := word_lt 8 s.data.toList
  have HK := Away.mk hK
  have hw : ∀ k : Nat, (woU (List.take 8 (List.drop (8 * k) s.data.toList)) : Int) = ((word 8 s.data.toList k : Nat) : Int) := word_is64 s.data.toList
  obtain ⟨f, Hf⟩ := ex_eq (word 8 s.data.toList)
  rw [Hf.out] at hf hw
  have Hw := Away.mk hw
  clear hw
  have HF := Away.mk hf
  clear hf hT hV hK
  obtain ⟨Y, HY⟩ := ex_eq (w.setCells gv 9 (LK .u64 (bl64 K v s.data.toList).l).toList)
  rw [HY.out]
  go_enter Try.func70, Try.ntmps70
  go_wp2_with fail
  obtain ⟨Z, HZ⟩ := ex_eq Try.zeroCells27
  rw [HZ.out]
  have HZ2 : Away (Z = LK .u64 (sc64 f 0)) := ⟨HZ.out.symm⟩
  clear HZ
  rw [HZ2.out]
  clear HZ2
  go_loopw [24] (fun i wr => ∃ k : Nat, k ≤ 16 ∧ i = .int .i64 k ∧ wr = w.alloc (.cells (LK .u64 (sc64 f k)) 27)) (fun i _ => 16 - (intOf i).toNat)
  case atStart => exact ⟨0, by decide, rfl, rfl⟩
  case round =>
    obtain ⟨k, hk, rfl, rfl⟩ := hrel
    by_cases hlt : k < 16
    · have hget := lk_get .u64 (sc64 f k) k (by rw [sc_length64]; omega)
      have hset := lk_setI .u64 (sc64 f k) k (f k) _ (Hw.out k)
      rw [show (sc64 f k).set k (f k) = sc64 f (k + 1) by rw [sc64, if_pos hlt]] at hset
      go_wp2_with fail
      refine (worth.worth_any _ _ (by rw [ByteArray.size_extract]; unfold maxLen; omega)).mono ?_
      rintro e w1 ⟨rfl, rfl⟩
      go_wp2_with fail
      go_roundw
      case rel => exact ⟨k + 1, by omega, by go_num, rfl⟩
      case measure => simp [intOf]; omega
    · obtain rfl : k = 16 := by omega
      clear Hw
      simp only [Int.cast_ofNat_Int]
      go_wp2_with fail
      go_loopw [8] (fun i wr => ∃ k n : Nat, 16 ≤ k ∧ k ≤ 80 ∧ i = .int .i64 k ∧ wr = (w.alloc (.cells (LK .u64 (sc64 f k)) 27)).drewN n) (fun i _ => 80 - (intOf i).toNat)
      case atStart => exact ⟨16, 0, by decide, by decide, rfl, rfl⟩
      case round =>
        obtain ⟨k, nd, hk16, hk, rfl, rfl⟩ := hrel
        by_cases hlt : k < 80
        · have hl := sc_length64 f k
          have g16 := lk_get .u64 (sc64 f k) (k - 16) (by omega)
          have g15 := lk_get .u64 (sc64 f k) (k - 15) (by omega)
          have g7 := lk_get .u64 (sc64 f k) (k - 7) (by omega)
          have g2 := lk_get .u64 (sc64 f k) (k - 2) (by omega)
          have g0 := lk_get .u64 (sc64 f k) k (by omega)
          have b15 := sc_lt64 f HF.out k (k - 15)
          have b2 := sc_lt64 f HF.out k (k - 2)
          have hwn : (sc64 f k).set k (wn64 (sc64 f k) k) = sc64 f (k + 1) := by rw [sc64, if_neg (by omega)]
          unfold wn64 at hwn
          obtain ⟨w16, h16⟩ : ∃ x, (sc64 f k).getD (k - 16) 0 = x := ⟨_, rfl⟩
          obtain ⟨p, hp⟩ : ∃ x, (sc64 f k).getD (k - 15) 0 = x := ⟨_, rfl⟩
          obtain ⟨w7, h7⟩ : ∃ x, (sc64 f k).getD (k - 7) 0 = x := ⟨_, rfl⟩
          obtain ⟨q, hq⟩ : ∃ x, (sc64 f k).getD (k - 2) 0 = x := ⟨_, rfl⟩
          rw [h16, hp, h7, hq] at hwn
          rw [h16] at g16
          rw [hp] at g15 b15
          rw [h7] at g7
          rw [hq] at g2 b2
          have hset := lk_setI .u64 (sc64 f k) k _ _ (sch_val64 w16 w7 p q b15 b2)
          rw [hwn] at hset
          have e16 : ((k : Int) - 16).toNat = k - 16 := by omega
          have e15 : ((k : Int) - 15).toNat = k - 15 := by omega
          have e7 : ((k : Int) - 7).toNat = k - 7 := by omega
          have e2 : ((k : Int) - 2).toNat = k - 2 := by omega
          have i16 : (0 : Int) ≤ (k : Int) - 16 ∧ (k : Int) - 16 < 80 := by omega
          have i15 : (0 : Int) ≤ (k : Int) - 15 ∧ (k : Int) - 15 < 80 := by omega
          have i7 : (0 : Int) ≤ (k : Int) - 7 ∧ (k : Int) - 7 < 80 := by omega
          have i2 : (0 : Int) ≤ (k : Int) - 2 ∧ (k : Int) - 2 < 80 := by omega
          clear h16 hp h7 hq hwn hl
          go_wp2_with fail
          go_quiet (fail)
          go_wp2_with fail
          clear e16 e15 e7 e2 i16 i15 i7 i2 g15 g2
          obtain ⟨x16, hx16⟩ : ∃ x, k - 16 = x := ⟨_, rfl⟩
          obtain ⟨x7, hx7⟩ : ∃ x, k - 7 = x := ⟨_, rfl⟩
          rw [hx16] at g16
          rw [hx7] at g7
          have wr16 : IntKind.i64.wrap ((k : Int) - 16) = (x16 : Int) := by rw [IntKind.wrap_i64]; omega
          have wr7 : IntKind.i64.wrap ((k : Int) - 7) = (x7 : Int) := by rw [IntKind.wrap_i64]; omega
          have l16 : (x16 : Int) < 80 := by omega
          have l7 : (x7 : Int) < 80 := by omega
          have l0 : (k : Int) < 80 := by omega
          refine still_tail 23 (by kernel_rfl) (by kernel_rfl) ?_
          simp only [List.take_succ_cons, List.take_zero, List.drop_succ_cons, List.drop_zero]
          repeat still_step
          still_call (turned.two64 p 1 8 _ b15 (by decide) (by decide) (by decide) (by decide))
          repeat still_step
          still_call (turned.two64 q 19 61 _ b2 (by decide) (by decide) (by decide) (by decide))
          repeat still_step
          refine wpStill_nil ?_
          go_wp2_with fail
          go_roundw
          case rel => exact ⟨k + 1, _, by omega, by omega, by go_num, rfl⟩
          case measure => simp [intOf]; omega
        · obtain rfl : k = 80 := by omega
          simp only [Int.cast_ofNat_Int]
          go_wp2_with fail
          obtain ⟨W, HW⟩ := ex_eq (sc64 f 80)
          have hW : ∀ i, W.getD i 0 < 18446744073709551616 := by rw [← HW.out]; exact sc_lt64 f HF.out 80
          have hWl : W.length = 80 := by rw [← HW.out]; exact sc_length64 f 80
          rw [HW.out]
          obtain ⟨va, vb, vc, vd, ve, vf, vg, vh⟩ := v
          obtain ⟨ha, hb, hc, hd, he, hf, hg, hh⟩ := hv
          simp only at ha hb hc hd he hf hg hh
          obtain ⟨w2, Hw2⟩ : ∃ w2, Away (w2 = (w.alloc (.cells (LK .u64 W) 27)).drewN nd) := ⟨_, ⟨rfl⟩⟩
          have hw2s : w2.heap.size = w.heap.size + 1 := by rw [Hw2.out]; simp
          have hb2 : Below w.heap.size w w2 := by rw [Hw2.out]; exact ((Below.refl _ _).alloc (Nat.le_refl _) _).trans (drewn_below _ _ _)
          have hg2 : w2.heap[w.heap.size]? = some (.cells (LK .u64 W) 27 (0, 0)) := by rw [Hw2.out]; exact heap_at _ _ _ rfl
          have cv : ∀ i x, i < 8 → V8.l ⟨va, vb, vc, vd, ve, vf, vg, vh⟩ = x → w2.cell? ⟨gv, 9 + i, none⟩ = some (.int .u64 ((x.getD i 0 : Nat) : Int)) := fun i x hi hx => by
            rw [hb2.cell (p := ⟨gv, 9 + i, none⟩) hgv, (HV.out i hi).1, hx]
          have cv0 := cv 0 _ (by decide) rfl
          have cv1 := cv 1 _ (by decide) rfl
          have cv2 := cv 2 _ (by decide) rfl
          have cv3 := cv 3 _ (by decide) rfl
          have cv4 := cv 4 _ (by decide) rfl
          have cv5 := cv 5 _ (by decide) rfl
          have cv6 := cv 6 _ (by decide) rfl
          have cv7 := cv 7 _ (by decide) rfl
          simp only [V8.l, List.getD_cons_zero, List.getD_cons_succ, Nat.reduceAdd] at cv0 cv1 cv2 cv3 cv4 cv5 cv6 cv7
          rw [← Hw2.out]
          clear cv
          go_quiet (fail)
          have HW2 := Away.mk hw2s
          have Hb2 := Away.mk hb2
          have Hg2 := Away.mk hg2
          clear cv0 cv1 cv2 cv3 cv4 cv5 cv6 cv7 hw2s hb2 hg2
          go_wp2_with fail
          go_loopw [11, 12, 13, 14, 15, 16, 17, 18, 105] (fun a b c d e f g h i wr => ∃ (k : Nat) (u : V8), k ≤ 80 ∧ i = .int .i64 k ∧ a = .int .u64 u.a ∧ b = .int .u64 u.b ∧ c = .int .u64 u.c ∧ d = .int .u64 u.d ∧ e = .int .u64 u.e ∧ f = .int .u64 u.f ∧ g = .int .u64 u.g ∧ h = .int .u64 u.h ∧ Away (u = st64 K W ⟨va, vb, vc, vd, ve, vf, vg, vh⟩ k) ∧ Away (Below w2.heap.size w2 wr)) (fun _ _ _ _ _ _ _ _ i _ => 80 - (intOf i).toNat)
          case atStart => exact ⟨0, ⟨va, vb, vc, vd, ve, vf, vg, vh⟩, by decide, rfl, rfl, rfl, rfl, rfl, rfl, rfl, rfl, rfl, ⟨rfl⟩, ⟨drewn_below _ _ _⟩⟩
          case round =>
            obtain ⟨k, u, hk, rfl, rfl, rfl, rfl, rfl, rfl, rfl, rfl, rfl, Hu, Hb⟩ := hrel
            have hu : u.lt 18446744073709551616 := by rw [Hu.out]; exact st_lt64 _ _ _ ⟨ha, hb, hc, hd, he, hf, hg, hh⟩ _
            by_cases hlt : k < 80
            · obtain ⟨ua, ub, uc, ud, ue, uf, ug, uh⟩ := u
              obtain ⟨ka, kb, kc, kd, ke, kf, kg, kh⟩ := hu
              simp only at ka kb kc kd ke kf kg kh
              have z2 := HW2.out
              have c1 : wr.cell? ⟨gt, 72 + k, none⟩ = some (.int .u64 ((K.getD k 0 : Nat) : Int)) := by
                have h := HT.out k hlt
                rw [Hb.out.cell (p := ⟨gt, 72 + k, none⟩) (by show gt < _; omega), Hb2.out.cell (p := ⟨gt, 72 + k, none⟩) hgt]
                simpa using h
              have c2 : wr.cell? ⟨w.heap.size, k, none⟩ = some (.int .u64 ((W.getD k 0 : Nat) : Int)) := by
                rw [Hb.out.cell (p := ⟨w.heap.size, k, none⟩) (by show w.heap.size < _; omega)]
                exact cell_at Hg2.out (lk_get _ _ _ (by omega))
              have bk := HK.out k
              have bw := hW k
              obtain ⟨kk, hkk⟩ : ∃ x, K.getD k 0 = x := ⟨_, rfl⟩
              obtain ⟨ww, hww⟩ : ∃ x, W.getD k 0 = x := ⟨_, rfl⟩
              rw [hkk] at c1 bk
              rw [hww] at c2 bw
              have l0 : (k : Int) < 80 := by omega
              have hsz := Hb.out.size
              have d1 : ∀ o, (wr.alloc o).cell? ⟨gt, 72 + k, none⟩ = some (.int .u64 (kk : Int)) := fun o => by
                rw [(below_alloc wr o).cell (p := ⟨gt, 72 + k, none⟩) (by show gt < _; omega)]; exact c1
              have d2 : ∀ o, (wr.alloc o).cell? ⟨w.heap.size, k, none⟩ = some (.int .u64 (ww : Int)) := fun o => by
                rw [(below_alloc wr o).cell (p := ⟨w.heap.size, k, none⟩) (by show w.heap.size < _; omega)]; exact c2
              clear hsz z2
              go_wp2_with fail
              go_region_held3 (fun w' : World => w'.cell? ⟨gt, 72 + k, none⟩ = some (.int .u64 (kk : Int)) ∧ w'.cell? ⟨w.heap.size, k, none⟩ = some (.int .u64 (ww : Int))) (first | exact ⟨c1, c2⟩ | exact ⟨d1 _, d2 _⟩ | assumption) (first | (go_at_call 78; refine Calls.mono (turned.three64 ue 14 18 41 wr.heap.size _ ?hc ke (by decide) (by decide) (by decide) (by decide) (by decide) (by decide)) ?_; (case hc => exact new1 wr _ _); rintro e w1 ⟨rfl, rfl⟩))
              clear c1 c2 d1 d2
              rw [x_val64 ua ub uc ud ue uf ug uh kk ww ke kf kg]
              obtain ⟨xv, hxv⟩ : ∃ x, xx64 kk ww ⟨ua, ub, uc, ud, ue, uf, ug, uh⟩ = x := ⟨_, rfl⟩
              have Hy := Away.mk (y_val64 ua ub uc ka kb kc)
              rw [hxv]
              go_wp2_with (first | (go_at_call 78; refine Calls.mono (turned.three64 ua 28 34 39 (wr.heap.size + 1) _ ?hc ka (by decide) (by decide) (by decide) (by decide) (by decide) (by decide)) ?_; (case hc => exact cell_at (heap_at _ _ _ (by simp)) rfl); rintro e w1 ⟨rfl, rfl⟩))
              rw [Hy.out]
              have Hn : Away (rd64 kk ww ⟨ua, ub, uc, ud, ue, uf, ug, uh⟩ = st64 K W ⟨va, vb, vc, vd, ve, vf, vg, vh⟩ (k + 1)) := ⟨by rw [st64, ← Hu.out, hkk, hww]⟩
              have Hbn : Away (Below w2.heap.size w2 ((wr.alloc (.cells #[.int .i64 41] 3)).alloc (.cells #[.int .i64 39] 3)).drew) := ⟨((Hb.out.alloc Hb.out.size _).alloc (by have := Hb.out.size; simp; omega) _).drew⟩
              have Hxv := Away.mk hxv
              clear hxv Hy
              refine ⟨⟨k + 1, rd64 kk ww ⟨ua, ub, uc, ud, ue, uf, ug, uh⟩, by omega, by go_num, val_int ?_, rfl, rfl, rfl, val_int ?_, rfl, rfl, rfl, Hn, Hbn⟩, by simp [intOf]; omega⟩
              · show _ = (((xx64 kk ww ⟨ua, ub, uc, ud, ue, uf, ug, uh⟩ + yy64 ⟨ua, ub, uc, ud, ue, uf, ug, uh⟩) % 18446744073709551616 : Nat) : Int)
                rw [Hxv.out]
                unfold yy64
                simp only
                first | omega | (simp only [IntKind.wrap_u64]; omega)
              · show _ = (((ud + xx64 kk ww ⟨ua, ub, uc, ud, ue, uf, ug, uh⟩) % 18446744073709551616 : Nat) : Int)
                rw [Hxv.out]
                first | omega | (simp only [IntKind.wrap_u64]; omega)
            · obtain rfl : k = 80 := by omega
              simp only [Int.cast_ofNat_Int]
              go_wp2_with fail
              have z2 := HW2.out
              have Hbw : Away (Below w.heap.size w wr) := ⟨Hb2.out.trans (Hb.out.mono (by omega))⟩
              clear z2 HW2 Hg2
              obtain ⟨U, HU⟩ := ex_eq u
              have hul : ∀ i, u.l.getD i 0 < 18446744073709551616 := hu.get (by decide)
              obtain ⟨L, HL⟩ := ex_eq u.l
              rw [HL.out] at hul
              have HLl : Away (L.length = 8) := ⟨by rw [← HL.out]; rfl⟩
              have e9 : (#[.int .u64 u.a, .int .u64 u.b, .int .u64 u.c, .int .u64 u.d, .int .u64 u.e, .int .u64 u.f, .int .u64 u.g, .int .u64 u.h] : Array Value) = LK .u64 L := by rw [← HL.out]; rfl
              rw [e9]
              clear e9
              obtain ⟨V, HV2⟩ := ex_eq (V8.l ⟨va, vb, vc, vd, ve, vf, vg, vh⟩)
              have hvl : ∀ i, V.getD i 0 < 18446744073709551616 := by rw [← HV2.out]; exact V8.lt.get ⟨ha, hb, hc, hd, he, hf, hg, hh⟩ (by decide)
              have Hc : Away (∀ i, i < 8 → w.cell? ⟨gv, 9 + i, none⟩ = some (.int .u64 ((V.getD i 0 : Nat) : Int)) ∧ w.frozen? ⟨gv, 9 + i, none⟩ = false) := ⟨by rw [← HV2.out]; exact HV.out⟩
              have Hres : Away (bl64 K ⟨va, vb, vc, vd, ve, vf, vg, vh⟩ s.data.toList = ad64 ⟨va, vb, vc, vd, ve, vf, vg, vh⟩ u) := ⟨by unfold bl64; rw [Hf.out, HW.out, ← Hu.out]⟩
              obtain ⟨X, HX⟩ := ex_eq (LK .u64 (ad64 ⟨va, vb, vc, vd, ve, vf, vg, vh⟩ u).l).toList
              have HXl : Away (X.length = 8) := ⟨by rw [← HX.out]; rfl⟩
              have HXg : Away (∀ i, i < 8 → X[i]? = some (.int .u64 (((V.getD i 0 + L.getD i 0) % 18446744073709551616 : Nat) : Int))) := ⟨fun i hi => by
                rw [← HX.out, ← HV2.out, ← HL.out, ← ad_get64 _ _ i hi, Array.getElem?_toList]
                exact lk_get _ _ _ hi⟩
              have HXY : Away (w.setCells gv 9 X = Y) := ⟨by rw [← HX.out, ← HY.out, Hres.out]⟩
              clear HY Hres HX HV Hu Hb Hf HF HT HK Hb2 HW hW hWl ha hb hc hd he hf hg hh hu HU U
              go_loopw [169] (fun i wx => ∃ k : Nat, k ≤ 8 ∧ i = .int .i64 k ∧ Away (Below w.heap.size (w.setCells gv 9 (X.take k)) wx)) (fun i _ => 8 - (intOf i).toNat)
              case atStart => exact ⟨0, by decide, rfl, Hbw⟩
              case round =>
                obtain ⟨k, hk, rfl, Hx⟩ := hrel
                by_cases hlt : k < 8
                · have hag : ∀ w : World, (Instr.index 28 (.agg (LK .u64 L)) (.int .i64 (k : Int))).run Try.prog w = .ok (.int .u64 ((L.getD k 0 : Nat) : Int)) w := idx.index64 L k HLl.out hlt
                  obtain ⟨h1, h2⟩ := Hc.out k hlt
                  have b1 := hvl k
                  have b2 := hul k
                  have hxk := HXg.out k hlt
                  obtain ⟨p, hp⟩ : ∃ x, V.getD k 0 = x := ⟨_, rfl⟩
                  obtain ⟨q, hq⟩ : ∃ x, L.getD k 0 = x := ⟨_, rfl⟩
                  rw [hp] at h1 b1 hxk
                  rw [hq] at hag b2 hxk
                  have hc : wr.cell? ⟨gv, 9 + k, none⟩ = some (.int .u64 (p : Int)) := by
                    rw [Hx.out.cell (p := ⟨gv, 9 + k, none⟩) hgv, World.cell?_setCells_out gv _ _ _ _ (fun _ _ => Or.inr (by rw [List.length_take]; show 9 + min k _ ≤ 9 + k; omega))]
                    exact h1
                  have hz : wr.frozen? ⟨gv, 9 + k, none⟩ = false := by
                    rw [Hx.out.frozen (p := ⟨gv, 9 + k, none⟩) hgv, World.frozen?_setCells]; exact h2
                  have Hn : Away (Below w.heap.size (w.setCells gv 9 (X.take (k + 1))) (wr.setCell ⟨gv, 9 + k, none⟩ (.int .u64 (((p : Int) + (q : Int)) % 18446744073709551616)))) := ⟨by
                    have hkx : k < X.length := by rw [HXl.out]; exact hlt
                    rw [List.take_add_one, hxk, show (some (Value.int .u64 (((p + q) % 18446744073709551616 : Nat) : Int))).toList = [.int .u64 (((p + q) % 18446744073709551616 : Nat) : Int)] from rfl, setCells_snoc, List.length_take, Nat.min_eq_left (by omega), show (((p + q) % 18446744073709551616 : Nat) : Int) = ((p : Int) + (q : Int)) % 18446744073709551616 by omega]
                    exact setBoth Hx.out _ _⟩
                  have l0 : (k : Int) < 8 := by omega
                  clear h1 h2 hxk hp hq Hx
                  go_wp2_with fail
                  go_region
                  go_wp2_with fail
                  go_roundw
                  case rel => exact ⟨k + 1, by omega, by go_num, ⟨Hn.out.drew⟩⟩
                  case measure => simp [intOf]; omega
                · obtain rfl : k = 8 := by omega
                  go_wp2_with fail
                  refine bodyPost_end (v := .tuple #[]) (results_none rfl _ _ _) rfl ?_
                  have hfin := Hx.out
                  rw [List.take_of_length_le (by rw [HXl.out]; decide), HXY.out] at hfin
                  exact ⟨rfl, hfin⟩
end Go.Proofs.Ythfljfampfioaaa.block
