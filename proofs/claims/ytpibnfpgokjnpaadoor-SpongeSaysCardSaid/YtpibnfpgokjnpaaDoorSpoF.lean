/-
  What read of the sponge returns: bytes of a state in memory behind those of a slice, by whole lanes where it can. Conditions: the state has 25 words of 64 bits, the bytes lie within it, the slice is the caller's own.
-/
import Derived.Test.YtpibnfpgokjnpaaDoorSpoD
import Derived.OwnWalk
import Derived.Lib.ConvBytes
namespace Go.Proofs.YtpibnfpgokjnpaaDoor.spof
open Go Go.RowKit
open Go.Proofs.YtpibnfpgokjnpaaDoor.arr Go.Proofs.YtpibnfpgokjnpaaDoor.mem Go.Proofs.YtpibnfpgokjnpaaDoor.kecm Go.Proofs.YtpibnfpgokjnpaaDoor.kecb Go.Proofs.YtpibnfpgokjnpaaDoor.spgm Go.Proofs.YtpibnfpgokjnpaaDoor.spmx Go.Proofs.YtpibnfpgokjnpaaDoor.rspa Go.Proofs.YtpibnfpgokjnpaaDoor.rspc Go.Proofs.YtpibnfpgokjnpaaDoor.rspd Go.Proofs.YtpibnfpgokjnpaaDoor.spoa Go.Proofs.YtpibnfpgokjnpaaDoor.spob Go.Proofs.YtpibnfpgokjnpaaDoor.spoc Go.Proofs.YtpibnfpgokjnpaaDoor.spod

theorem infoByte : (Tryd.prog.info? 5).map (fun i => (i.zero, i.size, i.bytes)) = some (some (.int .u8 0), 1, 1) := by kernel_rfl
theorem parts {P : Program} {e : TypeId} {z : Value} {s b : Nat} (h : (P.info? e).map (fun i => (i.zero, i.size, i.bytes)) = some (some z, s, b)) : ∃ i, P.info? e = some i ∧ i.zero = some z ∧ i.size = s ∧ i.bytes = b := by
  cases hi : P.info? e with
  | none => rw [hi] at h; cases h
  | some i =>
    rw [hi] at h
    simp only [Option.map_some, Option.some.injEq, Prod.mk.injEq] at h
    exact ⟨i, rfl, h.1, h.2.1, h.2.2⟩
theorem owns_at {w w' : World} {base : Nat} {e : TypeId} {size : Nat} {v : Value} {n : Nat} {xs : List Value} {g : Nat} {C : Array Value} {t : TypeId} (h : w.ownsRow base e size v n xs) (k : At g C t w w') (hg : g < base) : w'.ownsRow base e size v n xs :=
  ⟨h.1, h.2.imp id fun ⟨g', cap, cur, hv, hb, hgr, rest⟩ => ⟨g', cap, cur, hv, hb, (k.block g' (lt_of_row hgr) (by omega)).trans hgr, rest⟩⟩
theorem at_below {g B : Nat} {C : Array Value} {t : TypeId} {a b c : World} (h : At g C t a b) (k : Below B b c) (hB : a.heap.size ≤ B) (hg : g < B) : At g C t a c :=
  ⟨k.os.trans h.os, k.tape.trans h.tape, k.output.trans h.output, Nat.le_trans h.size k.size, (k.block g hg).trans h.row, fun i hi hig => (k.block i (by omega)).trans (h.block i hi hig)⟩
/-- bytes as a string holds them -/
def u8s (l : List Nat) : List UInt8 := l.map UInt8.ofNat
theorem u8s_length (l : List Nat) : (u8s l).length = l.length := by simp [u8s]
theorem u8s_app (l m : List Nat) (hm : ∀ x ∈ m, x < 256) : Lib.byteCells (u8s (l ++ m)) = Lib.byteCells (u8s l) ++ m.map (fun x : Nat => Value.int .u8 (x : Int)) := by
  unfold u8s
  rw [List.map_append, Lib.byteCells_append]
  congr 1
  induction m with
  | nil => rfl
  | cons x m ih =>
    have hx := hm x (by simp)
    have := ih (fun y hy => hm y (by simp [hy]))
    simp only [List.map_cons]
    rw [← this]
    simp [Lib.byteCells, Nat.mod_eq_of_lt hx]
theorem owns_some {w : World} {base : Nat} {e : TypeId} {size : Nat} {v : Value} {n : Nat} {xs : List Value} (hn : 0 < n) (h : w.ownsRow base e size v n xs) : ∃ g cap, v = .slice (some ⟨g, 0, none⟩) n cap := by
  rcases h.2 with ⟨-, h0⟩ | ⟨g, cap, cur, hv, -⟩
  · omega
  · exact ⟨g, cap, hv⟩
theorem shr_is (x c : Nat) : IntKind.u8.wrap ((x : Int) / 2 ^ c) = ((x / 2 ^ c % 256 : Nat) : Int) := by
  rw [rols.castd x c, IntKind.wrap_u8]
  omega
theorem gbs_lt (l : List Nat) (p m : Nat) : ∀ x ∈ gbs l p m, x < 256 := by
  intro x hx
  obtain ⟨i, -, rfl⟩ := List.mem_map.1 hx
  exact gb_lt _ _

theorem news_at {w : World} {vs : List Value} {T : Nat} : ∀ j u, vs[j]? = some u → (w.alloc (.cells vs.toArray T)).cell? ((⟨w.heap.size, 0, none⟩ : Addr).add j) = some u := by
  intro j u hj
  rw [Addr.add_mid, Nat.zero_add]
  exact cell_at (heap_at _ _ _ rfl) (by simpa using hj)
/-- the eight bytes of a lane as the program lays them -/
theorem cells8 (u : Nat) (hu : u < 18446744073709551616) : ([u % 256, u / 2 ^ 8 % 256, u / 2 ^ 16 % 256, u / 2 ^ 24 % 256, u / 2 ^ 32 % 256, u / 2 ^ 40 % 256, u / 2 ^ 48 % 256, u / 2 ^ 56 % 256] : List Nat).map (fun x : Nat => Value.int .u8 (x : Int)) =
    [.int .u8 ((u : Int) % 256), .int .u8 ((u : Int) / 256 % 256), .int .u8 ((u : Int) / 65536 % 256), .int .u8 ((u : Int) / 16777216 % 256), .int .u8 ((u : Int) / 4294967296 % 256), .int .u8 ((u : Int) / 1099511627776 % 256), .int .u8 ((u : Int) / 281474976710656 % 256), .int .u8 ((u : Int) / 72057594037927936)] := by
  have e : u / 2 ^ 56 % 256 = u / 72057594037927936 := by omega
  rw [e]
  simp only [List.map_cons, List.map_nil]
  rfl
theorem cells1 (b : Nat) (z : Int) (h : z = (b : Int)) : ([b] : List Nat).map (fun x : Nat => Value.int .u8 (x : Int)) = [.int .u8 z] := by rw [h]; rfl
set_option maxRecDepth 100000 in
set_option maxHeartbeats 4000000 in
theorem read_any (base gs : Nat) (k a : Int) (o : Bool) (l : List Nat) (t : TypeId) (xs : List Nat) (j gv cap p z : Nat) (w : World) (h : St l) (hpz : p ≤ z) (hz : z ≤ 200) (hj : j ≤ 50000) (hgs : gs < base) (hbase : base ≤ w.heap.size)
    (hrow : w.heap[gs]? = some (.cells (SC k l a o) t (0, 0))) (hown : w.ownsRow base 5 1 (.slice (some ⟨gv, 0, none⟩) j cap) j (Lib.byteCells (u8s xs))) :
    Calls Tryd.prog 47 #[.slice (some ⟨gv, 0, none⟩) j cap, .pointer (some ⟨gs, 1, none⟩), .int .i64 (p : Int), .int .i64 (z : Int)] w fun e w' => ∃ gv' cap', e = .returned (.slice (some ⟨gv', 0, none⟩) (j + (z - p)) cap') ∧ w'.ownsRow base 5 1 (.slice (some ⟨gv', 0, none⟩) (j + (z - p)) cap') (j + (z - p)) (Lib.byteCells (u8s (xs ++ gbs l p (z - p)))) ∧ Below base w w' := by
  obtain ⟨i0, hi, hz0, hz1, hz2⟩ := parts infoByte
  have HI := Away.mk (And.intro hi (And.intro hz0 (And.intro hz1 hz2)))
  have H := Away.mk h
  have OWN := Away.mk hown
  have HR := Away.mk hrow
  clear h hown hrow hi hz0 hz1 hz2
  go_enter Tryd.func47, Tryd.ntmps47
  go_wp2_with fail
  go_loopw [0, 2] (fun v y wr => ∃ (m : Nat), p + m ≤ z ∧ (∃ g cap, v = .slice (some ⟨g, 0, none⟩) (j + m) cap) ∧ y = .int .i64 ((p + m : Nat) : Int) ∧ Away (wr.ownsRow base 5 1 v (j + m) (Lib.byteCells (u8s (xs ++ gbs l p m)))) ∧ Away (Below base w wr)) (fun _ y _ => z - (intOf y).toNat)
  case atStart => exact ⟨0, by omega, ⟨gv, cap, rfl⟩, rfl, ⟨by rw [show gbs l p 0 = [] from rfl, List.append_nil]; exact OWN.out⟩, ⟨Below.refl _ _⟩⟩
  case round =>
    clear OWN
    obtain ⟨m, hm, ⟨g1, c1, rfl⟩, rfl, OWN, HB⟩ := hrel
    obtain ⟨x, hx⟩ : ∃ x, p + m = x := ⟨_, rfl⟩
    rw [hx]
    obtain ⟨r8, hr8⟩ : ∃ r8, x % 8 = r8 := ⟨_, rfl⟩
    have fm : (x : Int).tmod 8 = (r8 : Int) := by rw [Int.tmod_eq_emod_of_nonneg (by omega)]; omega
    have fm2 : (x : Int) % 8 = (r8 : Int) := by omega
    by_cases hc : r8 = 0 ∧ x + 8 ≤ z
    · obtain ⟨h0, h8⟩ := hc
      subst h0
      have fm : (x : Int).tmod 8 = 0 := fm
      have fm2 : (x : Int) % 8 = 0 := fm2
      obtain ⟨q, hq⟩ : ∃ q, x / 8 = q := ⟨_, rfl⟩
      have fq : (x : Int).tdiv 8 = (q : Int) := by rw [Int.tdiv_eq_ediv_of_nonneg (by omega)]; omega
      have fqw : IntKind.i64.wrap ((x : Int).tdiv 8) = (q : Int) := by rw [fq, IntKind.wrap_i64]; omega
      have fq2 : (x : Int) / 8 = (q : Int) := by omega
      have fq3 : IntKind.i64.wrap (q : Int) = (q : Int) := by rw [IntKind.wrap_i64]; omega
      have hq25 : q < 25 := by omega
      have hqz : (q : Int) < 25 := by omega
      obtain ⟨u, hu⟩ : ∃ u, g l q = u := ⟨_, rfl⟩
      have bu : u < 18446744073709551616 := hu ▸ H.out.lt q
      have cx : wr.cell? ⟨gs, 1 + q, none⟩ = some (.int .u64 (u : Int)) := by rw [← hu]; exact cell_at ((HB.out.block gs hgs).trans HR.out) (sc_lane k a o H.out.len q hq25)
      have HNX : Away (Lib.byteCells (u8s (xs ++ gbs l p (m + 8))) = Lib.byteCells (u8s (xs ++ gbs l p m)) ++ [.int .u8 ((u : Int) % 256), .int .u8 ((u : Int) / 256 % 256), .int .u8 ((u : Int) / 65536 % 256), .int .u8 ((u : Int) / 16777216 % 256), .int .u8 ((u : Int) / 4294967296 % 256), .int .u8 ((u : Int) / 1099511627776 % 256), .int .u8 ((u : Int) / 281474976710656 % 256), .int .u8 ((u : Int) / 72057594037927936)]) := ⟨by
        rw [gbs_add, ← List.append_assoc, u8s_app _ _ (gbs_lt _ _ _), hx, show x = 8 * q by omega, gbs_lane l q u hu, cells8 u bu]⟩
      have hwx : base ≤ wr.heap.size := Nat.le_trans hbase HB.out.size
      clear hq hr8
      go_wp2_with (at_builtin; refine wpList_append_own _ rfl _ _ 67 rfl base 5 i0 (.int .u8 0) 1 1 Tryd.underlying67 HI.out.1 HI.out.2.1 HI.out.2.2.1 HI.out.2.2.2 rfl (by decide) _ _ _ rfl (OWN.out.alloc _) ⟨wr.heap.size, 0, none⟩ 8 8 [.int .u8 ((u : Int) % 256), .int .u8 ((u : Int) / 256 % 256), .int .u8 ((u : Int) / 65536 % 256), .int .u8 ((u : Int) / 16777216 % 256), .int .u8 ((u : Int) / 4294967296 % 256), .int .u8 ((u : Int) / 1099511627776 % 256), .int .u8 ((u : Int) / 281474976710656 % 256), .int .u8 ((u : Int) / 72057594037927936)] rfl rfl news_at (fun u hu => by simp at hu; rcases hu with h | h | h | h | h | h | h | h <;> (subst h; rfl)) (by unfold maxLen; omega) (by omega) (by rw [size_alloc]; omega) ?_)
      intro v' w4 hown' hgrow _
      have hb4 : Below base wr w4 := ((Below.refl base wr).alloc hwx _).grown hgrow (by rw [size_alloc]; omega) (fun k hk => (OWN.out.lt k hk).1)
      have HB4 : Away (Below base w w4) := ⟨HB.out.trans hb4⟩
      have OY : Away (w4.ownsRow base 5 1 v' (j + (m + 8)) (Lib.byteCells (u8s (xs ++ gbs l p (m + 8))))) := ⟨by
        rw [HNX.out]; exact hown'⟩
      obtain ⟨gv', cap', hv'⟩ := owns_some (by omega) OY.out
      clear hown' hgrow hb4
      subst hv'
      go_wp2_with fail
      go_roundw
      case rel => exact ⟨m + 8, by omega, ⟨_, _, rfl⟩, by go_num, OY, HB4⟩
      case measure => simp [intOf]; omega
    · have hc2 : r8 ≠ 0 ∨ r8 = 0 ∧ z < x + 8 := by omega
      rcases hc2 with h2 | ⟨h0, h2⟩
      · have hcz : ((r8 : Int) == 0) = false := beq_eq_false_iff_ne.2 (by omega)
        go_wp2_with fail
        clear hcz
        go_loopw [0, 2] (fun v y wr => ∃ (m : Nat), p + m ≤ z ∧ (∃ g cap, v = .slice (some ⟨g, 0, none⟩) (j + m) cap) ∧ y = .int .i64 ((p + m : Nat) : Int) ∧ Away (wr.ownsRow base 5 1 v (j + m) (Lib.byteCells (u8s (xs ++ gbs l p m)))) ∧ Away (Below base w wr)) (fun _ y _ => z - (intOf y).toNat)
        case atStart => exact ⟨m, hm, ⟨g1, c1, rfl⟩, by rw [hx], OWN, HB⟩
        case round =>
          clear OWN HB hm hx fm fm2 hr8 hc
          obtain ⟨m, hm, ⟨g1, c1, rfl⟩, rfl, OWN, HB⟩ := hrel
          obtain ⟨x, hx⟩ : ∃ x, p + m = x := ⟨_, rfl⟩
          rw [hx]
          by_cases hlt : x < z
          · have hltz : (x : Int) < (z : Int) := by omega
            obtain ⟨q, hq⟩ : ∃ q, x / 8 = q := ⟨_, rfl⟩
            obtain ⟨mm, hmm⟩ : ∃ mm, x % 8 = mm := ⟨_, rfl⟩
            obtain ⟨c, hc⟩ : ∃ c, c = 8 * mm := ⟨_, rfl⟩
            have fq : (x : Int).tdiv 8 = (q : Int) := by rw [Int.tdiv_eq_ediv_of_nonneg (by omega)]; omega
            have fqw : IntKind.i64.wrap ((x : Int).tdiv 8) = (q : Int) := by rw [fq, IntKind.wrap_i64]; omega
            have fm : (x : Int).tmod 8 = (mm : Int) := by rw [Int.tmod_eq_emod_of_nonneg (by omega)]; omega
            have fq2 : (x : Int) / 8 = (q : Int) := by omega
            have fq3 : IntKind.i64.wrap (q : Int) = (q : Int) := by rw [IntKind.wrap_i64]; omega
            have fm2 : (x : Int) % 8 = (mm : Int) := by omega
            have fc : (mm : Int) * 8 = (c : Int) := by omega
            have fcw : IntKind.i64.wrap ((mm : Int) * 8) = (c : Int) := by rw [IntKind.wrap_i64]; omega
            have hc63 : c ≤ 63 := by omega
            have hq25 : q < 25 := by omega
            have hqz : (q : Int) < 25 := by omega
            obtain ⟨u, hu⟩ : ∃ u, g l q = u := ⟨_, rfl⟩
            have bu : u < 18446744073709551616 := hu ▸ H.out.lt q
            obtain ⟨β, hβ⟩ : ∃ β, u / 2 ^ c % 256 = β := ⟨_, rfl⟩
            have bβ : β < 256 := hβ ▸ Nat.mod_lt _ (by decide)
            have fz := shr_is u c
            rw [hβ] at fz
            have fz2 : ((u : Int) / 2 ^ c) % 256 = (β : Int) := by rw [← fz, IntKind.wrap_u8]
            have cx : wr.cell? ⟨gs, 1 + q, none⟩ = some (.int .u64 (u : Int)) := by rw [← hu]; exact cell_at ((HB.out.block gs hgs).trans HR.out) (sc_lane k a o H.out.len q hq25)
            have HNX : Away (Lib.byteCells (u8s (xs ++ gbs l p (m + 1))) = Lib.byteCells (u8s (xs ++ gbs l p m)) ++ [.int .u8 (β : Int)]) := ⟨by
              rw [gbs_add, ← List.append_assoc, u8s_app _ _ (gbs_lt _ _ _), hx, show gbs l x 1 = [gb l x] from rfl, gb, hq, hmm, ← hc, hu, hβ]
              rfl⟩
            have hwx : base ≤ wr.heap.size := Nat.le_trans hbase HB.out.size
            clear hq hmm hc hβ hu
            go_wp2_with (at_builtin; refine wpList_append_own _ rfl _ _ 67 rfl base 5 i0 (.int .u8 0) 1 1 Tryd.underlying67 HI.out.1 HI.out.2.1 HI.out.2.2.1 HI.out.2.2.2 rfl (by decide) _ _ _ rfl (OWN.out.alloc _) ⟨wr.heap.size, 0, none⟩ 1 1 [.int .u8 (β : Int)] rfl rfl news_at (fun u hu => by simp at hu; subst hu; rfl) (by unfold maxLen; omega) (by omega) (by rw [size_alloc]; omega) ?_)
            intro v' w4 hown' hgrow _
            have hb4 : Below base wr w4 := ((Below.refl base wr).alloc hwx _).grown hgrow (by rw [size_alloc]; omega) (fun k hk => (OWN.out.lt k hk).1)
            have HB4 : Away (Below base w w4) := ⟨HB.out.trans hb4⟩
            have OY : Away (w4.ownsRow base 5 1 v' (j + (m + 1)) (Lib.byteCells (u8s (xs ++ gbs l p (m + 1))))) := ⟨by
              rw [HNX.out]; exact hown'⟩
            obtain ⟨gv', cap', hv'⟩ := owns_some (by omega) OY.out
            clear hown' hgrow hb4
            subst hv'
            go_wp2_with fail
            go_roundw
            case rel => exact ⟨m + 1, by omega, ⟨_, _, rfl⟩, by go_num, OY, HB4⟩
            case measure => simp [intOf]; omega
          · have hE : Away (m = z - p ∧ True) := ⟨by omega, trivial⟩
            have hm2 : m = z - p := by omega
            have hge : (z : Int) ≤ (x : Int) := by omega
            clear hm hx
            subst hm2
            go_wp2_with fail
            go_ret
            exact ⟨g1, c1, rfl, OWN.out, HB.out⟩
      · subst h0
        have fm : (x : Int).tmod 8 = 0 := fm
        have fm2 : (x : Int) % 8 = 0 := fm2
        go_wp2_with fail
        go_loopw [0, 2] (fun v y wr => ∃ (m : Nat), p + m ≤ z ∧ (∃ g cap, v = .slice (some ⟨g, 0, none⟩) (j + m) cap) ∧ y = .int .i64 ((p + m : Nat) : Int) ∧ Away (wr.ownsRow base 5 1 v (j + m) (Lib.byteCells (u8s (xs ++ gbs l p m)))) ∧ Away (Below base w wr)) (fun _ y _ => z - (intOf y).toNat)
        case atStart => exact ⟨m, hm, ⟨g1, c1, rfl⟩, by rw [hx], OWN, HB⟩
        case round =>
          clear OWN HB hm hx fm fm2 hr8 hc
          obtain ⟨m, hm, ⟨g1, c1, rfl⟩, rfl, OWN, HB⟩ := hrel
          obtain ⟨x, hx⟩ : ∃ x, p + m = x := ⟨_, rfl⟩
          rw [hx]
          by_cases hlt : x < z
          · have hltz : (x : Int) < (z : Int) := by omega
            obtain ⟨q, hq⟩ : ∃ q, x / 8 = q := ⟨_, rfl⟩
            obtain ⟨mm, hmm⟩ : ∃ mm, x % 8 = mm := ⟨_, rfl⟩
            obtain ⟨c, hc⟩ : ∃ c, c = 8 * mm := ⟨_, rfl⟩
            have fq : (x : Int).tdiv 8 = (q : Int) := by rw [Int.tdiv_eq_ediv_of_nonneg (by omega)]; omega
            have fqw : IntKind.i64.wrap ((x : Int).tdiv 8) = (q : Int) := by rw [fq, IntKind.wrap_i64]; omega
            have fm : (x : Int).tmod 8 = (mm : Int) := by rw [Int.tmod_eq_emod_of_nonneg (by omega)]; omega
            have fq2 : (x : Int) / 8 = (q : Int) := by omega
            have fq3 : IntKind.i64.wrap (q : Int) = (q : Int) := by rw [IntKind.wrap_i64]; omega
            have fm2 : (x : Int) % 8 = (mm : Int) := by omega
            have fc : (mm : Int) * 8 = (c : Int) := by omega
            have fcw : IntKind.i64.wrap ((mm : Int) * 8) = (c : Int) := by rw [IntKind.wrap_i64]; omega
            have hc63 : c ≤ 63 := by omega
            have hq25 : q < 25 := by omega
            have hqz : (q : Int) < 25 := by omega
            obtain ⟨u, hu⟩ : ∃ u, g l q = u := ⟨_, rfl⟩
            have bu : u < 18446744073709551616 := hu ▸ H.out.lt q
            obtain ⟨β, hβ⟩ : ∃ β, u / 2 ^ c % 256 = β := ⟨_, rfl⟩
            have bβ : β < 256 := hβ ▸ Nat.mod_lt _ (by decide)
            have fz := shr_is u c
            rw [hβ] at fz
            have fz2 : ((u : Int) / 2 ^ c) % 256 = (β : Int) := by rw [← fz, IntKind.wrap_u8]
            have cx : wr.cell? ⟨gs, 1 + q, none⟩ = some (.int .u64 (u : Int)) := by rw [← hu]; exact cell_at ((HB.out.block gs hgs).trans HR.out) (sc_lane k a o H.out.len q hq25)
            have HNX : Away (Lib.byteCells (u8s (xs ++ gbs l p (m + 1))) = Lib.byteCells (u8s (xs ++ gbs l p m)) ++ [.int .u8 (β : Int)]) := ⟨by
              rw [gbs_add, ← List.append_assoc, u8s_app _ _ (gbs_lt _ _ _), hx, show gbs l x 1 = [gb l x] from rfl, gb, hq, hmm, ← hc, hu, hβ]
              rfl⟩
            have hwx : base ≤ wr.heap.size := Nat.le_trans hbase HB.out.size
            clear hq hmm hc hβ hu
            go_wp2_with (at_builtin; refine wpList_append_own _ rfl _ _ 67 rfl base 5 i0 (.int .u8 0) 1 1 Tryd.underlying67 HI.out.1 HI.out.2.1 HI.out.2.2.1 HI.out.2.2.2 rfl (by decide) _ _ _ rfl (OWN.out.alloc _) ⟨wr.heap.size, 0, none⟩ 1 1 [.int .u8 (β : Int)] rfl rfl news_at (fun u hu => by simp at hu; subst hu; rfl) (by unfold maxLen; omega) (by omega) (by rw [size_alloc]; omega) ?_)
            intro v' w4 hown' hgrow _
            have hb4 : Below base wr w4 := ((Below.refl base wr).alloc hwx _).grown hgrow (by rw [size_alloc]; omega) (fun k hk => (OWN.out.lt k hk).1)
            have HB4 : Away (Below base w w4) := ⟨HB.out.trans hb4⟩
            have OY : Away (w4.ownsRow base 5 1 v' (j + (m + 1)) (Lib.byteCells (u8s (xs ++ gbs l p (m + 1))))) := ⟨by
              rw [HNX.out]; exact hown'⟩
            obtain ⟨gv', cap', hv'⟩ := owns_some (by omega) OY.out
            clear hown' hgrow hb4
            subst hv'
            go_wp2_with fail
            go_roundw
            case rel => exact ⟨m + 1, by omega, ⟨_, _, rfl⟩, by go_num, OY, HB4⟩
            case measure => simp [intOf]; omega
          · have hE : Away (m = z - p ∧ True) := ⟨by omega, trivial⟩
            have hm2 : m = z - p := by omega
            have hge : (z : Int) ≤ (x : Int) := by omega
            clear hm hx
            subst hm2
            go_wp2_with fail
            go_ret
            exact ⟨g1, c1, rfl, OWN.out, HB.out⟩
end Go.Proofs.YtpibnfpgokjnpaaDoor.spof
