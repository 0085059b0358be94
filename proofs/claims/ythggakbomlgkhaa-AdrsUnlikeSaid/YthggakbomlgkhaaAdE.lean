/-
  What adrs.encode returns: each number of an address in so many bytes, whatever the numbers and the (small) widths are. Conditions: the numbers are of their types, a width is at most 12.
-/
import Derived.Test.YthggakbomlgkhaaAdB
import Derived.Test.YthggakbomlgkhaaAdP
import Derived.Test.YthggakbomlgkhaaPoly
import Derived.Test.YthggakbomlgkhaaBits
namespace Go.Proofs.Ythggakbomlgkhaa.ade
open Go Go.RowKit
open Go.Proofs.Ythggakbomlgkhaa.arr Go.Proofs.Ythggakbomlgkhaa.mem Go.Proofs.Ythggakbomlgkhaa.stil Go.Proofs.Ythggakbomlgkhaa.boxt Go.Proofs.Ythggakbomlgkhaa.polys Go.Proofs.Ythggakbomlgkhaa.adm Go.Proofs.Ythggakbomlgkhaa.adp Go.Proofs.Ythggakbomlgkhaa.oct Go.Proofs.Ythggakbomlgkhaa.bits8

/-- bytes as cells -/
def u8c (l : List UInt8) : Array Value := (l.map fun b => Value.int .u8 (b.toNat : Int)).toArray
theorem u8c_size (l : List UInt8) : (u8c l).size = l.length := by simp [u8c]
theorem u8c_get (l : List UInt8) (j : Nat) (h : j < l.length) : (u8c l)[j]? = some (.int .u8 (l[j].toNat : Int)) := by simp [u8c, h]
theorem u8c_set (l : List UInt8) (j : Nat) (b : UInt8) (v : Int) (h : v = (b.toNat : Int)) : (u8c l).setIfInBounds j (.int .u8 v) = u8c (l.set j b) := by
  subst h
  simp [u8c, List.map_set]
theorem u8c_zeros (m : Nat) : (List.replicate m (Value.int .u8 0)) = (u8c (List.replicate m 0)).toList := by
  unfold u8c
  rw [List.map_replicate]
  rfl
/-- an address' numbers after some rounds -/
def adY (y : Nat → Nat) : Array Value := ad (y 0) (y 1) (IntKind.i64.wrap (y 2)) (y 3) (y 4) (y 5)
theorem index_u (f : Nat → Int) (n : Nat) (h : n < 6) (w : World) : (Instr.index 54 (.agg (FL .u64 6 f)) (.int .i64 (n : Int))).run Try.prog w = .ok (.int .u64 (f n)) w :=
  index_cell Try.underlying54 (by kernel_rfl) (by kernel_rfl) (by kernel_rfl) _ _ n h (fl_get .u64 6 f n h) w
theorem index_i (f : Nat → Int) (n : Nat) (h : n < 6) (w : World) : (Instr.index 48 (.agg (FL .i64 6 f)) (.int .i64 (n : Int))).run Try.prog w = .ok (.int .i64 (f n)) w :=
  index_cell Try.underlying48 (by kernel_rfl) (by kernel_rfl) (by kernel_rfl) _ _ n h (fl_get .i64 6 f n h) w
theorem infoB : (Try.prog.info? 5).map (fun i => (i.zero, i.size, i.bytes)) = some (some (.int .u8 0), 1, 1) := by kernel_rfl
theorem sw_six {W : Nat → Nat} (h : ∀ j, j < 6 → W j ≤ 12) : ∀ n, n ≤ 6 → sw W n ≤ 12 * n := by
  intro n
  induction n with
  | zero => intro _; exact Nat.le_refl _
  | succ n ih => intro hn; rw [sw]; have h1 := ih (by omega); have h2 := h n (by omega); omega

theorem own_row {w : World} {B n g : Nat} {e : TypeId} {xs : List Value} (h : w.ownsRow B e 1 (.slice (some ⟨g, 0, none⟩) n n) n xs) : w.heap[g]? = some (.cells xs.toArray e (0, 0)) := by
  obtain ⟨hl, ⟨hv, -⟩ | ⟨g', cap, cur, hv, -, hg, -, -, hc, hx⟩⟩ := h
  · cases hv
  · injection hv with h1 h2 h3
    injection h1 with h1
    injection h1 with h1
    subst h1
    subst h3
    rw [hg]
    congr 2
    rw [Nat.mul_one] at hc hx
    rw [← hx, List.take_of_length_le (by simp [hc])]
theorem wrap_two (n : Nat) (h : n < 18446744073709551616) : IntKind.u64.wrap (IntKind.i64.wrap (n : Int)) = (n : Int) := by
  rw [IntKind.wrap_i64, IntKind.wrap_u64]; omega
theorem wrap_zero (n : Nat) (h : n < 18446744073709551616) : IntKind.i64.wrap (n : Int) = 0 ↔ n = 0 := by
  rw [IntKind.wrap_i64]; omega
theorem neq_y (y : Nat → Nat) (h : y 2 < 18446744073709551616) (w : World) : (binOp .neq 26 (.agg (adY y)) (.agg (ad 0 0 0 0 0 0))).run Try.prog w = .ok (.bool (!decide (y 0 = 0 ∧ y 1 = 0 ∧ y 2 = 0 ∧ y 3 = 0 ∧ y 4 = 0 ∧ y 5 = 0))) w := by
  unfold adY
  rw [neq_zero]
  congr 3
  simp only [wrap_zero _ h, Int.natCast_eq_zero]
theorem adY_next (X : Nat → Nat) (k : Nat) (hX : X 2 < 18446744073709551616) : adY (fun j => X j / 256 ^ (k + 1)) = ad (X 0 / 256 ^ k / 256 : Nat) (X 1 / 256 ^ k / 256 : Nat) (X 2 / 256 ^ k / 256 : Nat) (X 3 / 256 ^ k / 256 : Nat) (X 4 / 256 ^ k / 256 : Nat) (X 5 / 256 ^ k / 256 : Nat) := by
  unfold adY
  have e : ∀ j, X j / 256 ^ (k + 1) = X j / 256 ^ k / 256 := fun j => by rw [Nat.pow_succ, Nat.div_div_eq_div_mul]
  have h2 : X 2 / 256 ^ k ≤ X 2 := Nat.div_le_self _ _
  simp only [e]
  generalize X 2 / 256 ^ k = z at h2
  congr 1
  rw [IntKind.wrap_i64]
  omega
set_option maxRecDepth 100000 in
set_option maxHeartbeats 4000000 in
theorem encode_any (X : Nat → Nat) (W : Nat → Nat) (w : World) (hX : ∀ j, j < 6 → X j < 18446744073709551616) (hW : ∀ j, j < 6 → W j ≤ 12) :
    Calls Try.prog 27 #[.agg (adY X), .agg (FL .i64 6 fun j => (W j : Int))] w fun e w' => e = .returned (.string ⟨(cat X W 6).toArray⟩) ∧ Below w.heap.size w w' := by
  have hsw := sw_six hW
  have HX := Away.mk hX
  have HW := Away.mk hW
  have HSW := Away.mk hsw
  obtain ⟨F, HF⟩ := ex_eq (FL .i64 6 fun j => (W j : Int))
  have Fi : Away ((Try.prog.info? 48).map (·.size) = some F.size) := ⟨by rw [← HF.out, fl_size]; kernel_rfl⟩
  have Hix : Away (∀ n : Nat, n < 6 → ∀ w1 : World, (Instr.index 48 (.agg F) (.int .i64 (n : Int))).run Try.prog w1 = .ok (.int .i64 (W n)) w1) := ⟨fun n hn w1 => by rw [← HF.out]; exact index_i _ n hn w1⟩
  have Hcell : Away (∀ (w1 : World) (g : Nat), w1.heap[g]? = some (.cells F 48 (0, 0)) → ∀ n, n < 6 → w1.cell? ⟨g, n, none⟩ = some (.int .i64 (W n))) := ⟨fun w1 g hg n hn => by rw [← HF.out] at hg; exact fl_at hg n hn⟩
  rw [HF.out]
  obtain ⟨V, HV⟩ := ex_eq (adY X)
  rw [HV.out]
  obtain ⟨i0, hi, hz0, hz1, hz2⟩ := info_parts infoB
  obtain ⟨W0, hW0⟩ : ∃ x, (w.alloc (.cells V 26)).alloc (.cells F 48) = x := ⟨_, rfl⟩
  obtain ⟨ra, rw6, hs0, hb0⟩ := two hW0
  have HW0 := Away.mk hW0
  have Ra := Away.mk ra
  have Rw := Away.mk rw6
  have B0 := Away.mk hb0
  have Hs0 := Away.mk hs0
  clear hW0 ra rw6 hb0 hX hW hsw hs0
  go_enter Try.func27, Try.ntmps27
  go_wp2_with (first
    | (rw [HW0.out])
    | (refine wpList_load_row rfl 48 _ rfl (w.heap.size + 1) rfl 48 F (0, 0) _ Rw.out Try.underlying48 rfl Fi.out ?_))
  go_loop [5, 14] (fun s i => ∃ n : Nat, n ≤ 6 ∧ i = .int .i64 (n : Int) ∧ s = .int .i64 (sw W n : Int)) (fun _ i => 6 - (intOf i).toNat)
  case atStart => exact ⟨0, Nat.zero_le _, rfl, rfl⟩
  case round =>
    obtain ⟨n, hn, rfl, rfl⟩ := hrel
    by_cases hlt : n < 6
    · have hx := Hix.out n hlt
      have hs1 := HSW.out n hn
      have hs2 := HW.out n hlt
      have hs3 : sw W (n + 1) = sw W n + W n := rfl
      obtain ⟨s, hs⟩ : ∃ s, sw W n = s := ⟨_, rfl⟩
      obtain ⟨v, hv⟩ : ∃ v, W n = v := ⟨_, rfl⟩
      rw [hs] at hs1 hs3 ⊢
      rw [hv] at hx hs2 hs3
      go_wp2_with fail
      go_round
      case rel => exact ⟨n + 1, by omega, by go_num, by rw [hs3]; go_num⟩
      case measure => simp [intOf]; omega
    · obtain rfl : n = 6 := by omega
      simp only [Int.cast_ofNat_Int]
      have hs6 := HSW.out 6 (Nat.le_refl _)
      obtain ⟨S, hS⟩ : ∃ s, sw W 6 = s := ⟨_, rfl⟩
      rw [hS] at hs6 ⊢
      go_wp2_with (at_make; refine wpList_make_full _ rfl (.tmp 21) (.tmp 21) 53 rfl W0.heap.size 5 i0 (.int .u8 0) 1 Try.underlying53 hi hz0 hz1 .i64 .i64 S S S rfl rfl rfl rfl (by rw [hz2]; omega) (by unfold maxLen; omega) (Nat.le_refl _) ?_; intro w1 hown hgrow)
      have hb1 : Below W0.heap.size W0 w1 := (Below.refl _ _).grown hgrow (Nat.le_refl _) (fun k hk => by simp at hk)
      have hown0 : w1.ownsRow W0.heap.size 5 1 (Value.slice (some ⟨W0.heap.size, 0, none⟩) S S) S (List.replicate S (.int .u8 0)) := by
        simpa [Value.cells, toList_madeCells_one] using hown
      have hrow := own_row hown0
      rw [u8c_zeros, ← hS, ← cat_zeros X W 6] at hrow
      have Hb : Away (w1.heap[W0.heap.size]? = some (.cells (u8c (cat (mid X 0 0) W 6)) 5 (0, 0))) := ⟨hrow⟩
      have Ha : Away (w1.heap[w.heap.size]? = some (.cells (adY fun j => X j / 256 ^ 0) 26 (0, 0))) := ⟨by
        simp only [Nat.pow_zero, Nat.div_one]
        rw [HV.out]
        exact (hb1.block _ (lt_of_row Ra.out)).trans Ra.out⟩
      have Hw : Away (w1.heap[w.heap.size + 1]? = some (.cells F 48 (0, 0))) := ⟨(hb1.block _ (lt_of_row Rw.out)).trans Rw.out⟩
      have HB : Away (Below w.heap.size w w1) := ⟨B0.out.trans (hb1.mono B0.out.size)⟩
      have Hga : Away (w.heap.size < W0.heap.size ∧ w.heap.size + 1 < W0.heap.size) := ⟨lt_of_row Ra.out, lt_of_row Rw.out⟩
      have HS := Away.mk hS
      clear hown hgrow hown0 hrow hS hlt hn hz0 hz1 hz2 hi hb1
      obtain ⟨gb, hgb⟩ : ∃ g, W0.heap.size = g := ⟨_, rfl⟩
      obtain ⟨ga, hga⟩ : ∃ g, w.heap.size = g := ⟨_, rfl⟩
      rw [hgb] at Hb Hga ⊢
      rw [hga] at Ha Hw HB Hga ⊢
      have Hgaw := Away.mk hga
      clear hgb hga
      go_loopw [9] (fun i wr => ∃ k : Nat, k ≤ 8 ∧ i = .int .i64 (k : Int) ∧ Away (wr.heap[ga]? = some (.cells (adY fun j => X j / 256 ^ k) 26 (0, 0))) ∧ Away (wr.heap[ga + 1]? = some (.cells F 48 (0, 0))) ∧ Away (wr.heap[gb]? = some (.cells (u8c (cat (mid X k 0) W 6)) 5 (0, 0))) ∧ Away (Below ga w wr)) (fun i _ => 9 - (intOf i).toNat)
      case atStart => exact ⟨0, Nat.zero_le _, rfl, Ha, Hw, Hb, HB⟩
      case round =>
        obtain ⟨k, hk, rfl, Ra1, Rw1, Rb1, B1⟩ := hrel
        rename World => wo
        clear Ha Hw Hb HB
        obtain ⟨y, hy⟩ : ∃ y : Nat → Nat, (fun j => X j / 256 ^ k) = y := ⟨_, rfl⟩
        have hyj : ∀ j, y j = X j / 256 ^ k := fun j => by rw [← hy]
        have hyl : ∀ j, j < 6 → y j < 18446744073709551616 := fun j hj => by rw [hyj]; exact Nat.lt_of_le_of_lt (Nat.div_le_self _ _) (HX.out j hj)
        have HN := fun w1 => neq_y y (hyl 2 (by decide)) w1
        have hrow := Ra1.out
        rw [hy] at hrow Ra1
        obtain ⟨V1, HV1⟩ := ex_eq (adY y)
        rw [HV1.out] at Ra1 HN
        have Vi : Away ((Try.prog.info? 26).map (·.size) = some V1.size) := ⟨by rw [← HV1.out]; kernel_rfl⟩
        by_cases hz : y 0 = 0 ∧ y 1 = 0 ∧ y 2 = 0 ∧ y 3 = 0 ∧ y 4 = 0 ∧ y 5 = 0
        · rw [decide_eq_true hz] at HN
          have hfull : cat (mid X k 0) W 6 = cat X W 6 := cat_full X W k 6 fun j hj => by
            rw [← hyj]
            obtain ⟨z0, z1, z2, z3, z4, z5⟩ := hz
            obtain rfl | rfl | rfl | rfl | rfl | rfl : j = 0 ∨ j = 1 ∨ j = 2 ∨ j = 3 ∨ j = 4 ∨ j = 5 := by omega
            · exact z0
            · exact z1
            · exact z2
            · exact z3
            · exact z4
            · exact z5
          rw [hfull] at Rb1
          have hlen : (cat X W 6).length = S := by rw [cat_length]; exact HS.out
          have hcv := run_convert_bytes_back (P := Try.prog) wo 53 9 5 ⟨gb, 0, none⟩ S (cat X W 6) Try.underlying53 Try.underlying5 Try.underlying9 (fun j hj => by
            rw [addr_add]
            exact cell_at Rb1.out (u8c_get _ j hj))
          rw [hlen] at hcv
          clear hz hfull hlen hrow hyl hyj hy
          go_wp2_with (first
            | (refine wpList_load_row rfl 26 _ rfl ga rfl 26 V1 (0, 0) _ Ra1.out Try.underlying26 rfl Vi.out ?_)
            | ((with_reducible refine wpList_neqA rfl _ _ rfl V1 _ _ ?hx ?hy HN ?_); (case hx => rfl); (case hy => rfl)))
          go_ret
          exact ⟨rfl, by rw [Hgaw.out]; exact B1.out⟩
        · rw [decide_eq_false hz] at HN
          have hk8 : k < 8 := by
            refine Nat.lt_of_not_le fun q => hz ?_
            obtain rfl : k = 8 := by omega
            have e : ∀ j, j < 6 → y j = 0 := fun j hj => by rw [hyj]; exact Nat.div_eq_of_lt (HX.out j hj)
            exact ⟨e 0 (by decide), e 1 (by decide), e 2 (by decide), e 3 (by decide), e 4 (by decide), e 5 (by decide)⟩
          have hcv := wrap_two (y 2) (hyl 2 (by decide))
          obtain ⟨Y, HY⟩ := ex_eq (FL .u64 6 fun j => (y j : Int))
          have HYe : (#[.int .u64 (y 0), .int .u64 (y 1), .int .u64 (y 2), .int .u64 (y 3), .int .u64 (y 4), .int .u64 (y 5)] : Array Value) = Y := by rw [← HY.out]; rfl
          have Hiy : Away (∀ n : Nat, n < 6 → ∀ w1 : World, (Instr.index 54 (.agg Y) (.int .i64 (n : Int))).run Try.prog w1 = .ok (.int .u64 (y n)) w1) := ⟨fun n hn w1 => by rw [← HY.out]; exact index_u _ n hn w1⟩
          have k0 : wo.cell? ⟨ga, 0, none⟩ = some (.int .u64 (y 0)) := cell_at hrow rfl
          have k1 : wo.cell? ⟨ga, 1, none⟩ = some (.int .u64 (y 1)) := cell_at hrow rfl
          have k2 : wo.cell? ⟨ga, 2, none⟩ = some (.int .i64 (IntKind.i64.wrap (y 2))) := cell_at hrow rfl
          have k3 : wo.cell? ⟨ga, 3, none⟩ = some (.int .u64 (y 3)) := cell_at hrow rfl
          have k4 : wo.cell? ⟨ga, 4, none⟩ = some (.int .u64 (y 4)) := cell_at hrow rfl
          have k5 : wo.cell? ⟨ga, 5, none⟩ = some (.int .u64 (y 5)) := cell_at hrow rfl
          have HAb : Away (∀ w1 : World, Calls Try.prog 31 #[.agg V1] w1 fun e w' => e = .returned (.agg (adY fun j => X j / 256 ^ (k + 1))) ∧ Below w1.heap.size w1 w') := ⟨fun w1 => by
            rw [← HV1.out, adY_next X k (HX.out 2 (by decide)), ← hyj, ← hyj, ← hyj, ← hyj, ← hyj, ← hyj]
            exact adb.above_any (y 0) (y 1) (y 2) (y 3) (y 4) (y 5) _ w1 hcv (hyl 2 (by decide))⟩
          obtain ⟨V2, HV2⟩ := ex_eq (adY fun j => X j / 256 ^ (k + 1))
          rw [HV2.out] at HAb
          have V2i : Away ((Try.prog.info? 26).map (·.size) = some V2.size) := ⟨by rw [← HV2.out]; kernel_rfl⟩
          have V2s : Away (V1.size = V2.size) := ⟨by rw [← HV2.out, ← HV1.out]; rfl⟩
          have V2o : Away (V2.all (·.oneCell') = true) := ⟨by rw [← HV2.out]; exact ad_one ..⟩
          have Hyj := Away.mk hyj
          obtain ⟨c, hc2⟩ : ∃ c, IntKind.i64.wrap (y 2 : Int) = c := ⟨_, rfl⟩
          rw [hc2] at hcv k2
          clear hz hrow hyl hyj hy hc2
          go_wp2_with (first
            | (refine wpList_load_row rfl 26 _ rfl ga rfl 26 V1 (0, 0) _ Ra1.out Try.underlying26 rfl Vi.out ?_)
            | ((with_reducible refine wpList_neqA rfl _ _ rfl V1 _ _ ?hx ?hy HN ?_); (case hx => rfl); (case hy => rfl)))
          clear HYe HN hcv k0 k1 k2 k3 k4 k5
          go_loopw [10, 42] (fun e i wr => ∃ n : Nat, n ≤ 6 ∧ i = .int .i64 (n : Int) ∧ e = .int .i64 (sw W n : Int) ∧ Away (At gb (u8c (cat (mid X k n) W 6)) 5 wo wr)) (fun _ i _ => 6 - (intOf i).toNat)
          case atStart => exact ⟨0, Nat.zero_le _, rfl, rfl, ⟨At.refl Rb1.out⟩⟩
          case round =>
            obtain ⟨n, hn, rfl, rfl, HA⟩ := hrel
            by_cases hlt : n < 6
            · have hx := Hiy.out n hlt
              have hc := Hcell.out wr (ga + 1) (HA.out.other (lt_of_row Rw1.out) (by have := Hga.out; omega) Rw1.out) n hlt
              have hs1 := HSW.out n hn
              have hs2 := HW.out n hlt
              have hs3 : sw W (n + 1) = sw W n + W n := rfl
              have hs4 : sw W n + W n ≤ S := by have := sw_le (W := W) hlt; rw [HS.out] at this; exact this
              have hst := fun (q : k < W n) => cat_step X W k n 6 hlt q
              have hsl := fun (q : W n ≤ k) => cat_still X W k n 6 q
              have hby : ((byteAt (X n) k).toNat : Int) = (y n : Int) % 256 := by rw [byteAt_toNat, ← Hyj.out]; omega
              have HCs : Away ((u8c (cat (mid X k n) W 6)).size = S) := ⟨by rw [u8c_size, cat_length]; exact HS.out⟩
              obtain ⟨C, HC⟩ := ex_eq (u8c (cat (mid X k n) W 6))
              obtain ⟨s, hs⟩ : ∃ s, sw W n = s := ⟨_, rfl⟩
              obtain ⟨v, hv⟩ : ∃ v, W n = v := ⟨_, rfl⟩
              obtain ⟨z, hz⟩ : ∃ z, y n = z := ⟨_, rfl⟩
              rw [HC.out] at HA HCs
              rw [hs] at hs1 hs3 hs4 hst ⊢
              rw [hv] at hc hs2 hs3 hs4 hst hsl
              rw [hz] at hx hby
              have Hby := Away.mk hby
              clear hs hv hz hby
              by_cases hlv : k < v
              · have Hst := Away.mk (hst hlv)
                clear hst hsl
                have hto : ((s : Int) + (v : Int) - 1 - (k : Int)).toNat = s + (v - 1 - k) := by omega
                go_wp2_with (first
                  | ((with_reducible refine wpList_put2 (by assumption) rfl _ _ _ rfl rfl ?_); refine ⟨_, _, _, rfl, rfl, rfl, (by rw [HCs.out]; omega), ?_⟩; intro wn HRn))
                go_roundw
                case rel => exact ⟨n + 1, by omega, by go_num, by rw [hs3]; go_num, ⟨by
                  have h9 := HRn.out
                  rw [← HC.out] at h9
                  rw [← Hst.out, ← u8c_set _ _ _ _ Hby.out.symm]
                  exact h9⟩⟩
                case measure => simp [intOf]; omega
              · have Hsl := Away.mk (hsl (by omega))
                clear hst hsl
                go_wp2_with fail
                go_roundw
                case rel => exact ⟨n + 1, by omega, by go_num, by rw [hs3]; go_num, ⟨by rw [← Hsl.out, HC.out]; exact HA.out⟩⟩
                case measure => simp [intOf]; omega
            · obtain rfl : n = 6 := by omega
              simp only [Int.cast_ofNat_Int]
              rw [mid_all] at HA
              have Ra2 : Away (wr.heap[ga]? = some (.cells V1 26 (0, 0))) := ⟨HA.out.other (lt_of_row Ra1.out) (by have := Hga.out; omega) Ra1.out⟩
              go_wp2_with (first
                | (refine wpList_load_row rfl 26 _ rfl ga rfl 26 V1 (0, 0) _ Ra2.out Try.underlying26 rfl Vi.out ?_))
              refine (HAb.out _).mono ?_
              rintro e w3 ⟨rfl, hb3⟩
              have Ra3 : Away (w3.heap[ga]? = some (.cells V1 26 (0, 0))) := ⟨(hb3.block _ (lt_of_row Ra2.out)).trans Ra2.out⟩
              have hw3 : w3.heap[ga + 1]? = some (.cells F 48 (0, 0)) := by
                have h9 := HA.out.other (lt_of_row Rw1.out) (by have := Hga.out; omega) Rw1.out
                exact (hb3.block _ (lt_of_row h9)).trans h9
              have hb4 : w3.heap[gb]? = some (.cells (u8c (cat (mid X (k + 1) 0) W 6)) 5 (0, 0)) := (hb3.block _ HA.out.lt).trans HA.out.row
              have hB3 : Below ga w w3 := by
                have hl := lt_of_row Ra1.out
                exact B1.out.trans ((HA.out.below (B := ga) (by omega) (by have := Hga.out; omega)).trans (hb3.mono (by have := lt_of_row Ra2.out; omega)))
              have Rw4 : Away ((w3.setRow ga V2).heap[ga + 1]? = some (.cells F 48 (0, 0))) := ⟨by rw [setRow_other _ _ _ _ (by omega)]; exact hw3⟩
              have Rb4 : Away ((w3.setRow ga V2).heap[gb]? = some (.cells (u8c (cat (mid X (k + 1) 0) W 6)) 5 (0, 0))) := ⟨by rw [setRow_other _ _ _ _ (by have := Hga.out; omega)]; exact hb4⟩
              have Ra4 : Away ((w3.setRow ga V2).heap[ga]? = some (.cells (adY fun j => X j / 256 ^ (k + 1)) 26 (0, 0))) := ⟨by rw [HV2.out]; exact setRow_heap _ _ _ _ _ _ Ra3.out⟩
              have B4 : Away (Below ga w (w3.setRow ga V2)) := ⟨hB3.trans (below_setRow _ _ _ (Nat.le_refl _))⟩
              clear hb3 hw3 hb4 hB3
              go_wp2_with (first
                | (refine wpList_store_row rfl 26 _ _ rfl ga V2 rfl rfl 26 _ Ra3.out V2i.out V2s.out V2o.out ?_))
              go_roundw
              case rel => exact ⟨k + 1, by omega, by go_num, Ra4, Rw4, Rb4, B4⟩
              case measure => simp [intOf]; omega
end Go.Proofs.Ythggakbomlgkhaa.ade
