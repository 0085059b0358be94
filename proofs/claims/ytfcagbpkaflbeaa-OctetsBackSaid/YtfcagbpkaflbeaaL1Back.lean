/-
  The statement OctetsBack (P1.7, P1.8): what octets.Int and octets.Text write is read again by ReadInt and ReadText wherever it stands, and Worth gives back what Fixed writes. Conditions: none; for every input that the form speaks of.
-/
import Derived.Test.YtfcagbpkaflbeaaRows
import Derived.Test.YtfcagbpkaflbeaaAwake
import Derived.Test.YtfcagbpkaflbeaaBackM
import Derived.Test.YtfcagbpkaflbeaaOpen
import Derived.RegionTactic
import Derived.ChangeAlike
import Derived.Deep.QuietTactic
import Derived.BigQuiet
namespace Go.Proofs.Ytfcagbpkaflbeaa.lback
open Go.ChangeShapes Go.WideShapes Go.ChangeAt Go.RowKit
open Go.ChangeMaps (open_string shut_string)
open Go.Proofs.Ytfcagbpkaflbeaa.oct Go.Proofs.Ytfcagbpkaflbeaa.bits8 Go.Proofs.Ytfcagbpkaflbeaa.backm
set_option linter.unusedVariables false
theorem own : ownKnob Try.prog.godebug = none := by kernel_rfl
theorem laidOut : laidOutB Try.prog = true := by kernel_rfl

theorem boxed {w w1 : World} {o : Obj} {nq : Nat} (hb : Below ((w.alloc o).drewN nq).heap.size ((w.alloc o).drewN nq) w1) : Below w.heap.size w w1 :=
  (below_drewN ((Below.refl _ _).alloc (Nat.le_refl _) o) nq).trans (hb.mono (by show w.heap.size ≤ (w.alloc o).heap.size; simp))

section
variable (a t b : ByteArray) (n width : Int) (w : World) (ha : a.size ≤ 140737488355328) (ht : t.size ≤ 140737488355328) (hb : b.size ≤ 140737488355328)
include ha ht hb
set_option maxHeartbeats 1000000 in
theorem walk_long (h : 4000 < a.size + t.size + b.size) :
    Calls Try.prog 5 #[.agg #[.string a, .string t, .string b], .int .i64 n, .int .i64 width] w fun e w' => e = .returned (.bool true) ∧ Below w.heap.size w w' := by
  go_enter Try.func5, Try.ntmps5
  go_wp2_with fail
  go_quiet (fail)
  go_wp2_with fail
  refine (awake.awake_any _).mono ?_
  rintro e w1 ⟨rfl, hb⟩
  go_wp2_with fail
  go_ret
  exact ⟨rfl, boxed hb⟩
set_option maxHeartbeats 600000 in
theorem walk_out (h : a.size + t.size + b.size ≤ 4000) (Hi : Hid (intL n = ([], 6))) (u k j P V : Nat) (hk : k ≤ 100) (hun : IntKind.u64.wrap n = (u : Int)) (hkw : (IntKind.u64.wrap width).tmod 8 = (k : Int))
    (Hu : Hid (u < 18446744073709551616)) (h8 : 8 * (k : Int) = (j : Int)) (hsh : Op.shift .shl .u64 1 .u64 (j : Int) = pure (.int .u64 (P : Int))) (hP1 : 1 ≤ P) (hP2 : P ≤ 72057594037927936) (hand : bits .and .u64 (u : Int) ((P : Int) - 1) = (V : Int))
    (Hv : Hid (woU (fixL u k) = V)) (hlen : (fixL u k).length = k) (y : List UInt8) (hyl : y.length ≤ 5000) (t2 : Nat) (ht2 : a.size + y.length = t2) (Hy : Hid (textL t.data.toList 5000 = (y, 0)))
    (Hz : Hid (rdText (a.data.toList ++ y ++ b.data.toList) (a.size : Int) 5000 = (t.data.toList, (t2 : Int), 0))) (Hs : Hid ((a ++ ⟨y.toArray⟩ ++ b).size ≤ 281474976710656)) (Hx : Hid ((⟨(fixL u k).toArray⟩ : ByteArray).size ≤ maxLen)) :
    Calls Try.prog 5 #[.agg #[.string a, .string t, .string b], .int .i64 n, .int .i64 width] w fun e w' => e = .returned (.bool true) ∧ Below w.heap.size w w' := by
  have Hl := Lib.hid ht2
  clear ht2
  go_enter Try.func5, Try.ntmps5
  go_wp2_with fail
  go_quiet (fail)
  go_wp2_with fail
  refine (ints.int_any _ _).mono ?_
  rintro e w1 ⟨rfl, hb1⟩
  rw [Hi.out]
  go_wp2_with fail
  refine (texts.text_any _ _ _ (by omega)).mono ?_
  rintro e w3 ⟨rfl, hb3⟩
  rw [Hy.out]
  go_wp2_with fail
  refine (texts.readText_any _ _ _ _ Hs.out).mono ?_
  rintro e w4 ⟨rfl, hb4⟩
  rw [join3, Hz.out]
  rw [show (⟨t.data.toList.toArray⟩ : ByteArray) = t from rfl]
  go_wp2_with fail
  refine (fixed.fixed_any u k _ Hu.out).mono ?_
  rintro e w5 ⟨rfl, hb5⟩
  rw [fixS_wd u k (by omega)]
  have hl2 : (a.size : Int) + (y.length : Int) = (t2 : Int) := by have := Hl.out; omega
  go_wp2_with fail
  refine (worth.worth_any _ _ Hx.out).mono ?_
  rintro e w6 ⟨rfl, rfl⟩
  rw [show (⟨(fixL u k).toArray⟩ : ByteArray).data.toList = fixL u k from rfl, Hv.out]
  go_wp2_with fail
  refine (awake.awake_any _).mono ?_
  rintro e w7 ⟨rfl, hb7⟩
  go_wp2_with fail
  go_ret
  have s1 := hb1.size
  have s3 := hb3.size
  have s4 := hb4.size
  have s5 := hb5.size
  exact ⟨rfl, boxed ((((hb1.trans (hb3.mono (by omega))).trans (hb4.mono (by omega))).trans (hb5.mono (by omega))).trans (hb7.mono (by omega)))⟩
set_option maxHeartbeats 600000 in
theorem walk_mid (h : a.size + t.size + b.size ≤ 4000) (u : Nat) (hu : u ≤ 1125899906842624) (x : List UInt8) (hxl : x.length ≤ 8) (Hi : Hid (intL u = (x, 0))) (t1 : Nat) (ht1 : a.size + x.length = t1)
    (Hr : Hid (rdInt (a.data.toList ++ x ++ b.data.toList) (a.size : Int) = ((u : Int), (t1 : Int), 0))) (Hs1 : Hid ((a ++ ⟨x.toArray⟩ ++ b).size ≤ 9223372036854775800)) (k j P V : Nat) (hk : k ≤ 100) (hkw : (IntKind.u64.wrap width).tmod 8 = (k : Int))
    (Hu : Hid (u < 18446744073709551616)) (h8 : 8 * (k : Int) = (j : Int)) (hsh : Op.shift .shl .u64 1 .u64 (j : Int) = pure (.int .u64 (P : Int))) (hP1 : 1 ≤ P) (hP2 : P ≤ 72057594037927936) (hand : bits .and .u64 (u : Int) ((P : Int) - 1) = (V : Int))
    (Hv : Hid (woU (fixL u k) = V)) (hlen : (fixL u k).length = k) (y : List UInt8) (hyl : y.length ≤ 5000) (t2 : Nat) (ht2 : a.size + y.length = t2) (Hy : Hid (textL t.data.toList 5000 = (y, 0)))
    (Hz : Hid (rdText (a.data.toList ++ y ++ b.data.toList) (a.size : Int) 5000 = (t.data.toList, (t2 : Int), 0))) (Hs : Hid ((a ++ ⟨y.toArray⟩ ++ b).size ≤ 281474976710656)) (Hx : Hid ((⟨(fixL u k).toArray⟩ : ByteArray).size ≤ maxLen)) :
    Calls Try.prog 5 #[.agg #[.string a, .string t, .string b], .int .i64 u, .int .i64 width] w fun e w' => e = .returned (.bool true) ∧ Below w.heap.size w w' := by
  have Hl := Lib.hid ht2
  have Hl1 := Lib.hid ht1
  clear ht2 ht1
  go_enter Try.func5, Try.ntmps5
  go_wp2_with fail
  go_quiet (fail)
  go_wp2_with fail
  refine (ints.int_any _ _).mono ?_
  rintro e w1 ⟨rfl, hb1⟩
  rw [Hi.out]
  go_wp2_with fail
  refine (reads.readInt_any _ _ _ Hs1.out).mono ?_
  rintro e w2 ⟨rfl, rfl⟩
  rw [join3, Hr.out]
  unfold reads.tri
  have hl1 : (a.size : Int) + (x.length : Int) = (t1 : Int) := by have := Hl1.out; omega
  go_wp2_with fail
  refine (texts.text_any _ _ _ (by omega)).mono ?_
  rintro e w3 ⟨rfl, hb3⟩
  rw [Hy.out]
  go_wp2_with fail
  refine (texts.readText_any _ _ _ _ Hs.out).mono ?_
  rintro e w4 ⟨rfl, hb4⟩
  rw [join3, Hz.out]
  rw [show (⟨t.data.toList.toArray⟩ : ByteArray) = t from rfl]
  go_wp2_with fail
  refine (fixed.fixed_any u k _ Hu.out).mono ?_
  rintro e w5 ⟨rfl, hb5⟩
  rw [fixS_wd u k (by omega)]
  have hl2 : (a.size : Int) + (y.length : Int) = (t2 : Int) := by have := Hl.out; omega
  go_wp2_with fail
  refine (worth.worth_any _ _ Hx.out).mono ?_
  rintro e w6 ⟨rfl, rfl⟩
  rw [show (⟨(fixL u k).toArray⟩ : ByteArray).data.toList = fixL u k from rfl, Hv.out]
  go_wp2_with fail
  refine (awake.awake_any _).mono ?_
  rintro e w7 ⟨rfl, hb7⟩
  go_wp2_with fail
  go_ret
  have s1 := hb1.size
  have s3 := hb3.size
  have s4 := hb4.size
  have s5 := hb5.size
  exact ⟨rfl, boxed ((((hb1.trans (hb3.mono (by omega))).trans (hb4.mono (by omega))).trans (hb5.mono (by omega))).trans (hb7.mono (by omega)))⟩
end
theorem walk (a t b : ByteArray) (n width : Int) (w : World) (wa : a.size ≤ 140737488355328) (wt : t.size ≤ 140737488355328) (wb : b.size ≤ 140737488355328) (w1 : (Lit.int .i64 n).wf = true) (w2 : (Lit.int .i64 width).wf = true) :
    Calls Try.prog 5 #[.agg #[.string a, .string t, .string b], .int .i64 n, .int .i64 width] w fun e w' => e = .returned (.bool true) ∧ Below w.heap.size w w' := by
  by_cases h : 4000 < a.size + t.size + b.size
  · exact walk_long a t b n width w wa wt wb h
  have h' : a.size + t.size + b.size ≤ 4000 := by omega
  have hal : a.data.toList.length = a.size := rfl
  have htl : t.data.toList.length = t.size := rfl
  have hbl : b.data.toList.length = b.size := rfl
  obtain ⟨u, hu⟩ : ∃ u : Nat, IntKind.u64.wrap n = (u : Int) := Int.eq_ofNat_of_zero_le (by rw [IntKind.wrap_u64]; omega)
  have hu64 : u < 18446744073709551616 := by rw [IntKind.wrap_u64] at hu; omega
  obtain ⟨k, hk⟩ : ∃ k : Nat, (IntKind.u64.wrap width).tmod 8 = (k : Int) := Int.eq_ofNat_of_zero_le (by rw [IntKind.wrap_u64, Int.tmod_eq_emod_of_nonneg (by omega)]; omega)
  have hk8 : k ≤ 7 := by rw [IntKind.wrap_u64, Int.tmod_eq_emod_of_nonneg (by omega)] at hk; omega
  have hP : 256 ^ k ≤ 256 ^ 7 := Nat.pow_le_pow_right (by omega) hk8
  have hP0 : 0 < 256 ^ k := Nat.pow_pos (by omega)
  have hw := wd_le t.size
  have hy : textL t.data.toList 5000 = ((UInt8.ofNat (wd t.size) :: fixL t.size (wd t.size)) ++ t.data.toList, 0) := by rw [textL_good _ _ (by omega) (by omega)]; rfl
  have hyl : ((UInt8.ofNat (wd t.size) :: fixL t.size (wd t.size)) ++ t.data.toList).length = 1 + wd t.size + t.size := by
    simp only [List.length_append, List.length_cons, fixL_length, htl]; omega
  have hz : rdText (a.data.toList ++ ((UInt8.ofNat (wd t.size) :: fixL t.size (wd t.size)) ++ t.data.toList) ++ b.data.toList) (a.size : Int) 5000 = (t.data.toList, ((a.size + (1 + wd t.size + t.size) : Nat) : Int), 0) := by
    have := text_core a.data.toList t.data.toList b.data.toList 5000 (by omega) (by omega)
    rw [htl, hal] at this
    rw [this]
    refine Prod.ext rfl (Prod.ext ?_ rfl)
    simp only
    omega
  have hs : (a ++ ⟨((UInt8.ofNat (wd t.size) :: fixL t.size (wd t.size)) ++ t.data.toList).toArray⟩ ++ b).size ≤ 281474976710656 := by
    show (a ++ ⟨((UInt8.ofNat (wd t.size) :: fixL t.size (wd t.size)) ++ t.data.toList).toArray⟩ ++ b).data.toList.length ≤ _
    rw [join3, List.length_append, List.length_append, hyl]
    omega
  have hx : (⟨(fixL u k).toArray⟩ : ByteArray).size ≤ maxLen := by
    show (fixL u k).length ≤ _
    rw [fixL_length]
    unfold maxLen
    omega
  by_cases hn : n < 0 ∨ 1125899906842624 < n
  · exact walk_out a t b n width w wa wt wb h' (Lib.hid (intL_out n hn)) u k (8 * k) (256 ^ k) (u % 256 ^ k) (by omega) hu hk (Lib.hid hu64) (by omega) (shl_one k .u64 hk8) (by omega) (by omega) (and_low u k hu64 hk8) (Lib.hid (fix_low u k hk8)) (fixL_length u k)
      _ (by omega) _ (by rw [hyl]) (Lib.hid hy) (Lib.hid hz) (Lib.hid hs) (Lib.hid hx)
  · obtain ⟨m, rfl⟩ := Int.eq_ofNat_of_zero_le (show 0 ≤ n by omega)
    have hm : m ≤ 1125899906842624 := by omega
    have hum : u = m := by rw [IntKind.wrap_u64] at hu; omega
    subst hum
    have hwm := wd_le u
    have hil : (UInt8.ofNat (wd u) :: fixL u (wd u)).length = 1 + wd u := by rw [List.length_cons, fixL_length]; omega
    have hr : rdInt (a.data.toList ++ (UInt8.ofNat (wd u) :: fixL u (wd u)) ++ b.data.toList) (a.size : Int) = ((u : Int), ((a.size + (1 + wd u) : Nat) : Int), 0) := by
      have := rd_core a.data.toList b.data.toList u hm
      rw [hal] at this
      rw [this]
      refine Prod.ext rfl (Prod.ext ?_ rfl)
      simp only
      omega
    have hs1 : (a ++ ⟨(UInt8.ofNat (wd u) :: fixL u (wd u)).toArray⟩ ++ b).size ≤ 9223372036854775800 := by
      show (a ++ ⟨(UInt8.ofNat (wd u) :: fixL u (wd u)).toArray⟩ ++ b).data.toList.length ≤ _
      rw [join3, List.length_append, List.length_append, hil]
      omega
    exact walk_mid a t b width w wa wt wb h' u hm _ (by omega) (Lib.hid (intL_in u hm)) _ (by rw [hil]) (Lib.hid hr) (Lib.hid hs1) k (8 * k) (256 ^ k) (u % 256 ^ k) (by omega) hk (Lib.hid hu64) (by omega) (shl_one k .u64 hk8) (by omega) (by omega) (and_low u k hu64 hk8)
      (Lib.hid (fix_low u k hk8)) (fixL_length u k) _ (by omega) _ (by rw [hyl]) (Lib.hid hy) (Lib.hid hz) (Lib.hid hs) (Lib.hid hx)
/-! ### The row -/
set_option maxRecDepth 100000 in
theorem lifted (os : Os) (started : os.Started) (H : Type) (enc : TypeId × Value → H) :
    ReturnsInHanded {} Try.checked os 5 .any (Rows.octetsBackSpec.pre6 enc Try.prog Try.f5 Rows.octetsBackRow.domain false) (Rows.octetsBackSpec.post enc Try.prog Try.f5 false true false false) := by
  refine returnsInHanded_of_change_sized (C := Try.checked) own started (by kernel_rfl) Try.func5
    (ChangeSpec.witness6 (enc := enc) (C := Try.checked) false ⟨#[], #[.agg #[.string ByteArray.empty, .string ByteArray.empty, .string ByteArray.empty], .int .i64 0, .int .i64 0], []⟩ 8 (by kernel_rfl) (by kernel_rfl) (by kernel_rfl) (by kernel_rfl)) ?_
  intro W base args ds gs before hval0 hW hcnd hsz _
  have hval : ∀ (j : Nat) t v, Try.f5.params[j]? = some t → args[j]? = some v → Value.okWide Try.prog W .any base t v := hval0
  have hW' := hW
  have hlt := hW.lt
  obtain ⟨p, q, hA0, hV, rfl, hfz, hnd⟩ := hW
  have hA : DataW.TrodAll enc Try.prog W 0 (fun _ => true) true Try.f5.params.toList args.toList ds p := hA0
  rw [Try.params5] at hA hval
  obtain ⟨v0, vs0, d0, ds0, p0, q0, hargs, rfl, rfl, h0, r0⟩ := trodAll_cons hA
  obtain ⟨v1, vs1, d1, ds1, p1, q1, rfl, rfl, rfl, h1, r1⟩ := trodAll_cons r0
  obtain ⟨v2, vs2, d2, ds2, p2, q2, rfl, rfl, rfl, h2, r2⟩ := trodAll_cons r1
  obtain ⟨rfl, rfl, rfl⟩ := trodAll_nil r2
  obtain rfl : args = #[v0, v1, v2] := by cases args; simp_all
  obtain ⟨rfl, rfl⟩ := trodVars_none hV
  obtain ⟨a0, b0, c0, rfl, rfl, rfl⟩ := opens.open_strings3 Try.underlying37 Try.underlying9 (by kernel_rfl) (by kernel_rfl) (hval 0 37 v0 rfl rfl) h0
  have wa0 : a0.size ≤ 140737488355328 := Nat.le_trans (opens.sized_array hsz (j := 0) rfl rfl Try.underlying37 (bytes := a0.data.toList) (by simp)) (Nat.le_of_lt reachBytes_lt)
  have wb0 : b0.size ≤ 140737488355328 := Nat.le_trans (opens.sized_array hsz (j := 0) rfl rfl Try.underlying37 (bytes := b0.data.toList) (by simp)) (Nat.le_of_lt reachBytes_lt)
  have wc0 : c0.size ≤ 140737488355328 := Nat.le_trans (opens.sized_array hsz (j := 0) rfl rfl Try.underlying37 (bytes := c0.data.toList) (by simp)) (Nat.le_of_lt reachBytes_lt)
  obtain ⟨a1, rfl, rfl, rfl, w1⟩ := open_int Try.underlying3 (hval 1 3 v1 rfl rfl) h1
  obtain ⟨a2, rfl, rfl, rfl, w2⟩ := open_int Try.underlying3 (hval 2 3 v2 rfl rfl) h2
  clear hA0 hval0
  refine (walk a0 b0 c0 a1 a2 W wa0 wb0 wc0 w1 w2).mono fun e W' ⟨he, bel⟩ => ?_
  subst he
  exact ⟨_, rfl, _, _, _, [], _, [], hW', trodAll_mk1 (shut_bool Try.underlying4 _), (trodAll_cons_mk (Below.trod laidOut (by kernel_rfl) (of_decide_eq_true (by kernel_rfl)) h0 bel (fun x hx => by first | exact absurd hx (by simp) | exact hlt x (by simpa using hx) | exact hlt x (by simp; exact Or.inl hx) | exact hlt x (by simp; exact Or.inr hx) | exact hlt x (by simp; exact Or.inr (Or.inl hx)) | exact hlt x (by simp; exact Or.inr (Or.inr hx)))) (trodAll_cons_mk (Below.trod laidOut (by kernel_rfl) (of_decide_eq_true (by kernel_rfl)) h1 bel (fun x hx => by first | exact absurd hx (by simp) | exact hlt x (by simpa using hx) | exact hlt x (by simp; exact Or.inl hx) | exact hlt x (by simp; exact Or.inr hx) | exact hlt x (by simp; exact Or.inr (Or.inl hx)) | exact hlt x (by simp; exact Or.inr (Or.inr hx)))) (trodAll_cons_mk (Below.trod laidOut (by kernel_rfl) (of_decide_eq_true (by kernel_rfl)) h2 bel (fun x hx => by first | exact absurd hx (by simp) | exact hlt x (by simpa using hx) | exact hlt x (by simp; exact Or.inl hx) | exact hlt x (by simp; exact Or.inr hx) | exact hlt x (by simp; exact Or.inr (Or.inl hx)) | exact hlt x (by simp; exact Or.inr (Or.inr hx)))) trodAll_mk0))), rfl, bel.frame _, fun h => by cases h⟩

theorem over : Rows.octetsBackRow.holds Try.pinned (OpenSpec.ofChange Rows.octetsBackSpec) :=
  OpenClaim.holds_of_wide 5 Try.f5 rfl rfl rfl rfl rfl rfl rfl ⟨rfl, rfl, rfl, rfl, rfl⟩ rfl rfl rfl rfl rfl (by kernel_rfl) Try.func5 (by kernel_rfl)
    (of_decide_eq_true (by kernel_rfl)) (by unfold Func.isWrapper; first | (rw [if_pos (by decide +kernel)]; kernel_rfl) | (rw [if_neg (by decide +kernel)]; exact ⟨rfl, rfl⟩))
    (fun os started H enc _ => lifted os started H enc)

theorem proved : Rows.OctetsBackSaid :=
  over
end Go.Proofs.Ytfcagbpkaflbeaa.lback
