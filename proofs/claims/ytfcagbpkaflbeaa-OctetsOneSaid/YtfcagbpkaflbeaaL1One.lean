/-
  The statement OctetsOne (P1.7): bytes that octets.ReadInt or octets.ReadText decode as a number or a string are the encoding of that number or string. Conditions: none; for every string and every offset that the form speaks of.
-/
import Derived.Test.YtfcagbpkaflbeaaRows
import Derived.Test.YtfcagbpkaflbeaaAwake
import Derived.ProofKit
import Derived.OpenShut
import Derived.ShutString
import Derived.HandedFrom
namespace Go.Proofs.Ytfcagbpkaflbeaa.one
open Go.ChangeShapes Go.WideShapes Go.ChangeAt Go.RowKit
open Go.ChangeMaps (open_string shut_string)
open Go.Proofs.Ytfcagbpkaflbeaa.oct Go.Proofs.Ytfcagbpkaflbeaa.bits8 Go.Proofs.Ytfcagbpkaflbeaa.reads
set_option linter.unusedVariables false

theorem own : ownKnob Try.prog.godebug = none := by kernel_rfl

/-! ### Plain facts -/

/-- what ReadInt took is what Int writes -/
theorem win_int (l : List UInt8) (n q c : Nat) (hn : n ≤ 1125899906842624) (hl : q + 1 + c ≤ l.length) (hc : c ≤ 7) (e : n = wo ((l.drop (q + 1)).take c))
    (h0 : l[q]? = some (UInt8.ofNat c)) (hz : 0 < c → (l[q + 1]?.getD 0).toNat ≠ 0) :
    wd n = c ∧ UInt8.ofNat c :: fixL n c = (l.drop q).take (1 + c) := by
  have hlen : ((l.drop (q + 1)).take c).length = c := by rw [List.length_take, List.length_drop]; omega
  have hlt := wo_lt ((l.drop (q + 1)).take c)
  rw [hlen, ← e] at hlt
  have hg : c ≠ 0 → 256 ^ (c - 1) ≤ n := by
    intro hc0
    obtain ⟨d, rfl⟩ : ∃ d, c = d + 1 := ⟨c - 1, by omega⟩
    have hb : q + 1 < l.length := by omega
    have hd : (l.drop (q + 1)).take (d + 1) = l[q + 1] :: (l.drop (q + 2)).take d := by
      rw [List.drop_eq_getElem_cons hb, List.take_succ_cons]
    have hdl : ((l.drop (q + 2)).take d).length = d := by rw [List.length_take, List.length_drop]; omega
    have hz' := hz (by omega)
    rw [List.getElem?_eq_getElem hb] at hz'
    simp only [Option.getD_some] at hz'
    rw [e, hd, wo_cons, hdl, Nat.add_sub_cancel]
    have : 1 * 256 ^ d ≤ l[q + 1].toNat * 256 ^ d := Nat.mul_le_mul_right _ (by omega)
    omega
  have hw : wd n = c := wd_of n c hc hlt hg
  refine ⟨hw, ?_⟩
  have hq : q < l.length := by omega
  rw [List.getElem?_eq_getElem hq] at h0
  have h0' := Option.some.inj h0
  rw [List.drop_eq_getElem_cons hq, Nat.add_comm 1 c, List.take_succ_cons, h0']
  have hf := fixL_wo ((l.drop (q + 1)).take c)
  rw [hlen, ← e] at hf
  rw [hf]
theorem win_text (l : List UInt8) (q c n : Nat) :
    (l.drop q).take (1 + c) ++ (l.drop (q + 1 + c)).take n = (l.drop q).take (1 + c + n) := by
  have e : l.drop (q + 1 + c) = (l.drop q).drop (1 + c) := by
    rw [List.drop_drop]
    congr 1
    omega
  rw [e, ← List.take_add]

/-! ### The walk -/
section
variable (s : ByteArray) (p : Int) (w : World)
set_option maxHeartbeats 400000 in
theorem walk_long (h : 4000 < s.size) :
    Calls Try.prog 6 #[.string s, .int .i64 p] w fun e w' => e = .returned (.bool true) ∧ Below w.heap.size w w' := by
  go_enter Try.func6, Try.ntmps6
  go_wp2_with fail
  refine (awake.awake_any _).mono ?_
  rintro e w1 ⟨rfl, hb⟩
  go_wp2_with fail
  go_ret
  exact ⟨rfl, hb⟩
variable (hs : s.size ≤ 4000)
include hs
set_option maxHeartbeats 400000 in
theorem walk_err (a b e : Int) (he : e ≠ 0) (hr : rdInt s.data.toList p = (a, b, e)) (ht : rdText s.data.toList p 4000 = ([], 0, e)) :
    Calls Try.prog 6 #[.string s, .int .i64 p] w fun e w' => e = .returned (.bool true) ∧ Below w.heap.size w w' := by
  have hb : (e == 0) = false := by simpa using he
  have Hr := Lib.hid hr
  have Ht := Lib.hid ht
  clear hr ht he
  go_enter Try.func6, Try.ntmps6
  go_wp2_with fail
  refine (reads.readInt_any _ _ _ (by omega)).mono ?_
  rintro r w1 ⟨rfl, rfl⟩
  rw [Hr.out]
  unfold tri
  go_wp2_with fail
  refine (texts.readText_any _ _ _ _ (by omega)).mono ?_
  rintro r w2 ⟨rfl, hb2⟩
  rw [Ht.out]
  go_wp2_with fail
  refine (awake.awake_any _).mono ?_
  rintro r w3 ⟨rfl, hb3⟩
  go_wp2_with fail
  go_ret
  exact ⟨rfl, hb2.trans (hb3.mono hb2.size)⟩
set_option maxHeartbeats 1000000 in
theorem walk_int (q n t : Nat) (hr : rdInt s.data.toList q = ((n : Int), (t : Int), 0)) (hqt : q ≤ t) (ht : t ≤ s.size) (x : List UInt8) (hi : intL n = (x, 0)) (hx : s.extract q t = ⟨x.toArray⟩)
    (e : Int) (he : e ≠ 0) (hrt : rdText s.data.toList q 4000 = ([], 0, e)) :
    Calls Try.prog 6 #[.string s, .int .i64 q] w fun e w' => e = .returned (.bool true) ∧ Below w.heap.size w w' := by
  have hb : (e == 0) = false := by simpa using he
  have Hr := Lib.hid hr
  have Ht := Lib.hid hrt
  have Hi := Lib.hid hi
  clear hr hrt he hi
  go_enter Try.func6, Try.ntmps6
  go_wp2_with fail
  refine (reads.readInt_any _ _ _ (by omega)).mono ?_
  rintro r w1 ⟨rfl, rfl⟩
  rw [Hr.out]
  unfold tri
  go_wp2_with fail
  refine (ints.int_any _ _).mono ?_
  rintro r w2 ⟨rfl, hb2⟩
  rw [Hi.out]
  go_wp2_with fail
  refine (texts.readText_any _ _ _ _ (by omega)).mono ?_
  rintro r w3 ⟨rfl, hb3⟩
  rw [Ht.out]
  go_wp2_with fail
  refine (awake.awake_any _).mono ?_
  rintro r w4 ⟨rfl, hb4⟩
  go_wp2_with fail
  go_ret
  exact ⟨rfl, (hb2.trans (hb3.mono hb2.size)).trans (hb4.mono (Nat.le_trans hb2.size hb3.size))⟩
set_option maxHeartbeats 1000000 in
theorem walk_text (q n t t2 : Nat) (hr : rdInt s.data.toList q = ((n : Int), (t : Int), 0)) (hqt : q ≤ t) (ht : t ≤ s.size) (x : List UInt8) (hi : intL n = (x, 0)) (hx : s.extract q t = ⟨x.toArray⟩)
    (u : List UInt8) (hu : u.length ≤ 4000) (hrt : rdText s.data.toList q 4000 = (u, (t2 : Int), 0)) (hqt2 : q ≤ t2) (ht2 : t2 ≤ s.size) (y : List UInt8) (htx : textL u 4000 = (y, 0)) (hy : s.extract q t2 = ⟨y.toArray⟩) :
    Calls Try.prog 6 #[.string s, .int .i64 q] w fun e w' => e = .returned (.bool true) ∧ Below w.heap.size w w' := by
  have Hr := Lib.hid hr
  have Ht := Lib.hid hrt
  have Hi := Lib.hid hi
  have Hx := Lib.hid htx
  clear hr hrt hi htx
  go_enter Try.func6, Try.ntmps6
  go_wp2_with fail
  refine (reads.readInt_any _ _ _ (by omega)).mono ?_
  rintro r w1 ⟨rfl, rfl⟩
  rw [Hr.out]
  unfold tri
  go_wp2_with fail
  refine (ints.int_any _ _).mono ?_
  rintro r w2 ⟨rfl, hb2⟩
  rw [Hi.out]
  go_wp2_with fail
  refine (texts.readText_any _ _ _ _ (by omega)).mono ?_
  rintro r w3 ⟨rfl, hb3⟩
  rw [Ht.out]
  go_wp2_with fail
  refine (texts.text_any ⟨u.toArray⟩ _ _ (by show u.length ≤ _; omega)).mono ?_
  rintro r w4 ⟨rfl, hb4⟩
  rw [show (⟨u.toArray⟩ : ByteArray).data.toList = u from rfl, Hx.out]
  go_wp2_with fail
  refine (awake.awake_any _).mono ?_
  rintro r w5 ⟨rfl, hb5⟩
  go_wp2_with fail
  go_ret
  exact ⟨rfl, ((hb2.trans (hb3.mono hb2.size)).trans (hb4.mono (Nat.le_trans hb2.size hb3.size))).trans (hb5.mono (Nat.le_trans hb2.size (Nat.le_trans hb3.size hb4.size)))⟩
end
theorem ext_eq (s : ByteArray) (q m t : Nat) (e : t = q + m) : s.extract q t = ⟨((s.data.toList.drop q).take m).toArray⟩ := by
  subst e
  rw [← extract_list]
theorem walk (s : ByteArray) (p : Int) (w : World) :
    Calls Try.prog 6 #[.string s, .int .i64 p] w fun e w' => e = .returned (.bool true) ∧ Below w.heap.size w w' := by
  have hl : s.data.toList.length = s.size := rfl
  by_cases hs : 4000 < s.size
  · exact walk_long s p w hs
  by_cases h0 : (rdInt s.data.toList p).2.2 = 0
  · obtain ⟨n, q, c, hr, rfl, hn, ht, hc, he, h1, hz⟩ := rdInt_facts _ _ h0
    obtain ⟨hw, hin⟩ := win_int _ n q c hn ht hc he h1 hz
    rw [hl] at ht
    have hi : intL n = (UInt8.ofNat c :: fixL n c, 0) := by rw [intL_in n hn, hw]
    have hx := ext_eq s q (1 + c) (q + 1 + c) (by omega)
    rw [← hin] at hx
    by_cases h2 : (4000 : Int) < n
    · refine walk_int s w (by omega) q n (q + 1 + c) hr (by omega) (by omega) _ hi hx 5 (by decide) ?_
      rw [rdText, if_pos h0, hr, if_pos h2]
    by_cases h3 : s.size < (q + 1 + c) + n
    · refine walk_int s w (by omega) q n (q + 1 + c) hr (by omega) (by omega) _ hi hx 2 (by decide) ?_
      rw [rdText, if_pos h0, hr, if_neg h2, if_pos (by simp only; omega)]
    have hu : ((s.data.toList.drop (q + 1 + c)).take n).length = n := by rw [List.length_take, List.length_drop]; omega
    refine walk_text s w (by omega) q n (q + 1 + c) (q + 1 + c + n) hr (by omega) (by omega) _ hi hx ((s.data.toList.drop (q + 1 + c)).take n) (by omega) ?_ (by omega) (by omega) ((UInt8.ofNat c :: fixL n c) ++ (s.data.toList.drop (q + 1 + c)).take n) ?_ ?_
    · rw [rdText, if_pos h0, hr, if_neg h2, if_neg (by simp only; omega)]
      simp only [Int.toNat_natCast]
      congr 2
    · rw [textL_good _ _ (by omega) (by omega), hu, hw]
    · rw [hin, win_text]
      exact ext_eq s q _ _ (by omega)
  · obtain ⟨a, b, e, hr⟩ : ∃ a b e, rdInt s.data.toList p = (a, b, e) := ⟨_, _, _, rfl⟩
    have h0' : e ≠ 0 := by rw [hr] at h0; exact h0
    refine walk_err s p w (by omega) a b e h0' hr ?_
    rw [rdText, if_neg h0, hr]

/-! ### The row -/
set_option maxRecDepth 100000 in
theorem lifted (os : Os) (started : os.Started) (H : Type) (enc : TypeId × Value → H) :
    ReturnsInHanded {} Try.checked os 6 .any (Rows.octetsOneSpec.pre6 enc Try.prog Try.f6 Rows.octetsOneRow.domain false) (Rows.octetsOneSpec.post enc Try.prog Try.f6 false true false false) := by
  refine returnsInHanded_of_change (C := Try.checked) own started (by kernel_rfl) Try.func6
    (ChangeSpec.witness6 (enc := enc) (C := Try.checked) false ⟨#[], #[.string ByteArray.empty, .int .i64 0], []⟩ 8 (by kernel_rfl) (by kernel_rfl) (by kernel_rfl) (by kernel_rfl)) ?_
  intro W base args ds gs before hval0 hW hcnd _
  have hval : ∀ (j : Nat) t v, Try.f6.params[j]? = some t → args[j]? = some v → Value.okWide Try.prog W .any base t v := hval0
  have hW' := hW
  obtain ⟨p, q, hA0, hV, rfl, hfz, hnd⟩ := hW
  have hA : DataW.TrodAll enc Try.prog W 0 (fun _ => true) true Try.f6.params.toList args.toList ds p := hA0
  rw [Try.params6] at hA hval
  obtain ⟨v0, vs0, d0, ds0, p0, q0, hargs, rfl, rfl, h0, r0⟩ := trodAll_cons hA
  obtain ⟨v1, vs1, d1, ds1, p1, q1, rfl, rfl, rfl, h1, r1⟩ := trodAll_cons r0
  obtain ⟨rfl, rfl, rfl⟩ := trodAll_nil r1
  obtain rfl : args = #[v0, v1] := by cases args; simp_all
  obtain ⟨rfl, rfl⟩ := trodVars_none hV
  obtain ⟨a0, rfl, rfl, rfl, w0⟩ := open_string Try.underlying9 (hval 0 9 v0 rfl rfl) h0
  obtain ⟨a1, rfl, rfl, rfl, w1⟩ := open_int Try.underlying3 (hval 1 3 v1 rfl rfl) h1
  clear hA0 hval0
  simp only [List.append_nil] at hW'
  refine (walk a0 a1 W).mono fun e W' ⟨he, bel⟩ => ?_
  subst he
  exact ⟨_, rfl, _, _, _, [], _, [], hW', trodAll_mk1 (shut_bool Try.underlying4 _), (trodAll_cons_mk (shut_string Try.underlying9 w0) (trodAll_cons_mk (shut_int Try.underlying3 w1) trodAll_mk0)), rfl, bel.frame _, fun h => by cases h⟩

theorem over : Rows.octetsOneRow.holds Try.pinned (OpenSpec.ofChange Rows.octetsOneSpec) :=
  OpenClaim.holds_of_wide 6 Try.f6 rfl rfl rfl rfl rfl rfl rfl ⟨rfl, rfl, rfl, rfl, rfl⟩ rfl rfl rfl rfl rfl (by kernel_rfl) Try.func6 (by kernel_rfl)
    (of_decide_eq_true (by kernel_rfl)) (by unfold Func.isWrapper; first | (rw [if_pos (by decide +kernel)]; kernel_rfl) | (rw [if_neg (by decide +kernel)]; exact ⟨rfl, rfl⟩))
    (fun os started H enc _ => lifted os started H enc)

theorem proved : Rows.OctetsOneSaid :=
  over
end Go.Proofs.Ytfcagbpkaflbeaa.one
