/-
  The statement ShaPieces (P3.9): a string fed piece by piece has the same hash as at once. Conditions: none; for every input that the form speaks of.
-/
import Derived.Test.YtnllnhnpoehclaaRows
import Derived.Test.YtnllnhnpoehclaaAwake3
import Derived.Test.YtnllnhnpoehclaaFeedB
import Derived.ProofKit
import Derived.OpenShut
import Derived.ShutString
import Derived.SliceStrings
import Derived.Carry
namespace Go.Proofs.Ytnllnhnpoehclaa.lpieces
open Go.ChangeShapes Go.WideShapes Go.ChangeAt Go.RowKit
open Go.Proofs.Ytnllnhnpoehclaa.arr Go.Proofs.Ytnllnhnpoehclaa.mem Go.Proofs.Ytnllnhnpoehclaa.oct Go.Proofs.Ytnllnhnpoehclaa.tabv Go.Proofs.Ytnllnhnpoehclaa.built Go.Proofs.Ytnllnhnpoehclaa.sham Go.Proofs.Ytnllnhnpoehclaa.thru Go.Proofs.Ytnllnhnpoehclaa.ends Go.Proofs.Ytnllnhnpoehclaa.hashs Go.Proofs.Ytnllnhnpoehclaa.tabs Go.Proofs.Ytnllnhnpoehclaa.feed
set_option linter.unusedVariables false
theorem own : ownKnob Try.prog.godebug = none := by kernel_rfl
theorem laidOut : laidOutB Try.prog = true := by kernel_rfl
theorem wpList_load_want {P : Program} {ops : Array Oper} {w : World} {Q : Exit → Act → World → Prop} {rest : List Oper} {o : Oper} {a : Act} (hw : Region.wanted o (yielded ops a.tmps) = true) (ty : TypeId) (x : Operand) (ho : o.op = .load ty x)
    (g : Nat) (hx : a.eval x = .pointer (some ⟨g, 0, none⟩)) (t : TypeId) (cs : Array Value) (d : TypeDesc) (hg : w.heap[g]? = some (.cells cs t (0, 0)))
    (hu : P.underlying ty = some d) (hd : (match d with | .struct _ | .array _ _ => true | _ => false) = true) (hi : (P.info? ty).map (·.size) = some cs.size)
    (h : wpList P ops Q rest (a.put o.dst (.agg cs)) w) : wpList P ops Q (o :: rest) a w :=
  wpList_step fun K hK => by rw [if_pos hw]; exact wp_load_row ty x ho g hx t cs (0, 0) d hg hu hd hi (hK _ _ h)
theorem at_row6 {g : Nat} {C C' : Array Value} {t : TypeId} {w w' : World} (h : At g C t w w') : At g C' t w (w'.setRow g C') :=
  ⟨h.os, h.tape, h.output, by simpa [World.setRow] using h.size, setRow_heap _ _ _ _ _ _ h.row, fun k hk hg => (setRow_other w' g k C' hg).trans (h.block k hk hg)⟩
set_option maxRecDepth 100000 in
set_option maxHeartbeats 4000000 in
theorem far (ao : Option Addr) (n cap : Nat) (b : Bool) (w : World) (h : 20 < n) :
    Calls Try.prog 4 #[.slice ao n cap, .bool b] w fun e w' => e = .returned (.bool true) ∧ Below w.heap.size w w' := by
  go_enter Try.func4, Try.ntmps4
  go_wp2_with fail
  refine (awake3.awake_any _).mono ?_
  rintro e w3 ⟨rfl, hb⟩
  go_wp2_with fail
  go_ret
  exact ⟨rfl, hb⟩
set_option maxRecDepth 100000 in
set_option maxHeartbeats 4000000 in
theorem near32 (ao : Option Addr) (n cap : Nat) (S : Nat → ByteArray) (w : World) (hn : n ≤ 20) (hcell : ∀ i, i < n → ∃ a, ao = some a ∧ a.block < w.heap.size ∧ w.cell? (a.add i) = some (.string (S i))) :
    Calls Try.prog 4 #[.slice ao n cap, .bool false] w fun e w' => e = .returned (.bool true) ∧ Below w.heap.size w w' := by
  obtain ⟨hz, hsize⟩ := zero_of_info infoT
  obtain ⟨Z, HZ⟩ := ex_eq TZ
  rw [HZ.out] at hz
  have HZs : Away (Z.size = 465) := ⟨by rw [← HZ.out]; exact tz_size⟩
  have Hsize := Away.mk hsize
  clear hsize
  have htf := tf_doc
  obtain ⟨T, HT⟩ := ex_eq TA
  rw [HT.out] at htf
  have HTs : Away (T.size = 465) := ⟨htf.size⟩
  have HTo : Away (T.all (·.oneCell') = true) := ⟨htf.one⟩
  have HTF := Away.mk htf
  have Hmk : Away (∀ w1 : World, Calls Try.prog 15 #[] w1 fun e w' => e = .returned (.agg T) ∧ Below w1.heap.size w1 w') := ⟨fun w1 => by rw [← HT.out]; exact make.make_any w1⟩
  obtain ⟨F, HF⟩ : ∃ F : List UInt8 → ByteArray → Array Value, Away (∀ A r, (HC false (run32 k32 s32 A (A.length / 64)) V0 r (A.length : Int)) = F A r) := ⟨fun A r => HC false (run32 k32 s32 A (A.length / 64)) V0 r (A.length : Int), ⟨fun _ _ => rfl⟩⟩
  have HFs : Away (∀ A r, (F A r).size = 19) := ⟨fun A r => by rw [← HF.out]; rfl⟩
  have HFo : Away (∀ A r, (F A r).all (·.oneCell') = true) := ⟨fun A r => by rw [← HF.out]; exact hc_one _ _ _ _ _⟩
  have Hst : Away (∀ w1 : World, Calls Try.prog 16 #[.agg T, .bool false] w1 fun e w' => e = .returned (.agg (F [] ⟨#[]⟩)) ∧ Below w1.heap.size w1 w') := ⟨fun w1 => by rw [← HF.out]; exact newhash32 T k32 k64 s32 s64 w1 HTF.out⟩
  have Hfd : Away (∀ (A : List UInt8) (r s : ByteArray) (w1 : World), r.data.toList = A.drop (64 * (A.length / 64)) → A.length + s.size ≤ 549755813888 → Calls Try.prog 17 #[.agg T, .agg (F A r), .string s] w1 fun e w' => (∃ r' : ByteArray, e = .returned (.tuple #[.agg (F (A ++ s.data.toList) r'), .int .i64 0]) ∧ r'.data.toList = (A ++ s.data.toList).drop (64 * ((A ++ s.data.toList).length / 64))) ∧ Below w1.heap.size w1 w') := ⟨fun A r s w1 h1 h2 => by
    rw [← HF.out]
    refine (feedb.feed_any32 T k32 k64 s32 s64 A r s w1 HTF.out h1 h2).mono fun e w' h => ⟨h.1.imp fun r' hr => ⟨by rw [← HF.out]; exact hr.1, hr.2⟩, h.2⟩⟩
  have Hrt : Away (∀ (A : List UInt8) (r : ByteArray) (w1 : World), r.data.toList = A.drop (64 * (A.length / 64)) → A.length ≤ 549755813888 → Calls Try.prog 18 #[.agg (F A r)] w1 fun e w' => e = .returned (.bool true) ∧ Below w1.heap.size w1 w') := ⟨fun A r w1 h1 h2 => by
    rw [← HF.out]
    exact right32 _ _ r A.length w1 (by omega) (by
      have h3 : r.data.toList.length = r.size := rfl
      rw [← h3, h1, List.length_drop]; omega)⟩
  have Hen : Away (∀ (A : List UInt8) (r : ByteArray) (w1 : World), r.data.toList = A.drop (64 * (A.length / 64)) → A.length ≤ 549755813888 → Calls Try.prog 19 #[.agg T, .agg (F A r)] w1 fun e w' => e = .returned (.tuple #[.string ⟨(hs32 k32 s32 A).toArray⟩, .int .i64 0]) ∧ Below w1.heap.size w1 w') := ⟨fun A r w1 h1 h2 => by
    rw [← HF.out]
    exact ended32 T k32 k64 s32 s64 A r w1 HTF.out h1 h2⟩
  have Hcell := Away.mk hcell
  clear htf hcell HT HZ
  go_enter Try.func4, Try.ntmps4
  go_wp2_with fail
  refine (Hmk.out _).mono ?_
  rintro e w1 ⟨rfl, hb1⟩
  have Hb1 := Away.mk hb1
  clear hb1
  have H1a : Away ((w1.alloc (.cells T 33)).heap[w1.heap.size]? = some (.cells T 33 (0, 0))) := ⟨heap_at _ _ _ rfl⟩
  go_wp2_with (first
    | (refine wpList_store_new rfl 33 _ _ rfl T rfl rfl (by rw [HTs.out]; exact Hsize.out) (by rw [HTs.out]; exact HZs.out) HTo.out rfl ?_)
    | (refine wpList_load_row rfl 33 _ rfl w1.heap.size rfl 33 T (0, 0) _ H1a.out Try.underlying33 rfl (by rw [HTs.out]; exact sizeT) ?_))
  clear hz
  refine (Hst.out _).mono ?_
  rintro e w2 ⟨rfl, hb2⟩
  have z1 := Hb1.out.size
  have z2 : w1.heap.size + 1 ≤ w2.heap.size := by have := hb2.size; simpa using this
  have Hb2 : Away (Below w.heap.size w w2) := ⟨(Hb1.out.alloc z1 _).trans (hb2.mono (by simp; omega))⟩
  have G5 : Away (w2.heap[w1.heap.size]? = some (.cells T 33 (0, 0))) := ⟨(hb2.block _ (by simp)).trans H1a.out⟩
  clear hb2
  go_wp2_with (refine wpList_store_new rfl 39 _ _ rfl (F [] ⟨#[]⟩) rfl rfl (by rw [HFs.out]; exact zHash) (by rw [HFs.out]; rfl) (HFo.out _ _) rfl ?_)
  obtain ⟨g5, hg5⟩ : ∃ g, w1.heap.size = g := ⟨_, rfl⟩
  obtain ⟨g6, hg6⟩ : ∃ g, w2.heap.size = g := ⟨_, rfl⟩
  obtain ⟨w3, Hw3⟩ := ex_eq (w2.alloc (.cells (F [] ⟨#[]⟩) 39))
  have z3 : w3.heap.size = g6 + 1 := by rw [← Hw3.out, ← hg6]; simp
  have q5 : w3.heap[g5]? = some (.cells T 33 (0, 0)) := by rw [← Hw3.out, heap_past _ _ _ (by omega), ← hg5]; exact G5.out
  have q6 : w3.heap[g6]? = some (.cells (F [] ⟨#[]⟩) 39 (0, 0)) := by rw [← Hw3.out]; exact heap_at _ _ _ hg6.symm
  have Hb3 : Away (Below w.heap.size w w3) := ⟨by rw [← Hw3.out]; exact Hb2.out.alloc Hb2.out.size _⟩
  have Q5 := Away.mk q5
  have Q6 := Away.mk q6
  rw [Hw3.out, hg5, hg6]
  rw [hg5] at z1 z2
  rw [hg6] at z2
  clear q5 q6 hg5 hg6
  go_loopw [7, 25] (fun al i wr => ∃ (k : Nat) (acc r : ByteArray), k ≤ n ∧ i = .int .i64 k ∧ al = .string acc ∧ Away (r.data.toList = acc.data.toList.drop (64 * (acc.data.toList.length / 64))) ∧ acc.size ≤ 400 * k ∧ Away (At g6 (F acc.data.toList r) 39 w3 wr)) (fun _ i _ => n - (intOf i).toNat)
  case atStart => exact ⟨0, ⟨#[]⟩, ⟨#[]⟩, Nat.zero_le _, rfl, rfl, ⟨rfl⟩, by decide, ⟨At.refl Q6.out⟩⟩
  case round =>
    obtain ⟨k, acc, r, hk, rfl, rfl, Hr, hacc, Hx⟩ := hrel
    have Hbr : Away (Below w.heap.size w wr) := ⟨Hb3.out.trans (Hx.out.below (by omega) (by omega))⟩
    have Row5 := Away.mk (Hx.out.other (k := g5) (by omega) (by omega) Q5.out)
    have Row6 := Away.mk Hx.out.row
    by_cases hlt : k < n
    · obtain ⟨a, rfl, hb, hc⟩ := Hcell.out k hlt
      have hp : wr.cell? (a.add k) = some (.string (S k)) := by
        rw [Hbr.out.cell (p := a.add k) (by simp only [Addr.add]; split <;> exact hb)]
        exact hc
      clear hc
      obtain ⟨p, hp2⟩ : ∃ p, S k = p := ⟨_, rfl⟩
      rw [hp2] at hp
      have lk : (k : Int) < (n : Int) := by omega
      by_cases hlen : 400 < p.size
      · go_wp2_with fail
        refine (awake3.awake_any _).mono ?_
        rintro e w4 ⟨rfl, hb⟩
        have Hb4 : Away (Below w.heap.size w w4) := ⟨Hbr.out.trans (hb.mono Hbr.out.size)⟩
        clear hb
        go_wp2_with fail
        go_ret
        exact ⟨rfl, Hb4.out⟩
      · go_wp2_with (first
          | (refine wpList_load_row rfl 33 _ rfl g5 rfl 33 T (0, 0) _ Row5.out Try.underlying33 rfl (by rw [HTs.out]; exact sizeT) ?_)
          | (refine wpList_load_row rfl 39 _ rfl g6 rfl 39 _ (0, 0) _ Row6.out Try.underlying39 rfl (by rw [HFs.out]; exact zHash) ?_))
        refine (Hfd.out acc.data.toList r p _ Hr.out (by show acc.size + p.size ≤ _; omega)).mono ?_
        rintro e w4 ⟨⟨r', rfl, hr'⟩, hb4⟩
        have Hr' := Away.mk hr'
        have hz4 : wr.heap.size ≤ w4.heap.size := hb4.size
        have hzr : w3.heap.size ≤ wr.heap.size := Hx.out.size
        have HX4 : Away (At g6 (F acc.data.toList r) 39 w3 w4) := ⟨Hx.out.later hb4⟩
        have Hap : Away (acc.data.toList ++ p.data.toList = (acc ++ p).data.toList) := ⟨by simp⟩
        rw [Hap.out] at Hr' ⊢
        have hal : (acc ++ p).size ≤ 400 * (k + 1) := by rw [ByteArray.size_append]; omega
        have hsum : acc.size + p.size ≤ 9223372036854775807 := by omega
        obtain ⟨N, HN⟩ := ex_eq (F (acc ++ p).data.toList r')
        have HNs : Away (N.size = 19) := ⟨by rw [← HN.out]; exact HFs.out _ _⟩
        have HNo : Away (N.all (·.oneCell') = true) := ⟨by rw [← HN.out]; exact HFo.out _ _⟩
        have Hr2 := Away.mk (Hrt.out (acc ++ p).data.toList r')
        rw [HN.out] at Hr2 ⊢
        clear hb4 hr' hp
        have RowNa : Away ((w4.alloc (.cells N 39)).heap[w4.heap.size]? = some (.cells N 39 (0, 0))) := ⟨heap_at _ _ _ rfl⟩
        go_wp2_with (first
          | (refine wpList_store_new rfl 39 _ _ rfl N rfl rfl (by rw [HNs.out]; exact zHash) (by rw [HNs.out]; rfl) HNo.out rfl ?_)
          | (refine wpList_load_want rfl 39 _ rfl w4.heap.size rfl 39 N _ RowNa.out Try.underlying39 rfl (by rw [HNs.out]; exact zHash) ?_))
        obtain ⟨w5, Hw5⟩ := ex_eq (w4.alloc (.cells N 39))
        have z5 : w5.heap.size = w4.heap.size + 1 := by rw [← Hw5.out]; simp
        have RowN : Away (w5.heap[w4.heap.size]? = some (.cells N 39 (0, 0))) := ⟨by rw [← Hw5.out]; exact heap_at _ _ _ rfl⟩
        have HX5 : Away (At g6 (F acc.data.toList r) 39 w3 w5) := ⟨by rw [← Hw5.out]; exact HX4.out.later (below_alloc _ _)⟩
        rw [Hw5.out]
        refine (Hr2.out w5 Hr'.out (by show (acc ++ p).size ≤ _; omega)).mono ?_
        rintro e w6 ⟨rfl, hb6⟩
        have HX6 : Away (At g6 (F acc.data.toList r) 39 w3 w6) := ⟨HX5.out.later hb6⟩
        have RowN6 : Away (w6.heap[w4.heap.size]? = some (.cells N 39 (0, 0))) := ⟨(hb6.block _ (by omega)).trans RowN.out⟩
        clear hb6
        go_wp2_with (first
          | (refine wpList_load_row rfl 39 _ rfl w4.heap.size rfl 39 N (0, 0) _ RowN6.out Try.underlying39 rfl (by rw [HNs.out]; exact zHash) ?_)
          | (refine wpList_store_row rfl 39 _ _ rfl g6 N rfl rfl 39 _ HX6.out.row (by rw [HNs.out]; exact zHash) (by rw [HFs.out, HNs.out]) HNo.out ?_))
        go_roundw
        case rel => exact ⟨k + 1, acc ++ p, r', by omega, by go_num, rfl, Hr', hal, ⟨by rw [HN.out]; exact at_row6 HX6.out⟩⟩
        case measure => simp [intOf]; omega
    · obtain rfl : k = n := by omega
      have hA : acc.data.toList.length ≤ 549755813888 := by show acc.size ≤ _; omega
      have He := Away.mk (fun w1 : World => Hen.out acc.data.toList r w1 Hr.out hA)
      have Hsm := Away.mk (fun w1 : World => whole32 T k32 k64 s32 s64 acc w1 HTF.out (by omega))
      have Hlg := Away.mk (fun w1 : World => whole64 T k32 k64 s32 s64 acc w1 HTF.out (by omega))
      obtain ⟨X3, HX3⟩ := ex_eq (⟨(hs32 k32 s32 acc.data.toList).toArray⟩ : ByteArray)
      obtain ⟨X6, HX6⟩ := ex_eq (⟨(hs64 k64 s64 acc.data.toList).toArray⟩ : ByteArray)
      rw [HX3.out] at Hsm
      rw [HX6.out] at Hlg
      rw [HX3.out] at He
      clear HX3 HX6
      have z6 := Hbr.out.size
      have zr := Hx.out.size
      have arms : True := trivial
      go_wp2_with (first
        | (refine wpList_load_row rfl 33 _ rfl g5 rfl 33 T (0, 0) _ Row5.out Try.underlying33 rfl (by rw [HTs.out]; exact sizeT) ?_)
        | (refine wpList_load_row rfl 39 _ rfl g6 rfl 39 _ (0, 0) _ Row6.out Try.underlying39 rfl (by rw [HFs.out]; exact zHash) ?_))
      refine (He.out wr).mono ?_
      rintro e w4 ⟨rfl, hb4⟩
      have P5 := Away.mk ((hb4.block g5 (lt_of_row Row5.out)).trans Row5.out)
      have Hb4 : Away (Below w.heap.size w w4) := ⟨Hbr.out.trans (hb4.mono z6)⟩
      clear hb4
      go_wp2_with (refine wpList_load_row rfl 33 _ rfl g5 rfl 33 T (0, 0) _ P5.out Try.underlying33 rfl (by rw [HTs.out]; exact sizeT) ?_)
      refine (Hsm.out w4).mono ?_
      rintro e w5 ⟨rfl, hb5⟩
      have P6 := Away.mk ((hb5.block g5 (lt_of_row P5.out)).trans P5.out)
      have Hb5 : Away (Below w.heap.size w w5) := ⟨Hb4.out.trans (hb5.mono Hb4.out.size)⟩
      clear hb5

      go_wp2_with fail
      refine (awake3.awake_any _).mono ?_
      rintro e w7 ⟨rfl, hb7⟩
      have Hb7 : Away (Below w.heap.size w w7) := ⟨Hb5.out.trans (hb7.mono Hb5.out.size)⟩
      clear hb7
      go_wp2_with fail
      go_ret
      exact ⟨rfl, Hb7.out⟩
set_option maxRecDepth 100000 in
set_option maxHeartbeats 4000000 in
theorem near64 (ao : Option Addr) (n cap : Nat) (S : Nat → ByteArray) (w : World) (hn : n ≤ 20) (hcell : ∀ i, i < n → ∃ a, ao = some a ∧ a.block < w.heap.size ∧ w.cell? (a.add i) = some (.string (S i))) :
    Calls Try.prog 4 #[.slice ao n cap, .bool true] w fun e w' => e = .returned (.bool true) ∧ Below w.heap.size w w' := by
  obtain ⟨hz, hsize⟩ := zero_of_info infoT
  obtain ⟨Z, HZ⟩ := ex_eq TZ
  rw [HZ.out] at hz
  have HZs : Away (Z.size = 465) := ⟨by rw [← HZ.out]; exact tz_size⟩
  have Hsize := Away.mk hsize
  clear hsize
  have htf := tf_doc
  obtain ⟨T, HT⟩ := ex_eq TA
  rw [HT.out] at htf
  have HTs : Away (T.size = 465) := ⟨htf.size⟩
  have HTo : Away (T.all (·.oneCell') = true) := ⟨htf.one⟩
  have HTF := Away.mk htf
  have Hmk : Away (∀ w1 : World, Calls Try.prog 15 #[] w1 fun e w' => e = .returned (.agg T) ∧ Below w1.heap.size w1 w') := ⟨fun w1 => by rw [← HT.out]; exact make.make_any w1⟩
  obtain ⟨F, HF⟩ : ∃ F : List UInt8 → ByteArray → Array Value, Away (∀ A r, (HC true V0 (run64 k64 s64 A (A.length / 128)) r (A.length : Int)) = F A r) := ⟨fun A r => HC true V0 (run64 k64 s64 A (A.length / 128)) r (A.length : Int), ⟨fun _ _ => rfl⟩⟩
  have HFs : Away (∀ A r, (F A r).size = 19) := ⟨fun A r => by rw [← HF.out]; rfl⟩
  have HFo : Away (∀ A r, (F A r).all (·.oneCell') = true) := ⟨fun A r => by rw [← HF.out]; exact hc_one _ _ _ _ _⟩
  have Hst : Away (∀ w1 : World, Calls Try.prog 16 #[.agg T, .bool true] w1 fun e w' => e = .returned (.agg (F [] ⟨#[]⟩)) ∧ Below w1.heap.size w1 w') := ⟨fun w1 => by rw [← HF.out]; exact newhash64 T k32 k64 s32 s64 w1 HTF.out⟩
  have Hfd : Away (∀ (A : List UInt8) (r s : ByteArray) (w1 : World), r.data.toList = A.drop (128 * (A.length / 128)) → A.length + s.size ≤ 549755813888 → Calls Try.prog 17 #[.agg T, .agg (F A r), .string s] w1 fun e w' => (∃ r' : ByteArray, e = .returned (.tuple #[.agg (F (A ++ s.data.toList) r'), .int .i64 0]) ∧ r'.data.toList = (A ++ s.data.toList).drop (128 * ((A ++ s.data.toList).length / 128))) ∧ Below w1.heap.size w1 w') := ⟨fun A r s w1 h1 h2 => by
    rw [← HF.out]
    refine (feedb.feed_any64 T k32 k64 s32 s64 A r s w1 HTF.out h1 h2).mono fun e w' h => ⟨h.1.imp fun r' hr => ⟨by rw [← HF.out]; exact hr.1, hr.2⟩, h.2⟩⟩
  have Hrt : Away (∀ (A : List UInt8) (r : ByteArray) (w1 : World), r.data.toList = A.drop (128 * (A.length / 128)) → A.length ≤ 549755813888 → Calls Try.prog 18 #[.agg (F A r)] w1 fun e w' => e = .returned (.bool true) ∧ Below w1.heap.size w1 w') := ⟨fun A r w1 h1 h2 => by
    rw [← HF.out]
    exact right64 _ _ r A.length w1 (by omega) (by
      have h3 : r.data.toList.length = r.size := rfl
      rw [← h3, h1, List.length_drop]; omega)⟩
  have Hen : Away (∀ (A : List UInt8) (r : ByteArray) (w1 : World), r.data.toList = A.drop (128 * (A.length / 128)) → A.length ≤ 549755813888 → Calls Try.prog 19 #[.agg T, .agg (F A r)] w1 fun e w' => e = .returned (.tuple #[.string ⟨(hs64 k64 s64 A).toArray⟩, .int .i64 0]) ∧ Below w1.heap.size w1 w') := ⟨fun A r w1 h1 h2 => by
    rw [← HF.out]
    exact ended64 T k32 k64 s32 s64 A r w1 HTF.out h1 h2⟩
  have Hcell := Away.mk hcell
  clear htf hcell HT HZ
  go_enter Try.func4, Try.ntmps4
  go_wp2_with fail
  refine (Hmk.out _).mono ?_
  rintro e w1 ⟨rfl, hb1⟩
  have Hb1 := Away.mk hb1
  clear hb1
  have H1a : Away ((w1.alloc (.cells T 33)).heap[w1.heap.size]? = some (.cells T 33 (0, 0))) := ⟨heap_at _ _ _ rfl⟩
  go_wp2_with (first
    | (refine wpList_store_new rfl 33 _ _ rfl T rfl rfl (by rw [HTs.out]; exact Hsize.out) (by rw [HTs.out]; exact HZs.out) HTo.out rfl ?_)
    | (refine wpList_load_row rfl 33 _ rfl w1.heap.size rfl 33 T (0, 0) _ H1a.out Try.underlying33 rfl (by rw [HTs.out]; exact sizeT) ?_))
  clear hz
  refine (Hst.out _).mono ?_
  rintro e w2 ⟨rfl, hb2⟩
  have z1 := Hb1.out.size
  have z2 : w1.heap.size + 1 ≤ w2.heap.size := by have := hb2.size; simpa using this
  have Hb2 : Away (Below w.heap.size w w2) := ⟨(Hb1.out.alloc z1 _).trans (hb2.mono (by simp; omega))⟩
  have G5 : Away (w2.heap[w1.heap.size]? = some (.cells T 33 (0, 0))) := ⟨(hb2.block _ (by simp)).trans H1a.out⟩
  clear hb2
  go_wp2_with (refine wpList_store_new rfl 39 _ _ rfl (F [] ⟨#[]⟩) rfl rfl (by rw [HFs.out]; exact zHash) (by rw [HFs.out]; rfl) (HFo.out _ _) rfl ?_)
  obtain ⟨g5, hg5⟩ : ∃ g, w1.heap.size = g := ⟨_, rfl⟩
  obtain ⟨g6, hg6⟩ : ∃ g, w2.heap.size = g := ⟨_, rfl⟩
  obtain ⟨w3, Hw3⟩ := ex_eq (w2.alloc (.cells (F [] ⟨#[]⟩) 39))
  have z3 : w3.heap.size = g6 + 1 := by rw [← Hw3.out, ← hg6]; simp
  have q5 : w3.heap[g5]? = some (.cells T 33 (0, 0)) := by rw [← Hw3.out, heap_past _ _ _ (by omega), ← hg5]; exact G5.out
  have q6 : w3.heap[g6]? = some (.cells (F [] ⟨#[]⟩) 39 (0, 0)) := by rw [← Hw3.out]; exact heap_at _ _ _ hg6.symm
  have Hb3 : Away (Below w.heap.size w w3) := ⟨by rw [← Hw3.out]; exact Hb2.out.alloc Hb2.out.size _⟩
  have Q5 := Away.mk q5
  have Q6 := Away.mk q6
  rw [Hw3.out, hg5, hg6]
  rw [hg5] at z1 z2
  rw [hg6] at z2
  clear q5 q6 hg5 hg6
  go_loopw [7, 25] (fun al i wr => ∃ (k : Nat) (acc r : ByteArray), k ≤ n ∧ i = .int .i64 k ∧ al = .string acc ∧ Away (r.data.toList = acc.data.toList.drop (128 * (acc.data.toList.length / 128))) ∧ acc.size ≤ 400 * k ∧ Away (At g6 (F acc.data.toList r) 39 w3 wr)) (fun _ i _ => n - (intOf i).toNat)
  case atStart => exact ⟨0, ⟨#[]⟩, ⟨#[]⟩, Nat.zero_le _, rfl, rfl, ⟨rfl⟩, by decide, ⟨At.refl Q6.out⟩⟩
  case round =>
    obtain ⟨k, acc, r, hk, rfl, rfl, Hr, hacc, Hx⟩ := hrel
    have Hbr : Away (Below w.heap.size w wr) := ⟨Hb3.out.trans (Hx.out.below (by omega) (by omega))⟩
    have Row5 := Away.mk (Hx.out.other (k := g5) (by omega) (by omega) Q5.out)
    have Row6 := Away.mk Hx.out.row
    by_cases hlt : k < n
    · obtain ⟨a, rfl, hb, hc⟩ := Hcell.out k hlt
      have hp : wr.cell? (a.add k) = some (.string (S k)) := by
        rw [Hbr.out.cell (p := a.add k) (by simp only [Addr.add]; split <;> exact hb)]
        exact hc
      clear hc
      obtain ⟨p, hp2⟩ : ∃ p, S k = p := ⟨_, rfl⟩
      rw [hp2] at hp
      have lk : (k : Int) < (n : Int) := by omega
      by_cases hlen : 400 < p.size
      · go_wp2_with fail
        refine (awake3.awake_any _).mono ?_
        rintro e w4 ⟨rfl, hb⟩
        have Hb4 : Away (Below w.heap.size w w4) := ⟨Hbr.out.trans (hb.mono Hbr.out.size)⟩
        clear hb
        go_wp2_with fail
        go_ret
        exact ⟨rfl, Hb4.out⟩
      · go_wp2_with (first
          | (refine wpList_load_row rfl 33 _ rfl g5 rfl 33 T (0, 0) _ Row5.out Try.underlying33 rfl (by rw [HTs.out]; exact sizeT) ?_)
          | (refine wpList_load_row rfl 39 _ rfl g6 rfl 39 _ (0, 0) _ Row6.out Try.underlying39 rfl (by rw [HFs.out]; exact zHash) ?_))
        refine (Hfd.out acc.data.toList r p _ Hr.out (by show acc.size + p.size ≤ _; omega)).mono ?_
        rintro e w4 ⟨⟨r', rfl, hr'⟩, hb4⟩
        have Hr' := Away.mk hr'
        have hz4 : wr.heap.size ≤ w4.heap.size := hb4.size
        have hzr : w3.heap.size ≤ wr.heap.size := Hx.out.size
        have HX4 : Away (At g6 (F acc.data.toList r) 39 w3 w4) := ⟨Hx.out.later hb4⟩
        have Hap : Away (acc.data.toList ++ p.data.toList = (acc ++ p).data.toList) := ⟨by simp⟩
        rw [Hap.out] at Hr' ⊢
        have hal : (acc ++ p).size ≤ 400 * (k + 1) := by rw [ByteArray.size_append]; omega
        have hsum : acc.size + p.size ≤ 9223372036854775807 := by omega
        obtain ⟨N, HN⟩ := ex_eq (F (acc ++ p).data.toList r')
        have HNs : Away (N.size = 19) := ⟨by rw [← HN.out]; exact HFs.out _ _⟩
        have HNo : Away (N.all (·.oneCell') = true) := ⟨by rw [← HN.out]; exact HFo.out _ _⟩
        have Hr2 := Away.mk (Hrt.out (acc ++ p).data.toList r')
        rw [HN.out] at Hr2 ⊢
        clear hb4 hr' hp
        have RowNa : Away ((w4.alloc (.cells N 39)).heap[w4.heap.size]? = some (.cells N 39 (0, 0))) := ⟨heap_at _ _ _ rfl⟩
        go_wp2_with (first
          | (refine wpList_store_new rfl 39 _ _ rfl N rfl rfl (by rw [HNs.out]; exact zHash) (by rw [HNs.out]; rfl) HNo.out rfl ?_)
          | (refine wpList_load_want rfl 39 _ rfl w4.heap.size rfl 39 N _ RowNa.out Try.underlying39 rfl (by rw [HNs.out]; exact zHash) ?_))
        obtain ⟨w5, Hw5⟩ := ex_eq (w4.alloc (.cells N 39))
        have z5 : w5.heap.size = w4.heap.size + 1 := by rw [← Hw5.out]; simp
        have RowN : Away (w5.heap[w4.heap.size]? = some (.cells N 39 (0, 0))) := ⟨by rw [← Hw5.out]; exact heap_at _ _ _ rfl⟩
        have HX5 : Away (At g6 (F acc.data.toList r) 39 w3 w5) := ⟨by rw [← Hw5.out]; exact HX4.out.later (below_alloc _ _)⟩
        rw [Hw5.out]
        refine (Hr2.out w5 Hr'.out (by show (acc ++ p).size ≤ _; omega)).mono ?_
        rintro e w6 ⟨rfl, hb6⟩
        have HX6 : Away (At g6 (F acc.data.toList r) 39 w3 w6) := ⟨HX5.out.later hb6⟩
        have RowN6 : Away (w6.heap[w4.heap.size]? = some (.cells N 39 (0, 0))) := ⟨(hb6.block _ (by omega)).trans RowN.out⟩
        clear hb6
        go_wp2_with (first
          | (refine wpList_load_row rfl 39 _ rfl w4.heap.size rfl 39 N (0, 0) _ RowN6.out Try.underlying39 rfl (by rw [HNs.out]; exact zHash) ?_)
          | (refine wpList_store_row rfl 39 _ _ rfl g6 N rfl rfl 39 _ HX6.out.row (by rw [HNs.out]; exact zHash) (by rw [HFs.out, HNs.out]) HNo.out ?_))
        go_roundw
        case rel => exact ⟨k + 1, acc ++ p, r', by omega, by go_num, rfl, Hr', hal, ⟨by rw [HN.out]; exact at_row6 HX6.out⟩⟩
        case measure => simp [intOf]; omega
    · obtain rfl : k = n := by omega
      have hA : acc.data.toList.length ≤ 549755813888 := by show acc.size ≤ _; omega
      have He := Away.mk (fun w1 : World => Hen.out acc.data.toList r w1 Hr.out hA)
      have Hsm := Away.mk (fun w1 : World => whole32 T k32 k64 s32 s64 acc w1 HTF.out (by omega))
      have Hlg := Away.mk (fun w1 : World => whole64 T k32 k64 s32 s64 acc w1 HTF.out (by omega))
      obtain ⟨X3, HX3⟩ := ex_eq (⟨(hs32 k32 s32 acc.data.toList).toArray⟩ : ByteArray)
      obtain ⟨X6, HX6⟩ := ex_eq (⟨(hs64 k64 s64 acc.data.toList).toArray⟩ : ByteArray)
      rw [HX3.out] at Hsm
      rw [HX6.out] at Hlg
      rw [HX6.out] at He
      clear HX3 HX6
      have z6 := Hbr.out.size
      have zr := Hx.out.size
      have arms : True := trivial
      go_wp2_with (first
        | (refine wpList_load_row rfl 33 _ rfl g5 rfl 33 T (0, 0) _ Row5.out Try.underlying33 rfl (by rw [HTs.out]; exact sizeT) ?_)
        | (refine wpList_load_row rfl 39 _ rfl g6 rfl 39 _ (0, 0) _ Row6.out Try.underlying39 rfl (by rw [HFs.out]; exact zHash) ?_))
      refine (He.out wr).mono ?_
      rintro e w4 ⟨rfl, hb4⟩
      have P5 := Away.mk ((hb4.block g5 (lt_of_row Row5.out)).trans Row5.out)
      have Hb4 : Away (Below w.heap.size w w4) := ⟨Hbr.out.trans (hb4.mono z6)⟩
      clear hb4
      go_wp2_with (refine wpList_load_row rfl 33 _ rfl g5 rfl 33 T (0, 0) _ P5.out Try.underlying33 rfl (by rw [HTs.out]; exact sizeT) ?_)
      refine (Hsm.out w4).mono ?_
      rintro e w5 ⟨rfl, hb5⟩
      have P6 := Away.mk ((hb5.block g5 (lt_of_row P5.out)).trans P5.out)
      have Hb5 : Away (Below w.heap.size w w5) := ⟨Hb4.out.trans (hb5.mono Hb4.out.size)⟩
      clear hb5
      go_wp2_with (refine wpList_load_row rfl 33 _ rfl g5 rfl 33 T (0, 0) _ P6.out Try.underlying33 rfl (by rw [HTs.out]; exact sizeT) ?_)
      refine (Hlg.out w5).mono ?_
      rintro e w6 ⟨rfl, hb6⟩
      have Hb6 : Away (Below w.heap.size w w6) := ⟨Hb5.out.trans (hb6.mono Hb5.out.size)⟩
      clear hb6
      go_wp2_with fail
      refine (awake3.awake_any _).mono ?_
      rintro e w7 ⟨rfl, hb7⟩
      have Hb7 : Away (Below w.heap.size w w7) := ⟨Hb6.out.trans (hb7.mono Hb6.out.size)⟩
      clear hb7
      go_wp2_with fail
      go_ret
      exact ⟨rfl, Hb7.out⟩
theorem walk (ao : Option Addr) (n cap : Nat) (b : Bool) (w : World) (hcell : ∃ S : Nat → ByteArray, ∀ i, i < n → ∃ a, ao = some a ∧ a.block < w.heap.size ∧ w.cell? (a.add i) = some (.string (S i))) :
    Calls Try.prog 4 #[.slice ao n cap, .bool b] w fun e w' => e = .returned (.bool true) ∧ Below w.heap.size w w' := by
  by_cases h : 20 < n
  · exact far ao n cap b w h
  obtain ⟨S, hS⟩ := hcell
  cases b
  · exact near32 ao n cap S w (by omega) hS
  · exact near64 ao n cap S w (by omega) hS

/-! ### The row -/
set_option maxRecDepth 100000 in
theorem lifted (os : Os) (started : os.Started) (H : Type) (enc : TypeId × Value → H) :
    ReturnsInHanded {} Try.checked os 4 .any (Rows.shaPiecesSpec.pre6 enc Try.prog Try.f4 Rows.shaPiecesRow.domain false) (Rows.shaPiecesSpec.post enc Try.prog Try.f4 false true false false) := by
  refine returnsInHanded_of_change (C := Try.checked) own started (by kernel_rfl) Try.func4
    (ChangeSpec.witness6 (enc := enc) (C := Try.checked) false ⟨#[], #[.slice none 0 0, .bool false], []⟩ 8 (by kernel_rfl) (by kernel_rfl) (by kernel_rfl) (by kernel_rfl)) ?_
  intro W base args ds gs before hval0 hW hcnd _
  have hval : ∀ (j : Nat) t v, Try.f4.params[j]? = some t → args[j]? = some v → Value.okWide Try.prog W .any base t v := hval0
  have hW' := hW
  have hlt := hW.lt
  obtain ⟨p, q, hA0, hV, rfl, hfz, hnd⟩ := hW
  have hA : DataW.TrodAll enc Try.prog W 0 (fun _ => true) true Try.f4.params.toList args.toList ds p := hA0
  rw [Try.params4] at hA hval
  obtain ⟨v0, vs0, d0, ds0, p0, q0, hargs, rfl, rfl, h0, r0⟩ := trodAll_cons hA
  obtain ⟨v1, vs1, d1, ds1, p1, q1, rfl, rfl, rfl, h1, r1⟩ := trodAll_cons r0
  obtain ⟨rfl, rfl, rfl⟩ := trodAll_nil r1
  obtain rfl : args = #[v0, v1] := by cases args; simp_all
  obtain ⟨rfl, rfl⟩ := trodVars_none hV
  obtain ⟨a0, len, cap, rfl⟩ := okWide_slice Try.underlying37 (hval 0 37 v0 rfl rfl)
  have hcell : ∃ S : Nat → ByteArray, ∀ i, i < len → ∃ a, a0 = some a ∧ a.block < W.heap.size ∧ W.cell? (a.add i) = some (.string (S i)) := by
    have h0c := h0
    obtain ⟨fuel, hf⟩ := h0c
    rcases open_strings Try.underlying37 Try.underlying9 (by kernel_rfl) hf with ⟨hcs, hx⟩ | ⟨a, len', cap', ss, hcs, hb1, hl, hm, hz, hx, hc, hsz⟩
    · refine ⟨fun _ => ⟨#[]⟩, fun i hi => ?_⟩
      simp [Value.cells] at hcs
      omega
    · have e : a0 = some a ∧ len = len' ∧ cap = cap' := by simpa [Value.cells] using hcs
      obtain ⟨rfl, rfl, rfl⟩ := e
      refine ⟨fun i => ss.getD i ByteArray.empty, fun i hi => ⟨a, rfl, ?_, hc i ?_⟩⟩
      · have := hc 0 (by rw [hz]; split <;> omega)
        have h1 := block_lt_of_cell this
        simp only [Addr.add] at h1
        split at h1 <;> exact h1
      · rw [hz]; split <;> omega
  obtain ⟨a1, rfl, rfl, rfl⟩ := open_bool Try.underlying4 (hval 1 4 v1 rfl rfl) h1
  clear hA0 hval0
  refine (walk a0 len cap a1 W hcell).mono fun e W' ⟨he, bel⟩ => ?_
  subst he
  exact ⟨_, rfl, _, _, _, [], _, [], hW', trodAll_mk1 (shut_bool Try.underlying4 _), (trodAll_cons_mk (Below.trod laidOut (by kernel_rfl) (of_decide_eq_true (by kernel_rfl)) h0 bel (fun x hx => by first | exact absurd hx (by simp) | exact hlt x (by simpa using hx) | exact hlt x (by simp; exact Or.inl hx) | exact hlt x (by simp; exact Or.inr hx) | exact hlt x (by simp; exact Or.inr (Or.inl hx)) | exact hlt x (by simp; exact Or.inr (Or.inr hx)))) (trodAll_cons_mk (Below.trod laidOut (by kernel_rfl) (of_decide_eq_true (by kernel_rfl)) h1 bel (fun x hx => by first | exact absurd hx (by simp) | exact hlt x (by simpa using hx) | exact hlt x (by simp; exact Or.inl hx) | exact hlt x (by simp; exact Or.inr hx) | exact hlt x (by simp; exact Or.inr (Or.inl hx)) | exact hlt x (by simp; exact Or.inr (Or.inr hx)))) trodAll_mk0)), rfl, bel.frame _, fun h => by cases h⟩

theorem over : Rows.shaPiecesRow.holds Try.pinned (OpenSpec.ofChange Rows.shaPiecesSpec) :=
  OpenClaim.holds_of_wide 4 Try.f4 rfl rfl rfl rfl rfl rfl rfl ⟨rfl, rfl, rfl, rfl, rfl⟩ rfl rfl rfl rfl rfl (by kernel_rfl) Try.func4 (by kernel_rfl)
    (of_decide_eq_true (by kernel_rfl)) (by unfold Func.isWrapper; first | (rw [if_pos (by decide +kernel)]; kernel_rfl) | (rw [if_neg (by decide +kernel)]; exact ⟨rfl, rfl⟩))
    (fun os started H enc _ => lifted os started H enc)

theorem proved : Rows.ShaPiecesSaid :=
  over
end Go.Proofs.Ytnllnhnpoehclaa.lpieces
