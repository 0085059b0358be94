/-
  The statement BitsBack (P10.8): what is packed is unpacked, and what is unpacked is packed so again. Conditions: none; for every input that the form speaks of.
-/
import Derived.Test.YtdlolhilmhlklaaRows
import Derived.Test.YtdlolhilmhlklaaAwake10
import Derived.ProofKit
import Derived.OpenShut
import Derived.ShutString
import Derived.Carry
namespace Go.Proofs.Ytdlolhilmhlklaa.l10b
open Go.ChangeShapes Go.WideShapes Go.ChangeAt Go.RowKit
open Go.ChangeMaps (open_string)
open Go.Proofs.Ytdlolhilmhlklaa.arr Go.Proofs.Ytdlolhilmhlklaa.mem Go.Proofs.Ytdlolhilmhlklaa.stil Go.Proofs.Ytdlolhilmhlklaa.polys Go.Proofs.Ytdlolhilmhlklaa.polt Go.Proofs.Ytdlolhilmhlklaa.fldm Go.Proofs.Ytdlolhilmhlklaa.fld1 Go.Proofs.Ytdlolhilmhlklaa.rbita Go.Proofs.Ytdlolhilmhlklaa.rbitd Go.Proofs.Ytdlolhilmhlklaa.rbite Go.Proofs.Ytdlolhilmhlklaa.rbitf Go.Proofs.Ytdlolhilmhlklaa.rbitg Go.Proofs.Ytdlolhilmhlklaa.bitp
set_option linter.unusedVariables false
theorem own : ownKnob Try.prog.godebug = none := by kernel_rfl
theorem laidOut : laidOutB Try.prog = true := by kernel_rfl

/-- what the law makes of a coefficient: one from 0 to most, one centred around 0 -/
def pf (f : Nat → Int) (mo : Nat) : Nat → Int := fun i => (f i % 8380417) % ((mo : Int) + 1)
def qf (f : Nat → Int) (mo : Nat) : Nat → Int := fun i => ((f i % 8380417) % ((mo : Int) / 2 + 1) - (mo : Int) / 4) % 8380417
theorem pf_in (f : Nat → Int) (mo : Nat) : inb (pf f mo) (mo : Int) := fun i _ => by
  unfold pf
  have h0 := Int.emod_nonneg (f i % 8380417) (show (mo : Int) + 1 ≠ 0 by omega)
  have h1 := Int.emod_lt_of_pos (f i % 8380417) (show 0 < (mo : Int) + 1 by omega)
  omega
theorem qf_in (f : Nat → Int) (mo : Nat) (h : mo ≤ 8000000) : ins (qf f mo) ((mo : Int) / 4) ((mo : Int) / 2) := fun i _ => by
  unfold qf
  have h0 := Int.emod_nonneg (f i % 8380417) (show (mo : Int) / 2 + 1 ≠ 0 by omega)
  have h1 := Int.emod_lt_of_pos (f i % 8380417) (show 0 < (mo : Int) / 2 + 1 by omega)
  generalize (f i % 8380417) % ((mo : Int) / 2 + 1) = r at h0 h1 ⊢
  unfold ce
  rw [if_neg (by omega)]
  split <;> omega
theorem qf_red (f : Nat → Int) (mo : Nat) (i : Nat) : 0 ≤ qf f mo i ∧ qf f mo i < 8380417 := by unfold qf; omega
section
variable (f : Nat → Int) (mo : Nat) (h1 : 1 ≤ mo) (h2 : mo ≤ 8000000)
include h1 h2
theorem c_pack (w : World) : Calls Try.prog 7 #[.agg (FL .i64 256 (pf f mo)), .int .i64 (mo : Int)] w fun e w' => e = .returned (.tuple #[.string (packed (pf f mo) (mo : Int)), .int .i64 0]) ∧ Below w.heap.size w w' := by
  have h := ppack.pack_any (pf f mo) (mo : Int) w (by omega) (by omega)
  rw [if_pos (pf_in f mo)] at h
  exact h
theorem c_unpack (w : World) : Calls Try.prog 16 #[.string (packed (pf f mo) (mo : Int)), .int .i64 (mo : Int)] w fun e w' => e = .returned (.tuple #[.agg (FL .i64 256 (pf f mo)), .int .i64 0]) ∧ Below w.heap.size w w' := by
  have h := punp.unpack_any (packed (pf f mo) (mo : Int)) (mo : Int) w (by omega) (by omega) (size_packed _ _)
  have e : ∀ i, i < 256 → up (packed (pf f mo) (mo : Int)) (lb (mo : Int).toNat) i = pf f mo i := fun i hi => up_packed _ _ (by omega) (pf_in f mo) i hi
  have hin : inb (up (packed (pf f mo) (mo : Int)) (lb (mo : Int).toNat)) (mo : Int) := fun i hi => by rw [e i hi]; exact pf_in f mo i hi
  rw [if_pos hin, fl_congr .i64 256 e] at h
  exact h
theorem c_signed (w : World) (h3 : 1 ≤ mo / 4) : Calls Try.prog 9 #[.agg (FL .i64 256 (qf f mo)), .int .i64 ((mo : Int) / 4), .int .i64 ((mo : Int) / 2)] w fun e w' => e = .returned (.tuple #[.string (packed (sg (qf f mo) ((mo : Int) / 2)) ((mo : Int) / 4 + (mo : Int) / 2)), .int .i64 0]) ∧ Below w.heap.size w w' := by
  have h := psig.signed_any (qf f mo) ((mo : Int) / 4) ((mo : Int) / 2) w (by omega) (by omega) (by omega) (by omega)
  rw [if_pos (qf_in f mo h2)] at h
  exact h
theorem c_unsigned (w : World) (h3 : 1 ≤ mo / 4) : Calls Try.prog 17 #[.string (packed (sg (qf f mo) ((mo : Int) / 2)) ((mo : Int) / 4 + (mo : Int) / 2)), .int .i64 ((mo : Int) / 4), .int .i64 ((mo : Int) / 2)] w fun e w' => e = .returned (.tuple #[.agg (FL .i64 256 (qf f mo)), .int .i64 0]) ∧ Below w.heap.size w w' := by
  have hin : inb (sg (qf f mo) ((mo : Int) / 2)) ((mo : Int) / 4 + (mo : Int) / 2) := (psig.ins_inb _ _ _).2 (qf_in f mo h2)
  have h := puns.unsigned_good (packed (sg (qf f mo) ((mo : Int) / 2)) ((mo : Int) / 4 + (mo : Int) / 2)) ((mo : Int) / 4) ((mo : Int) / 2) w (sg (qf f mo) ((mo : Int) / 2)) (by omega) (by omega) (by omega) (by omega) hin (fun w2 => by
    have h := punp.unpack_any (packed (sg (qf f mo) ((mo : Int) / 2)) ((mo : Int) / 4 + (mo : Int) / 2)) ((mo : Int) / 4 + (mo : Int) / 2) w2 (by omega) (by omega) (size_packed _ _)
    have e : ∀ i, i < 256 → up (packed (sg (qf f mo) ((mo : Int) / 2)) ((mo : Int) / 4 + (mo : Int) / 2)) (lb ((mo : Int) / 4 + (mo : Int) / 2).toNat) i = sg (qf f mo) ((mo : Int) / 2) i := fun i hi => up_packed _ _ (by omega) hin i hi
    have hin2 : inb (up (packed (sg (qf f mo) ((mo : Int) / 2)) ((mo : Int) / 4 + (mo : Int) / 2)) (lb ((mo : Int) / 4 + (mo : Int) / 2).toNat)) ((mo : Int) / 4 + (mo : Int) / 2) := fun i hi => by rw [e i hi]; exact hin i hi
    rw [if_pos hin2, fl_congr .i64 256 e] at h
    exact h)
  rw [fl_congr .i64 256 (fun i _ => un_sg (qf f mo) ((mo : Int) / 2) i (qf_red f mo i))] at h
  exact h
/-- bytes of any kind: an error, or a polynomial that is packed as these bytes -/
theorem c_any (s : ByteArray) : ∃ (x : Nat → Int) (c : Int), (∀ w : World, Calls Try.prog 16 #[.string s, .int .i64 (mo : Int)] w fun e w' => e = .returned (.tuple #[.agg (FL .i64 256 x), .int .i64 c]) ∧ Below w.heap.size w w') ∧
    (c = 1 ∨ c = 3 ∨ (c = 0 ∧ ∀ w : World, Calls Try.prog 7 #[.agg (FL .i64 256 x), .int .i64 (mo : Int)] w fun e w' => e = .returned (.tuple #[.string s, .int .i64 0]) ∧ Below w.heap.size w w')) := by
  by_cases hs : s.size = 32 * lb (mo : Int).toNat
  · by_cases hin : inb (up s (lb (mo : Int).toNat)) (mo : Int)
    · refine ⟨up s (lb (mo : Int).toNat), 0, fun w => ?_, Or.inr (Or.inr ⟨rfl, fun w => ?_⟩)⟩
      · have h := punp.unpack_any s (mo : Int) w (by omega) (by omega) hs
        rw [if_pos hin] at h
        exact h
      · have h := ppack.pack_any (up s (lb (mo : Int).toNat)) (mo : Int) w (by omega) (by omega)
        rw [if_pos hin, packed_up s (mo : Int) hs] at h
        exact h
    · refine ⟨fun _ => 0, 3, fun w => ?_, Or.inr (Or.inl rfl)⟩
      have h := punp.unpack_any s (mo : Int) w (by omega) (by omega) hs
      rw [if_neg hin] at h
      exact h
  · exact ⟨fun _ => 0, 1, fun w => punp.unpack_bad s (mo : Int) w (Or.inr (Or.inr hs)), Or.inl rfl⟩
end
set_option maxRecDepth 100000 in
set_option maxHeartbeats 4000000 in
theorem walk_far (f : Nat → Int) (s : ByteArray) (n : Int) (w : World) (h : 2000 < s.size) : Calls Try.prog 4 #[.agg (FL .i64 256 f), .string s, .int .i64 n] w fun e w' => e = .returned (.bool true) ∧ Below w.heap.size w w' := by
  have HA := Away.mk (fun w1 => awake10.awake_any w1)
  have hz : (2000 : Int) < (s.size : Int) := by omega
  obtain ⟨F, HF⟩ := ex_eq (FL .i64 256 f)
  rw [HF.out]
  obtain ⟨W, hW⟩ : ∃ x, w.alloc (.cells F 24) = x := ⟨_, rfl⟩
  obtain ⟨r0, -, b0⟩ := one hW
  have B0 := Away.mk b0
  have HW := Away.mk hW
  clear hW r0 b0 h
  go_enter Try.func4, Try.ntmps4
  go_wp2_with (rw [HW.out])
  refine (HA.out _).mono ?_
  rintro e w8 ⟨rfl, hb8⟩
  have BZ : Away (Below w.heap.size w w8) := ⟨B0.out.trans (hb8.mono B0.out.size)⟩
  clear hb8
  go_wp2_with fail
  go_ret
  exact ⟨rfl, BZ.out⟩
set_option maxRecDepth 100000 in
set_option maxHeartbeats 8000000 in
theorem walk_near (f : Nat → Int) (s : ByteArray) (n : Int) (w : World) (h : s.size ≤ 2000) : Calls Try.prog 4 #[.agg (FL .i64 256 f), .string s, .int .i64 n] w fun e w' => e = .returned (.bool true) ∧ Below w.heap.size w w' := by
  have HA := Away.mk (fun w1 => awake10.awake_any w1)
  have hz : ¬ (2000 : Int) < (s.size : Int) := by omega
  obtain ⟨u, hu⟩ : ∃ u : Nat, IntKind.u64.wrap n = (u : Int) := ⟨(IntKind.u64.wrap n).toNat, by rw [IntKind.wrap_u64]; omega⟩
  obtain ⟨r, hr⟩ : ∃ r, u % 8000000 = r := ⟨_, rfl⟩
  obtain ⟨mo, hmo⟩ : ∃ mo, 1 + r = mo := ⟨_, rfl⟩
  have m1 : 1 ≤ mo := by omega
  have m2 : mo ≤ 8000000 := by omega
  have fu2 : n % 18446744073709551616 = (u : Int) := by rw [← hu, IntKind.wrap_u64]
  have fr : (u : Int) % 8000000 = (r : Int) := by omega
  have fr2 : (u : Int).tmod 8000000 = (r : Int) := by rw [Int.tmod_eq_emod_of_nonneg (by omega)]; omega
  have frw : IntKind.i64.wrap (r : Int) = (r : Int) := by rw [IntKind.wrap_i64]; omega
  have fmo : 1 + (r : Int) = (mo : Int) := by omega
  have fmow : IntKind.i64.wrap (1 + (r : Int)) = (mo : Int) := by rw [IntKind.wrap_i64]; omega
  obtain ⟨x, c, hX, hways⟩ := c_any mo m1 m2 s
  have HP0 := Away.mk (c_pack f mo m1 m2)
  have HU0 := Away.mk (c_unpack f mo m1 m2)
  have HS0 := Away.mk (fun w1 h3 => c_signed f mo m1 m2 w1 h3)
  have HT0 := Away.mk (fun w1 h3 => c_unsigned f mo m1 m2 w1 h3)
  have sO := size_packed (pf f mo) (mo : Int)
  obtain ⟨wd, hwd⟩ : ∃ wd, lb (mo : Int).toNat = wd := ⟨_, rfl⟩
  have hwd23 := lb_small (mo : Int) (by omega)
  have HLo : Away (∀ w1 : World, Calls Try.prog 13 #[.int .i64 (mo : Int)] w1 fun e w' => e = .returned (.int .i64 (wd : Int)) ∧ w' = w1) := ⟨fun w1 => by rw [← hwd]; exact plong.long_any (mo : Int) (by omega) w1⟩
  rw [hwd] at sO hwd23
  have f32 : IntKind.i64.wrap (32 * (wd : Int)) = 32 * (wd : Int) := by rw [IntKind.wrap_i64]; omega
  obtain ⟨M, hM⟩ : ∃ M, 32 * wd = M := ⟨_, rfl⟩
  have fM : 32 * (wd : Int) = (M : Int) := by omega
  have fMw : IntKind.i64.wrap (32 * (wd : Int)) = (M : Int) := by rw [f32, fM]
  rw [hM] at sO
  obtain ⟨O, HO⟩ := ex_eq (packed (pf f mo) (mo : Int))
  rw [HO.out] at HP0 HU0 sO
  obtain ⟨U, HUU⟩ := ex_eq (packed (sg (qf f mo) ((mo : Int) / 2)) ((mo : Int) / 4 + (mo : Int) / 2))
  rw [HUU.out] at HS0 HT0
  obtain ⟨lo, hlo⟩ : ∃ lo, mo / 4 = lo := ⟨_, rfl⟩
  obtain ⟨hi, hhi⟩ : ∃ hi, mo / 2 = hi := ⟨_, rfl⟩
  have elo : (mo : Int) / 4 = (lo : Int) := by omega
  have ehi : (mo : Int) / 2 = (hi : Int) := by omega
  have Hq : Away (∀ i, qf f mo i = ((f i % 8380417) % ((hi : Int) + 1) - (lo : Int)) % 8380417) := ⟨fun i => by unfold qf; rw [elo, ehi]⟩
  rw [elo, ehi, hlo] at HS0 HT0
  have flo : (mo : Int).tdiv 4 = (lo : Int) := by rw [Int.tdiv_eq_ediv_of_nonneg (by omega)]; exact elo
  have fhi : (mo : Int).tdiv 2 = (hi : Int) := by rw [Int.tdiv_eq_ediv_of_nonneg (by omega)]; exact ehi
  have flow : IntKind.i64.wrap ((mo : Int).tdiv 4) = (lo : Int) := by rw [flo, IntKind.wrap_i64]; omega
  have fhiw : IntKind.i64.wrap ((mo : Int).tdiv 2) = (hi : Int) := by rw [fhi, IntKind.wrap_i64]; omega
  have HEqP : Away (∀ w1 : World, (Op.equalIn 10000 24 (.agg (FL .i64 256 (pf f mo))) (.agg (FL .i64 256 (pf f mo)))).run Try.prog w1 = .ok true w1) := ⟨fun w1 => by
    have h := equal_poly (pf f mo) (pf f mo) w1
    rw [(same_iff 256 _ _).2 fun _ _ => rfl] at h
    exact h⟩
  have HEqQ : Away (∀ w1 : World, (Op.equalIn 10000 24 (.agg (FL .i64 256 (qf f mo))) (.agg (FL .i64 256 (qf f mo)))).run Try.prog w1 = .ok true w1) := ⟨fun w1 => by
    have h := equal_poly (qf f mo) (qf f mo) w1
    rw [(same_iff 256 _ _).2 fun _ _ => rfl] at h
    exact h⟩
  obtain ⟨hz0, hsize⟩ := zero_of_info polt.infoP
  obtain ⟨z, HZ⟩ := ex_eq (FL .i64 256 fun _ => 0)
  rw [HZ.out] at hz0
  have Hzs : Away (z.size = 256) := ⟨by rw [← HZ.out]; exact fl_size _ _ _⟩
  have Hpp : Away (FL .i64 256 (pt (pf f mo) f 256) = FL .i64 256 (pf f mo)) := ⟨fl_all _ _ _ _⟩
  have Hqq : Away (FL .i64 256 (pt (qf f mo) f 256) = FL .i64 256 (qf f mo)) := ⟨fl_all _ _ _ _⟩
  have Hp0 : Away (FL .i64 256 (pt (pf f mo) f 0) = FL .i64 256 f) := ⟨by rw [pt_zero]⟩
  have Hq0 : Away (FL .i64 256 (pt (qf f mo) f 0) = FL .i64 256 f) := ⟨by rw [pt_zero]⟩
  have HpfD : Away (∀ i, pf f mo i = (f i % 8380417) % ((mo : Int) + 1)) := ⟨fun i => rfl⟩
  obtain ⟨P, HP⟩ := ex_eq (FL .i64 256 (pf f mo))
  obtain ⟨Q, HQ⟩ := ex_eq (FL .i64 256 (qf f mo))
  obtain ⟨X, HXX⟩ := ex_eq (FL .i64 256 x)
  rw [HP.out] at HP0 HU0 HEqP Hpp
  rw [HQ.out] at HS0 HT0 HEqQ Hqq
  rw [HXX.out] at hX hways
  have Ps : P.size = 256 := by rw [← HP.out]; exact fl_size _ _ _
  have Qs : Q.size = 256 := by rw [← HQ.out]; exact fl_size _ _ _
  have Xs : X.size = 256 := by rw [← HXX.out]; exact fl_size _ _ _
  have Pi : Away ((Try.prog.info? 24).map (·.size) = some P.size) := ⟨by rw [Ps]; exact hsize⟩
  have Po : Away (P.all (·.oneCell') = true) := ⟨by rw [← HP.out]; exact fl_one _ _ _⟩
  have Pz : Away (z.size = P.size) := ⟨by rw [Hzs.out, Ps]⟩
  have Qi : Away ((Try.prog.info? 24).map (·.size) = some Q.size) := ⟨by rw [Qs]; exact hsize⟩
  have Qo : Away (Q.all (·.oneCell') = true) := ⟨by rw [← HQ.out]; exact fl_one _ _ _⟩
  have Qz : Away (z.size = Q.size) := ⟨by rw [Hzs.out, Qs]⟩
  have Xi : Away ((Try.prog.info? 24).map (·.size) = some X.size) := ⟨by rw [Xs]; exact hsize⟩
  have Xo : Away (X.all (·.oneCell') = true) := ⟨by rw [← HXX.out]; exact fl_one _ _ _⟩
  have Xz : Away (z.size = X.size) := ⟨by rw [Hzs.out, Xs]⟩
  have HX := Away.mk hX
  have HWays : Away ((c = 1 ∨ c = 3) ∨ (c = 0 ∧ ∀ w : World, Calls Try.prog 7 #[.agg X, .int .i64 (mo : Int)] w fun e w' => e = .returned (.tuple #[.string s, .int .i64 0]) ∧ Below w.heap.size w w')) := ⟨by rcases hways with h | h | h; exact Or.inl (Or.inl h); exact Or.inl (Or.inr h); exact Or.inr h⟩
  have Hidx : Away (∀ i : Nat, i < 256 → ∀ w1, (Instr.index 24 (.agg (FL .i64 256 f)) (.int .i64 (i : Int))).run Try.prog w1 = .ok (.int .i64 (f i)) w1) := ⟨fun i hi w1 => index_row (P := Try.prog) Try.underlying24 (by kernel_rfl) (by kernel_rfl) (by kernel_rfl) _ _ i hi (fl_get .i64 256 f i hi) w1⟩
  have Fs : Away ((FL .i64 256 f).size = 256) := ⟨fl_size _ _ _⟩
  have Fo : Away ((FL .i64 256 f).all (·.oneCell') = true) := ⟨fl_one _ _ _⟩
  obtain ⟨F, HF⟩ := ex_eq (FL .i64 256 f)
  rw [HF.out] at Hidx Fs Fo Hp0 Hq0 ⊢
  have Fi : Away ((Try.prog.info? 24).map (·.size) = some F.size) := ⟨by rw [Fs.out]; exact hsize⟩
  have Fz : Away (z.size = F.size) := ⟨by rw [Hzs.out, Fs.out]⟩
  obtain ⟨W0, hW0⟩ : ∃ x, w.alloc (.cells F 24) = x := ⟨_, rfl⟩
  obtain ⟨r0, s0, b0⟩ := one hW0
  obtain ⟨W, hW⟩ : ∃ x, W0.alloc (.cells F 24) = x := ⟨_, rfl⟩
  obtain ⟨r1, s1, b1⟩ := one hW
  have R0' : Away (W0.heap[w.heap.size]? = some (.cells F 24 (0, 0))) := ⟨r0⟩
  have R0 : Away (W.heap[w.heap.size]? = some (.cells (FL .i64 256 (pt (pf f mo) f 0)) 24 (0, 0))) := ⟨by rw [Hp0.out]; exact (b1.block _ (lt_of_row r0)).trans r0⟩
  have R1 : Away (W.heap[W0.heap.size]? = some (.cells (FL .i64 256 (pt (qf f mo) f 0)) 24 (0, 0))) := ⟨by rw [Hq0.out]; exact r1⟩
  have R0F : Away (W.heap[w.heap.size]? = some (.cells F 24 (0, 0))) := ⟨(b1.block _ (lt_of_row r0)).trans r0⟩
  have BW : Away (Below w.heap.size w W) := ⟨b0.trans (b1.mono b0.size)⟩
  have HW0 := Away.mk hW0
  have HW := Away.mk hW
  have Hs0 := Away.mk s0
  have Hm : Away (1 ≤ mo ∧ mo ≤ 8000000 ∧ lo ≤ mo ∧ hi ≤ mo) := ⟨by omega⟩
  clear hW hW0 r0 r1 b0 b1 h hr hmo HP HQ HXX HF HO HUU HZ hlo hhi Ps Qs Xs hsize hX hways hM s0 s1
  go_enter Try.func4, Try.ntmps4
  go_wp2_with (first
    | (rw [HW0.out])
    | (rw [HW.out])
    | (refine wpList_load_row rfl 24 _ rfl w.heap.size rfl 24 F (0, 0) _ R0'.out Try.underlying24 rfl Fi.out ?_)
    | (refine wpList_load_row rfl 24 _ rfl w.heap.size rfl 24 F (0, 0) _ R0F.out Try.underlying24 rfl Fi.out ?_)
    | (refine wpList_store_new rfl 24 _ _ rfl _ rfl rfl Fi.out Fz.out Fo.out rfl ?_))
  go_loopw [33] (fun v wr => ∃ j : Nat, j ≤ 256 ∧ v = .int .i64 (j : Int) ∧ Away (wr.heap[w.heap.size]? = some (.cells (FL .i64 256 (pt (pf f mo) f j)) 24 (0, 0))) ∧ Away (wr.heap[W0.heap.size]? = some (.cells (FL .i64 256 (pt (qf f mo) f j)) 24 (0, 0))) ∧ Away (Below w.heap.size w wr)) (fun v _ => 256 - (intOf v).toNat)
  case atStart => exact ⟨0, Nat.zero_le _, rfl, R0, R1, BW⟩
  case round =>
    clear R0 R1 BW R0F R0' HW HW0
    obtain ⟨j, hj, rfl, R0, R1, BE⟩ := hrel
    by_cases hlt : j < 256
    · have hjz : (j : Int) < 256 := by omega
      have hidx := Hidx.out j hlt
      have hpd := HpfD.out j
      have hqd := Hq.out j
      have hre := fun w1 => fld1.reduce_any (f j) w1
      obtain ⟨a, ha⟩ : ∃ a : Nat, f j % 8380417 = (a : Int) := ⟨(f j % 8380417).toNat, by omega⟩
      have ha8 : a < 8380417 := by omega
      rw [ha] at hpd hqd hre
      obtain ⟨k1, hk1⟩ : ∃ k1, mo + 1 = k1 := ⟨_, rfl⟩
      obtain ⟨j1, hh1⟩ : ∃ j1, hi + 1 = j1 := ⟨_, rfl⟩
      obtain ⟨p, hp⟩ : ∃ p, a % k1 = p := ⟨_, rfl⟩
      obtain ⟨q, hq⟩ : ∃ q, a % j1 = q := ⟨_, rfl⟩
      have hpa : p ≤ a := by rw [← hp]; exact Nat.mod_le _ _
      have hqa : q ≤ a := by rw [← hq]; exact Nat.mod_le _ _
      have em1 : (mo : Int) + 1 = (k1 : Int) := by omega
      have eh1 : (hi : Int) + 1 = (j1 : Int) := by omega
      have ep : (a : Int) % (k1 : Int) = (p : Int) := by rw [← hp]; rfl
      have eq : (a : Int) % (j1 : Int) = (q : Int) := by rw [← hq]; rfl
      rw [em1, ep] at hpd
      rw [eh1, eq] at hqd
      have fp : (a : Int).tmod (k1 : Int) = (p : Int) := by rw [Int.tmod_eq_emod_of_nonneg (by omega)]; exact ep
      have fq : (a : Int).tmod (j1 : Int) = (q : Int) := by rw [Int.tmod_eq_emod_of_nonneg (by omega)]; exact eq
      have fm1 : IntKind.i64.wrap ((mo : Int) + 1) = (k1 : Int) := by have := Hm.out; rw [IntKind.wrap_i64]; omega
      have fh1 : IntKind.i64.wrap ((hi : Int) + 1) = (j1 : Int) := by have := Hm.out; rw [IntKind.wrap_i64]; omega
      have z1 : ¬ (k1 : Int) = 0 := by omega
      have z2 : ((k1 : Int) == 0) = false := beq_eq_false_iff_ne.2 z1
      have z3 : ¬ (j1 : Int) = 0 := by omega
      have z4 : ((j1 : Int) == 0) = false := beq_eq_false_iff_ne.2 z3
      have fql : IntKind.i64.wrap ((q : Int) - (lo : Int)) = (q : Int) - (lo : Int) := by have := Hm.out; rw [IntKind.wrap_i64]; omega
      have hre2 := fun w1 => fld1.reduce_any ((q : Int) - (lo : Int)) w1
      obtain ⟨b, hb⟩ : ∃ b, ((q : Int) - (lo : Int)) % 8380417 = b := ⟨_, rfl⟩
      rw [hb] at hqd hre2
      have Hpd : Away ((p : Int) = pf f mo j) := ⟨hpd.symm⟩
      have Hqd : Away (b = qf f mo j) := ⟨hqd.symm⟩
      obtain ⟨x, hx⟩ : ∃ x, f j = x := ⟨_, rfl⟩
      rw [hx] at hre hidx
      have HRe := Away.mk hre
      have HRe2 := Away.mk hre2
      have A0 : Away (At w.heap.size (FL .i64 256 (pt (pf f mo) f j)) 24 wr wr) := ⟨At.refl R0.out⟩
      clear hpd hqd ha hp hq hk1 hh1 hb hx hre hre2 em1 eh1 ep eq
      go_wp2_with fail
      refine (HRe.out _).mono ?_
      rintro e wr ⟨rfl, rfl⟩
      clear hidx
      go_wp2_with ((with_reducible refine wpList_put2 A0 rfl _ _ _ rfl rfl ?_); refine ⟨_, _, _, rfl, rfl, rfl, (by rw [fl_size]; exact hlt), ?_⟩; intro wn HR; rw [fl_set, pt_upd (pf f mo) _ _ _ Hpd.out] at HR)
      have S1 : Away (wn.heap[W0.heap.size]? = some (.cells (FL .i64 256 (pt (qf f mo) f j)) 24 (0, 0))) := ⟨HR.out.other (lt_of_row R1.out) (by rw [Hs0.out]; omega) R1.out⟩
      have S0 : Away (wn.heap[w.heap.size]? = some (.cells (FL .i64 256 (pt (pf f mo) f (j + 1))) 24 (0, 0))) := ⟨HR.out.row⟩
      have SE : Away (Below w.heap.size w wn) := ⟨BE.out.trans (HR.out.below BE.out.size (Nat.le_refl _))⟩
      have A1 : Away (At W0.heap.size (FL .i64 256 (pt (qf f mo) f j)) 24 wn wn) := ⟨At.refl S1.out⟩
      clear HR R0 R1 BE A0
      refine (HRe.out _).mono ?_
      rintro e wn ⟨rfl, rfl⟩
      go_wp2_with fail
      refine (HRe2.out _).mono ?_
      rintro e wn ⟨rfl, rfl⟩
      go_wp2_with ((with_reducible refine wpList_put2 A1 rfl _ _ _ rfl rfl ?_); refine ⟨_, _, _, rfl, rfl, rfl, (by rw [fl_size]; exact hlt), ?_⟩; intro wm HR; rw [fl_set, pt_upd (qf f mo) _ _ _ Hqd.out] at HR)
      go_roundw
      case rel => exact ⟨j + 1, by omega, by go_num, ⟨HR.out.other (lt_of_row S0.out) (by rw [Hs0.out]; omega) S0.out⟩, ⟨HR.out.row⟩, ⟨SE.out.trans (HR.out.below SE.out.size (by rw [Hs0.out]; omega))⟩⟩
      case measure => simp [intOf]; omega
    · obtain rfl : j = 256 := by omega
      simp only [Int.cast_ofNat_Int]
      rw [Hpp.out] at R0
      rw [Hqq.out] at R1
      go_wp2_with (refine wpList_load_row rfl 24 _ rfl w.heap.size rfl 24 P (0, 0) _ R0.out Try.underlying24 rfl Pi.out ?_)
      refine (HP0.out _).mono ?_
      rintro e w1 ⟨rfl, hb1⟩
      have T0 : Away (w1.heap[w.heap.size]? = some (.cells P 24 (0, 0))) := ⟨(hb1.block _ (lt_of_row R0.out)).trans R0.out⟩
      have T1 : Away (w1.heap[W0.heap.size]? = some (.cells Q 24 (0, 0))) := ⟨(hb1.block _ (lt_of_row R1.out)).trans R1.out⟩
      have TB : Away (Below w.heap.size w w1) := ⟨BE.out.trans (hb1.mono BE.out.size)⟩
      clear hb1 R0 R1 BE
      go_wp2_with fail
      refine (HU0.out _).mono ?_
      rintro e w2 ⟨rfl, hb2⟩
      obtain ⟨W2, hW2⟩ : ∃ x, w2.alloc (.cells P 24) = x := ⟨_, rfl⟩
      obtain ⟨r2, s2, b2⟩ := one hW2
      have U0 : Away (W2.heap[w.heap.size]? = some (.cells P 24 (0, 0))) := ⟨((hb2.trans (b2.mono hb2.size)).block _ (lt_of_row T0.out)).trans T0.out⟩
      have U1 : Away (W2.heap[W0.heap.size]? = some (.cells Q 24 (0, 0))) := ⟨((hb2.trans (b2.mono hb2.size)).block _ (lt_of_row T1.out)).trans T1.out⟩
      have U2 : Away (W2.heap[w2.heap.size]? = some (.cells P 24 (0, 0))) := ⟨r2⟩
      have UB : Away (Below w.heap.size w W2) := ⟨(TB.out.trans (hb2.mono TB.out.size)).trans (b2.mono (Nat.le_trans TB.out.size hb2.size))⟩
      have heP := HEqP.out W2
      have HW2 := Away.mk hW2
      clear hb2 r2 s2 b2 hW2 T0 T1 TB
      go_wp2_with (first
        | (refine wpList_store_new rfl 24 _ _ rfl _ rfl rfl Pi.out Pz.out Po.out rfl ?_)
        | (rw [HW2.out]))
      refine wp_load_row 24 _ rfl w2.heap.size rfl 24 P (0, 0) _ U2.out Try.underlying24 rfl Pi.out ?_
      go_wp2_with fail
      refine wp_load_row 24 _ rfl w.heap.size rfl 24 P (0, 0) _ U0.out Try.underlying24 rfl Pi.out ?_
      go_wp2_with fail
      clear heP
      refine (HLo.out _).mono ?_
      rintro e W2 ⟨rfl, rfl⟩
      by_cases hlo1 : 1 ≤ lo
      · have hlz : (1 : Int) ≤ (lo : Int) := by omega
        have HS1 := Away.mk (fun w1 => HS0.out w1 hlo1)
        have HT1 := Away.mk (fun w1 => HT0.out w1 hlo1)
        clear HS0 HT0
        go_wp2_with (refine wpList_load_row rfl 24 _ rfl W0.heap.size rfl 24 Q (0, 0) _ U1.out Try.underlying24 rfl Qi.out ?_)
        refine (HS1.out _).mono ?_
        rintro e w3 ⟨rfl, hb3⟩
        have V1 : Away (w3.heap[W0.heap.size]? = some (.cells Q 24 (0, 0))) := ⟨(hb3.block _ (lt_of_row U1.out)).trans U1.out⟩
        have VB : Away (Below w.heap.size w w3) := ⟨UB.out.trans (hb3.mono UB.out.size)⟩
        clear hb3 U0 U1 U2 UB
        go_wp2_with fail
        refine (HT1.out _).mono ?_
        rintro e w4 ⟨rfl, hb4⟩
        obtain ⟨W4, hW4⟩ : ∃ x, w4.alloc (.cells Q 24) = x := ⟨_, rfl⟩
        obtain ⟨r4, s4, b4⟩ := one hW4
        have X1 : Away (W4.heap[W0.heap.size]? = some (.cells Q 24 (0, 0))) := ⟨((hb4.trans (b4.mono hb4.size)).block _ (lt_of_row V1.out)).trans V1.out⟩
        have X2 : Away (W4.heap[w4.heap.size]? = some (.cells Q 24 (0, 0))) := ⟨r4⟩
        have XB : Away (Below w.heap.size w W4) := ⟨(VB.out.trans (hb4.mono VB.out.size)).trans (b4.mono (Nat.le_trans VB.out.size hb4.size))⟩
        have heQ := HEqQ.out W4
        have HW4 := Away.mk hW4
        clear hb4 r4 s4 b4 hW4 V1 VB
        go_wp2_with (first
          | (refine wpList_store_new rfl 24 _ _ rfl _ rfl rfl Qi.out Qz.out Qo.out rfl ?_)
          | (rw [HW4.out]))
        refine wp_load_row 24 _ rfl w4.heap.size rfl 24 Q (0, 0) _ X2.out Try.underlying24 rfl Qi.out ?_
        go_wp2_with fail
        refine wp_load_row 24 _ rfl W0.heap.size rfl 24 Q (0, 0) _ X1.out Try.underlying24 rfl Qi.out ?_
        go_wp2_with fail
        clear heQ X1 X2
        refine (HX.out _).mono ?_
        rintro e w6 ⟨rfl, hb6⟩
        have B6 : Away (Below w.heap.size w w6) := ⟨XB.out.trans (hb6.mono XB.out.size)⟩
        clear hb6
        obtain ⟨W7, hW7⟩ : ∃ x, w6.alloc (.cells X 24) = x := ⟨_, rfl⟩
        obtain ⟨r7, s7, b7⟩ := one hW7
        have R7 := Away.mk r7
        have HW7 := Away.mk hW7
        have B7 : Away (Below w.heap.size w W7) := ⟨B6.out.trans (b7.mono B6.out.size)⟩
        clear r7 s7 b7 hW7
        rcases HWays.out with hc | ⟨hc, HPX0⟩
        · go_wp2_with (first
            | (refine wpList_store_new rfl 24 _ _ rfl _ rfl rfl Xi.out Xz.out Xo.out rfl ?_)
            | (rw [HW7.out]))
          refine (HA.out _).mono ?_
          rintro e w8 ⟨rfl, hb8⟩
          have BZ : Away (Below w.heap.size w w8) := ⟨B7.out.trans (hb8.mono B7.out.size)⟩
          clear hb8
          go_wp2_with fail
          go_ret
          exact ⟨rfl, BZ.out⟩
        · subst hc
          have HPX := Away.mk HPX0
          clear HPX0
          go_wp2_with (first
            | (refine wpList_store_new rfl 24 _ _ rfl _ rfl rfl Xi.out Xz.out Xo.out rfl ?_)
            | (rw [HW7.out])
            | (refine wpList_load_row rfl 24 _ rfl w6.heap.size rfl 24 X (0, 0) _ R7.out Try.underlying24 rfl Xi.out ?_))
          refine (HPX.out _).mono ?_
          rintro e w9 ⟨rfl, hb9⟩
          have B9 : Away (Below w.heap.size w w9) := ⟨B7.out.trans (hb9.mono B7.out.size)⟩
          clear hb9
          go_wp2_with fail
          refine (HA.out _).mono ?_
          rintro e w8 ⟨rfl, hb8⟩
          have BZ : Away (Below w.heap.size w w8) := ⟨B9.out.trans (hb8.mono B9.out.size)⟩
          clear hb8
          go_wp2_with fail
          go_ret
          exact ⟨rfl, BZ.out⟩
      · have hlz : ¬ (1 : Int) ≤ (lo : Int) := by omega
        go_wp2_with fail
        refine (HX.out _).mono ?_
        rintro e w6 ⟨rfl, hb6⟩
        have B6 : Away (Below w.heap.size w w6) := ⟨UB.out.trans (hb6.mono UB.out.size)⟩
        clear hb6
        obtain ⟨W7, hW7⟩ : ∃ x, w6.alloc (.cells X 24) = x := ⟨_, rfl⟩
        obtain ⟨r7, s7, b7⟩ := one hW7
        have R7 := Away.mk r7
        have HW7 := Away.mk hW7
        have B7 : Away (Below w.heap.size w W7) := ⟨B6.out.trans (b7.mono B6.out.size)⟩
        clear r7 s7 b7 hW7
        rcases HWays.out with hc | ⟨hc, HPX0⟩
        · go_wp2_with (first
            | (refine wpList_store_new rfl 24 _ _ rfl _ rfl rfl Xi.out Xz.out Xo.out rfl ?_)
            | (rw [HW7.out]))
          refine (HA.out _).mono ?_
          rintro e w8 ⟨rfl, hb8⟩
          have BZ : Away (Below w.heap.size w w8) := ⟨B7.out.trans (hb8.mono B7.out.size)⟩
          clear hb8
          go_wp2_with fail
          go_ret
          exact ⟨rfl, BZ.out⟩
        · subst hc
          have HPX := Away.mk HPX0
          clear HPX0
          go_wp2_with (first
            | (refine wpList_store_new rfl 24 _ _ rfl _ rfl rfl Xi.out Xz.out Xo.out rfl ?_)
            | (rw [HW7.out])
            | (refine wpList_load_row rfl 24 _ rfl w6.heap.size rfl 24 X (0, 0) _ R7.out Try.underlying24 rfl Xi.out ?_))
          refine (HPX.out _).mono ?_
          rintro e w9 ⟨rfl, hb9⟩
          have B9 : Away (Below w.heap.size w w9) := ⟨B7.out.trans (hb9.mono B7.out.size)⟩
          clear hb9
          go_wp2_with fail
          refine (HA.out _).mono ?_
          rintro e w8 ⟨rfl, hb8⟩
          have BZ : Away (Below w.heap.size w w8) := ⟨B9.out.trans (hb8.mono B9.out.size)⟩
          clear hb8
          go_wp2_with fail
          go_ret
          exact ⟨rfl, BZ.out⟩
theorem walk (f : Nat → Int) (s : ByteArray) (n : Int) (w : World) : Calls Try.prog 4 #[.agg (FL .i64 256 f), .string s, .int .i64 n] w fun e w' => e = .returned (.bool true) ∧ Below w.heap.size w w' := by
  by_cases h : 2000 < s.size
  · exact walk_far f s n w h
  · exact walk_near f s n w (by omega)
/-! ### The row -/
set_option maxRecDepth 100000 in
theorem lifted (os : Os) (started : os.Started) (H : Type) (enc : TypeId × Value → H) :
    ReturnsInHanded {} Try.checked os 4 .any (Rows.bitsBackSpec.pre6 enc Try.prog Try.f4 Rows.bitsBackRow.domain false) (Rows.bitsBackSpec.post enc Try.prog Try.f4 false true false false) := by
  refine returnsInHanded_of_change (C := Try.checked) own started (by kernel_rfl) Try.func4
    (ChangeSpec.witness6 (enc := enc) (C := Try.checked) false ⟨#[], #[.agg (polys.FL .i64 256 fun _ => 0), .string ByteArray.empty, .int .i64 0], []⟩ 8 (by kernel_rfl) (by kernel_rfl) (by kernel_rfl) (by kernel_rfl)) ?_
  intro W base args ds gs before hval0 hW hcnd _
  have hval : ∀ (j : Nat) t v, Try.f4.params[j]? = some t → args[j]? = some v → Value.okWide Try.prog W .any base t v := hval0
  have hW' := hW
  have hlt := hW.lt
  obtain ⟨p, q, hA0, hV, rfl, hfz, hnd⟩ := hW
  have hA : DataW.TrodAll enc Try.prog W 0 (fun _ => true) true Try.f4.params.toList args.toList ds p := hA0
  rw [Try.params4] at hA hval
  obtain ⟨v0, vs0, d0, ds0, p0, q0, hargs, rfl, rfl, h0, r0⟩ := trodAll_cons hA
  obtain ⟨v1, vs1, d1, ds1, p1, q1, rfl, rfl, rfl, h1, r1⟩ := trodAll_cons r0
  obtain ⟨v2, vs2, d2, ds2, p2, q2, rfl, rfl, rfl, h2, r2⟩ := trodAll_cons r1
  obtain ⟨rfl, rfl, rfl⟩ := trodAll_nil r2
  obtain rfl : args = #[v0, v1, v2] := by cases args; simp_all
  obtain ⟨rfl, rfl⟩ := trodVars_none hV
  obtain ⟨a0, rfl, w0⟩ := polys.open_fl (n := 256) (k := .i64) Try.underlying24 Try.underlying3 (by kernel_rfl) (by kernel_rfl) (hval 0 24 v0 rfl rfl) h0
  obtain ⟨a1, rfl, rfl, rfl, w1⟩ := open_string Try.underlying9 (hval 1 9 v1 rfl rfl) h1
  obtain ⟨a2, rfl, rfl, rfl, w2⟩ := open_int Try.underlying3 (hval 2 3 v2 rfl rfl) h2
  clear hA0 hval0
  refine (walk a0 a1 a2 W).mono fun e W' ⟨he, bel⟩ => ?_
  subst he
  exact ⟨_, rfl, _, _, _, [], _, [], hW', trodAll_mk1 (shut_bool Try.underlying4 _), (trodAll_cons_mk (Below.trod laidOut (by kernel_rfl) (of_decide_eq_true (by kernel_rfl)) h0 bel (fun x hx => by first | exact absurd hx (by simp) | exact hlt x (by simpa using hx) | exact hlt x (by simp; exact Or.inl hx) | exact hlt x (by simp; exact Or.inr hx) | exact hlt x (by simp; exact Or.inr (Or.inl hx)) | exact hlt x (by simp; exact Or.inr (Or.inr hx)))) (trodAll_cons_mk (Below.trod laidOut (by kernel_rfl) (of_decide_eq_true (by kernel_rfl)) h1 bel (fun x hx => by first | exact absurd hx (by simp) | exact hlt x (by simpa using hx) | exact hlt x (by simp; exact Or.inl hx) | exact hlt x (by simp; exact Or.inr hx) | exact hlt x (by simp; exact Or.inr (Or.inl hx)) | exact hlt x (by simp; exact Or.inr (Or.inr hx)))) (trodAll_cons_mk (Below.trod laidOut (by kernel_rfl) (of_decide_eq_true (by kernel_rfl)) h2 bel (fun x hx => by first | exact absurd hx (by simp) | exact hlt x (by simpa using hx) | exact hlt x (by simp; exact Or.inl hx) | exact hlt x (by simp; exact Or.inr hx) | exact hlt x (by simp; exact Or.inr (Or.inl hx)) | exact hlt x (by simp; exact Or.inr (Or.inr hx)))) trodAll_mk0))), rfl, bel.frame _, fun h => by cases h⟩

theorem over : Rows.bitsBackRow.holds Try.pinned (OpenSpec.ofChange Rows.bitsBackSpec) :=
  OpenClaim.holds_of_wide 4 Try.f4 rfl rfl rfl rfl rfl rfl rfl ⟨rfl, rfl, rfl, rfl, rfl⟩ rfl rfl rfl rfl rfl (by kernel_rfl) Try.func4 (by kernel_rfl)
    (of_decide_eq_true (by kernel_rfl)) (by unfold Func.isWrapper; first | (rw [if_pos (by decide +kernel)]; kernel_rfl) | (rw [if_neg (by decide +kernel)]; exact ⟨rfl, rfl⟩))
    (fun os started H enc _ => lifted os started H enc)

theorem proved : Rows.BitsBackSaid :=
  over

end Go.Proofs.Ytdlolhilmhlklaa.l10b
