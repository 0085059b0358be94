/-
  The law package's own looks at mac ('awake' and 'live') return true. Conditions: none.
-/
import Derived.Test.YthfljfampfioaaaMac1
import Derived.Test.YthfljfampfioaaaMac2
import Derived.Test.YthfljfampfioaaaTMc
namespace Go.Proofs.Ythfljfampfioaaa.awake4
open Go.RowKit
open Go.Proofs.Ythfljfampfioaaa.oct Go.Proofs.Ythfljfampfioaaa.mem Go.Proofs.Ythfljfampfioaaa.arr Go.Proofs.Ythfljfampfioaaa.tabv Go.Proofs.Ythfljfampfioaaa.built Go.Proofs.Ythfljfampfioaaa.sham Go.Proofs.Ythfljfampfioaaa.hashs Go.Proofs.Ythfljfampfioaaa.tabs Go.Proofs.Ythfljfampfioaaa.macm

theorem tx_doc : TX TA wx := tf_doc
theorem head4 (l : List UInt8) (x : List UInt8) (h : l.take 4 = x) : (⟨l.toArray⟩ : ByteArray).extract 0 4 = ⟨x.toArray⟩ := by
  subst h
  apply ByteArray.ext
  simp
theorem fox (K : List Nat) (S : V8) (hK : K = [1116352408, 1899447441, 3049323471, 3921009573, 961987163, 1508970993, 2453635748, 2870763221, 3624381080, 310598401, 607225278, 1426881987, 1925078388, 2162078206, 2614888103, 3248222580, 3835390401, 4022224774, 264347078, 604807628, 770255983, 1249150122, 1555081692, 1996064986, 2554220882, 2821834349, 2952996808, 3210313671, 3336571891, 3584528711, 113926993, 338241895, 666307205, 773529912, 1294757372, 1396182291, 1695183700, 1986661051, 2177026350, 2456956037, 2730485921, 2820302411, 3259730800, 3345764771, 3516065817, 3600352804, 4094571909, 275423344, 430227734, 506948616, 659060556, 883997877, 958139571, 1322822218, 1537002063, 1747873779, 1955562222, 2024104815, 2227730452, 2361852424, 2428436474, 2756734187, 3204031479, 3329325298]) (hS : S = ofL [1779033703, 3144134277, 1013904242, 2773480762, 1359893119, 2600822924, 528734635, 1541459225]) :
    (hs32 K S (mx [107, 101, 121] 64 92 ++ hs32 K S (mx [107, 101, 121] 64 54 ++ [84, 104, 101, 32, 113, 117, 105, 99, 107, 32, 98, 114, 111, 119, 110, 32, 102, 111, 120, 32, 106, 117, 109, 112, 115, 32, 111, 118, 101, 114, 32, 116, 104, 101, 32, 108, 97, 122, 121, 32, 100, 111, 103]))).take 4 = [247, 188, 131, 244] := by
  subst hK hS
  decide +kernel
theorem fox4 : (hm wx false [107, 101, 121] [84, 104, 101, 32, 113, 117, 105, 99, 107, 32, 98, 114, 111, 119, 110, 32, 102, 111, 120, 32, 106, 117, 109, 112, 115, 32, 111, 118, 101, 114, 32, 116, 104, 101, 32, 108, 97, 122, 121, 32, 100, 111, 103]).take 4 = [247, 188, 131, 244] := fox k32 s32 k32_is s32_is

set_option maxRecDepth 100000 in
set_option maxHeartbeats 2000000 in
theorem awake_any (w : World) :
    Calls Try.prog 19 #[] w fun e w' => e = .returned (.bool true) ∧ Below w.heap.size w w' := by
  obtain ⟨hz, hsize⟩ := zero_of_info infoT
  obtain ⟨Z, HZ⟩ := ex_eq TZ
  rw [HZ.out] at hz
  have HZs : Away (Z.size = 465) := ⟨by rw [← HZ.out]; exact tz_size⟩
  have Hsize := Away.mk hsize
  clear hsize
  have htx := tx_doc
  obtain ⟨T, HT⟩ := ex_eq TA
  rw [HT.out] at htx
  have HTs : Away (T.size = 465) := ⟨by rw [← HT.out]; exact ta_size⟩
  have HTo : Away (T.all (·.oneCell') = true) := ⟨by rw [← HT.out]; exact ta_one⟩
  have HTX := Away.mk htx
  clear htx
  obtain ⟨A, hA⟩ : ∃ A : ByteArray, A = ⟨(hm wx false [107, 101, 121] [84, 104, 101, 32, 113, 117, 105, 99, 107, 32, 98, 114, 111, 119, 110, 32, 102, 111, 120, 32, 106, 117, 109, 112, 115, 32, 111, 118, 101, 114, 32, 116, 104, 101, 32, 108, 97, 122, 121, 32, 100, 111, 103]).toArray⟩ := ⟨_, rfl⟩
  have hA4 : A.extract 0 4 = ⟨#[247, 188, 131, 244]⟩ := by rw [hA, head4 _ _ fox4]
  have hAs : A.size = 32 := by rw [hA]; exact hm_length wx false _ _
  obtain ⟨B, hB⟩ : ∃ B : ByteArray, B = ⟨(ms wx true [115] 70).toArray⟩ := ⟨_, rfl⟩
  have hBs : B.size = 70 := by rw [hB]; exact ms_length wx true [115] 70 (by decide)
  obtain ⟨D, hD⟩ : ∃ D : ByteArray, D = ⟨(hx wx false []).toArray⟩ := ⟨_, rfl⟩
  have H1 : Away (∀ w1 : World, Calls Try.prog 11 #[.agg T, .bool false, .string ⟨#[107, 101, 121]⟩, .string ⟨#[84, 104, 101, 32, 113, 117, 105, 99, 107, 32, 98, 114, 111, 119, 110, 32, 102, 111, 120, 32, 106, 117, 109, 112, 115, 32, 111, 118, 101, 114, 32, 116, 104, 101, 32, 108, 97, 122, 121, 32, 100, 111, 103]⟩] w1 fun e w' => e = .returned (.string A) ∧ Below w1.heap.size w1 w') := ⟨fun w1 => by rw [hA]; exact hmac.hmac_any T wx false ⟨#[107, 101, 121]⟩ ⟨#[84, 104, 101, 32, 113, 117, 105, 99, 107, 32, 98, 114, 111, 119, 110, 32, 102, 111, 120, 32, 106, 117, 109, 112, 115, 32, 111, 118, 101, 114, 32, 116, 104, 101, 32, 108, 97, 122, 121, 32, 100, 111, 103]⟩ w1 HTX.out (by decide) (by decide)⟩
  have H2 : Away (∀ w1 : World, Calls Try.prog 13 #[.agg T, .bool true, .string ⟨#[115]⟩, .int .i64 70] w1 fun e w' => e = .returned (.string B) ∧ Below w1.heap.size w1 w') := ⟨fun w1 => by rw [hB]; exact mask.mask_any T wx true ⟨#[115]⟩ 70 w1 HTX.out (by decide)⟩
  have H3 : Away (∀ w1 : World, Calls Try.prog 15 #[.string ⟨#[97, 98, 99]⟩, .int .i64 2] w1 fun e w' => e = .returned (.string ⟨#[97, 98]⟩) ∧ Below w1.heap.size w1 w') := ⟨fun w1 => cut.cut_any ⟨#[97, 98, 99]⟩ 2 w1 (by decide)⟩
  have H4 : Away (∀ w1 : World, Calls Try.prog 9 #[.agg T, .bool false, .string ⟨#[]⟩] w1 fun e w' => e = .returned (.string D) ∧ Below w1.heap.size w1 w') := ⟨fun w1 => by rw [hD]; exact mach.hash_any T wx false ⟨#[]⟩ w1 HTX.out (by decide)⟩
  have H5 : Away (∀ w1 : World, Calls Try.prog 27 #[.agg T, .string ⟨#[]⟩] w1 fun e w' => e = .returned (.string D) ∧ Below w1.heap.size w1 w') := ⟨fun w1 => by rw [hD]; exact hashs.whole32 T wx.k3 wx.k6 wx.s3 wx.s6 ⟨#[]⟩ w1 HTX.out (by decide)⟩
  have Hmk : Away (∀ w1 : World, Calls Try.prog 17 #[] w1 fun e w' => e = .returned (.agg T) ∧ Below w1.heap.size w1 w') := ⟨fun w1 => by rw [← HT.out]; exact make.make_any w1⟩
  clear hA hB hD HT HZ
  go_enter Try.func19, Try.ntmps19
  go_wp2_with fail
  refine (Hmk.out _).mono ?_
  rintro e w1 ⟨rfl, hb1⟩
  go_wp2_with (refine wpList_store_new rfl 33 _ _ rfl _ rfl rfl (by rw [HTs.out]; exact Hsize.out) (by rw [HTs.out]; exact HZs.out) HTo.out rfl ?_)
  clear hz
  obtain ⟨W, hW⟩ : ∃ W, w1.alloc (.cells T 33) = W := ⟨_, rfl⟩
  have Hg : Away (W.heap[w1.heap.size]? = some (.cells T 33 (0, 0))) := ⟨by rw [← hW, heap_at _ _ _ rfl]⟩
  have Hb : Away (Below w.heap.size w W) := ⟨by rw [← hW]; exact hb1.alloc hb1.size _⟩
  rw [hW]
  clear hW hb1
  refine wp_region_quiet_below (by kernel_rfl) (by kernel_rfl) ?_
  refine wpQuiet_load rfl 33 _ rfl _ rfl 33 _ _ (fun w' hC => heap_regrown Hg.out hC) Try.underlying33 rfl (by rw [HTs.out]; exact sizeT) ?_
  quiet_step (exact Calls.regrown_of (H1.out _))
  quiet_step (skip)
  quiet_step (skip)
  quiet_step (skip)
  refine wpQuiet_load rfl 33 _ rfl _ rfl 33 _ _ (fun w' hC => heap_regrown Hg.out hC) Try.underlying33 rfl (by rw [HTs.out]; exact sizeT) ?_
  quiet_step (exact Calls.regrown_of (H2.out _))
  quiet_step (skip)
  quiet_step (skip)
  quiet_step (skip)
  quiet_step (skip)
  quiet_step (exact Calls.regrown_of (H3.out _))
  quiet_step (skip)
  quiet_step (skip)
  quiet_step (skip)
  refine wpQuiet_load rfl 33 _ rfl _ rfl 33 _ _ (fun w' hC => heap_regrown Hg.out hC) Try.underlying33 rfl (by rw [HTs.out]; exact sizeT) ?_
  quiet_step (exact Calls.regrown_of (H4.out _))
  refine wpQuiet_load rfl 33 _ rfl _ rfl 33 _ _ (fun w' hC => heap_regrown Hg.out hC) Try.underlying33 rfl (by rw [HTs.out]; exact sizeT) ?_
  quiet_step (exact Calls.regrown_of (H5.out _))
  quiet_step (skip)
  quiet_step (skip)
  quiet_step (skip)
  refine wpQuiet_nil ?_
  intro w3 hC
  have Hb3 : Away (Below W.heap.size W w3) := ⟨by
    obtain ⟨pp, rfl⟩ := hC
    exact below_regrown _ _ _⟩
  clear hC
  go_wp2_with fail
  go_ret
  exact ⟨rfl, Hb.out.trans (Hb3.out.mono Hb.out.size)⟩

set_option maxRecDepth 100000 in
set_option maxHeartbeats 2000000 in
theorem live_any (w : World) :
    Calls Try.prog 7 #[] w fun e w' => e = .returned (.bool true) ∧ Below w.heap.size w w' := by
  have htx := tx_doc
  obtain ⟨T, HT⟩ := ex_eq TA
  rw [HT.out] at htx
  obtain ⟨A, hA⟩ : ∃ A : ByteArray, A = ⟨(hm wx false [] []).toArray⟩ := ⟨_, rfl⟩
  have hAs : A.size = 32 := by rw [hA]; exact hm_length wx false _ _
  have H1 : Away (∀ w1 : World, Calls Try.prog 11 #[.agg T, .bool false, .string ⟨#[]⟩, .string ⟨#[]⟩] w1 fun e w' => e = .returned (.string A) ∧ Below w1.heap.size w1 w') := ⟨fun w1 => by rw [hA]; exact hmac.hmac_any T wx false ⟨#[]⟩ ⟨#[]⟩ w1 htx (by decide) (by decide)⟩
  have Hmk : Away (∀ w1 : World, Calls Try.prog 17 #[] w1 fun e w' => e = .returned (.agg T) ∧ Below w1.heap.size w1 w') := ⟨fun w1 => by rw [← HT.out]; exact make.make_any w1⟩
  have Haw := Away.mk awake_any
  clear hA HT htx
  go_enter Try.func7, Try.ntmps7
  go_wp2_with fail
  refine (Hmk.out _).mono ?_
  rintro e w1 ⟨rfl, hb1⟩
  go_wp2_with fail
  refine (H1.out _).mono ?_
  rintro e w2 ⟨rfl, hb2⟩
  go_wp2_with fail
  refine (Haw.out _).mono ?_
  rintro e w3 ⟨rfl, hb3⟩
  have Hb3 : Away (Below w.heap.size w w3) := ⟨(hb1.trans (hb2.mono hb1.size)).trans (hb3.mono (Nat.le_trans hb1.size hb2.size))⟩
  clear hb1 hb2 hb3
  go_wp2_with fail
  go_ret
  exact ⟨rfl, Hb3.out⟩
end Go.Proofs.Ythfljfampfioaaa.awake4
