/-
  The document's tables as the numbers that layer 3 uses; the hashes of "abc", reckoned. Conditions: none.
-/
import Derived.Test.YthfljfampfioaaaHash
namespace Go.Proofs.Ythfljfampfioaaa.tabs
open Go.RowKit
open Go.Proofs.Ythfljfampfioaaa.oct Go.Proofs.Ythfljfampfioaaa.arr Go.Proofs.Ythfljfampfioaaa.tabv Go.Proofs.Ythfljfampfioaaa.sham Go.Proofs.Ythfljfampfioaaa.hashs Go.Proofs.Ythfljfampfioaaa.tabd Go.Proofs.Ythfljfampfioaaa.primm

/-- the tables' words -/
def k32 : List Nat := (List.range 64).map fun j => r3 j / 4294967296
def k64 : List Nat := (List.range 80).map r3
def s32 : V8 := ofL ((List.range 8).map fun j => r2 j / 4294967296)
def s64 : V8 := ofL ((List.range 8).map r2)
set_option maxRecDepth 100000 in
theorem k32_is : k32 = [1116352408, 1899447441, 3049323471, 3921009573, 961987163, 1508970993, 2453635748, 2870763221, 3624381080, 310598401, 607225278, 1426881987, 1925078388, 2162078206, 2614888103, 3248222580, 3835390401, 4022224774, 264347078, 604807628, 770255983, 1249150122, 1555081692, 1996064986, 2554220882, 2821834349, 2952996808, 3210313671, 3336571891, 3584528711, 113926993, 338241895, 666307205, 773529912, 1294757372, 1396182291, 1695183700, 1986661051, 2177026350, 2456956037, 2730485921, 2820302411, 3259730800, 3345764771, 3516065817, 3600352804, 4094571909, 275423344, 430227734, 506948616, 659060556, 883997877, 958139571, 1322822218, 1537002063, 1747873779, 1955562222, 2024104815, 2227730452, 2361852424, 2428436474, 2756734187, 3204031479, 3329325298] := by decide +kernel
set_option maxRecDepth 100000 in
theorem k64_is : k64 = [4794697086780616226, 8158064640168781261, 13096744586834688815, 16840607885511220156, 4131703408338449720, 6480981068601479193, 10538285296894168987, 12329834152419229976, 15566598209576043074, 1334009975649890238, 2608012711638119052, 6128411473006802146, 8268148722764581231, 9286055187155687089, 11230858885718282805, 13951009754708518548, 16472876342353939154, 17275323862435702243, 1135362057144423861, 2597628984639134821, 3308224258029322869, 5365058923640841347, 6679025012923562964, 8573033837759648693, 10970295158949994411, 12119686244451234320, 12683024718118986047, 13788192230050041572, 14330467153632333762, 15395433587784984357, 489312712824947311, 1452737877330783856, 2861767655752347644, 3322285676063803686, 5560940570517711597, 5996557281743188959, 7280758554555802590, 8532644243296465576, 9350256976987008742, 10552545826968843579, 11727347734174303076, 12113106623233404929, 14000437183269869457, 14369950271660146224, 15101387698204529176, 15463397548674623760, 17586052441742319658, 1182934255886127544, 1847814050463011016, 2177327727835720531, 2830643537854262169, 3796741975233480872, 4115178125766777443, 5681478168544905931, 6601373596472566643, 7507060721942968483, 8399075790359081724, 8693463985226723168, 9568029438360202098, 10144078919501101548, 10430055236837252648, 11840083180663258601, 13761210420658862357, 14299343276471374635, 14566680578165727644, 15097957966210449927, 16922976911328602910, 17689382322260857208, 500013540394364858, 748580250866718886, 1242879168328830382, 1977374033974150939, 2944078676154940804, 3659926193048069267, 4368137639120453308, 4836135668995329356, 5532061633213252278, 6448918945643986474, 6902733635092675308, 7801388544844847127] := by decide +kernel
theorem s32_is : s32 = ofL [1779033703, 3144134277, 1013904242, 2773480762, 1359893119, 2600822924, 528734635, 1541459225] := congrArg ofL (by decide +kernel)
theorem s64_is : s64 = ofL [7640891576956012808, 13503953896175478587, 4354685564936845355, 11912009170470909681, 5840696475078001361, 11170449401992604703, 2270897969802886507, 6620516959819538809] := congrArg ofL (by decide +kernel)
set_option maxRecDepth 100000 in
theorem abc32l : (hs32 [1116352408, 1899447441, 3049323471, 3921009573, 961987163, 1508970993, 2453635748, 2870763221, 3624381080, 310598401, 607225278, 1426881987, 1925078388, 2162078206, 2614888103, 3248222580, 3835390401, 4022224774, 264347078, 604807628, 770255983, 1249150122, 1555081692, 1996064986, 2554220882, 2821834349, 2952996808, 3210313671, 3336571891, 3584528711, 113926993, 338241895, 666307205, 773529912, 1294757372, 1396182291, 1695183700, 1986661051, 2177026350, 2456956037, 2730485921, 2820302411, 3259730800, 3345764771, 3516065817, 3600352804, 4094571909, 275423344, 430227734, 506948616, 659060556, 883997877, 958139571, 1322822218, 1537002063, 1747873779, 1955562222, 2024104815, 2227730452, 2361852424, 2428436474, 2756734187, 3204031479, 3329325298] (ofL [1779033703, 3144134277, 1013904242, 2773480762, 1359893119, 2600822924, 528734635, 1541459225]) [97, 98, 99]).take 4 = [186, 120, 22, 191] := by decide +kernel
set_option maxRecDepth 100000 in
theorem abc64l : (hs64 [4794697086780616226, 8158064640168781261, 13096744586834688815, 16840607885511220156, 4131703408338449720, 6480981068601479193, 10538285296894168987, 12329834152419229976, 15566598209576043074, 1334009975649890238, 2608012711638119052, 6128411473006802146, 8268148722764581231, 9286055187155687089, 11230858885718282805, 13951009754708518548, 16472876342353939154, 17275323862435702243, 1135362057144423861, 2597628984639134821, 3308224258029322869, 5365058923640841347, 6679025012923562964, 8573033837759648693, 10970295158949994411, 12119686244451234320, 12683024718118986047, 13788192230050041572, 14330467153632333762, 15395433587784984357, 489312712824947311, 1452737877330783856, 2861767655752347644, 3322285676063803686, 5560940570517711597, 5996557281743188959, 7280758554555802590, 8532644243296465576, 9350256976987008742, 10552545826968843579, 11727347734174303076, 12113106623233404929, 14000437183269869457, 14369950271660146224, 15101387698204529176, 15463397548674623760, 17586052441742319658, 1182934255886127544, 1847814050463011016, 2177327727835720531, 2830643537854262169, 3796741975233480872, 4115178125766777443, 5681478168544905931, 6601373596472566643, 7507060721942968483, 8399075790359081724, 8693463985226723168, 9568029438360202098, 10144078919501101548, 10430055236837252648, 11840083180663258601, 13761210420658862357, 14299343276471374635, 14566680578165727644, 15097957966210449927, 16922976911328602910, 17689382322260857208, 500013540394364858, 748580250866718886, 1242879168328830382, 1977374033974150939, 2944078676154940804, 3659926193048069267, 4368137639120453308, 4836135668995329356, 5532061633213252278, 6448918945643986474, 6902733635092675308, 7801388544844847127] (ofL [7640891576956012808, 13503953896175478587, 4354685564936845355, 11912009170470909681, 5840696475078001361, 11170449401992604703, 2270897969802886507, 6620516959819538809]) [97, 98, 99]).take 4 = [221, 175, 53, 161] := by decide +kernel
theorem abc32 : (hs32 k32 s32 [97, 98, 99]).take 4 = [186, 120, 22, 191] := by rw [k32_is, s32_is]; exact abc32l
theorem abc64 : (hs64 k64 s64 [97, 98, 99]).take 4 = [221, 175, 53, 161] := by rw [k64_is, s64_is]; exact abc64l
theorem map_get (f : Nat → Nat) (n i : Nat) (h : i < n) : ((List.range n).map f).getD i 0 = f i := by simp [List.getD_eq_getElem?_getD, h]
theorem map_lt (f : Nat → Nat) (n m : Nat) (hm : 0 < m) (h : ∀ i, f i < m) (i : Nat) : ((List.range n).map f).getD i 0 < m := by
  by_cases hi : i < n
  · rw [map_get f n i hi]; exact h i
  · rw [List.getD_eq_getElem?_getD, List.getElem?_eq_none (by simp; omega)]; exact hm
theorem ofL_l (l : List Nat) (i : Nat) (h : i < 8) : (ofL l).l.getD i 0 = l.getD i 0 := by
  match i, h with
  | 0, _ => rfl
  | 1, _ => rfl
  | 2, _ => rfl
  | 3, _ => rfl
  | 4, _ => rfl
  | 5, _ => rfl
  | 6, _ => rfl
  | 7, _ => rfl
theorem ofL_lt (l : List Nat) (m : Nat) (h : ∀ i, l.getD i 0 < m) : (ofL l).lt m := ⟨h 0, h 1, h 2, h 3, h 4, h 5, h 6, h 7⟩
theorem hi_lt (x : Nat) (h : x < 18446744073709551616) : x / 4294967296 < 4294967296 := by omega
/-- the document's tables -/
theorem tf_doc : TF TA k32 s32 k64 s64 where
  k32 := fun i hi => by rw [Nat.zero_add, ta_get i (by omega), tv_small i hi, k32, map_get _ _ _ hi]
  s32 := fun i hi => by rw [ta_get _ (by omega), tv_sstart i hi, s32, ofL_l _ _ hi, map_get _ _ _ hi]
  k64 := fun i hi => by rw [ta_get _ (by omega), tv_large i hi, k64, map_get _ _ _ hi]
  s64 := fun i hi => by rw [ta_get _ (by omega), tv_lstart i hi, s64, ofL_l _ _ hi, map_get _ _ _ hi]
  bk32 := map_lt _ _ _ (by decide) (fun i => hi_lt _ (r3_lt i))
  bs32 := ofL_lt _ _ (map_lt _ _ _ (by decide) (fun i => hi_lt _ (r2_lt i)))
  bk64 := map_lt _ _ _ (by decide) (fun i => r3_lt i)
  bs64 := ofL_lt _ _ (map_lt _ _ _ (by decide) (fun i => r2_lt i))
  size := ta_size
  one := ta_one
/-- tables one of whose words for Large is another -/
theorem tf_large {T : Array Value} {K3 K6 : List Nat} {S3 S6 : V8} (h : TF T K3 S3 K6 S6) (hl : K6.length = 80) (k x : Nat) (hk : k < 80) (hx : x < 18446744073709551616) :
    TF (T.setIfInBounds (72 + k) (.int .u64 (x : Int))) K3 S3 (K6.set k x) S6 where
  k32 := fun i hi => by rw [Array.getElem?_setIfInBounds, if_neg (by omega)]; exact h.k32 i hi
  s32 := fun i hi => by rw [Array.getElem?_setIfInBounds, if_neg (by omega)]; exact h.s32 i hi
  k64 := fun i hi => by
    rw [Array.getElem?_setIfInBounds]
    by_cases e : k = i
    · subst e
      rw [if_pos rfl, if_pos (by rw [h.size]; omega), List.getD_eq_getElem?_getD, List.getElem?_set_self (by omega)]
      rfl
    · rw [if_neg (by omega), List.getD_eq_getElem?_getD, List.getElem?_set_ne e, ← List.getD_eq_getElem?_getD]; exact h.k64 i hi
  s64 := fun i hi => by rw [Array.getElem?_setIfInBounds, if_neg (by omega)]; exact h.s64 i hi
  bk32 := h.bk32
  bs32 := h.bs32
  bk64 := fun i => by
    rw [List.getD_eq_getElem?_getD, List.getElem?_set]
    split
    · split
      · exact hx
      · decide
    · rw [← List.getD_eq_getElem?_getD]; exact h.bk64 i
  bs64 := h.bs64
  size := by rw [Array.size_setIfInBounds]; exact h.size
  one := by
    have := h.one
    rw [Array.all_eq_true_iff_forall_mem] at *
    intro v hv
    rcases Array.mem_or_eq_of_mem_setIfInBounds hv with h2 | rfl
    · exact this v h2
    · rfl
/-- tables one of whose words for Small is another -/
theorem tf_small {T : Array Value} {K3 K6 : List Nat} {S3 S6 : V8} (h : TF T K3 S3 K6 S6) (hl : K3.length = 64) (k x : Nat) (hk : k < 64) (hx : x < 4294967296) :
    TF (T.setIfInBounds k (.int .u32 (x : Int))) (K3.set k x) S3 K6 S6 where
  k32 := fun i hi => by
    rw [Array.getElem?_setIfInBounds]
    by_cases e : k = i
    · subst e
      rw [if_pos (by omega), if_pos (by rw [h.size]; omega), List.getD_eq_getElem?_getD, List.getElem?_set_self (by omega)]
      rfl
    · rw [if_neg (by omega), List.getD_eq_getElem?_getD, List.getElem?_set_ne e, ← List.getD_eq_getElem?_getD]; exact h.k32 i hi
  s32 := fun i hi => by rw [Array.getElem?_setIfInBounds, if_neg (by omega)]; exact h.s32 i hi
  k64 := fun i hi => by rw [Array.getElem?_setIfInBounds, if_neg (by omega)]; exact h.k64 i hi
  s64 := fun i hi => by rw [Array.getElem?_setIfInBounds, if_neg (by omega)]; exact h.s64 i hi
  bk32 := fun i => by
    rw [List.getD_eq_getElem?_getD, List.getElem?_set]
    split
    · split
      · exact hx
      · decide
    · rw [← List.getD_eq_getElem?_getD]; exact h.bk32 i
  bs32 := h.bs32
  bk64 := h.bk64
  bs64 := h.bs64
  size := by rw [Array.size_setIfInBounds]; exact h.size
  one := by
    have := h.one
    rw [Array.all_eq_true_iff_forall_mem] at *
    intro v hv
    rcases Array.mem_or_eq_of_mem_setIfInBounds hv with h2 | rfl
    · exact this v h2
    · rfl
theorem k32_length : k32.length = 64 := by simp [k32]
theorem k64_length : k64.length = 80 := by simp [k64]
theorem hs_length32 (K : List Nat) (v : V8) (l : List UInt8) : (hs32 K v l).length = 32 := by rw [hs32, ends.flat_length]; rfl
theorem hs_length64 (K : List Nat) (v : V8) (l : List UInt8) : (hs64 K v l).length = 64 := by rw [hs64, ends.flat_length]; rfl
end Go.Proofs.Ythfljfampfioaaa.tabs
