/-
  What the document's own functions of layer 10 return, as plain functions of numbers, and what their walks need. No function of a program is named here. Conditions: as each theorem says.
-/
import Derived.Test.YtdlolhilmhlklaaDoorSti
import Derived.Test.YtdlolhilmhlklaaDoorFdm
import Derived.Test.YtdlolhilmhlklaaDoorPol
import Derived.Test.YtdlolhilmhlklaaDoorBase
import Derived.Test.YtdlolhilmhlklaaDoorBitM
import Derived.Test.YtdlolhilmhlklaaDoorProg
import Derived.OwnWalk
import Derived.Lib.ConvBytes
import Derived.Great.BuildSlice
import Derived.Deep.MidRow
namespace Go.Proofs.YtdlolhilmhlklaaDoor.rbita
open Go Go.RowKit
open Go.Proofs.YtdlolhilmhlklaaDoor.arr Go.Proofs.YtdlolhilmhlklaaDoor.mem

/-- the number of bits of a number below 2^64 -/
def lbf : Nat → Nat → Nat
  | 0, _ => 0
  | f + 1, n => if n = 0 then 0 else lbf f (n / 2) + 1
def lb (n : Nat) : Nat := lbf 64 n
theorem lbf_spec (f : Nat) : ∀ n, n < 2 ^ f → n < 2 ^ lbf f n ∧ (0 < n → 0 < lbf f n ∧ 2 ^ (lbf f n - 1) ≤ n) ∧ lbf f n ≤ f := by
  induction f with
  | zero => intro n h; simp [lbf] at *; omega
  | succ f ih =>
    intro n h
    unfold lbf
    by_cases h0 : n = 0
    · subst h0; simp
    · rw [if_neg h0]
      obtain ⟨h1, h2, h3⟩ := ih (n / 2) (by rw [Nat.pow_succ] at h; omega)
      refine ⟨by rw [Nat.pow_succ]; omega, fun _ => ⟨by omega, ?_⟩, by omega⟩
      rw [Nat.add_sub_cancel]
      by_cases h4 : 0 < n / 2
      · obtain ⟨h5, h6⟩ := h2 h4
        rw [show lbf f (n / 2) = (lbf f (n / 2) - 1) + 1 by omega, Nat.pow_succ]
        omega
      · have h5 : n / 2 = 0 := by omega
        have h7 : ∀ f, lbf f 0 = 0 := fun f => by cases f <;> simp [lbf]
        rw [h5, h7]
        omega
theorem lbf_more (f : Nat) : ∀ g n, n < 2 ^ f → f ≤ g → lbf g n = lbf f n := by
  induction f with
  | zero =>
    intro g n h _
    have : n = 0 := by simpa using h
    subst this
    cases g <;> simp [lbf]
  | succ f ih =>
    intro g n h hg
    obtain ⟨g, rfl⟩ : ∃ k, g = k + 1 := ⟨g - 1, by omega⟩
    unfold lbf
    by_cases h0 : n = 0
    · rw [if_pos h0, if_pos h0]
    · rw [if_neg h0, if_neg h0, ih g (n / 2) (by rw [Nat.pow_succ] at h; omega) (by omega)]
theorem lb_half (n : Nat) (h0 : 0 < n) (h : n < 2 ^ 64) : lb n = lb (n / 2) + 1 := by
  have h1 : n / 2 < 2 ^ 63 := by omega
  have e : lb (n / 2) = lbf 63 (n / 2) := lbf_more 63 64 _ h1 (by decide)
  rw [e]
  show lbf 64 n = _
  rw [lbf, if_neg (by omega)]
end Go.Proofs.YtdlolhilmhlklaaDoor.rbita
namespace Go.Proofs.YtdlolhilmhlklaaDoor.rbitb
open Go Go.RowKit
open Go.Proofs.YtdlolhilmhlklaaDoor.arr Go.Proofs.YtdlolhilmhlklaaDoor.mem Go.Proofs.YtdlolhilmhlklaaDoor.stil Go.Proofs.YtdlolhilmhlklaaDoor.bitm Go.Proofs.YtdlolhilmhlklaaDoor.rbita

theorem infoByte : (Tryd.prog.info? 5).map (fun i => (i.zero, i.size, i.bytes)) = some (some (.int .u8 0), 1, 1) := by kernel_rfl
theorem parts {P : Program} {e : TypeId} {z : Value} {s b : Nat} (h : (P.info? e).map (fun i => (i.zero, i.size, i.bytes)) = some (some z, s, b)) : ∃ i, P.info? e = some i ∧ i.zero = some z ∧ i.size = s ∧ i.bytes = b := by
  cases hi : P.info? e with
  | none => rw [hi] at h; cases h
  | some i =>
    rw [hi] at h
    simp only [Option.map_some, Option.some.injEq, Prod.mk.injEq] at h
    exact ⟨i, rfl, h.1, h.2.1, h.2.2⟩
/-- bytes as a string holds them -/
def u8s (l : List Nat) : List UInt8 := l.map UInt8.ofNat
theorem made_is (n : Nat) : madeCells (Value.int .u8 0).cells (n * 1) = LK .u8 (List.replicate n 0) := by
  apply Array.ext'
  rw [Nat.mul_one, show (Value.int .u8 0).cells = #[.int .u8 0] from rfl, toList_madeCells_one]
  simp [LK]
theorem conv_lk {w : World} {g cap n : Nat} {t : TypeId} {l : List Nat} (hn : l.length = n) (hl : ∀ x ∈ l, x < 256) (h : w.heap[g]? = some (.cells (LK .u8 l) t (0, 0))) :
    (convert 46 9 (.slice (some ⟨g, 0, none⟩) n cap)).run Tryd.prog w = .ok (.string ⟨(u8s l).toArray⟩) w := by
  subst hn
  have hz : (u8s l).length = l.length := by simp [u8s]
  have := run_convert_bytes_back (P := Tryd.prog) w 46 9 5 ⟨g, 0, none⟩ cap (u8s l) Tryd.underlying46 Tryd.underlying5 Tryd.underlying9 (fun j hj => by
    rw [hz] at hj
    rw [Addr.add_mid, Nat.zero_add, cell_at h (lk_get .u8 l j hj)]
    have hx := hl l[j] (List.getElem_mem hj)
    simp [u8s, List.getD_eq_getElem?_getD, List.getElem?_eq_getElem hj, Nat.mod_eq_of_lt hx])
  rw [hz] at this
  exact this
theorem and_one (y : Nat) (h : y < 9223372036854775808) : bits .and .i64 (y : Int) 1 = ((y % 2 : Nat) : Int) := by
  show IntKind.i64.wrap ((BitVec.ofInt 64 (y : Int) &&& BitVec.ofInt 64 1).toNat : Int) = _
  rw [show (1 : Int) = ((1 : Nat) : Int) from rfl, BitVec.ofInt_natCast, BitVec.ofInt_natCast, BitVec.toNat_and, BitVec.toNat_ofNat, BitVec.toNat_ofNat, Nat.mod_eq_of_lt (by omega), Nat.mod_eq_of_lt (by decide), Nat.and_one_is_mod, IntKind.wrap_i64]
  omega
theorem or_u8 (a b : Nat) (ha : a < 256) (hb : b < 256) : bits .or .u8 (a : Int) (b : Int) = ((a ||| b : Nat) : Int) := by
  have h := Nat.or_lt_two_pow (n := 8) ha hb
  show IntKind.u8.wrap ((BitVec.ofInt 8 (a : Int) ||| BitVec.ofInt 8 (b : Int)).toNat : Int) = _
  rw [BitVec.ofInt_natCast, BitVec.ofInt_natCast, BitVec.toNat_or, BitVec.toNat_ofNat, BitVec.toNat_ofNat, Nat.mod_eq_of_lt (by simpa using ha), Nat.mod_eq_of_lt (by simpa using hb), IntKind.wrap_u8]
  omega
theorem own_row {w : World} {base g M : Nat} {e : TypeId} {xs : List Value} (h : w.ownsRow base e 1 (.slice (some ⟨g, 0, none⟩) M M) M xs) : ∃ cur, w.heap[g]? = some (.cells cur e (0, 0)) ∧ cur.toList = xs := by
  rcases h.2 with ⟨h', -⟩ | ⟨g', cap', cur, h', hb, hg, -, hm, hs, htake⟩
  · simp at h'
  · simp only [Value.slice.injEq, Option.some.injEq, Addr.mk.injEq, and_true, true_and] at h'
    obtain ⟨rfl, rfl⟩ := h'
    refine ⟨cur, hg, ?_⟩
    rw [← htake, List.take_of_length_le (by rw [Array.length_toList]; omega)]
/-- the bits below m -/
theorem low_step (wd n M : Nat) (L : List Nat) (hl : L.length = n) (hL : ∀ x ∈ L, x < 2 ^ wd) (i k : Nat) (hi : i < n) (hk : k < wd) (v : Nat)
    (hv : (pk wd L % 2 ^ (wd * i + k) / 2 ^ (8 * ((wd * i + k) / 8)) % 2 ^ 8) ||| (L.getD i 0 / 2 ^ k % 2) * 2 ^ ((wd * i + k) % 8) = v) :
    (nb 8 M (pk wd L % 2 ^ (wd * i + k))).set ((wd * i + k) / 8) v = nb 8 M (pk wd L % 2 ^ (wd * i + (k + 1))) := by
  subst hl
  rw [← hv, ← Nat.add_assoc, mod_succ (pk wd L) (wd * i + k), pk_bit wd L hL i k hi hk]
  have e : L.getD i 0 = L[i] := by rw [List.getD_eq_getElem?_getD, List.getElem?_eq_getElem hi]; rfl
  rw [e]
  exact (nb_or 8 M _ (wd * i + k) _ (by decide) (Nat.mod_lt _ (Nat.two_pow_pos _)) (Nat.mod_lt _ (by decide))).symm

end Go.Proofs.YtdlolhilmhlklaaDoor.rbitb
namespace Go.Proofs.YtdlolhilmhlklaaDoor.rbitc
open Go Go.RowKit
open Go.Proofs.YtdlolhilmhlklaaDoor.arr Go.Proofs.YtdlolhilmhlklaaDoor.mem Go.Proofs.YtdlolhilmhlklaaDoor.stil Go.Proofs.YtdlolhilmhlklaaDoor.bitm Go.Proofs.YtdlolhilmhlklaaDoor.polys Go.Proofs.YtdlolhilmhlklaaDoor.rbita Go.Proofs.YtdlolhilmhlklaaDoor.rbitb

/-- a string's bytes as numbers -/
def bys (b : ByteArray) : List Nat := b.data.toList.map (·.toNat)
theorem bys_length (b : ByteArray) : (bys b).length = b.size := by unfold bys; rw [List.length_map]; rfl
theorem bys_lt (b : ByteArray) : ∀ x ∈ bys b, x < 2 ^ 8 := by
  intro x hx
  obtain ⟨u, -, rfl⟩ := List.mem_map.1 hx
  exact u.toNat_lt
theorem byte_of (b : ByteArray) (i β : Nat) (hi : i < b.size) (hb : (bys b).getD i 0 = β) (w : World) : (Instr.index 9 (.string b) (.int .i64 (i : Int))).run Tryd.prog w = .ok (.int .u8 (β : Int)) w := by
  subst hb
  rw [run_index_string w 9 b .i64 (i : Int) Tryd.underlying9, dif_pos ⟨by omega, by omega⟩]
  have e : (bys b).getD i 0 = (b[i]'hi).toNat := by
    rw [List.getD_eq_getElem?_getD, List.getElem?_eq_getElem (by rw [bys_length]; exact hi)]
    simp only [bys, List.getElem_map, Option.getD_some]
    rfl
  rw [e]
  rfl
theorem infoP : (Tryd.prog.info? 25).map (fun i => (i.zero, i.size)) = some (some (.agg (FL .i64 256 fun _ => 0)), 256) := by kernel_rfl
/-- bit m of the bytes -/
theorem byte_bit (s : ByteArray) (m : Nat) (hm : m / 8 < s.size) : (bys s).getD (m / 8) 0 / 2 ^ (m % 8) % 2 = pk 8 (bys s) / 2 ^ m % 2 := by
  have h := pk_bit 8 (bys s) (bys_lt s) (m / 8) (m % 8) (by rw [bys_length]; exact hm) (Nat.mod_lt _ (by decide))
  rw [Nat.div_add_mod] at h
  rw [h, List.getD_eq_getElem?_getD, List.getElem?_eq_getElem (by rw [bys_length]; exact hm)]
  rfl
/-- number i of width wd, its k lower bits -/
def bt (N wd i k : Nat) : Nat := N / 2 ^ (wd * i) % 2 ^ k
theorem bt_succ (N wd i k : Nat) : bt N wd i (k + 1) = bt N wd i k + 2 ^ k * (N / 2 ^ (wd * i + k) % 2) := by
  unfold bt
  rw [mod_succ, Nat.div_div_eq_div_mul, ← Nat.pow_add]
theorem or_add (a b k : Nat) (ha : a < 2 ^ k) : a ||| b * 2 ^ k = a + 2 ^ k * b := by
  rw [Nat.mul_comm b, Nat.or_comm, ← Nat.two_pow_add_eq_or_of_lt ha, Nat.add_comm]
theorem or_i64 (a b : Nat) (ha : a < 9223372036854775808) (hb : b < 9223372036854775808) : bits .or .i64 (a : Int) (b : Int) = ((a ||| b : Nat) : Int) := by
  have h := Nat.or_lt_two_pow (n := 63) ha hb
  show IntKind.i64.wrap ((BitVec.ofInt 64 (a : Int) ||| BitVec.ofInt 64 (b : Int)).toNat : Int) = _
  rw [BitVec.ofInt_natCast, BitVec.ofInt_natCast, BitVec.toNat_or, BitVec.toNat_ofNat, BitVec.toNat_ofNat, Nat.mod_eq_of_lt (by omega), Nat.mod_eq_of_lt (by omega), IntKind.wrap_i64]
  omega
theorem and_u8 (y : Nat) (h : y < 256) : bits .and .u8 (y : Int) 1 = ((y % 2 : Nat) : Int) := by
  show IntKind.u8.wrap ((BitVec.ofInt 8 (y : Int) &&& BitVec.ofInt 8 1).toNat : Int) = _
  rw [show (1 : Int) = ((1 : Nat) : Int) from rfl, BitVec.ofInt_natCast, BitVec.ofInt_natCast, BitVec.toNat_and, BitVec.toNat_ofNat, BitVec.toNat_ofNat, Nat.mod_eq_of_lt (by omega), Nat.mod_eq_of_lt (by decide), Nat.and_one_is_mod, IntKind.wrap_u8]
  omega
end Go.Proofs.YtdlolhilmhlklaaDoor.rbitc
namespace Go.Proofs.YtdlolhilmhlklaaDoor.rbitd
open Go Go.RowKit
open Go.Proofs.YtdlolhilmhlklaaDoor.arr Go.Proofs.YtdlolhilmhlklaaDoor.mem Go.Proofs.YtdlolhilmhlklaaDoor.stil Go.Proofs.YtdlolhilmhlklaaDoor.bitm Go.Proofs.YtdlolhilmhlklaaDoor.polys Go.Proofs.YtdlolhilmhlklaaDoor.rbita Go.Proofs.YtdlolhilmhlklaaDoor.rbitb Go.Proofs.YtdlolhilmhlklaaDoor.rbitc

theorem index_row {P : Program} {t e : TypeId} {n : Nat} (hu : P.underlying t = some (.array n e)) (he : P.plainKey e = true) (hi0 : (P.info? e).isSome = true) (hc : P.cellsOf e = 1) (C : Array Value) (v : Value) (k : Nat) (hk : k < n) (hx : C[k]? = some v) (w : World) :
    (Instr.index t (.agg C) (.int .i64 (k : Int))).run P w = .ok v w := by
  obtain ⟨i, hi⟩ := Option.isSome_iff_exists.1 hi0
  have h1 : (0 : Int) ≤ (k : Int) ∧ (k : Int) < (n : Int) := ⟨by omega, by omega⟩
  unfold Instr.index
  simp only [asIntOf, Sem.run_bind, Sem.run_pure, run_underlying hu, Result.andThen_ok, if_pos h1, run_sizeOf w hi, hc, Nat.mul_one, Int.toNat_natCast]
  exact run_part_plain w he hx
theorem infoInt : (Tryd.prog.info? 3).map (fun i => (i.zero, i.size, i.bytes)) = some (some (.int .i64 0), 1, 8) := by kernel_rfl
theorem sizeP : (Tryd.prog.info? 25).map (·.size) = some 256 := by kernel_rfl
theorem news_at {w : World} {v : Value} {T : Nat} : ∀ j u, [v][j]? = some u → (w.alloc (.cells #[v] T)).cell? ((⟨w.heap.size, 0, none⟩ : Addr).add j) = some u := by
  intro j u hj
  match j, hj with
  | 0, hj =>
    simp at hj
    subst hj
    simp [Addr.add]
theorem owns_some {w : World} {base : Nat} {e : TypeId} {size : Nat} {v : Value} {n : Nat} {xs : List Value} (hn : 0 < n) (h : w.ownsRow base e size v n xs) : ∃ g cap, v = .slice (some ⟨g, 0, none⟩) n cap := by
  rcases h.2 with ⟨-, h0⟩ | ⟨g, cap, cur, hv, -⟩
  · omega
  · exact ⟨g, cap, hv⟩
/-- the first m numbers as cells -/
def cs (f : Nat → Int) (m : Nat) : List Value := (List.range m).map fun i => Value.int .i64 (f i)
theorem cs_succ (f : Nat → Int) (m : Nat) : cs f (m + 1) = cs f m ++ [.int .i64 (f m)] := by simp [cs, List.range_succ]
/-- .. as numbers -/
def ns (f : Nat → Int) : List Nat := (List.range 256).map fun i => (f i).toNat
def inb (f : Nat → Int) (most : Int) : Prop := ∀ i, i < 256 → 0 ≤ f i ∧ f i ≤ most
instance (f : Nat → Int) (most : Int) : Decidable (inb f most) := by unfold inb; exact inferInstance
def packed (f : Nat → Int) (most : Int) : ByteArray := ⟨(u8s (nb 8 (32 * lb most.toNat) (pk (lb most.toNat) (ns f)))).toArray⟩
end Go.Proofs.YtdlolhilmhlklaaDoor.rbitd
namespace Go.Proofs.YtdlolhilmhlklaaDoor.rbite
open Go Go.RowKit
open Go.Proofs.YtdlolhilmhlklaaDoor.arr Go.Proofs.YtdlolhilmhlklaaDoor.mem Go.Proofs.YtdlolhilmhlklaaDoor.stil Go.Proofs.YtdlolhilmhlklaaDoor.bitm Go.Proofs.YtdlolhilmhlklaaDoor.polys Go.Proofs.YtdlolhilmhlklaaDoor.fldm Go.Proofs.YtdlolhilmhlklaaDoor.rbita Go.Proofs.YtdlolhilmhlklaaDoor.rbitb Go.Proofs.YtdlolhilmhlklaaDoor.rbitc Go.Proofs.YtdlolhilmhlklaaDoor.rbitd

theorem results_cell_tmp {P : Program} {fn : Func} {p u : Tmp} {ty : TypeId} (h : fn.results = #[.cell p ty, .tmp u]) (tmps : Array Value) (w : World) (g : Nat) (t : TypeId) (cs : Array Value) (fr : Nat × Nat) (d : TypeDesc)
    (hp : tmps.getD p undef = .pointer (some ⟨g, 0, none⟩)) (hg : w.heap[g]? = some (.cells cs t fr))
    (hu : P.underlying ty = some d) (hd : (match d with | .struct _ | .array _ _ => true | _ => false) = true) (hi : (P.info? ty).map (·.size) = some cs.size) (v : Value) (hv : tmps.getD u undef = v) :
    (results fn tmps).run P w = .ok (.tuple #[.agg cs, v]) w := by
  have hp' : tmps[p]?.getD undef = .pointer (some ⟨g, 0, none⟩) := by simpa using hp
  have hv' : tmps[u]?.getD undef = v := by simpa using hv
  simp [results, h, hp', hv', asAddr, run_loadVar_row w g t ty cs fr d hg hu hd hi]
theorem wpList_buildC {P : Program} {ops : Array Oper} {rest : List Oper} {o : Oper} {a : Act} {w : World} {Q : Exit → Act → World → Prop} (hg : o.guard = none) (t : TypeId) (parts : Array (Nat × Operand)) (ho : o.op = .build t parts)
    (C : Array Value) (hC : P.built t (parts.map fun (i, x) => (i, a.eval x)).toList = some C) (h : wpList P ops Q rest (a.put o.dst (.agg C)) w) : wpList P ops Q (o :: rest) a w :=
  wpList_build hg t _ ho (by rw [hC]; rfl) (by rw [hC]; exact h)
/-- the numbers that Signed lays -/
def sg (f : Nat → Int) (high : Int) : Nat → Int := fun i => high - ce 8380417 (f i)
def ins (f : Nat → Int) (low high : Int) : Prop := ∀ i, i < 256 → -low ≤ ce 8380417 (f i) ∧ ce 8380417 (f i) ≤ high
instance (f : Nat → Int) (low high : Int) : Decidable (ins f low high) := by unfold ins; exact inferInstance
theorem ce_small (x : Int) : -4190208 ≤ ce 8380417 x ∧ ce 8380417 x ≤ 4190208 := by
  unfold ce
  rw [if_neg (by omega)]
  split <;> omega
end Go.Proofs.YtdlolhilmhlklaaDoor.rbite
namespace Go.Proofs.YtdlolhilmhlklaaDoor.rbitf
open Go Go.RowKit
open Go.Proofs.YtdlolhilmhlklaaDoor.arr Go.Proofs.YtdlolhilmhlklaaDoor.mem Go.Proofs.YtdlolhilmhlklaaDoor.stil Go.Proofs.YtdlolhilmhlklaaDoor.bitm Go.Proofs.YtdlolhilmhlklaaDoor.polys Go.Proofs.YtdlolhilmhlklaaDoor.fldm Go.Proofs.YtdlolhilmhlklaaDoor.rbita Go.Proofs.YtdlolhilmhlklaaDoor.rbitb Go.Proofs.YtdlolhilmhlklaaDoor.rbitc Go.Proofs.YtdlolhilmhlklaaDoor.rbitd Go.Proofs.YtdlolhilmhlklaaDoor.rbite

/-- the numbers that bytes hold -/
def up (s : ByteArray) (wd : Nat) : Nat → Int := fun i => ((bt (pk 8 (bys s)) wd i wd : Nat) : Int)
theorem lb_small (most : Int) (h : most < 8380417) : lb most.toNat ≤ 23 := by
  have h3 : most.toNat < 2 ^ 23 := by omega
  have h4 : lb most.toNat = lbf 23 most.toNat := lbf_more 23 64 _ h3 (by decide)
  rw [h4]
  exact (lbf_spec 23 _ h3).2.2
end Go.Proofs.YtdlolhilmhlklaaDoor.rbitf
namespace Go.Proofs.YtdlolhilmhlklaaDoor.rbitg
open Go Go.RowKit
open Go.Proofs.YtdlolhilmhlklaaDoor.arr Go.Proofs.YtdlolhilmhlklaaDoor.mem Go.Proofs.YtdlolhilmhlklaaDoor.stil Go.Proofs.YtdlolhilmhlklaaDoor.bitm Go.Proofs.YtdlolhilmhlklaaDoor.polys Go.Proofs.YtdlolhilmhlklaaDoor.fldm Go.Proofs.YtdlolhilmhlklaaDoor.rbita Go.Proofs.YtdlolhilmhlklaaDoor.rbitb Go.Proofs.YtdlolhilmhlklaaDoor.rbitc Go.Proofs.YtdlolhilmhlklaaDoor.rbitd Go.Proofs.YtdlolhilmhlklaaDoor.rbite Go.Proofs.YtdlolhilmhlklaaDoor.rbitf

/-- the numbers that Unsigned reads -/
def un (f : Nat → Int) (high : Int) : Nat → Int := fun i => (high - f i) % 8380417
end Go.Proofs.YtdlolhilmhlklaaDoor.rbitg
namespace Go.Proofs.YtdlolhilmhlklaaDoor.rbith
open Go Go.RowKit
open Go.Proofs.YtdlolhilmhlklaaDoor.arr Go.Proofs.YtdlolhilmhlklaaDoor.mem Go.Proofs.YtdlolhilmhlklaaDoor.stil Go.Proofs.YtdlolhilmhlklaaDoor.bitm Go.Proofs.YtdlolhilmhlklaaDoor.polys Go.Proofs.YtdlolhilmhlklaaDoor.fldm Go.Proofs.YtdlolhilmhlklaaDoor.rbita Go.Proofs.YtdlolhilmhlklaaDoor.rbitb Go.Proofs.YtdlolhilmhlklaaDoor.rbitc Go.Proofs.YtdlolhilmhlklaaDoor.rbitd Go.Proofs.YtdlolhilmhlklaaDoor.rbite

/-- how many of the first k numbers are not 0 -/
def cnt (f : Nat → Int) : Nat → Nat
  | 0 => 0
  | k + 1 => cnt f k + if f k = 0 then 0 else 1
/-- .. of the first i polynomials -/
def tot (h : Nat → Nat → Int) : Nat → Nat
  | 0 => 0
  | i + 1 => tot h i + cnt (h i) 256
/-- the places of the first k, from place n on -/
def put (f : Nat → Int) (n : Nat) (S : List Nat) : Nat → List Nat
  | 0 => S
  | k + 1 => if f k = 0 then put f n S k else (put f n S k).set (n + cnt f k) k
/-- the bytes behind i polynomials -/
def lay (h : Nat → Nat → Int) (om m : Nat) : Nat → List Nat
  | 0 => List.replicate (om + m) 0
  | i + 1 => (put (h i) (tot h i) (lay h om m i) 256).set (om + i) (tot h (i + 1))
theorem put_length (f : Nat → Int) (n : Nat) (S : List Nat) (k : Nat) : (put f n S k).length = S.length := by
  induction k with
  | zero => rfl
  | succ k ih => rw [put]; split <;> simp [ih]
theorem lay_length (h : Nat → Nat → Int) (om m i : Nat) : (lay h om m i).length = om + m := by
  induction i with
  | zero => simp [lay]
  | succ i ih => rw [lay, List.length_set, put_length, ih]
theorem cnt_mono (f : Nat → Int) (k j : Nat) (hkj : k ≤ j) : cnt f k ≤ cnt f j := by
  induction j with
  | zero => obtain rfl : k = 0 := by omega
            exact Nat.le_refl _
  | succ j ih =>
    by_cases e : k = j + 1
    · subst e; exact Nat.le_refl _
    · have := ih (by omega)
      rw [cnt]; omega
theorem tot_mono (h : Nat → Nat → Int) (i j : Nat) (hij : i ≤ j) : tot h i ≤ tot h j := by
  induction j with
  | zero => obtain rfl : i = 0 := by omega
            exact Nat.le_refl _
  | succ j ih =>
    by_cases e : i = j + 1
    · subst e; exact Nat.le_refl _
    · have := ih (by omega)
      rw [tot]; omega
theorem set_lt {L : List Nat} {i v : Nat} (h : ∀ x ∈ L, x < 256) (hv : v < 256) : ∀ x ∈ L.set i v, x < 256 := fun x hx => by
  rcases List.mem_or_eq_of_mem_set hx with h1 | rfl
  · exact h x h1
  · exact hv
theorem put_lt (f : Nat → Int) (n : Nat) (S : List Nat) (k : Nat) (hk : k ≤ 256) (h : ∀ x ∈ S, x < 256) : ∀ x ∈ put f n S k, x < 256 := by
  induction k with
  | zero => exact h
  | succ k ih =>
    rw [put]
    split
    · exact ih (by omega)
    · exact set_lt (ih (by omega)) (by omega)
theorem lay_lt (h : Nat → Nat → Int) (om m i : Nat) (ht : tot h i < 256) : ∀ x ∈ lay h om m i, x < 256 := by
  induction i with
  | zero =>
    intro x hx
    rw [lay] at hx
    have := List.eq_of_mem_replicate hx
    omega
  | succ i ih =>
    rw [lay]
    exact set_lt (put_lt _ _ _ _ (Nat.le_refl _) (ih (by have := tot_mono h i (i + 1) (by omega); omega))) ht
end Go.Proofs.YtdlolhilmhlklaaDoor.rbith
namespace Go.Proofs.YtdlolhilmhlklaaDoor.rbitu
open Go Go.RowKit
open Go.Proofs.YtdlolhilmhlklaaDoor.arr Go.Proofs.YtdlolhilmhlklaaDoor.mem Go.Proofs.YtdlolhilmhlklaaDoor.qops Go.Proofs.YtdlolhilmhlklaaDoor.stil Go.Proofs.YtdlolhilmhlklaaDoor.bitm Go.Proofs.YtdlolhilmhlklaaDoor.polys Go.Proofs.YtdlolhilmhlklaaDoor.fldm Go.Proofs.YtdlolhilmhlklaaDoor.rbita Go.Proofs.YtdlolhilmhlklaaDoor.rbitb Go.Proofs.YtdlolhilmhlklaaDoor.rbitc Go.Proofs.YtdlolhilmhlklaaDoor.rbitd Go.Proofs.YtdlolhilmhlklaaDoor.rbite

/-- where polynomial i's places begin -/
def fr (β : Nat → Nat) (om : Nat) : Nat → Nat
  | 0 => 0
  | i + 1 => β (om + i)
/-- the first t places are marked -/
def mk (β : Nat → Nat) (a : Nat) : Nat → Nat → Int
  | 0 => fun _ => 0
  | t + 1 => upd (mk β a t) (β (a + t)) 1
/-- polynomial i's places are as they must be -/
def one (β : Nat → Nat) (om i : Nat) : Prop := fr β om i ≤ fr β om (i + 1) ∧ fr β om (i + 1) ≤ om ∧ ∀ k, fr β om i < k → k < fr β om (i + 1) → β (k - 1) < β k
/-- all bytes are as they must be -/
def uok (β : Nat → Nat) (om m : Nat) : Prop := (∀ i, i < m → one β om i) ∧ ∀ k, fr β om m ≤ k → k < om → β k = 0
def ply (β : Nat → Nat) (om i : Nat) : Nat → Int := mk β (fr β om i) (fr β om (i + 1) - fr β om i)
/-- the cells of the first i polynomials -/
def cl (β : Nat → Nat) (om : Nat) : Nat → List Value
  | 0 => []
  | i + 1 => cl β om i ++ (FL .i64 256 (ply β om i)).toList
theorem own_later {w w' : World} {B e size n : Nat} {v : Value} {xs : List Value} (h : w.ownsRow B e size v n xs) (hb : Below w.heap.size w w') : w'.ownsRow B e size v n xs :=
  ⟨h.1, h.2.imp id fun ⟨g, cap, cur, hv, hbb, hg, r⟩ => ⟨g, cap, cur, hv, hbb, (hb.block g (lt_of_row hg)).trans hg, r⟩⟩
theorem cell_at_new {w : World} {F : Array Value} {T j : Nat} {u : Value} (hu : F.toList[j]? = some u) : (w.alloc (.cells F T)).cell? ((⟨w.heap.size, 0, none⟩ : Addr).add j) = some u := by
  rw [Addr.add_mid, Nat.zero_add]
  exact cell_at (heap_at _ _ _ rfl) (by simpa using hu)
theorem all_one {F : Array Value} (h : F.all (·.oneCell') = true) : ∀ u ∈ F.toList, u.oneCell' = true := fun u hu => (Array.all_eq_true_iff_forall_mem.1 h) u (by simpa using hu)
theorem fill_one (F cells : Array Value) (hF : F.size = 256) (hc : cells.size = 256) : Instr.fill (fun i => some (i * 256, 256)) cells [(0, .agg F)] = some F := by
  have h := Great.fill_whole (s := 256) (by decide) [Value.agg F] cells (by intro v hv; simp at hv; subst hv; exact hF) (by simp [hc])
  have e : (([Value.agg F].flatMap fun v => v.cells.toList).toArray) = F := by simp [Value.cells]
  rw [e] at h
  exact h
theorem fold_one (F cells : Array Value) (hF : F.size = 256) (hc : cells.size = 256) : Array.foldl (fun (cs : Array Value) (x : Value × Nat) => cs.setIfInBounds x.snd x.fst) cells F.zipIdx 0 F.size = F := by
  have h := fill_one F cells hF hc
  simpa [Instr.fill, Value.cells, hF, hc] using h
theorem infoPoly : (Tryd.prog.info? 25).map (fun i => (i.zero, i.size, i.bytes)) = some (some (.agg (FL .i64 256 fun _ => 0)), 256, 2048) := by kernel_rfl
end Go.Proofs.YtdlolhilmhlklaaDoor.rbitu
