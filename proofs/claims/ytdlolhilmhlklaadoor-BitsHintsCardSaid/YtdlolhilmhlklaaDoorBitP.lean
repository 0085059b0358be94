/-
  What is laid is read, and what is read is laid so again: the plain functions of layer 10. No function of a program is named here. Conditions: as each theorem says.
-/
import Derived.Test.YtdlolhilmhlklaaDoorBiD
namespace Go.Proofs.YtdlolhilmhlklaaDoor.bitp
open Go Go.RowKit
open Go.Proofs.YtdlolhilmhlklaaDoor.arr Go.Proofs.YtdlolhilmhlklaaDoor.mem Go.Proofs.YtdlolhilmhlklaaDoor.bitm Go.Proofs.YtdlolhilmhlklaaDoor.polys Go.Proofs.YtdlolhilmhlklaaDoor.fldm Go.Proofs.YtdlolhilmhlklaaDoor.rbita Go.Proofs.YtdlolhilmhlklaaDoor.rbitb Go.Proofs.YtdlolhilmhlklaaDoor.rbitc Go.Proofs.YtdlolhilmhlklaaDoor.rbitd Go.Proofs.YtdlolhilmhlklaaDoor.rbite Go.Proofs.YtdlolhilmhlklaaDoor.rbitf Go.Proofs.YtdlolhilmhlklaaDoor.rbitg

theorem bys_u8s (l : List Nat) (h : ∀ x ∈ l, x < 2 ^ 8) : bys ⟨(u8s l).toArray⟩ = l := by
  unfold bys u8s
  rw [List.map_map]
  conv => rhs; rw [← List.map_id l]
  refine List.map_congr_left fun x hx => ?_
  have := h x hx
  show (UInt8.ofNat x).toNat = x
  rw [UInt8.toNat_ofNat']
  omega
theorem u8s_bys (s : ByteArray) : (⟨(u8s (bys s)).toArray⟩ : ByteArray) = s := by
  obtain ⟨⟨l⟩⟩ := s
  unfold bys u8s
  rw [List.map_map]
  congr 2
  conv => rhs; rw [← List.map_id l]
  refine List.map_congr_left fun x _ => ?_
  show UInt8.ofNat x.toNat = x
  simp
theorem lb_lt (most : Int) (h2 : most < 8380417) : most.toNat < 2 ^ lb most.toNat := (lbf_spec 64 most.toNat (by omega)).1
theorem size_packed (f : Nat → Int) (most : Int) : (packed f most).size = 32 * lb most.toNat := by
  rw [← bys_length, packed, bys_u8s _ (nb_lt 8 _ _), nb_length]
theorem ns_len (f : Nat → Int) : (ns f).length = 256 := by simp [ns]
theorem up_packed (f : Nat → Int) (most : Int) (h2 : most < 8380417) (hin : inb f most) (i : Nat) (hi : i < 256) : up (packed f most) (lb most.toNat) i = f i := by
  have hL : ∀ x ∈ ns f, x < 2 ^ lb most.toNat := by
    intro x hx
    obtain ⟨j, hj, rfl⟩ := List.mem_map.1 hx
    have h3 := hin j (List.mem_range.1 hj)
    exact Nat.lt_of_le_of_lt (by omega) (lb_lt most h2)
  have hb := pk_lt (lb most.toNat) (ns f) hL
  rw [ns_len, show lb most.toNat * 256 = 8 * (32 * lb most.toNat) by omega] at hb
  have hm := Nat.mod_eq_of_lt hb
  have ha := pk_at (lb most.toNat) (ns f) hL i (by rw [ns_len]; exact hi)
  unfold up packed bt
  rw [bys_u8s _ (nb_lt 8 _ _), pk_nb, hm, ha]
  simp only [ns, List.getElem_map, List.getElem_range]
  exact Int.toNat_of_nonneg (hin i hi).1
theorem ns_up (s : ByteArray) (wd : Nat) : ns (up s wd) = nb wd 256 (pk 8 (bys s)) := by
  apply List.ext_getElem?
  intro i
  by_cases hi : i < 256
  · rw [nb_get wd 256 _ i hi]
    unfold ns
    rw [List.getElem?_map, List.getElem?_range hi]
    rfl
  · rw [List.getElem?_eq_none (by rw [ns_len]; omega), List.getElem?_eq_none (by rw [nb_length]; omega)]
theorem packed_up (s : ByteArray) (most : Int) (hs : s.size = 32 * lb most.toNat) : packed (up s (lb most.toNat)) most = s := by
  unfold packed
  rw [ns_up, laid_read (lb most.toNat) 256 (32 * lb most.toNat) (bys s) (by rw [bys_length]; exact hs) (bys_lt s) (by omega), u8s_bys]
theorem un_sg (f : Nat → Int) (high : Int) (i : Nat) (h : 0 ≤ f i ∧ f i < 8380417) : un (sg f high) high i = f i := by
  unfold un sg ce
  rw [if_neg (by omega)]
  split <;> omega
end Go.Proofs.YtdlolhilmhlklaaDoor.bitp
