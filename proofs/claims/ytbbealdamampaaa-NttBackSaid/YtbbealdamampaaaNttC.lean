/-
  What the transforms come to with the document's tables: back undoes there, there undoes back, the quick product is the slow one, sums go to sums; and the law package's own small inputs. Conditions: none.
-/
import Derived.Test.YtbbealdamampaaaNProd
import Derived.Test.YtbbealdamampaaaNttS
import Derived.Test.YtbbealdamampaaaNtt
import Derived.Test.YtbbealdamampaaaTMb
namespace Go.Proofs.Ytbbealdamampaaa.nttc
open Go Go.Proofs.Ytbbealdamampaaa.tabm Go.Proofs.Ytbbealdamampaaa.tabt Go.Proofs.Ytbbealdamampaaa.tabv Go.Proofs.Ytbbealdamampaaa.nttm Go.Proofs.Ytbbealdamampaaa.nttp Go.Proofs.Ytbbealdamampaaa.nttt Go.Proofs.Ytbbealdamampaaa.nttl Go.Proofs.Ytbbealdamampaaa.ntts Go.Proofs.Ytbbealdamampaaa.nthere Go.Proofs.Ytbbealdamampaaa.nprod Go.Proofs.Ytbbealdamampaaa.polys Go.Proofs.Ytbbealdamampaaa.polt

theorem zt_lt (k : Nat) : zt k < 8380417 := pw_lt _ _
theorem zt_red : (fun k => ((zt k : Nat) : Int) % 8380417) = ζ := by
  funext k
  have := zt_lt k
  unfold ζ
  omega
theorem zt_doc : ZT TA (fun k => ((zt k : Nat) : Int)) := ⟨fun k hk => by rw [ta_get _ (by omega), tv_zetas k hk, zl_get 256 k hk (by decide)], ta_size, ta_one⟩

theorem back_there (f : Nat → Int) (j : Nat) (hj : j < 256) : (backR ζ 8 (thereR ζ 8 f) j * 8347681) % 8380417 = f j % 8380417 := by
  apply cg_eq
  rw [Int.mul_comm]
  refine cg_trans (cg_mul (cg_refl _) (cg_trans (backR_cg ζ 8 (by decide) _ j hj) (back_cg ζ 8 (by decide) (fun i hi => thereR_cg ζ 8 (by decide) f i hi) j hj))) ?_
  exact undo ζ inv_doc f j hj
theorem there_back (f : Nat → Int) (j : Nat) (hj : j < 256) : thereR ζ 8 (fun i => (backR ζ 8 f i * 8347681) % 8380417) j = f j % 8380417 := by
  refine red_eq ?_ (thereR_red ζ 8 _ j) ⟨Int.emod_nonneg _ (by decide), Int.emod_lt_of_pos _ (by decide)⟩
  refine cg_trans (thereR_cg ζ 8 (by decide) _ j hj) (cg_trans ?_ (cg_symm (cg_mod _)))
  refine cg_trans (there_cg ζ 8 (by decide) (g := fun i => 8347681 * back ζ 8 f i) (fun i hi => ?_) j hj) (redo ζ inv_doc f j hj)
  refine cg_trans (cg_mod _) ?_
  rw [Int.mul_comm]
  exact cg_mul (cg_refl _) (backR_cg ζ 8 (by decide) f i hi)
theorem product_is (f g : Nat → Int) (j : Nat) (hj : j < 256) : pr ζ f g j = red (mul 256 (-1) (red f) (red g)) j := by
  unfold pr
  show _ = mul 256 (-1) (red f) (red g) j % 8380417
  apply cg_eq
  rw [Int.mul_comm]
  refine cg_trans (cg_mul (cg_refl _) (cg_trans (backR_cg ζ 8 (by decide) _ j hj) (back_cg ζ 8 (by decide) (g := fun i => there ζ 8 f i * there ζ 8 g i) (fun i hi => cg_trans (cg_mod _) (cg_mul (thereR_cg ζ 8 (by decide) f i hi) (thereR_cg ζ 8 (by decide) g i hi))) j hj))) ?_
  exact cg_trans (product_doc f g j hj) (mul_cg (cg_refl _) (fun i _ => cg_symm (cg_mod _)) (fun i _ => cg_symm (cg_mod _)) j hj)
theorem product_comm (f g : Nat → Int) : pr ζ f g = pr ζ g f := by
  unfold pr
  have e : (fun i => (thereR ζ 8 f i * thereR ζ 8 g i) % 8380417) = fun i => (thereR ζ 8 g i * thereR ζ 8 f i) % 8380417 := by funext i; rw [Int.mul_comm]
  rw [e]
theorem there_sum (f g : Nat → Int) (j : Nat) (hj : j < 256) : thereR ζ 8 (fun i => (f i + g i) % 8380417) j = (thereR ζ 8 f j + thereR ζ 8 g j) % 8380417 := by
  refine red_eq ?_ (thereR_red ζ 8 _ j) ⟨Int.emod_nonneg _ (by decide), Int.emod_lt_of_pos _ (by decide)⟩
  refine cg_trans (thereR_cg ζ 8 (by decide) _ j hj) (cg_trans ?_ (cg_symm (cg_mod _)))
  refine cg_trans (there_cg ζ 8 (by decide) (g := fun i => f i + g i) (fun i hi => cg_mod _) j hj) ?_
  rw [there_add]
  exact cg_symm (cg_add (thereR_cg ζ 8 (by decide) f j hj) (thereR_cg ζ 8 (by decide) g j hj))

/-! ### the law package's own inputs -/
theorem sm_zero (f : Nat → Int) (n : Nat) (h : ∀ i, i < n → f i = 0) : sm f n = 0 := by
  induction n with
  | zero => rfl
  | succ n ih => rw [sm, ih (fun i hi => h i (by omega)), h n (by omega)]; rfl
theorem sm_one (f : Nat → Int) (k : Nat) (n : Nat) (hk : k < n) (h : ∀ i, i < n → i ≠ k → f i = 0) : sm f n = f k := by
  induction n with
  | zero => omega
  | succ n ih =>
    rw [sm]
    by_cases e : k = n
    · subst e
      rw [sm_zero f k (fun i hi => h i (by omega) (by omega))]
      omega
    · rw [ih (by omega) (fun i hi hne => h i (by omega) hne), h n (by omega) (by omega)]
      omega
/-- the power X^k, times a -/
def xk (k : Nat) (a : Int) : Nat → Int := upd (fun _ => 0) k a
theorem xk_red (k : Nat) (i : Nat) : red (xk k 1) i = xk k 1 i := by
  unfold red xk upd
  by_cases h : i = k
  · rw [if_pos h]; decide
  · rw [if_neg h]; show (0 : Int) % 8380417 = 0; decide
theorem small (j : Nat) (hj : j < 256) : red (mul 256 (-1) (red (xk 1 1)) (red (xk 255 1))) j = p1 8380416 j := by
  show mul 256 (-1) (red (xk 1 1)) (red (xk 255 1)) j % 8380417 = _
  have e : mul 256 (-1) (red (xk 1 1)) (red (xk 255 1)) j = red (xk 1 1) 1 * shi 256 (-1) (red (xk 255 1)) 1 j := by
    unfold mul
    refine sm_one (fun i => red (xk 1 1) i * shi 256 (-1) (red (xk 255 1)) i j) 1 256 (by decide) (fun i _ hne => ?_)
    show red (xk 1 1) i * _ = 0
    rw [xk_red]
    unfold xk upd
    rw [if_neg hne, Int.zero_mul]
  rw [e, shi_low 256 (-1) _ 1 (by decide) j hj]
  by_cases h : j < 1
  · obtain rfl : j = 0 := by omega
    decide
  · rw [if_neg h, xk_red, xk_red]
    unfold p1 xk upd
    rw [if_pos rfl, if_neg (by omega), if_neg (by omega)]
    show (1 * 0 : Int) % 8380417 = 0
    decide
theorem small_pr (j : Nat) (hj : j < 256) : pr ζ (xk 1 1) (xk 255 1) j = p1 8380416 j := (product_is _ _ j hj).trans (small j hj)
set_option maxRecDepth 100000 in
theorem three_is : thereR ζ 8 (p1 3) 200 = 3 := by decide +kernel
theorem ten_is : (p1 2 0 * p1 5 0) % 8380417 = 10 := by decide
end Go.Proofs.Ytbbealdamampaaa.nttc
