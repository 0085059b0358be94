/-
  What a verifier reckons is what the signer had, up to what a hint brings back: sums and products thr
-/
import Derived.Test.YtomphjajkkddkaaGreatDoorZt09
import Derived.Test.YtomphjajkkddkaaGreatDoorZt16
import Derived.Test.YtomphjajkkddkaaGreatDoorZt12
import Derived.Test.YtomphjajkkddkaaGreatDoorZt02
import Derived.Test.YtomphjajkkddkaaGreatDoorProg
import Derived.Test.YtomphjajkkddkaaGreatDoorZt01
import Derived.Shelf.LaysM
import Derived.Shelf.Strconv.Clone
import Derived.Lib.MinMax
set_option maxRecDepth 100000
set_option maxHeartbeats 16000000
namespace Go.Proofs.YtomphjajkkddkaaGreatDoor.mlvb
open nttm nttp nttl polys mlkm mlsm
variable (ζ : Nat→Int)
def Eq' (f g:Nat→Int):Prop:=∀ j,j<256→Cg (f j) (g j)
theorem eq_refl (f:Nat→Int):Eq' f f:=fun _ _=>cg_refl _
theorem eq_symm {f g:Nat→Int} (h:Eq' f g):Eq' g f:=fun j hj=>cg_symm (h j hj)
theorem eq_trans {f g k:Nat→Int} (h:Eq' f g) (h2:Eq' g k):Eq' f k:=fun j hj=>cg_trans (h j hj) (h2 j hj)
theorem bk_add (K s:Nat) (f g:Nat→Int) (j:Nat):bk ζ K s (fun i=>f i+g i) j=bk ζ K s f j+bk ζ K s g j:=by
 unfold bk
 split
 ·show f j+g j+(f (j+s)+g (j+s))=_
  omega
 ·show -ζ _*((f (j-s)+g (j-s))-(f j+g j))=_
  rw[show f (j-s)+g (j-s)-(f j+g j)=(f (j-s)-f j)+(g (j-s)-g j) by omega,Int.mul_add]
theorem back_add (m:Nat) (f g:Nat→Int):back ζ m (fun i=>f i+g i)=fun j=>back ζ m f j+back ζ m g j:=by
 induction m with
 | zero=>rfl
 | succ m ih=>
  funext j
  show bk ζ _ _ (back ζ m (fun i=>f i+g i)) j=_
  rw[ih,bk_add]
  rfl
def bw (f:Nat→Int):Nat→Int:=fun j=>8347681*back ζ 8 f j
theorem bw_cg {f g:Nat→Int} (h:Eq' f g):Eq' (bw ζ f) (bw ζ g):=fun j hj=>cg_mul (cg_refl _) (back_cg ζ 8 (by decide) h j hj)
theorem bw_add (f g:Nat→Int):bw ζ (fun i=>f i+g i)=fun j=>bw ζ f j+bw ζ g j:=by
 funext j
 unfold bw
 rw[back_add,Int.mul_add]
theorem there_eq {f g:Nat→Int} (h:Eq' f g):Eq' (there ζ 8 f) (there ζ 8 g):=there_cg ζ 8 (by decide) h
theorem thereR_eq (f:Nat→Int):Eq' (thereR ζ 8 f) (there ζ 8 f):=thereR_cg ζ 8 (by decide) f
theorem backR_eq (f:Nat→Int):Eq' (fun k=>(backR ζ 8 f k*8347681)%8380417) (bw ζ f):=fun j hj=>by
 refine cg_trans (cg_mod _) ?_
 rw[Int.mul_comm]
 exact cg_mul (cg_refl _) (backR_cg ζ 8 (by decide) f j hj)
theorem mul_eq {f f' g g':Nat→Int} (h:Eq' f f') (h2:Eq' g g'):Eq' (fun k=>f k*g k) (fun k=>f' k*g' k):=fun j hj=>cg_mul (h j hj) (h2 j hj)
theorem add_eq {f f' g g':Nat→Int} (h:Eq' f f') (h2:Eq' g g'):Eq' (fun k=>f k+g k) (fun k=>f' k+g' k):=fun j hj=>cg_add (h j hj) (h2 j hj)
theorem mod_eq (f:Nat→Int):Eq' (fun k=>f k%8380417) f:=fun _ _=>cg_mod _
theorem one_eq (c f:Nat→Int):Eq' (one ζ c f) (bw ζ (fun k=>there ζ 8 c k*there ζ 8 f k)):=
 eq_trans (backR_eq ζ _) (bw_cg ζ (eq_trans (mod_eq _) (mul_eq (thereR_eq ζ c) (thereR_eq ζ f))))
theorem one_cg {c c' f f':Nat→Int} (hc:Eq' c c') (hf:Eq' f f'):Eq' (one ζ c f) (one ζ c' f'):=
 eq_trans (one_eq ζ c f) (eq_trans (bw_cg ζ (mul_eq (there_eq ζ hc) (there_eq ζ hf))) (eq_symm (one_eq ζ c' f')))
theorem one_add (c f g:Nat→Int):Eq' (one ζ c (fun k=>f k+g k)) (fun k=>one ζ c f k+one ζ c g k):=by
 refine eq_trans (one_eq ζ c _) (eq_trans ?_ (add_eq (eq_symm (one_eq ζ c f)) (eq_symm (one_eq ζ c g))))
 rw[there_add,←bw_add]
 refine bw_cg ζ fun j _=>?_
 show Cg (there ζ 8 c j*(there ζ 8 f j+there ζ 8 g j)) _
 rw[Int.mul_add]
 exact cg_refl _
def psum (x v:Nat→Nat→Int):Nat→Nat→Int
 | 0=>fun _=>0
 | n+1=>fun k=>psum x v n k+x n k*there ζ 8 (v n) k
theorem rsum_eq (x v:Nat→Nat→Int) (n:Nat):Eq' (rsum x (fun j=>thereR ζ 8 (v j)) n) (psum ζ x v n):=by
 induction n with
 | zero=>exact eq_refl _
 | succ n ih=>exact eq_trans (mod_eq _) (add_eq ih (eq_trans (mod_eq _) (mul_eq (eq_refl _) (thereR_eq ζ _))))
theorem row_eq (x v:Nat→Nat→Int) (n:Nat):Eq' (rowv ζ x v n) (bw ζ (psum ζ x v n)):=eq_trans (backR_eq ζ _) (bw_cg ζ (rsum_eq ζ x v n))
theorem psum_cg {x v v':Nat→Nat→Int} (n:Nat) (h:∀ i,i<n→Eq' (v i) (v' i)):Eq' (psum ζ x v n) (psum ζ x v' n):=by
 induction n with
 | zero=>exact eq_refl _
 | succ n ih=>exact add_eq (ih fun i hi=>h i (by omega)) (mul_eq (eq_refl _) (there_eq ζ (h n (by omega))))
theorem psum_mul (hz:Inv ζ) (x y a:Nat→Nat→Int) (c:Nat→Int) (n:Nat):
 Eq' (psum ζ x (fun i k=>y i k+one ζ c (a i) k) n) (fun k=>psum ζ x y n k+there ζ 8 c k*psum ζ x a n k):=by
 induction n with
 | zero=>exact fun j _=>by show Cg 0 (0+there ζ 8 c j*0);rw[Int.mul_zero];exact cg_refl _
 | succ n ih=>
  intro j hj
  have h1:Cg (there ζ 8 (one ζ c (a n)) j) (there ζ 8 c j*there ζ 8 (a n) j):=cg_trans (there_eq ζ (one_eq ζ c (a n)) j hj) (redo ζ hz (fun k=>there ζ 8 c k*there ζ 8 (a n) k) j hj)
  have h2:=ih j hj
  show Cg (psum ζ x (fun i k=>y i k+one ζ c (a i) k) n j+x n j*there ζ 8 (fun k=>y n k+one ζ c (a n) k) j) (psum ζ x y n j+x n j*there ζ 8 (y n) j+there ζ 8 c j*(psum ζ x a n j+x n j*there ζ 8 (a n) j))
  rw[there_add]
  show Cg (psum ζ x (fun i k=>y i k+one ζ c (a i) k) n j+x n j*(there ζ 8 (y n) j+there ζ 8 (one ζ c (a n)) j)) _
  have h3:=cg_mul (cg_refl (x n j)) h1
  have e:psum ζ x y n j+x n j*there ζ 8 (y n) j+there ζ 8 c j*(psum ζ x a n j+x n j*there ζ 8 (a n) j)=(psum ζ x y n j+there ζ 8 c j*psum ζ x a n j)+(x n j*there ζ 8 (y n) j+x n j*(there ζ 8 c j*there ζ 8 (a n) j)):=by
   rw[Int.mul_add,Int.mul_left_comm (there ζ 8 c j) (x n j)]
   omega
  rw[e,Int.mul_add]
  exact cg_add h2 (cg_add (cg_refl _) h3)
theorem row_mul (hz:Inv ζ) (x y a:Nat→Nat→Int) (c:Nat→Int) (n:Nat):
 Eq' (rowv ζ x (fun i k=>(y i k+one ζ c (a i) k)%8380417) n) (fun k=>rowv ζ x y n k+one ζ c (rowv ζ x a n) k):=by
 refine eq_trans (row_eq ζ _ _ n) (eq_trans (bw_cg ζ (eq_trans (psum_cg ζ n fun i _=>mod_eq _) (psum_mul ζ hz x y a c n))) ?_)
 rw[bw_add]
 refine add_eq (eq_symm (row_eq ζ x y n)) (eq_trans ?_ (eq_symm (one_eq ζ c _)))
 refine bw_cg ζ (mul_eq (eq_refl _) (eq_symm (eq_trans (there_eq ζ (row_eq ζ x a n)) ?_)))
 exact fun j hj=>redo ζ hz _ j hj
theorem meet (hz:Inv ζ) (x y a:Nat→Nat→Int) (b lo hi c:Nat→Int) (n:Nat) (ht:∀ k,k<256→((hi k*8192)%8380417+lo k)%8380417=(rowv ζ x a n k+b k)%8380417) (k:Nat) (hk:k<256):
 (rowv ζ x (fun i k=>(y i k+one ζ c (a i) k)%8380417) n k-one ζ c (fun k=>(hi k*8192)%8380417) k)%8380417=((rowv ζ x y n k-one ζ c b k)%8380417+one ζ c lo k)%8380417:=by
 have h1:=row_mul ζ hz x y a c n k hk
 have h2:Eq' (fun k=>(hi k*8192)%8380417+lo k) (fun k=>rowv ζ x a n k+b k):=fun j hj=>eq_cg (ht j hj)
 have h3:=eq_trans (eq_symm (one_add ζ c (fun k=>(hi k*8192)%8380417) lo)) (eq_trans (one_cg ζ (eq_refl c) h2) (one_add ζ c _ b)) k hk
 have h1:=cg_eq h1
 have h3:=cg_eq h3
 simp only at h1 h3
 generalize rowv ζ x (fun i k=>(y i k+one ζ c (a i) k)%8380417) n k=p at *
 generalize one ζ c (fun k=>(hi k*8192)%8380417) k=q at *
 generalize rowv ζ x y n k=r at *
 generalize one ζ c (rowv ζ x a n) k=s at *
 generalize one ζ c b k=t at *
 generalize one ζ c lo k=u at *
 omega
end Go.Proofs.YtomphjajkkddkaaGreatDoor.mlvb
namespace Go.Proofs.YtomphjajkkddkaaGreatDoor.mlvc
open nttm nttp nttl polys fldm rndm samb mlkm mlsm mlvb
theorem ce_cg (x:Int):Cg x (ce 8380417 x):=by
 rw[ce_is _ _ (by decide) (by decide)]
 unfold Cg
 split<;>omega
theorem ce_of {x s:Int} (h:Cg x s) (h1 : -4190208≤s) (h2:s≤4190208):ce 8380417 x=s:=by
 rw[ce_is _ _ (by decide) (by decide)]
 unfold Cg at h
 split<;>omega
theorem one_mul_le (a t e:Int) (ha:a=0∨a=1∨a = -1) (ht : -e≤t∧t≤e) : -e≤a*t∧a*t≤e:=by
 rcases ha with rfl | rfl | rfl<;>omega
theorem sm_le (c a t:Nat→Int) (e:Int) (n:Nat) (hc:∀ i,i<n→c i=0→a i=0) (ha:∀ i,i<n→a i=0∨a i=1∨a i = -1) (ht:∀ i,i<n → -e≤t i∧t i≤e) : -((nz c n:Nat):Int)*e≤sm (fun i=>a i*t i) n∧sm (fun i=>a i*t i) n≤((nz c n:Nat):Int)*e:=by
 induction n with
 | zero=>exact⟨by show -((0:Nat):Int)*e≤0;omega,by show 0≤((0:Nat):Int)*e;omega⟩
 | succ n ih=>
  obtain⟨h1,h2⟩:=ih (fun i hi=>hc i (by omega)) (fun i hi=>ha i (by omega)) (fun i hi=>ht i (by omega))
  show _≤sm (fun i=>a i*t i) n+a n*t n∧sm (fun i=>a i*t i) n+a n*t n≤_
  rw[nz]
  by_cases e0:c n=0
  ·rw[if_pos e0,hc n (by omega) e0,Int.zero_mul,Int.add_zero,Nat.add_zero]
   exact⟨h1,h2⟩
  ·rw[if_neg e0,Int.natCast_add,Int.neg_mul,Int.add_mul]
   rw[Int.neg_mul]at h1
   have:=one_mul_le (a n) (t n) e (ha n (by omega)) (ht n (by omega))
   generalize ((nz c n:Nat):Int)*e=p at *
   omega
theorem shi_le (b:Nat→Int) (e:Int) (hb:∀ k,k<256 → -e≤b k∧b k≤e) (i:Nat) (hi:i<256) (j:Nat) (hj:j<256) : -e≤shi 256 (-1) b i j∧shi 256 (-1) b i j≤e:=by
 rw[shi_low 256 (-1) b i (by omega) j hj]
 split
 ·have:=hb (j+256-i) (by omega);omega
 ·exact hb (j-i) (by omega)
theorem tre_ce (x:Int) (h:tre x):ce 8380417 x=0∨ce 8380417 x=1∨ce 8380417 x = -1:=by
 rcases h with rfl | rfl | rfl<;>decide
theorem prod_le (ζ ρ : Nat→Int) (hz:Inv ζ) (hq:Sq ζ ρ) (c b:Nat→Int) (tau e:Int) (he : 0≤e) (hc:∀ i,tre (c i)) (hn:((nz c 256:Nat):Int)≤tau) (hb:∀ k,k<256 → -e≤ce 8380417 (b k)∧ce 8380417 (b k)≤e) (ht:tau*e≤4190208) (k:Nat) (hk:k<256):
 -(tau*e)≤ce 8380417 (one ζ c b k)∧ce 8380417 (one ζ c b k)≤tau*e:=by
 have h1:Cg (one ζ c b k) (mul 256 (-1) (fun i=>ce 8380417 (c i)) (fun i=>ce 8380417 (b i)) k):=
  cg_trans (one_eq ζ c b k hk) (cg_trans (product ζ ρ hz hq c b k hk) (mul_cg (cg_refl _) (fun j _=>ce_cg (c j)) (fun j _=>ce_cg (b j)) k hk))
 have h2:=sm_le c (fun i=>ce 8380417 (c i)) (fun i=>shi 256 (-1) (fun i=>ce 8380417 (b i)) i k) e 256 (fun i _ h=>by show ce 8380417 (c i)=0;rw[h];decide) (fun i _=>tre_ce _ (hc i)) (fun i hi=>shi_le _ e hb i hi k hk)
 have h3:((nz c 256:Nat):Int)*e≤tau*e:=Int.mul_le_mul_of_nonneg_right hn he
 have h4:mul 256 (-1) (fun i=>ce 8380417 (c i)) (fun i=>ce 8380417 (b i)) k=sm (fun i=>ce 8380417 (c i)*shi 256 (-1) (fun i=>ce 8380417 (b i)) i k) 256:=rfl
 rw[←h4,Int.neg_mul]at h2
 generalize mul 256 (-1) (fun i=>ce 8380417 (c i)) (fun i=>ce 8380417 (b i)) k=s at *
 rw[ce_of h1 (by omega) (by omega)]
 omega
end Go.Proofs.YtomphjajkkddkaaGreatDoor.mlvc
namespace Go.Proofs.YtomphjajkkddkaaGreatDoor.mlvd
open keca spok nttm nttp nttl polys fldm rndm rbitd samb rsdoc mlkm mlsm mlsb mlva mlvb mlvc
def vW (S:Sg) (n:Nat) (hi:Nat→Nat→Int) (i:Nat):Nat→Int:=fun k=>(rowv S.ζ (qX S.rho i) (tZ S n) S.ln k-one S.ζ (tC S n) (fun k=>(hi i k*8192)%8380417) k)%8380417
theorem cb_each {h:Nat→Int} {b:Int} (H:cb h 256<b) (k:Nat) (hk:k<256) : -b<ce 8380417 (h k)∧ce 8380417 (h k)<b:=by
 have:=cb_ge h 256 k hk
 omega
theorem cbs_each {p:Nat→Nat→Int} {b:Int} {m:Nat} (H:cbs p m<b) (i:Nat) (hi:i<m) (k:Nat) (hk:k<256) : -b<ce 8380417 (p i k)∧ce 8380417 (p i k)<b:=by
 have:=cb_cbs p m i hi
 exact cb_each (by omega) k hk
theorem ce_neg (c g:Int) (h : -g<ce 8380417 c∧ce 8380417 c<g) : -g<ce 8380417 ((0-c)%8380417)∧ce 8380417 ((0-c)%8380417)<g:=by
 rw[ce_is _ c (by decide) (by decide)]at h
 rw[ce_is _ _ (by decide) (by decide)]
 split at h<;>split<;>omega
theorem lw_in (g x:Int) (h:g=95232∨g=261888) : -261888≤lw g x∧lw g x≤261888:=by
 rcases h with rfl | rfl
 ·have:=parts_95232 x;omega
 ·have:=parts_261888 x;omega
theorem back_high (S:Sg) (n tau:Nat) (ρ : Nat→Int) (hi:Nat→Nat→Int) (hz:Inv S.ζ) (hq:Sq S.ζ ρ) (hg:S.b=95232∨S.b=261888) (ht:S.t=(tau:Int)) (h64:tau≤64) (he : 0≤S.e∧S.e≤4)
 (i:Nat) (hi':i<S.kn) (hB:∀ k,k<256 → -S.e≤ce 8380417 (S.B i k)∧ce 8380417 (S.B i k)≤S.e)
 (hT:∀ k,k<256→((hi i k*8192)%8380417+S.C i k)%8380417=(rowv S.ζ (qX S.rho i) S.A S.ln k+S.B i k)%8380417)
 (hok:tOk S n=true) (k:Nat) (hk:k<256):us S.b (tHn S n i k) (vW S n hi i k)=tHi S n i k:=by
 obtain⟨-,h2,h3,-⟩:=tOk_of hok
 have hm:vW S n hi i k=(tV S n i k+tCl S n i k)%8380417:=meet S.ζ hz (qX S.rho i) (tY S n) S.A (S.B i) (S.C i) (hi i) (tC S n) S.ln hT k hk
 have hc:=cbs_each h3 i hi' k hk
 have hl:=cbs_each h2 i hi' k hk
 have hte : 0≤S.t*S.e∧S.t*S.e≤64*4:=⟨Int.mul_nonneg (by omega) he.1,Int.mul_le_mul (by omega) he.2 he.1 (by decide)⟩
 have hs:=prod_le S.ζ ρ hz hq (tC S n) (S.B i) S.t S.e he.1 (fun j=>ball_tre _ _ j) (by
  have:=ball_nz (rbitc.bys (out TL RL 2 (tSum S n) 544)) tau h64
  unfold tC dB
  rw[ht]
  omega) hB (by omega) k hk
 have hlw:=lw_in S.b (tV S n i k) hg
 have hlo:ce 8380417 (tLo S n i k)=lw S.b (tV S n i k):=ce_back _ (by omega) (by omega)
 rw[hlo]at hl
 have hv : 0≤tV S n i k∧tV S n i k<8380417:=by unfold tV;omega
 have hx : 0≤(tV S n i k+tCl S n i k)%8380417∧(tV S n i k+tCl S n i k)%8380417<8380417:=by omega
 rw[hm]
 show us S.b (hn S.b ((0-tCl S n i k)%8380417) ((tV S n i k+tCl S n i k)%8380417)) _=_
 rw[use_hint S.b _ _ hg hx (ce_neg _ _ hc)]
 have e1:((tV S n i k+tCl S n i k)%8380417+(0-tCl S n i k)%8380417)%8380417=tV S n i k:=by omega
 rw[e1]
 have e2:=stay S.b (tV S n i k) (ce 8380417 (one S.ζ (tC S n) (S.B i) k)) (S.t*S.e) hg hv (by omega) (by omega) hs
 rw[←e2]
 have hw : 0≤tW S n i k∧tW S n i k<8380417:=by unfold tW rowv;omega
 have e3:=ce_cg (one S.ζ (tC S n) (S.B i) k)
 have e4:tV S n i k=(tW S n i k-one S.ζ (tC S n) (S.B i) k)%8380417:=rfl
 have e5:(tV S n i k+ce 8380417 (one S.ζ (tC S n) (S.B i) k))%8380417=tW S n i k:=by
  rw[e4]
  unfold Cg at e3
  omega
 rw[e5]
 rfl
end Go.Proofs.YtomphjajkkddkaaGreatDoor.mlvd
namespace Go.Proofs.YtomphjajkkddkaaGreatDoor.sigv
open kecf hiding sl
open tbf sigf sigp sigq sigt bitm samm samb keca spok polys fldm rndm nttl rbita rbitd rbitf rbitg rsdoc rbith saml mlkm mlsm
open rbitc (bys bys_lt bys_length bt)
def diffS (seed m1 m2:List Nat):Bool:=
 keyS seed fun _ key tr A _ _ _=>outS 136 31 (tr++m1) 64 fun mu=>outS 136 31 (tr++m2) 64 fun mu2=>outS 136 31 (key++(List.replicate 32 0++mu)) 64 fun mask=>
 outS 136 31 (mask ++ [0,0]) 576 fun u=>pkS (fun N=>tabS (maskN N) fun y=>thereS y fun hy=>prodS A hy fun w=>tabS (fun i=>hghN (lk w i)) fun hi=>packS 6 hi fun hb=>
 outS 136 31 (mu++hb) 32 fun sum=>outS 136 31 (mu2++hb) 32 fun sum2=>cond (Nat.beq (sum.headD 0) (sum2.headD 0)) false true) u 0 1
theorem diff_is:diffS seed32 [0,1,99,97,98,99] [0,1,99,97,98,100]=true:=by decide +kernel
theorem other (sd m m2 z:ByteArray) (hsd:bys sd=seed32) (hm:bys m=[0,1,99,97,98,99]) (hm2:bys m2=[0,1,99,97,98,100]) (hz:bys z=List.replicate 32 0) (S:Sg)
 (hS:(⟨ζ,1,1,2,20,131072,95232,60,128,pRho sd 1 1,out TL RL 2 (pTr ζ sd 1 1 2++m) 64,out TL RL 2 (pKey sd 1 1++z++out TL RL 2 (pTr ζ sd 1 1 2++m) 64) 64,qS (pSig sd 1 1) 2,fun i=>qS (pSig sd 1 1) 2 (1+i),pLo ζ sd 1 1 2⟩:Sg)=S):
 out TL RL 2 (out TL RL 2 (pTr ζ sd 1 1 2++m2) 64++packed (tHi S 0 0) ((8380416:Int) / (2*95232)-1)) 32≠tSum S 0:=by
 have hmu:bys (out TL RL 2 (pTr ζ sd 1 1 2++m) 64)=bys S.mu:=by rw[←hS]
 have hms:bys (out TL RL 2 (pKey sd 1 1++z++S.mu) 64)=bys S.ms:=by rw[←hS]
 have h:=diff_is
 unfold diffS at h
 rw[←hsd,←hm,←hm2]at h
 obtain⟨A,s1,s2,T,hA,h1,h2,hT,h⟩:=key_is sd _ h
 rw[←bys_app,out_is 2 136 31 _ 64 rfl rfl,←bys_app,out_is 2 136 31 _ 64 rfl rfl,hmu,←hz,←List.append_assoc,←bys_app,←bys_app,out_is 2 136 31 _ 64 rfl rfl,hms,tw00,out_is 2 136 31 _ 576 rfl rfl,pkS_eq,Nat.zero_add,Nat.one_mul]at h
 obtain⟨Y,hY,e⟩:=mask_is (out TL RL 2 (tw S.ms 0 0) 576)
 rw[e]at h
 have hY2:Rep Y (tY S 0 0):=by
  have e3:S.a=131072∧S.ln=1:=by rw[←hS];exact⟨rfl,rfl⟩
  unfold tY qM
  rw[e3.1,e3.2,show (0*1+0)%256=0 from rfl,show (0*1+0) / 256=0 from rfl]
  unfold dM
  rw[mw_18]
  exact hY
 obtain⟨H,hH,e⟩:=there_is hY2
 rw[e]at h
 obtain⟨W,hW,e⟩:=prod_is hA hH
 rw[e]at h
 have hW2:Rep W (tW S 0 0):=by
  have e2:tW S 0 0=rowv ζ (qX (pRho sd 1 1) 0) (tY S 0) 1:=by rw[←hS];rfl
  rw[e2,row_one]
  exact hW
 obtain⟨U,hU,e⟩:=map_is hghN (hgh 95232) hW2 hgh_is (fun x _=>Nat.lt_trans (Nat.mod_lt _ (by decide)) (by decide : 44<4294967296))
 have hU2:Rep U (tHi S 0 0):=by
  have e2:tHi S 0 0=fun k=>hgh 95232 (tW S 0 0 k):=by rw[←hS];rfl
  rw[e2]
  exact hU
 have hsum:out TL RL 2 (S.mu++packed (tHi S 0 0) ((8380416:Int) / (2*95232)-1)) 32=tSum S 0:=by
  have e2:S.b=95232∧S.kn=1∧S.s=128:=by rw[←hS];exact⟨rfl,rfl,rfl⟩
  unfold tSum
  rw[e2.1,e2.2.1,e2.2.2]
  rfl
 rw[e,pack_is 6 ((8380416:Int) / (2*95232)-1) lb_43 hU2,←bys_app,out_is 2 136 31 _ 32 rfl rfl,hsum,←bys_app,out_is 2 136 31 _ 32 rfl rfl,beq_if]at h
 intro eq
 rw[eq,if_pos rfl]at h
 cases h
end Go.Proofs.YtomphjajkkddkaaGreatDoor.sigv
namespace Go.Proofs.YtomphjajkkddkaaGreatDoor.mlvm
open keca spok nttm nttp nttl polys fldm rndm rbitd samb saml rsdoc mlkm mlsm mlsb mlvb mlvd
open rbitc (bys)
def vHash (ζ : Nat→Int) (kn ln:Nat) (t b s:Int) (rho mu sum:ByteArray) (hi z h:Nat→Nat→Int):ByteArray:=
 out TL RL 2 (cat mu (fun i=>packed (fun k=>us b (h i k) ((rowv ζ (qX rho i) z ln k-one ζ (dB sum t) (fun k=>(hi i k*8192)%8380417) k)%8380417)) (8380416 / (2*b)-1)) kn) (s / 4).toNat
def vOk (ζ : Nat→Int) (kn ln:Nat) (e t a b s:Int) (rho mu sum:ByteArray) (hi z h:Nat→Nat→Int):Bool:=
 decide (cbs z ln<a-t*e) && decide (vHash ζ kn ln t b s rho mu sum hi z h=sum)
theorem packed_congr {f g:Nat→Int} (most:Int) (h:∀ k,k<256→f k=g k):packed f most=packed g most:=by
 have e:ns f=ns g:=by
  unfold ns
  exact List.map_congr_left fun i hi=>by rw[h i (List.mem_range.1 hi)]
 unfold packed
 rw[e]
theorem hash_made (S:Sg) (n tau:Nat) (ρ : Nat→Int) (hi:Nat→Nat→Int) (mu:ByteArray) (hz:Inv S.ζ) (hq:Sq S.ζ ρ) (hg:S.b=95232∨S.b=261888) (ht:S.t=(tau:Int)) (h64:tau≤64) (he : 0≤S.e∧S.e≤4)
 (hB:∀ i,i<S.kn→∀ k,k<256 → -S.e≤ce 8380417 (S.B i k)∧ce 8380417 (S.B i k)≤S.e)
 (hT:∀ i,i<S.kn→∀ k,k<256→((hi i k*8192)%8380417+S.C i k)%8380417=(rowv S.ζ (qX S.rho i) S.A S.ln k+S.B i k)%8380417)
 (hok:tOk S n=true):vHash S.ζ S.kn S.ln S.t S.b S.s S.rho mu (tSum S n) hi (tZ S n) (tHn S n)=out TL RL 2 (cat mu (fun i=>packed (tHi S n i) (8380416 / (2*S.b)-1)) S.kn) (S.s / 4).toNat:=by
 exact congrArg (fun x=>out TL RL 2 x (S.s / 4).toNat) (cat_congr mu S.kn fun i hi'=>packed_congr (8380416 / (2*S.b)-1) fun k hk=>back_high S n tau ρ hi hz hq hg ht h64 he i hi' (hB i hi') (hT i hi') hok k hk)
theorem taken (S:Sg) (n tau:Nat) (ρ : Nat→Int) (hi:Nat→Nat→Int) (hz:Inv S.ζ) (hq:Sq S.ζ ρ) (hg:S.b=95232∨S.b=261888) (ht:S.t=(tau:Int)) (h64:tau≤64) (he : 0≤S.e∧S.e≤4)
 (hB:∀ i,i<S.kn→∀ k,k<256 → -S.e≤ce 8380417 (S.B i k)∧ce 8380417 (S.B i k)≤S.e)
 (hT:∀ i,i<S.kn→∀ k,k<256→((hi i k*8192)%8380417+S.C i k)%8380417=(rowv S.ζ (qX S.rho i) S.A S.ln k+S.B i k)%8380417)
 (hok:tOk S n=true):vOk S.ζ S.kn S.ln S.e S.t S.a S.b S.s S.rho S.mu (tSum S n) hi (tZ S n) (tHn S n)=true:=by
 unfold vOk
 rw[decide_eq_true (tOk_of hok).1,hash_made S n tau ρ hi S.mu hz hq hg ht h64 he hB hT hok]
 exact decide_eq_true rfl
theorem made_B (sd:ByteArray) (kn ln:Nat) (e:Int) (he:e=2∨e=4) (i k:Nat) : -e≤ce 8380417 (qS (pSig sd kn ln) e (ln+i) k)∧ce 8380417 (qS (pSig sd kn ln) e (ln+i) k)≤e:=sma_bound _ e he k
theorem made_T (ζ : Nat→Int) (sd:ByteArray) (kn ln:Nat) (e:Int) (i k:Nat):((pHi ζ sd kn ln e i k*8192)%8380417+pLo ζ sd kn ln e i k)%8380417=(rowv ζ (qX (pRho sd kn ln) i) (qS (pSig sd kn ln) e) ln k+qS (pSig sd kn ln) e (ln+i) k)%8380417:=holds ζ sd kn ln e i k
theorem takes (ζ ρ : Nat→Int) (hz:Inv ζ) (hq:Sq ζ ρ) (sd m r:ByteArray) (kn ln tau:Nat) (e a b o s:Int) (he:e=2∨e=4) (hg:b=95232∨b=261888) (h64:tau≤64) (n:Nat)
 (S:Sg) (hS:S=sgn ζ kn ln e (tau:Int) a b o s (pHead ζ sd kn ln e) (qS (pSig sd kn ln) e) (fun i=>qS (pSig sd kn ln) e (ln+i)) (pLo ζ sd kn ln e) m r) (hok:tOk S n=true):
 vOk ζ kn ln e (tau:Int) a b s (pRho sd kn ln) (out TL RL 2 (pTr ζ sd kn ln e++m) 64) (tSum S n) (pHi ζ sd kn ln e) (tZ S n) (tHn S n)=true:=by
 rw[sgn_key]at hS
 subst hS
 exact taken _ n tau ρ (pHi ζ sd kn ln e) hz hq hg rfl h64 (by show 0≤e∧e≤4;omega) (fun i _ k _=>made_B sd kn ln e he i k) (fun i _ k _=>made_T ζ sd kn ln e i k) hok
theorem refused (ρ : Nat→Int) (hz:Inv tbf.ζ) (hq:Sq tbf.ζ ρ) (sd m m2 r:ByteArray) (hsd:bys sd=sigf.seed32) (hm:bys m=[0,1,99,97,98,99]) (hm2:bys m2=[0,1,99,97,98,100]) (hr:bys r=List.replicate 32 0)
 (S:Sg) (hS:S=sgn tbf.ζ 1 1 2 20 131072 95232 60 128 (pHead tbf.ζ sd 1 1 2) (qS (pSig sd 1 1) 2) (fun i=>qS (pSig sd 1 1) 2 (1+i)) (pLo tbf.ζ sd 1 1 2) m r):
 vOk tbf.ζ 1 1 2 20 131072 95232 128 (pRho sd 1 1) (out TL RL 2 (pTr tbf.ζ sd 1 1 2++m2) 64) (tSum S 0) (pHi tbf.ζ sd 1 1 2) (tZ S 0) (tHn S 0)=false:=by
 have hok:tOk S 0=true:=by rw[hS];exact sign_awake sd m r hsd hm hr
 rw[sgn_key]at hS
 have h1:=sigv.other sd m m2 r hsd hm hm2 hr S hS.symm
 have h2:vHash tbf.ζ 1 1 20 95232 128 (pRho sd 1 1) (out TL RL 2 (pTr tbf.ζ sd 1 1 2++m2) 64) (tSum S 0) (pHi tbf.ζ sd 1 1 2) (tZ S 0) (tHn S 0)=out TL RL 2 (out TL RL 2 (pTr tbf.ζ sd 1 1 2++m2) 64++packed (tHi S 0 0) ((8380416:Int) / (2*95232)-1)) 32:=by
  have h3:=fun mu=>hash_made S 0 20 ρ (pHi tbf.ζ sd 1 1 2) mu (by rw[hS];exact hz) (by rw[hS];exact hq) (by rw[hS];exact Or.inl rfl) (by rw[hS];rfl) (by decide) (by rw[hS];exact⟨(by decide:(0:Int)≤2),(by decide:(2:Int)≤4)⟩) (by rw[hS];exact fun i _ k _=>made_B sd 1 1 2 (Or.inl rfl) i k) (by rw[hS];exact fun i _ k _=>made_T tbf.ζ sd 1 1 2 i k) hok
  have e:S.ζ = tbf.ζ ∧ S.kn=1∧S.ln=1∧S.t=20∧S.b=95232∧S.s=128∧S.rho=pRho sd 1 1:=by rw[hS];exact⟨rfl,rfl,rfl,rfl,rfl,rfl,rfl⟩
  rw[e.1,e.2.1,e.2.2.1,e.2.2.2.1,e.2.2.2.2.1,e.2.2.2.2.2.1,e.2.2.2.2.2.2]at h3
  exact h3 _
 unfold vOk
 rw[h2,decide_eq_false h1,Bool.and_false]
end Go.Proofs.YtomphjajkkddkaaGreatDoor.mlvm
namespace Go.Proofs.YtomphjajkkddkaaGreatDoor
namespace hinm
open Go Go.RowKit
open arr mem polys rbitb rbitc rbith rbitu
theorem getD_set (L:List Nat) (i v j:Nat):(L.set i v).getD j 0=if i=j∧i<L.length then v else L.getD j 0:=by
 simp only[List.getD_eq_getElem?_getD,List.getElem?_set]
 by_cases h:i=j
 ·subst h
  by_cases h2:i<L.length
  ·simp[h2]
  ·simp[h2]
 ·simp[h]
theorem cnt_lt (f:Nat→Int) {k k':Nat} (h:f k≠0) (hk:k<k'):cnt f k+1≤cnt f k':=by
 have:=cnt_mono f (k+1) k' hk
 rw[cnt,if_neg h]at this
 exact this
theorem put_at (f:Nat→Int) (n:Nat) (S:List Nat) (k:Nat) (hS:n+cnt f k≤S.length):
 (∀ x,x<k→f x≠0→(put f n S k).getD (n+cnt f x) 0=x)∧∀ j,(j<n∨n+cnt f k≤j)→(put f n S k).getD j 0=S.getD j 0:=by
 induction k with
 | zero=>exact⟨fun x hx=>by omega,fun j _=>rfl⟩
 | succ k ih=>
  rw[cnt]at hS ⊢
  by_cases hf:f k=0
  ·rw[if_pos hf,Nat.add_zero]at hS ⊢
   obtain⟨h1,h2⟩:=ih hS
   rw[put,if_pos hf]
   refine⟨fun x hx hx0=>h1 x ?_ hx0,h2⟩
   rcases Nat.lt_or_ge x k with h | h
   ·exact h
   ·exact absurd (show f x=0 by rw[show x=k by omega];exact hf) hx0
  ·rw[if_neg hf]at hS ⊢
   obtain⟨h1,h2⟩:=ih (by omega)
   rw[put,if_neg hf]
   refine⟨fun x hx hx0=>?_,fun j hj=>?_⟩
   ·rw[getD_set]
    by_cases e:x=k
    ·subst e
     rw[if_pos ⟨rfl,by rw[put_length];omega⟩]
    ·have:=cnt_lt f hx0 (show x<k by omega)
     rw[if_neg (by omega)]
     exact h1 x (by omega) hx0
   ·rw[getD_set,if_neg (by omega)]
    exact h2 j (by omega)
theorem lay_at (q:Nat→Nat→Int) (om m i:Nat) (hi:i≤m) (ht:tot q i≤om):
 (∀ a,a<i→(lay q om m i).getD (om+a) 0=tot q (a+1)) ∧
 (∀ a,a<i→∀ x,x<256→q a x≠0→(lay q om m i).getD (tot q a+cnt (q a) x) 0=x) ∧
 ∀ j,tot q i≤j→j<om→(lay q om m i).getD j 0=0:=by
 induction i with
 | zero=>
  refine⟨fun a h=>by omega,fun a h=>by omega,fun j _ hj=>?_⟩
  rw[lay,List.getD_eq_getElem?_getD,List.getElem?_replicate,if_pos (by omega)]
  rfl
 | succ i ih=>
  have ht2:tot q i+cnt (q i) 256≤om:=ht
  obtain⟨h1,h2,h3⟩:=ih (by omega) (by omega)
  obtain⟨p1,p2⟩:=put_at (q i) (tot q i) (lay q om m i) 256 (by rw[lay_length];omega)
  refine⟨fun a ha=>?_,fun a ha x hx hx0=>?_,fun j hj1 hj2=>?_⟩
  ·rw[lay,getD_set]
   by_cases e:a=i
   ·subst e
    rw[if_pos ⟨rfl,by rw[put_length,lay_length];omega⟩]
   ·rw[if_neg (by omega),p2 _ (Or.inr (by omega))]
    exact h1 a (by omega)
  ·rw[lay,getD_set]
   by_cases e:a=i
   ·subst e
    have:=cnt_lt (q a) hx0 (show x<256 by omega)
    rw[if_neg (by omega)]
    exact p1 x hx hx0
   ·have h4:=tot_mono q (a+1) i (by omega)
    have h5:=cnt_lt (q a) hx0 (show x<256 by omega)
    have h6:tot q (a+1)=tot q a+cnt (q a) 256:=rfl
    rw[if_neg (by omega),p2 _ (Or.inl (by omega))]
    exact h2 a (by omega) x hx hx0
  ·have hj1':tot q i+cnt (q i) 256≤j:=hj1
   rw[lay,getD_set,if_neg (by omega),p2 _ (Or.inr hj1')]
   exact h3 j (by omega) hj2
theorem cnt_hit (f:Nat→Int) (K r:Nat) (h:r<cnt f K):∃ x,x<K∧f x≠0∧cnt f x=r:=by
 induction K with
 | zero=>simp[cnt]at h
 | succ K ih=>
  rw[cnt]at h
  by_cases hf:f K=0
  ·rw[if_pos hf]at h
   obtain⟨x,h1,h2⟩:=ih h
   exact⟨x,by omega,h2⟩
  ·rw[if_neg hf]at h
   by_cases hr:r<cnt f K
   ·obtain⟨x,h1,h2⟩:=ih hr
    exact⟨x,by omega,h2⟩
   ·exact⟨K,by omega,hf,by omega⟩
theorem mk_is (β : Nat→Nat) (a t x:Nat):(mk β a t x=1∧∃ j,j<t ∧ β (a+j)=x)∨(mk β a t x=0∧∀ j,j<t → β (a+j)≠x):=by
 induction t with
 | zero=>exact Or.inr ⟨rfl,fun j h=>by omega⟩
 | succ t ih=>
  rw[mk]
  unfold upd
  by_cases e:x = β (a+t)
  ·rw[if_pos e]
   exact Or.inl ⟨rfl,t,by omega,e.symm⟩
  ·rw[if_neg e]
   rcases ih with ⟨h1,j,h2,h3⟩ | ⟨h1,h2⟩
   ·exact Or.inl ⟨h1,j,by omega,h3⟩
   ·refine Or.inr ⟨h1,fun j hj=>?_⟩
    by_cases ej:j=t
    ·subst ej;exact fun h=>e h.symm
    ·exact h2 j (by omega)
section
variable (q:Nat→Nat→Int) (om m:Nat) (ht:tot q m≤om)
include ht
theorem fr_lay (i:Nat) (hi:i≤m):fr (fun j=>(lay q om m m).getD j 0) om i=tot q i:=by
 cases i with
 | zero=>rfl
 | succ i=>exact(lay_at q om m m (Nat.le_refl _) ht).1 i (by omega)
theorem uok_lay:uok (fun j=>(lay q om m m).getD j 0) om m:=by
 obtain⟨h1,h2,h3⟩:=lay_at q om m m (Nat.le_refl _) ht
 refine⟨fun i hi=>?_,fun k hk1 hk2=>?_⟩
 ·unfold one
  rw[fr_lay q om m ht i (by omega),fr_lay q om m ht (i+1) (by omega)]
  have e:tot q (i+1)=tot q i+cnt (q i) 256:=rfl
  have hm:=tot_mono q (i+1) m (by omega)
  refine⟨by omega,by omega,fun k hk1 hk2=>?_⟩
  obtain⟨x,x1,x2,x3⟩:=cnt_hit (q i) 256 (k-tot q i) (by omega)
  obtain⟨y,y1,y2,y3⟩:=cnt_hit (q i) 256 (k-1-tot q i) (by omega)
  have e1:=h2 i hi x x1 x2
  have e2:=h2 i hi y y1 y2
  rw[x3,show tot q i+(k-tot q i)=k by omega]at e1
  rw[y3,show tot q i+(k-1-tot q i)=k-1 by omega]at e2
  show (lay q om m m).getD (k-1) 0<(lay q om m m).getD k 0
  rw[e1,e2]
  rcases Nat.lt_or_ge y x with h | h
  ·exact h
  ·have:=cnt_mono (q i) x y h
   omega
 ·rw[fr_lay q om m ht m (Nat.le_refl _)]at hk1
  exact h3 k hk1 hk2
theorem ply_lay (i:Nat) (hi:i<m) (x:Nat) (hx:x<256):ply (fun j=>(lay q om m m).getD j 0) om i x=if q i x=0 then 0 else 1:=by
 obtain⟨h1,h2,h3⟩:=lay_at q om m m (Nat.le_refl _) ht
 unfold ply
 rw[fr_lay q om m ht i (by omega),fr_lay q om m ht (i+1) (by omega)]
 have e:tot q (i+1)=tot q i+cnt (q i) 256:=rfl
 rw[show tot q (i+1)-tot q i=cnt (q i) 256 by omega]
 rcases mk_is (fun j=>(lay q om m m).getD j 0) (tot q i) (cnt (q i) 256) x with ⟨g1,j,g2,g3⟩ | ⟨g1,g2⟩
 ·rw[g1,if_neg]
  intro hq
  obtain⟨y,y1,y2,y3⟩:=cnt_hit (q i) 256 j g2
  have e1:=h2 i hi y y1 y2
  rw[y3]at e1
  have e2:y=x:=e1.symm.trans g3
  rw[e2]at y2
  exact y2 hq
 ·rw[g1]
  by_cases hq:q i x=0
  ·rw[if_pos hq]
  ·exact absurd (h2 i hi x hx hq) (g2 _ (by have:=cnt_lt (q i) hq hx;omega))
end
section
variable (β : Nat→Nat) (om m:Nat) (hu:uok β om m) (h8:∀ j,β j<256)
include hu h8
omit h8 in
omit hu h8 in
end
end hinm
end Go.Proofs.YtomphjajkkddkaaGreatDoor
namespace Go.Proofs.YtomphjajkkddkaaGreatDoor.mlvp
open arr keca spok polys fldm rndm rbitb rbitd rbite rbitg rbith rbitu bitp samb saml rsdoc mlkm mlkb mlsm mlsb kkey pols
open rbitc (bys bys_length)
def front (S:Sg) (n:Nat):ByteArray:=laidS (tSum S n) (tZ S n) (S.a-1) S.a S.ln
def hintB (S:Sg) (n:Nat):ByteArray:=⟨(u8s (lay (tHn S n) S.o.toNat S.kn S.kn)).toArray⟩
theorem sig_is (S:Sg) (n:Nat):tSig S n=front S n++hintB S n:=rfl
theorem front_size (S:Sg) (n:Nat) (ha:S.a=131072∨S.a=524288):(front S n).size=(S.s / 4).toNat+32*mw S.a*S.ln:=by
 unfold front
 rw[laidS_size,tSum_size,(mw_two S.a ha).1]
theorem hintB_size (S:Sg) (n:Nat):(hintB S n).size=S.o.toNat+S.kn:=by
 show (u8s _).toArray.size=_
 rw[List.size_toArray,u8s,List.length_map,lay_length]
theorem sig_sum (S:Sg) (n:Nat) (ha:S.a=131072∨S.a=524288):(tSig S n).extract 0 (S.s / 4).toNat=tSum S n:=by
 rw[sig_is,ext_app _ _ _ (by rw[front_size S n ha];omega)]
 unfold front laidS
 rw[mlkb.ext_left _ _ _ _ _ (by rw[tSum_size];omega)]
 exact ext_all _ _ (tSum_size S n)
theorem sig_z (S:Sg) (n:Nat) (ha:S.a=131072∨S.a=524288) (ht : 1≤S.t) (he : 1≤S.e) (hok:tOk S n=true) (i:Nat) (hi:i<S.ln) (k:Nat) (hk:k<256):
 rdS (tSig S n) (S.s / 4).toNat (mw S.a) S.a i k=tZ S n i k:=by
 have h1:=rd_laid (tSum S n) (tZ S n) (S.a-1) S.a S.ln i (by omega) hi (tZ_in hok ht he i hi) (fun k=>by unfold tZ;omega) k hk
 rw[tSum_size,(mw_two S.a ha).1]at h1
 have h2:=rd_left (front S n) (fun _=>hintB S n) 1 (S.s / 4).toNat (mw S.a) i S.ln hi (by rw[front_size S n ha];omega)
 have h3:cat (front S n) (fun _=>hintB S n) 1=tSig S n:=rfl
 rw[h3]at h2
 unfold rdS at h1 ⊢
 rw[h2]
 exact h1
theorem sig_h (S:Sg) (n:Nat) (ha:S.a=131072∨S.a=524288) (j:Nat) (hj:j=(S.s / 4).toNat+32*mw S.a*S.ln):(tSig S n).extract j (tSig S n).size=hintB S n:=by
 subst hj
 rw[sig_is,ByteArray.size_append,ByteArray.extract_append,front_size S n ha,Nat.sub_self,Nat.add_sub_cancel_left,ext_all _ _ rfl,ext_end _ _ _ (by rw[front_size S n ha];exact Nat.le_refl _),ByteArray.empty_append]
theorem hint_bys (S:Sg) (n:Nat) (ho:S.o≤255) (hok:tOk S n=true):bys (hintB S n)=lay (tHn S n) S.o.toNat S.kn S.kn:=by
 have h:=(tOk_of hok).2.2.2
 exact bys_u8s _ (lay_lt (tHn S n) S.o.toNat S.kn S.kn (by omega))
theorem hint_ok (S:Sg) (n:Nat) (h0 : 0≤S.o) (ho:S.o≤255) (hok:tOk S n=true):uok (fun j=>(bys (hintB S n)).getD j 0) S.o.toNat S.kn∧∀ i,i<S.kn→∀ k,k<256→ply (fun j=>(bys (hintB S n)).getD j 0) S.o.toNat i k=tHn S n i k:=by
 have h:=(tOk_of hok).2.2.2
 have ht:tot (tHn S n) S.kn≤S.o.toNat:=by omega
 rw[hint_bys S n ho hok]
 refine⟨hinm.uok_lay (tHn S n) S.o.toNat S.kn ht,fun i hi k hk=>?_⟩
 rw[hinm.ply_lay (tHn S n) S.o.toNat S.kn ht i hi k hk]
 rcases hn_01 S.b ((0-tCl S n i k)%8380417) ((tV S n i k+tCl S n i k)%8380417) with e | e
 ·have e2:tHn S n i k=0:=e
  rw[if_pos e2,e2]
 ·have e2:tHn S n i k=1:=e
  rw[if_neg (by omega),e2]
end Go.Proofs.YtomphjajkkddkaaGreatDoor.mlvp
namespace Go.Proofs.YtomphjajkkddkaaGreatDoor.mlvr
open Go Go.RowKit
open arr polys pols keca spok rndm rbita rbitb rbitd rbitg rbitu samb saml samm rsdoc mlkm mlkb mlkd mlsm mlsb mlvm mlvp kkey
open rbitc (bys)
open rksz (latt_all)
def hAt (ln:Nat) (a s:Int):Nat:=(s / 4).toNat+32*mw a*ln
def szV (kn ln:Nat) (a o s:Int):Nat:=hAt ln a s+(o.toNat+kn)
def bV (x:ByteArray) (ln:Nat) (a s:Int):Nat→Nat:=fun j=>(bys (x.extract (hAt ln a s) x.size)).getD j 0
def okV (x:ByteArray) (kn ln:Nat) (a o s:Int):Prop:=x.size=szV kn ln a o s∧uok (bV x ln a s) o.toNat kn
def vS (x:ByteArray) (s:Int):ByteArray:=x.extract 0 (s / 4).toNat
def vZ (x:ByteArray) (a s:Int):Nat→Nat→Int:=rdS x (s / 4).toNat (mw a) a
def vH (x:ByteArray) (ln:Nat) (a o s:Int):Nat→Nat→Int:=ply (bV x ln a s) o.toNat
def PV (w:World) (B:Nat) (x:ByteArray) (kn ln:Nat) (a o s:Int) (v:Value):Prop:=
 (okV x kn ln a o s∧∃ v1 v2,v=.tuple #[.string (vS x s),v1,v2,.int .i64 0]∧Holds w B v1 ln (vZ x a s)∧Holds w B v2 kn (vH x ln a o s))
 ∨ (¬ okV x kn ln a o s∧v=.tuple #[.string ⟨#[]⟩,.slice none 0 0,.slice none 0 0,.int .i64 3])
theorem sz_is {kn ln:Nat} {e t a b o s:Int} (h:latt (kn:Int) (ln:Int) e t a b o s=true):sz3 kn ln a o s=((szV kn ln a o s:Nat):Int):=by
 obtain⟨-,-,-,-,ho,hs⟩:=latt_all h
 have e1 : 32*(((lb (a-1).toNat:Nat):Int)+1)*(ln:Int)=((32*mw a*ln:Nat):Int):=by unfold mw;push_cast;rfl
 unfold sz3 szV hAt
 rw[e1]
 omega
open Classical in
noncomputable def resV (ζ : Nat→Int) (kn ln:Nat) (e t a b o s:Int) (pk m x:ByteArray):Value:=
 if pk.size=32+320*kn∧okV x kn ln a o s then .tuple #[.bool (vOk ζ kn ln e t a b s (pk.extract 0 32) (out TL RL 2 (out TL RL 2 pk 64++m) 64) (vS x s) (rdU pk 32 10) (vZ x a s) (vH x ln a o s)),.int .i64 0]
 else .tuple #[.bool false,.int .i64 3]
noncomputable def resY (ζ : Nat→Int) (kn ln:Nat) (e t a b o s:Int) (pk m c x:ByteArray):Value:=
 if c.size≤255∧m.size≤60000 then resV ζ kn ln e t a b o s pk (msg c m) x else .tuple #[.bool false,.int .i64 5]
theorem resV_two (ζ : Nat→Int) (kn ln:Nat) (e t a b o s:Int) (pk m x:ByteArray):∃ (y:Bool) (c:Int),resV ζ kn ln e t a b o s pk m x=.tuple #[.bool y,.int .i64 c]:=by
 unfold resV
 split<;>exact⟨_,_,rfl⟩
theorem made_ok (S:Sg) (n:Nat) (ha:S.a=131072∨S.a=524288) (h0 : 0≤S.o) (ho:S.o≤255) (hok:tOk S n=true):okV (tSig S n) S.kn S.ln S.a S.o S.s:=by
 have hz:(tSig S n).size=szV S.kn S.ln S.a S.o S.s:=by rw[sig_is,ByteArray.size_append,front_size S n ha,hintB_size];rfl
 refine⟨hz,?_⟩
 unfold bV
 rw[sig_h S n ha (hAt S.ln S.a S.s) rfl]
 exact(hint_ok S n h0 ho hok).1
theorem made_parts {w:World} {B:Nat} {v:Value} (S:Sg) (n:Nat) (ha:S.a=131072∨S.a=524288) (ht : 1≤S.t) (he : 1≤S.e) (h0 : 0≤S.o) (ho:S.o≤255) (hok:tOk S n=true) (h:PV w B (tSig S n) S.kn S.ln S.a S.o S.s v):
 ∃ v1 v2,v=.tuple #[.string (tSum S n),v1,v2,.int .i64 0]∧Holds w B v1 S.ln (tZ S n)∧Holds w B v2 S.kn (tHn S n):=by
 rcases h with ⟨-,v1,v2,rfl,h1,h2⟩ | ⟨h1,-⟩
 ·refine⟨v1,v2,by unfold vS;rw[sig_sum S n ha],holds_congr h1 fun i hi k hk=>sig_z S n ha ht he hok i hi k hk,holds_congr h2 fun i hi k hk=>?_⟩
  have h3:=(hint_ok S n h0 ho hok).2 i hi k hk
  unfold vH bV
  rw[sig_h S n ha (hAt S.ln S.a S.s) rfl]
  exact h3
 ·exact absurd (made_ok S n ha h0 ho hok) h1
theorem hints_no {x:ByteArray} {kn ln:Nat} {a o s:Int} (hk : 1≤kn) (h0:bV x ln a s 0=5) (h1:bV x ln a s 1=5) (h2:bV x ln a s o.toNat=2):¬ okV x kn ln a o s:=by
 rintro ⟨-,h,-⟩
 have h3:=h 0 (by omega)
 unfold rbitu.one at h3
 have e0:fr (bV x ln a s) o.toNat 0=0:=rfl
 have e1:fr (bV x ln a s) o.toNat (0+1)=2:=h2
 rw[e0,e1]at h3
 have h4:=h3.2.2 1 (by omega) (by omega)
 rw[show 1-1=0 from rfl,h0,h1]at h4
 omega
end Go.Proofs.YtomphjajkkddkaaGreatDoor.mlvr
namespace Go.Proofs.YtomphjajkkddkaaGreatDoor
namespace shelfc
open Go.Shelf
def lays316_ren:Go.Shelf.Ren:=⟨fun | 316=>107 | n=>n,fun | 0=>0 | 3=>3 | 4=>4 | 5=>5 | 9=>9 | 37=>57 | 127=>160 | n=>n,fun | n=>n⟩
theorem lays316:Go.Proofs.LaysM.n316 Tryz.prog lays316_ren:={
 mixed:=by kernel_rfl
 f316:=Tryz.func107.trans (congrArg some (by kernel_rfl))
 t0:=Tryz.underlying0
 a0:=Tryz.isAgg0
 z0:=Tryz.sizeOf0
 v0:=Tryz.zeroValue0
 t3:=Tryz.underlying3
 a3:=Tryz.isAgg3
 z3:=Tryz.sizeOf3
 v3:=Tryz.zeroValue3
 t4:=Tryz.underlying4
 a4:=Tryz.isAgg4
 z4:=Tryz.sizeOf4
 v4:=Tryz.zeroValue4
 t9:=Tryz.underlying9
 a9:=Tryz.isAgg9
 z9:=Tryz.sizeOf9
 v9:=Tryz.zeroValue9
 t37:=Tryz.underlying57
 a37:=Tryz.isAgg57
 z37:=Tryz.sizeOf57
 v37:=Tryz.zeroValue57
 t127:=Tryz.underlying160
 a127:=Tryz.isAgg160
 z127:=Tryz.sizeOf160
 v127:=Tryz.zeroValue160
 t5:=Tryz.underlying5
 a5:=Tryz.isAgg5
 z5:=Tryz.sizeOf5
 v5:=Tryz.zeroValue5
 i0:=by kernel_rfl
 i3:=by kernel_rfl
 i4:=by kernel_rfl
 i5:=by kernel_rfl
 i9:=by kernel_rfl
 i37:=by kernel_rfl
 i127:=by kernel_rfl }
open Go.RowKit in
theorem clone (s:ByteArray) (w:World) (hlim:s.size≤281474976710656):
 Calls Tryz.prog 107 #[.string s] w fun e w'=>e=.returned (.string s)∧Below w.heap.size w w':=Any.stringslite_Clone lays316 s w hlim
end shelfc
namespace pcut
open Go.RowKit
open oct arr
theorem cut_bytes (s:ByteArray) (m n:Nat) (h:m=min n s.size):s.extract 0 m=⟨(s.data.toList.take n).toArray⟩:=by
 subst h
 apply ByteArray.ext
 apply Array.toList_inj.1
 have hs:s.data.toList.length=s.size:=rfl
 have h1:(s.extract 0 (min n s.size)).data.toList=s.data.toList.take (min n s.size):=by simp
 have h2:min n s.size=min n s.data.toList.length:=rfl
 rw[h1,h2,←List.take_eq_take_min]
theorem sclone (x:ByteArray) (w:World) (h:x.size≤281474976710656):Calls Tryz.prog 51 #[.string x] w fun e w'=>e=.returned (.string x)∧Below w.heap.size w w':=by
 have H:=Away.mk (fun w1:World=>shelfc.clone x w1 h)
 clear h
 go_enter Tryz.func51,Tryz.ntmps51
 go_wp2_with fail
 refine(H.out _).mono ?_
 rintro e w1 ⟨rfl,hb⟩
 go_wp2_with fail
 go_ret
 exact⟨rfl,hb⟩
theorem cut_any (s:ByteArray) (n:Int) (w:World) (hs:s.size≤140737488355328):
 Calls Tryz.prog 76 #[.string s,.int .i64 n] w fun e w'=>e=.returned (.string ⟨(s.data.toList.take n.toNat).toArray⟩)∧Below w.heap.size w w':=by
 have hc:=cut_bytes s _ n.toNat rfl
 rw[←hc]
 clear hc
 obtain⟨m,hm⟩:∃ m,min n.toNat s.size=m:=⟨_,rfl⟩
 have h1:min (max n 0) (s.size:Int)=(m:Int):=by omega
 have h2:min (s.size:Int) (max n 0)=(m:Int):=by omega
 have h3:m≤s.size:=by omega
 rw[hm]
 have Hcl:=Away.mk (fun w1:World=>sclone (s.extract 0 m) w1 (by rw[ByteArray.size_extract];omega))
 clear hm
 go_enter Tryz.func76,Tryz.ntmps76
 go_wp2_with fail
 refine(Hcl.out _).mono ?_
 rintro e w1 ⟨rfl,hb⟩
 go_wp2_with fail
 go_ret
 exact⟨rfl,hb⟩
end pcut
end Go.Proofs.YtomphjajkkddkaaGreatDoor
