/-
  Plain facts on the number-theoretic transform by layers: a product modulo X^n - r parts into product
-/
import Derived.Test.YtomphjajkkddkaaGreatDoorZs02
import Derived.Test.YtomphjajkkddkaaGreatDoorZs08
import Derived.Test.YtomphjajkkddkaaGreatDoorZs01
import Derived.Test.YtomphjajkkddkaaGreatDoorZs05
import Derived.Test.YtomphjajkkddkaaGreatDoorProg
import Derived.Test.YtomphjajkkddkaaGreatDoorZs04
set_option maxRecDepth 100000
set_option maxHeartbeats 16000000
set_option linter.unusedSimpArgs false
set_option linter.unusedVariables false
open Go Go.RowKit
open Go renaming World->G,Calls->aD,Value->aE,TypeId->aH,Program->aI
open Go.RowKit renaming intOf->aG
open Go.Region renaming wanted->aL
open Go.Value renaming int->O,agg->I,string->E,tuple->aA,slice->aB,pointer->aC
open Go.IntKind renaming i64->J
open Go.Obj renaming cells->Y
open Go.Proofs.Tryz renaming prog->aO
namespace Go.Proofs.YtomphjajkkddkaaGreatDoor
abbrev nC:=@Go.wp_load_row
namespace nttm
def Cg(a b:Int):Prop:=(a-b)%8380417=0
theorem eY(a:Int):Cg a a:=by unfold Cg;omega
theorem xib{a b:Int}(h:Cg a b):Cg b a:=by unfold Cg at *;omega
theorem xbt{a b c:Int}(h:Cg a b)(k:Cg b c):Cg a c:=by unfold Cg at *;omega
theorem xc0{a b c d:Int}(h:Cg a b)(k:Cg c d):Cg (a+c) (b+d):=by unfold Cg at *;omega
theorem xn7{a b c d:Int}(h:Cg a b)(k:Cg c d):Cg (a-c) (b-d):=by unfold Cg at *;omega
theorem xbi{a b c d:Int}(h:Cg a b)(k:Cg c d):Cg (a*c) (b*d):=by
 unfold Cg at *;have e:a*c-b*d=(a-b)*c+b*(c-d):=by rw[Int.sub_mul,Int.mul_sub];omega
 rw[e,Int.add_emod,nE,h,nE b,k];simp
theorem xfl(a:Int):Cg (a%8380417) a:=by unfold Cg;omega
theorem cg_eq{a b:Int}(h:Cg a b):a%8380417=b%8380417:=by unfold Cg at h;omega
theorem eq_cg{a b:Int}(h:a%8380417=b%8380417):Cg a b:=by unfold Cg;omega
def sm(f:Nat->Int):Nat->Int
 | 0=>0
 | n+1=>sm f n+f n
theorem xrs{f g:Nat->Int}(n:Nat)(h:∀ i,i<n->f i=g i):sm f n=sm g n:=by
 induction n with
 | zero=>rfl
 | succ n ih=>rw[sm,sm,ih (fun i hi=>h i (by omega)),h n (by omega)]
theorem sm_cg{f g:Nat->Int}(n:Nat)(h:∀ i,i<n->Cg (f i) (g i)):Cg (sm f n) (sm g n):=by
 induction n with
 | zero=>exact eY _
 | succ n ih=>exact xc0 (ih (fun i hi=>h i (by omega))) (h n (by omega))
theorem xrr(f g:Nat->Int)(n:Nat):sm (fun i=>f i+g i) n=sm f n+sm g n:=by
 induction n with
 | zero=>rfl
 | succ n ih=>simp only[sm,ih];omega
theorem sm_mul(c:Int)(f:Nat->Int)(n:Nat):sm (fun i=>c*f i) n=c*sm f n:=by
 induction n with
 | zero=>simp[sm]
 | succ n ih=>simp only[sm,ih,mQ]
theorem xy0(f:Nat->Int)(n m:Nat):sm f (n+m)=sm f n+sm (fun i=>f (n+i)) m:=by
 induction m with
 | zero=>simp[sm]
 | succ m ih=>rw[<-lX,sm,ih,sm];omega
def sh(n:Nat)(r:Int)(b:Nat->Int):Nat->Int:=fun j=>if j=0 then r*b (n-1) else b (j-1)
def shi(n:Nat)(r:Int)(b:Nat->Int):Nat->Nat->Int
 | 0=>b
 | i+1=>sh n r (shi n r b i)
def mul(n:Nat)(r:Int)(a b:Nat->Int):Nat->Int:=fun j=>sm (fun i=>a i*shi n r b i j) n
def half(s:Nat)(z:Int)(f:Nat->Int):Nat->Int:=fun j=>f j+z*f (j+s)
theorem xyq{n:Nat}(r:Int){b c:Nat->Int}(h:∀ j,j<n->b j=c j)(j:Nat)(hj:j<n):sh n r b j=sh n r c j:=by
 unfold sh;split
 ·rw[h (n-1) (by omega)]
 ·exact h _ (by omega)
theorem sh_cg{n:Nat}{r r':Int}(hr:Cg r r'){b c:Nat->Int}(h:∀ j,j<n->Cg (b j) (c j))(j:Nat)(hj:j<n):Cg (sh n r b j) (sh n r' c j):=by
 unfold sh;split
 ·exact xbi hr (h (n-1) (by omega))
 ·exact h _ (by omega)
theorem shi_cg{n:Nat}{r r':Int}(hr:Cg r r'){b c:Nat->Int}(h:∀ j,j<n->Cg (b j) (c j))(i:Nat):∀ j,j<n->Cg (shi n r b i j) (shi n r' c i j):=by
 induction i with
 | zero=>exact h
 | succ i ih=>exact fun j hj=>sh_cg hr ih j hj
theorem xd4{n:Nat}{r r':Int}(hr:Cg r r'){a a' b b':Nat->Int}(ha:∀ j,j<n->Cg (a j) (a' j))(hb:∀ j,j<n->Cg (b j) (b' j))(j:Nat)(hj:j<n):Cg (mul n r a b j) (mul n r' a' b' j):=
 sm_cg n fun i hi=>xbi (ha i hi) (shi_cg hr hb i j hj)
theorem xuo(s:Nat)(z:Int)(b:Nat->Int)(hs : 0<s)(j:Nat):half s z (sh (2*s) (z*z) b) j=sh s z (half s z b) j:=by
 unfold half sh;by_cases h:j=0
 ·subst h;rw[iP rfl,iP rfl,iQ (by omega),show 0+s-1=s-1 by omega];show z*z*b (2*s-1)+z*b (s-1)=z*(b (s-1)+z*b (s-1+s));rw[show s-1+s=2*s-1 by omega,mQ,oD];omega
 ·rw[iQ h,iQ h,iQ (by omega),show j+s-1=j-1+s by omega]
theorem xup(s:Nat)(z:Int)(b:Nat->Int)(hs : 0<s)(i:Nat):∀ j,j<s->half s z (shi (2*s) (z*z) b i) j=shi s z (half s z b) i j:=by
 induction i with
 | zero=>intro j _;rfl
 | succ i ih=>
  intro j hj;rw[shi,xuo s z _ hs,shi];exact xyq z ih j hj
theorem xys(n:Nat)(r:Int)(b:Nat->Int)(i k:Nat):shi n r b (i+k)=shi n r (shi n r b k) i:=by
 induction i with
 | zero=>rw[kP];rfl
 | succ i ih=>rw[Nat.succ_add,shi,ih];rfl
theorem xrj(n:Nat)(r:Int)(b:Nat->Int)(i:Nat)(hi:i<=n):∀ j,j<n->shi n r b i j=if j<i then r*b (j+n-i) else b (j-i):=by
 induction i with
 | zero=>intro j _;rw[iQ (by omega)];rfl
 | succ i ih=>
  intro j hj;rw[shi];unfold sh;by_cases h:j=0
  ·subst h;rw[iP rfl,iP (by omega),ih (by omega) (n-1) (by omega),iQ (by omega),show n-1-i=0+n-(i+1) by omega]
  ·rw[iQ h,ih (by omega) (j-1) (by omega)];by_cases h2:j<i+1
   ·rw[iP (by omega),iP h2,show j-1+n-i=j+n-(i+1) by omega]
   ·rw[iQ (by omega),iQ h2,show j-1-i=j-(i+1) by omega]
theorem xyt(s:Nat)(z:Int)(b:Nat->Int)(j:Nat)(hj:j<s):shi s z b s j=z*b j:=by
 rw[xrj s z b s (iM _) j hj,iP hj,oH]
theorem xyu(s:Nat)(z:Int)(b c:Nat->Int)(h:∀ j,j<s->b j=z*c j)(i:Nat):∀ j,j<s->shi s z b i j=z*shi s z c i j:=by
 induction i with
 | zero=>exact h
 | succ i ih=>
  intro j hj;rw[shi,shi];unfold sh;split
  ·rw[ih (s-1) (by omega)]
  ·exact ih _ (by omega)
theorem xoi(s:Nat)(z:Int)(a b:Nat->Int)(hs : 0<s)(j:Nat)(hj:j<s):half s z (mul (2*s) (z*z) a b) j=mul s z (half s z a) (half s z b) j:=by
 have e1:half s z (mul (2*s) (z*z) a b) j=sm (fun i=>a i*shi s z (half s z b) i j) (2*s):=by
  show mul (2*s) (z*z) a b j+z*mul (2*s) (z*z) a b (j+s)=_;unfold mul;rw[<-sm_mul,<-xrr];refine xrs _ fun i _=>?_
  rw[<-xup s z b hs i j hj];show a i*shi (2*s) (z*z) b i j+z*(a i*shi (2*s) (z*z) b i (j+s))=a i*(shi (2*s) (z*z) b i j+z*shi (2*s) (z*z) b i (j+s));rw[mQ,<-oD,<-oD,oQ z (a i)]
 have e2:(fun i=>a (s+i)*shi s z (half s z b) (s+i) j)=fun i=>a (s+i)*shi s z (half s z b) (s+i) j:=rfl
 rw[e1,show 2*s=s+s by omega,xy0];unfold mul;rw[<-xrr];refine xrs _ fun i _=>?_
 rw[mJ s i,xys,xyu s z _ (half s z b) (fun k hk=>xyt s z (half s z b) k hk) i j hj];show _=(a i+z*a (i+s))*_;rw[Int.add_mul,oQ z (a (i+s)),oD]
variable (ζ : Nat->Int)
def ly(K s:Nat)(f:Nat->Int):Nat->Int:=fun j=>if j%(2*s)<s then f j + ζ (K+j / (2*s))*f (j+s) else f (j-s) - ζ (K+j / (2*s))*f j
def bk(K s:Nat)(f:Nat->Int):Nat->Int:=fun j=>if j%(2*s)<s then f j+f (j+s) else - ζ (2*K-1-j / (2*s))*(f (j-s)-f j)
theorem place{s j:Nat}(hs : 0<s):(j%(2*s)<s->(j+s)%(2*s)=j%(2*s)+s/\(j+s) / (2*s)=j / (2*s))/\(¬ j%(2*s)<s->s<=j/\(j-s)%(2*s)=j%(2*s)-s/\(j-s) / (2*s)=j / (2*s)):=by
 have h1:=oL j (2*s);have h2:=kB j (show 0<2*s by omega);constructor
 ·intro h;have e:j+s=2*s*(j / (2*s))+(j%(2*s)+s):=by omega
  constructor
  ·rw[e,nG,jO (by omega)]
  ·rw[e,nH (by omega),lI (by omega:j%(2*s)+s<2*s)];omega
 ·intro h;have hj:s<=j:=by have:=Nat.mod_le j (2*s);omega
  have e:j-s=2*s*(j / (2*s))+(j%(2*s)-s):=by omega
  refine⟨hj,?_,?_⟩
  ·rw[e,nG,jO (by omega)]
  ·rw[e,nH (by omega),lI (by omega:j%(2*s)-s<2*s)];omega
theorem bk_ly(K s:Nat)(hs : 0<s)(hz:∀ t,t<K->Cg (ζ (K+t) * ζ (2*K-1-t)) (-1))(f:Nat->Int)(j:Nat)(hj:j<2*s*K):Cg (bk ζ K s (ly ζ K s f) j) (2*f j):=by
 have ht:j / (2*s)<K:=oX hj;obtain⟨p1,p2⟩:=place (j:=j) hs;unfold bk;by_cases h:j%(2*s)<s
 ·obtain⟨q1,q2⟩:=p1 h;rw[iP h];unfold ly;rw[iP h,iQ (by omega),q2,oH];exact eq_cg (by congr 1;omega)
 ·obtain⟨q0,q1,q2⟩:=p2 h;have hlt:=kB j (show 0<2*s by omega);rw[iQ h];unfold ly;rw[iQ h,iP (by omega),q2,Nat.sub_add_cancel q0];have h3:=hz _ ht;have e : - ζ (2*K-1-j / (2*s))*(f (j-s) + ζ (K+j / (2*s))*f j-(f (j-s) - ζ (K+j / (2*s))*f j))=(-2*f j)*(ζ (K+j / (2*s)) * ζ (2*K-1-j / (2*s))):=by grind
  rw[e,show 2*f j=(-2*f j)*(-1) by omega];exact xbi (eY _) h3
theorem ly_bk(K s:Nat)(hs : 0<s)(hz:∀ t,t<K->Cg (ζ (K+t) * ζ (2*K-1-t)) (-1))(f:Nat->Int)(j:Nat)(hj:j<2*s*K):Cg (ly ζ K s (bk ζ K s f) j) (2*f j):=by
 have ht:j / (2*s)<K:=oX hj;obtain⟨p1,p2⟩:=place (j:=j) hs;unfold ly;by_cases h:j%(2*s)<s
 ·obtain⟨q1,q2⟩:=p1 h;rw[iP h];unfold bk;rw[iP h,iQ (by omega),q2,oH];have h3:=hz _ ht;have e:f j+f (j+s) + ζ (K+j / (2*s))*(-ζ (2*K-1-j / (2*s))*(f j-f (j+s)))=f j+f (j+s)+(-(f j-f (j+s)))*(ζ (K+j / (2*s)) * ζ (2*K-1-j / (2*s))):=by grind
  rw[e,show 2*f j=f j+f (j+s)+(-(f j-f (j+s)))*(-1) by omega];exact xc0 (eY _) (xbi (eY _) h3)
 ·obtain⟨q0,q1,q2⟩:=p2 h;have hlt:=kB j (show 0<2*s by omega);rw[iQ h];unfold bk;rw[iQ h,iP (by omega),Nat.sub_add_cancel q0];have h3:=hz _ ht;have e:f (j-s)+f j - ζ (K+j / (2*s))*(-ζ (2*K-1-j / (2*s))*(f (j-s)-f j))=f (j-s)+f j+(f (j-s)-f j)*(ζ (K+j / (2*s)) * ζ (2*K-1-j / (2*s))):=by grind
  rw[e,show 2*f j=f (j-s)+f j+(f (j-s)-f j)*(-1) by omega];exact xc0 (eY _) (xbi (eY _) h3)
end nttm
namespace iK
open nttm
variable (ζ : Nat->Int)
theorem up{K s j:Nat}(hs : 0<s)(hj:j<2*s*K)(hr:j%(2*s)<s):j+s<2*s*K:=by
 have h:=(Nat.div_lt_iff_lt_mul (show 0<2*s by omega)).1 (show (j+s) / (2*s)<K by rw[((place (j:=j) hs).1 hr).2];exact oX hj);rw[kI]at h;exact h
theorem xiu(K s:Nat)(hs : 0<s){f g:Nat->Int}(h:∀ j,j<2*s*K->Cg (f j) (g j))(j:Nat)(hj:j<2*s*K):Cg (ly ζ K s f j) (ly ζ K s g j):=by
 unfold ly;split
 ·rename_i hr
  exact xc0 (h j hj) (xbi (eY _) (h (j+s) (up hs hj hr)))
 ·exact xn7 (h _ (by omega)) (xbi (eY _) (h j hj))
theorem xkg(K s:Nat)(hs : 0<s){f g:Nat->Int}(h:∀ j,j<2*s*K->Cg (f j) (g j))(j:Nat)(hj:j<2*s*K):Cg (bk ζ K s f j) (bk ζ K s g j):=by
 unfold bk;split
 ·rename_i hr
  exact xc0 (h j hj) (h (j+s) (up hs hj hr))
 ·exact xbi (eY _) (xn7 (h _ (by omega)) (h j hj))
theorem ly_add(K s:Nat)(f g:Nat->Int)(j:Nat):ly ζ K s (fun i=>f i+g i) j=ly ζ K s f j+ly ζ K s g j:=by
 unfold ly;split
 ·simp only[mQ];omega
 ·simp only[mQ];omega
theorem xo6(K s:Nat)(c:Int)(f:Nat->Int)(j:Nat):ly ζ K s (fun i=>c*f i) j=c*ly ζ K s f j:=by
 unfold ly;split
 ·rw[mQ,Int.mul_left_comm]
 ·rw[Int.mul_sub,Int.mul_left_comm]
theorem xti(K s:Nat)(c:Int)(f:Nat->Int)(j:Nat):bk ζ K s (fun i=>c*f i) j=c*bk ζ K s f j:=by
 unfold bk;split
 ·rw[mQ]
 ·rw[<-Int.mul_sub,Int.mul_left_comm]
def pb(ρ : Nat->Int)(K n:Nat)(f g:Nat->Int):Nat->Int:=fun j=>mul n (ρ (K+j / n)) (fun i=>f (n*(j / n)+i)) (fun i=>g (n*(j / n)+i)) (j%n)
theorem ly_pb(ρ : Nat->Int)(K s:Nat)(hs : 0<s)(h0:∀ t,t<K->Cg (ρ (K+t)) (ζ (K+t) * ζ (K+t)))(h1:∀ t,t<K->Cg (ρ (2*K+2*t)) (ζ (K+t)))(h2:∀ t,t<K->Cg (ρ (2*K+(2*t+1))) (- ζ (K+t)))(f g:Nat->Int)(j:Nat)(hj:j<2*s*K):
 Cg (ly ζ K s (pb ρ K (2*s) f g) j) (pb ρ (2*K) s (ly ζ K s f) (ly ζ K s g) j):=by
 obtain⟨t,ht⟩:=aP (j / (2*s));obtain⟨r,hr⟩:=aP (j%(2*s));have htK:t<K:=by rw[<-ht];exact oX hj
 have hrs:r<2*s:=by rw[<-hr];exact kB _ (by omega)
 have hjd:j=2*s*t+r:=by rw[<-ht,<-hr];exact(oL _ _).symm
 obtain⟨p1,p2⟩:=place (j:=j) hs;rw[ht,hr]at p1 p2;have lo:∀ (u:Nat->Int) (i:Nat),i<s->ly ζ K s u (2*s*t+i)=half s (ζ (K+t)) (fun i=>u (2*s*t+i)) i:=by
  intro u i hi;have e1:(2*s*t+i) / (2*s)=t:=by rw[nH (by omega),lI (by omega)];omega
  have e2:(2*s*t+i)%(2*s)=i:=by rw[nG,jO (by omega)]
  unfold ly half;rw[e1,e2,iP hi,lX]
 have hi':∀ (u:Nat->Int) (i:Nat),i<s->ly ζ K s u (2*s*t+(s+i))=half s (- ζ (K+t)) (fun i=>u (2*s*t+i)) i:=by
  intro u i hi;have e1:(2*s*t+(s+i)) / (2*s)=t:=by rw[nH (by omega),lI (by omega)];omega
  have e2:(2*s*t+(s+i))%(2*s)=s+i:=by rw[nG,jO (by omega)]
  unfold ly half;rw[e1,e2,iQ (by omega),show 2*s*t+(s+i)-s=2*s*t+i by omega,mJ s i,Int.neg_mul];show u (2*s*t+i) - ζ (K+t)*u (2*s*t+(i+s))=u (2*s*t+i) + -(ζ (K+t)*u (2*s*t+(i+s)));omega
 by_cases hc:r<s
 ·obtain⟨q1,q2⟩:=p1 hc;have eL:ly ζ K s (pb ρ K (2*s) f g) j=half s (ζ (K+t)) (mul (2*s) (ρ (K+t)) (fun i=>f (2*s*t+i)) (fun i=>g (2*s*t+i))) r:=by
   unfold ly pb half;rw[hr,iP hc,ht,q1,q2]
  have eR:pb ρ (2*K) s (ly ζ K s f) (ly ζ K s g) j=mul s (ρ (2*K+2*t)) (fun i=>ly ζ K s f (2*s*t+i)) (fun i=>ly ζ K s g (2*s*t+i)) r:=by
   have e1:j / s=2*t:=by rw[hjd,show 2*s*t+r=s*(2*t)+r by rw[<-lC,kI s 2],nH hs,lI hc];rfl
   have e2:j%s=r:=by rw[hjd,show 2*s*t+r=s*(2*t)+r by rw[<-lC,kI s 2],nG,jO hc]
   unfold pb;rw[e1,e2,show s*(2*t)=2*s*t by rw[<-lC,kI s 2]]
  rw[eL,eR];refine xbt (b:=half s (ζ (K+t)) (mul (2*s) (ζ (K+t) * ζ (K+t)) (fun i=>f (2*s*t+i)) (fun i=>g (2*s*t+i))) r) ?_ ?_
  ·unfold half;exact xc0 (xd4 (h0 t htK) (fun _ _=>eY _) (fun _ _=>eY _) r (by omega)) (xbi (eY _) (xd4 (h0 t htK) (fun _ _=>eY _) (fun _ _=>eY _) (r+s) (by omega)))
  ·rw[xoi s _ _ _ hs r hc];exact xd4 (xib (h1 t htK)) (fun i hi=>by rw[lo f i hi];exact eY _) (fun i hi=>by rw[lo g i hi];exact eY _) r hc
 ·obtain⟨q0,q1,q2⟩:=p2 hc;obtain⟨r',hr'⟩:∃ r',r-s=r':=⟨_,rfl⟩;have hrr:r=s+r':=by omega
  have hr's:r'<s:=by omega
  have eL:ly ζ K s (pb ρ K (2*s) f g) j=half s (- ζ (K+t)) (mul (2*s) (ρ (K+t)) (fun i=>f (2*s*t+i)) (fun i=>g (2*s*t+i))) r':=by
   unfold ly pb half;rw[hr,iQ hc,ht,q1,q2,hr',show r'+s=r by omega,Int.neg_mul];omega
  have e0 : 2*s*t+r=s*(2*t+1)+r':=by rw[oB,<-lC,kI s 2];omega
  have eR:pb ρ (2*K) s (ly ζ K s f) (ly ζ K s g) j=mul s (ρ (2*K+(2*t+1))) (fun i=>ly ζ K s f (2*s*t+(s+i))) (fun i=>ly ζ K s g (2*s*t+(s+i))) r':=by
   have e1:j / s=2*t+1:=by rw[hjd,e0,nH hs,lI hr's]
   have e2:j%s=r':=by rw[hjd,e0,nG,jO hr's]
   have e3:∀ i,s*(2*t+1)+i=2*s*t+(s+i):=fun i=>by rw[oB,<-lC,kI s 2];omega
   unfold pb;rw[e1,e2];simp only[e3]
  rw[eL,eR];refine xbt (b:=half s (- ζ (K+t)) (mul (2*s) (- ζ (K+t) * - ζ (K+t)) (fun i=>f (2*s*t+i)) (fun i=>g (2*s*t+i))) r') ?_ ?_
  ·have h0':Cg (ρ (K+t)) (- ζ (K+t) * - ζ (K+t)):=by rw[Int.neg_mul_neg];exact h0 t htK
   unfold half;exact xc0 (xd4 h0' (fun _ _=>eY _) (fun _ _=>eY _) r' (by omega)) (xbi (eY _) (xd4 h0' (fun _ _=>eY _) (fun _ _=>eY _) (r'+s) (by omega)))
  ·rw[xoi s _ _ _ hs r' hr's];exact xd4 (xib (h2 t htK)) (fun i hi=>by rw[hi' f i hi];exact eY _) (fun i hi=>by rw[hi' g i hi];exact eY _) r' hr's
def there:Nat->(Nat->Int)->Nat->Int
 | 0,f=>f
 | m+1,f=>ly ζ (2 ^ m) (2 ^ (7-m)) (there m f)
def back:Nat->(Nat->Int)->Nat->Int
 | 0,f=>f
 | m+1,f=>bk ζ (2 ^ (7-m)) (2 ^ m) (back m f)
theorem xdk(m:Nat)(h:m<=7) : 2*2 ^ (7-m)*2 ^ m=256/\2*2 ^ m*2 ^ (7-m)=256:=by
 have e : 2 ^ (7-m)*2 ^ m=128:=by rw[<-lF,show 7-m+m=7 by omega]
 constructor
 ·rw[lC,e]
 ·rw[lC,kI (2 ^ m),e]
theorem xzk(m:Nat)(hm:m<=8){f g:Nat->Int}(h:∀ j,j<256->Cg (f j) (g j)):∀ j,j<256->Cg (there ζ m f j) (there ζ m g j):=by
 induction m with
 | zero=>exact h
 | succ m ih=>
  intro j hj;have e:=(xdk m (by omega)).1;exact xiu ζ (2 ^ m) (2 ^ (7-m)) (kD _) (fun i hi=>ih (by omega) i (by omega)) j (by omega)
theorem xns(m:Nat)(hm:m<=8){f g:Nat->Int}(h:∀ j,j<256->Cg (f j) (g j)):∀ j,j<256->Cg (back ζ m f j) (back ζ m g j):=by
 induction m with
 | zero=>exact h
 | succ m ih=>
  intro j hj;have e:=(xdk m (by omega)).2;exact xkg ζ (2 ^ (7-m)) (2 ^ m) (kD _) (fun i hi=>ih (by omega) i (by omega)) j (by omega)
theorem xr1(m:Nat)(f g:Nat->Int):there ζ m (fun i=>f i+g i)=fun j=>there ζ m f j+there ζ m g j:=by
 induction m with
 | zero=>rfl
 | succ m ih=>funext j;show ly ζ _ _ (there ζ m fun i=>f i+g i) j=_;rw[ih];exact ly_add ζ _ _ _ _ j
theorem xzm(m:Nat)(c:Int)(f:Nat->Int):there ζ m (fun i=>c*f i)=fun j=>c*there ζ m f j:=by
 induction m with
 | zero=>rfl
 | succ m ih=>funext j;show ly ζ _ _ (there ζ m fun i=>c*f i) j=_;rw[ih];exact xo6 ζ _ _ _ _ j
def Inv:Prop:=∀ m,m<=7->∀ t,t<2 ^ m->Cg (ζ (2 ^ m+t) * ζ (2*2 ^ m-1-t)) (-1)
theorem xs7(hz:Inv ζ)(f:Nat->Int)(m:Nat)(hm:m<=8):∀ j,j<256->Cg (back ζ m (there ζ 8 f) j) (2 ^ m*there ζ (8-m) f j):=by
 induction m with
 | zero=>intro j _;rw[show (2:Int) ^ 0=1 from rfl,Int.one_mul];exact eY _
 | succ m ih=>
  intro j hj;obtain⟨e1,e2⟩:=xdk m (by omega);have h1:=xkg ζ (2 ^ (7-m)) (2 ^ m) (kD _) (fun i hi=>ih (by omega) i (by omega)) j (by omega);have h2:bk ζ (2 ^ (7-m)) (2 ^ m) (fun i=>2 ^ m*there ζ (8-m) f i) j=2 ^ m*bk ζ (2 ^ (7-m)) (2 ^ m) (there ζ (8-m) f) j:=xti ζ _ _ _ _ j;have h3:there ζ (8-m) f=ly ζ (2 ^ (7-m)) (2 ^ m) (there ζ (7-m) f):=by
   rw[show 8-m=(7-m)+1 by omega,there,show 7-(7-m)=m by omega]
  have h4:=bk_ly ζ (2 ^ (7-m)) (2 ^ m) (kD _) (fun t ht=>hz (7-m) (by omega) t ht) (there ζ (7-m) f) j (by omega);rw[show 8-(m+1)=7-m by omega,Int.pow_succ,oD];refine xbt h1 ?_;rw[h2,h3];exact xbi (eY _) h4
theorem xzj(hz:Inv ζ)(f:Nat->Int)(m:Nat)(hm:m<=8):∀ j,j<256->Cg (there ζ m (back ζ 8 f) j) (2 ^ m*back ζ (8-m) f j):=by
 induction m with
 | zero=>intro j _;rw[show (2:Int) ^ 0=1 from rfl,Int.one_mul];exact eY _
 | succ m ih=>
  intro j hj;obtain⟨e1,e2⟩:=xdk m (by omega);have h1:=xiu ζ (2 ^ m) (2 ^ (7-m)) (kD _) (fun i hi=>ih (by omega) i (by omega)) j (by omega);have h2:ly ζ (2 ^ m) (2 ^ (7-m)) (fun i=>2 ^ m*back ζ (8-m) f i) j=2 ^ m*ly ζ (2 ^ m) (2 ^ (7-m)) (back ζ (8-m) f) j:=xo6 ζ _ _ _ _ j;have h3:back ζ (8-m) f=bk ζ (2 ^ m) (2 ^ (7-m)) (back ζ (7-m) f):=by
   rw[show 8-m=(7-m)+1 by omega,back,show 7-(7-m)=m by omega]
  have h4:=ly_bk ζ (2 ^ m) (2 ^ (7-m)) (kD _) (fun t ht=>hz m (by omega) t ht) (back ζ (7-m) f) j (by omega);rw[show 8-(m+1)=7-m by omega,Int.pow_succ,oD];refine xbt h1 ?_;rw[h2,h3];exact xbi (eY _) h4
structure Sq (ρ : Nat->Int):Prop where
 top:Cg (ρ 1) (-1)
 sq:∀ k,0<k->k<256->Cg (ρ k) (ζ k * ζ k)
 lo:∀ k,0<k->k<256->Cg (ρ (2*k)) (ζ k)
 hi:∀ k,0<k->k<256->Cg (ρ (2*k+1)) (- ζ k)
theorem xzl(ρ : Nat->Int)(hq:Sq ζ ρ)(f g:Nat->Int)(m:Nat)(hm:m<=8):∀ j,j<256->Cg (there ζ m (pb ρ 1 256 f g) j) (pb ρ (2 ^ m) (2 ^ (8-m)) (there ζ m f) (there ζ m g) j):=by
 induction m with
 | zero=>intro j _;exact eY _
 | succ m ih=>
  intro j hj;obtain⟨e1,e2⟩:=xdk m (by omega);have hK : 2 ^ m<=128:=jJ (kS (by decide) (by omega:m<=7)) (by decide);have hK0:=kD m;have h1:=xiu ζ (2 ^ m) (2 ^ (7-m)) (kD _) (fun i hi=>ih (by omega) i (by omega)) j (by omega);have e3 : 2 ^ (8-m)=2*2 ^ (7-m):=by rw[show 8-m=(7-m)+1 by omega,mG,kI]
  rw[e3]at h1;have h2:=ly_pb ζ ρ (2 ^ m) (2 ^ (7-m)) (kD _) (fun t ht=>hq.sq _ (by omega) (by omega)) (fun t ht=>by rw[<-oB];exact hq.lo _ (by omega) (by omega)) (fun t ht=>by rw[<-lX,<-oB];exact hq.hi _ (by omega) (by omega)) (there ζ m f) (there ζ m g) j (by omega);have h3:=xbt h1 h2;rw[show 8-(m+1)=7-m by omega,mG,kI (2 ^ m) 2];exact h3
theorem product(ρ : Nat->Int)(hz:Inv ζ)(hq:Sq ζ ρ)(f g:Nat->Int)(j:Nat)(hj:j<256):Cg (8347681*back ζ 8 (fun i=>there ζ 8 f i*there ζ 8 g i) j) (mul 256 (-1) f g j):=by
 have h1:∀ i,i<256->Cg (there ζ 8 f i*there ζ 8 g i) (there ζ 8 (pb ρ 1 256 f g) i):=fun i hi=>by
  refine xib (xbt (xzl ζ ρ hq f g 8 (by decide) i hi) ?_);show Cg (pb ρ 256 1 (there ζ 8 f) (there ζ 8 g) i) _;unfold pb mul;rw[Nat.div_one,Nat.mod_one,Nat.one_mul];simp only[sm,shi,mX,Int.zero_add];exact eY _
 have h2:=xns ζ 8 (by decide) h1 j hj;have h3:=xs7 ζ hz (pb ρ 1 256 f g) 8 (by decide) j hj;have h4:Cg (8347681*back ζ 8 (fun i=>there ζ 8 f i*there ζ 8 g i) j) (8347681*(2 ^ 8*pb ρ 1 256 f g j)):=xbi (eY _) (xbt h2 h3);refine xbt h4 (xbt (b:=pb ρ 1 256 f g j) ?_ ?_)
 ·rw[<-oD,show pb ρ 1 256 f g j=1*pb ρ 1 256 f g j by omega,<-oD];exact xbi (by unfold Cg;decide) (eY _)
 ·unfold pb;rw[lI hj,jO hj];simp only[Nat.mul_zero,kP,mX];exact xd4 hq.top (fun _ _=>eY _) (fun _ _=>eY _) j hj
theorem redo(hz:Inv ζ)(f:Nat->Int)(j:Nat)(hj:j<256):Cg (there ζ 8 (fun i=>8347681*back ζ 8 f i) j) (f j):=by
 rw[xzm];have h:=xzj ζ hz f 8 (by decide) j hj;refine xbt (xbi (eY 8347681) h) ?_;show Cg (8347681*(2 ^ 8*f j)) (f j);rw[<-oD,show Cg (8347681*2 ^ 8*f j) (f j)=Cg (8347681*2 ^ 8*f j) (1*f j) by rw[Int.one_mul]];exact xbi (by unfold Cg;decide) (eY _)
end iK
namespace cY
open nttm iK aT
variable (ζ : Nat->Int)
def pair(s j:Nat):Nat:=j / (2*s)*s+j%s
theorem xf0{s t r:Nat}(hr:r<s):pair s (2*s*t+r)=t*s+r/\(2*s*t+r) / (2*s)=t/\(2*s*t+r)%(2*s)=r:=by
 have h1:(2*s*t+r) / (2*s)=t:=by rw[nH (by omega),lI (by omega),mX]
 have h2:(2*s*t+r)%(2*s)=r:=by rw[nG,jO (by omega)]
 have h3:(2*s*t+r)%s=r:=by rw[show 2*s*t+r=s*(2*t)+r by rw[<-lC,kI s 2],nG,jO hr]
 exact⟨by unfold pair;rw[h1,h3],h1,h2⟩
theorem xfz{s t r:Nat}(hr:r<s):pair s (2*s*t+r+s)=t*s+r/\(2*s*t+r+s) / (2*s)=t/\(2*s*t+r+s)%(2*s)=r+s:=by
 have h1:(2*s*t+r+s) / (2*s)=t:=by rw[lX,nH (by omega),lI (by omega),mX]
 have h2:(2*s*t+r+s)%(2*s)=r+s:=by rw[lX,nG,jO (by omega)]
 have h3:(2*s*t+r+s)%s=r:=by rw[show 2*s*t+r+s=s*(2*t+1)+r by rw[oB,<-lC,kI s 2];omega,nG,jO hr]
 exact⟨by unfold pair;rw[h1,h3],h1,h2⟩
theorem xqc{s j:Nat}(hs : 0<s):∃ t r,r<s/\pair s j=t*s+r/\(j=2*s*t+r\/j=2*s*t+r+s):=by
 have h1:=oL j (2*s);have h2:=kB j (show 0<2*s by omega);by_cases h:j%(2*s)<s
 ·refine⟨j / (2*s),j%(2*s),h,?_,kW h1.symm⟩;have:=(xf0 (t:=j / (2*s)) h).1;rwa [h1]at this
 ·have e:j=2*s*(j / (2*s))+(j%(2*s)-s)+s:=by omega
  refine⟨j / (2*s),j%(2*s)-s,by omega,?_,kO e⟩;have:=(xfz (t:=j / (2*s)) (show j%(2*s)-s<s by omega)).1;rwa [<-e]at this
theorem xwq{s t t' r r':Nat}(hr:r<s)(hr':r'<s)(h:t*s+r=t'*s+r'):t=t'/\r=r':=by
 have h1:(t*s+r) / s=t:=by rw[kI,nH (by omega),lI hr,mX]
 have h2:(t'*s+r') / s=t':=by rw[kI,nH (by omega),lI hr',mX]
 have e:t=t':=by rw[<-h1,<-h2,h]
 subst e;exact⟨rfl,by omega⟩
def dn(L:(Nat->Int)->Nat->Int)(s:Nat)(f:Nat->Int)(m:Nat):Nat->Int:=fun j=>if pair s j<m then L f j%8380417 else f j
theorem xii(L:(Nat->Int)->Nat->Int)(s:Nat)(f:Nat->Int):dn L s f 0=f:=by funext j;unfold dn;rw[iQ (by omega)]
theorem xig(L:(Nat->Int)->Nat->Int)(K s:Nat)(hs : 0<s)(f:Nat->Int)(j:Nat)(hj:j<2*s*K):dn L s f (K*s) j=L f j%8380417:=by
 unfold dn;rw[iP];obtain⟨t,r,hr,hp,hjj⟩:=xqc (j:=j) hs;have ht:t<K:=by
  have h1 : 2*s*t<2*s*K:=by rcases hjj with h | h<;>omega
  exact Nat.lt_of_mul_lt_mul_left h1
 rw[hp];have:(t+1)*s<=K*s:=mH _ ht;rw[nX]at this;omega
theorem xgt(L:(Nat->Int)->Nat->Int){s t r:Nat}(hr:r<s)(f:Nat->Int):dn L s f (t*s+r) (2*s*t+r)=f (2*s*t+r):=by unfold dn;rw[(xf0 hr).1,iQ (by omega)]
theorem xgs(L:(Nat->Int)->Nat->Int){s t r:Nat}(hr:r<s)(f:Nat->Int):dn L s f (t*s+r) (2*s*t+r+s)=f (2*s*t+r+s):=by unfold dn;rw[(xfz hr).1,iQ (by omega)]
theorem same(p q:Prop)[Decidable p][Decidable q](a b:Int)(h:p↔q):(if p then a else b)=if q then a else b:=by
 by_cases hp:p
 ·rw[iP hp,iP (h.1 hp)]
 ·rw[iQ hp,iQ (fun x=>hp (h.2 x))]
theorem xih(L:(Nat->Int)->Nat->Int){s t r:Nat}(hr:r<s)(f:Nat->Int)(x y:Int)(hx:x=L f (2*s*t+r)%8380417)(hy:y=L f (2*s*t+r+s)%8380417):
 upd (upd (dn L s f (t*s+r)) (2*s*t+r+s) y) (2*s*t+r) x=dn L s f (t*s+r+1)/\upd (upd (dn L s f (t*s+r)) (2*s*t+r) x) (2*s*t+r+s) y=dn L s f (t*s+r+1):=by
 have hs : 0<s:=by omega
 have key:∀ j,j≠2*s*t+r->j≠2*s*t+r+s->(pair s j<t*s+r↔pair s j<t*s+r+1):=by
  intro j h1 h2;obtain⟨t',r',hr',hp,hjj⟩:=xqc (j:=j) hs;constructor
  ·intro h;omega
  ·intro h;by_cases e:pair s j=t*s+r
   ·obtain⟨rfl,rfl⟩:=xwq hr' hr (hp.symm.trans e);rcases hjj with h | h
    ·exact absurd h h1
    ·exact absurd h h2
   ·omega
 subst hx hy;constructor
 ·funext j
  unfold upd;by_cases h1:j=2*s*t+r
  ·subst h1;rw[iP rfl];unfold dn;rw[(xf0 hr).1,iP (by omega)]
  ·rw[iQ h1];by_cases h2:j=2*s*t+r+s
   ·subst h2;rw[iP rfl];unfold dn;rw[(xfz hr).1,iP (by omega)]
   ·rw[iQ h2];unfold dn;exact same _ _ _ _ (key j h1 h2)
 ·funext j
  unfold upd;by_cases h2:j=2*s*t+r+s
  ·subst h2;rw[iP rfl];unfold dn;rw[(xfz hr).1,iP (by omega)]
  ·rw[iQ h2];by_cases h1:j=2*s*t+r
   ·subst h1;rw[iP rfl];unfold dn;rw[(xf0 hr).1,iP (by omega)]
   ·rw[iQ h1];unfold dn;exact same _ _ _ _ (key j h1 h2)
theorem xo5(K:Nat){s t r:Nat}(hr:r<s)(f:Nat->Int):ly ζ K s f (2*s*t+r)=f (2*s*t+r) + ζ (K+t)*f (2*s*t+r+s)/\ly ζ K s f (2*s*t+r+s)=f (2*s*t+r) - ζ (K+t)*f (2*s*t+r+s):=by
 obtain⟨-,h1,h2⟩:=xf0 (t:=t) hr;obtain⟨-,h3,h4⟩:=xfz (t:=t) hr;unfold ly;rw[h2,h1,iP hr,h4,h3,iQ (by omega),oH];exact⟨rfl,rfl⟩
theorem xnv(K:Nat){s t r:Nat}(hr:r<s)(f:Nat->Int):bk ζ K s f (2*s*t+r)=f (2*s*t+r)+f (2*s*t+r+s)/\bk ζ K s f (2*s*t+r+s) = - ζ (2*K-1-t)*(f (2*s*t+r)-f (2*s*t+r+s)):=by
 obtain⟨-,h1,h2⟩:=xf0 (t:=t) hr;obtain⟨-,h3,h4⟩:=xfz (t:=t) hr;unfold bk;rw[h2,iP hr,h4,h3,iQ (by omega),oH];exact⟨rfl,rfl⟩
def gB(f:Nat->Int):Nat->Int:=fun j=>f j%8380417
def aS:Nat->(Nat->Int)->Nat->Int
 | 0,f=>gB f
 | m+1,f=>gB (ly ζ (2 ^ m) (2 ^ (7-m)) (aS m f))
def bH:Nat->(Nat->Int)->Nat->Int
 | 0,f=>gB f
 | m+1,f=>gB (bk ζ (2 ^ (7-m)) (2 ^ m) (bH m f))
theorem xzi(m:Nat)(hm:m<=8)(f:Nat->Int):∀ j,j<256->Cg (aS ζ m f j) (there ζ m f j):=by
 induction m with
 | zero=>exact fun j _=>xfl _
 | succ m ih=>
  intro j hj;have e:=(xdk m (by omega)).1;exact xbt (xfl _) (xiu ζ (2 ^ m) (2 ^ (7-m)) (kD _) (fun i hi=>ih (by omega) i (by omega)) j (by omega))
theorem xs3(m:Nat)(hm:m<=8)(f:Nat->Int):∀ j,j<256->Cg (bH ζ m f j) (back ζ m f j):=by
 induction m with
 | zero=>exact fun j _=>xfl _
 | succ m ih=>
  intro j hj;have e:=(xdk m (by omega)).2;exact xbt (xfl _) (xkg ζ (2 ^ (7-m)) (2 ^ m) (kD _) (fun i hi=>ih (by omega) i (by omega)) j (by omega))
theorem xr0(m:Nat)(f:Nat->Int)(j:Nat) : 0<=aS ζ m f j/\aS ζ m f j<8380417:=by
 cases m with
 | zero=>exact⟨lK _ (by decide),kX _ (by decide)⟩
 | succ m=>exact⟨lK _ (by decide),kX _ (by decide)⟩
theorem xnr(m:Nat)(f:Nat->Int)(j:Nat) : 0<=bH ζ m f j/\bH ζ m f j<8380417:=by
 cases m with
 | zero=>exact⟨lK _ (by decide),kX _ (by decide)⟩
 | succ m=>exact⟨lK _ (by decide),kX _ (by decide)⟩
end cY
namespace eP
open arr mem aT bS bQ
def SL(w:G)(v:aE)(m:Nat)(q:Nat->Nat->Int):Prop:=(m=0/\v=aB none 0 0)\/(1<=m/\m<=8/\∃ B,Holds w B v m q)
theorem SL.later{w w':G}{v:aE}{m:Nat}{q:Nat->Nat->Int}(h:SL w v m q)(hb:zb w w'):SL w' v m q:=
 h.imp id fun ⟨h1,h2,B,h3⟩=>⟨h1,h2,B,h3.later hb⟩
end eP
namespace bZ
open arr mem cZ aT bE dD cY aW bA bL bY cG dQ bF fL bQ bM
def cJ(b:ByteArray)(f:Nat->ByteArray):Nat->ByteArray
 | 0=>b
 | n+1=>cJ b f n++f n
theorem xgq(b:ByteArray)(f:Nat->ByteArray)(m n:Nat)(h:∀ i,i<n->(f i).size=m):(cJ b f n).size=b.size+m*n:=by
 induction n with
 | zero=>rfl
 | succ n ih=>rw[cJ,jS,ih fun i hi=>h i (by omega),h n (by omega),kG];omega
theorem xkl(b:ByteArray)(f:Nat->ByteArray)(n:Nat):b++cJ ByteArray.empty f n=cJ b f n:=by
 induction n with
 | zero=>rw[cJ,cJ,nZ]
 | succ n ih=>rw[cJ,cJ,<-ih,ByteArray.append_assoc]
theorem xtz(b:ByteArray){f g:Nat->ByteArray}(n:Nat)(h:∀ i,i<n->f i=g i):cJ b f n=cJ b g n:=by
 induction n with
 | zero=>rfl
 | succ n ih=>rw[cJ,cJ,ih fun i hi=>h i (by omega),h n (by omega)]
def dK(x th:Nat->Nat->Int):Nat->Nat->Int
 | 0=>fun _=>0
 | n+1=>fun k=>(dK x th n k+(x n k*th n k)%8380417)%8380417
def cQ(ζ : Nat->Int)(x v:Nat->Nat->Int)(n:Nat):Nat->Int:=fun k=>(bH ζ 8 (dK x (fun j=>aS ζ 8 (v j)) n) k*8347681)%8380417
def gX(k:Int):Int:=32+320*k
def sz2(k l e:Int):Int:=128+32*((lb (2*e).toNat:Nat):Int)*(l+k)+416*k
def sz3(k l a o s:Int):Int:=s / 4+32*(((lb (a-1).toNat:Nat):Int)+1)*l+o+k
section
variable (ζ : Nat->Int) (sd:ByteArray) (kn ln:Nat) (e:Int)
def pS:ByteArray:=out TL RL 2 (tw sd kn ln) 128
def cI:ByteArray:=(pS sd kn ln).extract 0 32
def cB:ByteArray:=(pS sd kn ln).extract 32 96
def pKey:ByteArray:=(pS sd kn ln).extract 96 128
def pT(i:Nat):Nat->Int:=fun k=>(cQ ζ (qX (cI sd kn ln) i) (qS (cB sd kn ln) e) ln k+qS (cB sd kn ln) e (ln+i) k)%8380417
def pHi(i:Nat):Nat->Int:=fun k=>sh (pT ζ sd kn ln e i k)
def pLo(i:Nat):Nat->Int:=fun k=>sl (pT ζ sd kn ln e i k)%8380417
def pPk:ByteArray:=cJ (cI sd kn ln) (fun i=>packed (pHi ζ sd kn ln e i) 1023) kn
def pTr:ByteArray:=out TL RL 2 (pPk ζ sd kn ln e) 64
def dT:ByteArray:=cI sd kn ln++pKey sd kn ln++pTr ζ sd kn ln e
def bN(b:ByteArray)(p:Nat->Nat->Int)(low high:Int)(n:Nat):ByteArray:=cJ b (fun i=>packed (sg (p i) high) (low+high)) n
def skB(h:ByteArray)(a b l:Nat->Nat->Int):ByteArray:=bN (bN (bN h a e e ln) b e e kn) l 4095 4096 kn
def pSk:ByteArray:=skB kn ln e (dT ζ sd kn ln e) (qS (cB sd kn ln) e) (fun i=>qS (cB sd kn ln) e (ln+i)) (pLo ζ sd kn ln e)
end
theorem xi5(sd:ByteArray)(kn ln:Nat):(pS sd kn ln).size=128:=fD.xb1 _ _ _
theorem xbv(sd:ByteArray)(kn ln:Nat):(cI sd kn ln).size=32:=by unfold cI;rw[bS.size_extract _ _ _ (by decide) (by rw[xi5];decide)]
theorem xwo(sd:ByteArray)(kn ln:Nat):(cB sd kn ln).size=64:=by unfold cB;rw[bS.size_extract _ _ _ (by decide) (by rw[xi5];decide)]
theorem xe5(sd:ByteArray)(kn ln:Nat):(pKey sd kn ln).size=32:=by unfold pKey;rw[bS.size_extract _ _ _ (by decide) (by rw[xi5];decide)]
theorem xqa(ζ : Nat->Int)(sd:ByteArray)(kn ln:Nat)(e:Int)(i:Nat):fK (pHi ζ sd kn ln e i) 1023:=fun _ _=>⟨(xjs _).1,(xjs _).2.1⟩
theorem xl1(ζ : Nat->Int)(sd:ByteArray)(kn ln:Nat)(e:Int)(i:Nat):ins (pLo ζ sd kn ln e i) 4095 4096:=fun k _=>by
 have h:=xmu (pT ζ sd kn ln e i k);unfold pLo;rw[xkn _ (by omega) (by omega)];omega
theorem xwn(ζ : Nat->Int)(sd:ByteArray)(kn ln:Nat)(e:Int)(i k:Nat) : 0<=pLo ζ sd kn ln e i k/\pLo ζ sd kn ln e i k<8380417:=by unfold pLo;omega
theorem xf7(sd:ByteArray)(e:Int)(he:e=2\/e=4)(i:Nat):ins (qS sd e i) e e:=fun k _=>xrt _ e he k
theorem xqq(sd:ByteArray)(e:Int)(i k:Nat) : 0<=qS sd e i k/\qS sd e i k<8380417:=xy1 _ _ _
theorem xdf:lb (1023:Int).toNat=10:=by decide +kernel
theorem xg2:lb (4095+4096:Int).toNat=13:=by decide +kernel
theorem xg1(e:Int)(he:e=2\/e=4):lb (e+e).toNat=lb (2*e).toNat/\1<=lb (e+e).toNat/\lb (e+e).toNat<=4:=by rcases he with rfl | rfl<;>decide +kernel
theorem xl2(ζ : Nat->Int)(sd:ByteArray)(kn ln:Nat)(e:Int):(pPk ζ sd kn ln e).size=32+320*kn:=by
 unfold pPk;rw[xgq _ _ 320 kn fun _ _=>by rw[xcy,xdf],xbv]
theorem xbd(b:ByteArray)(p:Nat->Nat->Int)(low high:Int)(n:Nat):(bN b p low high n).size=b.size+32*lb (low+high).toNat*n:=xgq _ _ _ n fun _ _=>xcy _ _
theorem xro(kn ln:Nat)(e:Int)(h:ByteArray)(a b l:Nat->Nat->Int):(skB kn ln e h a b l).size=h.size+32*lb (e+e).toNat*ln+32*lb (e+e).toNat*kn+416*kn:=by
 unfold skB;rw[xbd,xbd,xbd,xg2]
theorem xl3(ζ : Nat->Int)(sd:ByteArray)(kn ln:Nat)(e:Int):(pTr ζ sd kn ln e).size=64:=fD.xb1 _ _ _
theorem xfy(ζ : Nat->Int)(sd:ByteArray)(kn ln:Nat)(e:Int):(dT ζ sd kn ln e).size=128:=by
 unfold dT;rw[jS,jS,xbv,xe5,xl3]
theorem holds(ζ : Nat->Int)(sd:ByteArray)(kn ln:Nat)(e:Int)(i k:Nat):((pHi ζ sd kn ln e i k*8192)%8380417+pLo ζ sd kn ln e i k)%8380417=(cQ ζ (qX (cI sd kn ln) i) (qS (cB sd kn ln) e) ln k+qS (cB sd kn ln) e (ln+i) k)%8380417:=by
 have h:=(xjs (pT ζ sd kn ln e i k)).2.2;have h2:pT ζ sd kn ln e i k%8380417=pT ζ sd kn ln e i k:=by unfold pT;omega
 unfold pHi pLo;have h3:pT ζ sd kn ln e i k=(cQ ζ (qX (cI sd kn ln) i) (qS (cB sd kn ln) e) ln k+qS (cB sd kn ln) e (ln+i) k)%8380417:=rfl;rw[<-h3];omega
end bZ
namespace dJ
open arr mem aT bE aW bA bL bY cG dQ bZ bF
theorem xk1(b:ByteArray)(i:Nat):b.extract i 0=ByteArray.empty:=ByteArray.extract_eq_empty_iff.2 (by omega)
theorem xfn(b:ByteArray)(f:Nat->ByteArray)(n i j:Nat)(h:j<=b.size):(cJ b f n).extract i j=b.extract i j:=by
 induction n with
 | zero=>rfl
 | succ n ih=>
  have hs:b.size<=(cJ b f n).size:=by
   clear ih;induction n with
   | zero=>exact iM _
   | succ n ih=>rw[cJ,jS];omega
  rw[cJ,mO,ih,show j-(cJ b f n).size=0 by omega,xk1,nZ]
theorem xuk(b:ByteArray)(f:Nat->ByteArray)(m n i:Nat)(hf:∀ i,i<n->(f i).size=m)(hi:i<n):(cJ b f n).extract (b.size+m*i) (b.size+m*i+m)=f i:=by
 induction n with
 | zero=>omega
 | succ n ih=>
  have hs:=xgq b f m n fun i hi=>hf i (by omega)
  by_cases e:i=n
  ·subst e;rw[cJ,ByteArray.extract_append_eq_right hs.symm (by rw[hs,hf i (by omega)])]
  ·have hm:m*(i+1)<=m*n:=kJ m (by omega);rw[kG]at hm;rw[cJ,mO,ih (fun i hi=>hf i (by omega)) (by omega),show b.size+m*i+m-(cJ b f n).size=0 by rw[hs];omega,xk1,nZ]
theorem xqb{f g:Nat->Int}(most:Int)(h:∀ i,i<256->f i=g i):packed f most=packed g most:=by
 unfold packed;have:ns f=ns g:=by
  unfold ns;exact List.map_congr_left fun i hi=>by rw[h i (lV.1 hi)]
 rw[this]
def rdU(s:ByteArray)(at' w:Nat)(i:Nat):Nat->Int:=up (s.extract (at'+32*w*i) (at'+32*w*i+32*w)) w
def iB(s:ByteArray)(at' w:Nat)(high:Int)(i:Nat):Nat->Int:=un (rdU s at' w i) high
def okU(s:ByteArray)(at' w:Nat)(most:Int)(n:Nat):Prop:=∀ i,i<n->fK (rdU s at' w i) most
theorem xww(s:ByteArray)(at' w i n:Nat)(hi:i<n)(hs:at'+32*w*n<=s.size):(s.extract (at'+32*w*i) (at'+32*w*i+32*w)).size=32*w:=by
 have hm : 32*w*(i+1)<=32*w*n:=kJ _ (by omega);rw[kG]at hm;rw[bS.size_extract _ _ _ (by omega) (by omega)];omega
theorem xmd(b:ByteArray)(f:Nat->Nat->Int)(most:Int)(n i:Nat)(h2:most<8380417)(hi:i<n)(hin:fK (f i) most)(k:Nat)(hk:k<256):rdU (cJ b (fun i=>packed (f i) most) n) b.size (lb most.toNat) i k=f i k:=by
 unfold rdU;rw[xuk b (fun i=>packed (f i) most) (32*lb most.toNat) n i (fun _ _=>xcy _ _) hi];exact xz1 (f i) most h2 hin k hk
theorem xms{f:Nat->Int}{low high:Int}(h:ins f low high):fK (sg f high) (low+high):=fun i hi=>by
 have:=h i hi;unfold sg;omega
theorem xji(b:ByteArray)(p:Nat->Nat->Int)(low high:Int)(n i:Nat)(h2:low+high<8380417)(hi:i<n)(hin:ins (p i) low high)(hr:∀ k,0<=p i k/\p i k<8380417)(k:Nat)(hk:k<256):
 iB (bN b p low high n) b.size (lb (low+high).toNat) high i k=p i k:=by
 have h:=xmd b (fun i=>sg (p i) high) (low+high) n i h2 hi (xms hin) k hk;rw[<-un_sg (p i) high k (hr k)];unfold iB bN un;rw[h]
theorem xly(b:ByteArray)(p:Nat->Nat->Int)(low high:Int)(n:Nat)(h2:low+high<8380417)(hin:∀ i,i<n->ins (p i) low high):okU (bN b p low high n) b.size (lb (low+high).toNat) (low+high) n:=fun i hi k hk=>by
 have h:=xmd b (fun i=>sg (p i) high) (low+high) n i h2 hi (xms (hin i hi)) k hk;unfold bN;rw[h];exact xms (hin i hi) k hk
theorem xjj(b:ByteArray)(f:Nat->ByteArray)(n at' w i m:Nat)(hi:i<m)(h:at'+32*w*m<=b.size):rdU (cJ b f n) at' w i=rdU b at' w i:=by
 have hm : 32*w*(i+1)<=32*w*m:=kJ _ (by omega);rw[kG]at hm;unfold rdU;rw[xfn _ _ _ _ _ (by omega)]
end dJ
namespace fA
open arr mem aT aV bS aW bA bL dQ bF bQ fO eP bZ dJ
def szs(k l e t a b o s:Int):aE:=if bP k l e t a b o s=true then .tuple #[O J (gX k),O J (sz2 k l e),O J (sz3 k l a o s)] else .tuple #[O J 0,O J 0,O J 0]
theorem xbe{k l e t a b o s:Int}(h:bP k l e t a b o s=true):(1<=k/\k<=8)/\(1<=l/\l<=8)/\(e=2\/e=4)/\(a=131072\/a=524288)/\(1<=o/\o<=100)/\(s=128\/s=192\/s=256):=by
 unfold bP upto at h;simp only[jQ,nW,kN,lL]at h;obtain⟨⟨⟨⟨⟨⟨⟨h1,h2⟩,h3⟩,h4⟩,h5⟩,h6⟩,h7⟩,h8⟩:=h;exact⟨h1,h2,h5,h6,h4,by omega⟩
end fA
namespace dN
open arr mem aT aV bS aW bA bL dQ bF bQ fO eP bZ dJ
def okP(q:Nat->Nat->Int)(most:Int)(n:Nat):Prop:=∀ i,i<n->fK (q i) most
instance (q:Nat->Nat->Int) (most:Int) (n:Nat):Decidable (okP q most n):=by unfold okP;exact inferInstance
def okS(q:Nat->Nat->Int)(low high:Int)(n:Nat):Prop:=∀ i,i<n->ins (q i) low high
instance (q:Nat->Nat->Int) (low high:Int) (n:Nat):Decidable (okS q low high n):=by unfold okS;exact inferInstance
def resP(b:ByteArray)(q:Nat->Nat->Int)(most:Int)(n:Nat):aE:=if okP q most n then aA #[E (cJ b (fun i=>packed (q i) most) n),O J 0] else aA #[E ⟨#[]⟩,O J 6]
def resS(b:ByteArray)(q:Nat->Nat->Int)(low high:Int)(n:Nat):aE:=if okS q low high n then aA #[E (bN b q low high n),O J 0] else aA #[E ⟨#[]⟩,O J 6]
theorem gD{w:G}{B m:Nat}{v:aE}{q:Nat->Nat->Int}(h:Holds w B v m q):∃ g c,v=aB (some ⟨g,0,none⟩) m c/\g<w.heap.size:=by
 obtain⟨g,c,e,-,h2,-⟩:=h;exact⟨g,c,e,h2⟩
theorem xa8{w:G}{B m g c:Nat}{q:Nat->Nat->Int}(h:Holds w B (aB (some ⟨g,0,none⟩) m c) m q)(j:Nat)(hj:j<m):w.rangeAt g (j*256) (FL J 256 (q j)).toList:=by
 obtain⟨g2,c2,e,-,-,h3⟩:=h;injection e with x1 x2 x3
 iterate 2 (injection x1 with x1)
 subst x1;rw[kI];exact Holds.range (p:=q) fun i hi=>h3 j hj i hi
end dN
namespace rksb
open arr mem aT aV bS aW bA bL dQ bF bQ fO eP bZ dJ dN
def resK(kn ln:Nat)(e:Int)(h:ByteArray)(p q l:Nat->Nat->Int):aE:=if okS p e e ln/\okS q e e kn/\okS l 4095 4096 kn then aA #[E (skB kn ln e h p q l),O J 0] else aA #[E ⟨#[]⟩,O J 6]
end rksb
namespace dG
open arr mem aT aV bS aW bA bL dQ bF bQ fO eP bZ dJ
def okK(x:ByteArray)(kn ln:Nat)(e:Int):Prop:=okU x 128 (lb (e+e).toNat) (e+e) ln/\okU x (128+32*lb (e+e).toNat*ln) (lb (e+e).toNat) (e+e) kn/\okU x (128+32*lb (e+e).toNat*ln+32*lb (e+e).toNat*kn) 13 8191 kn
def three(w:G)(v:aE)(x:ByteArray)(kn ln:Nat)(e:Int):Prop:=
 ∃ g c v1 v2 v3,v=aB (some ⟨g,0,none⟩) 3 c/\g<w.heap.size/\w.cell? ⟨g,0,none⟩=some v1/\w.cell? ⟨g,1,none⟩=some v2/\w.cell? ⟨g,2,none⟩=some v3
  /\ Holds w 0 v1 ln (iB x 128 (lb (e+e).toNat) e)/\Holds w 0 v2 kn (iB x (128+32*lb (e+e).toNat*ln) (lb (e+e).toNat) e)/\Holds w 0 v3 kn (iB x (128+32*lb (e+e).toNat*ln+32*lb (e+e).toNat*kn) 13 4096)
theorem xbm{w:G}{B m:Nat}{v:aE}{q:Nat->Nat->Int}(h:Holds w B v m q):Holds w 0 v m q:=by
 obtain⟨g,c,e,-,r⟩:=h;exact⟨g,c,e,iX _,r⟩
end dG
namespace dW
open arr mem aT aV bS aW bA bL dQ bF bQ fO eP bZ dJ
def MX(w:G)(v:aE)(R:Nat)(n:Nat->Nat)(x:Nat->Nat->Nat->Int):Prop:=
 ∃ Gq C,v=aB (some ⟨Gq,0,none⟩) R C/\Gq<w.heap.size/\∀ r,r<R->∃ g c,w.cell? ⟨Gq,r,none⟩=some (aB (some ⟨g,0,none⟩) (n r) c)/\g<w.heap.size/\∀ j,j<n r->∀ k,k<256->w.cell? ⟨g,256*j+k,none⟩=some (O J (x r j k))
theorem xqt{w:G}{g m:Nat}{q:Nat->Int}(h:∀ k,k<256->w.cell? ⟨g,256*m+k,none⟩=some (O J (q k))):w.rangeAt g (m*256) (FL J 256 q).toList:=by
 rw[kI];exact Holds.range (p:=fun _=>q) (i:=m) h
theorem xb2{P:aI}{ops:Array Oper}{C:G->Prop}{Q:Act->Prop}{rest:List Oper}{o:Oper}{a:Act}(hw:aL o (yielded ops a.tmps)=true)(ty:aH)(x:Operand)(ho:o.op=.load ty x)
 (b n:Nat) (hx:a.eval x=aC (some ⟨b,n,none⟩)) (cs:List aE) (d:TypeDesc) (hS:∀ w,C w->w.rangeAt b n cs)
 (hu:P.underlying ty=some d) (hd:d.isRow=true) (hi:(P.info? ty).map (·.size)=some cs.length)
 (h:wpQuiet P ops C Q rest (a.put o.dst (I cs.toArray))):wpQuiet P ops C Q (o :: rest) a:=by
 refine wpQuiet_step fun K hK=>?_
 rw[iP hw];refine⟨I cs.toArray,fun w hC=>?_,hK _ h⟩;unfold Oper.quietAt execOp;simp only[ho,hx,Instr.loadAt,Instr.sureAddr,lQ,mR,kQ,run_loadVar_mid w b n ty cs d (hS w hC) hu hd hi];exact⟨rfl,rfl⟩
theorem xa3{w w':G}{g o:Nat}{L:List aE}(h:w.rangeAt g o L)(hg:g<w.heap.size)(hb:zb w w'):w'.rangeAt g o L:=fun j v hv=>(hb.cell (p:=⟨g,o+j,none⟩) hg).trans (h j v hv)
end dW
namespace mlkd
open arr mem aT aV bS aW bA bL dQ bF bQ fO eP bZ dJ tabm fB tabv dW
theorem xi1{w:G}{B B' e kn ln:Nat}{v:aE}{vs:List aE}{sk:Option Nat}{p:Nat->Nat->Nat->Int}(hk : 1<=kn)(h:w.ownsRow B e 1 v kn vs)(hr:dO w B' sk vs ln p):MX w v kn (fun _=>ln) p:=by
 obtain⟨g,cap,rfl⟩:=xbu (by omega) h;refine⟨g,cap,rfl,(h.lt g rfl).2,fun r hr'=>?_⟩;have hl:vs.length=kn:=by have:=h.1;omega
 have hv:vs[r]? = some vs[r]:=iT (by omega);obtain⟨g2,c2,e2,-,h2,-,h4⟩:=hr r _ hv;refine⟨g2,c2,?_,h2,h4⟩;rw[h.cellAt r (by omega),hv,e2]
theorem ht_doc:∀ k,k<256->TA[209+k]? = some (O J ((zt k:Nat):Int)):=fun k hk=>by rw[xju _ (by omega),xm7 k hk,xsm 256 k hk (by decide)]
theorem xls{w w':G}{v:aE}{R:Nat}{n:Nat->Nat}{x:Nat->Nat->Nat->Int}(h:MX w v R n x)(hb:zb w w'):MX w' v R n x:=by
 obtain⟨Gq,C,e,hG,hr⟩:=h;refine⟨Gq,C,e,iZ hG hb.size,fun r hr2=>?_⟩;obtain⟨g,c,h1,h2,h3⟩:=hr r hr2;exact⟨g,c,(hb.cell (p:=⟨Gq,r,none⟩) hG).trans h1,iZ h2 hb.size,fun j hj k hk=>(hb.cell (p:=⟨g,256*j+k,none⟩) h2).trans (h3 j hj k hk)⟩
end mlkd
namespace eH
open arr mem cZ aT bE dD cY aW aY bA eD dQ bF fL bQ bM bZ
def iE(c x:ByteArray):ByteArray:=(⟨#[0,UInt8.ofNat c.size]⟩:ByteArray)++c++x
def one(ζ : Nat->Int)(c f:Nat->Int):Nat->Int:=fun k=>(bH ζ 8 (fun k=>(aS ζ 8 c k*aS ζ 8 f k)%8380417) k*8347681)%8380417
structure Sg where
 ζ : Nat->Int
 kn:Nat
 ln:Nat
 e:Int
 t:Int
 a:Int
 b:Int
 o:Int
 s:Int
 rho:ByteArray
 mu:ByteArray
 ms:ByteArray
 A:Nat->Nat->Int
 B:Nat->Nat->Int
 C:Nat->Nat->Int
section
variable (S:Sg) (n:Nat)
def tY(r:Nat):Nat->Int:=qM S.ms S.a (n*S.ln) r
def tW(i:Nat):Nat->Int:=cQ S.ζ (qX S.rho i) (tY S n) S.ln
def tHi(i:Nat):Nat->Int:=fun k=>cD S.b (tW S n i k)
def cT:ByteArray:=out TL RL 2 (cJ S.mu (fun i=>packed (tHi S n i) (8380416 / (2*S.b)-1)) S.kn) (S.s / 4).toNat
def tC:Nat->Int:=dB (cT S n) S.t
def tZ(r:Nat):Nat->Int:=fun k=>(tY S n r k+one S.ζ (tC S n) (S.A r) k)%8380417
def tV(i:Nat):Nat->Int:=fun k=>(tW S n i k-one S.ζ (tC S n) (S.B i) k)%8380417
def tLo(i:Nat):Nat->Int:=fun k=>lw S.b (tV S n i k)%8380417
def gK(i:Nat):Nat->Int:=one S.ζ (tC S n) (S.C i)
def fI(i:Nat):Nat->Int:=fun k=>hn S.b ((0-gK S n i k)%8380417) ((tV S n i k+gK S n i k)%8380417)
def fX:Bool:=decide (eW (tZ S n) S.ln<S.a-S.t*S.e) && (decide (eW (tLo S n) S.kn<S.b-S.t*S.e) && (decide (eW (gK S n) S.kn<S.b) && decide ((dR (fI S n) S.kn:Int)<=S.o)))
def eI:ByteArray:=bN (cT S n) (tZ S n) (S.a-1) S.a S.ln++⟨(cP (lay (fI S n) S.o.toNat S.kn S.kn)).toArray⟩
end
def gF(S:Sg):Nat->Nat->Option ByteArray
 | 0,_=>none
 | m+1,n=>if fX S n=true then some (eI S n) else gF S m (n+1)
def sgn(ζ : Nat->Int)(kn ln:Nat)(e t a b o s:Int)(hd:ByteArray)(A B C:Nat->Nat->Int)(m r:ByteArray):Sg:=
 let mu:=out TL RL 2 (hd.extract 64 128++m) 64
 ⟨ζ,kn,ln,e,t,a,b,o,s,hd.extract 0 32,mu,out TL RL 2 (hd.extract 32 64++r++mu) 64,A,B,C⟩
end eH
namespace fP
open arr mem bE
theorem xpk(x m:Int)(h0 : 0<m)(h1:m<=4611686018427387904)(w:G):aD aO 170 #[O J x,O J m] w (zE w (O J (x%m))):=by
 obtain⟨z,hz⟩:=aP (x%m);obtain⟨y,hy⟩:=aP (x.tmod m);have h:=xm0 x m h0;have hb : 0<=z/\z<m:=by rw[<-hz];exact⟨lK _ (by omega),kX _ (by omega)⟩
 have hm0:¬ m=0:=by omega
 have hm1:(m==0)=false:=jV.2 hm0;rw[hz,hy]at h;rw[hz];rcases h with ⟨h2,h3⟩ | ⟨h2,h3⟩
 ·subst h3;have h4:¬ y<0:=by omega
  clear hz hb;go_enter Tryz.func170,Tryz.ntmps170;go_wp2_with fail;go_ret;exact⟨rfl,rfl⟩
 ·have hw:J.wrap (y+m)=z:=bB;have h3':=D h3;clear hz hb h3;go_enter Tryz.func170,Tryz.ntmps170;go_wp2_with fail;go_ret;exact⟨by first | rfl | rw[<-h3'.o],rfl⟩
theorem eU(x:Int)(w:G):aD aO 137 #[O J x] w (zE w (O J (x%8380417))):=by
 obtain⟨z,hz⟩:=aQ (x%8380417);rw[hz.o];have H:∀ w1:G,aD aO 170 #[O J x,O J 8380417] w1 (zE w1 (O J z)):=fun w1=>by rw[<-hz.o];exact xpk x 8380417 (by decide) (by decide) w1
 go_enter Tryz.func137,Tryz.ntmps137;go_wp2_with fail;refine(H _).mono ?_;rintro e w1 ⟨rfl,rfl⟩;go_wp2_with fail;go_ret;exact⟨rfl,rfl⟩
end fP
namespace fP
open arr mem bE
theorem xdc(x m:Int)(w:G):aD aO 131 #[O J x,O J m] w (zE w (O J (ce m x))):=by
 unfold ce;by_cases h0:m<1
 ·rw[iP (kW h0)];go_enter Tryz.func131,Tryz.ntmps131;go_wp2_with fail;go_ret;exact⟨rfl,rfl⟩
 ·by_cases h1 : 1125899906842624<m
  ·rw[iP (kO h1)];go_enter Tryz.func131,Tryz.ntmps131;go_wp2_with fail;go_ret;exact⟨rfl,rfl⟩
  ·rw[iQ (by omega)];obtain⟨z,hz⟩:=aQ (x%m);have hb : 0<=z/\z<m:=by rw[<-hz.o];exact⟨lK _ (by omega),kX _ (by omega)⟩
   rw[hz.o];have H:∀ w1:G,aD aO 170 #[O J x,O J m] w1 (zE w1 (O J z)):=fun w1=>by rw[<-hz.o];exact xpk x m (by omega) (by omega) w1
   have hw:J.wrap (m-z)=m-z:=bB;have hw2:J.wrap (z-m)=z-m:=bB;by_cases h5:m / 2<z
   ·rw[iP h5];have h6:m-z<z:=by omega
    clear h5;go_enter Tryz.func131,Tryz.ntmps131;go_wp2_with fail;refine(H _).mono ?_;rintro e w1 ⟨rfl,rfl⟩;go_wp2_with fail;go_ret;exact⟨rfl,rfl⟩
   ·rw[iQ h5];have h6:¬ m-z<z:=by omega
    clear h5;go_enter Tryz.func131,Tryz.ntmps131;go_wp2_with fail;refine(H _).mono ?_;rintro e w1 ⟨rfl,rfl⟩;go_wp2_with fail;go_ret;exact⟨rfl,rfl⟩
end fP
namespace fscale
open arr mem bD aT aV bE fP
theorem xf9(f:Nat->Int)(n:Int)(w:G):
 aD aO 87 #[I (FL J 256 f),O J n] w (zB w (I (FL J 256 fun i=>(f i*n)%8380417))):=by
 obtain⟨hz,hsize⟩:=iY aX;obtain⟨z,HZ⟩:=aQ (FL J 256 fun _=>0);rw[HZ.o]at hz;have Hzs:=dP HZ;obtain⟨F,HF⟩:∃ F:Nat->Int,U (F=fun i=>(f i*n)%8380417):=⟨_,⟨rfl⟩⟩;have hFi:∀ i,F i=(fun i=>(f i*n)%8380417) i:=fun i=>by rw[HF.o]
 have HFi:=D hFi;rw[<-HF.o];clear HF hFi;obtain⟨R,HR⟩:=aQ (FL J 256 F);have Ri:=eE HR hsize;have Ro:=eJ HR;have Rz:=gJ Hzs HR;rw[HR.o];have Hred:=D eU;have Hn:U (0<=n%8380417/\n%8380417<8380417):=⟨by omega⟩;clear hsize;go_enter Tryz.func87,Tryz.ntmps87;go_wp2_with fail;clear hz;refine(eU n _).mono ?_;rintro e w1 ⟨rfl,hw1⟩;subst hw1;obtain⟨c,hc⟩:=aQ (n%8380417);rw[hc.o];have hcb : 0<=c/\c<8380417:=by have:=Hn.o;rw[hc.o]at this;exact this
 clear Hn;go_wp2_with fail;obtain⟨W,hW⟩:=aP ((w.alloc (Y (FL J 256 f) 76)).alloc (Y z 76));obtain⟨b0,b1,hWs,hWb⟩:=two hW;rw[hW];clear hW;have B0:=D b0;have BR:=D b1;have HWs:U (w.heap.size+2<=W.heap.size):=⟨by omega⟩;have HWb:=D hWb;clear hWs hWb b0 b1;go_loopw [9] (fun v wr=>∃ i:Nat,i<=256/\v=O J (i:Int)/\U (At w.heap.size (FL J 256 (pt F f i)) 76 W wr)) (fun v _=>256-(aG v).toNat)
 case atStart=>exact⟨0,iX _,rfl,⟨by rw[xbf];exact At.refl B0.o⟩⟩
 case round=>
  obtain⟨i,hi,rfl,A0⟩:=hrel;by_cases hlt:i<256
  ·have hiz:(i:Int)<256:=by omega
   obtain⟨x,hx⟩:=aP (f i);have ca:wr.cell? ⟨w.heap.size,i,none⟩=some (O J x):=by
    have h9:=fZ A0.o.row i hlt;rw[xc5,hx]at h9;exact h9
   have HV:U (F i=(x*c)%8380417):=⟨by rw[HFi.o,hx,<-hc.o,nE,nE x (n%8380417),Int.emod_emod]⟩;obtain⟨x1,hx1⟩:=aQ (x%8380417);have hxb : 0<=x1/\x1<8380417:=by rw[<-hx1.o];omega
   have hp : 0<=x1*c/\x1*c<=8380417*8380417:=⟨oG hxb.1 hcb.1,Int.le_trans (lP (nF hxb.2) hcb.1) (mB (nF hcb.2) (by decide))⟩;have hs:J.wrap (x1*c)=x1*c:=bB;have hs2:(x1*c)%8380417=F i:=by rw[HV.o,<-hx1.o,nE,Int.emod_emod,<-nE]
   obtain⟨v,hv⟩:=aQ ((x1*c)%8380417);have Hx:∀ w1:G,aD aO 137 #[O J x] w1 fun e w'=>e=.returned (O J x1)/\w1=w':=fun w1=>by rw[<-hx1.o];exact(eU x w1).mono fun _ _ h=>⟨h.1,h.2.symm⟩
   have Hs:∀ w1:G,aD aO 137 #[O J (x1*c)] w1 fun e w'=>e=.returned (O J v)/\w1=w':=fun w1=>by rw[<-hv.o];exact(eU _ w1).mono fun _ _ h=>⟨h.1,h.2.symm⟩
   have HU:U (upd (pt F f i) i v=pt F f (i+1)):=⟨xa1 F f i v (by rw[<-hv.o,hs2])⟩;clear hs2 hp hxb;clear hx;go_wp2_with fail;refine(Hx _).mono ?_;rintro e w3 ⟨rfl,hw3⟩;subst hw3;go_wp2_with fail;refine(Hs _).mono ?_;rintro e w3 ⟨rfl,hw3⟩;subst hw3;clear ca;have A1:U (At w.heap.size (FL J 256 (pt F f i)) 76 W wr):=A0;clear A0;go_wp2_with ((with_reducible refine cU A1 rfl _ _ _ rfl rfl ?_);refine⟨_,_,_,rfl,rfl,rfl,(by rw[cC];exact hlt),?_⟩;intro wn HR;rw[eV,HU.o]at HR);go_roundw
   case rel=>exact⟨i+1,by omega,by go_num,HR⟩
   case measure=>simp[aG];omega
  ·obtain rfl:i=256:=by omega
   simp only[jE];rw[xbc,HR.o]at A0;have Hrow:=D A0.o.row;have Hres:U (wr.heap[w.heap.size+1]? = some (Y z 76 (0,0))):=⟨A0.o.other (by have:=HWs.o;omega) (by omega) BR.o⟩;have HB:U (zb w wr):=⟨HWb.o.trans (A0.o.below (by have:=HWs.o;omega) (iM _))⟩;clear A0;go_wp2_with (first
    | (refine iL rfl 76 _ rfl w.heap.size rfl 76 R (0,0) _ Hrow.o zX rfl Ri.o ?_)
    | (refine iS rfl 76 _ _ rfl (w.heap.size+1) R rfl rfl 76 _ Hres.o Ri.o Rz.o Ro.o ?_))
   refine iV (v:=I R) (jC rfl _ _ (w.heap.size+1) 76 _ (0,0) _ rfl (jD _ _ _ _ _ _ Hres.o) zX rfl Ri.o) rfl ?_;exact⟨rfl,HB.o.trans (below_setRow _ _ _ (by omega))⟩
end fscale
namespace nred
open arr mem bD aT aV cY
theorem xqv(f:Nat->Int)(w:G):
 aD aO 135 #[I (FL J 256 f)] w (zB w (I (FL J 256 (gB f)))):=by
 obtain⟨hz,hsize⟩:=iY aX;obtain⟨z,HZ⟩:=aQ (FL J 256 fun _=>0);rw[HZ.o]at hz;have Hzs:=dP HZ;have hr:(fun i=>(f i*1)%8380417)=gB f:=by funext i;unfold gB;rw[Int.mul_one]
 obtain⟨F,HF⟩:=aQ (FL J 256 f);obtain⟨R,HR⟩:=aQ (FL J 256 (gB f));have Fi:=eE HF hsize;have Ri:=eE HR hsize;have Ro:=eJ HR;have Rz:=gJ Hzs HR;have H:U (∀ w1:G,aD aO 87 #[I F,O J 1] w1 (zB w1 (I R))):=⟨fun w1=>by
  have h:=fscale.xf9 f 1 w1;rw[hr,HF.o,HR.o]at h;exact h⟩
 rw[HF.o,HR.o];clear hr HF HR HZ hsize;go_enter Tryz.func135,Tryz.ntmps135;go_wp2_with fail;obtain⟨W,hW⟩:=aP ((w.alloc (Y F 76)).alloc (Y z 76));obtain⟨b0,b1,hWs,hWb⟩:=two hW;rw[hW];clear hW;have B0:=D b0;have B1:=D b1;have HWb:=D hWb;clear hz hWs hWb b0 b1;go_wp2_with fail;refine nC 76 _ rfl w.heap.size rfl 76 F (0,0) _ B0.o zX rfl Fi.o ?_;go_wp2_with fail;refine(H.o _).mono ?_;rintro e w1 ⟨rfl,hb⟩;have B2:U (w1.heap[w.heap.size+1]? = some (Y z 76 (0,0))):=⟨(hb.block _ (bI B1.o)).trans B1.o⟩;have HB:=bK HWb hb;clear hb B0 B1 HWb;go_wp2_with (refine iS rfl 76 _ _ rfl (w.heap.size+1) R rfl rfl 76 _ B2.o Ri.o Rz.o Ro.o ?_);refine iV (v:=I R) (jC rfl _ _ (w.heap.size+1) 76 _ (0,0) _ rfl (jD _ _ _ _ _ _ B2.o) zX rfl Ri.o) rfl ?_;exact⟨rfl,HB.o.trans (below_setRow _ _ _ (by omega))⟩
end nred
namespace ntimes
open arr mem bD aT aV bE fP
theorem xcp(f g:Nat->Int)(w:G):
 aD aO 81 #[I (FL J 256 f),I (FL J 256 g)] w (zB w (I (FL J 256 fun i=>(f i*g i)%8380417))):=by
 obtain⟨hz,hsize⟩:=iY aX;obtain⟨z,HZ⟩:=aQ (FL J 256 fun _=>0);rw[HZ.o]at hz;have Hzs:=dP HZ;obtain⟨F,HF⟩:∃ F:Nat->Int,U (F=fun i=>(f i*g i)%8380417):=⟨_,⟨rfl⟩⟩;have hFi:∀ i,F i=(fun i=>(f i*g i)%8380417) i:=fun i=>by rw[HF.o]
 have HFi:=D hFi;rw[<-HF.o];clear HF hFi;obtain⟨R,HR⟩:=aQ (FL J 256 F);have Ri:=eE HR hsize;have Ro:=eJ HR;have Rz:=gJ Hzs HR;rw[HR.o];have Hred:=D eU;clear hsize;go_enter Tryz.func81,Tryz.ntmps81;go_wp2_with fail;clear hz;obtain⟨W,hW⟩:=aP (((w.alloc (Y (FL J 256 f) 76)).alloc (Y (FL J 256 g) 76)).alloc (Y z 76));obtain⟨b0,b1,b2,hWs,hWb⟩:=three hW;rw[hW];clear hW;have B0:=D b0;have B1:=D b1;have BR:=D b2;have HWs:U (w.heap.size+3<=W.heap.size):=⟨by omega⟩;have HWb:=D hWb;clear hWs hWb b0 b1 b2;go_loopw [6] (fun v wr=>∃ i:Nat,i<=256/\v=O J (i:Int)/\U (At w.heap.size (FL J 256 (pt F f i)) 76 W wr)) (fun v _=>256-(aG v).toNat)
 case atStart=>exact⟨0,iX _,rfl,⟨by rw[xbf];exact At.refl B0.o⟩⟩
 case round=>
  obtain⟨i,hi,rfl,A0⟩:=hrel;by_cases hlt:i<256
  ·have hiz:(i:Int)<256:=by omega
   obtain⟨x,hx⟩:=aP (f i);have ca:wr.cell? ⟨w.heap.size,i,none⟩=some (O J x):=by
    have h9:=fZ A0.o.row i hlt;rw[xc5,hx]at h9;exact h9
   obtain⟨y,hy⟩:=aP (g i);have cb:wr.cell? ⟨w.heap.size+1,i,none⟩=some (O J y):=by
    rw[<-hy];exact fZ (A0.o.other (by have:=HWs.o;omega) (by omega) B1.o) i hlt
   have HV:U (F i=(x*y)%8380417):=⟨by rw[HFi.o,hx,hy]⟩;obtain⟨x1,hx1⟩:=aQ (x%8380417);obtain⟨y1,hy1⟩:=aQ (y%8380417);have hxb : 0<=x1/\x1<8380417:=by rw[<-hx1.o];omega
   have hyb : 0<=y1/\y1<8380417:=by rw[<-hy1.o];omega
   have hp : 0<=x1*y1/\x1*y1<=8380417*8380417:=⟨oG hxb.1 hyb.1,Int.le_trans (lP (nF hxb.2) hyb.1) (mB (nF hyb.2) (by decide))⟩;have hs:J.wrap (x1*y1)=x1*y1:=bB;have hmm:=nE x y 8380417;rw[hx1.o,hy1.o]at hmm;obtain⟨s,hs1⟩:=aQ (x1*y1);have hs2:s%8380417=F i:=by rw[HV.o,<-hs1.o,hmm]
   obtain⟨v,hv⟩:=aQ (s%8380417);have Hx:∀ w1:G,aD aO 137 #[O J x] w1 (zE w1 (O J x1)):=fun w1=>by rw[<-hx1.o];exact eU x w1
   have Hy:∀ w1:G,aD aO 137 #[O J y] w1 (zE w1 (O J y1)):=fun w1=>by rw[<-hy1.o];exact eU y w1
   have Hs:∀ w1:G,aD aO 137 #[O J (x1*y1)] w1 (zE w1 (O J v)):=fun w1=>by rw[hs1.o,<-hv.o];exact eU s w1
   have HU:U (upd (pt F f i) i v=pt F f (i+1)):=⟨xa1 F f i v (by rw[<-hv.o,hs2])⟩;clear hy hs2 hmm hp hxb hyb;clear hx;go_wp2_with fail;refine gZ 12 (by kernel_rfl) (by kernel_rfl) ?_;simp only[jH,jU,iW,jK];repeat still_step
   still_call (Hx _)
   repeat still_step
   still_call (Hy _)
   repeat still_step
   still_call (Hs _)
   repeat still_step
   refine jR ?_;clear cb;clear ca;have A1:U (At w.heap.size (FL J 256 (pt F f i)) 76 W wr.drew):=⟨eN A0.o⟩;clear A0
   with_reducible refine cU A1 rfl _ _ _ rfl rfl ?_
   refine⟨_,_,_,rfl,rfl,rfl,by rw[cC];exact hlt,?_⟩;intro wn HR;rw[eV,HU.o]at HR;go_wp2_with fail;go_roundw
   case rel=>exact⟨i+1,by omega,by go_num,HR⟩
   case measure=>simp[aG];omega
  ·obtain rfl:i=256:=by omega
   simp only[jE];rw[xbc,HR.o]at A0;have Hrow:=D A0.o.row;have Hres:U (wr.heap[w.heap.size+2]? = some (Y z 76 (0,0))):=⟨A0.o.other (by have:=HWs.o;omega) (by omega) BR.o⟩;have HB:U (zb w wr):=⟨HWb.o.trans (A0.o.below (by have:=HWs.o;omega) (iM _))⟩;clear A0;go_wp2_with (first
    | (refine iL rfl 76 _ rfl w.heap.size rfl 76 R (0,0) _ Hrow.o zX rfl Ri.o ?_)
    | (refine iS rfl 76 _ _ rfl (w.heap.size+2) R rfl rfl 76 _ Hres.o Ri.o Rz.o Ro.o ?_))
   refine iV (v:=I R) (jC rfl _ _ (w.heap.size+2) 76 _ (0,0) _ rfl (jD _ _ _ _ _ _ Hres.o) zX rfl Ri.o) rfl ?_;exact⟨rfl,HB.o.trans (below_setRow _ _ _ (by omega))⟩
end ntimes
end Go.Proofs.YtomphjajkkddkaaGreatDoor
