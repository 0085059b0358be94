/-
  What mlverify's shake and answers return. Conditions: as each theorem says. High parts that stay as 
-/
import Derived.Test.YtomphjajkkddkaaGreatDoorZs15
import Derived.Test.YtomphjajkkddkaaGreatDoorZs14
import Derived.Test.YtomphjajkkddkaaGreatDoorZs16
import Derived.Test.YtomphjajkkddkaaGreatDoorZs03
import Derived.Test.YtomphjajkkddkaaGreatDoorZs02
import Derived.Test.YtomphjajkkddkaaGreatDoorZs09
import Derived.Test.YtomphjajkkddkaaGreatDoorProg
import Derived.Test.YtomphjajkkddkaaGreatDoorZs01
import Derived.Test.YtomphjajkkddkaaGreatDoorZs04
import Derived.Shelf.LaysM
import Derived.Shelf.Strconv.Clone
import Derived.Lib.MinMax
set_option maxRecDepth 100000
set_option maxHeartbeats 16000000
set_option linter.unusedSimpArgs false
set_option linter.unusedVariables false
open Go Go.RowKit
open Go renaming World->G,Calls->aD,Value->aE,Program->aI
open Go.RowKit renaming Below->aF,intOf->aG
open Go.Act renaming put->aM
open Go.Value renaming int->O,agg->I,string->E,tuple->aA,slice->aB,pointer->aC
open Go.IntKind renaming i64->J
open Go.Obj renaming cells->Y
open Go.Proofs.Tryz renaming prog->aO
namespace Go.Proofs.YtomphjajkkddkaaGreatDoor
section
open Go Go.RowKit cV aR
variable {P:aI} {ops:Array Oper} {Q:Exit->Act->G->Prop} {S:G->Prop} {b b':Array Bool} {k:Nat} {ks:List Nat} {o:Oper} {rest:List Oper} {a a':Act} {w:G} {v:aE}
theorem zU(hS:S w)(h:HK P ops Q S b' rest ks a' w)(hc:tk ops b k o a=true:=by rw[<-HO.o];kernel_rfl)(hQ:∀ c a w,Q (.panic c) (a.put o.dst v) w->Q (.panic c) a w:=by exact fun _ _ _ h=>h)(hy:∀ w,S w->(execOp a.eval o).run P w=.ok (.value v) w:=by intro w9 h9;go_simp;first | done | with_reducible rfl)(hb:b.setIfInBounds k true=b':=by first | (simp only[pa,pb,pc];first | done | rfl) | rfl)(ha:a.put o.dst v=a':=by simp only[aM,pa,pb,pc];first | done | rfl):HK P ops Q S b (o::rest) (k::ks) a w:=by
 subst hb ha;exact fY hc hQ hy hS h
theorem zD{p:G->Prop}(C:∀ w,S w->p w)(hS:S w)(h:HK P ops Q S b' rest ks a' w)(hc:tk ops b k o a=true:=by rw[<-HO.o];kernel_rfl)(hQ:∀ c a w,Q (.panic c) (a.put o.dst v) w->Q (.panic c) a w:=by exact fun _ _ _ h=>h)(hy:∀ w,p w->(execOp a.eval o).run P w=.ok (.value v) w:=by intro w9 hc;go_simp;first | done | with_reducible rfl)(hb:b.setIfInBounds k true=b':=by first | (simp only[pa,pb,pc];first | done | rfl) | rfl)(ha:a.put o.dst v=a':=by simp only[aM,pa,pb,pc];first | done | rfl):HK P ops Q S b (o::rest) (k::ks) a w:=by
 subst hb ha;exact fY hc hQ (fun w h=>hy w (C w h)) hS h
end
namespace vpa
open arr mem bD aT aV bS cY bF bQ dD bM bZ dJ cZ bU bT dN dW eM cV aR aW aY bA
theorem xc8{T:Array aE}(gt:Nat)(x:ByteArray)(n:Nat)(w:G)(hK:KT T TL RL)(hP:Gp w)(hrow:w.heap[gt]? = some (Y T 34 (0,0)))(hn:n<=50000)(hx:x.size<=1125899906842624):
 aD aO 31 #[aC (some ⟨gt,0,none⟩),E x,O J (n:Int)] w (zB w (E (out TL RL 2 x n))):=by
 have HS:=D (fun w1 hb=>iI.shake 2 x n w hK hP (kO rfl) hn hx w1 hb);have HTz:U ((aO.info? 34).map (·.size)=some T.size):=⟨dI T hK⟩;have HR:=D hrow;obtain⟨Yq,HY⟩:=aQ (out TL RL 2 x n);rw[HY.o]at HS ⊢;clear hK hP hrow hn hx HY;go_enter Tryz.func31,Tryz.ntmps31;go_wp2_with (refine iL rfl 34 _ rfl gt rfl 34 T (0,0) _ HR.o zY rfl HTz.o ?_);refine(HS.o _ (iR _ _)).mono ?_;rintro e w5 ⟨rfl,hb5⟩;go_wp2_with fail;go_ret;exact⟨rfl,hb5⟩
theorem xsz(k:Int)(ln wd:Nat)(e t a b o s:Int)(x:ByteArray)(q:Nat->Nat->Int)(w:G)(hl : 1<=ln/\ln<=8)(ha:a=131072\/a=524288)(hs:x.size=ln*wd)(hn:wd<=2048)
 (HU:∀ i,i<ln->∀ w1:G,aD aO 108 #[E (x.extract (i*wd) ((i+1)*wd)),O J (a-1),O J a] w1 (zB w1 (aA #[I (FL J 256 (q i)),O J 0]))):
 aD aO 52 #[I (bO k (ln:Int) e t a b o s),E x] w fun r w'=>(∃ v,r=.returned v/\Holds w' w.heap.size v ln q)/\zb w w':=by
 obtain⟨i0,hi,hz0,hz1,hz2⟩:=iC bX;obtain⟨hz,hsize⟩:=iY aV.aX;obtain⟨z,HZ⟩:=aQ (FL J 256 fun _=>0);rw[HZ.o]at hz hz0;have HI:=D (jA hi (jA hz0 (jA hz1 hz2)));have hm1:=hl.1;have hm8:=hl.2;have hmz:((ln:Int)==0)=false:=by simp;omega
 have hmz2:¬ (ln:Int)=0:=by omega
 have hmn:ln*wd<=16384:=jJ (lA hl.2 hn) (by decide);have hdiv:(x.size:Int).tdiv (ln:Int)=(wd:Int):=by
  rw[hs,iU (by omega)];push_cast
  exact Int.mul_ediv_cancel_left _ hmz2
 have hde:(x.size:Int) / (ln:Int)=(wd:Int):=by
  rw[<-hdiv,iU (by omega)]
 have hdw:J.wrap ((x.size:Int) / (ln:Int))=(wd:Int):=by rw[hde,iN];omega
 obtain⟨a1,ha1⟩:=aP (a-1);have haw:J.wrap (a-1)=a1:=bB;rw[ha1]at HU;have HU:=D HU;have Hs:=D hs;have Hmn:=D hmn;obtain⟨L,HL⟩:=aQ ((bO k (ln:Int) e t a b o s):Array aE);rw[HL.o];obtain⟨W,hW⟩:=aP (w.alloc (Y L 37));obtain⟨r0,hWs,b0⟩:=one hW;have c1:W.cell? ⟨w.heap.size,1,none⟩=some (O J (ln:Int)):=aZ r0 (by rw[<-HL.o];rfl);have C1:=D c1;have HL4:U (L[4]? = some (O J a)):=⟨by rw[<-HL.o];rfl⟩;have R0:=D r0;have L0:U (w.heap.size<W.heap.size):=⟨bI r0⟩;have B0:=D b0;have HW:=D hW;have hn0 : 0<=(wd:Int):=by omega
 clear hi hz0 hz1 hz2 hsize hs hmn hl hdiv hde ha ha1 hW r0 hWs b0;go_enter Tryz.func52,Tryz.ntmps52;go_wp2_with (first
  | (rw[HW.o])
  | (at_make;refine lY _ rfl (.tmp 9) (.tmp 9) 44 rfl W.heap.size 76 i0 (I z) 256 Tryz.underlying44 HI.o.1 HI.o.2.1 HI.o.2.2.1 J J ln ln ln rfl rfl rfl rfl (by rw[HI.o.2.2.2];omega) (by unfold maxLen;omega) (iM _) ?_))
 intro w5 hown hgr;obtain⟨hrow,hb5⟩:=xbn HZ.o hown hgr;obtain⟨g,hg⟩:=aP W.heap.size;have B5:=bK B0 hb5;clear c1;have c1:w5.cell? ⟨w.heap.size,1,none⟩=some (O J (ln:Int)):=(hb5.cell (p:=⟨w.heap.size,1,none⟩) L0.o).trans C1.o;rw[hg]at hrow ⊢;have A5:U (w5.heap[g]? = some (Y (RW ln (fst q 0)) 76 (0,0))):=⟨by rw[xbl];exact hrow⟩;have Hg:U (W.heap.size<=g):=⟨mS hg⟩;have HB5:U (zb W w5):=⟨hb5⟩;clear hown hgr hrow hb5 hg;go_wp2_with fail;clear c1;go_loopw [18] (fun v wr=>∃ r:Nat,r<=ln/\v=O J (r:Int)/\U (wr.heap[g]? = some (Y (RW ln (fst q r)) 76 (0,0)))/\U (zb W wr)) (fun v _=>ln-(aG v).toNat)
 case atStart=>exact⟨0,iX _,rfl,A5,HB5⟩
 case round=>
  clear A5;obtain⟨r,hr,rfl,Rr,Hb⟩:=hrel;have BU:=bK B0 Hb.o;by_cases hlt:r<ln
  ·have hrz:(r:Int)<(ln:Int):=by omega
   have hr8:r<8:=by omega
   have hmul:(r+1)*wd<=ln*wd:=mH wd hlt;have hsplit:(r+1)*wd=r*wd+wd:=nX r wd;have HCa:=HU.o r hlt;obtain⟨p,hp⟩:=aP (r*wd);obtain⟨p2,hp2⟩:=aP ((r+1)*wd);rw[hp,hp2]at HCa;have hps:p2<=x.size:=by have:=Hs.o;omega
   have hpp:p<=p2:=by omega
   have hpz:p2<=16384:=by have:=Hmn.o;omega
   have f1:J.wrap ((r:Int)*(wd:Int))=(p:Int):=by rw[show (r:Int)*(wd:Int)=((r*wd:Nat):Int) by push_cast;rfl,hp,iN];omega
   obtain⟨rn,hrn⟩:=aP (r+1);have f0:J.wrap ((r:Int)+1)=(rn:Int):=bB;have f2:J.wrap ((rn:Int)*(wd:Int))=(p2:Int):=by rw[<-hrn,show ((r+1:Nat):Int)*(wd:Int)=(((r+1)*wd:Nat):Int) by push_cast;rfl,hp2,iN];omega
   obtain⟨X,HX⟩:=aQ (x.extract p p2);have hex:=HX.o;rw[HX.o]at HCa;obtain⟨F,HF⟩:=aQ (FL J 256 (q r));rw[HF.o]at HCa;have HCr:=D HCa;have Hup:U (ups (fst q r) r (q r)=fst q rn):=⟨by rw[<-hrn];exact xbq q r⟩;have Hrn:=D hrn;obtain⟨o6,ho6⟩:=aP (r*256);have Ho6:=D ho6;have C4:∀ w':G,aF W.heap.size wr w'->w'.cell? ⟨w.heap.size,4,none⟩=some (O J a):=fun w' hb=>(hb.cell (p:=⟨w.heap.size,4,none⟩) L0.o).trans (aZ ((Hb.o.block _ L0.o).trans R0.o) HL4.o)
   have Hlt:=D hlt;have Lr:U (W.heap.size<=wr.heap.size):=⟨Hb.o.size⟩;clear hmul hsplit hp hp2 HCa hrn;go_wp2_with fail;refine xa4 (W.heap.size) 22 [0,1,2,3,4,5,6,7,8,9,10,11,12,13,14,15,16,17,18,19,20,21] (by kernel_rfl) rfl rfl (by decide) (fun hS ops HO=>?_);simp only[jT,fa,jF,jL];iterate 12 (refine zU hS ?_)
   refine zD C4 hS ?_;iterate 2 (refine zU hS ?_)
   refine zD C4 hS ?_;refine zS fun K hK=>?_
   go_simp
   refine(HCr.o _).mono ?_;rintro x w2 ⟨rfl,hb2⟩;have h2:=hS.trans (hb2.mono (jJ Lr.o hS.size));have hbn:zb wr w2:=(iR _ _).drew.trans hb2;refine hK _ _ h2 ?_;clear hK K;try simp only[aM,pa,pb,pc]
   iterate 4 (refine zU h2 ?_)
   have A6:U (At g (RW ln (fst q r)) 76 w2 w2):=⟨At.refl ((hbn.block _ (bI Rr.o)).trans Rr.o)⟩;refine zS fun K hK=>?_
   refine ksp.xh0 A6 HF.o Hlt.o Ho6.o _ _ rfl rfl rfl rfl (fun w7 A7=>?_);rw[Hup.o]at A7;have h7:aF W.heap.size wr w7:=h2.trans (A7.o.below (jJ Lr.o hbn.size) Hg.o);refine hK _ _ h7 ?_;clear hK K;refine zN ?_;have R8:U (w7.heap[g]? = some (Y (RW ln (fst q rn)) 76 (0,0))):=⟨A7.o.row⟩;have D8:U (zb W w7):=⟨Hb.o.trans h7⟩;clear hS HO hb2 h2 hbn A6 A7 h7 Rr C4;go_wp2_with fail;go_roundw
   case rel=>exact⟨rn,by have:=Hlt.o;have:=Hrn.o;omega,by go_num,R8,D8⟩
   case measure=>have:=Hlt.o;have:=Hrn.o;simp[aG];omega
  ·obtain rfl:r=ln:=by omega
   have HH:U (Holds wr w.heap.size (aB (some ⟨g,0,none⟩) r r) r q):=⟨xbp Rr.o (jJ B0.o.size Hg.o) (fun i hi=>xbk q r i hi)⟩;clear Rr;go_wp2_with fail;go_ret;exact⟨⟨_,rfl,HH.o⟩,BU.o⟩
end vpa
namespace mlva
open bE bF
theorem pl_a(x:Int):pl 95232 x=if 95232<(x%8380417)%190464 then (x%8380417)%190464-190464 else (x%8380417)%190464:=xbr 190464 _ (by decide) (by decide)
theorem pl_b(x:Int):pl 261888 x=if 261888<(x%8380417)%523776 then (x%8380417)%523776-523776 else (x%8380417)%523776:=xbr 523776 _ (by decide) (by decide)
theorem xgx(x:Int)(h : 0<=x/\x<8380417):cD 95232 x=((x+95231) / 190464)%44/\lw 95232 x=x-190464*((x+95231) / 190464)-(if (x+95231) / 190464=44 then 1 else 0):=by
 unfold cD lw;rw[iP xb5,iP xb5,pl_a];constructor
 ·split<;>split<;>omega
 ·split<;>split<;>split<;>omega
theorem xgy(x:Int)(h : 0<=x/\x<8380417):cD 261888 x=((x+261887) / 523776)%16/\lw 261888 x=x-523776*((x+261887) / 523776)-(if (x+261887) / 523776=16 then 1 else 0):=by
 unfold cD lw;rw[iP xcg,iP xcg,pl_b];constructor
 ·split<;>split<;>omega
 ·split<;>split<;>split<;>omega
theorem ext_a(y:Int)(h : -95231<=y/\y<=8380417+95231):cD 95232 (y%8380417)=((y+95231) / 190464)%44:=by
 rw[(xgx _ (by omega)).1];by_cases h1:y<0
 ·rw[show y%8380417=y+8380417 by omega];omega
 ·by_cases h2:y<8380417
  ·rw[show y%8380417=y by omega]
  ·rw[show y%8380417=y-8380417 by omega];omega
theorem stay_a(v s b:Int)(hv : 0<=v/\v<8380417)(h1 : -(95232-b)<lw 95232 v)(h2:lw 95232 v<95232-b)(hs : -b<=s/\s<=b):cD 95232 ((v+s)%8380417)=cD 95232 v:=by
 rw[(xgx v hv).2]at h1 h2;rw[(xgx v hv).1,ext_a _ (by omega)];have hy1 : 190464*((v+95231) / 190464)-95231<=v+s/\v+s<=190464*((v+95231) / 190464)+95231:=by
  generalize (v+95231) / 190464=q at h1 h2;split at h1
  ·omega
  ·omega
 have:(v+s+95231) / 190464=(v+95231) / 190464:=by
  generalize v+s=y at hy1;generalize (v+95231) / 190464=q at hy1;omega
 rw[this]
theorem ext_b(y:Int)(h : -261887<=y/\y<=8380417+261887):cD 261888 (y%8380417)=((y+261887) / 523776)%16:=by
 rw[(xgy _ (by omega)).1];by_cases h1:y<0
 ·rw[show y%8380417=y+8380417 by omega];omega
 ·by_cases h2:y<8380417
  ·rw[show y%8380417=y by omega]
  ·rw[show y%8380417=y-8380417 by omega];omega
theorem stay_b(v s b:Int)(hv : 0<=v/\v<8380417)(h1 : -(261888-b)<lw 261888 v)(h2:lw 261888 v<261888-b)(hs : -b<=s/\s<=b):cD 261888 ((v+s)%8380417)=cD 261888 v:=by
 rw[(xgy v hv).2]at h1 h2;rw[(xgy v hv).1,ext_b _ (by omega)];have hy1 : 523776*((v+261887) / 523776)-261887<=v+s/\v+s<=523776*((v+261887) / 523776)+261887:=by
  generalize (v+261887) / 523776=q at h1 h2;split at h1
  ·omega
  ·omega
 have:(v+s+261887) / 523776=(v+261887) / 523776:=by
  generalize v+s=y at hy1;generalize (v+261887) / 523776=q at hy1;omega
 rw[this]
theorem stay(g v s b:Int)(hg:g=95232\/g=261888)(hv : 0<=v/\v<8380417)(h1 : -(g-b)<lw g v)(h2:lw g v<g-b)(hs : -b<=s/\s<=b):cD g ((v+s)%8380417)=cD g v:=by
 rcases hg with rfl | rfl
 ·exact stay_a v s b hv h1 h2 hs
 ·exact stay_b v s b hv h1 h2 hs
theorem use_a(x z:Int)(hx : 0<=x/\x<8380417)(hz : -95232<z/\z<95232):us 95232 (if cD 95232 x=cD 95232 ((x+z)%8380417) then 0 else 1) x=cD 95232 ((x+z)%8380417):=by
 unfold us;rw[iP xb5,show (8380416:Int) / (2*95232)=44 from rfl];by_cases e:cD 95232 x=cD 95232 ((x+z)%8380417)
 ·rw[iP e,iP rfl];exact e
 ·rw[iQ e,iQ (by decide)];rw[(xgx x hx).1,ext_a (x+z) (by omega)]at e ⊢;rw[(xgx x hx).2];have hq : 0<=(x+95231) / 190464/\(x+95231) / 190464<=44/\190464*((x+95231) / 190464)-95231<=x/\x<=190464*((x+95231) / 190464)+95232:=by omega
  generalize (x+95231) / 190464=q at hq e ⊢;have hr : 190464*((x+z+95231) / 190464)-95231<=x+z/\x+z<=190464*((x+z+95231) / 190464)+95232:=by omega
  generalize (x+z+95231) / 190464=r at hr e ⊢;by_cases h0 : 0<x-190464*q-(if q=44 then 1 else 0)
  ·rw[iP h0];have:r=q+1:=by
    have h3:r≠q:=fun y=>e (by rw[y])
    split at h0<;>omega
   rw[this];omega
  ·rw[iQ h0];have:r=q-1:=by
    have h3:r≠q:=fun y=>e (by rw[y])
    split at h0<;>omega
   rw[this];omega
theorem use_b(x z:Int)(hx : 0<=x/\x<8380417)(hz : -261888<z/\z<261888):us 261888 (if cD 261888 x=cD 261888 ((x+z)%8380417) then 0 else 1) x=cD 261888 ((x+z)%8380417):=by
 unfold us;rw[iP xcg,show (8380416:Int) / (2*261888)=16 from rfl];by_cases e:cD 261888 x=cD 261888 ((x+z)%8380417)
 ·rw[iP e,iP rfl];exact e
 ·rw[iQ e,iQ (by decide)];rw[(xgy x hx).1,ext_b (x+z) (by omega)]at e ⊢;rw[(xgy x hx).2];have hq : 0<=(x+261887) / 523776/\(x+261887) / 523776<=16/\523776*((x+261887) / 523776)-261887<=x/\x<=523776*((x+261887) / 523776)+261888:=by omega
  generalize (x+261887) / 523776=q at hq e ⊢;have hr : 523776*((x+z+261887) / 523776)-261887<=x+z/\x+z<=523776*((x+z+261887) / 523776)+261888:=by omega
  generalize (x+z+261887) / 523776=r at hr e ⊢;by_cases h0 : 0<x-523776*q-(if q=16 then 1 else 0)
  ·rw[iP h0];have:r=q+1:=by
    have h3:r≠q:=fun y=>e (by rw[y])
    split at h0<;>omega
   rw[this];omega
  ·rw[iQ h0];have:r=q-1:=by
    have h3:r≠q:=fun y=>e (by rw[y])
    split at h0<;>omega
   rw[this];omega
theorem xz7(g x z:Int)(hg:g=95232\/g=261888)(hx : 0<=x/\x<8380417)(hz : -g<ce 8380417 z/\ce 8380417 z<g):us g (hn g z x) x=cD g ((x+z)%8380417):=by
 have e:(x+z)%8380417=(x+ce 8380417 z)%8380417:=by
  rw[xbr 8380417 z (by decide) (by decide)];split<;>omega
 unfold hn;rw[e];rcases hg with rfl | rfl
 ·exact use_a x _ hx hz
 ·exact use_b x _ hx hz
end mlva
namespace mlvb
open nttm iK cY aT bZ eH
variable (ζ : Nat->Int)
def Eq'(f g:Nat->Int):Prop:=∀ j,j<256->Cg (f j) (g j)
theorem xfm(f:Nat->Int):Eq' f f:=fun _ _=>eY _
theorem xer{f g:Nat->Int}(h:Eq' f g):Eq' g f:=fun j hj=>xib (h j hj)
theorem xbz{f g k:Nat->Int}(h:Eq' f g)(h2:Eq' g k):Eq' f k:=fun j hj=>xbt (h j hj) (h2 j hj)
theorem bk_add(K s:Nat)(f g:Nat->Int)(j:Nat):bk ζ K s (fun i=>f i+g i) j=bk ζ K s f j+bk ζ K s g j:=by
 unfold bk;split
 ·show f j+g j+(f (j+s)+g (j+s))=_;omega
 ·show -ζ _*((f (j-s)+g (j-s))-(f j+g j))=_;rw[show f (j-s)+g (j-s)-(f j+g j)=(f (j-s)-f j)+(g (j-s)-g j) by omega,mQ]
theorem xs4(m:Nat)(f g:Nat->Int):back ζ m (fun i=>f i+g i)=fun j=>back ζ m f j+back ζ m g j:=by
 induction m with
 | zero=>rfl
 | succ m ih=>
  funext j
  show bk ζ _ _ (back ζ m (fun i=>f i+g i)) j=_;rw[ih,bk_add];rfl
def bw(f:Nat->Int):Nat->Int:=fun j=>8347681*back ζ 8 f j
theorem xfi{f g:Nat->Int}(h:Eq' f g):Eq' (bw ζ f) (bw ζ g):=fun j hj=>xbi (eY _) (xns ζ 8 (by decide) h j hj)
theorem xnz(f g:Nat->Int):bw ζ (fun i=>f i+g i)=fun j=>bw ζ f j+bw ζ g j:=by
 funext j
 unfold bw;rw[xs4,mQ]
theorem xhs{f g:Nat->Int}(h:Eq' f g):Eq' (there ζ 8 f) (there ζ 8 g):=xzk ζ 8 (by decide) h
theorem xmy(f:Nat->Int):Eq' (aS ζ 8 f) (there ζ 8 f):=xzi ζ 8 (by decide) f
theorem xnq(f:Nat->Int):Eq' (fun k=>(bH ζ 8 f k*8347681)%8380417) (bw ζ f):=fun j hj=>by
 refine xbt (xfl _) ?_;rw[oQ];exact xbi (eY _) (xs3 ζ 8 (by decide) f j hj)
theorem xg4{f f' g g':Nat->Int}(h:Eq' f f')(h2:Eq' g g'):Eq' (fun k=>f k*g k) (fun k=>f' k*g' k):=fun j hj=>xbi (h j hj) (h2 j hj)
theorem xh4{f f' g g':Nat->Int}(h:Eq' f f')(h2:Eq' g g'):Eq' (fun k=>f k+g k) (fun k=>f' k+g' k):=fun j hj=>xc0 (h j hj) (h2 j hj)
theorem xi0(f:Nat->Int):Eq' (fun k=>f k%8380417) f:=fun _ _=>xfl _
theorem xd6(c f:Nat->Int):Eq' (one ζ c f) (bw ζ (fun k=>there ζ 8 c k*there ζ 8 f k)):=
 xbz (xnq ζ _) (xfi ζ (xbz (xi0 _) (xg4 (xmy ζ c) (xmy ζ f))))
theorem one_cg{c c' f f':Nat->Int}(hc:Eq' c c')(hf:Eq' f f'):Eq' (one ζ c f) (one ζ c' f'):=
 xbz (xd6 ζ c f) (xbz (xfi ζ (xg4 (xhs ζ hc) (xhs ζ hf))) (xer (xd6 ζ c' f')))
theorem xpy(c f g:Nat->Int):Eq' (one ζ c (fun k=>f k+g k)) (fun k=>one ζ c f k+one ζ c g k):=by
 refine xbz (xd6 ζ c _) (xbz ?_ (xh4 (xer (xd6 ζ c f)) (xer (xd6 ζ c g))));rw[xr1,<-xnz];refine xfi ζ fun j _=>?_
 show Cg (there ζ 8 c j*(there ζ 8 f j+there ζ 8 g j)) _;rw[mQ];exact eY _
def gQ(x v:Nat->Nat->Int):Nat->Nat->Int
 | 0=>fun _=>0
 | n+1=>fun k=>gQ x v n k+x n k*there ζ 8 (v n) k
theorem xyg(x v:Nat->Nat->Int)(n:Nat):Eq' (dK x (fun j=>aS ζ 8 (v j)) n) (gQ ζ x v n):=by
 induction n with
 | zero=>exact xfm _
 | succ n ih=>exact xbz (xi0 _) (xh4 ih (xbz (xi0 _) (xg4 (xfm _) (xmy ζ _))))
theorem xmm(x v:Nat->Nat->Int)(n:Nat):Eq' (cQ ζ x v n) (bw ζ (gQ ζ x v n)):=xbz (xnq ζ _) (xfi ζ (xyg ζ x v n))
theorem xxa{x v v':Nat->Nat->Int}(n:Nat)(h:∀ i,i<n->Eq' (v i) (v' i)):Eq' (gQ ζ x v n) (gQ ζ x v' n):=by
 induction n with
 | zero=>exact xfm _
 | succ n ih=>exact xh4 (ih fun i hi=>h i (by omega)) (xg4 (xfm _) (xhs ζ (h n (by omega))))
theorem xxb(hz:Inv ζ)(x y a:Nat->Nat->Int)(c:Nat->Int)(n:Nat):
 Eq' (gQ ζ x (fun i k=>y i k+one ζ c (a i) k) n) (fun k=>gQ ζ x y n k+there ζ 8 c k*gQ ζ x a n k):=by
 induction n with
 | zero=>exact fun j _=>by show Cg 0 (0+there ζ 8 c j*0);rw[Int.mul_zero];exact eY _
 | succ n ih=>
  intro j hj;have h1:Cg (there ζ 8 (one ζ c (a n)) j) (there ζ 8 c j*there ζ 8 (a n) j):=xbt (xhs ζ (xd6 ζ c (a n)) j hj) (redo ζ hz (fun k=>there ζ 8 c k*there ζ 8 (a n) k) j hj);have h2:=ih j hj;show Cg (gQ ζ x (fun i k=>y i k+one ζ c (a i) k) n j+x n j*there ζ 8 (fun k=>y n k+one ζ c (a n) k) j) (gQ ζ x y n j+x n j*there ζ 8 (y n) j+there ζ 8 c j*(gQ ζ x a n j+x n j*there ζ 8 (a n) j));rw[xr1];show Cg (gQ ζ x (fun i k=>y i k+one ζ c (a i) k) n j+x n j*(there ζ 8 (y n) j+there ζ 8 (one ζ c (a n)) j)) _;have h3:=xbi (eY (x n j)) h1;have e:gQ ζ x y n j+x n j*there ζ 8 (y n) j+there ζ 8 c j*(gQ ζ x a n j+x n j*there ζ 8 (a n) j)=(gQ ζ x y n j+there ζ 8 c j*gQ ζ x a n j)+(x n j*there ζ 8 (y n) j+x n j*(there ζ 8 c j*there ζ 8 (a n) j)):=by
   rw[mQ,Int.mul_left_comm (there ζ 8 c j) (x n j)];omega
  rw[e,mQ];exact xc0 h2 (xc0 (eY _) h3)
theorem xx8(hz:Inv ζ)(x y a:Nat->Nat->Int)(c:Nat->Int)(n:Nat):
 Eq' (cQ ζ x (fun i k=>(y i k+one ζ c (a i) k)%8380417) n) (fun k=>cQ ζ x y n k+one ζ c (cQ ζ x a n) k):=by
 refine xbz (xmm ζ _ _ n) (xbz (xfi ζ (xbz (xxa ζ n fun i _=>xi0 _) (xxb ζ hz x y a c n))) ?_);rw[xnz];refine xh4 (xer (xmm ζ x y n)) (xbz ?_ (xer (xd6 ζ c _)));refine xfi ζ (xg4 (xfm _) (xer (xbz (xhs ζ (xmm ζ x a n)) ?_)));exact fun j hj=>redo ζ hz _ j hj
theorem meet(hz:Inv ζ)(x y a:Nat->Nat->Int)(b lo hi c:Nat->Int)(n:Nat)(ht:∀ k,k<256->((hi k*8192)%8380417+lo k)%8380417=(cQ ζ x a n k+b k)%8380417)(k:Nat)(hk:k<256):
 (cQ ζ x (fun i k=>(y i k+one ζ c (a i) k)%8380417) n k-one ζ c (fun k=>(hi k*8192)%8380417) k)%8380417=((cQ ζ x y n k-one ζ c b k)%8380417+one ζ c lo k)%8380417:=by
 have h1:=xx8 ζ hz x y a c n k hk;have h2:Eq' (fun k=>(hi k*8192)%8380417+lo k) (fun k=>cQ ζ x a n k+b k):=fun j hj=>eq_cg (ht j hj)
 have h3:=xbz (xer (xpy ζ c (fun k=>(hi k*8192)%8380417) lo)) (xbz (one_cg ζ (xfm c) h2) (xpy ζ c _ b)) k hk;have h1:=cg_eq h1;have h3:=cg_eq h3;simp only at h1 h3;generalize cQ ζ x (fun i k=>(y i k+one ζ c (a i) k)%8380417) n k=p at *;generalize one ζ c (fun k=>(hi k*8192)%8380417) k=q at *;generalize cQ ζ x y n k=r at *;generalize one ζ c (cQ ζ x a n) k=s at *;generalize one ζ c b k=t at *;generalize one ζ c lo k=u at *;omega
end mlvb
namespace mlvc
open nttm iK cY aT bE bF fL bZ eH mlvb
theorem xkp(x:Int):Cg x (ce 8380417 x):=by
 rw[xbr _ _ (by decide) (by decide)];unfold Cg;split<;>omega
theorem ce_of{x s:Int}(h:Cg x s)(h1 : -4190208<=s)(h2:s<=4190208):ce 8380417 x=s:=by
 rw[xbr _ _ (by decide) (by decide)];unfold Cg at h;split<;>omega
theorem xwe(a t e:Int)(ha:a=0\/a=1\/a = -1)(ht : -e<=t/\t<=e) : -e<=a*t/\a*t<=e:=by
 rcases ha with rfl | rfl | rfl<;>omega
theorem sm_le(c a t:Nat->Int)(e:Int)(n:Nat)(hc:∀ i,i<n->c i=0->a i=0)(ha:∀ i,i<n->a i=0\/a i=1\/a i = -1)(ht:∀ i,i<n -> -e<=t i/\t i<=e) : -((nz c n:Nat):Int)*e<=sm (fun i=>a i*t i) n/\sm (fun i=>a i*t i) n<=((nz c n:Nat):Int)*e:=by
 induction n with
 | zero=>exact⟨by show -((0:Nat):Int)*e<=0;omega,by show 0<=((0:Nat):Int)*e;omega⟩
 | succ n ih=>
  obtain⟨h1,h2⟩:=ih (fun i hi=>hc i (by omega)) (fun i hi=>ha i (by omega)) (fun i hi=>ht i (by omega));show _<=sm (fun i=>a i*t i) n+a n*t n/\sm (fun i=>a i*t i) n+a n*t n<=_;rw[nz];by_cases e0:c n=0
  ·rw[iP e0,hc n (by omega) e0,Int.zero_mul,Int.add_zero,mX];exact⟨h1,h2⟩
  ·rw[iQ e0,oM,Int.neg_mul,Int.add_mul];rw[Int.neg_mul]at h1;have:=xwe (a n) (t n) e (ha n (by omega)) (ht n (by omega));generalize ((nz c n:Nat):Int)*e=p at *;omega
theorem shi_le(b:Nat->Int)(e:Int)(hb:∀ k,k<256 -> -e<=b k/\b k<=e)(i:Nat)(hi:i<256)(j:Nat)(hj:j<256) : -e<=shi 256 (-1) b i j/\shi 256 (-1) b i j<=e:=by
 rw[xrj 256 (-1) b i (by omega) j hj];split
 ·have:=hb (j+256-i) (by omega);omega
 ·exact hb (j-i) (by omega)
theorem tre_ce(x:Int)(h:tre x):ce 8380417 x=0\/ce 8380417 x=1\/ce 8380417 x = -1:=by
 rcases h with rfl | rfl | rfl<;>decide
theorem xw9(ζ ρ : Nat->Int)(hz:Inv ζ)(hq:Sq ζ ρ)(c b:Nat->Int)(tau e:Int)(he : 0<=e)(hc:∀ i,tre (c i))(hn:((nz c 256:Nat):Int)<=tau)(hb:∀ k,k<256 -> -e<=ce 8380417 (b k)/\ce 8380417 (b k)<=e)(ht:tau*e<=4190208)(k:Nat)(hk:k<256):
 -(tau*e)<=ce 8380417 (one ζ c b k)/\ce 8380417 (one ζ c b k)<=tau*e:=by
 have h1:Cg (one ζ c b k) (mul 256 (-1) (fun i=>ce 8380417 (c i)) (fun i=>ce 8380417 (b i)) k):=
  xbt (xd6 ζ c b k hk) (xbt (product ζ ρ hz hq c b k hk) (xd4 (eY _) (fun j _=>xkp (c j)) (fun j _=>xkp (b j)) k hk))
 have h2:=sm_le c (fun i=>ce 8380417 (c i)) (fun i=>shi 256 (-1) (fun i=>ce 8380417 (b i)) i k) e 256 (fun i _ h=>by show ce 8380417 (c i)=0;rw[h];decide) (fun i _=>tre_ce _ (hc i)) (fun i hi=>shi_le _ e hb i hi k hk);have h3:((nz c 256:Nat):Int)*e<=tau*e:=lP hn he;have h4:mul 256 (-1) (fun i=>ce 8380417 (c i)) (fun i=>ce 8380417 (b i)) k=sm (fun i=>ce 8380417 (c i)*shi 256 (-1) (fun i=>ce 8380417 (b i)) i k) 256:=rfl;rw[<-h4,Int.neg_mul]at h2;generalize mul 256 (-1) (fun i=>ce 8380417 (c i)) (fun i=>ce 8380417 (b i)) k=s at *;rw[ce_of h1 (by omega) (by omega)];omega
end mlvc
namespace mlvd
open cZ dD nttm iK cY aT bE bF bA fL bM bZ eH fJ mlva mlvb mlvc
def vW(S:Sg)(n:Nat)(hi:Nat->Nat->Int)(i:Nat):Nat->Int:=fun k=>(cQ S.ζ (qX S.rho i) (tZ S n) S.ln k-one S.ζ (tC S n) (fun k=>(hi i k*8192)%8380417) k)%8380417
theorem xt0{h:Nat->Int}{b:Int}(H:cb h 256<b)(k:Nat)(hk:k<256) : -b<ce 8380417 (h k)/\ce 8380417 (h k)<b:=by
 have:=cb_ge h 256 k hk;omega
theorem xn5{p:Nat->Nat->Int}{b:Int}{m:Nat}(H:eW p m<b)(i:Nat)(hi:i<m)(k:Nat)(hk:k<256) : -b<ce 8380417 (p i k)/\ce 8380417 (p i k)<b:=by
 have:=xn3 p m i hi;exact xt0 (by omega) k hk
theorem ce_neg(c g:Int)(h : -g<ce 8380417 c/\ce 8380417 c<g) : -g<ce 8380417 ((0-c)%8380417)/\ce 8380417 ((0-c)%8380417)<g:=by
 rw[xbr _ c (by decide) (by decide)]at h;rw[xbr _ _ (by decide) (by decide)];split at h<;>split<;>omega
theorem lw_in(g x:Int)(h:g=95232\/g=261888) : -261888<=lw g x/\lw g x<=261888:=by
 rcases h with rfl | rfl
 ·have:=xeb x;omega
 ·have:=xea x;omega
theorem xs5(S:Sg)(n tau:Nat)(ρ : Nat->Int)(hi:Nat->Nat->Int)(hz:Inv S.ζ)(hq:Sq S.ζ ρ)(hg:S.b=95232\/S.b=261888)(ht:S.t=(tau:Int))(h64:tau<=64)(he : 0<=S.e/\S.e<=4)
 (i:Nat) (hi':i<S.kn) (hB:∀ k,k<256 -> -S.e<=ce 8380417 (S.B i k)/\ce 8380417 (S.B i k)<=S.e)
 (hT:∀ k,k<256->((hi i k*8192)%8380417+S.C i k)%8380417=(cQ S.ζ (qX S.rho i) S.A S.ln k+S.B i k)%8380417)
 (bR:fX S n=true) (k:Nat) (hk:k<256):us S.b (fI S n i k) (vW S n hi i k)=tHi S n i k:=by
 obtain⟨-,h2,h3,-⟩:=xhr bR;have hm:vW S n hi i k=(tV S n i k+gK S n i k)%8380417:=meet S.ζ hz (qX S.rho i) (tY S n) S.A (S.B i) (S.C i) (hi i) (tC S n) S.ln hT k hk;have hc:=xn5 h3 i hi' k hk;have hl:=xn5 h2 i hi' k hk;have hte : 0<=S.t*S.e/\S.t*S.e<=64*4:=⟨oG (by omega) he.1,Int.mul_le_mul (by omega) he.2 he.1 (by decide)⟩;have hs:=xw9 S.ζ ρ hz hq (tC S n) (S.B i) S.t S.e he.1 (fun j=>xtd _ _ j) (by
  have:=xtc (bC.aU (out TL RL 2 (cT S n) 544)) tau h64;unfold tC dB;rw[ht];omega) hB (by omega) k hk
 have hlw:=lw_in S.b (tV S n i k) hg;have hlo:ce 8380417 (tLo S n i k)=lw S.b (tV S n i k):=xkn _ (by omega) (by omega);rw[hlo]at hl;have hv : 0<=tV S n i k/\tV S n i k<8380417:=by unfold tV;omega
 have hx : 0<=(tV S n i k+gK S n i k)%8380417/\(tV S n i k+gK S n i k)%8380417<8380417:=by omega
 rw[hm];show us S.b (hn S.b ((0-gK S n i k)%8380417) ((tV S n i k+gK S n i k)%8380417)) _=_;rw[xz7 S.b _ _ hg hx (ce_neg _ _ hc)];have e1:((tV S n i k+gK S n i k)%8380417+(0-gK S n i k)%8380417)%8380417=tV S n i k:=by omega
 rw[e1];have e2:=stay S.b (tV S n i k) (ce 8380417 (one S.ζ (tC S n) (S.B i) k)) (S.t*S.e) hg hv (by omega) (by omega) hs;rw[<-e2];have hw : 0<=tW S n i k/\tW S n i k<8380417:=by unfold tW cQ;omega
 have e3:=xkp (one S.ζ (tC S n) (S.B i) k);have e4:tV S n i k=(tW S n i k-one S.ζ (tC S n) (S.B i) k)%8380417:=rfl;have e5:(tV S n i k+ce 8380417 (one S.ζ (tC S n) (S.B i) k))%8380417=tW S n i k:=by
  rw[e4];unfold Cg at e3;omega
 rw[e5];rfl
end mlvd
namespace sigv
open kecf hiding sl
open tbf sigf sigp sigq sigt dZ fW fL cZ dD aT bE bF cY aW bA bY cG bM eD bQ bZ eH
open bC (aU fG xaz bt)
def diffS(seed m1 m2:List Nat):Bool:=
 keyS seed fun _ key tr A _ _ _=>fS 136 31 (tr++m1) 64 fun mu=>fS 136 31 (tr++m2) 64 fun mu2=>fS 136 31 (key++(List.replicate 32 0++mu)) 64 fun mask=>
 fS 136 31 (mask ++ [0,0]) 576 fun u=>pkS (fun N=>dA (maskN N) fun y=>fT y fun hy=>prodS A hy fun w=>dA (fun i=>hghN (lk w i)) fun hi=>packS 6 hi fun hb=>
 fS 136 31 (mu++hb) 32 fun sum=>fS 136 31 (mu2++hb) 32 fun sum2=>cond (Nat.beq (sum.headD 0) (sum2.headD 0)) false true) u 0 1
theorem xt9:diffS seed32 [0,1,99,97,98,99] [0,1,99,97,98,100]=true:=by decide +kernel
theorem other(sd m m2 z:ByteArray)(hsd:aU sd=seed32)(hm:aU m=[0,1,99,97,98,99])(hm2:aU m2=[0,1,99,97,98,100])(hz:aU z=List.replicate 32 0)(S:Sg)
 (hS:(⟨ζ,1,1,2,20,131072,95232,60,128,cI sd 1 1,out TL RL 2 (pTr ζ sd 1 1 2++m) 64,out TL RL 2 (pKey sd 1 1++z++out TL RL 2 (pTr ζ sd 1 1 2++m) 64) 64,qS (cB sd 1 1) 2,fun i=>qS (cB sd 1 1) 2 (1+i),pLo ζ sd 1 1 2⟩:Sg)=S):
 out TL RL 2 (out TL RL 2 (pTr ζ sd 1 1 2++m2) 64++packed (tHi S 0 0) ((8380416:Int) / (2*95232)-1)) 32≠cT S 0:=by
 have hmu:aU (out TL RL 2 (pTr ζ sd 1 1 2++m) 64)=aU S.mu:=by rw[<-hS]
 have hms:aU (out TL RL 2 (pKey sd 1 1++z++S.mu) 64)=aU S.ms:=by rw[<-hS]
 have h:=xt9;unfold diffS at h;rw[<-hsd,<-hm,<-hm2]at h;obtain⟨A,s1,s2,T,hA,h1,h2,hT,h⟩:=xow sd _ h;rw[<-xca,xb0 2 136 31 _ 64 rfl rfl,<-xca,xb0 2 136 31 _ 64 rfl rfl,hmu,<-hz,<-mL,<-xca,<-xca,xb0 2 136 31 _ 64 rfl rfl,hms,tw00,xb0 2 136 31 _ 576 rfl rfl,xhd,kP,Nat.one_mul]at h;obtain⟨Yq,hY,e⟩:=xpf (out TL RL 2 (tw S.ms 0 0) 576);rw[e]at h;have hY2:eO Yq (tY S 0 0):=by
  have e3:S.a=131072/\S.ln=1:=by rw[<-hS];exact⟨rfl,rfl⟩
  unfold tY qM;rw[e3.1,e3.2,show (0*1+0)%256=0 from rfl,show (0*1+0) / 256=0 from rfl];unfold dM;rw[mw_18];exact hY
 obtain⟨H,hH,e⟩:=xfc hY2;rw[e]at h;obtain⟨W,hW,e⟩:=xf6 hA hH;rw[e]at h;have hW2:eO W (tW S 0 0):=by
  have e2:tW S 0 0=cQ ζ (qX (cI sd 1 1) 0) (tY S 0) 1:=by rw[<-hS];rfl
  rw[e2,row_one];exact hW
 obtain⟨Uq,hU,e⟩:=xiv hghN (cD 95232) hW2 xim (fun x _=>nP (kB _ (by decide)) (by decide : 44<4294967296));have hU2:eO Uq (tHi S 0 0):=by
  have e2:tHi S 0 0=fun k=>cD 95232 (tW S 0 0 k):=by rw[<-hS];rfl
  rw[e2];exact hU
 have hsum:out TL RL 2 (S.mu++packed (tHi S 0 0) ((8380416:Int) / (2*95232)-1)) 32=cT S 0:=by
  have e2:S.b=95232/\S.kn=1/\S.s=128:=by rw[<-hS];exact⟨rfl,rfl,rfl⟩
  unfold cT;rw[e2.1,e2.2.1,e2.2.2];rfl
 rw[e,xl4 6 ((8380416:Int) / (2*95232)-1) lb_43 hU2,<-xca,xb0 2 136 31 _ 32 rfl rfl,hsum,<-xca,xb0 2 136 31 _ 32 rfl rfl,xel]at h;intro eq;rw[eq,iP rfl]at h;cases h
end sigv
namespace mlvm
open cZ dD nttm iK cY aT bE bF bA fL bQ bM bZ eH fJ mlvb mlvd
open bC (aU)
def vHash(ζ : Nat->Int)(kn ln:Nat)(t b s:Int)(rho mu sum:ByteArray)(hi z h:Nat->Nat->Int):ByteArray:=
 out TL RL 2 (cJ mu (fun i=>packed (fun k=>us b (h i k) ((cQ ζ (qX rho i) z ln k-one ζ (dB sum t) (fun k=>(hi i k*8192)%8380417) k)%8380417)) (8380416 / (2*b)-1)) kn) (s / 4).toNat
def vOk(ζ : Nat->Int)(kn ln:Nat)(e t a b s:Int)(rho mu sum:ByteArray)(hi z h:Nat->Nat->Int):Bool:=
 decide (eW z ln<a-t*e) && decide (vHash ζ kn ln t b s rho mu sum hi z h=sum)
theorem xqb{f g:Nat->Int}(most:Int)(h:∀ k,k<256->f k=g k):packed f most=packed g most:=by
 have e:ns f=ns g:=by
  unfold ns;exact List.map_congr_left fun i hi=>by rw[h i (lV.1 hi)]
 unfold packed;rw[e]
theorem xoj(S:Sg)(n tau:Nat)(ρ : Nat->Int)(hi:Nat->Nat->Int)(mu:ByteArray)(hz:Inv S.ζ)(hq:Sq S.ζ ρ)(hg:S.b=95232\/S.b=261888)(ht:S.t=(tau:Int))(h64:tau<=64)(he : 0<=S.e/\S.e<=4)
 (hB:∀ i,i<S.kn->∀ k,k<256 -> -S.e<=ce 8380417 (S.B i k)/\ce 8380417 (S.B i k)<=S.e)
 (hT:∀ i,i<S.kn->∀ k,k<256->((hi i k*8192)%8380417+S.C i k)%8380417=(cQ S.ζ (qX S.rho i) S.A S.ln k+S.B i k)%8380417)
 (bR:fX S n=true):vHash S.ζ S.kn S.ln S.t S.b S.s S.rho mu (cT S n) hi (tZ S n) (fI S n)=out TL RL 2 (cJ mu (fun i=>packed (tHi S n i) (8380416 / (2*S.b)-1)) S.kn) (S.s / 4).toNat:=by
 exact lD (fun x=>out TL RL 2 x (S.s / 4).toNat) (xtz mu S.kn fun i hi'=>xqb (8380416 / (2*S.b)-1) fun k hk=>xs5 S n tau ρ hi hz hq hg ht h64 he i hi' (hB i hi') (hT i hi') bR k hk)
theorem taken(S:Sg)(n tau:Nat)(ρ : Nat->Int)(hi:Nat->Nat->Int)(hz:Inv S.ζ)(hq:Sq S.ζ ρ)(hg:S.b=95232\/S.b=261888)(ht:S.t=(tau:Int))(h64:tau<=64)(he : 0<=S.e/\S.e<=4)
 (hB:∀ i,i<S.kn->∀ k,k<256 -> -S.e<=ce 8380417 (S.B i k)/\ce 8380417 (S.B i k)<=S.e)
 (hT:∀ i,i<S.kn->∀ k,k<256->((hi i k*8192)%8380417+S.C i k)%8380417=(cQ S.ζ (qX S.rho i) S.A S.ln k+S.B i k)%8380417)
 (bR:fX S n=true):vOk S.ζ S.kn S.ln S.e S.t S.a S.b S.s S.rho S.mu (cT S n) hi (tZ S n) (fI S n)=true:=by
 unfold vOk;rw[jP (xhr bR).1,xoj S n tau ρ hi S.mu hz hq hg ht h64 he hB hT bR];exact jP rfl
theorem xo7(sd:ByteArray)(kn ln:Nat)(e:Int)(he:e=2\/e=4)(i k:Nat) : -e<=ce 8380417 (qS (cB sd kn ln) e (ln+i) k)/\ce 8380417 (qS (cB sd kn ln) e (ln+i) k)<=e:=xrt _ e he k
theorem xo8(ζ : Nat->Int)(sd:ByteArray)(kn ln:Nat)(e:Int)(i k:Nat):((pHi ζ sd kn ln e i k*8192)%8380417+pLo ζ sd kn ln e i k)%8380417=(cQ ζ (qX (cI sd kn ln) i) (qS (cB sd kn ln) e) ln k+qS (cB sd kn ln) e (ln+i) k)%8380417:=holds ζ sd kn ln e i k
theorem takes(ζ ρ : Nat->Int)(hz:Inv ζ)(hq:Sq ζ ρ)(sd m r:ByteArray)(kn ln tau:Nat)(e a b o s:Int)(he:e=2\/e=4)(hg:b=95232\/b=261888)(h64:tau<=64)(n:Nat)
 (S:Sg) (hS:S=sgn ζ kn ln e (tau:Int) a b o s (dT ζ sd kn ln e) (qS (cB sd kn ln) e) (fun i=>qS (cB sd kn ln) e (ln+i)) (pLo ζ sd kn ln e) m r) (bR:fX S n=true):
 vOk ζ kn ln e (tau:Int) a b s (cI sd kn ln) (out TL RL 2 (pTr ζ sd kn ln e++m) 64) (cT S n) (pHi ζ sd kn ln e) (tZ S n) (fI S n)=true:=by
 rw[xmt]at hS;subst hS;exact taken _ n tau ρ (pHi ζ sd kn ln e) hz hq hg rfl h64 (by show 0<=e/\e<=4;omega) (fun i _ k _=>xo7 sd kn ln e he i k) (fun i _ k _=>xo8 ζ sd kn ln e i k) bR
theorem refused(ρ : Nat->Int)(hz:Inv tbf.ζ)(hq:Sq tbf.ζ ρ)(sd m m2 r:ByteArray)(hsd:aU sd=sigf.seed32)(hm:aU m=[0,1,99,97,98,99])(hm2:aU m2=[0,1,99,97,98,100])(hr:aU r=List.replicate 32 0)
 (S:Sg) (hS:S=sgn tbf.ζ 1 1 2 20 131072 95232 60 128 (dT tbf.ζ sd 1 1 2) (qS (cB sd 1 1) 2) (fun i=>qS (cB sd 1 1) 2 (1+i)) (pLo tbf.ζ sd 1 1 2) m r):
 vOk tbf.ζ 1 1 2 20 131072 95232 128 (cI sd 1 1) (out TL RL 2 (pTr tbf.ζ sd 1 1 2++m2) 64) (cT S 0) (pHi tbf.ζ sd 1 1 2) (tZ S 0) (fI S 0)=false:=by
 have bR:fX S 0=true:=by rw[hS];exact xrk sd m r hsd hm hr
 rw[xmt]at hS;have h1:=sigv.other sd m m2 r hsd hm hm2 hr S hS.symm;have h2:vHash tbf.ζ 1 1 20 95232 128 (cI sd 1 1) (out TL RL 2 (pTr tbf.ζ sd 1 1 2++m2) 64) (cT S 0) (pHi tbf.ζ sd 1 1 2) (tZ S 0) (fI S 0)=out TL RL 2 (out TL RL 2 (pTr tbf.ζ sd 1 1 2++m2) 64++packed (tHi S 0 0) ((8380416:Int) / (2*95232)-1)) 32:=by
  have h3:=fun mu=>xoj S 0 20 ρ (pHi tbf.ζ sd 1 1 2) mu (by rw[hS];exact hz) (by rw[hS];exact hq) (by rw[hS];exact kW rfl) (by rw[hS];rfl) (by decide) (by rw[hS];exact⟨(by decide:(0:Int)<=2),(by decide:(2:Int)<=4)⟩) (by rw[hS];exact fun i _ k _=>xo7 sd 1 1 2 (kW rfl) i k) (by rw[hS];exact fun i _ k _=>xo8 tbf.ζ sd 1 1 2 i k) bR
  have e:S.ζ = tbf.ζ /\ S.kn=1/\S.ln=1/\S.t=20/\S.b=95232/\S.s=128/\S.rho=cI sd 1 1:=by rw[hS];exact⟨rfl,rfl,rfl,rfl,rfl,rfl,rfl⟩
  rw[e.1,e.2.1,e.2.2.1,e.2.2.2.1,e.2.2.2.2.1,e.2.2.2.2.2.1,e.2.2.2.2.2.2]at h3;exact h3 _
 unfold vOk;rw[h2,jN h1,Bool.and_false]
end mlvm
namespace hinm
open arr mem aT aY bC eD gE
theorem xfr(L:List Nat)(i v j:Nat):(L.set i v).getD j 0=if i=j/\i<L.length then v else L.getD j 0:=by
 simp only[iO,nS];by_cases h:i=j
 ·subst h;by_cases h2:i<L.length
  ·simp[h2]
  ·simp[h2]
 ·simp[h]
theorem cnt_lt(f:Nat->Int){k k':Nat}(h:f k≠0)(hk:k<k'):cnt f k+1<=cnt f k':=by
 have:=cnt_mono f (k+1) k' hk;rw[cnt,iQ h]at this;exact this
theorem put_at(f:Nat->Int)(n:Nat)(S:List Nat)(k:Nat)(hS:n+cnt f k<=S.length):
 (∀ x,x<k->f x≠0->(put f n S k).getD (n+cnt f x) 0=x)/\∀ j,(j<n\/n+cnt f k<=j)->(put f n S k).getD j 0=S.getD j 0:=by
 induction k with
 | zero=>exact⟨fun x hx=>by omega,fun j _=>rfl⟩
 | succ k ih=>
  rw[cnt]at hS ⊢;by_cases hf:f k=0
  ·rw[iP hf,mX]at hS ⊢;obtain⟨h1,h2⟩:=ih hS;rw[put,iP hf];refine⟨fun x hx hx0=>h1 x ?_ hx0,h2⟩;rcases Nat.lt_or_ge x k with h | h
   ·exact h
   ·exact absurd (show f x=0 by rw[show x=k by omega];exact hf) hx0
  ·rw[iQ hf]at hS ⊢;obtain⟨h1,h2⟩:=ih (by omega);rw[put,iQ hf];refine⟨fun x hx hx0=>?_,fun j hj=>?_⟩
   ·rw[xfr];by_cases e:x=k
    ·subst e;rw[iP ⟨rfl,by rw[xhe];omega⟩]
    ·have:=cnt_lt f hx0 (show x<k by omega);rw[iQ (by omega)];exact h1 x (by omega) hx0
   ·rw[xfr,iQ (by omega)];exact h2 j (by omega)
theorem xle(q:Nat->Nat->Int)(om m i:Nat)(hi:i<=m)(ht:dR q i<=om):
 (∀ a,a<i->(lay q om m i).getD (om+a) 0=dR q (a+1)) /\
 (∀ a,a<i->∀ x,x<256->q a x≠0->(lay q om m i).getD (dR q a+cnt (q a) x) 0=x) /\
 ∀ j,dR q i<=j->j<om->(lay q om m i).getD j 0=0:=by
 induction i with
 | zero=>
  refine⟨fun a h=>by omega,fun a h=>by omega,fun j _ hj=>?_⟩;rw[lay,iO,List.getElem?_replicate,iP (by omega)];rfl
 | succ i ih=>
  have ht2:dR q i+cnt (q i) 256<=om:=ht;obtain⟨h1,h2,h3⟩:=ih (by omega) (by omega);obtain⟨p1,p2⟩:=put_at (q i) (dR q i) (lay q om m i) 256 (by rw[xey];omega);refine⟨fun a ha=>?_,fun a ha x hx hx0=>?_,fun j hj1 hj2=>?_⟩
  ·rw[lay,xfr];by_cases e:a=i
   ·subst e;rw[iP ⟨rfl,by rw[xhe,xey];omega⟩]
   ·rw[iQ (by omega),p2 _ (kO (by omega))];exact h1 a (by omega)
  ·rw[lay,xfr];by_cases e:a=i
   ·subst e;have:=cnt_lt (q a) hx0 (show x<256 by omega);rw[iQ (by omega)];exact p1 x hx hx0
   ·have h4:=xjx q (a+1) i (by omega);have h5:=cnt_lt (q a) hx0 (show x<256 by omega);have h6:dR q (a+1)=dR q a+cnt (q a) 256:=rfl;rw[iQ (by omega),p2 _ (kW (by omega))];exact h2 a (by omega) x hx hx0
  ·have hj1':dR q i+cnt (q i) 256<=j:=hj1;rw[lay,xfr,iQ (by omega),p2 _ (kO hj1')];exact h3 j (by omega) hj2
theorem xkr(f:Nat->Int)(K r:Nat)(h:r<cnt f K):∃ x,x<K/\f x≠0/\cnt f x=r:=by
 induction K with
 | zero=>simp[cnt]at h
 | succ K ih=>
  rw[cnt]at h;by_cases hf:f K=0
  ·rw[iP hf]at h;obtain⟨x,h1,h2⟩:=ih h;exact⟨x,by omega,h2⟩
  ·rw[iQ hf]at h;by_cases hr:r<cnt f K
   ·obtain⟨x,h1,h2⟩:=ih hr;exact⟨x,by omega,h2⟩
   ·exact⟨K,by omega,hf,by omega⟩
theorem mk_is(β : Nat->Nat)(a t x:Nat):(mk β a t x=1/\∃ j,j<t /\ β (a+j)=x)\/(mk β a t x=0/\∀ j,j<t -> β (a+j)≠x):=by
 induction t with
 | zero=>exact kO ⟨rfl,fun j h=>by omega⟩
 | succ t ih=>
  rw[mk];unfold upd;by_cases e:x = β (a+t)
  ·rw[iP e];exact kW ⟨rfl,t,by omega,e.symm⟩
  ·rw[iQ e];rcases ih with ⟨h1,j,h2,h3⟩ | ⟨h1,h2⟩
   ·exact kW ⟨h1,j,by omega,h3⟩
   ·refine kO ⟨h1,fun j hj=>?_⟩;by_cases ej:j=t
    ·subst ej;exact fun h=>e h.symm
    ·exact h2 j (by omega)
section
variable (q:Nat->Nat->Int) (om m:Nat) (ht:dR q m<=om)
include ht
theorem xgu(i:Nat)(hi:i<=m):fr (fun j=>(lay q om m m).getD j 0) om i=dR q i:=by
 cases i with
 | zero=>rfl
 | succ i=>exact(xle q om m m (iM _) ht).1 i (by omega)
theorem xz0:uok (fun j=>(lay q om m m).getD j 0) om m:=by
 obtain⟨h1,h2,h3⟩:=xle q om m m (iM _) ht;refine⟨fun i hi=>?_,fun k hk1 hk2=>?_⟩
 ·unfold one;rw[xgu q om m ht i (by omega),xgu q om m ht (i+1) (by omega)];have e:dR q (i+1)=dR q i+cnt (q i) 256:=rfl;have hm:=xjx q (i+1) m (by omega);refine⟨by omega,by omega,fun k hk1 hk2=>?_⟩;obtain⟨x,x1,x2,x3⟩:=xkr (q i) 256 (k-dR q i) (by omega);obtain⟨y,y1,y2,y3⟩:=xkr (q i) 256 (k-1-dR q i) (by omega);have e1:=h2 i hi x x1 x2;have e2:=h2 i hi y y1 y2;rw[x3,show dR q i+(k-dR q i)=k by omega]at e1;rw[y3,show dR q i+(k-1-dR q i)=k-1 by omega]at e2;show (lay q om m m).getD (k-1) 0<(lay q om m m).getD k 0;rw[e1,e2];rcases Nat.lt_or_ge y x with h | h
  ·exact h
  ·have:=cnt_mono (q i) x y h;omega
 ·rw[xgu q om m ht m (iM _)]at hk1;exact h3 k hk1 hk2
theorem xwz(i:Nat)(hi:i<m)(x:Nat)(hx:x<256):ply (fun j=>(lay q om m m).getD j 0) om i x=if q i x=0 then 0 else 1:=by
 obtain⟨h1,h2,h3⟩:=xle q om m m (iM _) ht;unfold ply;rw[xgu q om m ht i (by omega),xgu q om m ht (i+1) (by omega)];have e:dR q (i+1)=dR q i+cnt (q i) 256:=rfl;rw[show dR q (i+1)-dR q i=cnt (q i) 256 by omega];rcases mk_is (fun j=>(lay q om m m).getD j 0) (dR q i) (cnt (q i) 256) x with ⟨g1,j,g2,g3⟩ | ⟨g1,g2⟩
 ·rw[g1,iQ];intro hq;obtain⟨y,y1,y2,y3⟩:=xkr (q i) 256 j g2;have e1:=h2 i hi y y1 y2;rw[y3]at e1;have e2:y=x:=e1.symm.trans g3;rw[e2]at y2;exact y2 hq
 ·rw[g1];by_cases hq:q i x=0
  ·rw[iP hq]
  ·exact absurd (h2 i hi x hx hq) (g2 _ (by have:=cnt_lt (q i) hq hx;omega))
end
section
variable (β : Nat->Nat) (om m:Nat) (hu:uok β om m) (h8:∀ j,β j<256)
include hu h8
omit h8 in
omit hu h8 in
end
end hinm
namespace mlvp
open arr cZ dD aT bE bF aY bA bL cG eD gE dQ fL bQ bM bZ dJ eH fJ kkey bS
open bC (aU xaz)
def front(S:Sg)(n:Nat):ByteArray:=bN (cT S n) (tZ S n) (S.a-1) S.a S.ln
def hintB(S:Sg)(n:Nat):ByteArray:=⟨(cP (lay (fI S n) S.o.toNat S.kn S.kn)).toArray⟩
theorem xga(S:Sg)(n:Nat):eI S n=front S n++hintB S n:=rfl
theorem xgv(S:Sg)(n:Nat)(ha:S.a=131072\/S.a=524288):(front S n).size=(S.s / 4).toNat+32*mw S.a*S.ln:=by
 unfold front;rw[xbd,xdm,(xd5 S.a ha).1]
theorem xux(S:Sg)(n:Nat):(hintB S n).size=S.o.toNat+S.kn:=by
 show (cP _).toArray.size=_;rw[List.size_toArray,cP,List.length_map,xey]
theorem xyw(S:Sg)(n:Nat)(ha:S.a=131072\/S.a=524288):(eI S n).extract 0 (S.s / 4).toNat=cT S n:=by
 rw[xga,xkz _ _ _ (by rw[xgv S n ha];omega)];unfold front bN;rw[dJ.xfn _ _ _ _ _ (by rw[xdm];omega)];exact xes _ _ (xdm S n)
theorem sig_z(S:Sg)(n:Nat)(ha:S.a=131072\/S.a=524288)(ht : 1<=S.t)(he : 1<=S.e)(bR:fX S n=true)(i:Nat)(hi:i<S.ln)(k:Nat)(hk:k<256):
 iB (eI S n) (S.s / 4).toNat (mw S.a) S.a i k=tZ S n i k:=by
 have h1:=xji (cT S n) (tZ S n) (S.a-1) S.a S.ln i (by omega) hi (tZ_in bR ht he i hi) (fun k=>by unfold tZ;omega) k hk;rw[xdm,(xd5 S.a ha).1]at h1;have h2:=xjj (front S n) (fun _=>hintB S n) 1 (S.s / 4).toNat (mw S.a) i S.ln hi (by rw[xgv S n ha];omega);have h3:cJ (front S n) (fun _=>hintB S n) 1=eI S n:=rfl;rw[h3]at h2;unfold iB at h1 ⊢;rw[h2];exact h1
theorem sig_h(S:Sg)(n:Nat)(ha:S.a=131072\/S.a=524288)(j:Nat)(hj:j=(S.s / 4).toNat+32*mw S.a*S.ln):(eI S n).extract j (eI S n).size=hintB S n:=by
 subst hj;rw[xga,jS,mO,xgv S n ha,mW,Nat.add_sub_cancel_left,xes _ _ rfl,xk0 _ _ _ (by rw[xgv S n ha];exact iM _),ByteArray.empty_append]
theorem xuz(S:Sg)(n:Nat)(ho:S.o<=255)(bR:fX S n=true):aU (hintB S n)=lay (fI S n) S.o.toNat S.kn S.kn:=by
 have h:=(xhr bR).2.2.2;exact xgp _ (xox (fI S n) S.o.toNat S.kn S.kn (by omega))
theorem xon(S:Sg)(n:Nat)(h0 : 0<=S.o)(ho:S.o<=255)(bR:fX S n=true):uok (fun j=>(aU (hintB S n)).getD j 0) S.o.toNat S.kn/\∀ i,i<S.kn->∀ k,k<256->ply (fun j=>(aU (hintB S n)).getD j 0) S.o.toNat i k=fI S n i k:=by
 have h:=(xhr bR).2.2.2;have ht:dR (fI S n) S.kn<=S.o.toNat:=by omega
 rw[xuz S n ho bR];refine⟨hinm.xz0 (fI S n) S.o.toNat S.kn ht,fun i hi k hk=>?_⟩;rw[hinm.xwz (fI S n) S.o.toNat S.kn ht i hi k hk];rcases hn_01 S.b ((0-gK S n i k)%8380417) ((tV S n i k+gK S n i k)%8380417) with e | e
 ·have e2:fI S n i k=0:=e;rw[iP e2,e2]
 ·have e2:fI S n i k=1:=e;rw[iQ (by omega),e2]
end mlvp
namespace mlvr
open arr aT bS cZ dD bF aW aY bA cG gE fL bQ fW bM bZ dJ mlkd eH fJ mlvm mlvp kkey
open bC (aU)
open fA (xbe)
def hAt(ln:Nat)(a s:Int):Nat:=(s / 4).toNat+32*mw a*ln
def szV(kn ln:Nat)(a o s:Int):Nat:=hAt ln a s+(o.toNat+kn)
def bV(x:ByteArray)(ln:Nat)(a s:Int):Nat->Nat:=fun j=>(aU (x.extract (hAt ln a s) x.size)).getD j 0
def okV(x:ByteArray)(kn ln:Nat)(a o s:Int):Prop:=x.size=szV kn ln a o s/\uok (bV x ln a s) o.toNat kn
def vS(x:ByteArray)(s:Int):ByteArray:=x.extract 0 (s / 4).toNat
def vZ(x:ByteArray)(a s:Int):Nat->Nat->Int:=iB x (s / 4).toNat (mw a) a
def vH(x:ByteArray)(ln:Nat)(a o s:Int):Nat->Nat->Int:=ply (bV x ln a s) o.toNat
def PV(w:G)(B:Nat)(x:ByteArray)(kn ln:Nat)(a o s:Int)(v:aE):Prop:=
 (okV x kn ln a o s/\∃ v1 v2,v=aA #[E (vS x s),v1,v2,O J 0]/\Holds w B v1 ln (vZ x a s)/\Holds w B v2 kn (vH x ln a o s))
 \/ (¬ okV x kn ln a o s/\v=aA #[E ⟨#[]⟩,aB none 0 0,aB none 0 0,O J 3])
theorem sz_is{kn ln:Nat}{e t a b o s:Int}(h:bP (kn:Int) (ln:Int) e t a b o s=true):sz3 kn ln a o s=((szV kn ln a o s:Nat):Int):=by
 obtain⟨-,-,-,-,ho,hs⟩:=xbe h;have e1 : 32*(((lb (a-1).toNat:Nat):Int)+1)*(ln:Int)=((32*mw a*ln:Nat):Int):=by unfold mw;push_cast;rfl
 unfold sz3 szV hAt;rw[e1];omega
open Classical in
noncomputable def resV(ζ : Nat->Int)(kn ln:Nat)(e t a b o s:Int)(pk m x:ByteArray):aE:=
 if pk.size=32+320*kn/\okV x kn ln a o s then aA #[.bool (vOk ζ kn ln e t a b s (pk.extract 0 32) (out TL RL 2 (out TL RL 2 pk 64++m) 64) (vS x s) (rdU pk 32 10) (vZ x a s) (vH x ln a o s)),O J 0]
 else aA #[.bool false,O J 3]
noncomputable def resY(ζ : Nat->Int)(kn ln:Nat)(e t a b o s:Int)(pk m c x:ByteArray):aE:=
 if c.size<=255/\m.size<=60000 then resV ζ kn ln e t a b o s pk (iE c m) x else aA #[.bool false,O J 5]
theorem xjm(ζ : Nat->Int)(kn ln:Nat)(e t a b o s:Int)(pk m x:ByteArray):∃ (y:Bool) (c:Int),resV ζ kn ln e t a b o s pk m x=aA #[.bool y,O J c]:=by
 unfold resV;split<;>exact⟨_,_,rfl⟩
theorem xxu(ζ : Nat->Int)(kn ln:Nat)(e t a b o s:Int)(pk m c x:ByteArray):∃ (y:Bool) (k:Int),resY ζ kn ln e t a b o s pk m c x=aA #[.bool y,O J k]:=by
 unfold resY;split
 ·exact xjm _ _ _ _ _ _ _ _ _ _ _ _
 ·exact⟨_,_,rfl⟩
theorem xvq(S:Sg)(n:Nat)(ha:S.a=131072\/S.a=524288)(h0 : 0<=S.o)(ho:S.o<=255)(bR:fX S n=true):okV (eI S n) S.kn S.ln S.a S.o S.s:=by
 have hz:(eI S n).size=szV S.kn S.ln S.a S.o S.s:=by rw[xga,jS,xgv S n ha,xux];rfl
 refine⟨hz,?_⟩;unfold bV;rw[sig_h S n ha (hAt S.ln S.a S.s) rfl];exact(xon S n h0 ho bR).1
theorem xvs{w:G}{B:Nat}{v:aE}(S:Sg)(n:Nat)(ha:S.a=131072\/S.a=524288)(ht : 1<=S.t)(he : 1<=S.e)(h0 : 0<=S.o)(ho:S.o<=255)(bR:fX S n=true)(h:PV w B (eI S n) S.kn S.ln S.a S.o S.s v):
 ∃ v1 v2,v=aA #[E (cT S n),v1,v2,O J 0]/\Holds w B v1 S.ln (tZ S n)/\Holds w B v2 S.kn (fI S n):=by
 rcases h with ⟨-,v1,v2,rfl,h1,h2⟩ | ⟨h1,-⟩
 ·refine⟨v1,v2,by unfold vS;rw[xyw S n ha],xfu h1 fun i hi k hk=>sig_z S n ha ht he bR i hi k hk,xfu h2 fun i hi k hk=>?_⟩;have h3:=(xon S n h0 ho bR).2 i hi k hk;unfold vH bV;rw[sig_h S n ha (hAt S.ln S.a S.s) rfl];exact h3
 ·exact absurd (xvq S n ha h0 ho bR) h1
end mlvr
namespace shelfc
open Go.Shelf
def xvd:Go.Shelf.Ren:=⟨fun | 316=>107 | n=>n,fun | 0=>0 | 3=>3 | 4=>4 | 5=>5 | 9=>9 | 37=>57 | 127=>160 | n=>n,fun | n=>n⟩
theorem lays316:Go.Proofs.LaysM.n316 aO xvd:={
 mixed:=by kernel_rfl
 f316:=Tryz.func107.trans (lD some (by kernel_rfl))
 t0:=Tryz.underlying0
 a0:=Tryz.isAgg0
 z0:=Tryz.sizeOf0
 v0:=Tryz.zeroValue0
 t3:=Tryz.underlying3
 a3:=Tryz.isAgg3
 z3:=Tryz.sizeOf3
 v3:=Tryz.zeroValue3
 t4:=Tryz.underlying4
 a4:=Tryz.isAgg4
 z4:=Tryz.sizeOf4
 v4:=Tryz.zeroValue4
 t9:=Tryz.underlying9
 a9:=Tryz.isAgg9
 z9:=Tryz.sizeOf9
 v9:=Tryz.zeroValue9
 t37:=Tryz.underlying57
 a37:=Tryz.isAgg57
 z37:=Tryz.sizeOf57
 v37:=Tryz.zeroValue57
 t127:=Tryz.underlying160
 a127:=Tryz.isAgg160
 z127:=Tryz.sizeOf160
 v127:=Tryz.zeroValue160
 t5:=Tryz.underlying5
 a5:=Tryz.isAgg5
 z5:=Tryz.sizeOf5
 v5:=Tryz.zeroValue5
 i0:=by kernel_rfl
 i3:=by kernel_rfl
 i4:=by kernel_rfl
 i5:=by kernel_rfl
 i9:=by kernel_rfl
 i37:=by kernel_rfl
 i127:=by kernel_rfl }
open Go.RowKit in
theorem clone(s:ByteArray)(w:G)(hlim:s.size<=281474976710656):
 aD aO 107 #[E s] w (zB w (E s)):=Any.stringslite_Clone lays316 s w hlim
end shelfc
namespace pcut
open Go.RowKit
open oct arr
theorem xod(s:ByteArray)(m n:Nat)(h:m=min n s.size):s.extract 0 m=⟨(s.data.toList.take n).toArray⟩:=by
 subst h;apply ByteArray.ext;apply Array.toList_inj.1;have hs:s.data.toList.length=s.size:=rfl;have h1:(s.extract 0 (min n s.size)).data.toList=s.data.toList.take (min n s.size):=by simp
 have h2:min n s.size=min n s.data.toList.length:=rfl;rw[h1,h2,<-List.take_eq_take_min]
theorem sclone(x:ByteArray)(w:G)(h:x.size<=281474976710656):aD aO 51 #[E x] w (zB w (E x)):=by
 have H:=D (fun w1:G=>shelfc.clone x w1 h);clear h;go_enter Tryz.func51,Tryz.ntmps51;go_wp2_with fail;refine(H.o _).mono ?_;rintro e w1 ⟨rfl,hb⟩;go_wp2_with fail;go_ret;exact⟨rfl,hb⟩
theorem xt5(s:ByteArray)(n:Int)(w:G)(hs:s.size<=140737488355328):
 aD aO 76 #[E s,O J n] w (zB w (E ⟨(s.data.toList.take n.toNat).toArray⟩)):=by
 have hc:=xod s _ n.toNat rfl;rw[<-hc];clear hc;obtain⟨m,hm⟩:=aP (min n.toNat s.size);have h1:min (max n 0) (s.size:Int)=(m:Int):=by omega
 have h2:min (s.size:Int) (max n 0)=(m:Int):=by omega
 have h3:m<=s.size:=by omega
 rw[hm];have Hcl:=D (fun w1:G=>sclone (s.extract 0 m) w1 (by rw[kE];omega));clear hm;go_enter Tryz.func76,Tryz.ntmps76;go_wp2_with fail;refine(Hcl.o _).mono ?_;rintro e w1 ⟨rfl,hb⟩;go_wp2_with fail;go_ret;exact⟨rfl,hb⟩
end pcut
end Go.Proofs.YtomphjajkkddkaaGreatDoor
