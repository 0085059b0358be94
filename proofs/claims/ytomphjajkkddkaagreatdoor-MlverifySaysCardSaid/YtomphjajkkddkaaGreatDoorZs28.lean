/-
  What the document's own gap of layer 9 returns. Conditions: none. What round's Parts returns. Condit
-/
import Derived.Test.YtomphjajkkddkaaGreatDoorZs02
import Derived.Test.YtomphjajkkddkaaGreatDoorProg
import Derived.Test.YtomphjajkkddkaaGreatDoorZs27
import Derived.Test.YtomphjajkkddkaaGreatDoorZs24
import Derived.Test.YtomphjajkkddkaaGreatDoorZs09
import Derived.Test.YtomphjajkkddkaaGreatDoorZs04
import Derived.Test.YtomphjajkkddkaaGreatDoorZs01
import Derived.Test.YtomphjajkkddkaaGreatDoorZs05
import Derived.OwnWalk
import Derived.Great.BuildSlice
set_option maxRecDepth 100000
set_option maxHeartbeats 16000000
set_option linter.unusedSimpArgs false
set_option linter.unusedVariables false
open Go Go.RowKit
open Go renaming World->G,Calls->aD,Value->aE
open Go.RowKit renaming Below->aF,intOf->aG
open Go.Instr renaming index->aN
open Go.Value renaming int->O,agg->I,string->E,tuple->aA,slice->aB
open Go.IntKind renaming i64->J
open Go.Obj renaming cells->Y
open Go.Proofs.Tryz renaming prog->aO
namespace Go.Proofs.YtomphjajkkddkaaGreatDoor
namespace r9ga
open arr mem bF
theorem xfq(g:Int)(w:G):aD aO 99 #[O J g] w (zE w (.bool (okg g))):=by
 unfold okg;cases h1:g==95232
 ·cases h2:g==261888
  ·go_enter Tryz.func99,Tryz.ntmps99;go_wp2_with fail;go_ret;exact⟨rfl,rfl⟩
  ·go_enter Tryz.func99,Tryz.ntmps99;go_wp2_with fail;go_ret;exact⟨rfl,rfl⟩
 ·go_enter Tryz.func99,Tryz.ntmps99;go_wp2_with fail;go_ret;exact⟨rfl,rfl⟩
end r9ga
namespace r9pa
open arr mem bE rfld r9ga bF
theorem xl5(x g:Int)(w:G)(h:okg g=false):aD aO 100 #[O J x,O J g] w (zE w (.tuple #[O J 0,O J 0])):=by
 have Hg:=xfq g;rw[h]at Hg;go_enter Tryz.func100,Tryz.ntmps100;go_wp2_with fail;refine(Hg _).mono ?_;rintro e w1 ⟨rfl,rfl⟩;go_wp2_with fail;go_ret2;exact⟨rfl,rfl⟩
theorem xeb(x:Int)(w:G):aD aO 100 #[O J x,O J 95232] w (zE w (.tuple #[O J (cD 95232 x),O J (lw 95232 x)])):=by
 have hb:=xl9 x;have HH:U (cD 95232 x=if x%8380417-pl 95232 x=8380416 then 0 else (x%8380417-pl 95232 x) / (2*95232)):=⟨by unfold cD;rw[iP xb5]⟩;have HL:U (lw 95232 x=if x%8380417-pl 95232 x=8380416 then pl 95232 x-1 else pl 95232 x):=⟨by unfold lw;rw[iP xb5]⟩;obtain⟨hv,Hhv⟩:=aQ (cD 95232 x);obtain⟨lv,Hlv⟩:=aQ (lw 95232 x);rw[Hhv.o]at HH ⊢;rw[Hlv.o]at HL ⊢;have Hg:∀ w1:G,aD aO 99 #[O J 95232] w1 (zE w1 (.bool true)):=fun w1=>by have h:=xfq 95232 w1;rw[xb5]at h;exact h
 have Hr:=eU x;have Hc:=xdc (x%8380417) 190464;rw[show ce 190464 (x%8380417)=pl 95232 x from rfl]at Hc;obtain⟨l,hl⟩:=aQ (pl 95232 x);rw[hl.o]at HH HL Hc hb;have hrb : 0<=x%8380417/\x%8380417<8380417:=by omega
 obtain⟨r,hr⟩:=aQ (x%8380417);rw[hr.o]at HH HL Hc hb Hr hrb;obtain⟨d,hd⟩:=aP (r-l);have f1:J.wrap (r-l)=d:=by rw[hd,iN];omega
 have f2:J.wrap (l-1)=l-1:=bB;rw[hd]at HH HL hb;have hdb : 0<=d/\d<8480417+95232:=by omega
 clear hd;by_cases h1:d=8380416
 ·obtain rfl:hv=0:=by rw[HH.o,iP h1]
  obtain rfl:lv=l-1:=by rw[HL.o,iP h1]
  subst h1;clear HH HL hb hr hl;go_enter Tryz.func100,Tryz.ntmps100;go_wp2_with fail;refine(Hg _).mono ?_;rintro e w1 ⟨rfl,rfl⟩;go_wp2_with fail;refine(Hr _).mono ?_;rintro e w1 ⟨rfl,rfl⟩;go_wp2_with fail;refine(Hc _).mono ?_;rintro e w1 ⟨rfl,rfl⟩;go_wp2_with fail;go_ret2;exact⟨rfl,rfl⟩
 ·have hq:d.tdiv 190464=hv:=by rw[HH.o,iQ h1,iU hdb.1];rfl
  have hq2:d / 190464=hv:=by rw[HH.o,iQ h1];rfl
  have hw:J.wrap hv=hv:=by rw[<-hq2,iN];omega
  obtain rfl:lv=l:=by rw[HL.o,iQ h1]
  have h2:(d==8380416)=false:=jV.2 h1;clear HH HL hb hr hl h1;go_enter Tryz.func100,Tryz.ntmps100;go_wp2_with fail;refine(Hg _).mono ?_;rintro e w1 ⟨rfl,rfl⟩;go_wp2_with fail;refine(Hr _).mono ?_;rintro e w1 ⟨rfl,rfl⟩;go_wp2_with fail;refine(Hc _).mono ?_;rintro e w1 ⟨rfl,rfl⟩;go_wp2_with fail;go_ret2;exact⟨rfl,rfl⟩
theorem xea(x:Int)(w:G):aD aO 100 #[O J x,O J 261888] w (zE w (.tuple #[O J (cD 261888 x),O J (lw 261888 x)])):=by
 have hb:=xl8 x;have HH:U (cD 261888 x=if x%8380417-pl 261888 x=8380416 then 0 else (x%8380417-pl 261888 x) / (2*261888)):=⟨by unfold cD;rw[iP xcg]⟩;have HL:U (lw 261888 x=if x%8380417-pl 261888 x=8380416 then pl 261888 x-1 else pl 261888 x):=⟨by unfold lw;rw[iP xcg]⟩;obtain⟨hv,Hhv⟩:=aQ (cD 261888 x);obtain⟨lv,Hlv⟩:=aQ (lw 261888 x);rw[Hhv.o]at HH ⊢;rw[Hlv.o]at HL ⊢;have Hg:∀ w1:G,aD aO 99 #[O J 261888] w1 (zE w1 (.bool true)):=fun w1=>by have h:=xfq 261888 w1;rw[xcg]at h;exact h
 have Hr:=eU x;have Hc:=xdc (x%8380417) 523776;rw[show ce 523776 (x%8380417)=pl 261888 x from rfl]at Hc;obtain⟨l,hl⟩:=aQ (pl 261888 x);rw[hl.o]at HH HL Hc hb;have hrb : 0<=x%8380417/\x%8380417<8380417:=by omega
 obtain⟨r,hr⟩:=aQ (x%8380417);rw[hr.o]at HH HL Hc hb Hr hrb;obtain⟨d,hd⟩:=aP (r-l);have f1:J.wrap (r-l)=d:=by rw[hd,iN];omega
 have f2:J.wrap (l-1)=l-1:=bB;rw[hd]at HH HL hb;have hdb : 0<=d/\d<8480417+261888:=by omega
 clear hd;by_cases h1:d=8380416
 ·obtain rfl:hv=0:=by rw[HH.o,iP h1]
  obtain rfl:lv=l-1:=by rw[HL.o,iP h1]
  subst h1;clear HH HL hb hr hl;go_enter Tryz.func100,Tryz.ntmps100;go_wp2_with fail;refine(Hg _).mono ?_;rintro e w1 ⟨rfl,rfl⟩;go_wp2_with fail;refine(Hr _).mono ?_;rintro e w1 ⟨rfl,rfl⟩;go_wp2_with fail;refine(Hc _).mono ?_;rintro e w1 ⟨rfl,rfl⟩;go_wp2_with fail;go_ret2;exact⟨rfl,rfl⟩
 ·have hq:d.tdiv 523776=hv:=by rw[HH.o,iQ h1,iU hdb.1];rfl
  have hq2:d / 523776=hv:=by rw[HH.o,iQ h1];rfl
  have hw:J.wrap hv=hv:=by rw[<-hq2,iN];omega
  obtain rfl:lv=l:=by rw[HL.o,iQ h1]
  have h2:(d==8380416)=false:=jV.2 h1;clear HH HL hb hr hl h1;go_enter Tryz.func100,Tryz.ntmps100;go_wp2_with fail;refine(Hg _).mono ?_;rintro e w1 ⟨rfl,rfl⟩;go_wp2_with fail;refine(Hr _).mono ?_;rintro e w1 ⟨rfl,rfl⟩;go_wp2_with fail;refine(Hc _).mono ?_;rintro e w1 ⟨rfl,rfl⟩;go_wp2_with fail;go_ret2;exact⟨rfl,rfl⟩
theorem xf1(x g:Int)(w:G):aD aO 100 #[O J x,O J g] w (zE w (.tuple #[O J (cD g x),O J (lw g x)])):=by
 cases h:okg g
 ·rw[xol h,xo4 h];exact xl5 x g w h
 ·rcases xlz h with rfl | rfl
  ·exact xeb x w
  ·exact xea x w
end r9pa
namespace r9us
open arr mem bD aT aV bF
theorem xnb(hf f:Nat->Int)(g:Int)(hg:g=95232\/g=261888)(w:G):
 aD aO 46 #[I (FL J 256 hf),I (FL J 256 f),O J g] w (zB w (I (FL J 256 fun i=>us g (hf i) (f i)))):=by
 have bR:okg g=true:=by rcases hg with rfl | rfl<;>decide
 have hpb:U (∀ x,(0<=cD g x/\cD g x<8380416 / (2*g)) /\ -261888<=lw g x/\lw g x<=261888):=⟨fun x=>by
  rcases hg with rfl | rfl
  ·have:=bF.xeb x;omega
  ·have:=bF.xea x;omega⟩
 obtain⟨d,hd⟩:∃ d:Int,2*g=d:=⟨_,rfl⟩;have hdw:J.wrap (2*g)=d:=bB;obtain⟨q,hq⟩:∃ q:Int,(8380416:Int) / d=q:=⟨_,rfl⟩;have hq2 : 1<=q/\q<=100:=by rw[<-hq,<-hd];rcases hg with rfl | rfl<;>decide
 have hqt:Int.tdiv 8380416 d=q:=by rw[iU (by decide)];exact hq
 have hqw:J.wrap q=q:=bB;have hd0:(d==0)=false:=by simp;omega
 have hd1:¬ d=0:=by omega
 have hq0:(q==0)=false:=by simp;omega
 have hq1:¬ q=0:=by omega
 have HUs:U (∀ y x:Int,us g y x=if y=0 then cD g x else if 0<lw g x then (cD g x+1)%q else (cD g x+q-1)%q):=⟨fun y x=>by unfold us;rw[iP bR,hd,hq]⟩;rw[hd,hq]at hpb;obtain⟨hz,hsize⟩:=iY aX;obtain⟨z,HZ⟩:=aQ (FL J 256 fun _=>0);rw[HZ.o]at hz;have Hzs:=dP HZ;obtain⟨F,HF⟩:∃ F:Nat->Int,U (F=fun i=>us g (hf i) (f i)):=⟨_,⟨rfl⟩⟩;have HFi:U (∀ i,F i=us g (hf i) (f i)):=⟨fun i=>by rw[HF.o]⟩;rw[<-HF.o];clear HF;have sz:∀ h:Nat->Int,(aO.info? 76).map (·.size)=some (FL J 256 h).size:=fun h=>by rw[cC];exact hsize
 obtain⟨R,HR⟩:=aQ (FL J 256 F);have Ri:U ((aO.info? 76).map (·.size)=some R.size):=⟨by rw[<-HR.o];exact sz _⟩;have Ro:=eJ HR;have Rz:=gJ Hzs HR;obtain⟨Iq,HI⟩:=aQ (FL J 256 f);have Ii:U ((aO.info? 76).map (·.size)=some Iq.size):=⟨by rw[<-HI.o];exact sz _⟩;obtain⟨Jq,HJ⟩:=aQ (FL J 256 hf);rw[HR.o,HI.o,HJ.o];clear hsize sz;have Hg:∀ w1:G,aD aO 99 #[O J g] w1 (zE w1 (.bool true)):=fun w1=>by have h:=r9ga.xfq g w1;rw[bR]at h;exact h
 have Hix:U (∀ (i:Nat),i<256->∀ w1:G,(aN 76 (I Iq) (O J (i:Int))).run aO w1=.ok (O J (f i)) w1):=⟨fun i hi w1=>by rw[<-HI.o];exact xev f i hi w1⟩;have Hpart:=D (fun x w1=>r9pa.xf1 x g w1);have Hq:=D hq2;clear hg bR hd hq hq2;go_enter Tryz.func46,Tryz.ntmps46;go_wp2_with fail;refine(Hg _).mono ?_;rintro e w1 ⟨rfl,rfl⟩;go_wp2_with fail;clear hz;obtain⟨W,hW⟩:=aP (((w.alloc (Y Jq 76)).alloc (Y Iq 76)).alloc (Y z 76));obtain⟨b0,b1,b2,hWs,hWb⟩:=three hW;rw[hW];clear hW;have B0:U (W.heap[w.heap.size]? = some (Y (FL J 256 hf) 76 (0,0))):=⟨by rw[HJ.o];exact b0⟩;have B1:=D b1;have B2:=D b2;have HWs:U (w.heap.size+3<=W.heap.size):=⟨by omega⟩;have HWb:=D hWb;clear hWs hWb b0 b1 b2 hdw hqt hqw hd0 hd1;refine nC 76 _ rfl (w.heap.size+1) rfl 76 Iq (0,0) _ B1.o zX rfl Ii.o ?_;go_wp2_with fail;go_loopw [20] (fun v wr=>∃ i:Nat,i<=256/\v=O J (i:Int)/\U (At (w.heap.size+1) (FL J 256 (pt F f i)) 76 W wr)) (fun v _=>256-(aG v).toNat)
 case atStart=>exact⟨0,iX _,rfl,⟨by rw[xbf,HI.o];exact At.refl B1.o⟩⟩
 case round=>
  obtain⟨i,hi,rfl,A0⟩:=hrel;by_cases hlt:i<256
  ·have hiz:(i:Int)<256:=by omega
   have hx0:=Hix.o i hlt wr;obtain⟨x,hx⟩:=aP (f i);rw[hx]at hx0;obtain⟨y,hy⟩:=aP (hf i);have cy:wr.cell? ⟨w.heap.size,i,none⟩=some (O J y):=by rw[<-hy];exact fZ (A0.o.other (by have:=HWs.o;omega) (by omega) B0.o) i hlt
   have HV:U (F i=us g y x):=⟨by rw[HFi.o,hx,hy]⟩;have Hp:=Hpart.o x;have hb:=hpb.o x;have HU0:=HUs.o y x;obtain⟨h0,hh0⟩:=aQ (cD g x);obtain⟨l0,hl0⟩:=aQ (lw g x);rw[hh0.o,hl0.o]at Hp HU0 hb;have HU0:=D HU0;have hq2:=Hq.o;have hbb:=hb.1;have hbc:=hb.2;clear hx hy hb hh0 hl0;by_cases h1:y=0
   ·have h1b:(y != 0)=false:=by rw[h1];rfl
    have HU:U (aT.upd (pt F f i) i h0=pt F f (i+1)):=⟨xa1 F f i h0 (by rw[HV.o,HU0.o,iP h1])⟩;clear h1 HV HU0 hbb hbc hq2;go_wp2_with fail;refine(Hp _).mono ?_;rintro e wx ⟨rfl,rfl⟩;go_wp2_with ((with_reducible refine cU A0 rfl _ _ _ rfl rfl ?_);refine⟨_,_,_,rfl,rfl,rfl,by rw[cC];exact hlt,?_⟩;intro wn A2;rw[eV,HU.o]at A2);go_roundw
    case rel=>exact⟨i+1,by omega,by go_num,A2⟩
    case measure=>simp[aG];omega
   ·have h1b:(y != 0)=true:=bne_iff_ne.2 h1;by_cases h2 : 0<l0
    ·obtain⟨n,hn⟩:=aP (h0+1);have f1:J.wrap (h0+1)=n:=bB;obtain⟨v,hv⟩:=aP (n%q);have f2:n.tmod q=v:=by rw[jB (by omega)];exact hv
     have f4:n%q=v:=hv;have hvb : 0<=v/\v<q:=by rw[<-hv];exact⟨lK _ (by omega),kX _ (by omega)⟩
     have f3:J.wrap v=v:=bB;have HU:U (aT.upd (pt F f i) i v=pt F f (i+1)):=⟨xa1 F f i v (by rw[HV.o,HU0.o,iQ h1,iP h2,hn,hv])⟩;have hn0 : 0<=n:=by omega
     clear h1 HV HU0 hbb hbc hn hv hq2 hvb;go_wp2_with fail;refine(Hp _).mono ?_;rintro e wx ⟨rfl,rfl⟩;go_wp2_with ((with_reducible refine cU A0 rfl _ _ _ rfl rfl ?_);refine⟨_,_,_,rfl,rfl,rfl,by rw[cC];exact hlt,?_⟩;intro wn A2;rw[eV,HU.o]at A2);go_roundw
     case rel=>exact⟨i+1,by omega,by go_num,A2⟩
     case measure=>simp[aG];omega
    ·obtain⟨m,hm⟩:=aP (h0+q);have f0:J.wrap (h0+q)=m:=bB;obtain⟨n,hn⟩:=aP (m-1);have f1:J.wrap (m-1)=n:=bB;obtain⟨v,hv⟩:=aP (n%q);have f2:n.tmod q=v:=by rw[jB (by omega)];exact hv
     have f4:n%q=v:=hv;have hvb : 0<=v/\v<q:=by rw[<-hv];exact⟨lK _ (by omega),kX _ (by omega)⟩
     have f3:J.wrap v=v:=bB;have HU:U (aT.upd (pt F f i) i v=pt F f (i+1)):=⟨xa1 F f i v (by rw[HV.o,HU0.o,iQ h1,iQ h2,hm,hn,hv])⟩;have hn0 : 0<=n:=by omega
     clear h1 HV HU0 hbb hbc hn hv hm hq2 hvb;go_wp2_with fail;refine(Hp _).mono ?_;rintro e wx ⟨rfl,rfl⟩;go_wp2_with ((with_reducible refine cU A0 rfl _ _ _ rfl rfl ?_);refine⟨_,_,_,rfl,rfl,rfl,by rw[cC];exact hlt,?_⟩;intro wn A2;rw[eV,HU.o]at A2);go_roundw
     case rel=>exact⟨i+1,by omega,by go_num,A2⟩
     case measure=>simp[aG];omega
  ·obtain rfl:i=256:=by omega
   simp only[jE];rw[xbc,HR.o]at A0;have Hrow:=D A0.o.row;have Hres:U (wr.heap[w.heap.size+2]? = some (Y z 76 (0,0))):=⟨A0.o.other (by have:=HWs.o;omega) (by omega) B2.o⟩;have HB:U (zb w wr):=⟨HWb.o.trans (A0.o.below (by have:=HWs.o;omega) (by omega))⟩;clear A0;go_wp2_with (first
    | (refine iL rfl 76 _ rfl (w.heap.size+1) rfl 76 R (0,0) _ Hrow.o zX rfl Ri.o ?_)
    | (refine iS rfl 76 _ _ rfl (w.heap.size+2) R rfl rfl 76 _ Hres.o Ri.o Rz.o Ro.o ?_))
   refine iV (v:=I R) (jC rfl _ _ (w.heap.size+2) 76 _ (0,0) _ rfl (jD _ _ _ _ _ _ Hres.o) zX rfl Ri.o) rfl ?_;exact⟨rfl,HB.o.trans (below_setRow _ _ _ (by omega))⟩
end r9us
namespace rkpu
open arr mem bD aT aV bS aW aY bA bY bF bQ bZ dJ fA
theorem xmb(k l e t a b o s:Int)(x:ByteArray)(w:G)(h:bP k l e t a b o s=true)(hx:(x.size:Int)≠gX k):
 aD aO 36 #[I (bO k l e t a b o s),E x] w (zB w (aA #[E ⟨#[]⟩,aB none 0 0,O J 3])):=by
 obtain⟨hk,-⟩:=xbe h;have hn0:(gX k==0)=false:=by unfold gX;simp;omega
 have hn1:((x.size:Int) != gX k)=true:=by simpa using hx
 have HS:U (∀ w1:G,aD aO 53 #[I (bO k l e t a b o s)] w1 (zB w1 (.tuple #[O J (gX k),O J (sz2 k l e),O J (sz3 k l a o s)]))):=⟨fun w1=>by
  have h1:=xdl k l e t a b o s w1;unfold szs at h1;rw[iP h]at h1;exact h1⟩
 obtain⟨C,HC⟩:=aQ ((bO k l e t a b o s):Array aE);rw[HC.o]at HS ⊢;have HCs:U ((aO.info? 37).map (·.size)=some C.size):=⟨by rw[<-HC.o];kernel_rfl⟩;obtain⟨n1,en1⟩:=aP (gX k);obtain⟨n2,en2⟩:=aP (sz2 k l e);obtain⟨n3,en3⟩:=aP (sz3 k l a o s);rw[en1,en2,en3]at HS;rw[en1]at hn0 hn1;obtain⟨W,hW⟩:=aP (w.alloc (Y C 37));obtain⟨r0,hWs,b0⟩:=one hW;have L0:U (W.heap[w.heap.size]? = some (Y C 37 (0,0))):=⟨r0⟩;have BW:=D b0;have HW:=D hW;clear hW r0 hWs b0 h hx hk en1 en2 en3;go_enter Tryz.func36,Tryz.ntmps36;go_wp2_with (first
  | (rw[HW.o])
  | (refine iL rfl 37 _ rfl w.heap.size rfl 37 _ (0,0) _ L0.o zZ rfl HCs.o ?_))
 refine(HS.o _).mono ?_;rintro x u1 ⟨rfl,hb1⟩;have B1:=bK BW hb1;clear hb1;go_wp2_with fail;go_ret3
 exact⟨rfl,B1.o⟩
theorem xje(kn:Nat)(l e t a b o s:Int)(x:ByteArray)(w:G)(h:bP (kn:Int) l e t a b o s=true)(hx:x.size=32+320*kn):
 aD aO 36 #[I (bO (kn:Int) l e t a b o s),E x] w fun r w'=>(∃ v,r=.returned (aA #[E (x.extract 0 32),v,O J 0])/\w'.ownsRow w.heap.size 76 256 v kn (cq (rdU x 32 10) kn))/\zb w w':=by
 obtain⟨hk,-⟩:=xbe h;have hk : 1<=kn/\kn<=8:=by omega
 have hn0:(gX kn==0)=false:=by unfold gX;simp;omega
 have hxz:(x.size:Int)=gX kn:=by unfold gX;omega
 have hn1:((x.size:Int) != gX kn)=false:=by rw[hxz];simp
 obtain⟨i0,hi,hz0,hz1,hz2⟩:=aY.parts bX;obtain⟨hz,hsize⟩:=iY aV.aX;obtain⟨z,HZ⟩:=aQ (FL J 256 fun _=>0);rw[HZ.o]at hz hz0;have HI:=D (jA hi (jA hz0 (jA hz1 hz2)));have Hzs:=dP HZ;have Hzc:U ((Value.agg z).cells.size=256):=⟨Hzs.o⟩;have Hsize:=D hsize;have HS:U (∀ w1:G,aD aO 53 #[I (bO (kn:Int) l e t a b o s)] w1 (zB w1 (.tuple #[O J (gX kn),O J (sz2 kn l e),O J (sz3 kn l a o s)]))):=⟨fun w1=>by
  have h1:=xdl kn l e t a b o s w1;unfold szs at h1;rw[iP h]at h1;exact h1⟩
 have HU:U (∀ (i:Nat),i<kn->∀ w1:G,aD aO 92 #[E (x.extract (32+320*i) (352+320*i)),O J 1023] w1 (zB w1 (aA #[I (FL J 256 (rdU x 32 10 i)),O J 0]))):=⟨fun i hi w1=>by
  have hsz:(x.extract (32+320*i) (352+320*i)).size=320:=by rw[size_extract _ _ _ (by omega) (by omega)];omega
  have h1:=bY.xgh (x.extract (32+320*i) (352+320*i)) 1023 w1 (by decide) (by decide) (by rw[hsz,xdf]);rw[xdf,iP (show fK (up (x.extract (32+320*i) (352+320*i)) 10) 1023 from fun j _=>by
   have:=bM.xjz (x.extract (32+320*i) (352+320*i)) 10 j;omega)]at h1
  unfold rdU;rw[show 32+32*10*i+32*10=352+320*i by omega,show 32+32*10*i=32+320*i by omega];exact h1⟩
 obtain⟨R,HR⟩:=aQ (rdU x 32 10);simp only[HR.o]at HU;rw[HR.o];obtain⟨C,HC⟩:=aQ ((bO (kn:Int) l e t a b o s):Array aE);rw[HC.o]at HS ⊢;have HCs:U ((aO.info? 37).map (·.size)=some C.size):=⟨by rw[<-HC.o];kernel_rfl⟩;obtain⟨n1,en1⟩:=aP (gX kn);obtain⟨n2,en2⟩:=aP (sz2 kn l e);obtain⟨n3,en3⟩:=aP (sz3 kn l a o s);rw[en1,en2,en3]at HS;rw[en1]at hn0 hn1;obtain⟨W,hW⟩:=aP (w.alloc (Y C 37));obtain⟨r0,hWs,b0⟩:=one hW;have L0:U (W.heap[w.heap.size]? = some (Y C 37 (0,0))):=⟨r0⟩;have BW:=D b0;have HWs:=D hWs;have HW:=D hW;have Hk:=D hk;have Hx:=D hx;clear hW r0 hWs b0 h hk en1 en2 en3 hxz hi hz0 hz1 hz2 hsize HR hx;go_enter Tryz.func36,Tryz.ntmps36;go_wp2_with (first
  | (rw[HW.o])
  | (refine iL rfl 37 _ rfl w.heap.size rfl 37 _ (0,0) _ L0.o zZ rfl HCs.o ?_))
 refine(HS.o _).mono ?_;rintro r u1 ⟨rfl,hb1⟩;have B1:=bK BW hb1;have cK:u1.cell? ⟨w.heap.size,0,none⟩=some (O J (kn:Int)):=aZ ((hb1.block _ (by rw[HWs.o];omega)).trans L0.o) (by rw[<-HC.o];rfl);clear hb1;go_wp2_with fail;clear cK;go_loopw [10,28] (fun lv iv wr=>∃ r:Nat,r<=kn/\iv=O J (r:Int)/\U (wr.ownsRow w.heap.size 76 256 lv r (cq R r))/\U (zb w wr)) (fun _ iv _=>kn-(aG iv).toNat)
 case atStart=>exact⟨0,iX _,rfl,⟨⟨rfl,kW ⟨rfl,rfl⟩⟩⟩,B1⟩
 case round=>
  obtain⟨r,hr,rfl,Oy,Hb⟩:=hrel;by_cases hlt:r<kn
  ·have hrz:(r:Int)<(kn:Int):=by omega
   have hr8:r<8:=by have:=Hk.o;omega
   have hxs:=Hx.o;have f1:J.wrap (320*(r:Int))=((320*r:Nat):Int):=bB;obtain⟨q,hq⟩:=aP (320*r);rw[hq]at f1;have hqs:q+320<=320*kn:=by omega
   have hqx : 352+q<=x.size:=by omega
   have hqz:((352+q:Nat):Int)<=(x.size:Int):=by omega
   clear hxs;have hq8:q<=2560:=by omega
   have f2:J.wrap (32+(q:Int))=((32+q:Nat):Int):=bB;have f3:J.wrap (352+(q:Int))=((352+q:Nat):Int):=bB;have HUr:=HU.o r hlt;rw[hq]at HUr;obtain⟨X,HX⟩:=aQ (x.extract (32+q) (352+q));have hex:=HX.o;rw[HX.o]at HUr;obtain⟨F,HF⟩:=aQ (FL J 256 (R r));rw[HF.o]at HUr;have HUr:=D HUr;have Fs:=dP HF;have Fo:=eJ HF;have Fi:=zsz Fs Hsize.o;have Fz:U (z.size=F.size):=⟨by rw[Hzs.o,Fs.o]⟩;have Hlt:=D hlt;clear hq;go_wp2_with fail;refine(HUr.o _).mono ?_;rintro e w3 ⟨rfl,hb3⟩;obtain⟨W4,hW4⟩:=aP (w3.alloc (Y F 76));obtain⟨r4,hs4,b4⟩:=one hW4;have R4:=D r4;have D4:U (zb wr W4):=⟨hb3.trans (b4.mono hb3.size)⟩;have B4:=bK Hb D4.o;have O4:U (W4.ownsRow w.heap.size 76 256 u10 r (cq R r)):=⟨xcv Oy.o D4.o⟩;have hws:w.heap.size<=W4.heap.size:=B4.o.size;have HW4:=D hW4;clear hb3 hW4 r4 hs4 b4;go_wp2_with (first
    | (refine fV rfl 76 _ _ rfl F rfl rfl Fi.o (by exact Fz.o) Fo.o rfl ?_)
    | (rw[HW4.o])
    | (refine iL rfl 76 _ rfl w3.heap.size rfl 76 F (0,0) _ R4.o zX rfl Fi.o ?_))
   refine wp_buildSlice 44 76 1 _ rfl F i0 (I z) Tryz.underlying44 HI.o.1 HI.o.2.1 (by rw[HI.o.2.2.1];decide) (by rw[HI.o.2.2.1];decide) ?hf ?_
   case hf=>
    go_simp
    exact⟨⟨jN (fun h=>h (Fs.o.trans HI.o.2.2.1.symm)),by rw[Fs.o,HI.o.2.2.1];exact iM _⟩,xfp F _ Fs.o (by simp[HI.o.2.2.1])⟩
   go_wp2_with (at_builtin;refine kH _ rfl _ _ 44 rfl w.heap.size 76 i0 (I z) 256 2048 Tryz.underlying44 HI.o.1 HI.o.2.1 HI.o.2.2.1 HI.o.2.2.2 Hzc.o (by decide) _ _ _ rfl (O4.o.alloc _) ⟨W4.heap.size,0,none⟩ 1 1 F.toList rfl (by rw[jM,Fs.o]) (fun j u hu=>xdw hu) (fun u hu=>xek Fo.o u hu) (by unfold maxLen;omega) (by omega) (by rw[size_alloc];omega) ?_);intro v' w8 hown' hgrow _;have hb8:aF w.heap.size W4 w8:=((iR w.heap.size W4).alloc hws _).grown hgrow (by rw[size_alloc];omega) (fun k hk=>(O4.o.lt k hk).1);have B8:U (zb w w8):=⟨B4.o.trans hb8⟩;have O8:U (w8.ownsRow w.heap.size 76 256 v' (r+1) (cq R (r+1))):=⟨by rw[cq,HF.o];exact hown'⟩;clear hown' hgrow hb8;go_wp2_with fail;go_roundw
   case rel=>exact⟨r+1,by have:=Hlt.o;omega,by go_num,O8,B8⟩
   case measure=>have:=Hlt.o;simp[aG];omega
  ·obtain rfl:r=kn:=by omega
   have hxs : 32<=x.size:=by have:=Hx.o;omega
   go_wp2_with fail;go_ret3
   exact⟨⟨_,rfl,Oy.o⟩,Hb.o⟩
end rkpu
namespace radd
open arr mem bD aT aV bE rfld
theorem xdr(f g:Nat->Int)(w:G):
 aD aO 96 #[I (FL J 256 f),I (FL J 256 g)] w (zB w (I (FL J 256 fun i=>(f i+g i)%8380417))):=by
 obtain⟨hz,hsize⟩:=iY aX;obtain⟨z,HZ⟩:=aQ (FL J 256 fun _=>0);rw[HZ.o]at hz;have Hzs:=dP HZ;obtain⟨F,HF⟩:∃ F:Nat->Int,U (F=fun i=>(f i+g i)%8380417):=⟨_,⟨rfl⟩⟩;have hFi:∀ i,F i=(fun i=>(f i+g i)%8380417) i:=fun i=>by rw[HF.o]
 have HFi:=D hFi;rw[<-HF.o];clear HF hFi;obtain⟨R,HR⟩:=aQ (FL J 256 F);have Ri:=eE HR hsize;have Ro:=eJ HR;have Rz:=gJ Hzs HR;rw[HR.o];have Hred:=D eU;clear hsize;go_enter Tryz.func96,Tryz.ntmps96;go_wp2_with fail;clear hz;obtain⟨W,hW⟩:=aP (((w.alloc (Y (FL J 256 f) 76)).alloc (Y (FL J 256 g) 76)).alloc (Y z 76));obtain⟨b0,b1,b2,hWs,hWb⟩:=three hW;rw[hW];clear hW;have B0:=D b0;have B1:=D b1;have BR:=D b2;have HWs:U (w.heap.size+3<=W.heap.size):=⟨by omega⟩;have HWb:=D hWb;clear hWs hWb b0 b1 b2;go_loopw [6] (fun v wr=>∃ i:Nat,i<=256/\v=O J (i:Int)/\U (At w.heap.size (FL J 256 (pt F f i)) 76 W wr)) (fun v _=>256-(aG v).toNat)
 case atStart=>exact⟨0,iX _,rfl,⟨by rw[xbf];exact At.refl B0.o⟩⟩
 case round=>
  obtain⟨i,hi,rfl,A0⟩:=hrel;by_cases hlt:i<256
  ·have hiz:(i:Int)<256:=by omega
   obtain⟨x,hx⟩:=aP (f i);have ca:wr.cell? ⟨w.heap.size,i,none⟩=some (O J x):=by
    have h9:=fZ A0.o.row i hlt;rw[xc5,hx]at h9;exact h9
   obtain⟨y,hy⟩:=aP (g i);have cb:wr.cell? ⟨w.heap.size+1,i,none⟩=some (O J y):=by
    rw[<-hy];exact fZ (A0.o.other (by have:=HWs.o;omega) (by omega) B1.o) i hlt
   have HV:U (F i=(x+y)%8380417):=⟨by rw[HFi.o,hx,hy]⟩;obtain⟨x1,hx1⟩:=aQ (x%8380417);obtain⟨y1,hy1⟩:=aQ (y%8380417);have hs:J.wrap (x1+y1)=x1+y1:=by rw[<-hx1.o,<-hy1.o,iN];omega
   obtain⟨s,hs1⟩:=aQ (x1+y1);have hs2:s%8380417=F i:=by rw[HV.o,<-hs1.o,<-hx1.o,<-hy1.o];omega
   obtain⟨v,hv⟩:=aQ (s%8380417);have Hx:∀ w1:G,aD aO 95 #[O J x] w1 (zE w1 (O J x1)):=fun w1=>by rw[<-hx1.o];exact eU x w1
   have Hy:∀ w1:G,aD aO 95 #[O J y] w1 (zE w1 (O J y1)):=fun w1=>by rw[<-hy1.o];exact eU y w1
   have Hs:∀ w1:G,aD aO 95 #[O J (x1+y1)] w1 (zE w1 (O J v)):=fun w1=>by rw[hs1.o,<-hv.o];exact eU s w1
   have HU:U (upd (pt F f i) i v=pt F f (i+1)):=⟨xa1 F f i v (by rw[<-hv.o,hs2])⟩;clear hy hs2;clear hx;go_wp2_with fail;refine gZ 12 (by kernel_rfl) (by kernel_rfl) ?_;simp only[jH,jU,iW,jK];repeat still_step
   still_call (Hx _)
   repeat still_step
   still_call (Hy _)
   repeat still_step
   still_call (Hs _)
   repeat still_step
   refine jR ?_;clear cb;clear ca;have A1:U (At w.heap.size (FL J 256 (pt F f i)) 76 W wr.drew):=⟨eN A0.o⟩;clear A0
   with_reducible refine cU A1 rfl _ _ _ rfl rfl ?_
   refine⟨_,_,_,rfl,rfl,rfl,by rw[cC];exact hlt,?_⟩;intro wn HR;rw[eV,HU.o]at HR;go_wp2_with fail;go_roundw
   case rel=>exact⟨i+1,by omega,by go_num,HR⟩
   case measure=>simp[aG];omega
  ·obtain rfl:i=256:=by omega
   simp only[jE];rw[xbc,HR.o]at A0;have Hrow:=D A0.o.row;have Hres:U (wr.heap[w.heap.size+2]? = some (Y z 76 (0,0))):=⟨A0.o.other (by have:=HWs.o;omega) (by omega) BR.o⟩;have HB:U (zb w wr):=⟨HWb.o.trans (A0.o.below (by have:=HWs.o;omega) (iM _))⟩;clear A0;go_wp2_with (first
    | (refine iL rfl 76 _ rfl w.heap.size rfl 76 R (0,0) _ Hrow.o zX rfl Ri.o ?_)
    | (refine iS rfl 76 _ _ rfl (w.heap.size+2) R rfl rfl 76 _ Hres.o Ri.o Rz.o Ro.o ?_))
   refine iV (v:=I R) (jC rfl _ _ (w.heap.size+2) 76 _ (0,0) _ rfl (jD _ _ _ _ _ _ Hres.o) zX rfl Ri.o) rfl ?_;exact⟨rfl,HB.o.trans (below_setRow _ _ _ (by omega))⟩
end radd
namespace rscale
open arr mem bD aT aV bE rfld
theorem xf9(f:Nat->Int)(n:Int)(w:G):
 aD aO 45 #[I (FL J 256 f),O J n] w (zB w (I (FL J 256 fun i=>(f i*n)%8380417))):=by
 obtain⟨hz,hsize⟩:=iY aX;obtain⟨z,HZ⟩:=aQ (FL J 256 fun _=>0);rw[HZ.o]at hz;have Hzs:=dP HZ;obtain⟨F,HF⟩:∃ F:Nat->Int,U (F=fun i=>(f i*n)%8380417):=⟨_,⟨rfl⟩⟩;have hFi:∀ i,F i=(fun i=>(f i*n)%8380417) i:=fun i=>by rw[HF.o]
 have HFi:=D hFi;rw[<-HF.o];clear HF hFi;obtain⟨R,HR⟩:=aQ (FL J 256 F);have Ri:=eE HR hsize;have Ro:=eJ HR;have Rz:=gJ Hzs HR;rw[HR.o];have Hred:=D eU;have Hn:U (0<=n%8380417/\n%8380417<8380417):=⟨by omega⟩;clear hsize;go_enter Tryz.func45,Tryz.ntmps45;go_wp2_with fail;clear hz;refine(eU n _).mono ?_;rintro e w1 ⟨rfl,hw1⟩;subst hw1;obtain⟨c,hc⟩:=aQ (n%8380417);rw[hc.o];have hcb : 0<=c/\c<8380417:=by have:=Hn.o;rw[hc.o]at this;exact this
 clear Hn;go_wp2_with fail;obtain⟨W,hW⟩:=aP ((w.alloc (Y (FL J 256 f) 76)).alloc (Y z 76));obtain⟨b0,b1,hWs,hWb⟩:=two hW;rw[hW];clear hW;have B0:=D b0;have BR:=D b1;have HWs:U (w.heap.size+2<=W.heap.size):=⟨by omega⟩;have HWb:=D hWb;clear hWs hWb b0 b1;go_loopw [8] (fun v wr=>∃ i:Nat,i<=256/\v=O J (i:Int)/\U (At w.heap.size (FL J 256 (pt F f i)) 76 W wr)) (fun v _=>256-(aG v).toNat)
 case atStart=>exact⟨0,iX _,rfl,⟨by rw[xbf];exact At.refl B0.o⟩⟩
 case round=>
  obtain⟨i,hi,rfl,A0⟩:=hrel;by_cases hlt:i<256
  ·have hiz:(i:Int)<256:=by omega
   obtain⟨x,hx⟩:=aP (f i);have ca:wr.cell? ⟨w.heap.size,i,none⟩=some (O J x):=by
    have h9:=fZ A0.o.row i hlt;rw[xc5,hx]at h9;exact h9
   have HV:U (F i=(x*c)%8380417):=⟨by rw[HFi.o,hx,<-hc.o,nE,nE x (n%8380417),Int.emod_emod]⟩;obtain⟨x1,hx1⟩:=aQ (x%8380417);have hxb : 0<=x1/\x1<8380417:=by rw[<-hx1.o];omega
   have hp : 0<=x1*c/\x1*c<=8380417*8380417:=⟨oG hxb.1 hcb.1,Int.le_trans (lP (nF hxb.2) hcb.1) (mB (nF hcb.2) (by decide))⟩;have hs:J.wrap (x1*c)=x1*c:=bB;have hs2:(x1*c)%8380417=F i:=by rw[HV.o,<-hx1.o,nE,Int.emod_emod,<-nE]
   obtain⟨v,hv⟩:=aQ ((x1*c)%8380417);have Hx:∀ w1:G,aD aO 95 #[O J x] w1 fun e w'=>e=.returned (O J x1)/\w1=w':=fun w1=>by rw[<-hx1.o];exact(eU x w1).mono fun _ _ h=>⟨h.1,h.2.symm⟩
   have Hs:∀ w1:G,aD aO 95 #[O J (x1*c)] w1 fun e w'=>e=.returned (O J v)/\w1=w':=fun w1=>by rw[<-hv.o];exact(eU _ w1).mono fun _ _ h=>⟨h.1,h.2.symm⟩
   have HU:U (upd (pt F f i) i v=pt F f (i+1)):=⟨xa1 F f i v (by rw[<-hv.o,hs2])⟩;clear hs2 hp hxb;clear hx;go_wp2_with fail;refine(Hx _).mono ?_;rintro e w3 ⟨rfl,hw3⟩;subst hw3;go_wp2_with fail;refine(Hs _).mono ?_;rintro e w3 ⟨rfl,hw3⟩;subst hw3;clear ca;have A1:U (At w.heap.size (FL J 256 (pt F f i)) 76 W wr):=A0;clear A0;go_wp2_with ((with_reducible refine cU A1 rfl _ _ _ rfl rfl ?_);refine⟨_,_,_,rfl,rfl,rfl,(by rw[cC];exact hlt),?_⟩;intro wn HR;rw[eV,HU.o]at HR);go_roundw
   case rel=>exact⟨i+1,by omega,by go_num,HR⟩
   case measure=>simp[aG];omega
  ·obtain rfl:i=256:=by omega
   simp only[jE];rw[xbc,HR.o]at A0;have Hrow:=D A0.o.row;have Hres:U (wr.heap[w.heap.size+1]? = some (Y z 76 (0,0))):=⟨A0.o.other (by have:=HWs.o;omega) (by omega) BR.o⟩;have HB:U (zb w wr):=⟨HWb.o.trans (A0.o.below (by have:=HWs.o;omega) (iM _))⟩;clear A0;go_wp2_with (first
    | (refine iL rfl 76 _ rfl w.heap.size rfl 76 R (0,0) _ Hrow.o zX rfl Ri.o ?_)
    | (refine iS rfl 76 _ _ rfl (w.heap.size+1) R rfl rfl 76 _ Hres.o Ri.o Rz.o Ro.o ?_))
   refine iV (v:=I R) (jC rfl _ _ (w.heap.size+1) 76 _ (0,0) _ rfl (jD _ _ _ _ _ _ Hres.o) zX rfl Ri.o) rfl ?_;exact⟨rfl,HB.o.trans (below_setRow _ _ _ (by omega))⟩
end rscale
namespace rntimes
open arr mem bD aT aV bE rfld
theorem xcp(f g:Nat->Int)(w:G):
 aD aO 44 #[I (FL J 256 f),I (FL J 256 g)] w (zB w (I (FL J 256 fun i=>(f i*g i)%8380417))):=by
 obtain⟨hz,hsize⟩:=iY aX;obtain⟨z,HZ⟩:=aQ (FL J 256 fun _=>0);rw[HZ.o]at hz;have Hzs:=dP HZ;obtain⟨F,HF⟩:∃ F:Nat->Int,U (F=fun i=>(f i*g i)%8380417):=⟨_,⟨rfl⟩⟩;have hFi:∀ i,F i=(fun i=>(f i*g i)%8380417) i:=fun i=>by rw[HF.o]
 have HFi:=D hFi;rw[<-HF.o];clear HF hFi;obtain⟨R,HR⟩:=aQ (FL J 256 F);have Ri:=eE HR hsize;have Ro:=eJ HR;have Rz:=gJ Hzs HR;rw[HR.o];have Hred:=D eU;clear hsize;go_enter Tryz.func44,Tryz.ntmps44;go_wp2_with fail;clear hz;obtain⟨W,hW⟩:=aP (((w.alloc (Y (FL J 256 f) 76)).alloc (Y (FL J 256 g) 76)).alloc (Y z 76));obtain⟨b0,b1,b2,hWs,hWb⟩:=three hW;rw[hW];clear hW;have B0:=D b0;have B1:=D b1;have BR:=D b2;have HWs:U (w.heap.size+3<=W.heap.size):=⟨by omega⟩;have HWb:=D hWb;clear hWs hWb b0 b1 b2;go_loopw [6] (fun v wr=>∃ i:Nat,i<=256/\v=O J (i:Int)/\U (At w.heap.size (FL J 256 (pt F f i)) 76 W wr)) (fun v _=>256-(aG v).toNat)
 case atStart=>exact⟨0,iX _,rfl,⟨by rw[xbf];exact At.refl B0.o⟩⟩
 case round=>
  obtain⟨i,hi,rfl,A0⟩:=hrel;by_cases hlt:i<256
  ·have hiz:(i:Int)<256:=by omega
   obtain⟨x,hx⟩:=aP (f i);have ca:wr.cell? ⟨w.heap.size,i,none⟩=some (O J x):=by
    have h9:=fZ A0.o.row i hlt;rw[xc5,hx]at h9;exact h9
   obtain⟨y,hy⟩:=aP (g i);have cb:wr.cell? ⟨w.heap.size+1,i,none⟩=some (O J y):=by
    rw[<-hy];exact fZ (A0.o.other (by have:=HWs.o;omega) (by omega) B1.o) i hlt
   have HV:U (F i=(x*y)%8380417):=⟨by rw[HFi.o,hx,hy]⟩;obtain⟨x1,hx1⟩:=aQ (x%8380417);obtain⟨y1,hy1⟩:=aQ (y%8380417);have hxb : 0<=x1/\x1<8380417:=by rw[<-hx1.o];omega
   have hyb : 0<=y1/\y1<8380417:=by rw[<-hy1.o];omega
   have hp : 0<=x1*y1/\x1*y1<=8380417*8380417:=⟨oG hxb.1 hyb.1,Int.le_trans (lP (nF hxb.2) hyb.1) (mB (nF hyb.2) (by decide))⟩;have hs0:J.wrap (x1*y1)=x1*y1:=bB;have hmm:=nE x y 8380417;rw[hx1.o,hy1.o]at hmm;obtain⟨s,hs1⟩:=aQ (x1*y1);have hs2:s%8380417=F i:=by rw[HV.o,<-hs1.o,hmm]
   obtain⟨v,hv⟩:=aQ (s%8380417);have hs:J.wrap (x1*y1)=s:=by rw[hs0];exact hs1.o
   have hsn : 0<=s:=by rw[<-hs1.o];exact hp.1
   have hst:s.tmod 8380417=v:=by rw[jB hsn];exact hv.o
   have hsv:s%8380417=v:=hv.o;have Hx:∀ w1:G,aD aO 95 #[O J x] w1 (zE w1 (O J x1)):=fun w1=>by rw[<-hx1.o];exact eU x w1
   have Hy:∀ w1:G,aD aO 95 #[O J y] w1 (zE w1 (O J y1)):=fun w1=>by rw[<-hy1.o];exact eU y w1
   have HU:U (upd (pt F f i) i v=pt F f (i+1)):=⟨xa1 F f i v (by rw[<-hv.o,hs2])⟩;clear hy hs2 hmm hp hxb hyb hs0;clear hx;go_wp2_with fail;refine gZ 12 (by kernel_rfl) (by kernel_rfl) ?_;simp only[jH,jU,iW,jK];repeat still_step
   still_call (Hx _)
   repeat still_step
   still_call (Hy _)
   repeat still_step
   refine jR ?_;clear cb;clear ca;have A1:U (At w.heap.size (FL J 256 (pt F f i)) 76 W wr.drew):=⟨eN A0.o⟩;clear A0
   with_reducible refine cU A1 rfl _ _ _ rfl rfl ?_
   refine⟨_,_,_,rfl,rfl,rfl,by rw[cC];exact hlt,?_⟩;intro wn HR;rw[eV,HU.o]at HR;go_wp2_with fail;go_roundw
   case rel=>exact⟨i+1,by omega,by go_num,HR⟩
   case measure=>simp[aG];omega
  ·obtain rfl:i=256:=by omega
   simp only[jE];rw[xbc,HR.o]at A0;have Hrow:=D A0.o.row;have Hres:U (wr.heap[w.heap.size+2]? = some (Y z 76 (0,0))):=⟨A0.o.other (by have:=HWs.o;omega) (by omega) BR.o⟩;have HB:U (zb w wr):=⟨HWb.o.trans (A0.o.below (by have:=HWs.o;omega) (iM _))⟩;clear A0;go_wp2_with (first
    | (refine iL rfl 76 _ rfl w.heap.size rfl 76 R (0,0) _ Hrow.o zX rfl Ri.o ?_)
    | (refine iS rfl 76 _ _ rfl (w.heap.size+2) R rfl rfl 76 _ Hres.o Ri.o Rz.o Ro.o ?_))
   refine iV (v:=I R) (jC rfl _ _ (w.heap.size+2) 76 _ (0,0) _ rfl (jD _ _ _ _ _ _ Hres.o) zX rfl Ri.o) rfl ?_;exact⟨rfl,HB.o.trans (below_setRow _ _ _ (by omega))⟩
end rntimes
namespace rnthere
open arr mem bD aT aV nttm iK cY
theorem dI:(aO.info? 34).map (·.size)=some 465:=by kernel_rfl
theorem halves(m:Nat)(h:m<8) : 1<=128 / 2 ^ m/\128 / 2 ^ m=2 ^ (7-m)/\128 / 2 ^ m / 2=128 / 2 ^ (m+1)/\2*(128 / 2 ^ m)*2 ^ m=256/\2 ^ m<=128/\1<=2 ^ m/\128 / 2 ^ m<=128:=by
 have key:∀ m:Fin 8,1<=128 / 2 ^ m.val/\128 / 2 ^ m.val=2 ^ (7-m.val)/\128 / 2 ^ m.val / 2=128 / 2 ^ (m.val+1)/\2*(128 / 2 ^ m.val)*2 ^ m.val=256/\2 ^ m.val<=128/\1<=2 ^ m.val/\128 / 2 ^ m.val<=128:=by decide +kernel
 exact key ⟨m,h⟩
theorem xpn{z y:Int}(hz : 0<=z/\z<8380417)(hy : 0<=y/\y<8380417):J.wrap (z*y)=z*y/\0<=z*y:=by
 have hp : 0<=z*y/\z*y<=8380417*8380417:=⟨oG hz.1 hy.1,Int.le_trans (lP (nF hz.2) hy.1) (mB (nF hy.2) (by decide))⟩;exact⟨by rw[iN];omega,hp.1⟩
theorem xdp(T:Array aE)(Z:Nat->Int)(f:Nat->Int)(w:G)(hT:∀ k,k<256->T[209+k]? = some (O J (Z k))):
 aD aO 39 #[I T,I (FL J 256 f)] w (zB w (I (FL J 256 (aS (fun k=>Z k%8380417) 8 f)))):=by
 obtain⟨ζ,hζ⟩:=aQ (fun k=>Z k%8380417);have Hζ : U (∀ k,Z k%8380417 = ζ k):=⟨fun k=>by rw[<-hζ.o]⟩;rw[hζ.o];clear hζ;obtain⟨hz,hsize⟩:=iY aX;obtain⟨z,HZ⟩:=aQ (FL J 256 fun _=>0);rw[HZ.o]at hz;have Hzs:=dP HZ;obtain⟨R,HR⟩:=aQ (FL J 256 (aS ζ 8 f));have Ri:=eE HR hsize;have Ro:=eJ HR;have Rz:=gJ Hzs HR;have HT:=D hT;have Hred:=D rfld.eU;rw[HR.o];obtain⟨F,HF⟩:=aQ (FL J 256 f);rw[HF.o];obtain⟨V,hV⟩:=aP (((w.alloc (Y T 34)).alloc (Y F 76)).alloc (Y z 76));obtain⟨b0,b1,b2,hVs,hVb⟩:=three hV;have D0:=D b0;have D2:=D b2;have HVB:=D hVb;have HVs:=D hVs;have HV:=D hV;obtain⟨r,hr⟩:∃ r:Nat->Int,U (r=gB f):=⟨_,⟨rfl⟩⟩;have Hr:U (∀ i,r i=f i%8380417):=⟨fun i=>by rw[hr.o];rfl⟩;have Hr0:U (FL J 256 r=FL J 256 (aS ζ 0 f)):=⟨by rw[hr.o];rfl⟩;have A00:U (At (w.heap.size+1) (FL J 256 (pt r f 0)) 76 V V):=⟨by rw[xbf,HF.o];exact At.refl b1⟩;clear b0 b1 b2 hVs hVb hV HZ hsize hT HF hr;go_enter Tryz.func39,Tryz.ntmps39;go_wp2_with (rw[HV.o]);clear hz;go_loopw [12] (fun v wr=>∃ i:Nat,i<=256/\v=O J (i:Int)/\U (At (w.heap.size+1) (FL J 256 (pt r f i)) 76 V wr)) (fun v _=>256-(aG v).toNat)
 case atStart=>exact⟨0,iX _,rfl,A00⟩
 case round=>
  clear A00;obtain⟨i,hi,rfl,A0⟩:=hrel;by_cases hlt:i<256
  ·have hiz:(i:Int)<256:=by omega
   obtain⟨x,hx⟩:=aP (f i);have ca:wr.cell? ⟨w.heap.size+1,i,none⟩=some (O J x):=by
    have h9:=fZ A0.o.row i hlt;rw[xc5,hx]at h9;exact h9
   obtain⟨x1,hx1⟩:=aQ (x%8380417);have Hx:∀ w1:G,aD aO 95 #[O J x] w1 (zE w1 (O J x1)):=fun w1=>by rw[<-hx1.o];exact Hred.o x w1
   have HU:U (upd (pt r f i) i x1=pt r f (i+1)):=⟨xa1 r f i x1 (by rw[Hr.o,hx,hx1.o])⟩;have Hx:=D Hx;clear hx hx1;go_wp2_with fail;refine(Hx.o _).mono ?_;rintro e wr ⟨rfl,rfl⟩;clear ca;go_wp2_with ((with_reducible refine cU A0 rfl _ _ _ rfl rfl ?_);refine⟨_,_,_,rfl,rfl,rfl,(by rw[cC];exact hlt),?_⟩;intro wn HRn;rw[eV,HU.o]at HRn);go_roundw
   case rel=>exact⟨i+1,by omega,by go_num,HRn⟩
   case measure=>simp[aG];omega
  ·obtain rfl:i=256:=by omega
   simp only[jE];rw[xbc,Hr0.o]at A0;go_wp2_with fail;rename G=>w2
   go_loopw [7,6] (fun sv k wr=>∃ m:Nat,m<=8/\sv=O J ((128 / 2 ^ m:Nat):Int)/\k=O J ((2 ^ m-1:Nat):Int)/\U (At (w.heap.size+1) (FL J 256 (aS ζ m f)) 76 V wr)) (fun sv _ _=>(aG sv).toNat)
   case atStart=>exact⟨0,iX _,rfl,rfl,A0⟩
   case round=>
    clear A0;obtain⟨m,hm,rfl,rfl,A0⟩:=hrel;by_cases hlt:m<8
    ·obtain⟨h1,h2,h3,h4,h5,h6,h7⟩:=halves m hlt;obtain⟨s',hs'⟩:∃ s',128 / 2 ^ (m+1)=s':=⟨_,rfl⟩;obtain⟨s,hs⟩:=aP (128 / 2 ^ m);rw[hs',hs]at h3;rw[hs]at h1 h2 h4 h7 ⊢;have hnext:U (∀ j,j<256->dn (ly ζ (2 ^ m) s) s (aS ζ m f) (2 ^ m*s) j=aS ζ (m+1) f j):=⟨fun j hj=>by
      rw[xig (ly ζ (2 ^ m) s) (2 ^ m) s (by omega) _ j (by omega),h2];rfl⟩
     have hKn:U (2 ^ (m+1)-1=2 ^ m-1+2 ^ m):=⟨by rw[mG];omega⟩;obtain⟨K,hK⟩:=aP (2 ^ m);rw[hK]at hnext hKn h4 h5 h6 ⊢;obtain⟨h,hh⟩:=aQ (aS ζ m f);have Hh:U (∀ j,0<=h j/\h j<8380417):=⟨fun j=>by rw[<-hh.o];exact xr0 ζ m f j⟩;rw[hh.o]at hnext A0;obtain⟨q,hq⟩:=aP (K-1);have Hq:U (q+1=K):=⟨by omega⟩;rw[hq]at hKn ⊢;have hsz:(1:Int)<=(s:Int):=by omega
     have H4:=D h4;have Hs:=D hs';have H3:=D h3;have Hm:=D hlt;have Hsb:=D (jA h1 h7);have HK:=D (jA h6 h5);clear h1 h2 h3 h4 h5 h6 h7 hs hs' hK hh hq hlt;go_wp2_with fail;rename G=>w3
     go_loopw [8,6] (fun fv k wr=>∃ t:Nat,t<=K/\fv=O J ((2*s*t:Nat):Int)/\k=O J ((q+t:Nat):Int)/\U (At (w.heap.size+1) (FL J 256 (dn (ly ζ K s) s h (t*s))) 76 V wr)) (fun fv _ _=>256-(aG fv).toNat)
     case atStart=>exact⟨0,iX _,by rw[Nat.mul_zero];rfl,rfl,⟨by rw[Nat.zero_mul,xii];exact A0.o⟩⟩
     case round=>
      clear A0;obtain⟨t,ht,rfl,rfl,A1⟩:=hrel;by_cases hlt2:t<K
      ·have h256:=H4.o;obtain⟨d,hd⟩:=aP (2*s);obtain⟨b,hb⟩:=aP (2*s*t);have hbd:b+d<=256:=by
        have h1:d*(t+1)<=d*K:=kJ _ hlt2;rw[kG,<-hd,hb]at h1;omega
       have hbd2:b+d=2*s*(t+1):=by rw[kG,hb,hd]
       rw[hb];obtain⟨k,hk⟩:=aP (K+t);obtain⟨c,hc⟩:=aP (q+t);rw[hc];have hck:c+1=k:=by have:=Hq.o;omega
       have hk256:U (k<256):=⟨by have:=HK.o;omega⟩;have hkz:(k:Int)<256:=by have:=hk256.o;omega
       have hbz:(b:Int)<256:=by have:=Hsb.o;omega
       have f1:J.wrap ((c:Int)+1)=(k:Int):=by rw[iN];have:=hk256.o;omega
       have f4:J.wrap (2*(s:Int))=(d:Int):=by rw[iN];have:=Hsb.o;omega
       have f5:J.wrap ((b:Int)+(d:Int))=((b+d:Nat):Int):=bB;obtain⟨bd,hbdn⟩:=aP (b+d);rw[hbdn]at f5 hbd2;obtain⟨bs,hbs⟩:=aP (b+s);have f6:J.wrap ((b:Int)+(s:Int))=(bs:Int):=by rw[iN];have:=Hsb.o;omega
       have E0:wr.heap[w.heap.size]? = some (Y T 34 (0,0)):=A1.o.other (bI D0.o) (by omega) D0.o;obtain⟨x,hx⟩:=aQ (Z k);have cz:wr.cell? ⟨w.heap.size,209+k,none⟩=some (O J x):=by rw[<-hx.o];exact aZ E0 (HT.o k hk256.o)
       have Hx:U (∀ w1:G,aD aO 95 #[O J x] w1 fun e w'=>e=.returned (O J (ζ k))/\w1=w'):=⟨fun w1=>by rw[<-Hζ.o k,hx.o];exact(Hred.o x w1).mono fun _ _ h=>⟨h.1,h.2.symm⟩⟩;obtain⟨y,hy⟩:=aQ (ζ k);have Hyb:U (0<=y/\y<8380417):=⟨by rw[<-hy.o,<-Hζ.o k];exact⟨lK _ (by decide),kX _ (by decide)⟩⟩;rw[hy.o]at Hx;have Hly:U (∀ p,p<s->ly ζ K s h (2*s*t+p)=h (b+p)+y*h (b+p+s)/\ly ζ K s h (2*s*t+p+s)=h (b+p)-y*h (b+p+s)):=⟨fun p hp=>by
        have h9:=xo5 ζ K (t:=t) hp h;rw[hk,hy.o,hb]at h9;rw[hb];exact h9⟩
       have Hb:=D hb;have Hbd:=D hbd2;have Hle:U (bd<=256/\bs=b+s/\bd=b+d/\d=2*s):=⟨by omega⟩;have Hk:=D (show q+(t+1)=k by omega);have Ht:=D hlt2;clear hd hb hbd hbd2 hbdn hbs hk hc hck E0 hx hy h256 hlt2;go_wp2_with fail;refine(Hx.o _).mono ?_;rintro e w5 ⟨rfl,rfl⟩;clear cz;go_wp2_with fail;rename G=>w4
       go_loopw [10] (fun iv wr=>∃ p:Nat,p<=s/\iv=O J ((b+p:Nat):Int)/\U (At (w.heap.size+1) (FL J 256 (dn (ly ζ K s) s h (t*s+p))) 76 V wr)) (fun iv _=>256-(aG iv).toNat)
       case atStart=>exact⟨0,iX _,rfl,A1⟩
       case round=>
        clear A1;obtain⟨p,hp,rfl,A2⟩:=hrel;obtain⟨lo,hlo⟩:=aP (b+p);rw[hlo];by_cases hlt3:p<s
        ·have hle:=Hle.o;obtain⟨hi,hhi⟩:=aP (lo+s);have hloz:(lo:Int)<(bs:Int):=by omega
         have elo : 2*s*t+p=lo:=by rw[Hb.o];exact hlo
         have ehi : 2*s*t+p+s=hi:=by rw[elo];exact hhi
         have hiz:(hi:Int)<256:=by omega
         have loz:(lo:Int)<256:=by omega
         have Hhi:U (hi<256):=⟨by omega⟩;have Hlo:U (lo<256):=⟨by omega⟩;have g2:J.wrap ((lo:Int)+(s:Int))=(hi:Int):=bB;obtain⟨a0,ha⟩:=aP (h lo);obtain⟨c0,hcc⟩:=aP (h hi);have hab : 0<=a0/\a0<8380417:=by rw[<-ha];exact Hh.o lo
         have hcb : 0<=c0/\c0<8380417:=by rw[<-hcc];exact Hh.o hi
         have cx:wr.cell? ⟨w.heap.size+1,lo,none⟩=some (O J a0):=by
          have h9:=fZ A2.o.row lo Hlo.o;rw[<-elo,xgt (ly ζ K s) hlt3,elo,ha]at h9;exact h9
         have cy:wr.cell? ⟨w.heap.size+1,hi,none⟩=some (O J c0):=by
          have h9:=fZ A2.o.row hi Hhi.o;rw[<-ehi,xgs (ly ζ K s) hlt3,ehi,hcc]at h9;exact h9
         have hP:=Hly.o p hlt3;rw[ehi,elo,hlo,hhi,ha,hcc]at hP;obtain⟨g3,g3n⟩:=xpn Hyb.o hcb;obtain⟨pr,hpr⟩:=aP (y*c0);rw[hpr]at g3 g3n hP;have g3':J.wrap (y*c0)=pr:=by rw[hpr];exact g3
         obtain⟨xx,hxx⟩:=aP (pr%8380417);have hxb : 0<=xx/\xx<8380417:=by omega
         have g4:pr.tmod 8380417=xx:=by rw[jB g3n];exact hxx
         have g5:J.wrap (a0+xx)=a0+xx:=bB;have g6:J.wrap (a0-xx)=a0-xx:=bB;obtain⟨v1,hv1⟩:=aQ ((a0+xx)%8380417);obtain⟨v2,hv2⟩:=aQ ((a0-xx)%8380417);have H1:U (∀ w1:G,aD aO 95 #[O J (a0+xx)] w1 (zE w1 (O J v1))):=⟨fun w1=>by rw[<-hv1.o];exact Hred.o _ w1⟩;have H2:U (∀ w1:G,aD aO 95 #[O J (a0-xx)] w1 (zE w1 (O J v2))):=⟨fun w1=>by rw[<-hv2.o];exact Hred.o _ w1⟩;have HU:U (upd (upd (dn (ly ζ K s) s h (t*s+p)) hi v2) lo v1=dn (ly ζ K s) s h (t*s+(p+1))):=⟨by
          have h9:=(xih (t:=t) (ly ζ K s) hlt3 h v1 v2 (by rw[elo,hP.1,<-hv1.o];omega) (by rw[ehi,hP.2,<-hv2.o];omega)).1;rw[elo,hhi]at h9;exact h9⟩
         have HUlo:U (upd (dn (ly ζ K s) s h (t*s+p)) hi v2 lo=a0):=⟨by
          unfold upd;rw[iQ (by omega),<-elo,xgt (ly ζ K s) hlt3,elo,ha]⟩
         have Hp:=D hlt3;have Hlo2:=D hlo;clear ha hcc hab hcb hP hpr hxx hxb hv1 hv2 elo ehi hlo hhi hle g3 g3n hlt3;go_wp2_with fail;refine(H2.o _).mono ?_;rintro e wr ⟨rfl,rfl⟩;clear cx cy;go_wp2_with ((with_reducible refine cU A2 rfl _ _ _ rfl rfl ?_);refine⟨_,_,_,rfl,rfl,rfl,(by rw[cC];exact Hhi.o),?_⟩;intro wn A3;rw[eV]at A3;have cx:wn.cell? ⟨w.heap.size+1,lo,none⟩=some (O J a0):=by rw[fZ A3.o.row lo Hlo.o,HUlo.o]);refine(H1.o _).mono ?_;rintro e wn ⟨rfl,rfl⟩;clear cx;go_wp2_with ((with_reducible refine cU A3 rfl _ _ _ rfl rfl ?_);refine⟨_,_,_,rfl,rfl,rfl,(by rw[cC];exact Hlo.o),?_⟩;intro wm A4;rw[eV,HU.o]at A4);go_roundw
         case rel=>exact⟨p+1,by have:=Hp.o;omega,by rw[show ((b+(p+1):Nat):Int)=(lo:Int)+1 by have:=Hlo2.o;omega],A4⟩
         case measure=>have:=Hlo.o;simp[aG];omega
        ·obtain rfl:p=s:=by omega
         have hloz:¬ (lo:Int)<(bs:Int):=by have:=Hle.o;omega
         have A3:U (At (w.heap.size+1) (FL J 256 (dn (ly ζ K p) p h ((t+1)*p))) 76 V wr):=⟨by rw[nX];exact A2.o⟩;clear A2 hlo;go_wp2_with fail;go_roundw
         case rel=>exact⟨t+1,by have:=Ht.o;omega,by rw[Hbd.o],by rw[Hk.o],A3⟩
         case measure=>have:=Hle.o;have:=Hsb.o;simp[aG];omega
      ·obtain rfl:t=K:=by omega
       have h256:=H4.o;rw[h256];rw[show FL J 256 (dn (ly ζ t s) s h (t*s))=FL J 256 (aS ζ (m+1) f) from xc1 J 256 hnext.o]at A1;have d1:(s:Int).tdiv 2=(s':Int):=by rw[iU (by omega)];have:=H3.o;omega
       have d2:(s:Int) / 2=(s':Int):=by have:=H3.o;omega
       have d3:J.wrap ((s:Int).tdiv 2)=(s':Int):=by rw[d1,iN];have:=Hsb.o;have:=H3.o;omega
       have d4:J.wrap (s':Int)=(s':Int):=by rw[iN];have:=Hsb.o;have:=H3.o;omega
       go_wp2_with fail;go_roundw
       case rel=>exact⟨m+1,by have:=Hm.o;omega,by rw[Hs.o],by rw[hKn.o],A1⟩
       case measure=>have:=Hsb.o;have:=H3.o;simp[aG];omega
    ·obtain rfl:m=8:=by omega
     rw[HR.o]at A0;have Hrow:=D A0.o.row;have Hres:U (wr.heap[w.heap.size+2]? = some (Y z 76 (0,0))):=⟨A0.o.other (bI D2.o) (by omega) D2.o⟩;have HB:U (zb w wr):=⟨HVB.o.trans (A0.o.below (by have:=HVs.o;omega) (by omega))⟩;clear A0;have e0:((128 / 2 ^ 8:Nat):Int)=0:=by decide
     rw[e0];go_wp2_with (first
      | (refine iL rfl 76 _ rfl (w.heap.size+1) rfl 76 R (0,0) _ Hrow.o zX rfl Ri.o ?_)
      | (refine iS rfl 76 _ _ rfl (w.heap.size+2) R rfl rfl 76 _ Hres.o Ri.o Rz.o Ro.o ?_))
     refine iV (v:=I R) (jC rfl _ _ (w.heap.size+2) 76 _ (0,0) _ rfl (jD _ _ _ _ _ _ Hres.o) zX rfl Ri.o) rfl ?_;exact⟨rfl,HB.o.trans (below_setRow _ _ _ (by omega))⟩
end rnthere
namespace rnback
open arr mem bD aT aV nttm iK cY rnthere
theorem doubles(m:Nat)(h:m<8) : 2*2 ^ m=2 ^ (m+1)/\2*2 ^ m*2 ^ (7-m)=256/\2 ^ m<=128/\1<=2 ^ m/\1<=2 ^ (7-m)/\2 ^ (7-m)<=128/\2 ^ (8-m)=2*2 ^ (7-m)/\2 ^ (8-(m+1))=2 ^ (7-m):=by
 have key:∀ m:Fin 8,2*2 ^ m.val=2 ^ (m.val+1)/\2*2 ^ m.val*2 ^ (7-m.val)=256/\2 ^ m.val<=128/\1<=2 ^ m.val/\1<=2 ^ (7-m.val)/\2 ^ (7-m.val)<=128/\2 ^ (8-m.val)=2*2 ^ (7-m.val)/\2 ^ (8-(m.val+1))=2 ^ (7-m.val):=by decide +kernel
 exact key ⟨m,h⟩
theorem xfg(T:Array aE)(Z:Nat->Int)(f:Nat->Int)(w:G)(hT:∀ k,k<256->T[209+k]? = some (O J (Z k))):
 aD aO 43 #[I T,I (FL J 256 f)] w (zB w (I (FL J 256 (fun i=>(bH (fun k=>Z k%8380417) 8 f i*8347681)%8380417)))):=by
 obtain⟨ζ,hζ⟩:=aQ (fun k=>Z k%8380417);have Hζ : U (∀ k,Z k%8380417 = ζ k):=⟨fun k=>by rw[<-hζ.o]⟩;rw[hζ.o];clear hζ;obtain⟨hz,hsize⟩:=iY aX;obtain⟨z,HZ⟩:=aQ (FL J 256 fun _=>0);rw[HZ.o]at hz;have Hzs:=dP HZ;obtain⟨R,HR⟩:=aQ (FL J 256 (fun i=>(bH ζ 8 f i*8347681)%8380417));obtain⟨B,HB0⟩:=aQ (FL J 256 (bH ζ 8 f));have Bi:=eE HB0 hsize;have HSc:U (∀ w1:G,aD aO 45 #[I B,O J 8347681] w1 (zB w1 (I R))):=⟨fun w1=>by
  have h:=rscale.xf9 (bH ζ 8 f) 8347681 w1;rw[HB0.o,HR.o]at h;exact h⟩
 have Ri:=eE HR hsize;have Ro:=eJ HR;have Rz:=gJ Hzs HR;have HT:=D hT;have Hred:=D rfld.eU;rw[HR.o];obtain⟨F,HF⟩:=aQ (FL J 256 f);rw[HF.o];obtain⟨V,hV⟩:=aP (((w.alloc (Y T 34)).alloc (Y F 76)).alloc (Y z 76));obtain⟨b0,b1,b2,hVs,hVb⟩:=three hV;have D0:=D b0;have D2:=D b2;have HVB:=D hVb;have HVs:=D hVs;have HV:=D hV;obtain⟨r,hr⟩:∃ r:Nat->Int,U (r=gB f):=⟨_,⟨rfl⟩⟩;have Hr:U (∀ i,r i=f i%8380417):=⟨fun i=>by rw[hr.o];rfl⟩;have Hr0:U (FL J 256 r=FL J 256 (bH ζ 0 f)):=⟨by rw[hr.o];rfl⟩;have A00:U (At (w.heap.size+1) (FL J 256 (pt r f 0)) 76 V V):=⟨by rw[xbf,HF.o];exact At.refl b1⟩;clear b0 b1 b2 hVs hVb hV HZ hsize hT HF hr;go_enter Tryz.func43,Tryz.ntmps43;go_wp2_with (rw[HV.o]);clear hz;go_loopw [12] (fun v wr=>∃ i:Nat,i<=256/\v=O J (i:Int)/\U (At (w.heap.size+1) (FL J 256 (pt r f i)) 76 V wr)) (fun v _=>256-(aG v).toNat)
 case atStart=>exact⟨0,iX _,rfl,A00⟩
 case round=>
  clear A00;obtain⟨i,hi,rfl,A0⟩:=hrel;by_cases hlt:i<256
  ·have hiz:(i:Int)<256:=by omega
   obtain⟨x,hx⟩:=aP (f i);have ca:wr.cell? ⟨w.heap.size+1,i,none⟩=some (O J x):=by
    have h9:=fZ A0.o.row i hlt;rw[xc5,hx]at h9;exact h9
   obtain⟨x1,hx1⟩:=aQ (x%8380417);have Hx:∀ w1:G,aD aO 95 #[O J x] w1 (zE w1 (O J x1)):=fun w1=>by rw[<-hx1.o];exact Hred.o x w1
   have HU:U (upd (pt r f i) i x1=pt r f (i+1)):=⟨xa1 r f i x1 (by rw[Hr.o,hx,hx1.o])⟩;have Hx:=D Hx;clear hx hx1;go_wp2_with fail;refine(Hx.o _).mono ?_;rintro e wr ⟨rfl,rfl⟩;clear ca;go_wp2_with ((with_reducible refine cU A0 rfl _ _ _ rfl rfl ?_);refine⟨_,_,_,rfl,rfl,rfl,(by rw[cC];exact hlt),?_⟩;intro wn HRn;rw[eV,HU.o]at HRn);go_roundw
   case rel=>exact⟨i+1,by omega,by go_num,HRn⟩
   case measure=>simp[aG];omega
  ·obtain rfl:i=256:=by omega
   simp only[jE];rw[xbc,Hr0.o]at A0;go_wp2_with fail;rename G=>w2
   go_loopw [7,6] (fun sv k wr=>∃ m:Nat,m<=8/\sv=O J ((2 ^ m:Nat):Int)/\k=O J ((2 ^ (8-m):Nat):Int)/\U (At (w.heap.size+1) (FL J 256 (bH ζ m f)) 76 V wr)) (fun sv _ _=>256-(aG sv).toNat)
   case atStart=>exact⟨0,iX _,rfl,rfl,A0⟩
   case round=>
    clear A0;obtain⟨m,hm,rfl,rfl,A0⟩:=hrel;by_cases hlt:m<8
    ·obtain⟨h1,h2,h3,h4,h5,h6,h7,h8⟩:=doubles m hlt;have hnext:U (∀ j,j<256->dn (bk ζ (2 ^ (7-m)) (2 ^ m)) (2 ^ m) (bH ζ m f) (2 ^ (7-m)*2 ^ m) j=bH ζ (m+1) f j):=⟨fun j hj=>by
      rw[xig (bk ζ (2 ^ (7-m)) (2 ^ m)) (2 ^ (7-m)) (2 ^ m) (by omega) _ j (by omega)];rfl⟩
     obtain⟨s',hs'⟩:∃ s',2 ^ (m+1)=s':=⟨_,rfl⟩;obtain⟨s,hs⟩:=aP (2 ^ m);obtain⟨K,hK⟩:=aP (2 ^ (7-m));rw[hs',hs]at h1;rw[hs,hK]at h2 hnext;rw[hs]at h3 h4 ⊢;rw[hK]at h5 h6 h7 h8;rw[h7];obtain⟨h,hh⟩:=aQ (bH ζ m f);have Hh:U (∀ j,0<=h j/\h j<8380417):=⟨fun j=>by rw[<-hh.o];exact xnr ζ m f j⟩;rw[hh.o]at hnext A0;obtain⟨q,hq⟩:=aP (2*K);have Hq:U (q=2*K):=⟨hq.symm⟩;rw[hq];have hsz:(s:Int)<=128:=by omega
     have H4:=D h2;have Hs:=D hs';have H3:=D h1;have Hm:=D hlt;have Hsb:=D (jA h4 h3);have HK:=D (jA h5 h6);have H8:=D h8;clear h1 h2 h3 h4 h5 h6 h7 h8 hs hs' hK hh hq hlt;go_wp2_with fail;rename G=>w3
     go_loopw [8,6] (fun fv k wr=>∃ t:Nat,t<=K/\fv=O J ((2*s*t:Nat):Int)/\k=O J ((q-t:Nat):Int)/\U (At (w.heap.size+1) (FL J 256 (dn (bk ζ K s) s h (t*s))) 76 V wr)) (fun fv _ _=>256-(aG fv).toNat)
     case atStart=>exact⟨0,iX _,by rw[Nat.mul_zero];rfl,rfl,⟨by rw[Nat.zero_mul,xii];exact A0.o⟩⟩
     case round=>
      clear A0;obtain⟨t,ht,rfl,rfl,A1⟩:=hrel;by_cases hlt2:t<K
      ·have h256:=H4.o;obtain⟨d,hd⟩:=aP (2*s);obtain⟨b,hb⟩:=aP (2*s*t);have hbd:b+d<=256:=by
        have h1:d*(t+1)<=d*K:=kJ _ hlt2;rw[kG,<-hd,hb]at h1;omega
       have hbd2:b+d=2*s*(t+1):=by rw[kG,hb,hd]
       rw[hb];obtain⟨k,hk⟩:=aP (2*K-1-t);obtain⟨c,hc⟩:=aP (q-t);rw[hc];have hck:k+1=c:=by have:=Hq.o;omega
       have hk256:U (k<256):=⟨by have:=HK.o;omega⟩;have hkz:(k:Int)<256:=by have:=hk256.o;omega
       have hbz:(b:Int)<256:=by have:=Hsb.o;omega
       have f1:J.wrap ((c:Int)-1)=(k:Int):=by rw[iN];have:=hk256.o;omega
       have f4:J.wrap (2*(s:Int))=(d:Int):=by rw[iN];have:=Hsb.o;omega
       have f5:J.wrap ((b:Int)+(d:Int))=((b+d:Nat):Int):=bB;obtain⟨bd,hbdn⟩:=aP (b+d);rw[hbdn]at f5 hbd2;obtain⟨bs,hbs⟩:=aP (b+s);have f6:J.wrap ((b:Int)+(s:Int))=(bs:Int):=by rw[iN];have:=Hsb.o;omega
       have E0:wr.heap[w.heap.size]? = some (Y T 34 (0,0)):=A1.o.other (bI D0.o) (by omega) D0.o;obtain⟨x,hx⟩:=aQ (Z k);have cz:wr.cell? ⟨w.heap.size,209+k,none⟩=some (O J x):=by rw[<-hx.o];exact aZ E0 (HT.o k hk256.o)
       obtain⟨y0,hy0⟩:=aQ (ζ k);have Hx:U (∀ w1:G,aD aO 95 #[O J x] w1 fun e w'=>e=.returned (O J y0)/\w1=w'):=⟨fun w1=>by rw[<-hy0.o,<-Hζ.o k,hx.o];exact(Hred.o x w1).mono fun _ _ h=>⟨h.1,h.2.symm⟩⟩;have hy0b : 0<=y0/\y0<8380417:=by rw[<-hy0.o,<-Hζ.o k];exact⟨lK _ (by decide),kX _ (by decide)⟩
       have f9:J.wrap (-y0) = -y0:=bB;obtain⟨y,hy⟩:=aQ ((-y0)%8380417);have Hyb:U (0<=y/\y<8380417):=⟨by rw[<-hy.o];exact⟨lK _ (by decide),kX _ (by decide)⟩⟩;have Hx2:U (∀ w1:G,aD aO 95 #[O J (-y0)] w1 fun e w'=>e=.returned (O J y)/\w1=w'):=⟨fun w1=>by rw[<-hy.o];exact(Hred.o _ w1).mono fun _ _ h=>⟨h.1,h.2.symm⟩⟩;have Hly:U (∀ p,p<s->bk ζ K s h (2*s*t+p)=h (b+p)+h (b+p+s)/\∀ d,d=(h (b+p)-h (b+p+s))%8380417->(y*d)%8380417=bk ζ K s h (2*s*t+p+s)%8380417):=⟨fun p hp=>by
        have h9:=xnv ζ K (t:=t) hp h;rw[hk,hy0.o,hb]at h9;refine⟨by rw[hb];exact h9.1,fun d hd=>?_⟩;rw[hb,h9.2,hd,<-hy.o,<-nE]⟩
       have Hb:=D hb;have Hbd:=D hbd2;have Hle:U (bd<=256/\bs=b+s/\bd=b+d/\d=2*s):=⟨by omega⟩;have Hk:=D (show q-(t+1)=k by omega);have Ht:=D hlt2;clear hd hb hbd hbd2 hbdn hbs hk hc hck E0 hx hy hy0 hy0b h256 hlt2;go_wp2_with fail;refine(Hx.o _).mono ?_;rintro e w5 ⟨rfl,rfl⟩;clear cz;go_wp2_with fail;refine(Hx2.o _).mono ?_;rintro e w5 ⟨rfl,rfl⟩;clear f9;go_wp2_with fail;rename G=>w4
       go_loopw [10] (fun iv wr=>∃ p:Nat,p<=s/\iv=O J ((b+p:Nat):Int)/\U (At (w.heap.size+1) (FL J 256 (dn (bk ζ K s) s h (t*s+p))) 76 V wr)) (fun iv _=>256-(aG iv).toNat)
       case atStart=>exact⟨0,iX _,rfl,A1⟩
       case round=>
        clear A1;obtain⟨p,hp,rfl,A2⟩:=hrel;obtain⟨lo,hlo⟩:=aP (b+p);rw[hlo];by_cases hlt3:p<s
        ·have hle:=Hle.o;obtain⟨hi,hhi⟩:=aP (lo+s);have hloz:(lo:Int)<(bs:Int):=by omega
         have elo : 2*s*t+p=lo:=by rw[Hb.o];exact hlo
         have ehi : 2*s*t+p+s=hi:=by rw[elo];exact hhi
         have hiz:(hi:Int)<256:=by omega
         have loz:(lo:Int)<256:=by omega
         have Hhi:U (hi<256):=⟨by omega⟩;have Hlo:U (lo<256):=⟨by omega⟩;have g2:J.wrap ((lo:Int)+(s:Int))=(hi:Int):=bB;obtain⟨a0,ha⟩:=aP (h lo);obtain⟨c0,hcc⟩:=aP (h hi);have hab : 0<=a0/\a0<8380417:=by rw[<-ha];exact Hh.o lo
         have hcb : 0<=c0/\c0<8380417:=by rw[<-hcc];exact Hh.o hi
         have cx:wr.cell? ⟨w.heap.size+1,lo,none⟩=some (O J a0):=by
          have h9:=fZ A2.o.row lo Hlo.o;rw[<-elo,xgt (bk ζ K s) hlt3,elo,ha]at h9;exact h9
         have cy:wr.cell? ⟨w.heap.size+1,hi,none⟩=some (O J c0):=by
          have h9:=fZ A2.o.row hi Hhi.o;rw[<-ehi,xgs (bk ζ K s) hlt3,ehi,hcc]at h9;exact h9
         have hP:=Hly.o p hlt3;rw[ehi,elo,hlo,hhi,ha,hcc]at hP;obtain⟨dd,hdd⟩:=aQ ((a0-c0)%8380417);have hdb : 0<=dd/\dd<8380417:=by rw[<-hdd.o];omega
         obtain⟨g3,g3n⟩:=xpn Hyb.o hdb;have hP2:=hP.2 dd hdd.o.symm;obtain⟨pr,hpr⟩:=aP (y*dd);rw[hpr]at g3 g3n hP2;have g3':J.wrap (y*dd)=pr:=by rw[hpr];exact g3
         obtain⟨v2,hv2⟩:=aP (pr%8380417);have g4:pr.tmod 8380417=v2:=by rw[jB g3n];exact hv2
         have g5:J.wrap (a0+c0)=a0+c0:=bB;have g6:J.wrap (a0-c0)=a0-c0:=bB;obtain⟨v1,hv1⟩:=aQ ((a0+c0)%8380417);have H1:U (∀ w1:G,aD aO 95 #[O J (a0+c0)] w1 (zE w1 (O J v1))):=⟨fun w1=>by rw[<-hv1.o];exact Hred.o _ w1⟩;have H2:U (∀ w1:G,aD aO 95 #[O J (a0-c0)] w1 (zE w1 (O J dd))):=⟨fun w1=>by rw[<-hdd.o];exact Hred.o _ w1⟩;have HU:U (upd (upd (dn (bk ζ K s) s h (t*s+p)) lo v1) hi v2=dn (bk ζ K s) s h (t*s+(p+1))):=⟨by
          have h9:=(xih (t:=t) (bk ζ K s) hlt3 h v1 v2 (by rw[elo,hP.1,<-hv1.o]) (by rw[ehi,<-hP2,hv2])).2;rw[elo,hhi]at h9;exact h9⟩
         have HUhi:U (upd (dn (bk ζ K s) s h (t*s+p)) lo v1 hi=c0):=⟨by
          unfold upd;rw[iQ (by omega),<-ehi,xgs (bk ζ K s) hlt3,ehi,hcc]⟩
         have Hp:=D hlt3;have Hlo2:=D hlo;clear ha hcc hab hcb hP hP2 hpr hdb hdd hv1 hv2 elo ehi hlo hhi hle g3 g3n hlt3;go_wp2_with fail;refine(H1.o _).mono ?_;rintro e wr ⟨rfl,rfl⟩;clear cx cy;go_wp2_with ((with_reducible refine cU A2 rfl _ _ _ rfl rfl ?_);refine⟨_,_,_,rfl,rfl,rfl,(by rw[cC];exact Hlo.o),?_⟩;intro wn A3;rw[eV]at A3;have cy:wn.cell? ⟨w.heap.size+1,hi,none⟩=some (O J c0):=by rw[fZ A3.o.row hi Hhi.o,HUhi.o]);refine(H2.o _).mono ?_;rintro e wn ⟨rfl,rfl⟩;clear cy;go_wp2_with ((with_reducible refine cU A3 rfl _ _ _ rfl rfl ?_);refine⟨_,_,_,rfl,rfl,rfl,(by rw[cC];exact Hhi.o),?_⟩;intro wm A4;rw[eV,HU.o]at A4);go_roundw
         case rel=>exact⟨p+1,by have:=Hp.o;omega,by rw[show ((b+(p+1):Nat):Int)=(lo:Int)+1 by have:=Hlo2.o;omega],A4⟩
         case measure=>have:=Hlo.o;simp[aG];omega
        ·obtain rfl:p=s:=by omega
         have hloz:¬ (lo:Int)<(bs:Int):=by have:=Hle.o;omega
         have A3:U (At (w.heap.size+1) (FL J 256 (dn (bk ζ K p) p h ((t+1)*p))) 76 V wr):=⟨by rw[nX];exact A2.o⟩;clear A2 hlo;go_wp2_with fail;go_roundw
         case rel=>exact⟨t+1,by have:=Ht.o;omega,by rw[Hbd.o],by rw[Hk.o],A3⟩
         case measure=>have:=Hle.o;have:=Hsb.o;simp[aG];omega
      ·obtain rfl:t=K:=by omega
       have h256:=H4.o;rw[h256];rw[show FL J 256 (dn (bk ζ t s) s h (t*s))=FL J 256 (bH ζ (m+1) f) from xc1 J 256 hnext.o]at A1;have d1:J.wrap ((s:Int)*2)=(s':Int):=by rw[iN];have:=Hsb.o;have:=H3.o;omega
       have hKq:U ((q-t:Nat)=2 ^ (8-(m+1))):=⟨by rw[H8.o];have:=Hq.o;omega⟩;go_wp2_with fail;go_roundw
       case rel=>exact⟨m+1,by have:=Hm.o;omega,by rw[Hs.o],by rw[hKq.o],A1⟩
       case measure=>have:=Hsb.o;have:=H3.o;simp[aG];omega
    ·obtain rfl:m=8:=by omega
     rw[HB0.o]at A0;have Hrow:=D A0.o.row;have Hres:U (wr.heap[w.heap.size+2]? = some (Y z 76 (0,0))):=⟨A0.o.other (bI D2.o) (by omega) D2.o⟩;have HB:U (zb w wr):=⟨HVB.o.trans (A0.o.below (by have:=HVs.o;omega) (by omega))⟩;clear A0;have e0:((2 ^ 8:Nat):Int)=256:=by decide
     rw[e0];go_wp2_with (refine iL rfl 76 _ rfl (w.heap.size+1) rfl 76 B (0,0) _ Hrow.o zX rfl Bi.o ?_);refine(HSc.o _).mono ?_;rintro e w9 ⟨rfl,hb9⟩;have Hres9:U (w9.heap[w.heap.size+2]? = some (Y z 76 (0,0))):=⟨(hb9.block _ (bI Hres.o)).trans Hres.o⟩;have HB9:=bK HB hb9;clear hb9;go_wp2_with (refine iS rfl 76 _ _ rfl (w.heap.size+2) R rfl rfl 76 _ Hres9.o Ri.o Rz.o Ro.o ?_);refine iV (v:=I R) (jC rfl _ _ (w.heap.size+2) 76 _ (0,0) _ rfl (jD _ _ _ _ _ _ Hres9.o) zX rfl Ri.o) rfl ?_;exact⟨rfl,HB9.o.trans (below_setRow _ _ _ (by omega))⟩
end rnback
end Go.Proofs.YtomphjajkkddkaaGreatDoor
