/-
  What package bits' Unhints returns. Conditions: none. What the document's own Uniform of layer 11 re
-/
import Derived.Test.YtomphjajkkddkaaGreatDoorZs02
import Derived.Test.YtomphjajkkddkaaGreatDoorZs19
import Derived.Test.YtomphjajkkddkaaGreatDoorZs14
import Derived.Test.YtomphjajkkddkaaGreatDoorZs12
import Derived.Test.YtomphjajkkddkaaGreatDoorZs15
import Derived.Test.YtomphjajkkddkaaGreatDoorZs04
import Derived.Test.YtomphjajkkddkaaGreatDoorZs01
import Derived.Test.YtomphjajkkddkaaGreatDoorZs05
import Derived.Lib.QuietBelow
import Derived.StillTailTactics
set_option maxRecDepth 100000
set_option maxHeartbeats 16000000
set_option linter.unusedSimpArgs false
set_option linter.unusedVariables false
open Go Go.RowKit
open Go renaming World->G,Calls->aD,Value->aE,TypeId->aH
open Go.RowKit renaming intOf->aG
open Go.Instr renaming index->aN
open Go.Value renaming int->O,agg->I,string->E,tuple->aA,slice->aB
open Go.IntKind renaming i64->J
open Go.Obj renaming cells->Y
open Go.Proofs.Tryz renaming prog->aO
namespace Go.Proofs.YtomphjajkkddkaaGreatDoor
namespace punh
open arr mem bD aT aY bC bA gE bS pinc
def PM(β : Nat->Nat)(om i t:Nat):Nat->Nat->Int:=fun i'=>if i'<i then ply β om i' else if i'=i then mk β (fr β om i) t else fun _=>0
theorem xw2(β : Nat->Nat)(om:Nat):PM β om 0 0=fun _ _=>0:=by
 funext i'
 unfold PM;rw[iQ (by omega)];by_cases e:i'=0
 ·rw[iP e];rfl
 ·rw[iQ e]
theorem xw1(β : Nat->Nat)(om i t:Nat):(fun i'=>if i'=i then upd (PM β om i t i) (β (fr β om i+t)) 1 else PM β om i t i')=PM β om i (t+1):=by
 funext i'
 unfold PM;by_cases e:i'=i
 ·subst e;rw[iP rfl,iQ (by omega),iP rfl,iQ (by omega),iP rfl];rfl
 ·rw[iQ e,iQ e,iQ e]
theorem xw0(β : Nat->Nat)(om i:Nat):PM β om i (fr β om (i+1)-fr β om i)=PM β om (i+1) 0:=by
 funext i'
 unfold PM;by_cases h1:i'<i
 ·rw[iP h1,iP (by omega)]
 ·rw[iQ h1];by_cases h2:i'=i
  ·subst h2;rw[iP rfl,iP (by omega)];rfl
  ·rw[iQ h2,iQ (by omega)];by_cases h3:i'=i+1
   ·rw[iP h3];rfl
   ·rw[iQ h3]
theorem xu5(s:ByteArray)(n tz:Nat)(h1:n<=tz)(h2:tz<=s.size):incs (s.extract n tz)↔∀ k,n<k->k<tz->(aU s).getD (k-1) 0<(aU s).getD k 0:=by
 unfold incs;rw[size_extract s n tz h1 h2];constructor
 ·intro h k hk1 hk2;have:=h (k-n) (by omega) (by omega);rw[xen s n tz _ (by omega),xen s n tz _ (by omega),show n+(k-n-1)=k-1 by omega,show n+(k-n)=k by omega]at this;exact this
 ·intro h k hk1 hk2;have:=h (n+k) (by omega) (by omega);rw[xen s n tz _ (by omega),xen s n tz _ (by omega),show n+(k-1)=n+k-1 by omega];exact this
theorem yaj(s:ByteArray)(n om:Nat)(h1:n<=om)(h2:om<=s.size):(∀ b∈(s.extract n om).data.toList,b=0)↔∀ k,n<=k->k<om->(aU s).getD k 0=0:=by
 have hl:(s.extract n om).data.toList.length=om-n:=by rw[<-Lib.size_eq,size_extract s n om h1 h2]
 have hg:∀ j,j<om-n->(aU (s.extract n om)).getD j 0=((s.extract n om).data.toList[j]?.map (·.toNat)).getD 0:=fun j _=>by
  unfold aU;rw[iO,mU]
 constructor
 ·intro h k hk1 hk2;have e:=xen s n om (k-n) (by omega);rw[show n+(k-n)=k by omega]at e;rw[<-e,hg _ (by omega),iT (by omega)];have:=h _ (kZ (by omega:k-n<(s.extract n om).data.toList.length));simp only[nU,Option.getD_some];rw[this];rfl
 ·intro h b hb;obtain⟨j,hj,rfl⟩:=List.getElem_of_mem hb;have e:=xen s n om j (by omega);rw[h (n+j) (by omega) (by omega),hg j (by omega),iT hj]at e;have e2:((s.extract n om).data.toList[j]).toNat=0:=e;exact UInt8.toNat_inj.1 (by rw[e2];rfl)
theorem xwl{w:G}{base g M size:Nat}{e:aH}{xs:List aE}(h:w.ownsRow base e size (aB (some ⟨g,0,none⟩) M M) M xs):∃ cur,w.heap[g]? = some (Y cur e (0,0))/\cur.toList=xs:=by
 rcases h.2 with ⟨h',-⟩ | ⟨g',cap',cur,h',hb,hg,-,hm,hs,htake⟩
 ·simp at h'
 ·simp only[Value.slice.injEq,mT,Addr.mk.injEq,and_true,true_and]at h';obtain⟨rfl,rfl⟩:=h';refine⟨cur,hg,?_⟩;rw[<-htake,lG (by rw[jM];omega)]
theorem xm9(s:ByteArray)(m om:Nat)(w:G)(hm1 : 1<=m)(hm8:m<=8)(ho1 : 1<=om)(ho2:om<=255)(hs:s.size=om+m):
 aD aO 50 #[E s,O J (om:Int),O J (m:Int)] w fun e w'=>((uok (fun j=>(aU s).getD j 0) om m/\∃ v,e=.returned (.tuple #[v,O J 0])/\Holds w' w.heap.size v m (ply (fun j=>(aU s).getD j 0) om))\/(¬ uok (fun j=>(aU s).getD j 0) om m/\e=.returned (aA #[aB none 0 0,O J 3])))/\zb w w':=by
 obtain⟨i0,hi,hz0,hz1,hz2⟩:=parts bX;have HM:∀ w1:G,aD aO 104 #[O J (om:Int),O J (m:Int)] w1 (zE w1 (.bool true)):=fun w1=>by
  have h:=dX.xft (om:Int) (m:Int) w1;rw[jP (by omega)]at h;exact h
 have HInc:U (∀ n tz,n<=tz->tz<=om->∀ w1:G,aD aO 105 #[E (s.extract n tz)] w1 (zB w1 (.bool (decide (incs (s.extract n tz)))))):=⟨fun n tz h1 h2 w1=>pinc.xu4 (s.extract n tz) (tz-n) (size_extract s n tz h1 (by omega)) (by omega) w1⟩;have HIff:U (∀ n tz,n<=tz->tz<=om->(incs (s.extract n tz)↔∀ k,n<k->k<tz->(aU s).getD (k-1) 0<(aU s).getD k 0)):=⟨fun n tz h1 h2=>xu5 s n tz h1 (by omega)⟩;have HTr:U (∀ n,n<=om->∀ w1:G,aD aO 106 #[E (s.extract n om),E ⟨#[0]⟩] w1 (zB w1 (E ⟨(Lib.trimB (s.extract n om).data.toList 0).toArray⟩))):=⟨fun n h1 w1=>trims.xzs (s.extract n om) (by rw[size_extract s n om h1 (by omega)];omega) w1⟩;have HZr:U (∀ n,n<=om->((∀ b∈(s.extract n om).data.toList,b=0)↔∀ k,n<=k->k<om->(aU s).getD k 0=0)):=⟨fun n h1=>yaj s n om h1 (by omega)⟩;obtain⟨β,Hβ⟩:=aQ (fun j=>(aU s).getD j 0);have Hβ':U (∀ k,(aU s).getD k 0 = β k):=⟨fun k=>by rw[<-Hβ.o]⟩;rw[Hβ.o];have Hix:U (∀ j,j<om+m->∀ w1:G,(aN 9 (E s) (O J (j:Int))).run aO w1=.ok (O .u8 ((β j:Nat):Int)) w1):=⟨fun j hj w1=>byte_of s j _ (by omega) (Hβ'.o j) w1⟩;have Hb8:U (∀ j,β j<256):=⟨fun j=>by rw[<-Hβ'.o];exact pinc.xtt s j⟩;obtain⟨z,HZ⟩:=aQ (FL J 256 fun _=>0);rw[HZ.o]at hz0;have HI:=D (jA hi (jA hz0 (jA hz1 hz2)));obtain⟨M,hM⟩:=aP (om+m);have fM:(om:Int)+(m:Int)=(M:Int):=by omega
 have fMw:J.wrap ((om:Int)+(m:Int))=(M:Int):=by rw[fM,iN];omega
 have fne:((s.size:Int) != (M:Int))=false:=by rw[show (s.size:Int)=(M:Int) by omega];simp
 have HsM:U (s.size=M):=⟨by omega⟩;clear hi hz0 hz1 hz2 hM;go_enter Tryz.func50,Tryz.ntmps50;go_wp2_with fail;refine(HM _).mono ?_;rintro e w ⟨rfl,rfl⟩;go_wp2_with (at_make;refine lY _ rfl (.tmp 25) (.tmp 25) 44 rfl w.heap.size 76 i0 (I z) 256 Tryz.underlying44 HI.o.1 HI.o.2.1 HI.o.2.2.1 J J m m m rfl rfl rfl rfl (by rw[HI.o.2.2.2];omega) (by unfold maxLen;omega) (iM _) ?_);intro w3 hown hgr;have B3:U (zb w w3):=⟨(iR _ _).grown hgr (iM _) (fun k hk=>by simp at hk)⟩;obtain⟨cur,hcur,hcl⟩:=xwl hown;have e0:cur=RW m (PM β om 0 0):=by
  apply Array.ext';rw[hcl,xw2,<-xo9,HZ.o]
 rw[e0]at hcur;have hg3:U (w.heap.size<w3.heap.size):=⟨bI hcur⟩;have A3:U (At w.heap.size (RW m (PM β om 0 0)) 76 w3 w3):=⟨At.refl hcur⟩;clear hown hgr hcl e0 hcur fM fMw fne HM;go_wp2_with fail;go_loopw [9,29] (fun c v wr=>∃ i:Nat,i<=m/\v=O J (i:Int)/\c=O J ((fr β om i:Nat):Int)/\fr β om i<=om/\U (∀ j,j<i->one β om j)/\U (At w.heap.size (RW m (PM β om i 0)) 76 w3 wr)) (fun _ v _=>m-(aG v).toNat)
 case atStart=>exact⟨0,iX _,rfl,rfl,iX _,⟨fun j hj=>by omega⟩,A3⟩
 case round=>
  clear A3;obtain⟨i,hi,rfl,rfl,hno,Hall,A0⟩:=hrel;have BE:U (zb w wr):=⟨B3.o.trans (A0.o.below (Nat.le_of_lt hg3.o) (iM _))⟩;by_cases hlt:i<m
  ·have hiz:(i:Int)<(m:Int):=by omega
   have Hi:=D hlt;obtain⟨n,hn⟩:=aP (fr β om i);obtain⟨tz,hto⟩:=aP (β (om+i));have Hto:U (fr β om (i+1)=tz):=⟨hto⟩;have hto8:tz<256:=by rw[<-hto];exact Hb8.o _
   have hidx0:=Hix.o (om+i) (by omega);obtain⟨oi,hoi⟩:=aP (om+i);rw[hto,hoi]at hidx0;rw[hn]at hno ⊢;have Hn:=D hn;have foi:(om:Int)+(i:Int)=(oi:Int):=by omega
   have foiw:J.wrap ((om:Int)+(i:Int))=(oi:Int):=by rw[foi,iN];omega
   have fto:J.wrap (tz:Int)=(tz:Int):=bB;clear hn hto hoi foi;by_cases hnt:tz<n
   ·have hc:(tz:Int)<(n:Int):=by omega
    have hno2:U (¬ uok β om m):=⟨fun h=>by have:=(h.1 i Hi.o).1;rw[Hn.o,Hto.o]at this;omega⟩;go_wp2_with fail;go_ret2;exact⟨kO ⟨hno2.o,rfl⟩,BE.o⟩
   ·by_cases hto3:om<tz
    ·have hc:¬ (tz:Int)<(n:Int):=by omega
     have hc2:(om:Int)<(tz:Int):=by omega
     have hno2:U (¬ uok β om m):=⟨fun h=>by have:=(h.1 i Hi.o).2.1;rw[Hto.o]at this;omega⟩;go_wp2_with fail;go_ret2;exact⟨kO ⟨hno2.o,rfl⟩,BE.o⟩
    ·have hc:¬ (tz:Int)<(n:Int):=by omega
     have hc2:¬ (om:Int)<(tz:Int):=by omega
     have hinc:=HInc.o n tz (by omega) (by omega);have hiff:=HIff.o n tz (by omega) (by omega);by_cases hin:incs (s.extract n tz)
     ·rw[jP hin]at hinc;have hin2:=hiff.1 hin;have Hone:U (one β om i):=⟨by
       unfold one;rw[Hn.o,Hto.o];refine⟨by omega,by omega,fun k h1 h2=>?_⟩;rw[<-Hβ'.o,<-Hβ'.o];exact hin2 k h1 h2⟩
      have Hinc:=D hinc;have hsl:tz<=s.size:=by omega
      clear hin hin2 hiff hinc;go_wp2_with fail;refine(Hinc.o _).mono ?_;rintro e w5 ⟨rfl,hb5⟩;have A5:U (At w.heap.size (RW m (PM β om i (n-n))) 76 w3 w5):=⟨by rw[mW];exact A0.o.later hb5⟩;clear hb5 A0 BE hidx0 foiw fto hsl Hinc;go_wp2_with fail;go_loopw [12] (fun v wr=>∃ k:Nat,n<=k/\k<=tz/\v=O J (k:Int)/\U (At w.heap.size (RW m (PM β om i (k-n))) 76 w3 wr)) (fun v _=>tz-(aG v).toNat)
      case atStart=>exact⟨n,iM _,by omega,rfl,A5⟩
      case round=>
       clear A5;obtain⟨k,hnk,hkt,rfl,A0⟩:=hrel;by_cases hklt:k<tz
       ·have hkz:(k:Int)<(tz:Int):=by omega
        have hidx:=Hix.o k (by omega);obtain⟨b,hb⟩:=aP (β k);have hb8:b<256:=by rw[<-hb];exact Hb8.o k
        have hb256:(b:Int)<256:=by omega
        rw[hb]at hidx;have Hset:U ((RW m (PM β om i (k-n))).setIfInBounds (256*i+b) (O J 1)=RW m (PM β om i (k+1-n))):=⟨by
         rw[rw_set m _ i b hb8 1,show k+1-n=(k-n)+1 by omega,<-xw1,Hn.o,show n+(k-n)=k by omega,hb]⟩
        have Hlt:U (256*i+b<(RW m (PM β om i (k-n))).size):=⟨by rw[xe8];have:=Hi.o;omega⟩;obtain⟨o,ho⟩:=aP (i*256);rw[show 256*i=o by omega]at Hset Hlt;have hiz2:(i:Int)<(m:Int):=by have:=Hi.o;omega
        have A1:U (At w.heap.size (RW m (PM β om i (k-n))) 76 w3 wr.drew):=⟨eN A0.o⟩;clear hb;go_wp2_with fail;refine gZ 7 (by kernel_rfl) (by kernel_rfl) ?_;simp only[jH,jU,iW,jK];repeat still_step
        refine jR ?_;clear A0 hidx
        with_reducible refine cU A1 rfl _ _ _ rfl rfl ?_
        refine⟨_,_,_,rfl,rfl,rfl,Hlt.o,?_⟩;intro wn HR;rw[Hset.o]at HR;go_wp2_with fail;go_roundw
        case rel=>exact⟨k+1,by omega,by omega,by go_num,HR⟩
        case measure=>simp[aG];omega
       ·obtain rfl:k=tz:=by omega
        have A6:U (At w.heap.size (RW m (PM β om (i+1) 0)) 76 w3 wr):=⟨by rw[<-xw0,Hto.o,Hn.o];exact A0.o⟩;have Hall2:U (∀ j,j<i+1->one β om j):=⟨fun j hj=>by
         by_cases e:j=i
         ·subst e;exact Hone.o
         ·exact Hall.o j (by omega)⟩
        clear A0;go_wp2_with fail;go_roundw
        case rel=>exact⟨i+1,by have:=Hi.o;omega,by go_num,by rw[Hto.o],by rw[Hto.o];omega,Hall2,A6⟩
        case measure=>have:=Hi.o;simp[aG];omega
     ·rw[jN hin]at hinc;have hno2:U (¬ uok β om m):=⟨fun h=>by
       have:=(h.1 i Hi.o).2.2;rw[Hn.o,Hto.o]at this;exact hin (hiff.2 fun k h1 h2=>by rw[Hβ'.o,Hβ'.o];exact this k h1 h2)⟩
      have Hinc:=D hinc;have hsl:tz<=s.size:=by omega
      clear hin hiff hinc;go_wp2_with fail;refine(Hinc.o _).mono ?_;rintro e w5 ⟨rfl,hb5⟩;have BF:=bK BE hb5;clear hb5 A0;go_wp2_with fail;go_ret2;exact⟨kO ⟨hno2.o,rfl⟩,BF.o⟩
  ·obtain rfl:i=m:=by omega
   obtain⟨n,hn⟩:=aP (fr β om i);rw[hn]at hno ⊢;have Hn:=D hn;have htr:=HTr.o n hno;have hzr:=HZr.o n hno;have hsl:om<=s.size:=by omega
   clear hn;by_cases hall:∀ b∈(s.extract n om).data.toList,b=0
   ·rw[trims.xzt _ hall]at htr;have hz:=hzr.1 hall;have hyes:U (uok β om i):=⟨Hall.o,fun k h1 h2=>by rw[Hn.o]at h1;rw[<-Hβ'.o];exact hz k h1 h2⟩;have Htr:=D htr;clear hall hz hzr htr;go_wp2_with fail;refine(Htr.o _).mono ?_;rintro e w5 ⟨rfl,hb5⟩;have BF:=bK BE hb5;have AF:U (At w.heap.size (RW i (PM β om i 0)) 76 w3 w5):=⟨A0.o.later hb5⟩;clear hb5 A0;go_wp2_with fail;go_ret2;refine⟨kW ⟨hyes.o,_,rfl,_,_,rfl,iM _,bI AF.o.row,fun j hj k hk=>?_⟩,BF.o⟩;have:=xq6 AF.o.row j k hj hk;unfold PM at this;rw[iP hj]at this;exact this
   ·have hne:=trims.xzu _ hall;have hno2:U (¬ uok β om i):=⟨fun h=>hall (hzr.2 fun k h1 h2=>by rw[Hβ'.o];exact h.2 k (by rw[Hn.o];exact h1) h2)⟩;obtain⟨t,ht⟩:∃ t:ByteArray,(⟨(Lib.trimB (s.extract n om).data.toList 0).toArray⟩:ByteArray)=t:=⟨_,rfl⟩;have htl:¬ t.toList=[]:=by rw[Lib.toList_data,<-ht];simpa using hne
    have hte:t.toList.isEmpty=false:=by simpa using htl
    rw[ht]at htr;have Htr:=D htr;clear hall hne hzr htr ht A0;go_wp2_with fail;refine(Htr.o _).mono ?_;rintro e w5 ⟨rfl,hb5⟩;have BF:=bK BE hb5;clear hb5;go_wp2_with fail;go_ret2;exact⟨kO ⟨hno2.o,rfl⟩,BF.o⟩
end punh
namespace rsuni
open arr mem bD aT aV bC fW
theorem xna{T:Array aE}(b s:ByteArray)(w:G)(hT:(aO.info? 34).map (·.size)=some T.size)(hs:s.size=1008)
 (HS:∀ w1:G,aD aO 38 #[I T,O J 1,E b,O J 1008] w1 (zB w1 (aA #[E s,O J 0]))):
 aD aO 98 #[I T,E b] w (zB w (I (FL J 256 (uni (aU s))))):=by
 obtain⟨hz,hsize⟩:=iY aV.aX;obtain⟨z,HZ⟩:=aQ (FL J 256 fun _=>0);rw[HZ.o]at hz;have Hzs:=dP HZ;obtain⟨R,HR⟩:=aQ (FL J 256 (uni (aU s)));have Ri:=eE HR hsize;have Ro:=eJ HR;have Rz:=gJ Hzs HR;have HRd:U (FL J 256 (lf (ua (aU s) 336))=R):=HR;have HTz:=D hT;rw[HR.o];have Hix:U (∀ j:Nat,j<1008->∀ w1:G,(aN 9 (E s) (O J (j:Int))).run aO w1=.ok (O .u8 ((by' (aU s) j:Nat):Int)) w1):=⟨fun j hj w1=>byte_of s j _ (by omega) rfl w1⟩;obtain⟨W,hW⟩:=aP ((w.alloc (Y T 34)).alloc (Y z 76));obtain⟨r0,r1,hWs,b0⟩:=two hW;have T0:U (W.heap[w.heap.size]? = some (Y T 34 (0,0))):=⟨r0⟩;have R0:U (W.heap[w.heap.size+1]? = some (Y z 76 (0,0))):=⟨r1⟩;have BW:=D b0;have HWs:=D hWs;have HW:=D hW;have HSh:=D HS;clear hW r0 r1 b0 hWs hsize HS hT HR;go_enter Tryz.func98,Tryz.ntmps98;go_wp2_with (first
  | (rw[HW.o])
  | (refine iL rfl 34 _ rfl w.heap.size rfl 34 T (0,0) _ T0.o zY rfl HTz.o ?_))
 refine(HSh.o _).mono ?_;rintro e u1 ⟨rfl,hb1⟩;obtain⟨W1,hW1⟩:=aP (u1.alloc (Y z 76));obtain⟨r1,hs1,b1⟩:=one hW1;have A0:U (At u1.heap.size (FL J 256 (lf (ua (aU s) 0))) 76 W1 W1):=⟨by rw[ua,xlh,HZ.o];exact At.refl r1⟩;have R1:U (W1.heap[w.heap.size+1]? = some (Y z 76 (0,0))):=⟨((hb1.trans (b1.mono hb1.size)).block _ (by rw[HWs.o];omega)).trans R0.o⟩;have B1:U (zb w W1):=⟨BW.o.trans ((hb1.trans (b1.mono hb1.size)).mono (by rw[HWs.o];omega))⟩;have Hlt:U (w.heap.size+1<u1.heap.size):=⟨by have:=hb1.size;rw[HWs.o]at this;omega⟩;have HW1:=D hW1;clear hb1 r1 b1 hs1 hW1 T0 R0 BW;go_wp2_with (rw[HW1.o]);clear hz;go_loopw [8,9] (fun c v wr=>∃ j:Nat,j<=336/\v=O J ((3*j:Nat):Int)/\c=O J (((ua (aU s) j).length:Nat):Int)/\U (At u1.heap.size (FL J 256 (lf (ua (aU s) j))) 76 W1 wr)) (fun _ v _=>1008-(aG v).toNat)
 case atStart=>exact⟨0,by omega,rfl,rfl,A0⟩
 case round=>
  clear A0;obtain⟨j,hj,rfl,rfl,A0⟩:=hrel;have BE:U (zb w wr):=⟨B1.o.trans (A0.o.below B1.o.size (by have:=Hlt.o;omega))⟩;obtain⟨n,hn⟩:=aP ((ua (aU s) j).length);have hn256:=(ua_le (aU s) j).1;rw[hn]at hn256 ⊢;by_cases hgo:j<336/\n<256
  ·obtain⟨hj336,hn2⟩:=hgo;obtain⟨i,hi⟩:=aP (3*j);have hi1:=Hix.o i (by omega);obtain⟨i1,hi1v⟩:=aP (i+1);obtain⟨i2,hi2v⟩:=aP (i+2);have hi2:=Hix.o i1 (by omega);have hi3:=Hix.o i2 (by omega);obtain⟨β0,hβ0⟩:∃ β,by' (aU s) i = β := ⟨_,rfl⟩
   obtain⟨β1,hβ1⟩:∃ β,by' (aU s) i1 = β := ⟨_,rfl⟩
   obtain⟨β2,hβ2⟩:∃ β,by' (aU s) i2 = β := ⟨_,rfl⟩
   have l0 : β0<256:=by rw[<-hβ0];exact xce s _
   have l1 : β1<256:=by rw[<-hβ1];exact xce s _
   have l2 : β2<256:=by rw[<-hβ2];exact xce s _
   obtain⟨γ,hγ⟩:∃ γ,β2%128 = γ := ⟨_,rfl⟩;obtain⟨p,hp⟩:=aP (β1*256);obtain⟨q,hq⟩:=aP (γ * 65536);obtain⟨y,hy⟩:=aP (β0+256 * β1);obtain⟨x,hx⟩:∃ x,β0+256 * β1+65536 * γ = x:=⟨_,rfl⟩;have htri:tri (aU s) i=x:=by unfold tri;rw[hi1v,hi2v,hβ0,hβ1,hβ2,hγ,hx]
   obtain⟨v1,v2⟩:=xp3 β0 β1 γ l0 l1 (by omega);rw[hp,hy]at v1;rw[hy,hq,show y+65536 * γ = x by omega]at v2;have va:=xnn β2 l2;rw[hγ]at va;rw[hβ0]at hi1;rw[hβ1]at hi2;rw[hβ2]at hi3;have hi3z:(i:Int)+2<1008:=by omega
   have hi3y:(i2:Int)<1008:=by omega
   have fi1:J.wrap ((i:Int)+1)=(i1:Int):=bB;have fi2:J.wrap ((i:Int)+2)=(i2:Int):=bB;have fp:(β1:Int)*256=(p:Int):=by omega
   have fpw:J.wrap ((β1:Int)*256)=(p:Int):=by rw[fp,iN];omega
   have fq:(γ : Int)*65536=(q:Int):=by omega
   have fqw:J.wrap ((γ : Int)*65536)=(q:Int):=by rw[fq,iN];omega
   have w0:J.wrap (β0:Int)=(β0:Int):=bB;have w1:J.wrap (β1:Int)=(β1:Int):=bB;have w2:J.wrap (γ : Int)=(γ : Int):=bB;have wp:J.wrap (p:Int)=(p:Int):=bB;have wq:J.wrap (q:Int)=(q:Int):=bB;have fi3:J.wrap ((i:Int)+3)=(i:Int)+3:=bB;have hi1008:i<1008:=by omega
   have hszi:(s.size:Int)=1008:=by omega
   have hn2z:(n:Int)<256:=by omega
   rw[hi];have Hi:=D hi;have A1:U (At u1.heap.size (FL J 256 (lf (ua (aU s) j))) 76 W1 wr.drew):=⟨eN A0.o⟩;have Hn:=D hn;have Htri:=D htri;clear hβ0 hβ1 hβ2 hγ hp hq hx hy hi hn htri hi1v hi2v;go_wp2_with fail;refine xav (by kernel_rfl) (by kernel_rfl) ?_;repeat still_step
   refine jR ?_;clear hi1 hi2 hi3 v1 v2 va fi1 fi2 fp fpw fq fqw w0 w1 w2 wp wq hi3z hi3y A0;by_cases hx:x<8380417
   ·have hxz:(x:Int)<8380417:=by omega
    have Hua:U (ua (aU s) (j+1)=ua (aU s) j ++ [x]):=⟨by rw[ua,Hi.o,Htri.o,iP ⟨by rw[Hn.o];exact hn2,hx⟩]⟩;have Hset:U ((FL J 256 (lf (ua (aU s) j))).setIfInBounds n (O J (x:Int))=FL J 256 (lf (ua (aU s) (j+1)))):=⟨by rw[eV,Hua.o,<-xli,Hn.o]⟩;clear hx;go_wp2_with ((with_reducible refine cU A1 rfl _ _ _ rfl rfl ?_);refine⟨_,_,_,rfl,rfl,rfl,(by rw[cC];exact hn2),?_⟩;intro wn HRn;rw[Hset.o]at HRn);go_roundw
    case rel=>exact⟨j+1,by omega,by rw[show ((3*(j+1):Nat):Int)=(i:Int)+3 by have:=Hi.o;omega],by rw[show (ua (aU s) (j+1)).length=n+1 by rw[Hua.o,kK,Hn.o];rfl];go_num,HRn⟩
    case measure=>have:=Hi.o;simp[aG];omega
   ·have hxz:¬ (x:Int)<8380417:=by omega
    have Hua:U (ua (aU s) (j+1)=ua (aU s) j):=⟨by rw[ua,Hi.o,Htri.o,iQ (fun h=>hx h.2)]⟩;clear hx;go_wp2_with fail;go_roundw
    case rel=>exact⟨j+1,by omega,by rw[show ((3*(j+1):Nat):Int)=(i:Int)+3 by have:=Hi.o;omega],by rw[Hua.o,Hn.o],by rw[Hua.o];exact A1⟩
    case measure=>have:=Hi.o;simp[aG];omega
  ·have hend:U (ua (aU s) j=ua (aU s) 336):=⟨by
    by_cases h:j=336
    ·rw[h]
    ·exact(xsb (aU s) j 336 (by omega) hj).symm⟩
   rw[hend.o,HRd.o]at A0;have Hrow:=D A0.o.row;have Hres:U (wr.heap[w.heap.size+1]? = some (Y z 76 (0,0))):=⟨A0.o.other (bI R1.o) (by have:=Hlt.o;omega) R1.o⟩;have hszi:(s.size:Int)=1008:=by omega
   clear A0 hn;by_cases h:j<336
   ·have hn256z:¬ (n:Int)<256:=by omega
    have hjz:((3*j:Nat):Int)+2<1008:=by omega
    obtain⟨i,hi⟩:=aP (3*j);rw[hi]at hjz ⊢;have fi2:J.wrap ((i:Int)+2)=(i:Int)+2:=bB;clear hi hgo hend;go_wp2_with (first
     | (refine iL rfl 76 _ rfl u1.heap.size rfl 76 R (0,0) _ Hrow.o zX rfl Ri.o ?_)
     | (refine iS rfl 76 _ _ rfl (w.heap.size+1) R rfl rfl 76 _ Hres.o Ri.o Rz.o Ro.o ?_))
    refine iV (v:=I R) (jC rfl _ _ (w.heap.size+1) 76 _ (0,0) _ rfl (jD _ _ _ _ _ _ Hres.o) zX rfl Ri.o) rfl ?_;exact⟨rfl,BE.o.trans (below_setRow _ _ _ (oO _))⟩
   ·obtain rfl:j=336:=by omega
    have e1:((3*336:Nat):Int)=1008:=rfl;rw[e1];clear hgo hend e1;go_wp2_with (first
     | (refine iL rfl 76 _ rfl u1.heap.size rfl 76 R (0,0) _ Hrow.o zX rfl Ri.o ?_)
     | (refine iS rfl 76 _ _ rfl (w.heap.size+1) R rfl rfl 76 _ Hres.o Ri.o Rz.o Ro.o ?_))
    refine iV (v:=I R) (jC rfl _ _ (w.heap.size+1) 76 _ (0,0) _ rfl (jD _ _ _ _ _ _ Hres.o) zX rfl Ri.o) rfl ?_;exact⟨rfl,BE.o.trans (below_setRow _ _ _ (oO _))⟩
end rsuni
namespace rsball
open arr mem bD aT aV bC fW rsuni
theorem xz2(f:Nat->Int)(k:Nat)(x y:Int):upd (upd f k x) k y=upd f k y:=by
 funext j
 unfold upd;by_cases h:j=k
 ·rw[iP h,iP h]
 ·rw[iQ h,iQ h,iQ h]
theorem xs9{T:Array aE}(b s:ByteArray)(tau:Int)(w:G)(hT:(aO.info? 34).map (·.size)=some T.size)(h:¬ (1<=tau/\tau<=64))
 (HS:∀ w1:G,aD aO 38 #[I T,O J 2,E b,O J 544] w1 (zB w1 (aA #[E s,O J 0]))):
 aD aO 40 #[I T,E b,O J tau] w (zB w (I (FL J 256 fun _=>0))):=by
 obtain⟨hz,hsize⟩:=iY aV.aX;obtain⟨z,HZ⟩:=aQ (FL J 256 fun _=>0);rw[HZ.o]at hz ⊢;have Hzs:z.size=256:=by rw[<-HZ.o];exact cC _ _ _
 have Zi:U ((aO.info? 76).map (·.size)=some z.size):=⟨by rw[Hzs];exact hsize⟩;have Zo:=eJ HZ;have HTz:=D hT;obtain⟨W,hW⟩:=aP ((w.alloc (Y T 34)).alloc (Y z 76));obtain⟨r0,r1,hWs,b0⟩:=two hW;have T0:U (W.heap[w.heap.size]? = some (Y T 34 (0,0))):=⟨r0⟩;have R0:U (W.heap[w.heap.size+1]? = some (Y z 76 (0,0))):=⟨r1⟩;have BW:=D b0;have HWs:=D hWs;have HW:=D hW;have HSh:=D HS;clear hW r0 r1 b0 hWs hsize HS hT HZ Hzs;have h:tau<1\/(¬ tau<1/\64<tau):=by omega
 rcases h with h1 | ⟨h1,h2⟩
 all_goals
  go_enter Tryz.func40,Tryz.ntmps40;go_wp2_with (first
   | (rw[HW.o])
   | (refine iL rfl 34 _ rfl w.heap.size rfl 34 T (0,0) _ T0.o zY rfl HTz.o ?_))
  refine(HSh.o _).mono ?_;rintro x u1 ⟨rfl,hb1⟩;obtain⟨W1,hW1⟩:=aP (u1.alloc (Y z 76));obtain⟨r1,hs1,b1⟩:=one hW1;have Rr:U (W1.heap[u1.heap.size]? = some (Y z 76 (0,0))):=⟨r1⟩;have R1:U (W1.heap[w.heap.size+1]? = some (Y z 76 (0,0))):=⟨((hb1.trans (b1.mono hb1.size)).block _ (by rw[HWs.o];omega)).trans R0.o⟩;have B1:U (zb w W1):=⟨BW.o.trans ((hb1.trans (b1.mono hb1.size)).mono (by rw[HWs.o];omega))⟩;have HW1:=D hW1;clear hb1 r1 b1 hs1 hW1;go_wp2_with (first
   | (rw[HW1.o])
   | (refine iL rfl 76 _ rfl u1.heap.size rfl 76 z (0,0) _ Rr.o zX rfl Zi.o ?_)
   | (refine iS rfl 76 _ _ rfl (w.heap.size+1) z rfl rfl 76 _ R1.o Zi.o rfl Zo.o ?_))
  refine iV (v:=I z) (jC rfl _ _ (w.heap.size+1) 76 _ (0,0) _ rfl (jD _ _ _ _ _ _ R1.o) zX rfl Zi.o) rfl ?_;exact⟨rfl,B1.o.trans (below_setRow _ _ _ (oO _))⟩
theorem xta{T:Array aE}(b s:ByteArray)(tau:Nat)(w:G)(hT:(aO.info? 34).map (·.size)=some T.size)(ht1 : 1<=tau)(ht2:tau<=64)(hs:s.size=544)
 (HS:∀ w1:G,aD aO 38 #[I T,O J 2,E b,O J 544] w1 (zB w1 (aA #[E s,O J 0]))):
 aD aO 40 #[I T,E b,O J (tau:Int)] w (zB w (I (FL J 256 (bl (aU s) tau tau).1))):=by
 obtain⟨hz,hsize⟩:=iY aV.aX;obtain⟨z,HZ⟩:=aQ (FL J 256 fun _=>0);rw[HZ.o]at hz;have Hzs:=dP HZ;obtain⟨R,HR⟩:=aQ (FL J 256 (bl (aU s) tau tau).1);have Ri:=eE HR hsize;have Ro:=eJ HR;have Rz:=gJ Hzs HR;have HRd:U (FL J 256 (bl (aU s) tau tau).1=R):=HR;have HTz:=D hT;rw[HR.o];have Hix:U (∀ j:Nat,j<544->∀ w1:G,(aN 9 (E s) (O J (j:Int))).run aO w1=.ok (O .u8 ((by' (aU s) j:Nat):Int)) w1):=⟨fun j hj w1=>byte_of s j _ (by omega) rfl w1⟩;obtain⟨W,hW⟩:=aP ((w.alloc (Y T 34)).alloc (Y z 76));obtain⟨r0,r1,hWs,b0⟩:=two hW;have T0:U (W.heap[w.heap.size]? = some (Y T 34 (0,0))):=⟨r0⟩;have R0:U (W.heap[w.heap.size+1]? = some (Y z 76 (0,0))):=⟨r1⟩;have BW:=D b0;have HWs:=D hWs;have HW:=D hW;have HSh:=D HS;have g1:¬ (tau:Int)<1:=by omega
 have g2:¬ (64:Int)<(tau:Int):=by omega
 obtain⟨i0,hi0⟩:=aP (256-tau);have fi0:J.wrap (256-(tau:Int))=(i0:Int):=bB;have Hi0:=D hi0;clear hW r0 r1 b0 hWs hsize HS hT HR hi0;go_enter Tryz.func40,Tryz.ntmps40;go_wp2_with (first
  | (rw[HW.o])
  | (refine iL rfl 34 _ rfl w.heap.size rfl 34 T (0,0) _ T0.o zY rfl HTz.o ?_))
 refine(HSh.o _).mono ?_;rintro x u1 ⟨rfl,hb1⟩;obtain⟨W1,hW1⟩:=aP (u1.alloc (Y z 76));obtain⟨r1,hs1,b1⟩:=one hW1;have A0:U (At u1.heap.size (FL J 256 (bl (aU s) tau 0).1) 76 W1 W1):=⟨by rw[bl,HZ.o];exact At.refl r1⟩;have R1:U (W1.heap[w.heap.size+1]? = some (Y z 76 (0,0))):=⟨((hb1.trans (b1.mono hb1.size)).block _ (by rw[HWs.o];omega)).trans R0.o⟩;have B1:U (zb w W1):=⟨BW.o.trans ((hb1.trans (b1.mono hb1.size)).mono (by rw[HWs.o];omega))⟩;have Hlt:U (w.heap.size+1<u1.heap.size):=⟨by have:=hb1.size;rw[HWs.o]at this;omega⟩;have HW1:=D hW1;have hszi:(s.size:Int)=544:=by omega
 clear hb1 r1 b1 hs1 hW1 T0 R0 BW;go_wp2_with (rw[HW1.o]);clear hz;go_loopw [10,11] (fun c v wr=>∃ t:Nat,t<=tau/\v=O J ((i0+t:Nat):Int)/\c=O J (((bl (aU s) tau t).2:Nat):Int)/\U (At u1.heap.size (FL J 256 (bl (aU s) tau t).1) 76 W1 wr)) (fun _ v _=>256-(aG v).toNat)
 case atStart=>exact⟨0,by omega,rfl,rfl,A0⟩
 case round=>
  clear A0;obtain⟨t,ht,rfl,rfl,A0⟩:=hrel;have BE:U (zb w wr):=⟨B1.o.trans (A0.o.below B1.o.size (by have:=Hlt.o;omega))⟩;obtain⟨o,hoo⟩:=aP ((bl (aU s) tau t).1);obtain⟨a0,ha0⟩:=aP ((bl (aU s) tau t).2);have ha544:=xkh (aU s) tau t;rw[ha0]at ha544 ⊢;by_cases htt:t<tau
  ·rw[hoo]at A0;obtain⟨i,hi⟩:=aP (i0+t);have hi256:i<256:=by have:=Hi0.o;omega
   have hiz:(i:Int)<256:=by omega
   have Hi:U (256-tau+t=i):=⟨by rw[Hi0.o];exact hi⟩;have Hi':=D hi;rw[hi];have Ho:=D hoo;have Ha0:=D ha0;clear hi hoo ha0;go_wp2_with fail;go_loopw [10] (fun v wv=>∃ f a:Nat,544<=a+f/\a<=544/\nx (aU s) i f a=nx (aU s) i 544 a0/\v=O J (a:Int)/\wr=wv) (fun v _=>544-(aG v).toNat)
   case atStart=>exact⟨544,a0,by omega,ha544,rfl,rfl,rfl⟩
   case round=>
    obtain⟨f,a,hf,ha,hnx,rfl,rfl⟩:=hrel;by_cases hlt:a<544
    ·have haz:(a:Int)<544:=by omega
     have hix:=Hix.o a hlt;obtain⟨β,hβ⟩:∃ β,by' (aU s) a = β := ⟨_,rfl⟩
     have hβ8 : β < 256:=by rw[<-hβ];exact xce s _
     rw[hβ]at hix;have wβ : J.wrap (β : Int)=(β : Int):=by rw[iN];omega
     by_cases hbig:i < β
     ·have hbz:(i:Int)<(β : Int):=by omega
      obtain⟨f,rfl⟩:∃ f',f=f'+1:=⟨f-1,by omega⟩;rw[nx,iP ⟨hlt,by rw[hβ];exact hbig⟩]at hnx;clear hβ hbig;go_wp2_with fail;go_roundw
      case rel=>exact⟨f,a+1,by omega,by omega,hnx,by go_num,trivial⟩
      case measure=>simp[aG];omega
     ·have hbz:¬ (i:Int)<(β : Int):=by omega
      rw[xg6 (aU s) i f a (by rw[hβ];omega)]at hnx;have hane:((a:Int)==544)=false:=jV.2 (by omega);obtain⟨v,hv⟩:∃ v,o β = v:=⟨_,rfl⟩;have co:wr.cell? ⟨u1.heap.size,β,none⟩=some (O J v):=by rw[<-hv];exact fZ A0.o.row β hβ8
      have fit:J.wrap ((i:Int)+(tau:Int))=((i+tau:Nat):Int):=bB;have fit2:J.wrap ((i:Int)+(tau:Int)-256)=(t:Int):=by have:=Hi.o;rw[iN];omega
      have fit3:(i:Int)+(tau:Int)-256=(t:Int):=by have:=Hi.o;omega
      obtain⟨d,hd⟩:=aP (t / 8);obtain⟨r,hr⟩:=aP (t%8);have hid:=Hix.o d (by omega);obtain⟨γ,hγ⟩:∃ γ,by' (aU s) d = γ := ⟨_,rfl⟩
      have hγ8 : γ < 256:=by rw[<-hγ];exact xce s _
      rw[hγ]at hid;obtain⟨y,hy⟩:=aP (γ / 2 ^ r);have hy8:y<256:=by rw[<-hy];exact mM (Nat.div_le_self _ _) hγ8
      have fy:(γ : Int) / 2 ^ r=(y:Int):=by rw[<-hy];simp
      have fand:=xj9 y hy8;obtain⟨bb,hbb⟩:=aP (y%2);rw[hbb]at fand;have fd:(t:Int).tdiv 8=(d:Int):=by rw[iU (by omega)];omega
      have fd2:(t:Int) / 8=(d:Int):=by omega
      have fdw:J.wrap ((t:Int).tdiv 8)=(d:Int):=by rw[fd,iN];omega
      have fr:(t:Int).tmod 8=(r:Int):=by rw[jB (by omega)];omega
      have fr2:(t:Int)%8=(r:Int):=by omega
      have fru:IntKind.u64.wrap (r:Int)=(r:Int):=by rw[kA];omega
      have hr7:r<=7:=by omega
      have Hsg:U (sgn (aU s) t=if bb=1 then 8380416 else 1):=⟨by unfold sgn;rw[hd,hr,hγ,hy,hbb]⟩;have Hbl:U (bl (aU s) tau (t+1)=(upd (upd o i v) β (sgn (aU s) t),a+1)):=⟨by
       rw[bl,Hi.o,Ha0.o,<-hnx,Ho.o];show (if a=544 then _ else _)=_;rw[iQ (by omega),hβ,hv]⟩
      clear hβ hv hd hr hγ hy hnx hbig;by_cases hb1:bb=1
      ·subst hb1;have Hs1:U (upd (upd (upd o i v) β 1) β 8380416=(bl (aU s) tau (t+1)).1):=⟨by rw[Hbl.o,xz2,Hsg.o,iP rfl]⟩;have Ha1:U ((bl (aU s) tau (t+1)).2=a+1):=⟨by rw[Hbl.o]⟩;clear hbb;go_wp2_with ((with_reducible refine cU (by assumption) rfl _ _ _ rfl rfl ?_);refine⟨_,_,_,rfl,rfl,rfl,(by rw[cC];omega),?_⟩;intro wn HRn;rw[eV]at HRn);rw[Hs1.o]at HRn;go_roundw
       case rel=>exact⟨t+1,by omega,by rw[show ((i0+(t+1):Nat):Int)=(i:Int)+1 by have:=Hi'.o;omega],by rw[Ha1.o];go_num,HRn⟩
       case measure=>simp[aG];omega
      ·have hb0:bb=0:=by omega
       subst hb0;have Hs1:U (upd (upd o i v) β 1=(bl (aU s) tau (t+1)).1):=⟨by rw[Hbl.o,Hsg.o,iQ (by omega)]⟩;have Ha1:U ((bl (aU s) tau (t+1)).2=a+1):=⟨by rw[Hbl.o]⟩;clear hbb hb1;go_wp2_with ((with_reducible refine cU (by assumption) rfl _ _ _ rfl rfl ?_);refine⟨_,_,_,rfl,rfl,rfl,(by rw[cC];omega),?_⟩;intro wn HRn;rw[eV]at HRn);rw[Hs1.o]at HRn;go_roundw
       case rel=>exact⟨t+1,by omega,by rw[show ((i0+(t+1):Nat):Int)=(i:Int)+1 by have:=Hi'.o;omega],by rw[Ha1.o];go_num,HRn⟩
       case measure=>simp[aG];omega
    ·obtain rfl:a=544:=by omega
     rw[xg6 (aU s) i f 544 (by omega)]at hnx;have hbl:bl (aU s) tau (t+1)=(o,544):=by
      rw[bl,Hi.o,Ha0.o,<-hnx,Ho.o];exact iP rfl
     have e1:(bl (aU s) tau tau).1=o:=by rw[xnw (aU s) tau (t+1) tau (by rw[hbl]) htt,hbl]
     have hFL:FL J 256 o=R:=by rw[<-e1];exact HRd.o
     rw[hFL]at A0;have Hrow:=D A0.o.row;have Hres:U (wr.heap[w.heap.size+1]? = some (Y z 76 (0,0))):=⟨A0.o.other (bI R1.o) (by have:=Hlt.o;omega) R1.o⟩;clear hbl e1 hFL A0 hnx;simp only[jE];go_wp2_with (first
      | (refine iL rfl 76 _ rfl u1.heap.size rfl 76 R (0,0) _ Hrow.o zX rfl Ri.o ?_)
      | (refine iS rfl 76 _ _ rfl (w.heap.size+1) R rfl rfl 76 _ Hres.o Ri.o Rz.o Ro.o ?_))
     refine iV (v:=I R) (jC rfl _ _ (w.heap.size+1) 76 _ (0,0) _ rfl (jD _ _ _ _ _ _ Hres.o) zX rfl Ri.o) rfl ?_;exact⟨rfl,BE.o.trans (below_setRow _ _ _ (oO _))⟩
  ·obtain rfl:t=tau:=by omega
   have hit:((i0+t:Nat):Int)=256:=by have:=Hi0.o;omega
   rw[hit];rw[HRd.o]at A0;have Hrow:=D A0.o.row;have Hres:U (wr.heap[w.heap.size+1]? = some (Y z 76 (0,0))):=⟨A0.o.other (bI R1.o) (by have:=Hlt.o;omega) R1.o⟩;clear A0 hit hoo ha0;go_wp2_with (first
    | (refine iL rfl 76 _ rfl u1.heap.size rfl 76 R (0,0) _ Hrow.o zX rfl Ri.o ?_)
    | (refine iS rfl 76 _ _ rfl (w.heap.size+1) R rfl rfl 76 _ Hres.o Ri.o Rz.o Ro.o ?_))
   refine iV (v:=I R) (jC rfl _ _ (w.heap.size+1) 76 _ (0,0) _ rfl (jD _ _ _ _ _ _ Hres.o) zX rfl Ri.o) rfl ?_;exact⟨rfl,BE.o.trans (below_setRow _ _ _ (oO _))⟩
end rsball
namespace qbal
open arr mem bD aT aV bC fW rsuni
theorem xjr(s:ByteArray)(t:Nat)(ht:t / 8<s.size)(hs:s.size<=544)(w:G):aD aO 140 #[E s,O J (t:Int)] w (zE w (O J (sgn (aU s) t))):=by
 obtain⟨d,hd⟩:=aP (t / 8);obtain⟨r,hr⟩:=aP (t%8);have ht2:t<4352:=by omega
 have hid:∀ w1:G,(aN 9 (E s) (O J (d:Int))).run aO w1=.ok (O .u8 ((by' (aU s) d:Nat):Int)) w1:=fun w1=>byte_of s d _ (by omega) rfl w1
 obtain⟨γ,hγ⟩:∃ γ,by' (aU s) d = γ := ⟨_,rfl⟩
 have hγ8 : γ < 256:=by rw[<-hγ];exact xce s _
 rw[hγ]at hid;obtain⟨y,hy⟩:=aP (γ / 2 ^ r);have hy8:y<256:=by rw[<-hy];exact mM (Nat.div_le_self _ _) hγ8
 have fy:(γ : Int) / 2 ^ r=(y:Int):=by rw[<-hy];simp
 have fand:=xj9 y hy8;obtain⟨bb,hbb⟩:=aP (y%2);rw[hbb]at fand;have fd:(t:Int).tdiv 8=(d:Int):=by rw[iU (by omega)];omega
 have fd2:(t:Int) / 8=(d:Int):=by omega
 have fdw:J.wrap ((t:Int).tdiv 8)=(d:Int):=by rw[fd,iN];omega
 have fr:(t:Int).tmod 8=(r:Int):=by rw[jB (by omega)];omega
 have fr2:(t:Int)%8=(r:Int):=by omega
 have fru:IntKind.u64.wrap (r:Int)=(r:Int):=by rw[kA];omega
 have hr7:r<=7:=by omega
 have hsg:sgn (aU s) t=if bb=1 then 8380416 else 1:=by unfold sgn;rw[hd,hr,hγ,hy,hbb]
 have hds:(d:Int)<(s.size:Int):=by omega
 rw[hsg];clear hsg hd hr hγ hy;by_cases hb1:bb=1
 ·subst hb1;clear hbb;go_enter Tryz.func140,Tryz.ntmps140;go_wp2_with fail;go_ret;exact⟨rfl,rfl⟩
 ·obtain rfl:bb=0:=by omega
  clear hbb hb1;go_enter Tryz.func140,Tryz.ntmps140;go_wp2_with fail;go_ret;exact⟨rfl,rfl⟩
theorem xs8(s:ByteArray)(tau:Nat)(w:G)(ht1 : 1<=tau)(ht2:tau<=64)(hs:s.size=544):
 aD aO 85 #[E s,O J (tau:Int)] w (zB w (I (FL J 256 (bl (aU s) tau tau).1))):=by
 obtain⟨hz,hsize⟩:=iY aV.aX;obtain⟨z,HZ⟩:=aQ (FL J 256 fun _=>0);rw[HZ.o]at hz;have Hzs:=dP HZ;obtain⟨R,HR⟩:=aQ (FL J 256 (bl (aU s) tau tau).1);have Ri:=eE HR hsize;have Ro:=eJ HR;have Rz:=gJ Hzs HR;have HRd:U (FL J 256 (bl (aU s) tau tau).1=R):=HR;rw[HR.o];have Hix:U (∀ j:Nat,j<544->∀ w1:G,(aN 9 (E s) (O J (j:Int))).run aO w1=.ok (O .u8 ((by' (aU s) j:Nat):Int)) w1):=⟨fun j hj w1=>byte_of s j _ (by omega) rfl w1⟩;have Hsign:U (∀ t:Nat,t<64->∀ w1:G,aD aO 140 #[E s,O J (t:Int)] w1 (zE w1 (O J (sgn (aU s) t)))):=⟨fun t ht w1=>xjr s t (by omega) (by omega) w1⟩;obtain⟨W1,hW⟩:=aP ((w.alloc (Y z 76)).alloc (Y z 76));obtain⟨r0,r1,hWs,b0⟩:=two hW;have R1:U (W1.heap[w.heap.size]? = some (Y z 76 (0,0))):=⟨r0⟩;have A0:U (At (w.heap.size+1) (FL J 256 (bl (aU s) tau 0).1) 76 W1 W1):=⟨by rw[bl,HZ.o];exact At.refl r1⟩;have B1:=D b0;have HW:=D hW;have hszi:(s.size:Int)=544:=by omega
 obtain⟨i0,hi0⟩:=aP (256-tau);have fi0:J.wrap (256-(tau:Int))=(i0:Int):=bB;have fi0' : 256-(tau:Int)=(i0:Int):=by omega
 have Hi0:=D hi0;clear hW r0 r1 b0 hWs hsize HR hi0 hs;go_enter Tryz.func85,Tryz.ntmps85;go_wp2_with (rw[HW.o]);clear hz fi0';go_loopw [7,8] (fun c v wr=>∃ t a f:Nat,t<=tau/\a<=544/\544<=a+f/\nx (aU s) (i0+t) f a=nx (aU s) (i0+t) 544 (bl (aU s) tau t).2/\c=O J ((i0+t:Nat):Int)/\v=O J (a:Int)/\U (At (w.heap.size+1) (FL J 256 (bl (aU s) tau t).1) 76 W1 wr)) (fun _ v _=>544-(aG v).toNat)
 case atStart=>exact⟨0,8,544,iX _,by decide,by decide,by rw[bl],rfl,rfl,A0⟩
 case round=>
  clear A0;obtain⟨t,a,f,ht,ha,hf,hnx,rfl,rfl,A0⟩:=hrel;have BE:U (zb w wr):=⟨B1.o.trans (A0.o.below B1.o.size (by omega))⟩;obtain⟨o,hoo⟩:=aP ((bl (aU s) tau t).1);obtain⟨a0,ha0⟩:=aP ((bl (aU s) tau t).2);rw[ha0]at hnx;obtain⟨i,hi⟩:=aP (i0+t);rw[hi]at hnx ⊢;have Hi:U (256-tau+t=i):=⟨by rw[Hi0.o];exact hi⟩;have Hi':=D hi;by_cases hgo:a<544/\t<tau
  ·obtain⟨hlt,htt⟩:=hgo;rw[hoo]at A0;have Ho:=D hoo;have Ha0:=D ha0;have hi256:i<256:=by have:=Hi0.o;omega
   have hiz:(i:Int)<256:=by omega
   have haz:(a:Int)<544:=by omega
   have hix:=Hix.o a hlt;obtain⟨β,hβ⟩:∃ β,by' (aU s) a = β := ⟨_,rfl⟩
   have hβ8 : β < 256:=by rw[<-hβ];exact xce s _
   rw[hβ]at hix;have wβ : J.wrap (β : Int)=(β : Int):=by rw[iN];omega
   clear hi hoo ha0;by_cases hbig:i < β
   ·have hbz:(i:Int)<(β : Int):=by omega
    obtain⟨f,rfl⟩:∃ f',f=f'+1:=⟨f-1,by omega⟩;rw[nx,iP ⟨hlt,by rw[hβ];exact hbig⟩]at hnx;have Hnx:=D hnx;have A1:U (At (w.heap.size+1) (FL J 256 (bl (aU s) tau t).1) 76 W1 wr):=⟨by rw[Ho.o];exact A0.o⟩;clear hβ hbig hnx A0;go_wp2_with fail;go_roundw
    case rel=>exact⟨t,a+1,f,by omega,by omega,by omega,by rw[Hi'.o,Ha0.o];exact Hnx.o,by rw[Hi'.o],by go_num,A1⟩
    case measure=>simp[aG];omega
   ·have hbz:¬ (i:Int)<(β : Int):=by omega
    rw[xg6 (aU s) i f a (by rw[hβ];omega)]at hnx;obtain⟨v,hv⟩:∃ v,o β = v:=⟨_,rfl⟩;have co:wr.cell? ⟨w.heap.size+1,β,none⟩=some (O J v):=by rw[<-hv];exact fZ A0.o.row β hβ8
    have fit:(i:Int)-(i0:Int)=(t:Int):=by have:=Hi'.o;omega
    have fitw:J.wrap ((i:Int)-(i0:Int))=(t:Int):=by rw[fit,iN];omega
    obtain⟨g,hg⟩:=aP (sgn (aU s) t);have Hsg:=D (Hsign.o t (by omega));rw[hg]at Hsg;have Hbl:U (bl (aU s) tau (t+1)=(upd (upd o i v) β g,a+1)):=⟨by
     rw[bl,Hi.o,Ha0.o,<-hnx,Ho.o];show (if a=544 then _ else _)=_;rw[iQ (by omega),hβ,hv,hg]⟩
    have Hs1:U (upd (upd o i v) β g=(bl (aU s) tau (t+1)).1):=⟨by rw[Hbl.o]⟩;have Ha1:U ((bl (aU s) tau (t+1)).2=a+1):=⟨by rw[Hbl.o]⟩;clear hβ hv hg hnx hbig fit;go_wp2_with ((with_reducible refine cU (by assumption) rfl _ _ _ rfl rfl ?_);refine⟨_,_,_,rfl,rfl,rfl,(by rw[cC];omega),?_⟩;intro wn HRn;rw[eV]at HRn);refine(Hsg.o _).mono ?_;rintro x wn ⟨rfl,rfl⟩;go_wp2_with ((with_reducible refine cU (by assumption) rfl _ _ _ rfl rfl ?_);refine⟨_,_,_,rfl,rfl,rfl,(by rw[cC];omega),?_⟩;intro wn HRm;rw[eV]at HRm);rw[Hs1.o]at HRm;go_roundw
    case rel=>exact⟨t+1,a+1,544,by omega,by omega,by omega,by rw[Ha1.o],by rw[show ((i0+(t+1):Nat):Int)=(i:Int)+1 by have:=Hi'.o;omega],by go_num,HRm⟩
    case measure=>simp[aG];omega
  ·have e1:FL J 256 (bl (aU s) tau t).1=R:=by
    rw[<-HRd.o];by_cases htt:t=tau
    ·rw[htt]
    ·have ha5:a=544:=by omega
     subst ha5;rw[xg6 (aU s) i f 544 (by omega)]at hnx;have hbl:bl (aU s) tau (t+1)=(o,544):=by
      rw[bl,Hi.o,ha0,<-hnx,hoo];exact iP rfl
     rw[xnw (aU s) tau (t+1) tau (by rw[hbl]) (by omega),hbl,hoo]
   rw[e1]at A0;have Hrow:=D A0.o.row;have Hres:U (wr.heap[w.heap.size]? = some (Y z 76 (0,0))):=⟨A0.o.other (bI R1.o) (by omega) R1.o⟩;have hi6:i<=256:=by have:=Hi0.o;omega
   by_cases hlt:a<544
   ·have haz:(a:Int)<544:=by omega
    obtain rfl:t=tau:=by omega
    have hii:i=256:=by have:=Hi0.o;omega
    subst hii;clear hgo A0 hoo ha0 hnx hi e1;simp only[jE];go_wp2_with (first
     | (refine iL rfl 76 _ rfl (w.heap.size+1) rfl 76 R (0,0) _ Hrow.o zX rfl Ri.o ?_)
     | (refine iS rfl 76 _ _ rfl w.heap.size R rfl rfl 76 _ Hres.o Ri.o Rz.o Ro.o ?_))
    refine iV (v:=I R) (jC rfl _ _ w.heap.size 76 _ (0,0) _ rfl (jD _ _ _ _ _ _ Hres.o) zX rfl Ri.o) rfl ?_;exact⟨rfl,BE.o.trans (below_setRow _ _ _ (iM _))⟩
   ·obtain rfl:a=544:=by omega
    clear hgo A0 hoo ha0 hnx hi e1;simp only[jE];go_wp2_with (first
     | (refine iL rfl 76 _ rfl (w.heap.size+1) rfl 76 R (0,0) _ Hrow.o zX rfl Ri.o ?_)
     | (refine iS rfl 76 _ _ rfl w.heap.size R rfl rfl 76 _ Hres.o Ri.o Rz.o Ro.o ?_))
    refine iV (v:=I R) (jC rfl _ _ w.heap.size 76 _ (0,0) _ rfl (jD _ _ _ _ _ _ Hres.o) zX rfl Ri.o) rfl ?_;exact⟨rfl,BE.o.trans (below_setRow _ _ _ (iM _))⟩
theorem xsn{T:Array aE}(b:ByteArray)(tau:Int)(w:G)(h:¬ (1<=tau/\tau<=64)):
 aD aO 34 #[I T,E b,O J tau] w (zB w (I (FL J 256 fun _=>0))):=by
 obtain⟨hz,hsize⟩:=iY aV.aX;obtain⟨z,HZ⟩:=aQ (FL J 256 fun _=>0);rw[HZ.o]at hz ⊢;have Hzs:z.size=256:=by rw[<-HZ.o];exact cC _ _ _
 have Zi:U ((aO.info? 76).map (·.size)=some z.size):=⟨by rw[Hzs];exact hsize⟩;have Zo:=eJ HZ;obtain⟨W,hW⟩:=aP ((w.alloc (Y T 34)).alloc (Y z 76));obtain⟨r0,r1,hWs,b0⟩:=two hW;have R0:U (W.heap[w.heap.size+1]? = some (Y z 76 (0,0))):=⟨r1⟩;have BW:=D b0;have HW:=D hW;clear hW r0 r1 b0 hWs hsize HZ Hzs;have h:tau<1\/(¬ tau<1/\64<tau):=by omega
 rcases h with h1 | ⟨h1,h2⟩
 all_goals
  go_enter Tryz.func34,Tryz.ntmps34;go_wp2_with (first
   | (rw[HW.o])
   | (refine iS rfl 76 _ _ rfl (w.heap.size+1) z rfl rfl 76 _ R0.o Zi.o rfl Zo.o ?_))
  refine iV (v:=I z) (jC rfl _ _ (w.heap.size+1) 76 _ (0,0) _ rfl (jD _ _ _ _ _ _ R0.o) zX rfl Zi.o) rfl ?_;exact⟨rfl,BW.o.trans (below_setRow _ _ _ (oO _))⟩
theorem xso{T:Array aE}(b s:ByteArray)(tau:Nat)(w:G)(hT:(aO.info? 34).map (·.size)=some T.size)(ht1 : 1<=tau)(ht2:tau<=64)(hs:s.size=544)
 (HS:∀ w1:G,zb w w1->aD aO 78 #[I T,O J 2,E b,O J 544] w1 (zB w1 (aA #[E s,O J 0]))):
 aD aO 34 #[I T,E b,O J (tau:Int)] w (zB w (I (FL J 256 (bl (aU s) tau tau).1))):=by
 obtain⟨hz,hsize⟩:=iY aV.aX;obtain⟨z,HZ⟩:=aQ (FL J 256 fun _=>0);rw[HZ.o]at hz;have Hzs:=dP HZ;have HU:U (∀ w1:G,aD aO 85 #[E s,O J (tau:Int)] w1 (zB w1 (I (FL J 256 (bl (aU s) tau tau).1)))):=⟨fun w1=>xs8 s tau w1 ht1 ht2 hs⟩;obtain⟨R,HR⟩:=aQ (FL J 256 (bl (aU s) tau tau).1);have Ri:=eE HR hsize;have Ro:=eJ HR;have Rz:=gJ Hzs HR;have HTz:=D hT;rw[HR.o]at HU ⊢;obtain⟨W,hW⟩:=aP ((w.alloc (Y T 34)).alloc (Y z 76));obtain⟨r0,r1,hWs,b0⟩:=two hW;have T0:U (W.heap[w.heap.size]? = some (Y T 34 (0,0))):=⟨r0⟩;have R0:U (W.heap[w.heap.size+1]? = some (Y z 76 (0,0))):=⟨r1⟩;have BW:=D b0;have HWs:=D hWs;have HW:=D hW;have HSh:=D (HS W b0);have g1:¬ (tau:Int)<1:=by omega
 have g2:¬ (64:Int)<(tau:Int):=by omega
 clear hW r0 r1 b0 hWs hsize HS hT HR hs;go_enter Tryz.func34,Tryz.ntmps34;go_wp2_with (first
  | (rw[HW.o])
  | (refine iL rfl 34 _ rfl w.heap.size rfl 34 T (0,0) _ T0.o zY rfl HTz.o ?_))
 refine HSh.o.mono ?_;rintro e u1 ⟨rfl,hb1⟩;have R1:U (u1.heap[w.heap.size+1]? = some (Y z 76 (0,0))):=⟨(hb1.block _ (by rw[HWs.o];omega)).trans R0.o⟩;have B1:U (zb w u1):=⟨BW.o.trans (hb1.mono (by rw[HWs.o];omega))⟩;have Hlt:U (w.heap.size+1<u1.heap.size):=⟨bI R1.o⟩;clear hb1 hz;go_wp2_with fail;refine(HU.o _).mono ?_;rintro e u2 ⟨rfl,hb2⟩;have R2:U (u2.heap[w.heap.size+1]? = some (Y z 76 (0,0))):=⟨(hb2.block _ Hlt.o).trans R1.o⟩;have B2:=bK B1 hb2;clear hb2;go_wp2_with (refine iS rfl 76 _ _ rfl (w.heap.size+1) R rfl rfl 76 _ R2.o Ri.o Rz.o Ro.o ?_);refine iV (v:=I R) (jC rfl _ _ (w.heap.size+1) 76 _ (0,0) _ rfl (jD _ _ _ _ _ _ R2.o) zX rfl Ri.o) rfl ?_;exact⟨rfl,B2.o.trans (below_setRow _ _ _ (oO _))⟩
end qbal
namespace qmsk
open arr mem bD aT aV aY bC bF bS bQ qpair eM
theorem xvu{T:Array aE}(ln fn m p:Nat)(k e t a b o s:Int)(sd:ByteArray)(sk:Nat->ByteArray)(q:Nat->Nat->Int)(w:G)(hT:(aO.info? 34).map (·.size)=some T.size)(hl : 1<=ln/\ln<=8)(hf:fn<=65000)(hm:m<=64)(hp : 32*m=p)(ha : 1<=a/\a<=524288)(h:bP k (ln:Int) e t a b o s=true)(hsd:sd.size<=1125899906842624)
 (HL:∀ w1:G,aD aO 127 #[O J (2*a-1)] w1 (zE w1 (O J (m:Int))))
 (HS:∀ r:Nat,r<8->∀ w1:G,zb w w1->aD aO 78 #[I T,O J 2,E (tw sd ((fn+r)%256) ((fn+r) / 256)),O J (p:Int)] w1 (zB w1 (aA #[E (sk r),O J 0])))
 (HU:∀ r:Nat,r<8->∀ w1:G,aD aO 108 #[E (sk r),O J (a-1),O J a] w1 (zB w1 (aA #[I (FL J 256 (q r)),O J 0]))):
 aD aO 184 #[I T,I (bO k (ln:Int) e t a b o s),E sd,O J (fn:Int)] w fun x w'=>(∃ v1,x=.returned v1/\Holds w' w.heap.size v1 ln q)/\zb w w':=by
 have HR:U (∀ w1:G,aD aO 49 #[I (bO k (ln:Int) e t a b o s)] w1 (zB w1 (.bool true))):=⟨fun w1=>by rw[<-h];exact eF.xbo _ _ e t a b o s w1⟩;obtain⟨i0,hi,hz0,hz1,hz2⟩:=parts bX;obtain⟨hz,hsize⟩:=iY aV.aX;obtain⟨z,HZ⟩:=aQ (FL J 256 fun _=>0);rw[HZ.o]at hz hz0;have HI:=D (jA hi (jA hz0 (jA hz1 hz2)));clear hi hz0 hz1 hz2 hsize;obtain⟨C,HC⟩:=aQ ((bO k (ln:Int) e t a b o s):Array aE);rw[HC.o]at HR ⊢;have HCs:U ((aO.info? 37).map (·.size)=some C.size):=⟨by rw[<-HC.o];kernel_rfl⟩;obtain⟨W,hW⟩:=aP ((w.alloc (Y T 34)).alloc (Y C 37));obtain⟨r0,r1,hWs,b0⟩:=two hW;have T0:U (W.heap[w.heap.size]? = some (Y T 34 (0,0))):=⟨r0⟩;have L0:U (W.heap[w.heap.size+1]? = some (Y C 37 (0,0))):=⟨r1⟩;have BW:=D b0;have HWs:=D hWs;have HW:=D hW;have HSm:=D HS;have HUn:=D HU;have HLo:=D HL;have HTz:=D hT;have Hl:=D hl;have Hsd:=D hsd;have Ha:=D ha;have Hm:=D (jA hm hp);have g1:¬ (fn:Int)<0:=by omega
 have g2:¬ (65000:Int)<(fn:Int):=by omega
 have Hf:=D hf;clear hW r0 r1 b0 h HS HU HL hT hl hsd hWs ha hm hp hf;go_enter Tryz.func184,Tryz.ntmps184;go_wp2_with (first
  | (rw[HW.o])
  | (refine iL rfl 37 _ rfl (w.heap.size+1) rfl 37 _ (0,0) _ L0.o zZ rfl HCs.o ?_))
 refine(HR.o _).mono ?_;rintro x u1 ⟨rfl,hb1⟩;have B1:U (zb w u1):=⟨BW.o.trans (hb1.mono (by rw[HWs.o];omega))⟩;have T1:U (u1.heap[w.heap.size]? = some (Y T 34 (0,0))):=⟨(hb1.block _ (by rw[HWs.o];omega)).trans T0.o⟩;have L1:U (u1.heap[w.heap.size+1]? = some (Y C 37 (0,0))):=⟨(hb1.block _ (by rw[HWs.o];omega)).trans L0.o⟩;have cL:∀ w1:G,zb u1 w1->w1.cell? ⟨w.heap.size+1,1,none⟩=some (O J (ln:Int)):=fun w1 hb=>aZ ((hb.block _ (bI L1.o)).trans L1.o) (by rw[<-HC.o];rfl)
 have cA:∀ w1:G,zb u1 w1->w1.cell? ⟨w.heap.size+1,4,none⟩=some (O J a):=fun w1 hb=>aZ ((hb.block _ (bI L1.o)).trans L1.o) (by rw[<-HC.o];rfl)
 have HcA:=D cA;have cA1:=cA u1 (iR _ _);have cL1:=cL u1 (iR _ _);have fa2:J.wrap (2*a)=2*a:=by rw[iN];have:=Ha.o;omega
 have fa21:J.wrap (2*a-1)=2*a-1:=by rw[iN];have:=Ha.o;omega
 have fm6:J.wrap (256*(m:Int))=256*(m:Int):=by rw[iN];have:=Hm.o;omega
 have fm8:(256*(m:Int)).tdiv 8=(p:Int):=by rw[iU (by omega)];have:=Hm.o;omega
 have fm9:(256*(m:Int)) / 8=(p:Int):=by have:=Hm.o;omega
 have fmw:J.wrap ((256*(m:Int)).tdiv 8)=(p:Int):=by rw[fm8,iN];have:=Hm.o;omega
 have fpw:J.wrap (p:Int)=(p:Int):=by rw[iN];have:=Hm.o;omega
 clear hb1 cL cA;go_wp2_with fail;refine(HLo.o _).mono ?_;rintro x u1 ⟨rfl,rfl⟩;have hln8:ln<=8:=Hl.o.2;go_wp2_with (at_make;refine lY _ rfl (.tmp 34) (.tmp 34) 44 rfl u1.heap.size 76 i0 (I z) 256 Tryz.underlying44 HI.o.1 HI.o.2.1 HI.o.2.2.1 J J ln ln ln rfl rfl rfl rfl (by rw[HI.o.2.2.2];omega) (by unfold maxLen;omega) (iM _) ?_);intro w3 hown hgr;obtain⟨hrow,hb3⟩:=xbn HZ.o hown hgr;have B3:U (zb u1 w3):=⟨hb3⟩;have A3:U (At u1.heap.size (RW ln (fst q 0)) 76 w3 w3):=⟨by rw[xbl];exact At.refl hrow⟩;clear hown hgr hrow hb3 cA1 cL1 fa2 fa21 fm6 fm8 fm9 fmw;go_wp2_with fail;go_loopw [38] (fun v wr=>∃ r:Nat,r<=ln/\v=O J (r:Int)/\U (At u1.heap.size (RW ln (fst q r)) 76 w3 wr)) (fun v _=>ln-(aG v).toNat)
 case atStart=>exact⟨0,iX _,rfl,A3⟩
 case round=>
  clear A3;obtain⟨r,hr,rfl,A0⟩:=hrel;have BU:U (zb u1 wr):=⟨B3.o.trans (A0.o.below B3.o.size (iM _))⟩;have BE:=bK B1 BU.o;by_cases hlt:r<ln
  ·have hltz:(r:Int)<(ln:Int):=by omega
   have hr8:r<8:=by omega
   obtain⟨N,hN⟩:=aP (fn+r);obtain⟨xx,hx⟩:=aP (N%256);obtain⟨yy,hy⟩:=aP (N / 256);have hN6:N<=65008:=by have:=Hf.o;omega
   have fnr:J.wrap ((fn:Int)+(r:Int))=(N:Int):=bB;have f1:(N:Int).tmod 256=(xx:Int):=by rw[jB (by omega)];omega
   have f2:(N:Int)%256=(xx:Int):=by omega
   have f3:(N:Int).tdiv 256=(yy:Int):=by rw[iU (by omega)];omega
   have f4:(N:Int) / 256=(yy:Int):=by omega
   have f5:J.wrap ((N:Int).tdiv 256)=(yy:Int):=by rw[f3,iN];omega
   have f6:J.wrap (yy:Int)=(yy:Int):=bB;have T2:U (wr.heap[w.heap.size]? = some (Y T 34 (0,0))):=⟨(BU.o.block _ (bI T1.o)).trans T1.o⟩;have HPr:U (∀ w1:G,aD aO 84 #[O J (xx:Int),O J (yy:Int)] w1 (zB w1 (E (x2 xx yy)))):=⟨fun w1=>xd8 xx yy (by omega) (by omega) w1⟩;have HSr:U (∀ w1:G,zb w w1->aD aO 78 #[I T,O J 2,E (sd++x2 xx yy),O J (p:Int)] w1 (zB w1 (aA #[E (sk r),O J 0]))):=⟨fun w1 hb=>by
    have:=HSm.o r hr8 w1 hb;rw[hN,hx,hy]at this;exact this⟩
   have HUr:=D (HUn.o r hr8);obtain⟨X,HX⟩:=aQ (x2 xx yy);rw[HX.o]at HPr HSr;have hXs:X.size=2:=by rw[<-HX.o];rfl
   have hsz:(9223372036854775807<sd.size+2)=False:=by have:=Hsd.o;simp;omega
   obtain⟨S,HSk⟩:=aQ (sk r);obtain⟨F,HF⟩:=aQ (FL J 256 (q r));rw[HSk.o]at HSr HUr;rw[HF.o]at HUr;have fa:J.wrap (a-1)=a-1:=by rw[iN];have:=Ha.o;omega
   obtain⟨o6,ho6⟩:=aP (r*256);have Ho6:=D ho6;have Hlt:=D hlt;clear hN hx hy HX;go_wp2_with fail;refine mA (by kernel_rfl) (by kernel_rfl) ?_;refine xa2 rfl 34 _ rfl _ rfl 34 _ _ (fun w' hC=>gM T2.o hC) zY rfl HTz.o ?_;iterate 5 (quiet_step (skip))
   quiet_step (exact jI (HPr.o _));iterate 2 (quiet_step (skip))
   quiet_step (exact jI (HSr.o _ (BE.o.trans ((jX _ _ _).mono BE.o.size))));iterate 5 (quiet_step (skip))
   refine kY ?_;intro wn hC;have hbn:zb wr wn:=by
    obtain⟨pp,rfl⟩:=hC;exact jX _ _ _
   have A5:U (At u1.heap.size (RW ln (fst q r)) 76 w3 wn):=⟨A0.o.later hbn⟩;have BN:=bK BU hbn;have cA5:=HcA.o wn BN.o;clear hC hbn A0 f1 f2 f3 f4 f5 f6 fnr hXs hsz HPr HSr;go_wp2_with fail;refine(HUr.o _).mono ?_;rintro x w6 ⟨rfl,hb6⟩;have A6:U (At u1.heap.size (RW ln (fst q r)) 76 w3 w6):=⟨A5.o.later hb6⟩;clear hb6 cA5 A5;go_wp2_with ((with_reducible refine xci A6 HF.o Hlt.o Ho6.o rfl _ _ rfl rfl ?hx ?hy ?_);(case hx=>exact rfl);(case hy=>exact rfl);intro w7 A7;rw[xbq]at A7);go_roundw
   case rel=>exact⟨r+1,by have:=Hlt.o;omega,by go_num,A7⟩
   case measure=>have:=Hlt.o;simp[aG];omega
  ·obtain rfl:r=ln:=by omega
   have hH:U (Holds wr w.heap.size (aB (some ⟨u1.heap.size,0,none⟩) r r) r q):=⟨xbp A0.o.row B1.o.size (fun i hi=>xbk q r i hi)⟩;clear A0;go_wp2_with fail;go_ret;exact⟨⟨_,rfl,hH.o⟩,BE.o⟩
end qmsk
namespace iI
open arr mem cZ bU bT dD aT aV bS aW bC bY cG bF fW fL fD bQ fO bM
theorem ball{T:Array aE}(b:ByteArray)(tau:Int)(w:G)(hK:KT T TL RL)(hP:Gp w)(hb:b.size<=1125899906842624):
 aD aO 34 #[I T,E b,O J tau] w (zB w (I (FL J 256 (dB b tau)))):=by
 unfold dB;by_cases h : 1<=tau/\tau<=64
 ·obtain⟨t,rfl⟩:=kR (a:=tau) (by omega);rw[xh7 _ t (by omega) (by omega)];exact qbal.xso b _ t w (dI T hK) (by omega) (by omega) (xb1 2 b 544) (shake 2 b 544 w hK hP (kO rfl) (by decide) hb)
 ·rw[xkd _ _ h];exact qbal.xsn b tau w h
theorem unsigned(s:ByteArray)(a:Int)(w:G)(ha:a=131072\/a=524288)(hs:s.size=32*mw a):
 aD aO 108 #[E s,O J (a-1),O J a] w (zB w (aA #[I (FL J 256 (un (up s (mw a)) a)),O J 0])):=by
 obtain⟨h1,h2,h3⟩:=xd5 a ha;have hin:∀ i,0<=up s (mw a) i/\up s (mw a) i<=a-1+a:=fun i=>by have:=xjz s (mw a) i;rw[h3]at this;omega
 refine puns.xjy s (a-1) a w (up s (mw a)) (by omega) (by omega) (by omega) (by omega) (fun i _=>hin i) fun w1=>?_
 have h:=punp.xgh s (a-1+a) w1 (by omega) (by omega) (by rw[h1];exact hs);rw[h1,iP (show bA.fK (up s (mw a)) (a-1+a) from fun i _=>hin i)]at h;exact h
theorem masks{T:Array aE}(ln fn:Nat)(k e t a b o s:Int)(sd:ByteArray)(w:G)(hK:KT T TL RL)(hP:Gp w)(hf:fn<=65000)(h:bP k (ln:Int) e t a b o s=true)(hsd:sd.size<=1000):
 aD aO 184 #[I T,I (bO k (ln:Int) e t a b o s),E sd,O J (fn:Int)] w fun x w'=>(∃ v1,x=.returned v1/\Holds w' w.heap.size v1 ln (qM sd a fn))/\zb w w':=by
 obtain⟨h1,h2,-,-,ha⟩:=xde h;obtain⟨m1,m2,m3⟩:=xd5 a ha;refine qmsk.xvu ln fn (mw a) (32*mw a) k e t a b o s sd (fun r=>out TL RL 2 (tw sd ((fn+r)%256) ((fn+r) / 256)) (32*mw a)) (qM sd a fn) w (dI T hK) (by omega) hf m2 rfl (by omega) h (by omega) (fun w1=>?_) (fun r _ w1 hb=>?_) (fun r _ w1=>?_)
 ·have h3:=plong.xc3 (2*a-1) (by omega) w1;rw[show 2*a-1=a-1+a by omega,m1]at h3;rw[show 2*a-1=a-1+a by omega];exact h3
 ·exact shake 2 _ (32*mw a) w hK hP (kO rfl) (by omega) (by rw[xhv];omega) w1 hb
 ·exact unsigned _ a w1 ha (xb1 2 _ _)
end iI
end Go.Proofs.YtomphjajkkddkaaGreatDoor
