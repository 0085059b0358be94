/-
  What ntt's split does to the polynomial behind its pointer: the pairs of one block are turned, the r
-/
import Derived.Test.YtomphjajkkddkaaGreatDoorZs09
import Derived.Test.YtomphjajkkddkaaGreatDoorZs02
import Derived.Test.YtomphjajkkddkaaGreatDoorZs04
import Derived.Test.YtomphjajkkddkaaGreatDoorZs01
import Derived.Test.YtomphjajkkddkaaGreatDoorZs05
set_option maxRecDepth 100000
set_option maxHeartbeats 16000000
set_option linter.unusedSimpArgs false
set_option linter.unusedVariables false
open Go Go.RowKit
open Go renaming World->G,Calls->aD,Value->aE
open Go.RowKit renaming intOf->aG
open Go.Value renaming int->O,agg->I,pointer->aC
open Go.IntKind renaming i64->J
open Go.Obj renaming cells->Y
open Go.Proofs.Tryz renaming prog->aO
namespace Go.Proofs.YtomphjajkkddkaaGreatDoor
namespace nsplit
open arr mem bD aT aV bE fP nttm cY floa
theorem xgc(L:(Nat->Int)->Nat->Int)(g s t b:Nat)(z:Int)(f:Nat->Int)(w:G)(hb:b=2*s*t)(hs:b+2*s<=256)(hz : 0<=z/\z<8380417)(hf:∀ j,0<=f j/\f j<8380417)
 (hL:∀ r,r<s->L f (2*s*t+r)=f (2*s*t+r)+z*f (2*s*t+r+s)/\L f (2*s*t+r+s)=f (2*s*t+r)-z*f (2*s*t+r+s))
 (hA:w.heap[g]? = some (Y (FL J 256 (dn L s f (t*s))) 76 (0,0))):
 aD aO 136 #[aC (some ⟨g,0,none⟩),O J (b:Int),O J (s:Int),O J z] w fun e w'=>e=.returned (.tuple #[])/\At g (FL J 256 (dn L s f ((t+1)*s))) 76 w w':=by
 have HA:=D hA;have HL:=D hL;have Hz:=D hz;have Hf:=D hf;have Hb:=D hb;have Hs:=D hs;have Hend:U (t*s+s=(t+1)*s):=⟨by rw[nX]⟩;have Hred:=D eU;clear hA hL hz hf hb hs;go_enter Tryz.func136,Tryz.ntmps136;go_wp2_with fail;go_loopw [13] (fun v wr=>∃ r:Nat,r<=s/\v=O J (r:Int)/\U (At g (FL J 256 (dn L s f (t*s+r))) 76 w wr)) (fun v _=>s-(aG v).toNat)
 case atStart=>exact⟨0,iX _,rfl,⟨At.refl HA.o⟩⟩
 case round=>
  obtain⟨r,hr,rfl,A0⟩:=hrel;by_cases hlt:r<s
  ·have hrz:(r:Int)<(s:Int):=by omega
   have hr1:(r:Int)<128:=by have:=Hs.o;omega
   obtain⟨lo,hlo⟩:=aP (b+r);obtain⟨hi,hhi⟩:=aP (lo+s);have hb:=Hb.o;have hs:=Hs.o;have elo : 2*s*t+r=lo:=by omega
   have ehi : 2*s*t+r+s=hi:=by omega
   have hiz:(hi:Int)<256:=by omega
   have loz:(lo:Int)<256:=by omega
   have Hhi:U (hi<256):=⟨by omega⟩;have Hlo:U (lo<256):=⟨by omega⟩;have f1:J.wrap ((b:Int)+(r:Int))=(lo:Int):=bB;have f2:J.wrap ((lo:Int)+(s:Int))=(hi:Int):=bB;obtain⟨x,hx⟩:=aP (f lo);obtain⟨y,hy⟩:=aP (f hi);have hxb : 0<=x/\x<8380417:=by rw[<-hx];exact Hf.o lo
   have hyb : 0<=y/\y<8380417:=by rw[<-hy];exact Hf.o hi
   have hzb:=Hz.o;have cx:wr.cell? ⟨g,lo,none⟩=some (O J x):=by
    have h9:=fZ A0.o.row lo Hlo.o;rw[<-elo,xgt L hlt,elo,hx]at h9;exact h9
   have cy:wr.cell? ⟨g,hi,none⟩=some (O J y):=by
    have h9:=fZ A0.o.row hi Hhi.o;rw[<-ehi,xgs L hlt,ehi,hy]at h9;exact h9
   have hP:=HL.o r hlt;rw[ehi,elo,hx,hy]at hP;have hp : 0<=z*y/\z*y<=8380417*8380417:=⟨oG hzb.1 hyb.1,Int.le_trans (lP (nF hzb.2) hyb.1) (mB (nF hyb.2) (by decide))⟩;obtain⟨p,hpe⟩:=aP (z*y);rw[hpe]at hp hP;have f3:J.wrap (z*y)=p:=by rw[hpe,iN];omega
   have f4:J.wrap (x+p)=x+p:=bB;have f5:J.wrap (x-p)=x-p:=bB;obtain⟨v1,hv1⟩:=aQ ((x+p)%8380417);obtain⟨v2,hv2⟩:=aQ ((x-p)%8380417);have H1:∀ w1:G,aD aO 137 #[O J (x+p)] w1 (zE w1 (O J v1)):=fun w1=>by rw[<-hv1.o];exact Hred.o _ w1
   have H2:∀ w1:G,aD aO 137 #[O J (x-p)] w1 (zE w1 (O J v2)):=fun w1=>by rw[<-hv2.o];exact Hred.o _ w1
   have HU:U (upd (upd (dn L s f (t*s+r)) lo v1) hi v2=dn L s f (t*s+(r+1))):=⟨by
    have h9:=(xih (t:=t) L hlt f v1 v2 (by rw[elo,hP.1];exact hv1.o.symm) (by rw[ehi,hP.2];exact hv2.o.symm)).2;rw[elo,hhi]at h9;exact h9⟩
   clear hx hy hxb hyb hzb hP hb hs elo ehi hlo hhi hp hpe;go_wp2_with fail;refine xkb (by kernel_rfl) ?_;refine zA 2 ?_;refine zA 3 ?_;refine zA 23 ?_;refine xkc [0,1,4,5,6,7,8,9,10,11,12,13,14,15,16,17,18,19,20,21] 22 [24,25] rfl (by kernel_rfl) ?_;simp only[pick,jT,mI,jF,jL];repeat still_step
   still_call (H1 _)
   repeat still_step
   still_call (H2 _)
   repeat still_step
   refine jR ?_;have A1:U (At g (FL J 256 (dn L s f (t*s+r))) 76 w wr.drew):=⟨eN A0.o⟩;clear A0 cx cy
   with_reducible refine cU A1 rfl _ _ _ rfl rfl ?_
   refine⟨_,_,_,rfl,rfl,rfl,by rw[cC];exact Hlo.o,?_⟩;intro w5 A2;rw[eV]at A2;clear A1;refine wpList_plain rfl (fun K hK=>?_);go_simp
   refine hK _ _ ?_;clear hK K
   with_reducible refine cU A2 rfl _ _ _ rfl rfl ?_
   refine⟨_,_,_,rfl,rfl,rfl,(by rw[cC];exact Hhi.o),?_⟩;intro w6 A3;rw[eV,HU.o]at A3;clear A2;go_wp2_with fail;go_roundw
   case rel=>exact⟨r+1,by omega,by go_num,A3⟩
   case measure=>simp[aG];omega
  ·obtain rfl:r=s:=by omega
   rw[Hend.o]at A0;go_wp2_with fail;refine bodyPost_end (v:=.tuple #[]) (results_none rfl _ _ _) rfl ?_;exact⟨rfl,A0.o⟩
end nsplit
namespace njoin
open arr mem bD aT aV bE fP nttm cY floa
theorem xva(L:(Nat->Int)->Nat->Int)(g s t b:Nat)(z:Int)(f:Nat->Int)(w:G)(hb:b=2*s*t)(hs:b+2*s<=256)(hz : 0<=z/\z<8380417)(hf:∀ j,0<=f j/\f j<8380417)
 (hL:∀ r,r<s->L f (2*s*t+r)=f (2*s*t+r)+f (2*s*t+r+s)/\L f (2*s*t+r+s) = -z*(f (2*s*t+r)-f (2*s*t+r+s)))
 (hA:w.heap[g]? = some (Y (FL J 256 (dn L s f (t*s))) 76 (0,0))):
 aD aO 138 #[aC (some ⟨g,0,none⟩),O J (b:Int),O J (s:Int),O J z] w fun e w'=>e=.returned (.tuple #[])/\At g (FL J 256 (dn L s f ((t+1)*s))) 76 w w':=by
 have HA:=D hA;have HL:=D hL;have Hz:=D hz;have Hf:=D hf;have Hb:=D hb;have Hs:=D hs;have Hend:U (t*s+s=(t+1)*s):=⟨by rw[nX]⟩;have Hred:=D eU;clear hA hL hz hf hb hs;go_enter Tryz.func138,Tryz.ntmps138;go_wp2_with fail;go_loopw [14] (fun v wr=>∃ r:Nat,r<=s/\v=O J (r:Int)/\U (At g (FL J 256 (dn L s f (t*s+r))) 76 w wr)) (fun v _=>s-(aG v).toNat)
 case atStart=>exact⟨0,iX _,rfl,⟨At.refl HA.o⟩⟩
 case round=>
  obtain⟨r,hr,rfl,A0⟩:=hrel;by_cases hlt:r<s
  ·have hrz:(r:Int)<(s:Int):=by omega
   have hr1:(r:Int)<128:=by have:=Hs.o;omega
   obtain⟨lo,hlo⟩:=aP (b+r);obtain⟨hi,hhi⟩:=aP (lo+s);have hb:=Hb.o;have hs:=Hs.o;have elo : 2*s*t+r=lo:=by omega
   have ehi : 2*s*t+r+s=hi:=by omega
   have hiz:(hi:Int)<256:=by omega
   have loz:(lo:Int)<256:=by omega
   have Hhi:U (hi<256):=⟨by omega⟩;have Hlo:U (lo<256):=⟨by omega⟩;have f1:J.wrap ((b:Int)+(r:Int))=(lo:Int):=bB;have f2:J.wrap ((lo:Int)+(s:Int))=(hi:Int):=bB;obtain⟨x,hx⟩:=aP (f lo);obtain⟨y,hy⟩:=aP (f hi);have hxb : 0<=x/\x<8380417:=by rw[<-hx];exact Hf.o lo
   have hyb : 0<=y/\y<8380417:=by rw[<-hy];exact Hf.o hi
   have hzb:=Hz.o;have cx:wr.cell? ⟨g,lo,none⟩=some (O J x):=by
    have h9:=fZ A0.o.row lo Hlo.o;rw[<-elo,xgt L hlt,elo,hx]at h9;exact h9
   have cy:wr.cell? ⟨g,hi,none⟩=some (O J y):=by
    have h9:=fZ A0.o.row hi Hhi.o;rw[<-ehi,xgs L hlt,ehi,hy]at h9;exact h9
   have hP:=HL.o r hlt;rw[ehi,elo,hx,hy]at hP;obtain⟨d,hd⟩:=aP (x-y);rw[hd]at hP;have hp : -8380417*(2*8380417) <= -z*d /\ -z*d<=8380417*8380417:=by
    have h0 : 0<=z*(x+8380417-y)/\z*(x+8380417-y)<=8380417*(2*8380417):=⟨oG hzb.1 (by omega),Int.le_trans (lP (nF hzb.2) (by omega)) (mB (by omega) (by decide))⟩;have h1:z*(x+8380417-y)=z*d+z*8380417:=by rw[<-hd,<-mQ];congr 1;omega
    rw[h1]at h0;have h2 : -z*d = -(z*d):=Int.neg_mul z d;rw[h2];generalize z*d=q at h0 ⊢;omega
   obtain⟨p,hpe⟩:=aP (-z*d);rw[hpe]at hp hP;have f3:J.wrap (x+y)=x+y:=bB;have f4:J.wrap (x-y)=d:=bB;have f6:J.wrap (-z) = -z:=bB;have f5:J.wrap (-z*d)=p:=by rw[hpe,iN];omega
   obtain⟨v1,hv1⟩:=aQ ((x+y)%8380417);obtain⟨v2,hv2⟩:=aQ ((p)%8380417);have H1:∀ w1:G,aD aO 137 #[O J (x+y)] w1 (zE w1 (O J v1)):=fun w1=>by rw[<-hv1.o];exact Hred.o _ w1
   have H2:∀ w1:G,aD aO 137 #[O J (p)] w1 (zE w1 (O J v2)):=fun w1=>by rw[<-hv2.o];exact Hred.o _ w1
   have HU:U (upd (upd (dn L s f (t*s+r)) lo v1) hi v2=dn L s f (t*s+(r+1))):=⟨by
    have h9:=(xih (t:=t) L hlt f v1 v2 (by rw[elo,hP.1];exact hv1.o.symm) (by rw[ehi,hP.2];exact hv2.o.symm)).2;rw[elo,hhi]at h9;exact h9⟩
   clear hx hy hxb hyb hzb hP hb hs elo ehi hlo hhi hp hd hpe;go_wp2_with fail;refine xav (by kernel_rfl) (by kernel_rfl) ?_;repeat still_step
   refine jR ?_;go_wp2_with fail;refine xkb (by kernel_rfl) ?_;refine zA 2 ?_;refine zA 3 ?_;refine zA 14 ?_;refine xkc [0,1,4,5,6,7,8,9,10,11,12] 13 [15,16] rfl (by kernel_rfl) ?_;simp only[pick,jT,mI,jF,jL];repeat still_step
   still_call (H1 _)
   repeat still_step
   still_call (H2 _)
   repeat still_step
   refine jR ?_;have A1:U (At g (FL J 256 (dn L s f (t*s+r))) 76 w wr.drew.drew):=⟨eN (eN A0.o)⟩;clear A0 cx cy
   with_reducible refine cU A1 rfl _ _ _ rfl rfl ?_
   refine⟨_,_,_,rfl,rfl,rfl,by rw[cC];exact Hlo.o,?_⟩;intro w5 A2;rw[eV]at A2;clear A1;refine wpList_plain rfl (fun K hK=>?_);go_simp
   refine hK _ _ ?_;clear hK K
   with_reducible refine cU A2 rfl _ _ _ rfl rfl ?_
   refine⟨_,_,_,rfl,rfl,rfl,(by rw[cC];exact Hhi.o),?_⟩;intro w6 A3;rw[eV,HU.o]at A3;clear A2;go_wp2_with fail;go_roundw
   case rel=>exact⟨r+1,by omega,by go_num,A3⟩
   case measure=>simp[aG];omega
  ·obtain rfl:r=s:=by omega
   rw[Hend.o]at A0;go_wp2_with fail;refine bodyPost_end (v:=.tuple #[]) (results_none rfl _ _ _) rfl ?_;exact⟨rfl,A0.o⟩
end njoin
namespace cE
open arr mem bD aT aV nttm iK cY
structure ZT (T:Array aE) (Z:Nat->Int):Prop where
 z:∀ k,k<256->T[209+k]? = some (O J (Z k))
 size:T.size=465
 one:T.all (·.oneCell')=true
theorem dI:(aO.info? 34).map (·.size)=some 465:=by kernel_rfl
theorem pows(m:Nat)(h:m<8) : 0<2 ^ m/\(128:Int) / 2 ^ m=((2 ^ (7-m):Nat):Int)/\J.wrap ((2:Int) ^ m)=((2 ^ m:Nat):Int)/\2 ^ m<=128/\0<2 ^ (7-m):=by
 have key:∀ m:Fin 8,0<2 ^ m.val/\(128:Int) / 2 ^ m.val=((2 ^ (7-m.val):Nat):Int)/\J.wrap ((2:Int) ^ m.val)=((2 ^ m.val:Nat):Int)/\2 ^ m.val<=128/\0<2 ^ (7-m.val):=by decide +kernel
 exact key ⟨m,h⟩
theorem xdp(T:Array aE)(Z:Nat->Int)(f:Nat->Int)(w:G)(hT:ZT T Z):
 aD aO 79 #[I T,I (FL J 256 f)] w (zB w (I (FL J 256 (aS (fun k=>Z k%8380417) 8 f)))):=by
 obtain⟨ζ,hζ⟩:=aQ (fun k=>Z k%8380417);have Hζ : U (∀ k,Z k%8380417 = ζ k):=⟨fun k=>by rw[<-hζ.o]⟩;rw[hζ.o];clear hζ;obtain⟨hz,hsize⟩:=iY aX;obtain⟨z,HZ⟩:=aQ (FL J 256 fun _=>0);rw[HZ.o]at hz;have Hzs:=dP HZ;obtain⟨F,HF⟩:=aQ (FL J 256 f);obtain⟨R,HR⟩:=aQ (FL J 256 (aS ζ 8 f));obtain⟨F0,HF0⟩:=aQ (FL J 256 (gB f));have Fi:=eE HF hsize;have Gi:=eE HF0 hsize;have Go':U (F0.all (·.oneCell')=true):=⟨by rw[<-HF0.o];exact xbj _ _ _⟩;have Gz:=gJ Hzs HF0;have Ri:=eE HR hsize;have Ro:=eJ HR;have Rz:=gJ Hzs HR;have H:U (∀ w1:G,aD aO 135 #[I F] w1 (zB w1 (I F0))):=⟨fun w1=>by
  have h:=nred.xqv f w1;rw[HF.o,HF0.o]at h;exact h⟩
 have HT:=D hT;have Hred:=D fP.eU;rw[HF.o,HR.o];clear HF HZ hsize hT;go_enter Tryz.func79,Tryz.ntmps79;go_wp2_with fail;obtain⟨W,hW⟩:=aP (((w.alloc (Y T 34)).alloc (Y F 76)).alloc (Y z 76));obtain⟨b0,b1,b2,hWs,hWb⟩:=three hW;rw[hW];clear hW;have B0:=D b0;have B1:=D b1;have B2:=D b2;have HWb:=D hWb;have HWs:=D hWs;clear hWs hWb b0 b1 b2;refine nC 76 _ rfl (w.heap.size+1) rfl 76 F (0,0) _ B1.o zX rfl Fi.o ?_;go_wp2_with fail;refine(H.o _).mono ?_;rintro e w1 ⟨rfl,hb⟩;have C0:U (w1.heap[w.heap.size]? = some (Y T 34 (0,0))):=⟨(hb.block _ (bI B0.o)).trans B0.o⟩;have C2:U (w1.heap[w.heap.size+2]? = some (Y z 76 (0,0))):=⟨(hb.block _ (bI B2.o)).trans B2.o⟩;have HB:=bK HWb hb;have HW1:U (w.heap.size+3<=w1.heap.size):=⟨by have:=hb.size;have:=HWs.o;omega⟩;clear hb B0 B1 B2 HWb HWs;go_wp2_with (refine fV rfl 76 _ _ rfl _ rfl rfl Gi.o Gz.o Go'.o rfl ?_);obtain⟨V,hV⟩:=aP (w1.alloc (Y F0 76));obtain⟨b0,hVs,hVb⟩:=one hV;rw[hV];clear hV;obtain⟨g,hg⟩:=aQ w1.heap.size;unfold zb at hVb;rw[hg.o]at b0 hVb;rw[hg.o];have D0:U (V.heap[w.heap.size]? = some (Y T 34 (0,0))):=⟨(hVb.block _ (by rw[<-hg.o];exact bI C0.o)).trans C0.o⟩;have D2:U (V.heap[w.heap.size+2]? = some (Y z 76 (0,0))):=⟨(hVb.block _ (by rw[<-hg.o];exact bI C2.o)).trans C2.o⟩;have HgV:U (g<V.heap.size/\w.heap.size+3<=g):=⟨by have:=HW1.o;have:=hg.o;omega⟩;have HVB:U (Below w.heap.size w V):=⟨HB.o.trans (by rw[<-hg.o]at hVb;exact hVb.mono HB.o.size)⟩;have A0':U (At g (FL J 256 (aS ζ 0 f)) 76 V V):=⟨At.refl (by show V.heap[g]? = some (Y (FL J 256 (gB f)) 76 (0,0));rw[HF0.o];exact b0)⟩
 clear b0 hVs hVb hg C0 C2 HB HW1 hz;go_loopw [12,6] (fun lv k wr=>∃ m:Nat,m<=8/\lv=O J (m:Int)/\k=O J ((2 ^ m-1:Nat):Int)/\U (At g (FL J 256 (aS ζ m f)) 76 V wr)) (fun lv _ _=>8-(aG lv).toNat)
 case atStart=>exact⟨0,iX _,rfl,rfl,A0'⟩
 case round=>
  obtain⟨m,hm,rfl,rfl,A0⟩:=hrel;by_cases hlt:m<8
  ·have hmz:(m:Int)<8:=by omega
   obtain⟨K,hK⟩:=aP (2 ^ m);obtain⟨s,hs⟩:=aP (2 ^ (7-m));have h256:=(iK.xdk m (by omega)).1;rw[hK,hs]at h256;have hp:=pows m hlt;rw[hK,hs]at hp;obtain⟨hp1,hp2,hp3,hp4,hp5⟩:=hp;have Hp1:=D hp1;have hnext:U (∀ j,j<256->dn (ly ζ K s) s (aS ζ m f) (K*s) j=aS ζ (m+1) f j):=⟨fun j hj=>by
    rw[xig (ly ζ K s) K s (by omega) _ j (by omega),<-hK,<-hs];rfl⟩
   have hKn:U (2 ^ (m+1)-1=K-1+K):=⟨by rw[mG,hK];omega⟩;have H256:=D h256;obtain⟨h,hh⟩:=aQ (aS ζ m f);have Hh:U (∀ j,0<=h j/\h j<8380417):=⟨fun j=>by rw[<-hh.o];exact xr0 ζ m f j⟩;rw[hh.o]at hnext A0;rw[hK];have f1:(128:Int) / 2 ^ m=(s:Int):=hp2;have f2:J.wrap ((2:Int) ^ m)=(K:Int):=hp3;clear hp1 hp2 hp3 h256 hK hs hh;have hK128:(K:Int)<=128:=by omega
   obtain⟨q,hq⟩:=aP (K-1);have Hq:U (q+1=K):=⟨by have:=Hp1.o;omega⟩;rw[hq]at hKn;rw[hq];clear hq hp4 hp5;go_wp2_with fail;rename G=>wo
   go_loopw [19,6] (fun j k wr=>∃ t:Nat,t<=K/\j=O J (t:Int)/\k=O J ((q+t:Nat):Int)/\U (At g (FL J 256 (dn (ly ζ K s) s h (t*s))) 76 V wr)) (fun j _ _=>K-(aG j).toNat)
   case atStart=>exact⟨0,iX _,rfl,rfl,⟨by rw[Nat.zero_mul,xii];exact A0.o⟩⟩
   case round=>
    obtain⟨t,ht,rfl,rfl,A1⟩:=hrel;by_cases hlt2:t<K
    ·have htz:(t:Int)<(K:Int):=by omega
     obtain⟨c,hc⟩:=aP (q+t);obtain⟨k,hk⟩:=aP (K+t);obtain⟨d,hd⟩:=aP (2*s);obtain⟨b,hb⟩:=aP (d*t);have h256:=H256.o;rw[hd]at h256;have hbd:b+d<=256:=by
      have h1:d*(t+1)<=d*K:=kJ _ hlt2;rw[kG,hb]at h1;omega
     have hk256:U (k<256):=⟨by omega⟩;have hkz:(k:Int)<256:=by omega
     have hck:c+1=k:=by have:=Hq.o;omega
     have f3:J.wrap ((c:Int)+1)=(k:Int):=bB;have f4:J.wrap (2*(s:Int))=(d:Int):=bB;have hbz:(d:Int)*(t:Int)=(b:Int):=by rw[<-hb];exact(kV d t).symm
     have f5:J.wrap ((d:Int)*(t:Int))=(b:Int):=by rw[hbz,iN];omega
     have E0:wr.heap[w.heap.size]? = some (Y T 34 (0,0)):=A1.o.other (by have:=HgV.o;omega) (by have:=HgV.o;omega) D0.o;obtain⟨x,hx⟩:=aQ (Z k);have cz:wr.cell? ⟨w.heap.size,209+k,none⟩=some (O J x):=by rw[<-hx.o];exact aZ E0 (HT.o.z k hk256.o)
     have Hx:U (∀ w1:G,aD aO 137 #[O J x] w1 fun e w'=>e=.returned (O J (ζ k))/\w1=w'):=⟨fun w1=>by rw[<-Hζ.o k,hx.o];exact(Hred.o x w1).mono fun _ _ h=>⟨h.1,h.2.symm⟩⟩;have Hζb:U (0 <= ζ k /\ ζ k<8380417):=⟨by rw[<-Hζ.o k];exact⟨lK _ (by decide),kX _ (by decide)⟩⟩;have Hsp:U (∀ w1:G,w1.heap[g]? = some (Y (FL J 256 (dn (ly ζ K s) s h (t*s))) 76 (0,0))->aD aO 136 #[aC (some ⟨g,0,none⟩),O J (b:Int),O J (s:Int),O J (ζ k)] w1 fun e w'=>e=.returned (.tuple #[])/\At g (FL J 256 (dn (ly ζ K s) s h ((t+1)*s))) 76 w1 w'):=⟨fun w1 hA=>nsplit.xgc (ly ζ K s) g s t b (ζ k) h w1 (by rw[hd];exact hb.symm) (by omega) Hζb.o Hh.o (fun r hr=>by rw[<-hk];exact xo5 ζ K hr h) hA⟩;have Hck:=D hck;have Hc:=D hc;rw[hc];obtain⟨y,hy⟩:=aQ (ζ k);rw[hy.o]at Hx Hsp;clear hc hck hk hd hb hbz h256 hbd E0 hx hy;go_wp2_with fail;refine(Hx.o _).mono ?_;rintro e w3 ⟨rfl,rfl⟩;go_wp2_with fail;refine(Hsp.o _ A1.o.row).mono ?_;rintro e w3 ⟨rfl,hA2⟩;have A2:U (At g (FL J 256 (dn (ly ζ K s) s h ((t+1)*s))) 76 V w3):=⟨A1.o.trans hA2⟩;clear hA2 A1 cz;go_wp2_with fail;go_roundw
     case rel=>exact⟨t+1,by omega,by go_num,by rw[show q+(t+1)=k by have:=Hck.o;have:=Hc.o;omega],A2⟩
     case measure=>simp[aG];omega
    ·obtain rfl:t=K:=by omega
     rw[show FL J 256 (dn (ly ζ t s) s h (t*s))=FL J 256 (aS ζ (m+1) f) from xc1 J 256 hnext.o]at A1;go_wp2_with fail;go_roundw
     case rel=>exact⟨m+1,by omega,by go_num,by rw[hKn.o],A1⟩
     case measure=>simp[aG];omega
  ·obtain rfl:m=8:=by omega
   simp only[jE];rw[HR.o]at A0;have Hrow:=D A0.o.row;have Hres:U (wr.heap[w.heap.size+2]? = some (Y z 76 (0,0))):=⟨A0.o.other (by have:=HgV.o;omega) (by have:=HgV.o;omega) D2.o⟩;have HB:U (Below w.heap.size w wr):=⟨HVB.o.trans (A0.o.below HVB.o.size (by have:=HgV.o;omega))⟩;clear A0;go_wp2_with (first
    | (refine iL rfl 76 _ rfl g rfl 76 R (0,0) _ Hrow.o zX rfl Ri.o ?_)
    | (refine iS rfl 76 _ _ rfl (w.heap.size+2) R rfl rfl 76 _ Hres.o Ri.o Rz.o Ro.o ?_))
   refine iV (v:=I R) (jC rfl _ _ (w.heap.size+2) 76 _ (0,0) _ rfl (jD _ _ _ _ _ _ Hres.o) zX rfl Ri.o) rfl ?_;exact⟨rfl,HB.o.trans (below_setRow _ _ _ (by omega))⟩
end cE
namespace nback
open arr mem bD aT aV nttm iK cY cE
theorem xfg(T:Array aE)(Z:Nat->Int)(f:Nat->Int)(w:G)(hT:ZT T Z):
 aD aO 82 #[I T,I (FL J 256 f)] w (zB w (I (FL J 256 (fun i=>(bH (fun k=>Z k%8380417) 8 f i*8347681)%8380417)))):=by
 obtain⟨ζ,hζ⟩:=aQ (fun k=>Z k%8380417);have Hζ : U (∀ k,Z k%8380417 = ζ k):=⟨fun k=>by rw[<-hζ.o]⟩;rw[hζ.o];clear hζ;obtain⟨hz,hsize⟩:=iY aX;obtain⟨z,HZ⟩:=aQ (FL J 256 fun _=>0);rw[HZ.o]at hz;have Hzs:=dP HZ;obtain⟨F,HF⟩:=aQ (FL J 256 f);obtain⟨R,HR⟩:=aQ (FL J 256 (fun i=>(bH ζ 8 f i*8347681)%8380417));obtain⟨F0,HF0⟩:=aQ (FL J 256 (gB f));have Fi:=eE HF hsize;have Gi:=eE HF0 hsize;have Go':U (F0.all (·.oneCell')=true):=⟨by rw[<-HF0.o];exact xbj _ _ _⟩;have Gz:=gJ Hzs HF0;have Ri:=eE HR hsize;have Ro:=eJ HR;have Rz:=gJ Hzs HR;have H:U (∀ w1:G,aD aO 135 #[I F] w1 (zB w1 (I F0))):=⟨fun w1=>by
  have h:=nred.xqv f w1;rw[HF.o,HF0.o]at h;exact h⟩
 have HT:=D hT;have Hred:=D fP.eU;rw[HF.o,HR.o];clear HF HZ hsize hT;go_enter Tryz.func82,Tryz.ntmps82;go_wp2_with fail;obtain⟨W,hW⟩:=aP (((w.alloc (Y T 34)).alloc (Y F 76)).alloc (Y z 76));obtain⟨b0,b1,b2,hWs,hWb⟩:=three hW;rw[hW];clear hW;have B0:=D b0;have B1:=D b1;have B2:=D b2;have HWb:=D hWb;have HWs:=D hWs;clear hWs hWb b0 b1 b2;refine nC 76 _ rfl (w.heap.size+1) rfl 76 F (0,0) _ B1.o zX rfl Fi.o ?_;go_wp2_with fail;refine(H.o _).mono ?_;rintro e w1 ⟨rfl,hb⟩;have C0:U (w1.heap[w.heap.size]? = some (Y T 34 (0,0))):=⟨(hb.block _ (bI B0.o)).trans B0.o⟩;have C2:U (w1.heap[w.heap.size+2]? = some (Y z 76 (0,0))):=⟨(hb.block _ (bI B2.o)).trans B2.o⟩;have HB:=bK HWb hb;have HW1:U (w.heap.size+3<=w1.heap.size):=⟨by have:=hb.size;have:=HWs.o;omega⟩;clear hb B0 B1 B2 HWb HWs;go_wp2_with (refine fV rfl 76 _ _ rfl _ rfl rfl Gi.o Gz.o Go'.o rfl ?_);obtain⟨V,hV⟩:=aP (w1.alloc (Y F0 76));obtain⟨b0,hVs,hVb⟩:=one hV;rw[hV];clear hV;obtain⟨g,hg⟩:=aQ w1.heap.size;unfold zb at hVb;rw[hg.o]at b0 hVb;rw[hg.o];have D0:U (V.heap[w.heap.size]? = some (Y T 34 (0,0))):=⟨(hVb.block _ (by rw[<-hg.o];exact bI C0.o)).trans C0.o⟩;have D2:U (V.heap[w.heap.size+2]? = some (Y z 76 (0,0))):=⟨(hVb.block _ (by rw[<-hg.o];exact bI C2.o)).trans C2.o⟩;have HgV:U (g<V.heap.size/\w.heap.size+3<=g):=⟨by have:=HW1.o;have:=hg.o;omega⟩;have HVB:U (Below w.heap.size w V):=⟨HB.o.trans (by rw[<-hg.o]at hVb;exact hVb.mono HB.o.size)⟩;have A0':U (At g (FL J 256 (bH ζ 0 f)) 76 V V):=⟨At.refl (by show V.heap[g]? = some (Y (FL J 256 (gB f)) 76 (0,0));rw[HF0.o];exact b0)⟩
 clear b0 hVs hVb hg C0 C2 HB HW1 hz;go_loopw [12,6] (fun lv k wr=>∃ m:Nat,m<=8/\lv=O J (m:Int)/\k=O J ((2 ^ (8-m):Nat):Int)/\U (At g (FL J 256 (bH ζ m f)) 76 V wr)) (fun lv _ _=>8-(aG lv).toNat)
 case atStart=>exact⟨0,iX _,rfl,rfl,A0'⟩
 case round=>
  obtain⟨m,hm,rfl,rfl,A0⟩:=hrel;by_cases hlt:m<8
  ·have hmz:(m:Int)<8:=by omega
   obtain⟨K,hK⟩:=aP (2 ^ (7-m));obtain⟨s,hs⟩:=aP (2 ^ m);have h256:=(iK.xdk m (by omega)).2;rw[hK,hs]at h256;have hp:=pows m hlt;rw[hK,hs]at hp;obtain⟨hp1,hp2,hp3,hp4,hp5⟩:=hp;have Hp1:=D hp1;have hnext:U (∀ j,j<256->dn (bk ζ K s) s (bH ζ m f) (K*s) j=bH ζ (m+1) f j):=⟨fun j hj=>by
    rw[xig (bk ζ K s) K s (by omega) _ j (by omega),<-hK,<-hs];rfl⟩
   have hKn:U (2 ^ (8-(m+1))=K):=⟨by rw[show 8-(m+1)=7-m by omega,hK]⟩;have hK2 : 2 ^ (8-m)=2*K:=by rw[<-hK,show 8-m=7-m+1 by omega,mG,kI]
   have H256:=D h256;obtain⟨h,hh⟩:=aQ (bH ζ m f);have Hh:U (∀ j,0<=h j/\h j<8380417):=⟨fun j=>by rw[<-hh.o];exact xnr ζ m f j⟩;rw[hh.o]at hnext A0;rw[hK2];have f1:(128:Int) / 2 ^ m=(K:Int):=hp2;have f2:J.wrap ((2:Int) ^ m)=(s:Int):=hp3;have hK128:(K:Int)<=128:=by
    have h1 : 1*K<=s*K:=mH _ hp1;rw[lC]at h256;omega
   clear hp1 hp2 hp3 h256 hK hs hh hK2;have hs128:(s:Int)<=128:=by omega
   obtain⟨q,hq⟩:=aP (2*K);have Hq:U (2*K=q):=⟨hq⟩;rw[hq];clear hq hp4 hp5;go_wp2_with fail;rename G=>wo
   go_loopw [19,6] (fun j k wr=>∃ t:Nat,t<=K/\j=O J (t:Int)/\k=O J ((q-t:Nat):Int)/\U (At g (FL J 256 (dn (bk ζ K s) s h (t*s))) 76 V wr)) (fun j _ _=>K-(aG j).toNat)
   case atStart=>exact⟨0,iX _,rfl,rfl,⟨by rw[Nat.zero_mul,xii];exact A0.o⟩⟩
   case round=>
    obtain⟨t,ht,rfl,rfl,A1⟩:=hrel;by_cases hlt2:t<K
    ·have hqq:=Hq.o;have htz:(t:Int)<(K:Int):=by omega
     obtain⟨c,hc⟩:=aP (q-t);obtain⟨k,hk⟩:=aP (2*K-1-t);obtain⟨d,hd⟩:=aP (2*s);obtain⟨b,hb⟩:=aP (d*t);have h256:=H256.o;rw[hd]at h256;have hbd:b+d<=256:=by
      have h1:d*(t+1)<=d*K:=kJ _ hlt2;rw[kG,hb]at h1;omega
     have hk256:U (k<256):=⟨by omega⟩;have hkz:(k:Int)<256:=by omega
     have hck:k+1=c:=by have:=Hq.o;omega
     have f3:J.wrap ((c:Int)-1)=(k:Int):=bB;have f4:J.wrap (2*(s:Int))=(d:Int):=bB;have hbz:(d:Int)*(t:Int)=(b:Int):=by rw[<-hb];exact(kV d t).symm
     have f5:J.wrap ((d:Int)*(t:Int))=(b:Int):=by rw[hbz,iN];omega
     have E0:wr.heap[w.heap.size]? = some (Y T 34 (0,0)):=A1.o.other (by have:=HgV.o;omega) (by have:=HgV.o;omega) D0.o;obtain⟨x,hx⟩:=aQ (Z k);have cz:wr.cell? ⟨w.heap.size,209+k,none⟩=some (O J x):=by rw[<-hx.o];exact aZ E0 (HT.o.z k hk256.o)
     have Hx:U (∀ w1:G,aD aO 137 #[O J x] w1 fun e w'=>e=.returned (O J (ζ k))/\w1=w'):=⟨fun w1=>by rw[<-Hζ.o k,hx.o];exact(Hred.o x w1).mono fun _ _ h=>⟨h.1,h.2.symm⟩⟩;have Hζb:U (0 <= ζ k /\ ζ k<8380417):=⟨by rw[<-Hζ.o k];exact⟨lK _ (by decide),kX _ (by decide)⟩⟩;have Hsp:U (∀ w1:G,w1.heap[g]? = some (Y (FL J 256 (dn (bk ζ K s) s h (t*s))) 76 (0,0))->aD aO 138 #[aC (some ⟨g,0,none⟩),O J (b:Int),O J (s:Int),O J (ζ k)] w1 fun e w'=>e=.returned (.tuple #[])/\At g (FL J 256 (dn (bk ζ K s) s h ((t+1)*s))) 76 w1 w'):=⟨fun w1 hA=>njoin.xva (bk ζ K s) g s t b (ζ k) h w1 (by rw[hd];exact hb.symm) (by omega) Hζb.o Hh.o (fun r hr=>by rw[<-hk];exact xnv ζ K hr h) hA⟩;have Hck:=D hck;have Hc:=D hc;rw[hc];obtain⟨y,hy⟩:=aQ (ζ k);rw[hy.o]at Hx Hsp;clear hc hck hk hd hb hbz h256 hbd E0 hx hy hqq;go_wp2_with fail;refine(Hx.o _).mono ?_;rintro e w3 ⟨rfl,rfl⟩;go_wp2_with fail;refine(Hsp.o _ A1.o.row).mono ?_;rintro e w3 ⟨rfl,hA2⟩;have A2:U (At g (FL J 256 (dn (bk ζ K s) s h ((t+1)*s))) 76 V w3):=⟨A1.o.trans hA2⟩;clear hA2 A1 cz;go_wp2_with fail;go_roundw
     case rel=>exact⟨t+1,by omega,by go_num,by rw[show q-(t+1)=k by have:=Hck.o;have:=Hc.o;omega],A2⟩
     case measure=>simp[aG];omega
    ·obtain rfl:t=K:=by omega
     rw[show FL J 256 (dn (bk ζ t s) s h (t*s))=FL J 256 (bH ζ (m+1) f) from xc1 J 256 hnext.o]at A1;go_wp2_with fail;go_roundw
     case rel=>exact⟨m+1,by omega,by go_num,by rw[hKn.o,show q-t=t by have:=Hq.o;omega],A1⟩
     case measure=>simp[aG];omega
  ·obtain rfl:m=8:=by omega
   simp only[jE];obtain⟨C,hC⟩:=aQ (FL J 256 (bH ζ 8 f));rw[hC.o]at A0;have Ci:U ((aO.info? 76).map (·.size)=some C.size):=⟨by rw[<-hC.o,cC];have h1:=Ri.o;rw[<-HR.o,cC]at h1;exact h1⟩;have Hsc:U (∀ w1:G,aD aO 87 #[I C,O J 8347681] w1 (zB w1 (I R))):=⟨fun w1=>by
    have h:=fscale.xf9 (bH ζ 8 f) 8347681 w1;rw[hC.o,HR.o]at h;exact h⟩
   have Hrow:=D A0.o.row;have Hres:U (wr.heap[w.heap.size+2]? = some (Y z 76 (0,0))):=⟨A0.o.other (by have:=HgV.o;omega) (by have:=HgV.o;omega) D2.o⟩;have HB:U (Below w.heap.size w wr):=⟨HVB.o.trans (A0.o.below HVB.o.size (by have:=HgV.o;omega))⟩;clear A0 hC;go_wp2_with fail;refine nC 76 _ rfl g rfl 76 C (0,0) _ Hrow.o zX rfl Ci.o ?_;go_wp2_with fail;refine(Hsc.o _).mono ?_;rintro e w5 ⟨rfl,hb5⟩;have Hres5:U (w5.heap[w.heap.size+2]? = some (Y z 76 (0,0))):=⟨(hb5.block _ (bI Hres.o)).trans Hres.o⟩;have HB5:=bK HB hb5;clear hb5 Hres Hrow HB;go_wp2_with (refine iS rfl 76 _ _ rfl (w.heap.size+2) R rfl rfl 76 _ Hres5.o Ri.o Rz.o Ro.o ?_);refine iV (v:=I R) (jC rfl _ _ (w.heap.size+2) 76 _ (0,0) _ rfl (jD _ _ _ _ _ _ Hres5.o) zX rfl Ri.o) rfl ?_;exact⟨rfl,HB5.o.trans (below_setRow _ _ _ (by omega))⟩
end nback
end Go.Proofs.YtomphjajkkddkaaGreatDoor
