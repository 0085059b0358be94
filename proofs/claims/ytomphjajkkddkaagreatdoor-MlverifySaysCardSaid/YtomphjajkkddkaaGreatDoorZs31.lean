/-
  What the reference's times returns for any two long numbers: the parts of their product modulo 2 to 
-/
import Derived.Test.YtomphjajkkddkaaGreatDoorProg
import Derived.Test.YtomphjajkkddkaaGreatDoorZs01
import Derived.Test.YtomphjajkkddkaaGreatDoorZs05
import Derived.Test.YtomphjajkkddkaaGreatDoorZs02
import Derived.Test.YtomphjajkkddkaaGreatDoorZs04
set_option maxRecDepth 100000
set_option maxHeartbeats 16000000
set_option linter.unusedSimpArgs false
set_option linter.unusedVariables false
open Go Go.RowKit
open Go renaming World->G,Calls->aD,Value->aE,TypeId->aH,Program->aI
open Go.RowKit renaming intOf->aG
open Go.Region renaming wanted->aL
open Go.Value renaming int->O,agg->I,slice->aB,pointer->aC
open Go.IntKind renaming i64->J
open Go.Obj renaming cells->Y
open Go.Proofs.Tryz renaming prog->aO
namespace Go.Proofs.YtomphjajkkddkaaGreatDoor
namespace rtimes
open Go.RowKit
open tabd arr
theorem cN:(aO.info? 104).map (·.size)=some 8:=by kernel_rfl
theorem xcp(us vs:List Nat)(w:G)(hu:us.length=8)(hv:vs.length=8)(su:cH us)(sv:cH vs):
 aD aO 71 #[I (LK .u64 us),I (LK .u64 vs)] w (zB w (I (LK .u64 (dg 8 (val us*val vs))))):=by
 have Hu:=lS hu;have Hv:=lS hv;have Su:=lS su;have Sv:=lS sv;clear hu hv su sv;go_enter Tryz.func71,Tryz.ntmps71;go_wp2
 obtain⟨Z,hZ⟩:=aP ((#[O .u64 0,O .u64 0,O .u64 0,O .u64 0,O .u64 0,O .u64 0,O .u64 0,O .u64 0]:Array aE));rw[hZ];have HZ:=lS hZ;clear hZ;have t0:=xr4 us vs;go_loopw [10] (fun i wr=>∃ (k n:Nat) (ds:List Nat),k<=8/\i=O J k/\Top us vs k ds/\wr=((((w.alloc (Y (LK .u64 us) 104)).alloc (Y (LK .u64 vs) 104)).alloc (Y Z 104)).alloc (Y (LK .u64 ds) 104)).drewN n) (fun i _=>8-(aG i).toNat)
 case atStart=>exact⟨0,0,List.replicate 8 0,by decide,rfl,t0,by rw[<-HZ.out];rfl⟩
 case round=>
  obtain⟨k,n,ds,hk,rfl,ht,rfl⟩:=hrel;clear t0;by_cases hlt:k<8
  ·obtain⟨N,hN⟩:=aP (val ds);obtain⟨x,hx⟩:=aP (us.getD k 0);have hm0:=xph vs ds x k ht.1 ht.2.1;have hxl:=xa7 Su.out k;rw[hx]at hxl;rw[hN]at hm0;have Ht:=lS ht;have HN:=lS hN;have hgu:=gC .u64 us k (by rw[Hu.out];exact hlt);rw[hx]at hgu;have HX:=lS hx;clear ht hN hx;go_wp2
   go_loopw [8,7] (fun j c wr=>∃ (m n:Nat) (d:List Nat) (cc:Nat),m<=8-k/\j=O J m/\c=O .u64 cc/\Mid vs N x k m d cc/\wr=((((w.alloc (Y (LK .u64 us) 104)).alloc (Y (LK .u64 vs) 104)).alloc (Y Z 104)).alloc (Y (LK .u64 d) 104)).drewN n) (fun j _ _=>8-(aG j).toNat)
   case atStart=>exact⟨0,n,ds,0,by omega,rfl,rfl,hm0,rfl⟩
   case round=>
    obtain⟨m,n,d,c,hm,rfl,rfl,hmid,rfl⟩:=hrel;by_cases hlm:m<8-k
    ·have hs:=mid_step hmid hxl Sv.out (by rw[Hv.out];omega) (by omega);have hb:=xpg (j:=m) (k:=k+m) (c:=c) hxl Sv.out hmid.2.1 hmid.2.2.1;have hgv:=gC .u64 vs m (by rw[Hv.out];omega);have hgd:=gC .u64 d (k+m) (by rw[hmid.1];omega);have hlv:=xa7 Sv.out m;have hld:=xa7 hmid.2.1 (k+m);obtain⟨y,hy⟩:=aP (vs.getD m 0);obtain⟨z,hz⟩:=aP (d.getD (k+m) 0);rw[hy]at hs hb hgv hlv;rw[hz]at hs hb hgd hld;have hc:=hmid.2.2.1;have hset:=xc2 .u64 d (k+m) ((x*y+z+c)%4294967296) (bits .and .u64 ((z:Int)+(x:Int)*(y:Int)+(c:Int)) 4294967295) (xtw x y z c hb.2.2);clear hy hz hmid hm0;have w1:J.wrap ((k:Int)+(m:Int))=(k:Int)+(m:Int):=IntWalk.i64_in _ (by omega);have w2:((k:Int)+(m:Int)).toNat=k+m:=by omega
     go_wp2_with fail;go_quiet (fail)
     go_wp2_with fail;go_roundw
     case rel=>
      exact⟨m+1,n+nq,d.set (k+m) ((x*y+z+c)%4294967296),(x*y+z+c) / 4294967296,by omega,by go_num,xbw (xty x y z c),hs,rfl⟩
     case measure=>simp[aG];omega
    ·obtain rfl:m=8-k:=by omega
     have htop:=xr5 (us:=us) (c:=c) (HN.out ▸ Ht.out.2.2) (by rw[Hu.out];exact hlt) hk Hv.out (by rw[HX.out];exact hmid);clear hm0 hmid hgu;go_wp2_with fail;go_roundw
     case rel=>exact⟨k+1,n,d,by omega,by go_num,htop,rfl⟩
     case measure=>simp[aG];omega
  ·obtain rfl:k=8:=by omega
   have hend:=xr3 Hu.out ht;have hsz:(LK .u64 ds).size=8:=by rw[fE];exact ht.1
   have hzs:Z.size=8:=by rw[<-HZ.out];rfl
   obtain⟨X,hX⟩:=aP (((((w.alloc (Y (LK .u64 us) 104)).alloc (Y (LK .u64 vs) 104)).alloc (Y Z 104)).alloc (Y (LK .u64 ds) 104)).drewN n);have hb:zb w X:=by
    rw[<-hX];exact oN (((((iR _ _).alloc (iM _) _).alloc (by simp) _).alloc (by simp;omega) _).alloc (by simp;omega) _) n
   have g5:X.heap[w.heap.size+1+1+1]? = some (Y (LK .u64 ds) 104 (0,0)):=by
    rw[<-hX,xdy,cM _ _ _ (by simp)]
   have g4:X.heap[w.heap.size+1+1]? = some (Y Z 104 (0,0)):=by
    rw[<-hX,xdy,fF _ _ _ (by simp),cM _ _ _ (by simp)]
   rw[hX];clear hX ht;go_wp2_with (first | (refine iL rfl 104 _ rfl _ rfl 104 _ (0,0) _ g5 Tryz.underlying104 rfl (by rw[hsz];exact cN) ?_) | (refine iS rfl 104 _ _ rfl _ _ rfl rfl 104 _ g4 (by rw[hsz];exact cN) (by rw[hsz];exact hzs) (gV _ _) ?_));refine iV (v:=I (LK .u64 ds)) (jC rfl _ _ (w.heap.size+1+1) 104 _ (0,0) _ rfl (jD _ _ _ _ _ _ g4) Tryz.underlying104 rfl (by rw[hsz];exact cN)) rfl ?_;exact⟨by rw[hend],hb.trans (below_setRow _ _ _ (by omega))⟩
end rtimes
namespace above
open Go.RowKit
open tabd arr
theorem xxl(us vs:List Nat)(w:G)(hu:us.length=8)(hv:vs.length=8)(su:cH us)(sv:cH vs):
 aD aO 72 #[I (LK .u64 us),I (LK .u64 vs)] w (zB w (.bool (decide (val vs<val us)))):=by
 have Hu:=lS hu;have Hv:=lS hv;have Su:=lS su;have Sv:=lS sv;have HS:=lS (show Same us vs (8-0) from by unfold Same;rw[nL (by omega),nL (by omega)]);clear hu hv su sv;go_enter Tryz.func72,Tryz.ntmps72;go_wp2
 go_loopw [5] (fun i wr=>∃ (k n:Nat),k<=8/\i=O J (7-(k:Int))/\Hid (Same us vs (8-k))/\wr=((w.alloc (Y (LK .u64 us) 104)).alloc (Y (LK .u64 vs) 104)).drewN n) (fun i _=>(aG i+1).toNat)
 case atStart=>exact⟨0,0,by decide,rfl,HS,rfl⟩
 case round=>
  obtain⟨k,n,hk,rfl,hs,rfl⟩:=hrel;clear HS;have hbel:∀ n,zb w (((w.alloc (Y (LK .u64 us) 104)).alloc (Y (LK .u64 vs) 104)).drewN n):=fun n=>oN (((iR _ _).alloc (iM _) _).alloc (by simp) _) n
  have Hbel:=lS hbel;clear hbel;by_cases hlt:k<8
  ·have hgu:=gC .u64 us (7-k) (by rw[Hu.out];omega);have hgv:=gC .u64 vs (7-k) (by rw[Hv.out];omega);have e1:(7-(k:Int)).toNat=7-k:=by omega
   have hs':Same us vs (7-k+1):=by rw[show 7-k+1=8-k by omega];exact hs.out
   by_cases he:us.getD (7-k) 0=vs.getD (7-k) 0
   ·have hn:=lS (xq9 hs' (by rw[Hu.out];omega) (by rw[Hv.out];omega) he);rw[he]at hgu;obtain⟨x,hx⟩:=aP (vs.getD (7-k) 0);rw[hx]at hgu hgv;clear he hx hs' hs;go_wp2_with fail;go_quiet (fail)
    go_wp2_with fail;go_roundw
    case rel=>exact⟨k+1,_,by omega,xbw (by omega),by rw[show 8-(k+1)=7-k by omega];exact hn,rfl⟩
    case measure=>simp[aG];omega
   ·have hg:=lS (gt_of us vs (7-k) hs' Hu.out Hv.out Su.out Sv.out (by omega) he);obtain⟨x,hx⟩:=aP (us.getD (7-k) 0);obtain⟨y,hy⟩:=aP (vs.getD (7-k) 0);rw[hx,hy]at hg;rw[hx]at hgu;rw[hy]at hgv;rw[hx,hy]at he;have b1:((x:Int)==(y:Int))=false:=jV.2 (by omega);have b2:((x:Int) != (y:Int))=true:=by rw[bne_iff_ne];omega
    clear he hx hy hs' hs;iterate 2 (go_wp2_with fail;go_quiet (fail))
    go_wp2_with fail;go_ret;exact⟨xjn hg.out,oN (oN (Hbel.out _) _) _⟩
  ·obtain rfl:k=8:=by omega
   have hz:=lS (xra hs.out);go_wp2_with fail;go_ret;exact⟨xjn (by rw[hz.out];simp),Hbel.out _⟩
theorem xqr(c:Bool)(us vs:List Nat)(w:G)(hu:us.length=8)(hv:vs.length=8)(su:cH us)(sv:cH vs)(hc:decide (val vs<val us)=c):
 aD aO 72 #[I (LK .u64 us),I (LK .u64 vs)] w (zB w (.bool c)):=by
 subst hc;exact xxl us vs w hu hv su sv
end above
namespace rroot
open Go.RowKit
open tabd arr rtimes above
open Go.Proofs.YtomphjajkkddkaaGreatDoor.raised (xku)
open root (xg0 hI)
def St(p k:Nat)(w:G)(y:Nat)(wr:G):Prop:=
 wr.heap[w.heap.size]? = some (Y (LK .u64 (top p k)) 104 (0,0)) /\
 wr.heap[w.heap.size+1]? = some (Y (LK .u64 (dg 8 y)) 104 (0,0))/\zb w wr/\w.heap.size+2<=wr.heap.size
theorem xcb{p k:Nat}{w wr w1:G}{n:Nat}(h:St p k w n wr)(hb:zb wr w1):St p k w n w1:=by
 obtain⟨h1,h2,h4,h5⟩:=h;have hs:=hb.size;exact⟨(hb.block _ (by omega)).trans h1,(hb.block _ (by omega)).trans h2,h4.trans (hb.mono (by omega)),by omega⟩
theorem xfb{p k:Nat}{w wr:G}{n t:Nat}(h:St p k w n wr):St p k w t (wr.setRow (w.heap.size+1) (LK .u64 (dg 8 t))):=by
 obtain⟨h1,h2,h4,h5⟩:=h;exact⟨by rw[lW _ _ _ _ (by omega)];exact h1,jD _ _ _ _ _ _ h2,h4.trans (below_setRow _ _ _ (by omega)),by simpa using h5⟩
theorem xht(p k:Nat):(LK .u64 (top p k)).size=8:=by rw[fE,xge]
theorem xfs{w:G}{g:Nat}{o:Obj}(h:w.heap[g]? = some o):g<w.heap.size:=by
 by_cases hlt:g<w.heap.size
 ·exact hlt
 ·rw[lH (by omega)]at h;cases h
theorem xmj(p:Nat)(w:G)(hp:p<=1000):
 aD aO 22 #[O J p,O J 2] w (zB w (O .u64 ((rootN p 2%18446744073709551616:Nat):Int))):=by
 have hsd:∀ v,(LK .u64 (dg 8 v)).size=8:=fun v=>by rw[fE,gR]
 have Hsd:=D hsd;clear hsd;go_enter Tryz.func22,Tryz.ntmps22;go_wp2_with fail;go_loopw [7] (fun i wr=>∃ n y:Nat,n<=70/\i=O J (69-(n:Int))/\U (rt 70 (p*bp (2*2)) 2 n=y)/\St p 2 w y wr) (fun i _=>(aG i+1).toNat)
 case atStart=>
  refine⟨0,0,by decide,rfl,⟨rfl⟩,?_,?_,?_,?_⟩
  ·rw[fF _ _ _ (by simp<;>omega),cM _ _ _ rfl];rfl
  ·rw[cM _ _ _ (by simp<;>omega)];rfl
  ·exact((iR _ _).alloc (iM _) _).alloc (by simp<;>omega) _
  ·simp
 case round=>
  obtain⟨n,y,hn,rfl,Hy,hst⟩:=hrel;have g1:=hst.2.1;have Hst:=D hst;clear hst;by_cases hlt:n<70
  ·obtain⟨k1,k2,k3,k4,k5⟩:=xjp (k:=2) (by decide) hp (by decide : 69<=70) (iM 70) hlt Hy.o;have HR:=D k5;obtain⟨d,hd⟩:=aP ((dg 8 y).getD ((69-n) / 32) 0);have hget:=gC .u64 (dg 8 y) ((69-n) / 32) (by rw[gR];omega);have hdl:=xa7 (xa0 8 y) ((69-n) / 32);rw[hd]at hget hdl;have hbit:=xid y (69-n) (by omega) k1 k2;rw[hd]at hbit;have Hbit:=D hbit;have hq8:(69-n) / 32<8:=by omega
   have hr32:(69-n)%32<32:=by omega
   have w36:(69-(n:Int)) / 32=(((69-n) / 32:Nat):Int):=by omega
   have w40:(69-(n:Int))%32=(((69-n)%32:Nat):Int):=by omega
   obtain⟨q,hq⟩:=aP ((69-n) / 32);obtain⟨r,hr⟩:=aP ((69-n)%32);rw[hq]at w36 hget Hbit hq8;rw[hr]at w40 Hbit hr32;obtain⟨t,ht⟩:=aP (y+2 ^ (70-1-n));rw[ht]at k3 k4 HR;have hset:(LK .u64 (dg 8 y)).setIfInBounds q (O .u64 (bits .or .u64 (d:Int) (IntKind.u64.wrap (2 ^ r))))=LK .u64 (dg 8 t):=by
    rw[xc2 .u64 (dg 8 y) q (d ||| 2 ^ r) _ (xp0 d r hdl hr32),<-ht];exact lD (LK .u64) Hbit.o.1
   have K3:=D k3;have K4:=D k4;clear hd hbit hq hr ht k1 k2 k3 k4 k5;go_wp2_with (first | (refine iL rfl 104 _ rfl _ rfl 104 _ (0,0) _ g1 Tryz.underlying104 rfl (by rw[Hsd.o];exact cN) ?_) | (refine fV rfl 104 _ _ rfl _ rfl rfl (by rw[Hsd.o];exact cN) (by rw[Hsd.o];rfl) (gV _ _) rfl ?_) | (refine iL rfl 104 _ rfl _ rfl 104 _ (0,0) _ (cM _ _ _ rfl) Tryz.underlying104 rfl (by rw[Hsd.o];exact cN) ?_));refine(xcp _ _ _ (gR _ _) (gR _ _) (xa0 _ _) (xa0 _ _)).mono ?_;rintro e w1 ⟨rfl,hb1⟩;rw[K3.o];have hbA:zb wr w1:=((iR _ _).alloc (iM _) _).trans (hb1.mono (by simp));have g8:=(hb1.block wr.heap.size (by simp)).trans (cM wr _ _ rfl);have Hst1:=D (xcb Hst.o hbA);have g5:=Hst1.o.1;have s8:=xfs g8;have s5:=xfs g5;clear hb1 hbA g1;have KX:U (t*t=t ^ 2):=⟨(Nat.pow_two t).symm⟩;obtain⟨c,Hc⟩:=aQ (decide (val (top p 2)<val (dg 8 (t*t))));go_wp2_with (first | (refine fV rfl 104 _ _ rfl _ rfl rfl (by rw[Hsd.o];exact cN) (by rw[Hsd.o];rfl) (gV _ _) rfl ?_) | (refine iL rfl 104 _ rfl _ rfl 104 _ (0,0) _ (cM _ _ _ rfl) Tryz.underlying104 rfl (by rw[Hsd.o];exact cN) ?_) | (refine iL rfl 104 _ rfl _ rfl 104 _ (0,0) _ ((fF _ _ _ s5).trans g5) Tryz.underlying104 rfl (by rw[xht];exact cN) ?_));have HstX:=D (xcb Hst1.o ((iR _ _).alloc (iM _) (Y (LK .u64 (dg 8 (t*t))) 104)));have gX8:=(fF w1 (Y (LK .u64 (dg 8 (t*t))) 104) _ s8).trans g8;refine(xqr c _ _ _ (gR _ _) (xge _ _) (xa0 _ _) (xjw _ _ hp) Hc.o).mono ?_
   rintro e w3 ⟨rfl,hb3⟩;have Hst3:=D (xcb HstX.o hb3);have g83:=(hb3.block _ (xfs gX8)).trans gX8;have g13:=Hst3.o.2.1;clear hb3;rw[KX.o,K4.o,xj2 p 2 (by decide)]at Hc;cases c
   ·have hle:t ^ 2<=p*bp (2*2):=Nat.not_lt.1 (of_decide_eq_false Hc.o);have HR2:=D (HR.o.trans (iP hle));clear hle;go_wp2_with (first | (refine iL rfl 104 _ rfl _ rfl 104 _ (0,0) _ g83 Tryz.underlying104 rfl (by rw[Hsd.o];exact cN) ?_) | (refine iS rfl 104 _ _ rfl _ _ rfl rfl 104 _ g13 (by rw[Hsd.o];exact cN) (by rw[Hsd.o,Hsd.o]) (gV _ _) ?_));go_roundw
    case rel=>exact⟨n+1,t,by omega,xbw (by omega),HR2,xfb Hst3.o⟩
    case measure=>simp[aG];omega
   ·have hle:¬ t ^ 2<=p*bp (2*2):=Nat.not_le.2 (lZ Hc.o);have HR2:=D (HR.o.trans (iQ hle));clear hle;go_wp2_with fail;go_roundw
    case rel=>exact⟨n+1,y,by omega,xbw (by omega),HR2,Hst3.o⟩
    case measure=>simp[aG];omega
  ·obtain rfl:n=70:=by omega
   have b1:=xa7 (xa0 8 y) 1;have b0:=xa7 (xa0 8 y) 0;have c1:=aZ g1 (gC .u64 (dg 8 y) 1 (by rw[gR];decide));have c0:=aZ g1 (gC .u64 (dg 8 y) 0 (by rw[gR];decide));have hj:=xg0 y;generalize (dg 8 y).getD 1 0=a at *;generalize (dg 8 y).getD 0 0=b at *;have Hj:=D hj;clear hj g1;go_wp2_with fail;go_ret;exact⟨xcm (by rw[Hj.o,<-Hy.o,xq0 p 2 70 hp (by decide) (by decide)]),Hst.o.2.2.1⟩
theorem xmk(p:Nat)(w:G)(hp:p<=1000):
 aD aO 22 #[O J p,O J 3] w (zB w (O .u64 ((rootN p 3%18446744073709551616:Nat):Int))):=by
 have hsd:∀ v,(LK .u64 (dg 8 v)).size=8:=fun v=>by rw[fE,gR]
 have Hsd:=D hsd;clear hsd;go_enter Tryz.func22,Tryz.ntmps22;go_wp2_with fail;go_loopw [7] (fun i wr=>∃ n y:Nat,n<=70/\i=O J (69-(n:Int))/\U (rt 70 (p*bp (2*3)) 3 n=y)/\St p 3 w y wr) (fun i _=>(aG i+1).toNat)
 case atStart=>
  refine⟨0,0,by decide,rfl,⟨rfl⟩,?_,?_,?_,?_⟩
  ·rw[fF _ _ _ (by simp<;>omega),cM _ _ _ rfl];rfl
  ·rw[cM _ _ _ (by simp<;>omega)];rfl
  ·exact((iR _ _).alloc (iM _) _).alloc (by simp<;>omega) _
  ·simp
 case round=>
  obtain⟨n,y,hn,rfl,Hy,hst⟩:=hrel;have g1:=hst.2.1;have Hst:=D hst;clear hst;by_cases hlt:n<70
  ·obtain⟨k1,k2,k3,k4,k5⟩:=xjp (k:=3) (by decide) hp (by decide : 69<=70) (iM 70) hlt Hy.o;have HR:=D k5;obtain⟨d,hd⟩:=aP ((dg 8 y).getD ((69-n) / 32) 0);have hget:=gC .u64 (dg 8 y) ((69-n) / 32) (by rw[gR];omega);have hdl:=xa7 (xa0 8 y) ((69-n) / 32);rw[hd]at hget hdl;have hbit:=xid y (69-n) (by omega) k1 k2;rw[hd]at hbit;have Hbit:=D hbit;have hq8:(69-n) / 32<8:=by omega
   have hr32:(69-n)%32<32:=by omega
   have w36:(69-(n:Int)) / 32=(((69-n) / 32:Nat):Int):=by omega
   have w40:(69-(n:Int))%32=(((69-n)%32:Nat):Int):=by omega
   obtain⟨q,hq⟩:=aP ((69-n) / 32);obtain⟨r,hr⟩:=aP ((69-n)%32);rw[hq]at w36 hget Hbit hq8;rw[hr]at w40 Hbit hr32;obtain⟨t,ht⟩:=aP (y+2 ^ (70-1-n));rw[ht]at k3 k4 HR;have hset:(LK .u64 (dg 8 y)).setIfInBounds q (O .u64 (bits .or .u64 (d:Int) (IntKind.u64.wrap (2 ^ r))))=LK .u64 (dg 8 t):=by
    rw[xc2 .u64 (dg 8 y) q (d ||| 2 ^ r) _ (xp0 d r hdl hr32),<-ht];exact lD (LK .u64) Hbit.o.1
   have K3:=D k3;have K4:=D k4;clear hd hbit hq hr ht k1 k2 k3 k4 k5;go_wp2_with (first | (refine iL rfl 104 _ rfl _ rfl 104 _ (0,0) _ g1 Tryz.underlying104 rfl (by rw[Hsd.o];exact cN) ?_) | (refine fV rfl 104 _ _ rfl _ rfl rfl (by rw[Hsd.o];exact cN) (by rw[Hsd.o];rfl) (gV _ _) rfl ?_) | (refine iL rfl 104 _ rfl _ rfl 104 _ (0,0) _ (cM _ _ _ rfl) Tryz.underlying104 rfl (by rw[Hsd.o];exact cN) ?_));refine(xcp _ _ _ (gR _ _) (gR _ _) (xa0 _ _) (xa0 _ _)).mono ?_;rintro e w1 ⟨rfl,hb1⟩;rw[K3.o];have hbA:zb wr w1:=((iR _ _).alloc (iM _) _).trans (hb1.mono (by simp));have g8:=(hb1.block wr.heap.size (by simp)).trans (cM wr _ _ rfl);have Hst1:=D (xcb Hst.o hbA);have g5:=Hst1.o.1;have s8:=xfs g8;have s5:=xfs g5;clear hb1 hbA g1;have KX:U (t*t*t=t ^ 3):=⟨by rw[mG,Nat.pow_two]⟩;obtain⟨c,Hc⟩:=aQ (decide (val (top p 3)<val (dg 8 (t*t*t))));go_wp2_with (first | (refine fV rfl 104 _ _ rfl _ rfl rfl (by rw[Hsd.o];exact cN) (by rw[Hsd.o];rfl) (gV _ _) rfl ?_) | (refine iL rfl 104 _ rfl _ rfl 104 _ (0,0) _ (cM _ _ _ rfl) Tryz.underlying104 rfl (by rw[Hsd.o];exact cN) ?_) | (refine iL rfl 104 _ rfl _ rfl 104 _ (0,0) _ ((fF _ _ _ s8).trans g8) Tryz.underlying104 rfl (by rw[Hsd.o];exact cN) ?_));refine(xcp _ _ _ (gR _ _) (gR _ _) (xa0 _ _) (xa0 _ _)).mono ?_;rintro e w2 ⟨rfl,hb2⟩;rw[xku,K3.o];have hbB:zb w1 w2:=((iR _ _).alloc (iM _) _).trans (hb2.mono (by simp))
   have g9:=(hb2.block w1.heap.size (by simp)).trans (cM w1 _ _ rfl);have g82:=(hbB.block _ s8).trans g8;have Hst2:=D (xcb Hst1.o hbB);have g52:=Hst2.o.1;have e8:wr.heap.size≠w1.heap.size:=by omega
   have e5:w.heap.size≠w1.heap.size:=by omega
   have hb4:=below_setRow (B:=w1.heap.size) w2 w1.heap.size (LK .u64 (dg 8 (t*t*t))) (iM _);have HstX:=D (xcb Hst1.o (hbB.trans hb4));have gX8:=(lW w2 w1.heap.size _ (LK .u64 (dg 8 (t*t*t))) e8).trans g82;have gX5:=(lW w2 w1.heap.size _ (LK .u64 (dg 8 (t*t*t))) e5).trans g52;have gX9:=jD w2 w1.heap.size _ (LK .u64 (dg 8 (t*t*t))) _ _ g9;clear hb2 hbB g8 g5 g82 g52 e8 e5 hb4;go_wp2_with (first | (refine iS rfl 104 _ _ rfl _ _ rfl rfl 104 _ g9 (by rw[Hsd.o];exact cN) (by rw[Hsd.o,Hsd.o]) (gV _ _) ?_) | (refine iL rfl 104 _ rfl _ rfl 104 _ (0,0) _ gX9 Tryz.underlying104 rfl (by rw[Hsd.o];exact cN) ?_) | (refine iL rfl 104 _ rfl _ rfl 104 _ (0,0) _ gX5 Tryz.underlying104 rfl (by rw[xht];exact cN) ?_));refine(xqr c _ _ _ (gR _ _) (xge _ _) (xa0 _ _) (xjw _ _ hp) Hc.o).mono ?_;rintro e w3 ⟨rfl,hb3⟩;have Hst3:=D (xcb HstX.o hb3);have g83:=(hb3.block _ (xfs gX8)).trans gX8;have g13:=Hst3.o.2.1;clear hb3;rw[KX.o,K4.o,xj2 p 3 (by decide)]at Hc;cases c
   ·have hle:t ^ 3<=p*bp (2*3):=Nat.not_lt.1 (of_decide_eq_false Hc.o);have HR2:=D (HR.o.trans (iP hle));clear hle;go_wp2_with (first | (refine iL rfl 104 _ rfl _ rfl 104 _ (0,0) _ g83 Tryz.underlying104 rfl (by rw[Hsd.o];exact cN) ?_) | (refine iS rfl 104 _ _ rfl _ _ rfl rfl 104 _ g13 (by rw[Hsd.o];exact cN) (by rw[Hsd.o,Hsd.o]) (gV _ _) ?_));go_roundw
    case rel=>exact⟨n+1,t,by omega,xbw (by omega),HR2,xfb Hst3.o⟩
    case measure=>simp[aG];omega
   ·have hle:¬ t ^ 3<=p*bp (2*3):=Nat.not_le.2 (lZ Hc.o);have HR2:=D (HR.o.trans (iQ hle));clear hle;go_wp2_with fail;go_roundw
    case rel=>exact⟨n+1,y,by omega,xbw (by omega),HR2,Hst3.o⟩
    case measure=>simp[aG];omega
  ·obtain rfl:n=70:=by omega
   have b1:=xa7 (xa0 8 y) 1;have b0:=xa7 (xa0 8 y) 0;have c1:=aZ g1 (gC .u64 (dg 8 y) 1 (by rw[gR];decide));have c0:=aZ g1 (gC .u64 (dg 8 y) 0 (by rw[gR];decide));have hj:=xg0 y;generalize (dg 8 y).getD 1 0=a at *;generalize (dg 8 y).getD 0 0=b at *;have Hj:=D hj;clear hj g1;go_wp2_with fail;go_ret;exact⟨xcm (by rw[Hj.o,<-Hy.o,xq0 p 3 70 hp (by decide) (by decide)]),Hst.o.2.2.1⟩
theorem xml(p k:Int)(w:G)(h:p<0\/1000<p\/(k≠2/\k≠3)):
 aD aO 22 #[O J p,O J k] w (zB w (O .u64 0)):=by
 by_cases h1:p<0
 ·clear h;go_enter Tryz.func22,Tryz.ntmps22;go_wp2_with fail;go_ret;exact⟨rfl,iR _ _⟩
 by_cases h2 : 1000<p
 ·clear h;go_enter Tryz.func22,Tryz.ntmps22;go_wp2_with fail;go_ret;exact⟨rfl,iR _ _⟩
 obtain⟨h3,h4⟩:k≠2/\k≠3:=by omega
 have b3:(k != 2)=true:=by rw[bne_iff_ne];exact h3
 have b4:(k != 3)=true:=by rw[bne_iff_ne];exact h4
 clear h h3 h4;go_enter Tryz.func22,Tryz.ntmps22;go_wp2_with fail;go_ret;exact⟨rfl,iR _ _⟩
theorem xhf(p k:Int)(w:G):
 aD aO 22 #[O J p,O J k] w (zB w (O .u64 (hI p k:Nat))):=by
 unfold hI;by_cases h:p<0\/1000<p\/(k≠2/\k≠3)
 ·rw[iP h];exact xml p k w h
 ·rw[iQ h];obtain⟨a,rfl⟩:=kR (show 0<=p by omega);rw[kL];have hk:k=2\/k=3:=by omega
  rcases hk with rfl | rfl
  ·exact xmj a w (by omega)
  ·exact xmk a w (by omega)
end rroot
namespace primes
open Go.RowKit
open primm arr
theorem xyc(n:Nat)(h1 : 1<=n)(h2:n<=100)(w:G):
 aD aO 21 #[O J (n:Int)] w fun e w'=>∃ v,e=.returned v/\Holds w (pr (n:Int)) v w':=by
 obtain⟨i0,hi,hz0,hz1,hz2⟩:=info_parts gL;have HI:=D (jA hi (jA hz0 (jA hz1 hz2)));clear hi hz0 hz1 hz2;have hst:=xfv w;rw[<-xec]at hst;have Hst:=D hst;clear hst;go_enter Tryz.func21,Tryz.ntmps21;go_wp2_with fail;go_loopw [3,4] (fun v i wr=>∃ x:Nat,2<=x/\x<=542/\i=O J x/\U (Holds w (pl x) v wr)/\(pl x).length<=n) (fun _ i _=>542-(aG i).toNat)
 case atStart=>exact⟨2,by decide,by decide,rfl,Hst,by rw[xec];exact iX _⟩
 case round=>
  obtain⟨x,hx2,hx5,rfl,hf,hle⟩:=hrel;clear Hst;obtain⟨L,HL⟩:=aQ (pl x).length;rw[HL.o]at hle;by_cases hlt:L<n
  ·have hx:x<542:=xjc hx5 (by rw[HL.o];omega);obtain⟨xs,Hxs⟩:=aQ (pl x);have Hpos:U (∀ p∈xs,2<=p/\p<=541):=⟨fun p hp=>xjb (x:=x) (by rw[Hxs.o];exact hp)⟩;rw[Hxs.o]at hf HL;have hL:=xf3 x;rw[Hxs.o,HL.o]at hL;have hsz:=xio hf.o;rcases xcs hf.o with ⟨rfl,rfl⟩ | ⟨g,cap,rfl,hg1,hg2,hcap,hcell⟩
   ·have Hnew:U (pl (x+1)=[] ++ [x]):=⟨by rw[xf4 hx2 hx (by rw[Hxs.o];rfl),Hxs.o]⟩;obtain rfl:L=0:=HL.o.symm;go_wp2_with fail;refine wp_loop_rounds 1 ?_;rw[rounds_succ];go_wp2_with (at_builtin;refine kH _ rfl _ _ 59 rfl w.heap.size 3 i0 (O J 0) 1 8 Tryz.underlying59 HI.o.1 HI.o.2.1 HI.o.2.2.1 HI.o.2.2.2 rfl (by decide) _ _ _ rfl (hf.o.1.alloc _) ⟨wr.heap.size,0,none⟩ 1 1 [O J (x:Int)] rfl rfl xbg (fun u hu=>by simp at hu;subst hu;rfl) (by simp[maxLen]) (by simp) (by simp;omega) ?_);intro v' w1 hown' hgrow _;have R:=xdz hf.o hown' hgrow;rw[<-Hnew.o]at R;have HR:=D R;clear hown' hgrow R;go_wp2_with fail;go_roundw
    case rel=>exact⟨x+1,by omega,by omega,by go_num,HR,by rw[Hnew.o];exact hlt⟩
    case measure=>simp[aG];omega
   ·rw[HL.o]at hcap hcell ⊢;have Hown:=D hf.o.1;rw[HL.o]at Hown;have HC:=D hcell;clear hcell;go_wp2_with fail;go_loop [5,17] (fun b i=>∃ (k:Nat) (c:Bool),k<=L/\i=O J k/\b=.bool c/\U (c = !(iG (xs.take k) x))) (fun _ i=>L-(aG i).toNat)
    case atStart=>exact⟨0,true,iX _,rfl,rfl,⟨rfl⟩⟩
    case round=>
     obtain⟨k,c,hk,rfl,rfl,Hc⟩:=hrel;by_cases hkl:k<L
     ·have hcell:=HC.o k hkl;have hb : 2<=xs.getD k 0/\xs.getD k 0<=541:=Hpos.o _ (by
       rw[iO,iT (by rw[HL.o];exact hkl)];exact kZ _)
      have Hs:=D (xjv (l:=xs) (k:=k) (by rw[HL.o];exact hkl));obtain⟨p,hpp⟩:=aP (xs.getD k 0);rw[hpp]at hcell hb Hs;clear hpp;cases c
      ·have Hn2:U (false = !(iG (xs.take (k+1)) x)):=⟨by
        have h:=Hc.o;rw[Hs.o,xeq];revert h
        cases iG (xs.take k) x<;>simp⟩
       go_wp2_with fail;go_round
       case rel=>exact⟨k+1,false,by omega,by go_num,rfl,Hn2⟩
       case measure=>simp[aG];omega
      ·by_cases hm:x%p=0
       ·have b1:((x:Int)%(p:Int) != 0)=false:=bne_eq_false_iff_eq.2 (by exact_mod_cast hm);have Hn2:U (false = !(iG (xs.take (k+1)) x)):=⟨by rw[Hs.o,xeq,hm];simp⟩;clear hm;go_wp2_with fail;go_round
        case rel=>exact⟨k+1,false,by omega,by go_num,rfl,Hn2⟩
        case measure=>simp[aG];omega
       ·have b1:((x:Int)%(p:Int) != 0)=true:=bne_iff_ne.2 (by exact_mod_cast hm);have Hn2:U (true = !(iG (xs.take (k+1)) x)):=⟨by
         have h:=Hc.o;rw[Hs.o,xeq,beq_false_of_ne hm,Bool.or_false];exact h⟩
        clear hm;go_wp2_with fail;go_round
        case rel=>exact⟨k+1,true,by omega,by go_num,rfl,Hn2⟩
        case measure=>simp[aG];omega
     ·obtain rfl:k=L:=by omega
      have Hd:U (c = !(iG xs x)):=⟨by rw[Hc.o,lG (by rw[HL.o];exact iM _)]⟩;cases c
      ·have Hnew:U (pl (x+1)=xs):=⟨by rw[xja hx2 hx (by rw[Hxs.o];have:=Hd.o;revert this;cases iG xs x<;>simp),Hxs.o]⟩;rw[HL.o]at hf;have R:=hf.o;rw[<-Hnew.o]at R;have HR:=D R;clear R;go_wp2_with fail;go_roundw
       case rel=>exact⟨x+1,by omega,by omega,by go_num,HR,by rw[Hnew.o,HL.o];exact hle⟩
       case measure=>simp[aG];omega
      ·have Hnew:U (pl (x+1)=xs ++ [x]):=⟨by rw[xf4 hx2 hx (by rw[Hxs.o];have:=Hd.o;revert this;cases iG xs x<;>simp),Hxs.o]⟩;go_wp2_with (at_builtin;refine kH _ rfl _ _ 59 rfl w.heap.size 3 i0 (O J 0) 1 8 Tryz.underlying59 HI.o.1 HI.o.2.1 HI.o.2.2.1 HI.o.2.2.2 rfl (by decide) _ _ _ rfl (Hown.o.alloc _) ⟨wr.heap.size,0,none⟩ 1 1 [O J (x:Int)] rfl rfl xbg (fun u hu=>by simp at hu;subst hu;rfl) (by unfold maxLen;omega) (by omega) (by simp;omega) ?_);intro v' w1 hown' hgrow _;rw[<-HL.o]at hown' hgrow;have R:=xdz hf.o hown' hgrow;rw[<-Hnew.o]at R;have HR:=D R;clear hown' hgrow R;go_wp2_with fail;go_roundw
       case rel=>exact⟨x+1,by omega,by omega,by go_num,HR,by rw[Hnew.o,kK,HL.o];exact hlt⟩
       case measure=>simp[aG];omega
  ·obtain rfl:n=L:=by omega
   have Hpr:U (pl x=pr (n:Int)):=⟨xjd hx2 hx5 (by intro _;rw[HL.o];simp) (by intro h;rw[HL.o];omega)⟩;rw[Hpr.o]at hf HL;rcases xcs hf.o with ⟨rfl,hnil⟩ | ⟨g,cap,rfl,hg1,hg2,hcap,hcell⟩
   ·have h0:=HL.o;rw[hnil]at h0;simp at h0;omega
   ·rw[HL.o]at hf ⊢;clear hcell hcap;go_wp2_with fail;go_ret;exact⟨_,rfl,hf.o⟩
theorem xye(n:Int)(h1 : 100<n)(w:G):
 aD aO 21 #[O J n] w fun e w'=>∃ v,e=.returned v/\Holds w (pr n) v w':=by
 obtain⟨i0,hi,hz0,hz1,hz2⟩:=info_parts gL;have HI:=D (jA hi (jA hz0 (jA hz1 hz2)));clear hi hz0 hz1 hz2;have hst:=xfv w;rw[<-xec]at hst;have Hst:=D hst;clear hst;go_enter Tryz.func21,Tryz.ntmps21;go_wp2_with fail;go_loopw [3,4] (fun v i wr=>∃ x:Nat,2<=x/\x<=542/\i=O J x/\U (Holds w (pl x) v wr)/\(pl x).length<=100) (fun _ i _=>542-(aG i).toNat)
 case atStart=>exact⟨2,by decide,by decide,rfl,Hst,by rw[xec];exact iX _⟩
 case round=>
  obtain⟨x,hx2,hx5,rfl,hf,hle⟩:=hrel;clear Hst;obtain⟨L,HL⟩:=aQ (pl x).length;rw[HL.o]at hle;by_cases hlt:L<100
  ·have hx:x<542:=xjc hx5 (by rw[HL.o];omega);obtain⟨xs,Hxs⟩:=aQ (pl x);have Hpos:U (∀ p∈xs,2<=p/\p<=541):=⟨fun p hp=>xjb (x:=x) (by rw[Hxs.o];exact hp)⟩;rw[Hxs.o]at hf HL;have hL:=xf3 x;rw[Hxs.o,HL.o]at hL;have hsz:=xio hf.o;rcases xcs hf.o with ⟨rfl,rfl⟩ | ⟨g,cap,rfl,hg1,hg2,hcap,hcell⟩
   ·have Hnew:U (pl (x+1)=[] ++ [x]):=⟨by rw[xf4 hx2 hx (by rw[Hxs.o];rfl),Hxs.o]⟩;obtain rfl:L=0:=HL.o.symm;go_wp2_with fail;refine wp_loop_rounds 1 ?_;rw[rounds_succ];go_wp2_with (at_builtin;refine kH _ rfl _ _ 59 rfl w.heap.size 3 i0 (O J 0) 1 8 Tryz.underlying59 HI.o.1 HI.o.2.1 HI.o.2.2.1 HI.o.2.2.2 rfl (by decide) _ _ _ rfl (hf.o.1.alloc _) ⟨wr.heap.size,0,none⟩ 1 1 [O J (x:Int)] rfl rfl xbg (fun u hu=>by simp at hu;subst hu;rfl) (by simp[maxLen]) (by simp) (by simp;omega) ?_);intro v' w1 hown' hgrow _;have R:=xdz hf.o hown' hgrow;rw[<-Hnew.o]at R;have HR:=D R;clear hown' hgrow R;go_wp2_with fail;go_roundw
    case rel=>exact⟨x+1,by omega,by omega,by go_num,HR,by rw[Hnew.o];exact hlt⟩
    case measure=>simp[aG];omega
   ·rw[HL.o]at hcap hcell ⊢;have Hown:=D hf.o.1;rw[HL.o]at Hown;have HC:=D hcell;clear hcell;go_wp2_with fail;go_loop [5,17] (fun b i=>∃ (k:Nat) (c:Bool),k<=L/\i=O J k/\b=.bool c/\U (c = !(iG (xs.take k) x))) (fun _ i=>L-(aG i).toNat)
    case atStart=>exact⟨0,true,iX _,rfl,rfl,⟨rfl⟩⟩
    case round=>
     obtain⟨k,c,hk,rfl,rfl,Hc⟩:=hrel;by_cases hkl:k<L
     ·have hcell:=HC.o k hkl;have hb : 2<=xs.getD k 0/\xs.getD k 0<=541:=Hpos.o _ (by
       rw[iO,iT (by rw[HL.o];exact hkl)];exact kZ _)
      have Hs:=D (xjv (l:=xs) (k:=k) (by rw[HL.o];exact hkl));obtain⟨p,hpp⟩:=aP (xs.getD k 0);rw[hpp]at hcell hb Hs;clear hpp;cases c
      ·have Hn2:U (false = !(iG (xs.take (k+1)) x)):=⟨by
        have h:=Hc.o;rw[Hs.o,xeq];revert h
        cases iG (xs.take k) x<;>simp⟩
       go_wp2_with fail;go_round
       case rel=>exact⟨k+1,false,by omega,by go_num,rfl,Hn2⟩
       case measure=>simp[aG];omega
      ·by_cases hm:x%p=0
       ·have b1:((x:Int)%(p:Int) != 0)=false:=bne_eq_false_iff_eq.2 (by exact_mod_cast hm);have Hn2:U (false = !(iG (xs.take (k+1)) x)):=⟨by rw[Hs.o,xeq,hm];simp⟩;clear hm;go_wp2_with fail;go_round
        case rel=>exact⟨k+1,false,by omega,by go_num,rfl,Hn2⟩
        case measure=>simp[aG];omega
       ·have b1:((x:Int)%(p:Int) != 0)=true:=bne_iff_ne.2 (by exact_mod_cast hm);have Hn2:U (true = !(iG (xs.take (k+1)) x)):=⟨by
         have h:=Hc.o;rw[Hs.o,xeq,beq_false_of_ne hm,Bool.or_false];exact h⟩
        clear hm;go_wp2_with fail;go_round
        case rel=>exact⟨k+1,true,by omega,by go_num,rfl,Hn2⟩
        case measure=>simp[aG];omega
     ·obtain rfl:k=L:=by omega
      have Hd:U (c = !(iG xs x)):=⟨by rw[Hc.o,lG (by rw[HL.o];exact iM _)]⟩;cases c
      ·have Hnew:U (pl (x+1)=xs):=⟨by rw[xja hx2 hx (by rw[Hxs.o];have:=Hd.o;revert this;cases iG xs x<;>simp),Hxs.o]⟩;rw[HL.o]at hf;have R:=hf.o;rw[<-Hnew.o]at R;have HR:=D R;clear R;go_wp2_with fail;go_roundw
       case rel=>exact⟨x+1,by omega,by omega,by go_num,HR,by rw[Hnew.o,HL.o];exact hle⟩
       case measure=>simp[aG];omega
      ·have Hnew:U (pl (x+1)=xs ++ [x]):=⟨by rw[xf4 hx2 hx (by rw[Hxs.o];have:=Hd.o;revert this;cases iG xs x<;>simp),Hxs.o]⟩;go_wp2_with (at_builtin;refine kH _ rfl _ _ 59 rfl w.heap.size 3 i0 (O J 0) 1 8 Tryz.underlying59 HI.o.1 HI.o.2.1 HI.o.2.2.1 HI.o.2.2.2 rfl (by decide) _ _ _ rfl (Hown.o.alloc _) ⟨wr.heap.size,0,none⟩ 1 1 [O J (x:Int)] rfl rfl xbg (fun u hu=>by simp at hu;subst hu;rfl) (by unfold maxLen;omega) (by omega) (by simp;omega) ?_);intro v' w1 hown' hgrow _;rw[<-HL.o]at hown' hgrow;have R:=xdz hf.o hown' hgrow;rw[<-Hnew.o]at R;have HR:=D R;clear hown' hgrow R;go_wp2_with fail;go_roundw
       case rel=>exact⟨x+1,by omega,by omega,by go_num,HR,by rw[Hnew.o,kK,HL.o];exact hlt⟩
       case measure=>simp[aG];omega
  ·obtain rfl:L=100:=by omega
   have Hpr:U (pl x=pr n):=⟨xjd hx2 hx5 (by intro _;rw[HL.o];omega) (by intro h;rw[HL.o])⟩;rw[Hpr.o]at hf HL;rcases xcs hf.o with ⟨rfl,hnil⟩ | ⟨g,cap,rfl,hg1,hg2,hcap,hcell⟩
   ·have h0:=HL.o;rw[hnil]at h0;simp at h0
   ·rw[HL.o]at hf ⊢;clear hcell hcap;go_wp2_with fail;go_ret;exact⟨_,rfl,hf.o⟩
theorem xyd(n:Int)(w:G)(h:n<=0):
 aD aO 21 #[O J n] w fun e w'=>∃ v,e=.returned v/\Holds w (pr n) v w':=by
 have hp:pr n=[]:=by unfold pr;rw[show n.toNat=0 by omega];rfl
 have hst:=xfv w;rw[<-hp]at hst;have Hst:=D hst;clear hst hp;go_enter Tryz.func21,Tryz.ntmps21;go_wp2_with fail;refine wp_loop_rounds 1 ?_;rw[rounds_succ];go_wp2_with fail;go_ret;exact⟨_,rfl,Hst.o⟩
theorem xyb(n:Int)(w:G):
 aD aO 21 #[O J n] w fun e w'=>∃ v,e=.returned v/\Holds w (pr n) v w':=by
 by_cases h:n<=0
 ·exact xyd n w h
 by_cases h1 : 100<n
 ·exact xye n h1 w
 obtain⟨m,rfl⟩:=kR (show 0<=n by omega);exact xyc m (by omega) (by omega) w
end primes
namespace power
open Go.RowKit
open tabm
theorem xya(x n:Nat)(w:G)(hx:x<=9223372036854775807)(hn:n<=9223372036854775807):
 aD aO 25 #[O J x,O J n] w fun e w'=>e=.returned (O J (pw x n))/\w=w':=by
 have hst:=xqp x n;go_enter Tryz.func25,Tryz.ntmps25;go_wp2
 go_loop [1,5,0] (fun n' r s=>Keeps x n n' r s) (fun n' _ _=>(aG n').toNat)
 case atStart=>exact⟨n,1,x%8380417,hn,by decide,kB _ (by decide),rfl,rfl,by first | rfl | exact lD (Value.int J) (by norm_cast),hst⟩
 case round=>
  obtain⟨m,R,S,hm,hR,hS,rfl,rfl,rfl,hk⟩:=hrel;have hRS:=xe0 R S hR hS;have hSS:=xe0 S S hS hS;by_cases h0:m=0
  ·subst h0;go_wp2
   go_ret;exact⟨xcm (lD Nat.cast (xqm x n R S hk hR)),rfl⟩
  ·by_cases h1:m%2=1
   ·have ho:=xqo x n R S m hk h1;have hb:(bits .and J (m:Int) 1==1)=true:=by rw[xds m hm];exact lL.2 (by omega)
    clear h1 hk hst;go_wp2
    go_round
    case rel=>exact⟨m / 2,R*S%8380417,S*S%8380417,by omega,kB _ (by decide),kB _ (by decide),xh8 m,xfj R S,xfj S S,ho⟩
    case measure=>simp[aG];omega
   ·have ho:=xqn x n R S m hk (by omega);have hb:(bits .and J (m:Int) 1==1)=false:=by rw[xds m hm];exact jV.2 (by omega)
    clear h1 hk hst;go_wp2
    go_round
    case rel=>exact⟨m / 2,R,S*S%8380417,by omega,hR,kB _ (by decide),xh8 m,rfl,xfj S S,ho⟩
    case measure=>simp[aG];omega
end power
namespace rounds
open Go.RowKit
open fB arr
open power (xds)
theorem xyf(w:G):
 aD aO 23 #[] w (zB w (I (LK .u64 (rl 168)))):=by
 go_enter Tryz.func23,Tryz.ntmps23;go_wp2_with fail;obtain⟨Z,HZ⟩:=aQ (#[O .u64 0,O .u64 0,O .u64 0,O .u64 0,O .u64 0,O .u64 0,O .u64 0,O .u64 0,O .u64 0,O .u64 0,O .u64 0,O .u64 0,O .u64 0,O .u64 0,O .u64 0,O .u64 0,O .u64 0,O .u64 0,O .u64 0,O .u64 0,O .u64 0,O .u64 0,O .u64 0,O .u64 0]:Array aE);rw[HZ.o];have HZ2:U (Z=LK .u64 (rl 0)):=⟨HZ.o.symm⟩;clear HZ;go_loopw [2,5] (fun r i wr=>∃ (k n R:Nat) (ds:List Nat),k<=24/\i=O J k/\r=O J R/\U (lf (7*k)=R)/\U (rl (7*k)=ds)/\wr=((w.alloc (Y Z 30)).alloc (Y (LK .u64 ds) 30)).drewN n) (fun _ i _=>24-(aG i).toNat)
 case atStart=>exact⟨0,0,1,rl 0,by decide,rfl,rfl,⟨rfl⟩,⟨rfl⟩,by rw[<-HZ2.o];rfl⟩
 case round=>
  obtain⟨k,n,R,ds,hk,rfl,rfl,Hr,Hds,rfl⟩:=hrel;by_cases hlt:k<24
  ·go_wp2_with fail;go_loopw [2,8] (fun r i wr=>∃ (m n R:Nat) (ds:List Nat),m<=7/\i=O J m/\r=O J R/\U (lf (7*k+m)=R)/\U (rl (7*k+m)=ds)/\wr=((w.alloc (Y Z 30)).alloc (Y (LK .u64 ds) 30)).drewN n) (fun _ i _=>7-(aG i).toNat)
   case atStart=>exact⟨0,n,R,ds,by decide,rfl,rfl,Hr,Hds,rfl⟩
   case round=>
    clear Hr Hds;obtain⟨m,n,R,ds,hm,rfl,rfl,Hr,Hds,rfl⟩:=hrel;by_cases hlm:m<7
    ·have hR:=lf_le (7*k+m);have hd:=xqy (7*k+m) k;have hlen:=xc7 (7*k+m);have ho:=xqz (i:=k) hlm;have he:=xqx (t:=7*k+m);have hov:=xo1 (t:=7*k+m);have hin:=lf_in (t:=7*k+m);rw[Hr.o]at hR ho he hov hin;rw[Hds.o]at hd hlen ho he;have hxor:=xsl R hR;have hget:=gC .u64 ds k (by rw[hlen];exact hlt);obtain⟨d,hdd⟩:=aP (ds.getD k 0);rw[hdd]at hd hget ho;have HO:=D ho;have HE:=D he;have HV:=D hov;have HN:=D hin;have Hlen:=D hlen;clear ho he hov hin hdd hlen;have hset:=xc2 .u64 ds k (d ||| 2 ^ (2 ^ m-1)) _ (xp2 d m hd hlm);by_cases h1:R%2=1
     ·have hb:(bits .and J (R:Int) 1==1)=true:=by rw[xds R (by omega)];exact lL.2 (by omega)
      have Hn:=D (HO.o h1);clear h1;by_cases h2 : 255<R*2
      ·have Hv:=D (HV.o h2);have hov:(bits .and J ((R:Int)*2) 256 != 0)=true:=by rw[xh5 R hR];exact jP h2
       iterate 2 (go_wp2_with fail)
       go_roundw
       case rel=>exact⟨m+1,n,_,_,by omega,by go_num,rfl,Hv,Hn,rfl⟩
       case measure=>simp[aG];omega
      ·have Hv:=D (HN.o h2);have hov:(bits .and J ((R:Int)*2) 256 != 0)=false:=by rw[xh5 R hR];exact jN h2
       iterate 2 (go_wp2_with fail)
       go_roundw
       case rel=>exact⟨m+1,n,_,_,by omega,by go_num,xbw (by omega),Hv,Hn,rfl⟩
       case measure=>simp[aG];omega
     ·have hb:(bits .and J (R:Int) 1==1)=false:=by rw[xds R (by omega)];exact jV.2 (by omega)
      have Hn:=D (HE.o h1);clear h1;by_cases h2 : 255<R*2
      ·have Hv:=D (HV.o h2);have hov:(bits .and J ((R:Int)*2) 256 != 0)=true:=by rw[xh5 R hR];exact jP h2
       go_wp2_with fail;go_roundw
       case rel=>exact⟨m+1,n,_,_,by omega,by go_num,rfl,Hv,Hn,rfl⟩
       case measure=>simp[aG];omega
      ·have Hv:=D (HN.o h2);have hov:(bits .and J ((R:Int)*2) 256 != 0)=false:=by rw[xh5 R hR];exact jN h2
       go_wp2_with fail;go_roundw
       case rel=>exact⟨m+1,n,_,_,by omega,by go_num,xbw (by omega),Hv,Hn,rfl⟩
       case measure=>simp[aG];omega
    ·obtain rfl:m=7:=by omega
     have Hr2:U (lf (7*(k+1))=R):=⟨Hr.o⟩;have Hd2:U (rl (7*(k+1))=ds):=⟨Hds.o⟩;go_wp2_with fail;go_roundw
     case rel=>exact⟨k+1,n,R,ds,by omega,by go_num,rfl,Hr2,Hd2,rfl⟩
     case measure=>simp[aG];omega
  ·obtain rfl:k=24:=by omega
   have Hd2:U (ds=rl 168):=⟨Hds.o.symm⟩;have hsz:(LK .u64 ds).size=24:=by rw[fE,Hd2.o,xc7]
   have hzs:Z.size=24:=by rw[HZ2.o,fE,xc7]
   obtain⟨W,hW⟩:=aP (((w.alloc (Y Z 30)).alloc (Y (LK .u64 ds) 30)).drewN n);have hb:zb w W:=by rw[<-hW];exact oN (((iR _ _).alloc (iM _) _).alloc (by simp) _) n
   have g1:W.heap[w.heap.size+1]? = some (Y (LK .u64 ds) 30 (0,0)):=by rw[<-hW,xdy,cM _ _ _ (by simp)]
   have g0:W.heap[w.heap.size]? = some (Y Z 30 (0,0)):=by rw[<-hW,xdy,fF _ _ _ (by simp),cM _ _ _ rfl]
   rw[hW];have Hsz:=D hsz;have Hzs:=D hzs;clear hW hsz hzs;go_wp2_with (first | (refine iL rfl 30 _ rfl _ rfl 30 _ (0,0) _ g1 Tryz.underlying30 rfl (by rw[Hsz.o];exact fR) ?_) | (refine iS rfl 30 _ _ rfl _ _ rfl rfl 30 _ g0 (by rw[Hsz.o];exact fR) (by rw[Hsz.o];exact Hzs.o) (gV _ _) ?_));refine iV (v:=I (LK .u64 ds)) (jC rfl _ _ w.heap.size 30 _ (0,0) _ rfl (jD _ _ _ _ _ _ g0) Tryz.underlying30 rfl (by rw[Hsz.o];exact fR)) rfl ?_;exact⟨by rw[Hd2.o],hb.trans (below_setRow _ _ _ (iM _))⟩
end rounds
namespace turns
open Go.RowKit
open fB arr
theorem xyi(w:G):
 aD aO 24 #[] w (zB w (I (LK J (tl 24)))):=by
 go_enter Tryz.func24,Tryz.ntmps24;go_wp2_with fail;obtain⟨Z,HZ⟩:=aQ (#[O J 0,O J 0,O J 0,O J 0,O J 0,O J 0,O J 0,O J 0,O J 0,O J 0,O J 0,O J 0,O J 0,O J 0,O J 0,O J 0,O J 0,O J 0,O J 0,O J 0,O J 0,O J 0,O J 0,O J 0,O J 0]:Array aE);rw[HZ.o];have HZ2:U (Z=LK J (tl 0)):=⟨HZ.o.symm⟩;clear HZ;go_loopw [2,3,5] (fun x y i wr=>∃ (k X Yq:Nat),k<=24/\i=O J k/\x=O J X/\y=O J Yq/\U (xy k=(X,Yq))/\wr=(w.alloc (Y Z 31)).alloc (Y (LK J (tl k)) 31)) (fun _ _ i _=>24-(aG i).toNat)
 case atStart=>exact⟨0,1,0,by decide,rfl,rfl,rfl,⟨rfl⟩,by rw[<-HZ2.o]⟩
 case round=>
  obtain⟨k,X,Yq,hk,rfl,rfl,rfl,Hxy,rfl⟩:=hrel;by_cases hlt:k<24
  ·have hb:=xy_lt k;rw[Hxy.o]at hb;have hX:X<5:=hb.1;have hY:Yq<5:=hb.2;have hm:=xe0 k hlt;have e1:((X:Int)+5*(Yq:Int)).toNat=X+5*Yq:=by omega
   have hget:=gC J (tl k) (X+5*Yq) (by rw[xc9];omega);have hset:=xc2 J (tl k) (X+5*Yq) ((k+1)*(k+2) / 2%64) _ (xpo k);rw[show (tl k).set (X+5*Yq) ((k+1)*(k+2) / 2%64)=tl (k+1) by rw[tl,Hxy.o]]at hset;have Hn:U (xy (k+1)=(Yq,(2*X+3*Yq)%5)):=⟨by rw[xy,Hxy.o]⟩;clear hb;go_wp2_with fail;go_roundw
   case rel=>exact⟨k+1,Yq,(2*X+3*Yq)%5,by omega,by go_num,rfl,xbw (by omega),Hn,rfl⟩
   case measure=>simp[aG];omega
  ·obtain rfl:k=24:=by omega
   have hsz:(LK J (tl 24)).size=25:=by rw[fE,xc9]
   have hzs:Z.size=25:=by rw[HZ2.o,fE,xc9]
   obtain⟨W,hW⟩:=aP ((w.alloc (Y Z 31)).alloc (Y (LK J (tl 24)) 31));have hb:zb w W:=by rw[<-hW];exact((iR _ _).alloc (iM _) _).alloc (by simp) _
   have g1:W.heap[w.heap.size+1]? = some (Y (LK J (tl 24)) 31 (0,0)):=by rw[<-hW,cM _ _ _ (by simp)]
   have g0:W.heap[w.heap.size]? = some (Y Z 31 (0,0)):=by rw[<-hW,fF _ _ _ (by simp),cM _ _ _ rfl]
   rw[hW];clear hW;have Hsz:=D hsz;have Hzs:=D hzs;clear hsz hzs;go_wp2_with (first | (refine iL rfl 31 _ rfl _ rfl 31 _ (0,0) _ g1 Tryz.underlying31 rfl (by rw[Hsz.o];exact iF) ?_) | (refine iS rfl 31 _ _ rfl _ _ rfl rfl 31 _ g0 (by rw[Hsz.o];exact iF) (by rw[Hsz.o];exact Hzs.o) (gV _ _) ?_));refine iV (v:=I (LK J (tl 24))) (jC rfl _ _ w.heap.size 31 _ (0,0) _ rfl (jD _ _ _ _ _ _ g0) Tryz.underlying31 rfl (by rw[Hsz.o];exact iF)) rfl ?_;exact⟨rfl,hb.trans (below_setRow _ _ _ (iM _))⟩
end turns
namespace zetas
open Go.RowKit
open tabm fB arr
theorem xvv:∀ n:Nat,n<256->∀ k:Nat,k<8->bits .or J ((rvTo n k:Nat):Int) (wrap64 (bits .and J ((n:Int) / 2 ^ k) 1*2 ^ (7-k)))=((rvTo n (k+1):Nat):Int):=by decide +kernel
theorem xvw(n:Nat)(w:G)(h:n<256):
 aD aO 26 #[O J n] w fun e w'=>e=.returned (O J (rv n:Nat))/\w=w':=by
 go_enter Tryz.func26,Tryz.ntmps26;go_wp2_with fail;go_loop [3,5] (fun r i=>∃ (k R:Nat),k<=8/\i=O J k/\r=O J R/\U (rvTo n k=R)) (fun _ i=>8-(aG i).toNat)
 case atStart=>exact⟨0,0,by decide,rfl,rfl,⟨rfl⟩⟩
 case round=>
  obtain⟨k,R,hk,rfl,rfl,Hr⟩:=hrel;by_cases hlt:k<8
  ·have ht:=xvv n h k hlt;rw[Hr.o]at ht;have Hn:U (rvTo n (k+1)=rvTo n (k+1)):=⟨rfl⟩;go_wp2_with fail;go_round
   case rel=>exact⟨k+1,rvTo n (k+1),by omega,by go_num,rfl,Hn⟩
   case measure=>simp[aG];omega
  ·obtain rfl:k=8:=by omega
   go_wp2_with fail;go_ret;exact⟨xcm (lD Nat.cast Hr.o.symm),rfl⟩
end zetas
namespace rmake
open Go.RowKit
open tabm tabd primm fB arr tabv built primes
open make (Pc xi8 xmg xmh)
open root (hI)
theorem xv1{w:G}{Z:Array aE}(hZ:Z.size=465):Ms 34 w (w.heap.size+1) (fun _=>False) ((w.alloc (Y Z 34)).alloc (Y Z 34)):=by
 have hg:=cM (w.alloc (Y Z 34)) (Y Z 34) (w.heap.size+1) (by simp);have hc:∀ i,i<465->((w.alloc (Y Z 34)).alloc (Y Z 34)).cell? ⟨w.heap.size+1,i,none⟩=Z[i]? := fun i _=>cell_of_row _ _ i Z _ (0,0) hg
 exact⟨⟨Z,hZ,by rw[fF _ _ _ (by simp),cM _ _ _ rfl]⟩,fun i hi=>⟨⟨Z[i],by rw[hc i hi,kC (by omega)]⟩,frozen_of_row _ _ i Z _ hg⟩,fun i hi hS=>hS.elim,⟨by omega,by simp⟩,((iR _ _).alloc (iM _) _).alloc (by simp) _⟩
theorem xpm{T:aH}{w wr:G}{g:Nat}{S:Nat->Prop}(h:Ms T w g S wr)(o n:Nat)(ho:o+n<=465):wr.there g o n:=fun j hj=>by
 obtain⟨⟨v,hv⟩,hf⟩:=h.th (o+j) (by omega);exact⟨by rw[hv];rfl,hf⟩
theorem rv_all:∀ j (hj:j<(LK .u64 (rl 168)).toList.length),(LK .u64 (rl 168)).toList[j]=tv (160+j):=by
 intro j hj;have hj2:j<24:=by rw[jM,fE,xc7]at hj;exact hj
 rw[xo2,xm5 j hj2]
theorem uv_all:∀ j (hj:j<(LK J (tl 24)).toList.length),(LK J (tl 24)).toList[j]=tv (184+j):=by
 intro j hj;have hj2:j<25:=by rw[jM,fE,xc9]at hj;exact hj
 rw[xo2,xm6 j hj2]
def Q1(k i:Nat):Prop:=(72<=i/\i<72+k)\/(i<64/\i<k)\/(152<=i/\i<160/\i<152+k)\/(64<=i/\i<72/\i<64+k)
def Q2(k i:Nat):Prop:=i<209+k
theorem xln(w:G):
 aD aO 7 #[] w (zB w (I TA)):=by
 obtain⟨hz,hsize⟩:=iY dI;obtain⟨Z,HZ⟩:=aQ TZ;rw[HZ.o]at hz;have HZs:U (Z.size=465):=⟨by rw[<-HZ.o];exact xcc⟩;have Hsize:=D hsize;clear hsize;obtain⟨R,HR⟩:=aQ (LK .u64 (rl 168));obtain⟨Uq,HU⟩:=aQ (LK J (tl 24));have Rs:U (R.size=24):=⟨by rw[<-HR.o,fE,xc7]⟩;have Us:U (Uq.size=25):=⟨by rw[<-HU.o,fE,xc9]⟩;have Ro:U (R.all (·.oneCell')=true):=⟨by rw[<-HR.o];exact gV _ _⟩;have Uo:U (Uq.all (·.oneCell')=true):=⟨by rw[<-HU.o];exact gV _ _⟩;have Rv:U (∀ j (hj:j<R.toList.length),R.toList[j]=tv (160+j)):=⟨by rw[<-HR.o];exact rv_all⟩;have Uv:U (∀ j (hj:j<Uq.toList.length),Uq.toList[j]=tv (184+j)):=⟨by rw[<-HU.o];exact uv_all⟩;have hms:=xv1 (w:=w) HZs.o;have Hms:=D hms;clear hms;go_enter Tryz.func7,Tryz.ntmps7;go_wp2_with fail;clear hz;refine(xyb 80 _).mono ?_;rintro e w5 ⟨v,rfl,hh⟩;obtain⟨gp,cap,rfl,hpc,hcap⟩:=xi8 (n:=80) (g:=w.heap.size+1) (by decide) (by decide) hh (by simp);have Hms5:U (Ms 34 w (w.heap.size+1) (Q1 0) w5):=⟨(Hms.o.call hh.2).mono (by unfold Q1;omega)⟩;have Hpc:=D hpc;obtain⟨g,Hg⟩:=aQ (w.heap.size+1);rw[Hg.o]at Hms5 Hpc ⊢;clear hh hpc Hms;go_wp2_with fail;go_loopw [7] (fun i wr=>∃ k:Nat,k<=80/\i=O J k/\U (Ms 34 w g (Q1 k) wr)/\U (Pc gp 80 g wr)) (fun i _=>80-(aG i).toNat)
 case atStart=>exact⟨0,by decide,rfl,Hms5,Hpc⟩
 case round=>
  obtain⟨k,hk,rfl,Hm,Hp⟩:=hrel;clear Hms5 Hpc;by_cases hlt:k<80
  ·skip
   have hpk:=Hp.o.cs k hlt;have Hr:=D (xmh k);have Hr2:=D (xmg k);have V72:=D (xm4 k hlt);have V0:=D (xr9 k);have V152:=D (xr8 k);have V64:=D (xsa k);have hra:=r3_lt k;have hrb:=r2_lt k;obtain⟨q,hq⟩:=aP (ph.getD k 0);rw[hq]at hpk Hr Hr2;obtain⟨a,ha⟩:=aP (r3 k);obtain⟨b,hb⟩:=aP (r2 k);rw[ha]at Hr V72 V0 hra;rw[hb]at Hr2 V152 V64 hrb;clear hq ha hb;go_wp2_with fail;refine(rroot.xhf q 3 _).mono ?_;rintro e w6 ⟨rfl,hb6⟩;rw[Hr.o];have Hm6:=D (Hm.o.call hb6);have Hp6:=D ((Hp.o.call hb6).set (72+k) (O .u64 (a:Int)));obtain⟨⟨old,hold⟩,hfz⟩:=Hm6.o.th (72+k) (by omega);have Hs1:=D (Hm6.o.set (72+k) (by omega) V72.o.symm);have hn1:=nQ w6 ⟨g,72+k,none⟩ (O .u64 (a:Int)) hold;clear hb6 hpk hlt;by_cases h64:k<64
   ·obtain⟨⟨old2,hold2⟩,hfz2⟩:=Hm6.o.th k (by omega);have hn2:(w6.setCell ⟨g,72+k,none⟩ (O .u64 (a:Int))).cell? ⟨g,k,none⟩=some old2:=by
     rw[mZ _ _ _ _ (by intro e2;injection e2;omega)];exact hold2
    have Hs2:=D (Hs1.o.set k (by omega) (v:=O .u32 ((a:Int) / 4294967296)) (by rw[V0.o h64];exact xbw (by omega)));have Hp7:=D (Hp6.o.set k (O .u32 ((a:Int) / 4294967296)));by_cases h8:k<8
    ·go_wp2_with fail;refine(rroot.xhf q 2 _).mono ?_;rintro e w7 ⟨rfl,hb7⟩;rw[Hr2.o];have Hm7:=D (Hs2.o.call hb7);have Hp8:=D (((Hp7.o.call hb7).set (152+k) (O .u64 (b:Int))).set (64+k) (O .u32 ((b:Int) / 4294967296)));clear hold hfz hn1 hold2 hfz2 hn2 hb7;obtain⟨⟨old3,hold3⟩,hfz3⟩:=Hm7.o.th (152+k) (by omega);obtain⟨⟨old4,hold4⟩,hfz4⟩:=Hm7.o.th (64+k) (by omega);have hn3:=nQ w7 ⟨g,152+k,none⟩ (O .u64 (b:Int)) hold3;have hn4:(w7.setCell ⟨g,152+k,none⟩ (O .u64 (b:Int))).cell? ⟨g,64+k,none⟩=some old4:=by
      rw[mZ _ _ _ _ (by intro e2;injection e2;omega)];exact hold4
     have Hs4:=D ((Hm7.o.set (152+k) (by omega) (V152.o h8).symm).set (64+k) (by omega) (v:=O .u32 ((b:Int) / 4294967296)) (by rw[V64.o h8];exact xbw (by omega)));go_wp2_with fail;go_roundw
     case rel=>exact⟨k+1,by omega,by go_num,⟨Hs4.o.mono (by unfold Q1;omega)⟩,Hp8⟩
     case measure=>simp[aG];omega
    ·go_wp2_with fail;go_roundw
     case rel=>exact⟨k+1,by omega,by go_num,⟨Hs2.o.mono (by unfold Q1;omega)⟩,Hp7⟩
     case measure=>simp[aG];omega
   ·have h8:¬ k<8:=by omega
    go_wp2_with fail;go_roundw
    case rel=>exact⟨k+1,by omega,by go_num,⟨Hs1.o.mono (by unfold Q1;omega)⟩,Hp6⟩
    case measure=>simp[aG];omega
  ·obtain rfl:k=80:=by omega
   have Hm2:=Hm;clear Hm Hp;go_wp2_with fail;refine(rounds.xyf _).mono ?_;rintro e w6 ⟨rfl,hb6⟩;rw[HR.o];have Hm6:=D (Hm2.o.call hb6);have Hs6:=D (Hm6.o.sets 160 R.toList (by rw[jM,Rs.o];decide) Rv.o);have ht6:=xpm Hm6.o 160 24 (by decide);clear hb6 Hm2;go_wp2_with (refine wpList_store_mid rfl 30 _ _ rfl g 160 R rfl rfl (by rw[Rs.o];exact ht6) (by rw[Rs.o];exact rounds.fR) Ro.o ?_);refine(turns.xyi _).mono ?_;rintro e w7 ⟨rfl,hb7⟩;rw[HU.o];have Hm7:=D (Hs6.o.call hb7);have Hs7:=D (Hm7.o.sets 184 Uq.toList (by rw[jM,Us.o];decide) Uv.o);have ht7:=xpm Hm7.o 184 25 (by decide);rw[show Uq.toList.length=25 by rw[jM,Us.o],show R.toList.length=24 by rw[jM,Rs.o]]at Hs7;clear hb7 Hm6 ht6;go_wp2_with (refine wpList_store_mid rfl 31 _ _ rfl g 184 Uq rfl rfl (by rw[Us.o];exact ht7) (by rw[Us.o];exact turns.iF) Uo.o ?_);have Hm8:U (Ms 34 w g (Q2 0) (w7.setCells g 184 Uq.toList)):=⟨Hs7.o.mono (by unfold Q1 Q2;omega)⟩;clear Hm7 Hs6 Hs7 ht7;go_loopw [49] (fun i wr=>∃ k:Nat,k<=256/\i=O J k/\U (Ms 34 w g (Q2 k) wr)) (fun i _=>256-(aG i).toNat)
   case atStart=>exact⟨0,by decide,rfl,Hm8⟩
   case round=>
    clear Hm8;obtain⟨k,hk,rfl,Hm⟩:=hrel;by_cases hlt:k<256
    ·have hrl:=rv_lt k hlt;have hzt:U (pw 1753 (rv k)=zt k):=⟨rfl⟩;have hvz:U (tv (209+k)=O J ((zt k:Nat):Int)):=⟨by rw[xm7 k hlt,xsm 256 k hlt (by decide)]⟩;obtain⟨⟨old,hold⟩,hfz⟩:=Hm.o.th (209+k) (by omega);have Hs:=D (Hm.o.set (209+k) (by omega) hvz.o.symm);obtain⟨r,Hr⟩:=aQ (rv k);rw[Hr.o]at hrl hzt;go_wp2_with fail;refine(zetas.xvw k _ hlt).mono ?_;rintro e w9 ⟨rfl,rfl⟩;rw[Hr.o];go_wp2_with fail;refine(power.xya 1753 r _ (by decide) (by omega)).mono ?_;rintro e w9 ⟨rfl,rfl⟩;rw[hzt.o];go_wp2_with fail;go_roundw
     case rel=>exact⟨k+1,by omega,by go_num,⟨Hs.o.mono (by unfold Q2;omega)⟩⟩
     case measure=>simp[aG];omega
    ·obtain rfl:k=256:=by omega
     have hall:∀ i,i<465->Q2 256 i:=by unfold Q2;omega
     have hrg:=Hm.o.range hall;obtain⟨Z0,hZ0,hz0⟩:=Hm.o.z;have HZ0:=D hZ0;have Hb:=D Hm.o.be;obtain⟨T,HT⟩:=aQ TA;have Hts:U (T.size=465):=⟨by rw[<-HT.o];exact xdn⟩;have Hto:U (T.all (·.oneCell')=true):=⟨by rw[<-HT.o];exact xgd⟩;rw[HT.o]at hrg;clear hall Hm hZ0;go_wp2_with (first | (refine mE rfl 34 _ rfl g 0 rfl T.toList _ hrg zY rfl (by rw[jM,Hts.o];exact Hsize.o) ?_) | (refine iS rfl 34 _ _ rfl _ T rfl (by simp[go_sem]) 34 _ hz0 (by rw[Hts.o];exact Hsize.o) (by rw[Hts.o];exact HZ0.o) Hto.o ?_));refine iV (v:=I T) (jC rfl _ _ w.heap.size 34 _ (0,0) _ rfl (jD _ _ _ _ _ _ hz0) zY rfl (by rw[Hts.o];exact Hsize.o)) rfl ?_;exact⟨by rw[HT.o],Hb.o.trans (below_setRow _ _ _ (iM _))⟩
end rmake
namespace lpolg
open arr mem bD aT aV bS
theorem xb2{P:aI}{ops:Array Oper}{C:G->Prop}{Q:Act->Prop}{rest:List Oper}{o:Oper}{a:Act}(hw:aL o (yielded ops a.tmps)=true)(ty:aH)(x:Operand)(ho:o.op=.load ty x)
 (b n:Nat) (hx:a.eval x=aC (some ⟨b,n,none⟩)) (cs:List aE) (d:TypeDesc) (hS:∀ w,C w->w.rangeAt b n cs)
 (hu:P.underlying ty=some d) (hd:d.isRow=true) (hi:(P.info? ty).map (·.size)=some cs.length)
 (h:wpQuiet P ops C Q rest (a.put o.dst (I cs.toArray))):wpQuiet P ops C Q (o :: rest) a:=by
 refine wpQuiet_step fun K hK=>?_
 rw[iP hw];refine⟨I cs.toArray,fun w hC=>?_,hK _ h⟩;unfold Oper.quietAt execOp;simp only[ho,hx,Instr.loadAt,Instr.sureAddr,lQ,mR,kQ,run_loadVar_mid w b n ty cs d (hS w hC) hu hd hi];exact⟨rfl,rfl⟩
theorem xv5(w:G):aD aO 15 #[aB none 0 0,aB none 0 0] w (zB w (.bool true)):=by
 go_enter Tryz.func15,Tryz.ntmps15;go_wp2_with fail;go_loopw [13] (fun v wr=>v=O J 0/\w=wr) (fun _ _=>0)
 case atStart=>exact⟨rfl,rfl⟩
 case round=>
  obtain⟨rfl,rfl⟩:=hrel;go_wp2_with fail;go_ret;exact⟨rfl,iR _ _⟩
theorem xa3{w w':G}{g o:Nat}{L:List aE}(h:w.rangeAt g o L)(hg:g<w.heap.size)(hC:∃ p:Regrown,w'=Sort.grow (redrawn w p.d) p.os):w'.rangeAt g o L:=by
 obtain⟨pp,rfl⟩:=hC;exact fun j v hv=>((jX w pp.d pp.os).cell (p:=⟨g,o+j,none⟩) hg).trans (h j v hv)
theorem xym(v1 v2:aE)(m B1 B2:Nat)(p:Nat->Nat->Int)(w:G)(hm:m<=1000)(H1:Holds w B1 v1 m p)(H2:Holds w B2 v2 m p):
 aD aO 15 #[v1,v2] w (zB w (.bool true)):=by
 obtain⟨g1,c1,rfl,-,hg1,hc1⟩:=H1;obtain⟨g2,c2,rfl,-,hg2,hc2⟩:=H2;obtain⟨hz,hsize⟩:=iY aX;have Hsize:=D hsize;have HC1:=D hc1;have HC2:=D hc2;clear hc1 hc2 hz hsize;go_enter Tryz.func15,Tryz.ntmps15;go_wp2_with fail;go_loopw [13] (fun v wr=>∃ j:Nat,j<=m/\v=O J (j:Int)/\U (zb w wr)) (fun v _=>m-(aG v).toNat)
 case atStart=>exact⟨0,iX _,rfl,⟨iR _ _⟩⟩
 case round=>
  obtain⟨j,hj,rfl,BE⟩:=hrel;by_cases hlt:j<m
  ·have hjz:(j:Int)<(m:Int):=by omega
   have R1:U (wr.rangeAt g1 (256*j) (FL J 256 (p j)).toList):=⟨Holds.range fun k hk=>(BE.o.cell (p:=⟨g1,256*j+k,none⟩) hg1).trans (HC1.o j hlt k hk)⟩;have R2:U (wr.rangeAt g2 (256*j) (FL J 256 (p j)).toList):=⟨Holds.range fun k hk=>(BE.o.cell (p:=⟨g2,256*j+k,none⟩) hg2).trans (HC2.o j hlt k hk)⟩;have heq:=fun w1=>xue (p j) (p j) w1
   rw[(same_iff 256 _ _).2 fun _ _=>rfl]at heq;have Fi:U ((aO.info? 76).map (·.size)=some (FL J 256 (p j)).toList.length):=⟨by rw[jM,cC];exact Hsize.o⟩;obtain⟨F,HF⟩:=aQ (FL J 256 (p j));rw[HF.o]at R1 R2 heq Fi;obtain⟨o,ho⟩:=aP (256*j);rw[ho]at R1 R2;have fo:j*256=o:=by omega
   have hjlt:j<m:=hlt;clear HF ho;have L1:g1<wr.heap.size:=iZ hg1 BE.o.size;have L2:g2<wr.heap.size:=iZ hg2 BE.o.size;have HL:=D (jA L1 L2);clear L1 L2;go_wp2_with fail;refine mA (by kernel_rfl) (by kernel_rfl) ?_;iterate 3 (quiet_step (skip))
   refine xb2 rfl 76 _ rfl g1 o rfl F.toList _ (fun w' hC=>xa3 R1.o HL.o.1 hC) zX rfl Fi.o ?_;iterate 3 (quiet_step (skip))
   refine xb2 rfl 76 _ rfl g2 o rfl F.toList _ (fun w' hC=>xa3 R2.o HL.o.2 hC) zX rfl Fi.o ?_;quiet_step (skip);refine kY ?_;intro w7 hC;have B7:U (zb w w7):=⟨BE.o.trans (by obtain⟨pp,rfl⟩:=hC;exact(jX _ _ _).mono BE.o.size)⟩;clear hC;go_wp2_with fail;go_roundw
   case rel=>exact⟨j+1,by omega,by go_num,B7⟩
   case measure=>simp[aG];omega
  ·obtain rfl:j=m:=by omega
   have hjz:¬ (j:Int)<(j:Int):=by omega
   go_wp2_with fail;go_ret;exact⟨rfl,BE.o⟩
end lpolg
end Go.Proofs.YtomphjajkkddkaaGreatDoor
