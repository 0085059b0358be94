/-
  What mlkey's lists, size and Sizes return. Conditions: as each theorem says. What mlkey's encode ret
-/
import Derived.Test.YtomphjajkkddkaaGreatDoorZs09
import Derived.Test.YtomphjajkkddkaaGreatDoorZs12
import Derived.Test.YtomphjajkkddkaaGreatDoorZs04
import Derived.Test.YtomphjajkkddkaaGreatDoorZs14
import Derived.Test.YtomphjajkkddkaaGreatDoorZs10
import Derived.Test.YtomphjajkkddkaaGreatDoorZs15
import Derived.Test.YtomphjajkkddkaaGreatDoorZs03
import Derived.Test.YtomphjajkkddkaaGreatDoorZs02
import Derived.Test.YtomphjajkkddkaaGreatDoorZs01
import Derived.Test.YtomphjajkkddkaaGreatDoorZs05
import Derived.OwnWalk
import Derived.WalkMore
import Derived.Lib.QuietBelow
import Derived.Lib.MinMax
import Derived.StillTailTactics
set_option maxRecDepth 100000
set_option maxHeartbeats 16000000
set_option linter.unusedSimpArgs false
set_option linter.unusedVariables false
open Go Go.RowKit
open Go renaming World->G,Calls->aD,Value->aE,TypeId->aH
open Go.RowKit renaming Below->aF,intOf->aG
open Go.Act renaming put->aM
open Go.Instr renaming index->aN
open Go.Value renaming int->O,agg->I,string->E,tuple->aA,slice->aB,pointer->aC
open Go.IntKind renaming i64->J
open Go.Obj renaming cells->Y
open Go.Proofs.Tryz renaming prog->aO
namespace Go.Proofs.YtomphjajkkddkaaGreatDoor
namespace ksz
open arr mem bD aT aV aW bF bZ rset fA
def lst(k l e:Int):Array aE:=#[O J l,O J e,O J e,O J k,O J e,O J e,O J k,O J 4095,O J 4096]
def mn(k l:Int)(r:Nat):Int:=if r=0 then l else k
def lw(e:Int)(r:Nat):Int:=if r=2 then 4095 else e
def hg(e:Int)(r:Nat):Int:=if r=2 then 4096 else e
theorem xit(e:Int)(r:Nat)(he:e=2\/e=4) : 4<=lw e r+hg e r/\lw e r+hg e r<=8191:=by
 unfold lw hg;by_cases h:r=2
 ·rw[iP h,iP h];omega
 ·rw[iQ h,iQ h];omega
theorem infoLs:(aO.info? 102).map (fun i=>(i.zero,i.size))=some (some (I #[O J 0,O J 0,O J 0,O J 0,O J 0,O J 0,O J 0,O J 0,O J 0]),9):=by kernel_rfl
theorem xlc(k l e:Int)(r:Nat)(hr:r<3)(w:G):(aN 102 (I (lst k l e)) (O J (r:Int))).run aO w=.ok (I #[O J (mn k l r),O J (lw e r),O J (hg e r)]) w:=by
 rcases (show r=0\/r=1\/r=2 by omega) with rfl | rfl | rfl<;>kernel_rfl
theorem xtm(x y z:Int):aO.built 101 [(0,O J x),(1,O J y),(2,O J z)]=some #[O J x,O J y,O J z]:=by kernel_rfl
theorem xto(k l e:Int):aO.built 102 [(0,I #[O J l,O J e,O J e]),(1,I #[O J k,O J e,O J e]),(2,I #[O J k,O J 4095,O J 4096])]=some (lst k l e):=by kernel_rfl
theorem yad{ops:Array Oper}{rest:List Oper}{o:Oper}{a:Act}{w:G}{Q:Exit->Act->G->Prop}(hg:o.guard=none)
 (H:∃ (x y z:Operand) (i j k:Int),o.op=.build 101 [(0,x),(1,y),(2,z)].toArray/\a.eval x=O J i/\a.eval y=O J j/\a.eval z=O J k/\wpList aO ops Q rest (a.put o.dst (I #[O J i,O J j,O J k])) w):wpList aO ops Q (o :: rest) a w:=by
 obtain⟨x,y,z,i,j,k,ho,hx,hy,hz,h⟩:=H;refine xda hg 101 _ ho _ ?_ h;simp only[lT,List.map_nil,hx,hy,hz];exact xtm i j k
theorem yae{ops:Array Oper}{rest:List Oper}{o:Oper}{a:Act}{w:G}{Q:Exit->Act->G->Prop}(k l e:Int)(V:Array aE)(hV:lst k l e=V)(hg:o.guard=none)
 (H:∃ (x y z:Operand),o.op=.build 102 [(0,x),(1,y),(2,z)].toArray/\a.eval x=I #[O J l,O J e,O J e]/\a.eval y=I #[O J k,O J e,O J e]/\a.eval z=I #[O J k,O J 4095,O J 4096]/\wpList aO ops Q rest (a.put o.dst (I V)) w):wpList aO ops Q (o :: rest) a w:=by
 obtain⟨x,y,z,ho,hx,hy,hz,h⟩:=H;refine xda hg 102 _ ho _ ?_ h;simp only[lT,List.map_nil,hx,hy,hz,<-hV];exact xto k l e
theorem xlj(k l e t a b o s:Int)(w:G):
 aD aO 69 #[I (bO k l e t a b o s)] w (zB w (I (lst k l e))):=by
 obtain⟨hz,hsize⟩:=iY infoLs;obtain⟨z,HZ⟩:=aQ (#[O J 0,O J 0,O J 0,O J 0,O J 0,O J 0,O J 0,O J 0,O J 0]:Array aE);rw[HZ.o]at hz;have Zs:U (z.size=9):=⟨by rw[<-HZ.o];rfl⟩;obtain⟨V,HV⟩:=aQ (lst k l e);have Vi:U ((aO.info? 102).map (·.size)=some V.size):=⟨by rw[<-HV.o];exact hsize⟩;have Vz:U (z.size=V.size):=⟨by rw[Zs.o,<-HV.o];rfl⟩;have Vo:U (V.all (·.oneCell')=true):=⟨by rw[<-HV.o];simp[lst,Value.oneCell']⟩;rw[HV.o];obtain⟨C,HC⟩:=aQ ((bO k l e t a b o s):Array aE);rw[HC.o];obtain⟨W,hW⟩:=aP ((w.alloc (Y C 37)).alloc (Y z 102));obtain⟨r0,r1,hWs,b0⟩:=two hW;have c0:W.cell? ⟨w.heap.size,0,none⟩=some (O J k):=aZ r0 (by rw[<-HC.o];rfl);have c1:W.cell? ⟨w.heap.size,1,none⟩=some (O J l):=aZ r0 (by rw[<-HC.o];rfl);have c2:W.cell? ⟨w.heap.size,2,none⟩=some (O J e):=aZ r0 (by rw[<-HC.o];rfl);have Hres:U (W.heap[w.heap.size+1]? = some (Y z 102 (0,0))):=⟨r1⟩;have HB:=D b0;have HW:=D hW;clear hsize hW r0 r1 hWs b0;go_enter Tryz.func69,Tryz.ntmps69;go_wp2_with (first
  | (rw[HW.o])
  | (refine yad rfl ⟨_,_,_,_,_,_,rfl,rfl,rfl,rfl,?_⟩)
  | (refine yae k l e V HV.o rfl ⟨_,_,_,rfl,rfl,rfl,rfl,?_⟩)
  | (refine iS rfl 102 _ _ rfl (w.heap.size+1) V rfl rfl 102 _ Hres.o Vi.o Vz.o Vo.o ?_))
 refine iV (v:=I V) (jC rfl _ _ (w.heap.size+1) 102 _ (0,0) _ rfl (jD _ _ _ _ _ _ Hres.o) Tryz.underlying102 rfl Vi.o) rfl ?_;exact⟨rfl,HB.o.trans (below_setRow _ _ _ (by omega))⟩
theorem xb9(most:Int)(n:Nat)(hm:most<9223372036854775808)(hn:lb most.toNat=n)(h64:n<=1000)(w:G):
 aD aO 70 #[O J most] w (zE w (O J (32*(n:Int)))):=by
 have HL:U (∀ w1:G,aD aO 127 #[O J most] w1 (zE w1 (O J (n:Int)))):=⟨fun w1=>by rw[<-hn];exact plong.xc3 most hm w1⟩;have f1:J.wrap (256*(n:Int))=256*(n:Int):=bB;have f2:(256*(n:Int)).tdiv 8=32*(n:Int):=by rw[iU (by omega)];omega
 have f3:J.wrap (32*(n:Int))=32*(n:Int):=bB;clear hn;go_enter Tryz.func70,Tryz.ntmps70;go_wp2_with fail;refine(HL.o _).mono ?_;rintro e w1 ⟨rfl,hw⟩;rw[hw];clear hw w1;go_wp2_with fail;go_ret;exact⟨rfl,rfl⟩
theorem xdl(k l e t a b o s:Int)(w:G):
 aD aO 20 #[I (bO k l e t a b o s)] w (zB w (szs k l e t a b o s)):=by
 have HR0:=fun w1=>eF.xbo k l e t a b o s w1
 have HL0:=fun w1=>xlj k l e t a b o s w1
 obtain⟨V,HV⟩:=aQ (szs k l e t a b o s);rw[HV.o];obtain⟨C,HC⟩:=aQ ((bO k l e t a b o s):Array aE);rw[HC.o]at HR0 HL0 ⊢;have HCs:U ((aO.info? 37).map (·.size)=some C.size):=⟨by rw[<-HC.o];kernel_rfl⟩;obtain⟨W,hW⟩:=aP (w.alloc (Y C 37));obtain⟨r0,hWs,b0⟩:=one hW;have CB:=gW r0;have BW:=D b0;have HW:=D hW;clear hW r0 b0 hWs;by_cases h:bP k l e t a b o s=true
 rotate_left
 ·have h:bP k l e t a b o s=false:=by simpa using h
  have hVe:U (V=.tuple #[O J 0,O J 0,O J 0]):=⟨by rw[<-HV.o];unfold szs;rw[h];rfl⟩;rw[h]at HR0;have HR:=D HR0;clear HR0 h HL0;go_enter Tryz.func20,Tryz.ntmps20;go_wp2_with (first
   | (rw[HW.o])
   | (refine iL rfl 37 _ rfl w.heap.size rfl 37 _ (0,0) _ (CB.o _ (iR _ _)) zZ rfl HCs.o ?_))
  refine(HR.o _).mono ?_;rintro x u1 ⟨rfl,hb1⟩;have B1:=bK BW hb1;clear hb1;go_wp2_with fail;go_ret3
  exact⟨by rw[hVe.o];rfl,B1.o⟩
 rw[h]at HR0;have HR:=D HR0;obtain⟨⟨k1,k8⟩,⟨l1,l8⟩,he,ha,⟨o1,o8⟩,hs⟩:=xbe h;obtain⟨Eq,hE⟩:∃ Eq:Nat,lb (2*e).toNat=Eq:=⟨_,rfl⟩;obtain⟨A,hA⟩:∃ A:Nat,lb (a-1).toNat=A:=⟨_,rfl⟩;have hE3:Eq=3\/Eq=4:=by rcases he with rfl | rfl<;>(rw[<-hE];decide +kernel)
 have hA3:A=17\/A=19:=by rcases ha with rfl | rfl<;>(rw[<-hA];decide +kernel)
 have hA4:lb (2*a-1).toNat=A+1:=by rcases ha with rfl | rfl<;>(rw[<-hA];decide +kernel)
 obtain⟨wd,hwd⟩:∃ wd:Nat->Nat,wd=fun r=>if r=2 then 13 else Eq:=⟨_,rfl⟩
 have hwl:∀ r,r<3->lb (lw e r+hg e r).toNat=wd r:=fun r hr=>by
  rw[hwd];rcases (show r=0\/r=1\/r=2 by omega) with rfl | rfl | rfl
  ·show lb (e+e).toNat=Eq;rw[(xg1 e he).1,hE]
  ·show lb (e+e).toNat=Eq;rw[(xg1 e he).1,hE]
  ·exact xg2
 have hwb:∀ r,wd r<=13:=fun r=>by rw[hwd];show (if r=2 then 13 else Eq)<=13;split<;>omega
 have HZ1:U (∀ (r:Nat) (w1:G),r<3->aD aO 70 #[O J (lw e r+hg e r)] w1 (zE w1 (O J (32*(wd r:Int))))):=⟨fun r w1 hr=>xb9 _ _ (by have:=xit e r he;omega) (hwl r hr) (by have:=hwb r;omega) w1⟩;have HZ2:U (∀ w1:G,aD aO 70 #[O J 1023] w1 (zE w1 (O J (32*((10:Nat):Int))))):=⟨fun w1=>xb9 1023 10 (by decide) xdf (by decide) w1⟩;have HZ3:U (∀ w1:G,aD aO 70 #[O J (2*a-1)] w1 (zE w1 (O J (32*((A+1:Nat):Int))))):=⟨fun w1=>xb9 _ _ (by omega) hA4 (by omega) w1⟩;obtain⟨S,hS⟩:∃ S:Nat->Int,S=fun r=>if r=0 then 128 else if r=1 then 128+l*(32*(Eq:Int)) else if r=2 then 128+l*(32*(Eq:Int))+k*(32*(Eq:Int)) else 128+l*(32*(Eq:Int))+k*(32*(Eq:Int))+k*416:=⟨_,rfl⟩
 have hSb:∀ r,r<=3->0<=S r/\S r<=100000:=fun r hr=>by
  rw[hS];have : 0<=l*(32*(Eq:Int))/\l*(32*(Eq:Int))<=1024:=by rcases hE3 with rfl | rfl<;>(constructor<;>omega)
  have : 0<=k*(32*(Eq:Int))/\k*(32*(Eq:Int))<=1024:=by rcases hE3 with rfl | rfl<;>(constructor<;>omega)
  show 0<=(if r=0 then (128:Int) else _)/\(if r=0 then (128:Int) else _)<=100000;split
  ·omega
  ·split
   ·omega
   ·split<;>omega
 have HS0:U (S 0=128):=⟨by rw[hS];rfl⟩;have HStep:U (∀ r,r<3->S r+mn k l r*(32*(wd r:Int))=S (r+1)):=⟨fun r hr=>by
  rw[hS,hwd];rcases (show r=0\/r=1\/r=2 by omega) with rfl | rfl | rfl<;>rfl⟩
 have hmb:∀ r,1<=mn k l r/\mn k l r<=8:=fun r=>by unfold mn;split<;>omega
 have hEl : 32*(Eq:Int)*(l+k)=l*(32*(Eq:Int))+k*(32*(Eq:Int)):=by rw[mQ,oQ _ l,oQ _ k]
 have HS3:U (S 3=sz2 k l e):=⟨by
  rw[hS];show 128+l*(32*(Eq:Int))+k*(32*(Eq:Int))+k*416=_;unfold sz2;rw[hE,hEl];omega⟩
 obtain⟨N,hN⟩:∃ N:Int,32*((A+1:Nat):Int)=N:=⟨_,rfl⟩;rw[hN]at HZ3;obtain⟨r,hr⟩:∃ r:Int,l*N=r:=⟨_,rfl⟩;obtain⟨d,hd⟩:∃ d:Int,s / 4=d:=⟨_,rfl⟩;have hrb : 0<=r/\r<=5120:=by rcases hA3 with rfl | rfl<;>(rw[<-hr,<-hN];omega)
 have f3:J.wrap (k*320)=320*k:=bB;have f4:J.wrap (32+320*k)=32+320*k:=bB;have g1:s.tdiv 4=d:=by rw[iU (by omega)];exact hd
 have g1':J.wrap (s.tdiv 4)=d:=by rw[g1,iN];omega
 have g1'':J.wrap d=d:=bB;have g2:J.wrap (2*a)=2*a:=bB;have g3:J.wrap (2*a-1)=2*a-1:=bB;have g5:J.wrap (l*N)=r:=by rw[hr,iN];omega
 have g6:J.wrap (d+r)=d+r:=bB;have g7:J.wrap (d+r+o)=d+r+o:=bB;have g8:J.wrap (d+r+o+k)=d+r+o+k:=bB;have hVe:U (V=.tuple #[O J (32+320*k),O J (S 3),O J (d+r+o+k)]):=⟨by
  rw[<-HV.o];unfold szs;rw[iP h,HS3.o];unfold gX sz3;rw[hA,hd,<-hr,<-hN,oQ l];rfl⟩
 have HIx:U (∀ (r:Nat),r<3->∀ w1:G,(aN 102 (I (lst k l e)) (O J (r:Int))).run aO w1=.ok (I #[O J (mn k l r),O J (lw e r),O J (hg e r)]) w1):=⟨fun r hr w1=>xlc k l e r hr w1⟩;have Hlo:U (∀ r,J.wrap (lw e r+hg e r)=lw e r+hg e r):=⟨fun r=>by have:=xit e r he;rw[iN];omega⟩;obtain⟨mf,hmf⟩:=aQ (mn k l);obtain⟨lf,hlf⟩:=aQ (lw e);obtain⟨gf,hgf⟩:=aQ (hg e);obtain⟨Ls,hLs⟩:=aQ (lst k l e);simp only[hmf.o,hlf.o,hgf.o,hLs.o]at HIx Hlo HZ1 HStep hmb HL0;have HSb:=D hSb;have Hmb:=D hmb;have Hwb:=D hwb;have HL:=D HL0;clear HR0 HL0 h he ha hs hE hA hE3 hA3 hA4 hN hr hd hrb k1 k8 l1 l8 o1 o8 hwl hwb hSb hmb hS hwd HS3 hEl hmf hlf hgf hLs;go_enter Tryz.func20,Tryz.ntmps20;go_wp2_with (first
  | (rw[HW.o])
  | (refine iL rfl 37 _ rfl w.heap.size rfl 37 _ (0,0) _ (CB.o _ (iR _ _)) zZ rfl HCs.o ?_))
 refine(HR.o _).mono ?_;rintro x u1 ⟨rfl,hb1⟩;have E1:U (zb W u1):=⟨hb1⟩;clear hb1;go_wp2_with (refine iL rfl 37 _ rfl w.heap.size rfl 37 _ (0,0) _ (CB.o _ E1.o) zZ rfl HCs.o ?_);refine(HL.o _).mono ?_;rintro x u2 ⟨rfl,hb2⟩;have E2:=bK E1 hb2;clear hb2;go_wp2_with fail;go_loopw [15,5] (fun iv sv wr=>∃ r:Nat,r<=3/\iv=O J (r:Int)/\sv=O J (S r)/\U (zb W wr)) (fun iv _ _=>3-(aG iv).toNat)
 case atStart=>exact⟨0,by decide,rfl,by rw[HS0.o],E2⟩
 case round=>
  obtain⟨i,hi,rfl,rfl,Hb⟩:=hrel;by_cases hlt:i<3
  ·have hiz:(i:Int)<3:=by omega
   have hix:=HIx.o i hlt;obtain⟨m,hm⟩:=aQ (mf i);obtain⟨lo,hlo⟩:=aQ (lf i);obtain⟨hi',hhi⟩:=aQ (gf i);have HSz:=D (fun w1=>HZ1.o i w1 hlt);have f1:=Hlo.o i;have hst:=HStep.o i hlt;have hb1:=HSb.o i hi;have hb2:=HSb.o (i+1) (by omega);have hb3:=Hmb.o i;have hb4:=Hwb.o i;rw[hm.o,hlo.o,hhi.o]at hix;rw[hlo.o,hhi.o]at f1 HSz;rw[hm.o]at hst hb3;obtain⟨n,hn⟩:=aP (32*(wd i:Int));obtain⟨p,hp⟩:=aP (m*n);rw[hn]at HSz hst;rw[hp]at hst;obtain⟨s0,hs0⟩:=aQ (S i);obtain⟨s1,hs1⟩:=aQ (S (i+1));rw[hs0.o]at hst hb1 ⊢;rw[hs1.o]at hst hb2;have f2:J.wrap (m*n)=p:=by rw[hp,iN];omega
   have f5:J.wrap (s0+p)=s1:=by rw[hst,iN];omega
   clear hst hb1 hb2 hb3 hb4 hp hn;obtain⟨W4,hW4⟩:=aP (wr.alloc (Y #[O J m,O J lo,O J hi'] 101));obtain⟨r4,hs4,b4⟩:=one hW4;have d0:W4.cell? ⟨wr.heap.size,0,none⟩=some (O J m):=aZ r4 rfl;have d1:W4.cell? ⟨wr.heap.size,1,none⟩=some (O J lo):=aZ r4 rfl;have d2:W4.cell? ⟨wr.heap.size,2,none⟩=some (O J hi'):=aZ r4 rfl;have B4:=bK Hb b4;have HW4:=D hW4;clear r4 hs4 b4 hW4;go_wp2_with (rw[HW4.o]);refine xav (by kernel_rfl) (by kernel_rfl) ?_;repeat still_step
   still_call (HSz.o _)
   repeat still_step
   refine jR ?_;clear d0 d1 d2;go_wp2_with fail;go_roundw
   case rel=>exact⟨i+1,by omega,by go_num,by rw[hs1.o],⟨B4.o.drew⟩⟩
   case measure=>simp[aG];omega
  ·obtain rfl:i=3:=by omega
   simp only[jE];obtain⟨s3,hs3⟩:=aQ (S 3);rw[hs3.o]at hVe ⊢;have hc:=CB.o wr Hb.o;have c0:wr.cell? ⟨w.heap.size,0,none⟩=some (O J k):=aZ hc (by rw[<-HC.o];rfl);have c1:wr.cell? ⟨w.heap.size,1,none⟩=some (O J l):=aZ hc (by rw[<-HC.o];rfl);have c4:wr.cell? ⟨w.heap.size,4,none⟩=some (O J a):=aZ hc (by rw[<-HC.o];rfl);have c6:wr.cell? ⟨w.heap.size,6,none⟩=some (O J o):=aZ hc (by rw[<-HC.o];rfl);have c7:wr.cell? ⟨w.heap.size,7,none⟩=some (O J s):=aZ hc (by rw[<-HC.o];rfl);clear hc;go_wp2_with fail;refine xav (by kernel_rfl) (by kernel_rfl) ?_;repeat still_step
   still_call (HZ2.o _)
   repeat still_step
   refine jR ?_;go_wp2_with fail;refine xav (by kernel_rfl) (by kernel_rfl) ?_;repeat still_step
   still_call (HZ3.o _)
   repeat still_step
   refine jR ?_;clear c0 c1 c4 c6 c7;go_wp2_with fail;go_ret3
   exact⟨by rw[hVe.o];rfl,BW.o.trans ((Hb.o.drew.drew).mono BW.o.size)⟩
end ksz
namespace ken
open arr mem bD aT aV bS aW aY bA bL bY cG dQ bF bQ eP eM bZ dJ dN mlkd
theorem xn8(f:Nat->Int)(w:G):
 aD aO 117 #[I (FL J 256 f)] w (zB w (if fK f 1023 then aA #[E (packed f 1023),O J 0] else aA #[E ⟨#[]⟩,O J 6])):=by
 obtain⟨hz,hsize⟩:=iY aV.aX;have HP:=fun w1=>ppack.xd7 f 1023 w1 (by decide) (by decide)
 obtain⟨V1,V2,HV⟩:∃ (V1:ByteArray) (V2:Int),U ((if fK f 1023 then aA #[E (packed f 1023),O J 0] else aA #[E ⟨#[]⟩,O J 6]:aE)=aA #[E V1,O J V2]):=by
  by_cases h:fK f 1023
  ·exact⟨_,_,⟨iP h⟩⟩
  ·exact⟨_,_,⟨iQ h⟩⟩
 rw[HV.o]at HP ⊢;obtain⟨F,HF⟩:=aQ (FL J 256 f);have Fi:=eE HF hsize;rw[HF.o]at HP ⊢;have HP:=D HP;obtain⟨W,hW⟩:=aP (w.alloc (Y F 76));obtain⟨r0,hWs,b0⟩:=one hW;have R0:=D r0;have B0:=D b0;have HW:=D hW;clear hz hsize hW r0 hWs b0 HV;go_enter Tryz.func117,Tryz.ntmps117;go_wp2_with (first
  | (rw[HW.o])
  | (refine iL rfl 76 _ rfl w.heap.size rfl 76 F (0,0) _ R0.o zX rfl Fi.o ?_))
 refine(HP.o _).mono ?_;rintro e w5 ⟨rfl,hb5⟩;have D5:=bK B0 hb5;clear hb5;go_wp2_with fail;go_ret2;exact⟨rfl,D5.o⟩
theorem xn9(f:Nat->Int)(gc:Nat)(low high:Int)(w:G)(h1 : 0<=low)(h2 : 1<=high)(h3:low<4190208)(h4:high<4190208)(hg:gc<w.heap.size)(hc1:w.cell? ⟨gc,1,none⟩=some (O J low))(hc2:w.cell? ⟨gc,2,none⟩=some (O J high)):
 aD aO 118 #[I (FL J 256 f),aC (some ⟨gc,0,none⟩)] w (zB w (if ins f low high then aA #[E (packed (sg f high) (low+high)),O J 0] else aA #[E ⟨#[]⟩,O J 6])):=by
 obtain⟨hz,hsize⟩:=iY aV.aX;have HP:=fun w1=>psig.xrm f low high w1 h1 h3 h2 h4
 obtain⟨V1,V2,HV⟩:∃ (V1:ByteArray) (V2:Int),U ((if ins f low high then aA #[E (packed (sg f high) (low+high)),O J 0] else aA #[E ⟨#[]⟩,O J 6]:aE)=aA #[E V1,O J V2]):=by
  by_cases h:ins f low high
  ·exact⟨_,_,⟨iP h⟩⟩
  ·exact⟨_,_,⟨iQ h⟩⟩
 rw[HV.o]at HP ⊢;obtain⟨F,HF⟩:=aQ (FL J 256 f);have Fi:=eE HF hsize;rw[HF.o]at HP ⊢;have HP:=D HP;obtain⟨W,hW⟩:=aP (w.alloc (Y F 76));obtain⟨r0,hWs,b0⟩:=one hW;have d1:W.cell? ⟨gc,1,none⟩=some (O J low):=(b0.cell (p:=⟨gc,1,none⟩) hg).trans hc1;have d2:W.cell? ⟨gc,2,none⟩=some (O J high):=(b0.cell (p:=⟨gc,2,none⟩) hg).trans hc2;have R0:=D r0;have B0:=D b0;have HW:=D hW;clear hz hsize hW r0 hWs b0 HV hc1 hc2 hg h1 h2 h3 h4;go_enter Tryz.func118,Tryz.ntmps118;go_wp2_with (first
  | (rw[HW.o])
  | (refine iL rfl 76 _ rfl w.heap.size rfl 76 F (0,0) _ R0.o zX rfl Fi.o ?_))
 refine(HP.o _).mono ?_;rintro e w5 ⟨rfl,hb5⟩;have D5:=bK B0 hb5;clear hb5;go_wp2_with fail;go_ret2;exact⟨rfl,D5.o⟩
theorem xub(s:ByteArray)(m:Nat)(v:aE)(B:Nat)(q:Nat->Nat->Int)(X:Nat->ByteArray)(ok:Nat->Prop)(V:aE)(w:G)(hm:m<=8)(hv:Holds w B v m q)(hs:s.size<=100000)(hX:∀ i,i<m->(X i).size<=1000)
 (hV1:(∀ i,i<m->ok i)->V=aA #[E (cJ s X m),O J 0]) (hV2:∀ i,i<m->¬ ok i->V=aA #[E ⟨#[]⟩,O J 6])
 (HC1:∀ i,i<m->ok i->∀ w1:G,zb w w1->aD aO 117 #[I (FL J 256 (q i))] w1 (zB w1 (aA #[E (X i),O J 0])))
 (HC2:∀ i,i<m->¬ ok i->∀ w1:G,zb w w1->aD aO 117 #[I (FL J 256 (q i))] w1 (zB w1 (aA #[E ⟨#[]⟩,O J 6]))):
 aD aO 116 #[E s,v,.func (.func 117) #[] #[]] w fun e w'=>e=.returned V/\zb w w':=by
 obtain⟨hz,hsize⟩:=iY aV.aX;have Hsize:=D hsize;obtain⟨g,c,hvs,-⟩:=gD hv;have Hv:=D hv;have HC1:=D HC1;have HC2:=D HC2;have HV1:=D hV1;have HV2:=D hV2;have HX:=D hX;have Hs:=D hs;have Hcs:U (∀ r,r<=m->(cJ s X r).size<=100000+1000*r):=⟨fun r hr=>by
  induction r with
  | zero=>show s.size<=_;omega
  | succ r ih=>
   have h1:=ih (by omega);have h2:=hX r (by omega);rw[cJ,jS];omega⟩
 subst hvs;clear hv hz hsize hV1 hV2 hX hs;go_enter Tryz.func116,Tryz.ntmps116;go_wp2_with fail;go_loopw [13,0] (fun iv sv wr=>∃ r:Nat,r<=m/\iv=O J (r:Int)/\sv=E (cJ s X r)/\U (∀ i,i<r->ok i)/\U (zb w wr)) (fun iv _ _=>m-(aG iv).toNat)
 case atStart=>exact⟨0,iX _,rfl,rfl,⟨fun i hi=>by omega⟩,⟨iR _ _⟩⟩
 case round=>
  obtain⟨r,hr,rfl,rfl,Hin,Hb⟩:=hrel;by_cases hlt:r<m
  ·have hrz2:(r:Int)<(m:Int):=by omega
   have hr8:r<8:=by omega
   have hrg:=xa8 (Hv.o.later Hb.o) r hlt;have HCa:=HC1.o r hlt;have HCb:=HC2.o r hlt;obtain⟨F,HF⟩:=aQ (FL J 256 (q r));obtain⟨o6,ho6⟩:=aP (r*256);rw[HF.o,ho6]at hrg;rw[HF.o]at HCa HCb;have Hrg:=D hrg;have Fi:=eE HF Hsize.o;obtain⟨S,HS⟩:=aQ (cJ s X r);have HSs:U (S.size<=108000):=⟨by rw[<-HS.o];have:=Hcs.o r hr;omega⟩;rw[HS.o];have Hlt:=D hlt;clear hrg;by_cases bR:ok r
   ·have HPk:=D (fun w1 hb=>HCa bR w1 hb);have Hcat:U (S++X r=cJ s X (r+1)):=⟨by rw[<-HS.o,cJ]⟩;have hxs:=HX.o r hlt;obtain⟨Yq,HY⟩:=aQ (X r);rw[HY.o]at HPk Hcat hxs;have hsz:¬ 9223372036854775807<S.size+Yq.size:=by have:=HSs.o;omega
    have Hin2:U (∀ i,i<r+1->ok i):=⟨fun i hi=>by
     by_cases e:i=r
     ·rw[e];exact bR
     ·exact Hin.o i (by omega)⟩
    clear bR HCa HCb hxs;go_wp2_with (first
     | ((with_reducible refine mE rfl 76 _ rfl g o6 ?hx F.toList _ Hrg.o zX rfl ?hi ?_);(case hx=>rfl);(case hi=>rw[jM];exact Fi.o)))
    refine(HPk.o _ Hb.o).mono ?_;rintro e w5 ⟨rfl,hb5⟩;have D5:=bK Hb hb5;clear hb5;go_wp2_with fail;go_roundw
    case rel=>exact⟨r+1,by have:=Hlt.o;omega,by go_num,by rw[Hcat.o],Hin2,D5⟩
    case measure=>have:=Hlt.o;simp[aG];omega
   ·have HPk:=D (fun w1 hb=>HCb bR w1 hb);have hVe:U (V=aA #[E ⟨#[]⟩,O J 6]):=⟨HV2.o r hlt bR⟩;clear bR HCa HCb;go_wp2_with (first
     | ((with_reducible refine mE rfl 76 _ rfl g o6 ?hx F.toList _ Hrg.o zX rfl ?hi ?_);(case hx=>rfl);(case hi=>rw[jM];exact Fi.o)))
    refine(HPk.o _ Hb.o).mono ?_;rintro e w5 ⟨rfl,hb5⟩;have D5:=bK Hb hb5;clear hb5;go_wp2_with fail;go_ret2;exact⟨by rw[hVe.o];rfl,D5.o⟩
  ·obtain rfl:r=m:=by omega
   have hVe:U (V=aA #[E (cJ s X r),O J 0]):=⟨HV1.o fun i hi=>Hin.o i hi⟩;obtain⟨S,HS⟩:=aQ (cJ s X r);rw[HS.o]at hVe ⊢;go_wp2_with fail;go_ret2;exact⟨by rw[hVe.o];rfl,Hb.o⟩
theorem xuc(gc:Nat)(s:ByteArray)(m:Nat)(v:aE)(B:Nat)(q:Nat->Nat->Int)(X:Nat->ByteArray)(ok:Nat->Prop)(V:aE)(w:G)(hm:m<=8)(hv:Holds w B v m q)(hs:s.size<=100000)(hX:∀ i,i<m->(X i).size<=1000)
 (hV1:(∀ i,i<m->ok i)->V=aA #[E (cJ s X m),O J 0]) (hV2:∀ i,i<m->¬ ok i->V=aA #[E ⟨#[]⟩,O J 6])
 (HC1:∀ i,i<m->ok i->∀ w1:G,zb w w1->aD aO 118 #[I (FL J 256 (q i)),aC (some ⟨gc,0,none⟩)] w1 (zB w1 (aA #[E (X i),O J 0])))
 (HC2:∀ i,i<m->¬ ok i->∀ w1:G,zb w w1->aD aO 118 #[I (FL J 256 (q i)),aC (some ⟨gc,0,none⟩)] w1 (zB w1 (aA #[E ⟨#[]⟩,O J 6]))):
 aD aO 116 #[E s,v,.func (.func 118) #[] #[aC (some ⟨gc,0,none⟩)]] w fun e w'=>e=.returned V/\zb w w':=by
 obtain⟨hz,hsize⟩:=iY aV.aX;have Hsize:=D hsize;obtain⟨g,c,hvs,-⟩:=gD hv;have Hv:=D hv;have HC1:=D HC1;have HC2:=D HC2;have HV1:=D hV1;have HV2:=D hV2;have HX:=D hX;have Hs:=D hs;have Hcs:U (∀ r,r<=m->(cJ s X r).size<=100000+1000*r):=⟨fun r hr=>by
  induction r with
  | zero=>show s.size<=_;omega
  | succ r ih=>
   have h1:=ih (by omega);have h2:=hX r (by omega);rw[cJ,jS];omega⟩
 subst hvs;clear hv hz hsize hV1 hV2 hX hs;go_enter Tryz.func116,Tryz.ntmps116;go_wp2_with fail;go_loopw [13,0] (fun iv sv wr=>∃ r:Nat,r<=m/\iv=O J (r:Int)/\sv=E (cJ s X r)/\U (∀ i,i<r->ok i)/\U (zb w wr)) (fun iv _ _=>m-(aG iv).toNat)
 case atStart=>exact⟨0,iX _,rfl,rfl,⟨fun i hi=>by omega⟩,⟨iR _ _⟩⟩
 case round=>
  obtain⟨r,hr,rfl,rfl,Hin,Hb⟩:=hrel;by_cases hlt:r<m
  ·have hrz2:(r:Int)<(m:Int):=by omega
   have hr8:r<8:=by omega
   have hrg:=xa8 (Hv.o.later Hb.o) r hlt;have HCa:=HC1.o r hlt;have HCb:=HC2.o r hlt;obtain⟨F,HF⟩:=aQ (FL J 256 (q r));obtain⟨o6,ho6⟩:=aP (r*256);rw[HF.o,ho6]at hrg;rw[HF.o]at HCa HCb;have Hrg:=D hrg;have Fi:=eE HF Hsize.o;obtain⟨S,HS⟩:=aQ (cJ s X r);have HSs:U (S.size<=108000):=⟨by rw[<-HS.o];have:=Hcs.o r hr;omega⟩;rw[HS.o];have Hlt:=D hlt;clear hrg;by_cases bR:ok r
   ·have HPk:=D (fun w1 hb=>HCa bR w1 hb);have Hcat:U (S++X r=cJ s X (r+1)):=⟨by rw[<-HS.o,cJ]⟩;have hxs:=HX.o r hlt;obtain⟨Yq,HY⟩:=aQ (X r);rw[HY.o]at HPk Hcat hxs;have hsz:¬ 9223372036854775807<S.size+Yq.size:=by have:=HSs.o;omega
    have Hin2:U (∀ i,i<r+1->ok i):=⟨fun i hi=>by
     by_cases e:i=r
     ·rw[e];exact bR
     ·exact Hin.o i (by omega)⟩
    clear bR HCa HCb hxs;go_wp2_with (first
     | ((with_reducible refine mE rfl 76 _ rfl g o6 ?hx F.toList _ Hrg.o zX rfl ?hi ?_);(case hx=>rfl);(case hi=>rw[jM];exact Fi.o)))
    refine(HPk.o _ Hb.o).mono ?_;rintro e w5 ⟨rfl,hb5⟩;have D5:=bK Hb hb5;clear hb5;go_wp2_with fail;go_roundw
    case rel=>exact⟨r+1,by have:=Hlt.o;omega,by go_num,by rw[Hcat.o],Hin2,D5⟩
    case measure=>have:=Hlt.o;simp[aG];omega
   ·have HPk:=D (fun w1 hb=>HCb bR w1 hb);have hVe:U (V=aA #[E ⟨#[]⟩,O J 6]):=⟨HV2.o r hlt bR⟩;clear bR HCa HCb;go_wp2_with (first
     | ((with_reducible refine mE rfl 76 _ rfl g o6 ?hx F.toList _ Hrg.o zX rfl ?hi ?_);(case hx=>rfl);(case hi=>rw[jM];exact Fi.o)))
    refine(HPk.o _ Hb.o).mono ?_;rintro e w5 ⟨rfl,hb5⟩;have D5:=bK Hb hb5;clear hb5;go_wp2_with fail;go_ret2;exact⟨by rw[hVe.o];rfl,D5.o⟩
  ·obtain rfl:r=m:=by omega
   have hVe:U (V=aA #[E (cJ s X r),O J 0]):=⟨HV1.o fun i hi=>Hin.o i hi⟩;obtain⟨S,HS⟩:=aQ (cJ s X r);rw[HS.o]at hVe ⊢;go_wp2_with fail;go_ret2;exact⟨by rw[hVe.o];rfl,Hb.o⟩
end ken
namespace kde
open arr mem bD aT aV bS aW aY bA bL bY cG dQ bF bQ eP eM bZ dJ dN mlkd
theorem xzz(s:ByteArray)(low high:Int)(w:G)(h1 : 0<=low)(h2 : 1<=high)(h3:low<4190208)(h4:high<4190208)(hs:s.size=32*lb (low+high).toNat):
 aD aO 108 #[E s,O J low,O J high] w (zB w (if fK (up s (lb (low+high).toNat)) (low+high) then aA #[I (FL J 256 (un (up s (lb (low+high).toNat)) high)),O J 0] else aA #[I (FL J 256 fun _=>0),O J 3])):=by
 have hu:=fun w1=>punp.xgh s (low+high) w1 (by omega) (by omega) hs
 by_cases hin:fK (up s (lb (low+high).toNat)) (low+high)
 ·simp only[iP hin]at hu ⊢;exact puns.xjy s low high w _ h1 h2 h3 h4 hin hu
 ·simp only[iQ hin]at hu ⊢;exact puns.xse s low high w 3 h1 h2 h3 h4 (by decide) hu
theorem xoa(x:ByteArray)(gc:Nat)(low high:Int)(w:G)(V:Array aE)(c:Int)(hVs:V.size=256)(hVo:V.all (·.oneCell')=true)(hg:gc<w.heap.size)(hc1:w.cell? ⟨gc,1,none⟩=some (O J low))(hc2:w.cell? ⟨gc,2,none⟩=some (O J high))
 (HP:∀ w1:G,aD aO 108 #[E x,O J low,O J high] w1 (zB w1 (aA #[I V,O J c]))):
 aD aO 162 #[E x,aC (some ⟨gc,0,none⟩)] w (zB w (aA #[I V,O J c])):=by
 obtain⟨hz,hsize⟩:=iY aV.aX;obtain⟨z,HZ⟩:=aQ (FL J 256 fun _=>0);rw[HZ.o]at hz;have Hzs:=dP HZ;have Vi:U ((aO.info? 76).map (·.size)=some V.size):=⟨by rw[hVs];exact hsize⟩;have Vz:U (z.size=V.size):=⟨by rw[Hzs.o,hVs]⟩;have Vo:=D hVo;have HP:=D HP;obtain⟨W,hW⟩:=aP (w.alloc (Y z 76));obtain⟨r0,hWs,b0⟩:=one hW;have d1:W.cell? ⟨gc,1,none⟩=some (O J low):=(b0.cell (p:=⟨gc,1,none⟩) hg).trans hc1;have d2:W.cell? ⟨gc,2,none⟩=some (O J high):=(b0.cell (p:=⟨gc,2,none⟩) hg).trans hc2;have R0:U (W.heap[w.heap.size]? = some (Y z 76 (0,0))):=⟨r0⟩;have B0:=D b0;have HW:=D hW;clear hsize hW r0 b0 hVs hVo HZ hc1 hc2 hWs hg;go_enter Tryz.func162,Tryz.ntmps162;go_wp2_with (rw[HW.o]);refine(HP.o _).mono ?_;rintro e w5 ⟨rfl,hb5⟩;have D5:=bK B0 hb5;have R5:U (w5.heap[w.heap.size]? = some (Y z 76 (0,0))):=⟨(hb5.block _ (bI R0.o)).trans R0.o⟩;clear hb5;go_wp2_with (refine iS rfl 76 _ _ rfl w.heap.size V rfl rfl 76 _ R5.o Vi.o Vz.o Vo.o ?_);refine iV (v:=aA #[I V,O J c]) (bL.results_cell_tmp rfl _ _ w.heap.size 76 _ (0,0) _ rfl (jD _ _ _ _ _ _ R5.o) zX rfl Vi.o _ rfl) rfl ?_;exact⟨rfl,D5.o.trans (below_setRow _ _ _ (iM _))⟩
theorem xt7(gc:Nat)(s:ByteArray)(m n:Nat)(q:Nat->Nat->Int)(ok:Nat->Prop)(w:G)(hm : 1<=m/\m<=8)(hn:n<=1000)(hs:s.size=m*n)
 (HC1:∀ i,i<m->ok i->∀ w1:G,zb w w1->aD aO 162 #[E (s.extract (i*n) ((i+1)*n)),aC (some ⟨gc,0,none⟩)] w1 (zB w1 (aA #[I (FL J 256 (q i)),O J 0])))
 (HC2:∀ i,i<m->¬ ok i->∀ w1:G,zb w w1->aD aO 162 #[E (s.extract (i*n) ((i+1)*n)),aC (some ⟨gc,0,none⟩)] w1 (zB w1 (aA #[I (FL J 256 fun _=>0),O J 3]))):
 aD aO 73 #[E s,O J (m:Int),.func (.func 162) #[] #[aC (some ⟨gc,0,none⟩)]] w fun x w'=>(((∀ i,i<m->ok i)/\∃ v,x=.returned (.tuple #[v,O J 0])/\Holds w' w.heap.size v m q)\/((¬ ∀ i,i<m->ok i)/\x=.returned (aA #[aB none 0 0,O J 3])))/\zb w w':=by
 obtain⟨i0,hi,hz0,hz1,hz2⟩:=aY.parts bX;obtain⟨hz,hsize⟩:=iY aV.aX;obtain⟨z,HZ⟩:=aQ (FL J 256 fun _=>0);rw[HZ.o]at hz hz0;have HI:=D (jA hi (jA hz0 (jA hz1 hz2)));have Hzs:=dP HZ;have Hsize:=D hsize;have hm1:=hm.1;have hm8:=hm.2;have hmz:((m:Int)==0)=false:=by simp;omega
 have hmz2:¬ (m:Int)=0:=by omega
 have hmn:m*n<=8000:=jJ (lA hm.2 hn) (by decide);have hdiv:(s.size:Int).tdiv (m:Int)=(n:Int):=by
  rw[hs,iU (by omega)];push_cast
  exact Int.mul_ediv_cancel_left _ hmz2
 have hde:(s.size:Int) / (m:Int)=(n:Int):=by
  rw[<-hdiv,iU (by omega)]
 have hdw:J.wrap ((s.size:Int) / (m:Int))=(n:Int):=by rw[hde,iN];omega
 have HC1:=D HC1;have HC2:=D HC2;have Hs:=D hs;have Hmn:=D hmn;have Hm:=D hm;have hn0 : 0<=(n:Int):=by omega
 clear hi hz0 hz1 hz2 hsize hs hmn hm hdiv hde;go_enter Tryz.func73,Tryz.ntmps73;go_wp2_with (at_make;refine lY _ rfl (.tmp 13) (.tmp 13) 44 rfl w.heap.size 76 i0 (I z) 256 Tryz.underlying44 HI.o.1 HI.o.2.1 HI.o.2.2.1 J J m m m rfl rfl rfl rfl (by rw[HI.o.2.2.2];omega) (by unfold maxLen;omega) (iM _) ?_);intro w5 hown hgr;obtain⟨hrow,hb5⟩:=xbn HZ.o hown hgr;obtain⟨g,hg⟩:=aP w.heap.size;rw[hg]at hrow ⊢;have A5:U (At g (RW m (fst q 0)) 76 w5 w5):=⟨by rw[xbl];exact At.refl hrow⟩;have B5:U (zb w w5):=⟨hb5⟩;have Hg:=D hg;clear hown hgr hrow hb5 hg;go_wp2_with fail;go_loopw [21] (fun v wr=>∃ r:Nat,r<=m/\v=O J (r:Int)/\U (∀ i,i<r->ok i)/\U (At g (RW m (fst q r)) 76 w5 wr)) (fun v _=>m-(aG v).toNat)
 case atStart=>exact⟨0,iX _,rfl,⟨fun i hi=>by omega⟩,A5⟩
 case round=>
  clear A5;obtain⟨r,hr,rfl,Hin,A0⟩:=hrel;have BU:U (zb w wr):=⟨B5.o.trans (A0.o.below B5.o.size (mS Hg.o))⟩;by_cases hlt:r<m
  ·have hrz:(r:Int)<(m:Int):=by omega
   have hr8:r<8:=by omega
   have hmul:(r+1)*n<=m*n:=mH n hlt;have hsplit:(r+1)*n=r*n+n:=nX r n;have HCa:=HC1.o r hlt;have HCb:=HC2.o r hlt;obtain⟨p,hp⟩:=aP (r*n);obtain⟨p2,hp2⟩:=aP ((r+1)*n);rw[hp,hp2]at HCa HCb;have hps:p2<=s.size:=by have:=Hs.o;omega
   have hpp:p<=p2:=by omega
   have hpz:p2<=8000:=by have:=Hmn.o;omega
   have f1:J.wrap ((r:Int)*(n:Int))=(p:Int):=by rw[show (r:Int)*(n:Int)=((r*n:Nat):Int) by push_cast;rfl,hp,iN];omega
   have f2:J.wrap (((r:Int)+1)*(n:Int))=(p2:Int):=by rw[show ((r:Int)+1)*(n:Int)=(((r+1)*n:Nat):Int) by push_cast;rfl,hp2,iN];omega
   obtain⟨X,HX⟩:=aQ (s.extract p p2);have hex:=HX.o;rw[HX.o]at HCa HCb;have Hlt:=D hlt;clear hmul hsplit hp hp2;by_cases bR:ok r
   ·have HCr:=D (HCa bR);have Hin2:U (∀ i,i<r+1->ok i):=⟨fun i hi=>by
     by_cases e:i=r
     ·rw[e];exact bR
     ·exact Hin.o i (by omega)⟩
    obtain⟨F,HF⟩:=aQ (FL J 256 (q r));rw[HF.o]at HCr;have Fs:=dP HF;have Fo:=eJ HF;have Fi:=zsz Fs Hsize.o;have Fz:U (z.size=F.size):=⟨by rw[Hzs.o,Fs.o]⟩;have Hup:U (ups (fst q r) r (q r)=fst q (r+1)):=⟨xbq q r⟩;obtain⟨o6,ho6⟩:=aP (r*256);have Ho6:=D ho6;clear bR HCa HCb;go_wp2_with fail;refine(HCr.o _ BU.o).mono ?_;rintro e w3 ⟨rfl,hb3⟩;obtain⟨W4,hW4⟩:=aP (w3.alloc (Y F 76));obtain⟨r4,hs4,b4⟩:=one hW4;have R4:=D r4;have A4:U (At g (RW m (fst q r)) 76 w5 W4):=⟨A0.o.later (hb3.trans (b4.mono hb3.size))⟩;have HW4:=D hW4;clear hb3 hW4 r4 hs4 b4;go_wp2_with (first
     | (refine fV rfl 76 _ _ rfl F rfl rfl Fi.o (by exact Fz.o) Fo.o rfl ?_)
     | (rw[HW4.o])
     | (refine iL rfl 76 _ rfl w3.heap.size rfl 76 F (0,0) _ R4.o zX rfl Fi.o ?_)
     | ((with_reducible refine xci A4 HF.o Hlt.o Ho6.o rfl _ _ rfl rfl ?hx ?hy ?_);(case hx=>exact rfl);(case hy=>exact rfl);intro w7 A7;rw[Hup.o]at A7))
    go_roundw
    case rel=>exact⟨r+1,by have:=Hlt.o;omega,by go_num,Hin2,A7⟩
    case measure=>have:=Hlt.o;simp[aG];omega
   ·have HCr:=D (HCb bR);rw[HZ.o]at HCr;have Zi:=zsz Hzs Hsize.o;have Zo:=eJ HZ;have Hno:U (¬ ∀ i,i<m->ok i):=⟨fun h=>bR (h r Hlt.o)⟩;clear bR HCa HCb;go_wp2_with fail;refine(HCr.o _ BU.o).mono ?_;rintro e w3 ⟨rfl,hb3⟩;obtain⟨W4,hW4⟩:=aP (w3.alloc (Y z 76));obtain⟨r4,hs4,b4⟩:=one hW4;have B4:U (zb w W4):=⟨BU.o.trans ((hb3.trans (b4.mono hb3.size)).mono BU.o.size)⟩;have HW4:=D hW4;clear hb3 hW4 r4 hs4 b4;go_wp2_with (first
     | (refine fV rfl 76 _ _ rfl z rfl rfl Zi.o rfl Zo.o rfl ?_)
     | (rw[HW4.o]))
    go_ret2;exact⟨kO ⟨Hno.o,rfl⟩,B4.o⟩
  ·obtain rfl:r=m:=by omega
   have HH:U (Holds wr w.heap.size (aB (some ⟨g,0,none⟩) r r) r q):=⟨xbp A0.o.row (mS Hg.o) (fun i hi=>xbk q r i hi)⟩;clear A0;go_wp2_with fail;go_ret2;exact⟨kW ⟨Hin.o,_,rfl,HH.o⟩,BU.o⟩
end kde
namespace krw
open arr mem bD aT aV bS aY cY bQ eM bZ dN dW
theorem xa5{w w':G}(hC:∃ p:Regrown,w'=Go.Sort.grow (redrawn w p.d) p.os):zb w w':=by
 obtain⟨pp,rfl⟩:=hC;exact jX _ _ _
theorem xhg(T:Array aE)(Z:Nat->Int)(R nv:Nat)(n:Nat->Nat)(x:Nat->Nat->Nat->Int)(y:Nat->Nat->Int)(v vv:aE)(B:Nat)(w:G)(hTs:T.size=465)(hT:cE.ZT T Z)(hR : 1<=R/\R<=8)(hn:∀ r,r<R->n r<=8)(hv : 1<=nv/\nv<=8)
 (HM:MX w v R n x) (HV:Holds w B vv nv y):
 aD aO 32 #[I T,v,vv] w fun e w'=>(∃ v',e=.returned v'/\Holds w' w.heap.size v' R (fun r=>cQ (fun k=>Z k%8380417) (x r) y (min (n r) nv)))/\zb w w':=by
 obtain⟨ζ,hζ⟩:=aQ (fun k=>Z k%8380417);have HTh:U (∀ (f:Nat->Int) (w1:G),aD aO 79 #[I T,I (FL J 256 f)] w1 (zB w1 (I (FL J 256 (aS ζ 8 f))))):=⟨fun f w1=>by rw[<-hζ.o];exact cE.xdp T Z f w1 hT⟩;have HBk:U (∀ (f:Nat->Int) (w1:G),aD aO 82 #[I T,I (FL J 256 f)] w1 (zB w1 (I (FL J 256 (fun i=>(bH ζ 8 f i*8347681)%8380417))))):=⟨fun f w1=>by rw[<-hζ.o];exact nback.xfg T Z f w1 hT⟩;have HTm:=D ntimes.xcp;have HAd:=D fadd.xdr;rw[hζ.o];have HTz:U ((aO.info? 34).map (·.size)=some T.size):=⟨by rw[hTs];kernel_rfl⟩;obtain⟨i0,hi,hz0,hz1,hz2⟩:=parts bX;obtain⟨hz,hsize⟩:=iY aV.aX;obtain⟨z,HZ⟩:=aQ (FL J 256 fun _=>0);rw[HZ.o]at hz hz0;have HI:=D (jA hi (jA hz0 (jA hz1 hz2)));have Hzs:=dP HZ;have Hsize:=D hsize;obtain⟨Gq,C,rfl,hG,hrows⟩:=HM;obtain⟨gv,cv,rfl,hgv⟩:=gD HV;have HRows:=D hrows;have HVv:=D HV;have HGv:=D (jA hG hgv);have Hn:=D hn;have Hv:=D hv;have hnv8:=hv.2;have hR8:=hR.2;obtain⟨th,hth⟩:=aQ (fun j=>aS ζ 8 (y j));have Hth:U (∀ j,aS ζ 8 (y j)=th j):=⟨fun j=>by rw[<-hth.o]⟩;obtain⟨res,hres⟩:=aQ (fun r=>cQ ζ (x r) y (min (n r) nv));have Hres:U (∀ r k,(bH ζ 8 (dK (x r) th (min (n r) nv)) k*8347681)%8380417=res r k):=⟨fun r k=>by rw[<-hres.o,<-hth.o];rfl⟩;rw[hres.o];obtain⟨W,hW⟩:=aP (w.alloc (Y T 34));obtain⟨r0,hWs,b0⟩:=one hW;have T0:U (W.heap[w.heap.size]? = some (Y T 34 (0,0))):=⟨r0⟩;have BW:=D b0;have HWs:=D hWs;have HW:=D hW;clear hW r0 b0 hWs hi hz0 hz1 hz2 hsize hrows HV hn hv hR hth hres hζ hG hgv hT hTs
 go_enter Tryz.func32,Tryz.ntmps32;go_wp2_with (first
  | (rw[HW.o])
  | (at_make;refine lY _ rfl (.tmp 15) (.tmp 15) 44 rfl W.heap.size 76 i0 (I z) 256 Tryz.underlying44 HI.o.1 HI.o.2.1 HI.o.2.2.1 J J nv nv nv rfl rfl rfl rfl (by rw[HI.o.2.2.2];omega) (by unfold maxLen;omega) (iM _) ?_))
 intro w3 hown hgr;obtain⟨hrow,hb3⟩:=xbn HZ.o hown hgr;obtain⟨gt,hgt⟩:=aP W.heap.size;rw[hgt]at hrow ⊢;have A3:U (At gt (RW nv (fst th 0)) 76 w3 w3):=⟨by rw[xbl];exact At.refl hrow⟩;have B3:U (zb W w3):=⟨hb3⟩;have Hgt:=D hgt;clear hown hgr hrow hb3 hgt;go_wp2_with fail;go_loopw [19] (fun iv wr=>∃ r:Nat,r<=nv/\iv=O J (r:Int)/\U (At gt (RW nv (fst th r)) 76 w3 wr)) (fun iv _=>nv-(aG iv).toNat)
 case atStart=>exact⟨0,iX _,rfl,A3⟩
 case round=>
  clear A3;obtain⟨r,hr,rfl,A0⟩:=hrel;have BU:U (zb W wr):=⟨B3.o.trans (A0.o.below B3.o.size (mS Hgt.o))⟩;have BE:=bK BW BU.o;by_cases hlt:r<nv
  ·have hrz:(r:Int)<(nv:Int):=by omega
   have hr8:r<8:=by omega
   have hrg:=xa8 (HVv.o.later BE.o) r hlt;obtain⟨F,HF⟩:=aQ (FL J 256 (y r));obtain⟨o6,ho6⟩:=aP (r*256);rw[HF.o,ho6]at hrg;have Hrg:U (∀ w':G,zb wr w'->w'.rangeAt gv o6 F.toList):=⟨fun w' hb'=>xa3 hrg (iZ HGv.o.2 BE.o.size) hb'⟩;have Fi:=zfi HF Hsize.o;have T1:U (wr.heap[w.heap.size]? = some (Y T 34 (0,0))):=⟨(BU.o.block _ (bI T0.o)).trans T0.o⟩;have HTr:U (∀ w1:G,aD aO 79 #[I T,I F] w1 (zB w1 (I (FL J 256 (th r))))):=⟨fun w1=>by rw[<-HF.o,<-Hth.o];exact HTh.o (y r) w1⟩;obtain⟨Eq,HE⟩:=aQ (FL J 256 (th r));rw[HE.o]at HTr;have Hup:U (ups (fst th r) r (th r)=fst th (r+1)):=⟨xbq th r⟩;have Hlt:=D hlt;have Ho6:=D ho6;clear hrg hlt HF;go_wp2_with fail;refine eQ.xb8 8 (by kernel_rfl) (by kernel_rfl) ?_;iterate 2 (quiet_step (skip))
   refine xa2 rfl 34 _ rfl _ rfl 34 _ _ (fun w' hC=>gM T1.o hC) zY rfl HTz.o ?_;iterate 3 (quiet_step (skip))
   refine xb2 rfl 76 _ rfl gv o6 rfl F.toList _ (fun w' hC=>Hrg.o w' (xa5 hC)) zX rfl Fi.o ?_;quiet_step (exact jI (HTr.o _));refine kY ?_;intro wn hC;have hbn:zb wr wn:=xa5 hC;have A6:U (At gt (RW nv (fst th r)) 76 w3 wn):=⟨A0.o.later hbn⟩;clear hC hbn A0 HTr Hrg T1;simp only[iW,jK];go_wp2_with ((with_reducible refine xci A6 HE.o Hlt.o Ho6.o rfl _ _ rfl rfl ?hx ?hy ?_);(case hx=>exact rfl);(case hy=>exact rfl);intro w7 A7;rw[Hup.o]at A7);go_roundw
   case rel=>exact⟨r+1,by have:=Hlt.o;omega,by go_num,A7⟩
   case measure=>have:=Hlt.o;simp[aG];omega
  ·obtain rfl:r=nv:=by omega
   rename G=>w2
   have HTt:U (Holds w2 0 (aB (some ⟨gt,0,none⟩) r r) r th):=⟨xbp A0.o.row (iX _) (fun i hi=>xbk th r i hi)⟩;have Hgl:U (gt<w2.heap.size):=⟨bI A0.o.row⟩;clear A0 hlt;go_wp2_with (at_make;refine lY _ rfl (.tmp 33) (.tmp 33) 44 rfl w2.heap.size 76 i0 (I z) 256 Tryz.underlying44 HI.o.1 HI.o.2.1 HI.o.2.2.1 J J R R R rfl rfl rfl rfl (by rw[HI.o.2.2.2];omega) (by unfold maxLen;omega) (iM _) ?_);intro w5 hown hgr;obtain⟨hrow,hb5⟩:=xbn HZ.o hown hgr;obtain⟨go,hgo⟩:=aP w2.heap.size;rw[hgo]at hrow ⊢;have A5:U (At go (RW R (fst res 0)) 76 w5 w5):=⟨by rw[xbl];exact At.refl hrow⟩;have B5:U (zb w2 w5):=⟨hb5⟩;have Hgo:=D hgo;clear hown hgr hrow hb5 hgo;go_wp2_with fail;go_loopw [37] (fun iv wr=>∃ i:Nat,i<=R/\iv=O J (i:Int)/\U (At go (RW R (fst res i)) 76 w5 wr)) (fun iv _=>R-(aG iv).toNat)
   case atStart=>exact⟨0,iX _,rfl,A5⟩
   case round=>
    clear A5;obtain⟨i,hi,rfl,Ao⟩:=hrel;rename G=>w3'
    have B2:U (zb w2 w3'):=⟨B5.o.trans (Ao.o.below B5.o.size (mS Hgo.o))⟩;have BX:=bK BE B2.o;by_cases hlt:i<R
    ·have hiz:(i:Int)<(R:Int):=by omega
     have hi8:i<8:=by omega
     obtain⟨g,c,hcell,hg,hpol⟩:=HRows.o i hlt;have hc0:w3'.cell? ⟨Gq,i,none⟩=some (aB (some ⟨g,0,none⟩) (n i) c):=(BX.o.cell (p:=⟨Gq,i,none⟩) HGv.o.1).trans hcell;have Hpol:=D hpol;have Hg:=D hg;have hN8:=Hn.o i hlt;obtain⟨N,hN⟩:=aP (n i);rw[hN]at hc0 Hpol hN8;obtain⟨M,hM⟩:=aP (min N r);have hMz:min (N:Int) (r:Int)=(M:Int):=by omega
     have hMz2:min (r:Int) (N:Int)=(M:Int):=by omega
     have hMN:M<=N:=by omega
     have hMr:M<=r:=by omega
     obtain⟨W4,hW4⟩:=aP (w3'.alloc (Y z 76));obtain⟨r4,hs4,b4⟩:=one hW4;have HW4:=D hW4;have A4:U (At w3'.heap.size (FL J 256 (dK (x i) th 0)) 76 W4 W4):=⟨by rw[dK,HZ.o];exact At.refl r4⟩;have D4:U (aF w3'.heap.size w3' W4):=⟨b4⟩;have Hlt:=D hlt;have HN:U (min (n i) r=M):=⟨by rw[hN];exact hM⟩;clear hcell hg hpol hW4 r4 hs4 b4 hlt hN hM;go_wp2_with (rw[HW4.o]);clear hc0 hMz hMz2;go_loopw [47] (fun jv wr=>∃ j:Nat,j<=M/\jv=O J (j:Int)/\U (At w3'.heap.size (FL J 256 (dK (x i) th j)) 76 W4 wr)) (fun jv _=>M-(aG jv).toNat)
     case atStart=>exact⟨0,iX _,rfl,A4⟩
     case round=>
      clear A4;obtain⟨j,hj,rfl,A5⟩:=hrel;have D5:U (aF w3'.heap.size w3' wr):=⟨D4.o.trans (A5.o.below D4.o.size (iM _))⟩;have B6:=bK BX D5.o;by_cases hjlt:j<M
      ·have hjz:(j:Int)<(M:Int):=by omega
       have hj8:j<8:=by omega
       have hjN:(j:Int)<(N:Int):=by omega
       have hjr:(j:Int)<(r:Int):=by omega
       have hrg:=xqt (m:=j) (fun k hk=>(B6.o.cell (p:=⟨g,256*j+k,none⟩) Hg.o).trans (Hpol.o j (by omega) k hk));have hrt:=xa3 (xa8 HTt.o j (by omega)) Hgl.o (B2.o.trans (D5.o.mono B2.o.size));obtain⟨F,HF⟩:=aQ (FL J 256 (x i j));obtain⟨Eq,HE⟩:=aQ (FL J 256 (th j));obtain⟨o6,ho6⟩:=aP (j*256);rw[HF.o,ho6]at hrg;rw[HE.o,ho6]at hrt;have Fi:=zfi HF Hsize.o;have Ei:=zfi HE Hsize.o;have Hrg:U (∀ w':G,zb wr w'->w'.rangeAt g o6 F.toList):=⟨fun w' hb'=>xa3 hrg (iZ Hg.o B6.o.size) hb'⟩;have Hrt:U (∀ w':G,zb wr w'->w'.rangeAt gt o6 Eq.toList):=⟨fun w' hb'=>xa3 hrt (iZ Hgl.o (jJ B2.o.size D5.o.size)) hb'⟩;have H1:U (∀ w1:G,aD aO 81 #[I F,I Eq] w1 (zB w1 (I (FL J 256 fun k=>(x i j k*th j k)%8380417)))):=⟨fun w1=>by rw[<-HF.o,<-HE.o];exact HTm.o (x i j) (th j) w1⟩;have H2:U (∀ w1:G,aD aO 80 #[I (FL J 256 (dK (x i) th j)),I (FL J 256 fun k=>(x i j k*th j k)%8380417)] w1 (zB w1 (I (FL J 256 (dK (x i) th (j+1)))))):=⟨fun w1=>HAd.o _ _ w1⟩;obtain⟨S,HS⟩:=aQ (FL J 256 (dK (x i) th j));obtain⟨P,HP⟩:=aQ (FL J 256 fun k=>(x i j k*th j k)%8380417);obtain⟨S2,HS2⟩:=aQ (FL J 256 (dK (x i) th (j+1)));rw[HS.o]at A5 H2;rw[HP.o]at H1 H2;rw[HS2.o]at H2;have Si:=eE HS Hsize.o;have Si2:=eE HS2 Hsize.o;have So2:=eJ HS2;have Sz2:U (S.size=S2.size):=⟨by rw[<-HS.o,<-HS2.o,cC,cC]⟩;have Hjlt:=D hjlt;clear hrg hrt hjlt HF HE HS HP
       go_wp2_with fail;refine eQ.xb8 11 (by kernel_rfl) (by kernel_rfl) ?_;refine xa2 rfl 76 _ rfl _ rfl 76 _ _ (fun w' hC=>gM A5.o.row hC) zX rfl Si.o ?_;iterate 3 (quiet_step (skip))
       refine xb2 rfl 76 _ rfl g o6 rfl F.toList _ (fun w' hC=>Hrg.o w' (xa5 hC)) zX rfl Fi.o ?_;iterate 3 (quiet_step (skip))
       refine xb2 rfl 76 _ rfl gt o6 rfl Eq.toList _ (fun w' hC=>Hrt.o w' (xa5 hC)) zX rfl Ei.o ?_;quiet_step (exact jI (H1.o _));quiet_step (exact jI (H2.o _));refine kY ?_;intro w8 hC;have hbn:zb wr w8:=xa5 hC;have A7:U (At w3'.heap.size S 76 W4 w8):=⟨A5.o.later hbn⟩;obtain⟨w9,hw9⟩:=aP (w8.setRow w3'.heap.size S2);have A8:U (At w3'.heap.size (FL J 256 (dK (x i) th (j+1))) 76 W4 w9):=⟨by
        rw[HS2.o,<-hw9];exact⟨A7.o.os,A7.o.tape,A7.o.output,by simpa [World.setRow] using A7.o.size,jD _ _ _ _ _ _ A7.o.row,fun k hk hkg=>(lW _ _ _ _ hkg).trans (A7.o.block k hk hkg)⟩⟩
       have HW9:=D hw9;clear hC hbn A5 hw9;simp only[iW,jK];refine iS rfl 76 _ _ rfl w3'.heap.size S2 rfl rfl 76 _ A7.o.row Si2.o Sz2.o So2.o ?_;rw[HW9.o];go_wp2_with fail;go_roundw
       case rel=>exact⟨j+1,by have:=Hjlt.o;omega,by go_num,A8⟩
       case measure=>have:=Hjlt.o;simp[aG];omega
      ·obtain rfl:j=M:=by omega
       have Hb9:U (∀ w1:G,aD aO 82 #[I T,I (FL J 256 (dK (x i) th j))] w1 (zB w1 (I (FL J 256 (res i))))):=⟨fun w1=>by
        have h:=HBk.o (dK (x i) th j) w1;rw[show (fun k=>(bH ζ 8 (dK (x i) th j) k*8347681)%8380417)=res i from funext fun k=>by rw[<-HN.o];exact Hres.o i k]at h;exact h⟩
       obtain⟨S,HS⟩:=aQ (FL J 256 (dK (x i) th j));rw[HS.o]at A5 Hb9;have Si:=eE HS Hsize.o;have T5:U (wr.heap[w.heap.size]? = some (Y T 34 (0,0))):=⟨by
        have h:=BU.o.trans ((B2.o.mono BU.o.size).trans (D5.o.mono (jJ BU.o.size B2.o.size)));exact(h.block _ (bI T0.o)).trans T0.o⟩
       have R5:=D A5.o.row;have Ao2:U (At go (RW R (fst res i)) 76 w5 wr):=⟨Ao.o.later D5.o⟩;obtain⟨Eq,HE⟩:=aQ (FL J 256 (res i));rw[HE.o]at Hb9;have Hup:U (ups (fst res i) i (res i)=fst res (i+1)):=⟨xbq res i⟩;obtain⟨o6,ho6⟩:=aP (i*256);have Ho6:=D ho6;clear A5 hjlt Ao;go_wp2_with (first
        | (refine iL rfl 34 _ rfl w.heap.size rfl 34 T (0,0) _ T5.o zY rfl HTz.o ?_)
        | (refine iL rfl 76 _ rfl w3'.heap.size rfl 76 S (0,0) _ R5.o zX rfl Si.o ?_))
       refine(Hb9.o _).mono ?_;rintro e w6 ⟨rfl,hb6⟩;have A6:U (At go (RW R (fst res i)) 76 w5 w6):=⟨Ao2.o.later hb6⟩;clear hb6 Ao2 R5 T5;go_wp2_with ((with_reducible refine xci A6 HE.o Hlt.o Ho6.o rfl _ _ rfl rfl ?hx ?hy ?_);(case hx=>exact rfl);(case hy=>exact rfl);intro w7 A7;rw[Hup.o]at A7);go_roundw
       case rel=>exact⟨i+1,by have:=Hlt.o;omega,by go_num,A7⟩
       case measure=>have:=Hlt.o;simp[aG];omega
    ·obtain rfl:i=R:=by omega
     have HH:U (Holds w3' w.heap.size (aB (some ⟨go,0,none⟩) i i) i res):=⟨xbp Ao.o.row (by have:=BE.o.size;have:=Hgo.o;omega) (fun k hk=>xbk res i k hk)⟩;clear Ao;go_wp2_with fail;go_ret;exact⟨⟨_,rfl,HH.o⟩,BX.o⟩
end krw
namespace ksp
open arr mem bD aT aV bS aY bC bF bQ eM cV qsec bZ dN dW
theorem xh0{Q:Exit->Act->G->Prop}{K:Act->G->Prop}{op:Oper}{ac:Act}{w0 w:G}{g m i o:Nat}{t:aH}{p:Nat->Nat->Int}{f:Nat->Int}{F:Array aE}(H:U (At g (RW m p) t w0 w))(hF:FL J 256 f=F)(hi:i<m)(hoi:i*256=o)
 (x y:Operand) (ho:op.op=.store 76 x y) (hd:op.dst=none) (hx:ac.eval x=aC (some ⟨g,o,none⟩)) (hy:ac.eval y=I F)
 (h:∀ w',U (At g (RW m (ups p i f)) t w0 w')->K ac w'):op.wp aO ac w K Q:=by
 subst hF;obtain⟨hz,hsize⟩:=iY aV.aX;refine wp_store_mid _ x y ho g o (FL J 256 f) hx hy (fun j hj=>?_) (by rw[cC];exact hsize) (xbj _ _ _) ?_
 ·rw[cC]at hj;rw[H.o.cell,H.o.frozen];have e3:(RW m p)[o+j]? = some (O J (p ((o+j) / 256) ((o+j)%256))):=xba J (256*m) _ (o+j) (by omega);rw[e3];exact⟨rfl,rfl⟩
 ·rw[hd];refine h _ ⟨?_⟩;have h1:At g (sp (RW m p) (256*i) (FL J 256 f).toList) t w (w.setCells g (256*i) (FL J 256 f).toList):=At.set H.o.row H.o.lt (iR _ _);rw[sp_rw m p i f]at h1;rw[show o=256*i by omega];exact H.o.trans h1
theorem xgc(m:Nat)(va vb:aE)(Ba Bb:Nat)(p q:Nat->Nat->Int)(w:G)(hm : 1<=m/\m<=8)(ha:Holds w Ba va m p)(hb:Holds w Bb vb m q):
 aD aO 64 #[va,vb] w fun x w'=>(∃ v1 v2,x=.returned (.tuple #[v1,v2])/\Holds w' w.heap.size v1 m (fun i k=>sh ((p i k+q i k)%8380417))/\Holds w' w.heap.size v2 m (fun i k=>sl ((p i k+q i k)%8380417)%8380417))/\zb w w':=by
 obtain⟨i0,hi0,hz0,hz1,hz2⟩:=parts bX;obtain⟨hz,hsize⟩:=iY aV.aX;obtain⟨z,HZ⟩:=aQ (FL J 256 fun _=>0);rw[HZ.o]at hz hz0;have HI:=D (jA hi0 (jA hz0 (jA hz1 hz2)));have Hsize:=D hsize;obtain⟨gp,cp,rfl,hgp⟩:=gD ha;obtain⟨gq,cq',rfl,hgq⟩:=gD hb;have HVa:=D ha;have HVb:=D hb;have Hga:=D hgp;have Hgq:=D hgq;have hm1:=hm.1;have hm8:=hm.2;obtain⟨tt,htt⟩:=aQ (fun i k=>(p i k+q i k)%8380417);have Htt:U (∀ i,(fun k=>(p i k+q i k)%8380417)=tt i):=⟨fun i=>by rw[<-htt.o]⟩;obtain⟨hi,hhi⟩:=aQ (fun i k=>sh (tt i k));have Hhi:U (∀ i,(fun k=>sh (tt i k))=hi i):=⟨fun i=>by rw[<-hhi.o]⟩;obtain⟨lo,hlo⟩:=aQ (fun i k=>sl (tt i k)%8380417);have Hlo:U (∀ i,(fun k=>sl (tt i k)%8380417)=lo i):=⟨fun i=>by rw[<-hlo.o]⟩;have e1:(fun i k=>sh ((p i k+q i k)%8380417))=hi:=by rw[<-hhi.o,<-htt.o]
 have e2:(fun i k=>sl ((p i k+q i k)%8380417)%8380417)=lo:=by rw[<-hlo.o,<-htt.o]
 rw[e1,e2];clear hi0 hz0 hz1 hz2 hsize ha hb hgp hgq hm e1 e2 hhi hlo htt;go_enter Tryz.func64,Tryz.ntmps64;go_wp2_with fail;obtain⟨B0,hB0⟩:=aP w.heap.size;refine xa4 B0 8 [0,1,3,4,2,5,6,7] (by kernel_rfl) rfl rfl (by decide) (fun hS ops HO=>?_);simp only[jT,mI,jF,jL];iterate 4 (refine zV hS ?_)
 refine xop (by rw[<-HO.o];kernel_rfl) (by rw[<-HO.o];kernel_rfl) (by rw[<-HO.o];kernel_rfl) (fun K hK=>?_) (fun K hK=>?_)
 ·refine xeh (.tmp 10) (.tmp 10) 44 rfl 76 i0 (I z) 256 Tryz.underlying44 HI.o.1 HI.o.2.1 HI.o.2.2.1 J J m rfl rfl (by rw[HI.o.2.2.2];omega) (by unfold maxLen;omega) ?_;intro w3 hown hgr;obtain⟨hrow,hb3⟩:=xbn HZ.o hown hgr;have h3:zb w w3:=(iR _ _).drew.trans hb3;refine hK _ _ (by rw[<-hB0];exact h3) ?_;clear hK K;obtain⟨ga,hga⟩:=aP w.heap.size;have R1:w3.heap[ga]? = some (Y (RW m fun _ _=>0) 76 (0,0)):=by rw[<-hga];exact hrow
  have l1:ga<w3.heap.size:=bI R1;show HK _ _ _ _ _ _ _ (aM _ _ (aB (some ⟨w.heap.size,0,none⟩) m m)) _;rw[hga];simp only[aM,aR.pa,aR.pb,aR.pc];refine xoo ?_;(focus (refine aR.fY (v:=?_) (by rw[<-HO.o];kernel_rfl) (fun _ _ _ h=>h) ?_ (by rw[<-hB0];exact h3) ?_;rotate_left;focus (intro w9 h9;go_simp;first | done | with_reducible rfl);all_goals skip))
  simp only[aM,aR.pa,aR.pb,aR.pc];refine zS fun K hK=>?_
  refine xeh (.tmp 13) (.tmp 13) 44 rfl 76 i0 (I z) 256 Tryz.underlying44 HI.o.1 HI.o.2.1 HI.o.2.2.1 J J m rfl rfl (by rw[HI.o.2.2.2];omega) (by unfold maxLen;omega) ?_;intro w4 hown2 hgr2;obtain⟨hrow2,hb4⟩:=xbn HZ.o hown2 hgr2;have h4:=zbm h3 hb4;have h5:aF B0 w w4:=by rw[<-hB0];exact h4
  refine hK _ _ h5 ?_;clear hK K;obtain⟨gb,hgb⟩:=aP w3.heap.size;have R2:w4.heap[gb]? = some (Y (RW m fun _ _=>0) 76 (0,0)):=by rw[<-hgb];exact hrow2
  have R3:w4.heap[ga]? = some (Y (RW m fun _ _=>0) 76 (0,0)):=(hb4.block _ l1).trans R1;rw[hgb];simp only[aM,aR.pa,aR.pb,aR.pc];refine zV h5 ?_;refine zN ?_;have G1:U (w4.heap[ga]? = some (Y (RW m fun _ _=>0) 76 (0,0))):=⟨R3⟩;have G2:U (w4.heap[gb]? = some (Y (RW m fun _ _=>0) 76 (0,0))):=⟨R2⟩;have Hg:U (ga≠gb/\w.heap.size<=ga/\w.heap.size<=gb):=⟨by have:=h3.size;refine⟨?_,?_,?_⟩<;>omega⟩;have B4:=D h4;clear hown hgr hrow hb3 h3 hown2 hgr2 hrow2 hb4 h4 R1 R2 R3 l1 HO hS h5 hB0 hga hgb;have A0x:U (w4.heap[ga]? = some (Y (RW m (fst hi 0)) 76 (0,0))):=⟨by rw[xbl];exact G1.o⟩;have B0x:U (w4.heap[gb]? = some (Y (RW m (fst lo 0)) 76 (0,0))):=⟨by rw[xbl];exact G2.o⟩;go_wp2_with fail;go_loopw [17] (fun v wr=>∃ r:Nat,r<=m/\v=O J (r:Int)/\U (wr.heap[ga]? = some (Y (RW m (fst hi r)) 76 (0,0)))/\U (wr.heap[gb]? = some (Y (RW m (fst lo r)) 76 (0,0)))/\U (zb w wr)) (fun v _=>m-(aG v).toNat)
  case atStart=>exact⟨0,iX _,rfl,A0x,B0x,B4⟩
  case round=>
   clear A0x B0x G1 G2;obtain⟨r,hr,rfl,Ra,Rb,Hb⟩:=hrel;by_cases hlt:r<m
   ·have hrz:(r:Int)<(m:Int):=by omega
    have hr8:r<8:=by omega
    obtain⟨o6,ho6⟩:=aP (r*256);obtain⟨F,HF⟩:=aQ (FL J 256 (p r));obtain⟨Gq,HG⟩:=aQ (FL J 256 (q r));have Fi:=zfi HF Hsize.o;have Gi:=zfi HG Hsize.o;have Ha:∀ w':G,aF w.heap.size wr w'->w'.rangeAt gp o6 F.toList:=fun w' hb'=>by
     have h:=xa3 (xa8 HVa.o r hlt) Hga.o (Hb.o.trans hb');rw[HF.o,ho6]at h;exact h
    have Hbb:∀ w':G,aF w.heap.size wr w'->w'.rangeAt gq o6 Gq.toList:=fun w' hb'=>by
     have h:=xa3 (xa8 HVb.o r hlt) Hgq.o (Hb.o.trans hb');rw[HG.o,ho6]at h;exact h
    have Ha:=D Ha;have Hbb:=D Hbb;have HAr:U (∀ w1:G,aD aO 80 #[I F,I Gq] w1 (zB w1 (I (FL J 256 (tt r))))):=⟨fun w1=>by rw[<-HF.o,<-HG.o,<-Htt.o];exact fadd.xdr (p r) (q r) w1⟩;have HSr:U (∀ w1:G,aD aO 115 #[I (FL J 256 (tt r))] w1 (zB w1 (aA #[I (FL J 256 (hi r)),I (FL J 256 (lo r))]))):=⟨fun w1=>by rw[<-Hhi.o,<-Hlo.o];exact rsplit.xgc (tt r) w1⟩;have Hua:U (ups (fst hi r) r (hi r)=fst hi (r+1)):=⟨xbq hi r⟩;have Hub:U (ups (fst lo r) r (lo r)=fst lo (r+1)):=⟨xbq lo r⟩;obtain⟨S,HS⟩:=aQ (FL J 256 (tt r));obtain⟨X,HX⟩:=aQ (FL J 256 (hi r));obtain⟨Yq,HY⟩:=aQ (FL J 256 (lo r));rw[HS.o]at HAr HSr;rw[HX.o,HY.o]at HSr;have Hlt:=D hlt;have Ho6:=D ho6;clear hlt HF HG HS;go_wp2_with fail;refine xa4 w.heap.size 21 [0,1,2,3,4,5,6,7,8,9,10,11,12,13,14,15,16,17,18,19,20] (by kernel_rfl) rfl rfl (by decide) (fun hS ops HO=>?_);simp only[jT,mI,jF,jL];iterate 7 (refine zV hS ?_)
    refine fork.xin (by rw[<-HO.o];kernel_rfl) (by rw[<-HO.o];kernel_rfl) (by rw[<-HO.o];kernel_rfl) (by rw[<-HO.o];kernel_rfl) (fun _ _ _ _ h=>h) 76 _ rfl gp o6 rfl F.toList _ Ha.o zX rfl Fi.o hS ?_;simp only[aM,aR.pa,aR.pb,aR.pc];iterate 3 (refine zV hS ?_)
    refine fork.xin (by rw[<-HO.o];kernel_rfl) (by rw[<-HO.o];kernel_rfl) (by rw[<-HO.o];kernel_rfl) (by rw[<-HO.o];kernel_rfl) (fun _ _ _ _ h=>h) 76 _ rfl gq o6 rfl Gq.toList _ Hbb.o zX rfl Gi.o hS ?_;simp only[aM,aR.pa,aR.pb,aR.pc];refine zS fun K hK=>?_
    go_simp
    refine(HAr.o _).mono ?_;rintro x w3 ⟨rfl,hb3⟩;have h3:aF w.heap.size wr w3:=hS.trans (hb3.mono (jJ Hb.o.size hS.size));refine hK _ _ h3 ?_;clear hK K;try simp only[aM,aR.pa,aR.pb,aR.pc]
    refine zS fun K hK=>?_
    go_simp
    refine(HSr.o _).mono ?_;rintro x w5 ⟨rfl,hb5⟩;have h5:aF w.heap.size wr w5:=h3.trans (hb5.mono (jJ Hb.o.size h3.size));refine hK _ _ h5 ?_;clear hK K;try simp only[aM,aR.pa,aR.pb,aR.pc]
    iterate 4 (refine zV h5 ?_)
    have hbn:zb wr w5:=(xij _ wr 1).trans (hb3.trans (hb5.mono hb3.size));have A6:U (At ga (RW m (fst hi r)) 76 w5 w5):=⟨At.refl ((hbn.block _ (bI Ra.o)).trans Ra.o)⟩;have B6:U (w5.heap[gb]? = some (Y (RW m (fst lo r)) 76 (0,0))):=⟨(hbn.block _ (bI Rb.o)).trans Rb.o⟩;refine zS fun K hK=>?_
    refine xh0 A6 HX.o Hlt.o Ho6.o _ _ rfl rfl rfl rfl (fun w7 A7=>?_);rw[Hua.o]at A7;have h7:aF w.heap.size wr w7:=h5.trans (A7.o.below (jJ Hb.o.size h5.size) Hg.o.2.1);have A8:U (At gb (RW m (fst lo r)) 76 w7 w7):=⟨At.refl (A7.o.other (bI B6.o) (Ne.symm Hg.o.1) B6.o)⟩;refine hK _ _ h7 ?_;clear hK K;try simp only[aM,aR.pa,aR.pb,aR.pc]
    refine zV h7 ?_;refine zS fun K hK=>?_
    refine xh0 A8 HY.o Hlt.o Ho6.o _ _ rfl rfl rfl rfl (fun w8 A9=>?_);rw[Hub.o]at A9;have h8:aF w.heap.size wr w8:=h7.trans (A9.o.below (jJ Hb.o.size h7.size) Hg.o.2.2);refine hK _ _ h8 ?_;clear hK K;try simp only[aM,aR.pa,aR.pb,aR.pc]
    refine zN ?_;have D8:U (zb w w8):=⟨Hb.o.trans h8⟩;have Ra8:U (w8.heap[ga]? = some (Y (RW m (fst hi (r+1))) 76 (0,0))):=⟨A9.o.other (bI A7.o.row) Hg.o.1 A7.o.row⟩;have Rb8:U (w8.heap[gb]? = some (Y (RW m (fst lo (r+1))) 76 (0,0))):=⟨A9.o.row⟩;clear hS HO hb3 h3 hb5 h5 hbn A6 B6 A7 A8 A9 h7 h8 Ra Rb HAr HSr Ha Hbb;go_wp2_with fail;go_roundw
    case rel=>exact⟨r+1,by have:=Hlt.o;omega,by go_num,Ra8,Rb8,D8⟩
    case measure=>have:=Hlt.o;simp[aG];omega
   ·obtain rfl:r=m:=by omega
    have H1:U (Holds wr w.heap.size (aB (some ⟨ga,0,none⟩) r r) r hi):=⟨xbp Ra.o Hg.o.2.1 (fun i hi'=>xbk hi r i hi')⟩;have H2:U (Holds wr w.heap.size (aB (some ⟨gb,0,none⟩) r r) r lo):=⟨xbp Rb.o Hg.o.2.2 (fun i hi'=>xbk lo r i hi')⟩;clear Ra Rb;go_wp2_with fail;go_ret2;exact⟨⟨_,_,rfl,H1.o,H2.o⟩,Hb.o⟩
 ·refine xeh (.tmp 13) (.tmp 13) 44 rfl 76 i0 (I z) 256 Tryz.underlying44 HI.o.1 HI.o.2.1 HI.o.2.2.1 J J m rfl rfl (by rw[HI.o.2.2.2];omega) (by unfold maxLen;omega) ?_;intro w3 hown hgr;obtain⟨hrow,hb3⟩:=xbn HZ.o hown hgr;have h3:zb w w3:=(iR _ _).drew.trans hb3;refine hK _ _ (by rw[<-hB0];exact h3) ?_;clear hK K;obtain⟨gb,hgb⟩:=aP w.heap.size;have R1:w3.heap[gb]? = some (Y (RW m fun _ _=>0) 76 (0,0)):=by rw[<-hgb];exact hrow
  have l1:gb<w3.heap.size:=bI R1;show HK _ _ _ _ _ _ _ (aM _ _ (aB (some ⟨w.heap.size,0,none⟩) m m)) _;rw[hgb];simp only[aM,aR.pa,aR.pb,aR.pc];refine zS fun K hK=>?_
  refine xeh (.tmp 10) (.tmp 10) 44 rfl 76 i0 (I z) 256 Tryz.underlying44 HI.o.1 HI.o.2.1 HI.o.2.2.1 J J m rfl rfl (by rw[HI.o.2.2.2];omega) (by unfold maxLen;omega) ?_;intro w4 hown2 hgr2;obtain⟨hrow2,hb4⟩:=xbn HZ.o hown2 hgr2;have h4:=zbm h3 hb4;have h5:aF B0 w w4:=by rw[<-hB0];exact h4
  refine hK _ _ h5 ?_;clear hK K;obtain⟨ga,hga⟩:=aP w3.heap.size;have R2:w4.heap[ga]? = some (Y (RW m fun _ _=>0) 76 (0,0)):=by rw[<-hga];exact hrow2
  have R3:w4.heap[gb]? = some (Y (RW m fun _ _=>0) 76 (0,0)):=(hb4.block _ l1).trans R1;rw[hga];simp only[aM,aR.pa,aR.pb,aR.pc];iterate 2 (refine zV h5 ?_)
  refine zN ?_;have G2:U (w4.heap[gb]? = some (Y (RW m fun _ _=>0) 76 (0,0))):=⟨R3⟩;have G1:U (w4.heap[ga]? = some (Y (RW m fun _ _=>0) 76 (0,0))):=⟨R2⟩;have Hg:U (ga≠gb/\w.heap.size<=ga/\w.heap.size<=gb):=⟨by have:=h3.size;refine⟨?_,?_,?_⟩<;>omega⟩;have B4:=D h4;clear hown hgr hrow hb3 h3 hown2 hgr2 hrow2 hb4 h4 R1 R2 R3 l1 HO hS h5 hB0 hga hgb;have A0x:U (w4.heap[ga]? = some (Y (RW m (fst hi 0)) 76 (0,0))):=⟨by rw[xbl];exact G1.o⟩;have B0x:U (w4.heap[gb]? = some (Y (RW m (fst lo 0)) 76 (0,0))):=⟨by rw[xbl];exact G2.o⟩;go_wp2_with fail;go_loopw [17] (fun v wr=>∃ r:Nat,r<=m/\v=O J (r:Int)/\U (wr.heap[ga]? = some (Y (RW m (fst hi r)) 76 (0,0)))/\U (wr.heap[gb]? = some (Y (RW m (fst lo r)) 76 (0,0)))/\U (zb w wr)) (fun v _=>m-(aG v).toNat)
  case atStart=>exact⟨0,iX _,rfl,A0x,B0x,B4⟩
  case round=>
   clear A0x B0x G1 G2;obtain⟨r,hr,rfl,Ra,Rb,Hb⟩:=hrel;by_cases hlt:r<m
   ·have hrz:(r:Int)<(m:Int):=by omega
    have hr8:r<8:=by omega
    obtain⟨o6,ho6⟩:=aP (r*256);obtain⟨F,HF⟩:=aQ (FL J 256 (p r));obtain⟨Gq,HG⟩:=aQ (FL J 256 (q r));have Fi:=zfi HF Hsize.o;have Gi:=zfi HG Hsize.o;have Ha:∀ w':G,aF w.heap.size wr w'->w'.rangeAt gp o6 F.toList:=fun w' hb'=>by
     have h:=xa3 (xa8 HVa.o r hlt) Hga.o (Hb.o.trans hb');rw[HF.o,ho6]at h;exact h
    have Hbb:∀ w':G,aF w.heap.size wr w'->w'.rangeAt gq o6 Gq.toList:=fun w' hb'=>by
     have h:=xa3 (xa8 HVb.o r hlt) Hgq.o (Hb.o.trans hb');rw[HG.o,ho6]at h;exact h
    have Ha:=D Ha;have Hbb:=D Hbb;have HAr:U (∀ w1:G,aD aO 80 #[I F,I Gq] w1 (zB w1 (I (FL J 256 (tt r))))):=⟨fun w1=>by rw[<-HF.o,<-HG.o,<-Htt.o];exact fadd.xdr (p r) (q r) w1⟩;have HSr:U (∀ w1:G,aD aO 115 #[I (FL J 256 (tt r))] w1 (zB w1 (aA #[I (FL J 256 (hi r)),I (FL J 256 (lo r))]))):=⟨fun w1=>by rw[<-Hhi.o,<-Hlo.o];exact rsplit.xgc (tt r) w1⟩;have Hua:U (ups (fst hi r) r (hi r)=fst hi (r+1)):=⟨xbq hi r⟩;have Hub:U (ups (fst lo r) r (lo r)=fst lo (r+1)):=⟨xbq lo r⟩;obtain⟨S,HS⟩:=aQ (FL J 256 (tt r));obtain⟨X,HX⟩:=aQ (FL J 256 (hi r));obtain⟨Yq,HY⟩:=aQ (FL J 256 (lo r));rw[HS.o]at HAr HSr;rw[HX.o,HY.o]at HSr;have Hlt:=D hlt;have Ho6:=D ho6;clear hlt HF HG HS;go_wp2_with fail;refine xa4 w.heap.size 21 [0,1,2,3,4,5,6,7,8,9,10,11,12,13,14,15,16,17,18,19,20] (by kernel_rfl) rfl rfl (by decide) (fun hS ops HO=>?_);simp only[jT,mI,jF,jL];iterate 7 (refine zV hS ?_)
    refine fork.xin (by rw[<-HO.o];kernel_rfl) (by rw[<-HO.o];kernel_rfl) (by rw[<-HO.o];kernel_rfl) (by rw[<-HO.o];kernel_rfl) (fun _ _ _ _ h=>h) 76 _ rfl gp o6 rfl F.toList _ Ha.o zX rfl Fi.o hS ?_;simp only[aM,aR.pa,aR.pb,aR.pc];iterate 3 (refine zV hS ?_)
    refine fork.xin (by rw[<-HO.o];kernel_rfl) (by rw[<-HO.o];kernel_rfl) (by rw[<-HO.o];kernel_rfl) (by rw[<-HO.o];kernel_rfl) (fun _ _ _ _ h=>h) 76 _ rfl gq o6 rfl Gq.toList _ Hbb.o zX rfl Gi.o hS ?_;simp only[aM,aR.pa,aR.pb,aR.pc];refine zS fun K hK=>?_
    go_simp
    refine(HAr.o _).mono ?_;rintro x w3 ⟨rfl,hb3⟩;have h3:aF w.heap.size wr w3:=hS.trans (hb3.mono (jJ Hb.o.size hS.size));refine hK _ _ h3 ?_;clear hK K;try simp only[aM,aR.pa,aR.pb,aR.pc]
    refine zS fun K hK=>?_
    go_simp
    refine(HSr.o _).mono ?_;rintro x w5 ⟨rfl,hb5⟩;have h5:aF w.heap.size wr w5:=h3.trans (hb5.mono (jJ Hb.o.size h3.size));refine hK _ _ h5 ?_;clear hK K;try simp only[aM,aR.pa,aR.pb,aR.pc]
    iterate 4 (refine zV h5 ?_)
    have hbn:zb wr w5:=(xij _ wr 1).trans (hb3.trans (hb5.mono hb3.size));have A6:U (At ga (RW m (fst hi r)) 76 w5 w5):=⟨At.refl ((hbn.block _ (bI Ra.o)).trans Ra.o)⟩;have B6:U (w5.heap[gb]? = some (Y (RW m (fst lo r)) 76 (0,0))):=⟨(hbn.block _ (bI Rb.o)).trans Rb.o⟩;refine zS fun K hK=>?_
    refine xh0 A6 HX.o Hlt.o Ho6.o _ _ rfl rfl rfl rfl (fun w7 A7=>?_);rw[Hua.o]at A7;have h7:aF w.heap.size wr w7:=h5.trans (A7.o.below (jJ Hb.o.size h5.size) Hg.o.2.1);have A8:U (At gb (RW m (fst lo r)) 76 w7 w7):=⟨At.refl (A7.o.other (bI B6.o) (Ne.symm Hg.o.1) B6.o)⟩;refine hK _ _ h7 ?_;clear hK K;try simp only[aM,aR.pa,aR.pb,aR.pc]
    refine zV h7 ?_;refine zS fun K hK=>?_
    refine xh0 A8 HY.o Hlt.o Ho6.o _ _ rfl rfl rfl rfl (fun w8 A9=>?_);rw[Hub.o]at A9;have h8:aF w.heap.size wr w8:=h7.trans (A9.o.below (jJ Hb.o.size h7.size) Hg.o.2.2);refine hK _ _ h8 ?_;clear hK K;try simp only[aM,aR.pa,aR.pb,aR.pc]
    refine zN ?_;have D8:U (zb w w8):=⟨Hb.o.trans h8⟩;have Ra8:U (w8.heap[ga]? = some (Y (RW m (fst hi (r+1))) 76 (0,0))):=⟨A9.o.other (bI A7.o.row) Hg.o.1 A7.o.row⟩;have Rb8:U (w8.heap[gb]? = some (Y (RW m (fst lo (r+1))) 76 (0,0))):=⟨A9.o.row⟩;clear hS HO hb3 h3 hb5 h5 hbn A6 B6 A7 A8 A9 h7 h8 Ra Rb HAr HSr Ha Hbb;go_wp2_with fail;go_roundw
    case rel=>exact⟨r+1,by have:=Hlt.o;omega,by go_num,Ra8,Rb8,D8⟩
    case measure=>have:=Hlt.o;simp[aG];omega
   ·obtain rfl:r=m:=by omega
    have H1:U (Holds wr w.heap.size (aB (some ⟨ga,0,none⟩) r r) r hi):=⟨xbp Ra.o Hg.o.2.1 (fun i hi'=>xbk hi r i hi')⟩;have H2:U (Holds wr w.heap.size (aB (some ⟨gb,0,none⟩) r r) r lo):=⟨xbp Rb.o Hg.o.2.2 (fun i hi'=>xbk lo r i hi')⟩;clear Ra Rb;go_wp2_with fail;go_ret2;exact⟨⟨_,_,rfl,H1.o,H2.o⟩,Hb.o⟩
end ksp
namespace ksh
open arr mem cZ bU bT dD fD bM
theorem xc8{T:Array aE}(gt:Nat)(x:ByteArray)(n:Nat)(w:G)(hK:KT T TL RL)(hP:Gp w)(hrow:w.heap[gt]? = some (Y T 34 (0,0)))(hn:n<=50000)(hx:x.size<=1125899906842624):
 aD aO 62 #[aC (some ⟨gt,0,none⟩),E x,O J (n:Int)] w (zB w (E (out TL RL 2 x n))):=by
 have HS:=D (fun w1 hb=>iI.shake 2 x n w hK hP (kO rfl) hn hx w1 hb);have HTz:U ((aO.info? 34).map (·.size)=some T.size):=⟨dI T hK⟩;have HR:=D hrow;obtain⟨Yq,HY⟩:=aQ (out TL RL 2 x n);rw[HY.o]at HS ⊢;clear hK hP hrow hn hx HY;go_enter Tryz.func62,Tryz.ntmps62;go_wp2_with (refine iL rfl 34 _ rfl gt rfl 34 T (0,0) _ HR.o zY rfl HTz.o ?_);refine(HS.o _ (iR _ _)).mono ?_;rintro e w5 ⟨rfl,hb5⟩;go_wp2_with fail;go_ret;exact⟨rfl,hb5⟩
end ksh
end Go.Proofs.YtomphjajkkddkaaGreatDoor
