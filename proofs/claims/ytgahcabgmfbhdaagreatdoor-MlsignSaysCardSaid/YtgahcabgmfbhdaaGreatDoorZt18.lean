/-
  What mlkey's lists, size and Sizes return. Conditions: as each theorem says. What mlkey's encode ret
-/
import Derived.Test.YtgahcabgmfbhdaaGreatDoorZt07
import Derived.Test.YtgahcabgmfbhdaaGreatDoorZt16
import Derived.Test.YtgahcabgmfbhdaaGreatDoorZt15
import Derived.Test.YtgahcabgmfbhdaaGreatDoorZt17
import Derived.Test.YtgahcabgmfbhdaaGreatDoorZt08
import Derived.Test.YtgahcabgmfbhdaaGreatDoorZt09
import Derived.Test.YtgahcabgmfbhdaaGreatDoorZt03
import Derived.Test.YtgahcabgmfbhdaaGreatDoorZt02
import Derived.OwnWalk
import Derived.WalkMore
import Derived.Lib.QuietBelow
import Derived.Lib.MinMax
import Derived.StillTailTactics
set_option maxRecDepth 100000
set_option maxHeartbeats 16000000
set_option linter.unusedSimpArgs false
set_option linter.unusedVariables false
open Go Go.RowKit
namespace Go.Proofs.YtgahcabgmfbhdaaGreatDoor
namespace ksz
open arr mem stil polys polt rbita rndm mlkm rset rksz
def lst(k l e:Int):Array Value:=#[.int .i64 l,.int .i64 e,.int .i64 e,.int .i64 k,.int .i64 e,.int .i64 e,.int .i64 k,.int .i64 4095,.int .i64 4096]
def mn(k l:Int)(r:Nat):Int:=if r=0 then l else k
def lw(e:Int)(r:Nat):Int:=if r=2 then 4095 else e
def hg(e:Int)(r:Nat):Int:=if r=2 then 4096 else e
theorem xh1(e:Int)(r:Nat)(he:e=2∨e=4) : 4≤lw e r+hg e r∧lw e r+hg e r≤8191:=by
 unfold lw hg;by_cases h:r=2
 ·rw[if_pos h,if_pos h];omega
 ·rw[if_neg h,if_neg h];omega
theorem infoLs:(Tryz.prog.info? 89).map (fun i=>(i.zero,i.size))=some (some (.agg #[.int .i64 0,.int .i64 0,.int .i64 0,.int .i64 0,.int .i64 0,.int .i64 0,.int .i64 0,.int .i64 0,.int .i64 0]),9):=by kernel_rfl
theorem xj6(k l e:Int)(r:Nat)(hr:r<3)(w:World):(Instr.index 89 (.agg (lst k l e)) (.int .i64 (r:Int))).run Tryz.prog w=.ok (.agg #[.int .i64 (mn k l r),.int .i64 (lw e r),.int .i64 (hg e r)]) w:=by
 rcases (show r=0∨r=1∨r=2 by omega) with rfl | rfl | rfl<;>kernel_rfl
theorem xrb(x y z:Int):Tryz.prog.built 88 [(0,.int .i64 x),(1,.int .i64 y),(2,.int .i64 z)]=some #[.int .i64 x,.int .i64 y,.int .i64 z]:=by kernel_rfl
theorem xrd(k l e:Int):Tryz.prog.built 89 [(0,.agg #[.int .i64 l,.int .i64 e,.int .i64 e]),(1,.agg #[.int .i64 k,.int .i64 e,.int .i64 e]),(2,.agg #[.int .i64 k,.int .i64 4095,.int .i64 4096])]=some (lst k l e):=by kernel_rfl
theorem xwh{ops:Array Oper}{rest:List Oper}{o:Oper}{a:Act}{w:World}{Q:Exit→Act→World→Prop}(hg:o.guard=none)
 (H:∃ (x y z:Operand) (i j k:Int),o.op=.build 88 [(0,x),(1,y),(2,z)].toArray∧a.eval x=.int .i64 i∧a.eval y=.int .i64 j∧a.eval z=.int .i64 k∧wpList Tryz.prog ops Q rest (a.put o.dst (.agg #[.int .i64 i,.int .i64 j,.int .i64 k])) w):wpList Tryz.prog ops Q (o :: rest) a w:=by
 obtain⟨x,y,z,i,j,k,ho,hx,hy,hz,h⟩:=H;refine xc4 hg 88 _ ho _ ?_ h;simp only[List.map_cons,List.map_nil,hx,hy,hz];exact xrb i j k
theorem xwi{ops:Array Oper}{rest:List Oper}{o:Oper}{a:Act}{w:World}{Q:Exit→Act→World→Prop}(k l e:Int)(V:Array Value)(hV:lst k l e=V)(hg:o.guard=none)
 (H:∃ (x y z:Operand),o.op=.build 89 [(0,x),(1,y),(2,z)].toArray∧a.eval x=.agg #[.int .i64 l,.int .i64 e,.int .i64 e]∧a.eval y=.agg #[.int .i64 k,.int .i64 e,.int .i64 e]∧a.eval z=.agg #[.int .i64 k,.int .i64 4095,.int .i64 4096]∧wpList Tryz.prog ops Q rest (a.put o.dst (.agg V)) w):wpList Tryz.prog ops Q (o :: rest) a w:=by
 obtain⟨x,y,z,ho,hx,hy,hz,h⟩:=H;refine xc4 hg 89 _ ho _ ?_ h;simp only[List.map_cons,List.map_nil,hx,hy,hz,←hV];exact xrd k l e
theorem xkb(k l e t a b o s:Int)(w:World):
 Calls Tryz.prog 46 #[.agg (zLt k l e t a b o s)] w (zB w (.agg (lst k l e))):=by
 obtain⟨hz,hsize⟩:=zero_of_info infoLs;obtain⟨z,HZ⟩:=xaa (#[.int .i64 0,.int .i64 0,.int .i64 0,.int .i64 0,.int .i64 0,.int .i64 0,.int .i64 0,.int .i64 0,.int .i64 0]:Array Value);rw[HZ.out]at hz;have Zs:Ω (z.size=9):=⟨by rw[←HZ.out];rfl⟩;obtain⟨V,HV⟩:=xaa (lst k l e);have Vi:Ω ((Tryz.prog.info? 89).map (·.size)=some V.size):=⟨by rw[←HV.out];exact hsize⟩;have Vz:Ω (z.size=V.size):=⟨by rw[Zs.out,←HV.out];rfl⟩;have Vo:Ω (V.all (·.oneCell')=true):=⟨by rw[←HV.out];simp[lst,Value.oneCell']⟩;rw[HV.out];obtain⟨C,HC⟩:=xaa ((zLt k l e t a b o s):Array Value);rw[HC.out];obtain⟨W,hW⟩:=zev ((w.alloc (.cells C 37)).alloc (.cells z 89));obtain⟨r0,r1,hWs,b0⟩:=two hW;have c0:W.cell? ⟨w.heap.size,0,none⟩=some (.int .i64 k):=xab r0 (by rw[←HC.out];rfl);have c1:W.cell? ⟨w.heap.size,1,none⟩=some (.int .i64 l):=xab r0 (by rw[←HC.out];rfl);have c2:W.cell? ⟨w.heap.size,2,none⟩=some (.int .i64 e):=xab r0 (by rw[←HC.out];rfl);have Hres:Ω (W.heap[w.heap.size+1]? = some (.cells z 89 (0,0))):=⟨r1⟩;have HB:=ω b0;have HW:=ω hW;clear hsize hW r0 r1 hWs b0;go_enter Tryz.func46,Tryz.ntmps46;go_wp2_with (first
  | (rw[HW.out])
  | (refine xwh rfl ⟨_,_,_,_,_,_,rfl,rfl,rfl,rfl,?_⟩)
  | (refine xwi k l e V HV.out rfl ⟨_,_,_,rfl,rfl,rfl,rfl,?_⟩)
  | (refine wpList_store_row rfl 89 _ _ rfl (w.heap.size+1) V rfl rfl 89 _ Hres.out Vi.out Vz.out Vo.out ?_))
 refine bodyPost_ret_by (v:=.agg V) (results_cell_row rfl _ _ (w.heap.size+1) 89 _ (0,0) _ rfl (setRow_heap _ _ _ _ _ _ Hres.out) Tryz.underlying89 rfl Vi.out) rfl ?_;exact⟨rfl,HB.out.trans (below_setRow _ _ _ (by omega))⟩
theorem xb1(most:Int)(n:Nat)(hm:most<9223372036854775808)(hn:lb most.toNat=n)(h64:n≤1000)(w:World):
 Calls Tryz.prog 47 #[.int .i64 most] w (zE w (.int .i64 (32*(n:Int)))):=by
 have HL:Ω (∀ w1:World,Calls Tryz.prog 104 #[.int .i64 most] w1 (zE w1 (.int .i64 (n:Int)))):=⟨fun w1=>by rw[←hn];exact plong.xcn most hm w1⟩;have f1:IntKind.i64.wrap (256*(n:Int))=256*(n:Int):=zwi;have f2:(256*(n:Int)).tdiv 8=32*(n:Int):=by rw[Int.tdiv_eq_ediv_of_nonneg (by omega)];omega
 have f3:IntKind.i64.wrap (32*(n:Int))=32*(n:Int):=zwi;clear hn;go_enter Tryz.func47,Tryz.ntmps47;go_wp2_with fail;refine(HL.out _).mono ?_;rintro e w1 ⟨rfl,hw⟩;rw[hw];clear hw w1;go_wp2_with fail;go_ret;exact⟨rfl,rfl⟩
theorem xfg(k l e t a b o s:Int)(w:World):
 Calls Tryz.prog 18 #[.agg (zLt k l e t a b o s)] w (zB w (szs k l e t a b o s)):=by
 have HR0:=fun w1=>rright.xbn k l e t a b o s w1
 have HL0:=fun w1=>xkb k l e t a b o s w1
 obtain⟨V,HV⟩:=xaa (szs k l e t a b o s);rw[HV.out];obtain⟨C,HC⟩:=xaa ((zLt k l e t a b o s):Array Value);rw[HC.out]at HR0 HL0 ⊢;have HCs:Ω ((Tryz.prog.info? 37).map (·.size)=some C.size):=⟨by rw[←HC.out];kernel_rfl⟩;obtain⟨W,hW⟩:=zev (w.alloc (.cells C 37));obtain⟨r0,hWs,b0⟩:=one hW;have CB:=ztb r0;have BW:=ω b0;have HW:=ω hW;clear hW r0 b0 hWs;by_cases h:latt k l e t a b o s=true
 rotate_left
 ·have h:latt k l e t a b o s=false:=by simpa using h
  have hVe:Ω (V=.tuple #[.int .i64 0,.int .i64 0,.int .i64 0]):=⟨by rw[←HV.out];unfold szs;rw[h];rfl⟩;rw[h]at HR0;have HR:=ω HR0;clear HR0 h HL0;go_enter Tryz.func18,Tryz.ntmps18;go_wp2_with (first
   | (rw[HW.out])
   | (refine wpList_load_row rfl 37 _ rfl w.heap.size rfl 37 _ (0,0) _ (CB.out _ (Below.refl _ _)) zZ rfl HCs.out ?_))
  refine(HR.out _).mono ?_;rintro x u1 ⟨rfl,hb1⟩;have B1:=zbt BW hb1;clear hb1;go_wp2_with fail;go_ret3
  exact⟨by rw[hVe.out];rfl,B1.out⟩
 rw[h]at HR0;have HR:=ω HR0;obtain⟨⟨k1,k8⟩,⟨l1,l8⟩,he,ha,⟨o1,o8⟩,hs⟩:=xby h;obtain⟨E,hE⟩:∃ E:Nat,lb (2*e).toNat=E:=⟨_,rfl⟩;obtain⟨A,hA⟩:∃ A:Nat,lb (a-1).toNat=A:=⟨_,rfl⟩;have hE3:E=3∨E=4:=by rcases he with rfl | rfl<;>(rw[←hE];decide +kernel)
 have hA3:A=17∨A=19:=by rcases ha with rfl | rfl<;>(rw[←hA];decide +kernel)
 have hA4:lb (2*a-1).toNat=A+1:=by rcases ha with rfl | rfl<;>(rw[←hA];decide +kernel)
 obtain⟨wd,hwd⟩:∃ wd:Nat→Nat,wd=fun r=>if r=2 then 13 else E:=⟨_,rfl⟩
 have hwl:∀ r,r<3→lb (lw e r+hg e r).toNat=wd r:=fun r hr=>by
  rw[hwd];rcases (show r=0∨r=1∨r=2 by omega) with rfl | rfl | rfl
  ·show lb (e+e).toNat=E;rw[(xe2 e he).1,hE]
  ·show lb (e+e).toNat=E;rw[(xe2 e he).1,hE]
  ·exact xea
 have hwb:∀ r,wd r≤13:=fun r=>by rw[hwd];show (if r=2 then 13 else E)≤13;split<;>omega
 have HZ1:Ω (∀ (r:Nat) (w1:World),r<3→Calls Tryz.prog 47 #[.int .i64 (lw e r+hg e r)] w1 (zE w1 (.int .i64 (32*(wd r:Int))))):=⟨fun r w1 hr=>xb1 _ _ (by have:=xh1 e r he;omega) (hwl r hr) (by have:=hwb r;omega) w1⟩;have HZ2:Ω (∀ w1:World,Calls Tryz.prog 47 #[.int .i64 1023] w1 (zE w1 (.int .i64 (32*((10:Nat):Int))))):=⟨fun w1=>xb1 1023 10 (by decide) xh0 (by decide) w1⟩;have HZ3:Ω (∀ w1:World,Calls Tryz.prog 47 #[.int .i64 (2*a-1)] w1 (zE w1 (.int .i64 (32*((A+1:Nat):Int))))):=⟨fun w1=>xb1 _ _ (by omega) hA4 (by omega) w1⟩;obtain⟨S,hS⟩:∃ S:Nat→Int,S=fun r=>if r=0 then 128 else if r=1 then 128+l*(32*(E:Int)) else if r=2 then 128+l*(32*(E:Int))+k*(32*(E:Int)) else 128+l*(32*(E:Int))+k*(32*(E:Int))+k*416:=⟨_,rfl⟩
 have hSb:∀ r,r≤3→0≤S r∧S r≤100000:=fun r hr=>by
  rw[hS];have : 0≤l*(32*(E:Int))∧l*(32*(E:Int))≤1024:=by rcases hE3 with rfl | rfl<;>(constructor<;>omega)
  have : 0≤k*(32*(E:Int))∧k*(32*(E:Int))≤1024:=by rcases hE3 with rfl | rfl<;>(constructor<;>omega)
  show 0≤(if r=0 then (128:Int) else _)∧(if r=0 then (128:Int) else _)≤100000;split
  ·omega
  ·split
   ·omega
   ·split<;>omega
 have HS0:Ω (S 0=128):=⟨by rw[hS];rfl⟩;have HStep:Ω (∀ r,r<3→S r+mn k l r*(32*(wd r:Int))=S (r+1)):=⟨fun r hr=>by
  rw[hS,hwd];rcases (show r=0∨r=1∨r=2 by omega) with rfl | rfl | rfl<;>rfl⟩
 have hmb:∀ r,1≤mn k l r∧mn k l r≤8:=fun r=>by unfold mn;split<;>omega
 have hEl : 32*(E:Int)*(l+k)=l*(32*(E:Int))+k*(32*(E:Int)):=by rw[Int.mul_add,Int.mul_comm _ l,Int.mul_comm _ k]
 have HS3:Ω (S 3=sz2 k l e):=⟨by
  rw[hS];show 128+l*(32*(E:Int))+k*(32*(E:Int))+k*416=_;unfold sz2;rw[hE,hEl];omega⟩
 obtain⟨N,hN⟩:∃ N:Int,32*((A+1:Nat):Int)=N:=⟨_,rfl⟩;rw[hN]at HZ3;obtain⟨r,hr⟩:∃ r:Int,l*N=r:=⟨_,rfl⟩;obtain⟨d,hd⟩:∃ d:Int,s / 4=d:=⟨_,rfl⟩;have hrb : 0≤r∧r≤5120:=by rcases hA3 with rfl | rfl<;>(rw[←hr,←hN];omega)
 have f3:IntKind.i64.wrap (k*320)=320*k:=zwi;have f4:IntKind.i64.wrap (32+320*k)=32+320*k:=zwi;have g1:s.tdiv 4=d:=by rw[Int.tdiv_eq_ediv_of_nonneg (by omega)];exact hd
 have g1':IntKind.i64.wrap (s.tdiv 4)=d:=by rw[g1,IntKind.wrap_i64];omega
 have g1'':IntKind.i64.wrap d=d:=zwi;have g2:IntKind.i64.wrap (2*a)=2*a:=zwi;have g3:IntKind.i64.wrap (2*a-1)=2*a-1:=zwi;have g5:IntKind.i64.wrap (l*N)=r:=by rw[hr,IntKind.wrap_i64];omega
 have g6:IntKind.i64.wrap (d+r)=d+r:=zwi;have g7:IntKind.i64.wrap (d+r+o)=d+r+o:=zwi;have g8:IntKind.i64.wrap (d+r+o+k)=d+r+o+k:=zwi;have hVe:Ω (V=.tuple #[.int .i64 (32+320*k),.int .i64 (S 3),.int .i64 (d+r+o+k)]):=⟨by
  rw[←HV.out];unfold szs;rw[if_pos h,HS3.out];unfold sz1 sz3;rw[hA,hd,←hr,←hN,Int.mul_comm l];rfl⟩
 have HIx:Ω (∀ (r:Nat),r<3→∀ w1:World,(Instr.index 89 (.agg (lst k l e)) (.int .i64 (r:Int))).run Tryz.prog w1=.ok (.agg #[.int .i64 (mn k l r),.int .i64 (lw e r),.int .i64 (hg e r)]) w1):=⟨fun r hr w1=>xj6 k l e r hr w1⟩;have Hlo:Ω (∀ r,IntKind.i64.wrap (lw e r+hg e r)=lw e r+hg e r):=⟨fun r=>by have:=xh1 e r he;rw[IntKind.wrap_i64];omega⟩;obtain⟨mf,hmf⟩:=xaa (mn k l);obtain⟨lf,hlf⟩:=xaa (lw e);obtain⟨gf,hgf⟩:=xaa (hg e);obtain⟨Ls,hLs⟩:=xaa (lst k l e);simp only[hmf.out,hlf.out,hgf.out,hLs.out]at HIx Hlo HZ1 HStep hmb HL0;have HSb:=ω hSb;have Hmb:=ω hmb;have Hwb:=ω hwb;have HL:=ω HL0;clear HR0 HL0 h he ha hs hE hA hE3 hA3 hA4 hN hr hd hrb k1 k8 l1 l8 o1 o8 hwl hwb hSb hmb hS hwd HS3 hEl hmf hlf hgf hLs;go_enter Tryz.func18,Tryz.ntmps18;go_wp2_with (first
  | (rw[HW.out])
  | (refine wpList_load_row rfl 37 _ rfl w.heap.size rfl 37 _ (0,0) _ (CB.out _ (Below.refl _ _)) zZ rfl HCs.out ?_))
 refine(HR.out _).mono ?_;rintro x u1 ⟨rfl,hb1⟩;have E1:Ω (Below W.heap.size W u1):=⟨hb1⟩;clear hb1;go_wp2_with (refine wpList_load_row rfl 37 _ rfl w.heap.size rfl 37 _ (0,0) _ (CB.out _ E1.out) zZ rfl HCs.out ?_);refine(HL.out _).mono ?_;rintro x u2 ⟨rfl,hb2⟩;have E2:=zbt E1 hb2;clear hb2;go_wp2_with fail;go_loopw [15,5] (fun iv sv wr=>∃ r:Nat,r≤3∧iv=.int .i64 (r:Int)∧sv=.int .i64 (S r)∧Ω (Below W.heap.size W wr)) (fun iv _ _=>3-(intOf iv).toNat)
 case atStart=>exact⟨0,by decide,rfl,by rw[HS0.out],E2⟩
 case round=>
  obtain⟨i,hi,rfl,rfl,Hb⟩:=hrel;by_cases hlt:i<3
  ·have hiz:(i:Int)<3:=by omega
   have hix:=HIx.out i hlt;obtain⟨m,hm⟩:=xaa (mf i);obtain⟨lo,hlo⟩:=xaa (lf i);obtain⟨hi',hhi⟩:=xaa (gf i);have HSz:=ω (fun w1=>HZ1.out i w1 hlt);have f1:=Hlo.out i;have hst:=HStep.out i hlt;have hb1:=HSb.out i hi;have hb2:=HSb.out (i+1) (by omega);have hb3:=Hmb.out i;have hb4:=Hwb.out i;rw[hm.out,hlo.out,hhi.out]at hix;rw[hlo.out,hhi.out]at f1 HSz;rw[hm.out]at hst hb3;obtain⟨n,hn⟩:=zev (32*(wd i:Int));obtain⟨p,hp⟩:=zev (m*n);rw[hn]at HSz hst;rw[hp]at hst;obtain⟨s0,hs0⟩:=xaa (S i);obtain⟨s1,hs1⟩:=xaa (S (i+1));rw[hs0.out]at hst hb1 ⊢;rw[hs1.out]at hst hb2;have f2:IntKind.i64.wrap (m*n)=p:=by rw[hp,IntKind.wrap_i64];omega
   have f5:IntKind.i64.wrap (s0+p)=s1:=by rw[hst,IntKind.wrap_i64];omega
   clear hst hb1 hb2 hb3 hb4 hp hn;obtain⟨W4,hW4⟩:=zev (wr.alloc (.cells #[.int .i64 m,.int .i64 lo,.int .i64 hi'] 88));obtain⟨r4,hs4,b4⟩:=one hW4;have d0:W4.cell? ⟨wr.heap.size,0,none⟩=some (.int .i64 m):=xab r4 rfl;have d1:W4.cell? ⟨wr.heap.size,1,none⟩=some (.int .i64 lo):=xab r4 rfl;have d2:W4.cell? ⟨wr.heap.size,2,none⟩=some (.int .i64 hi'):=xab r4 rfl;have B4:=zbt Hb b4;have HW4:=ω hW4;clear r4 hs4 b4 hW4;go_wp2_with (rw[HW4.out]);refine xav (by kernel_rfl) (by kernel_rfl) ?_;repeat still_step
   still_call (HSz.out _)
   repeat still_step
   refine wpStill_nil ?_;clear d0 d1 d2;go_wp2_with fail;go_roundw
   case rel=>exact⟨i+1,by omega,by go_num,by rw[hs1.out],⟨B4.out.drew⟩⟩
   case measure=>simp[intOf];omega
  ·obtain rfl:i=3:=by omega
   simp only[Int.cast_ofNat_Int];obtain⟨s3,hs3⟩:=xaa (S 3);rw[hs3.out]at hVe ⊢;have hc:=CB.out wr Hb.out;have c0:wr.cell? ⟨w.heap.size,0,none⟩=some (.int .i64 k):=xab hc (by rw[←HC.out];rfl);have c1:wr.cell? ⟨w.heap.size,1,none⟩=some (.int .i64 l):=xab hc (by rw[←HC.out];rfl);have c4:wr.cell? ⟨w.heap.size,4,none⟩=some (.int .i64 a):=xab hc (by rw[←HC.out];rfl);have c6:wr.cell? ⟨w.heap.size,6,none⟩=some (.int .i64 o):=xab hc (by rw[←HC.out];rfl);have c7:wr.cell? ⟨w.heap.size,7,none⟩=some (.int .i64 s):=xab hc (by rw[←HC.out];rfl);clear hc;go_wp2_with fail;refine xav (by kernel_rfl) (by kernel_rfl) ?_;repeat still_step
   still_call (HZ2.out _)
   repeat still_step
   refine wpStill_nil ?_;go_wp2_with fail;refine xav (by kernel_rfl) (by kernel_rfl) ?_;repeat still_step
   still_call (HZ3.out _)
   repeat still_step
   refine wpStill_nil ?_;clear c0 c1 c4 c6 c7;go_wp2_with fail;go_ret3
   exact⟨by rw[hVe.out];rfl,BW.out.trans ((Hb.out.drew.drew).mono BW.out.size)⟩
end ksz
namespace ken
open arr mem stil polys polt pols rbita rbitb rbitd rbite rbitf rbitg bitp rndm saml lsl11 qrow mlkm mlkb rkpb mlkd
theorem xmv(f:Nat→Int)(w:World):
 Calls Tryz.prog 100 #[.agg (FL .i64 256 f)] w (zB w (if inb f 1023 then .tuple #[.string (packed f 1023),.int .i64 0] else .tuple #[.string ⟨#[]⟩,.int .i64 6])):=by
 obtain⟨hz,hsize⟩:=zero_of_info polt.infoP;have HP:=fun w1=>ppack.xds f 1023 w1 (by decide) (by decide)
 obtain⟨V1,V2,HV⟩:∃ (V1:ByteArray) (V2:Int),Ω ((if inb f 1023 then .tuple #[.string (packed f 1023),.int .i64 0] else .tuple #[.string ⟨#[]⟩,.int .i64 6]:Value)=.tuple #[.string V1,.int .i64 V2]):=by
  by_cases h:inb f 1023
  ·exact⟨_,_,⟨if_pos h⟩⟩
  ·exact⟨_,_,⟨if_neg h⟩⟩
 rw[HV.out]at HP ⊢;obtain⟨F,HF⟩:=xaa (FL .i64 256 f);have Fi:=zri HF hsize;rw[HF.out]at HP ⊢;have HP:=ω HP;obtain⟨W,hW⟩:=zev (w.alloc (.cells F 109));obtain⟨r0,hWs,b0⟩:=one hW;have R0:=ω r0;have B0:=ω b0;have HW:=ω hW;clear hz hsize hW r0 hWs b0 HV;go_enter Tryz.func100,Tryz.ntmps100;go_wp2_with (first
  | (rw[HW.out])
  | (refine wpList_load_row rfl 109 _ rfl w.heap.size rfl 109 F (0,0) _ R0.out zX rfl Fi.out ?_))
 refine(HP.out _).mono ?_;rintro e w5 ⟨rfl,hb5⟩;have D5:=zbt B0 hb5;clear hb5;go_wp2_with fail;go_ret2;exact⟨rfl,D5.out⟩
theorem xmw(f:Nat→Int)(gc:Nat)(low high:Int)(w:World)(h1 : 0≤low)(h2 : 1≤high)(h3:low<4190208)(h4:high<4190208)(hg:gc<w.heap.size)(hc1:w.cell? ⟨gc,1,none⟩=some (.int .i64 low))(hc2:w.cell? ⟨gc,2,none⟩=some (.int .i64 high)):
 Calls Tryz.prog 102 #[.agg (FL .i64 256 f),.pointer (some ⟨gc,0,none⟩)] w (zB w (if ins f low high then .tuple #[.string (packed (sg f high) (low+high)),.int .i64 0] else .tuple #[.string ⟨#[]⟩,.int .i64 6])):=by
 obtain⟨hz,hsize⟩:=zero_of_info polt.infoP;have HP:=fun w1=>psig.xit f low high w1 h1 h3 h2 h4
 obtain⟨V1,V2,HV⟩:∃ (V1:ByteArray) (V2:Int),Ω ((if ins f low high then .tuple #[.string (packed (sg f high) (low+high)),.int .i64 0] else .tuple #[.string ⟨#[]⟩,.int .i64 6]:Value)=.tuple #[.string V1,.int .i64 V2]):=by
  by_cases h:ins f low high
  ·exact⟨_,_,⟨if_pos h⟩⟩
  ·exact⟨_,_,⟨if_neg h⟩⟩
 rw[HV.out]at HP ⊢;obtain⟨F,HF⟩:=xaa (FL .i64 256 f);have Fi:=zri HF hsize;rw[HF.out]at HP ⊢;have HP:=ω HP;obtain⟨W,hW⟩:=zev (w.alloc (.cells F 109));obtain⟨r0,hWs,b0⟩:=one hW;have d1:W.cell? ⟨gc,1,none⟩=some (.int .i64 low):=(b0.cell (p:=⟨gc,1,none⟩) hg).trans hc1;have d2:W.cell? ⟨gc,2,none⟩=some (.int .i64 high):=(b0.cell (p:=⟨gc,2,none⟩) hg).trans hc2;have R0:=ω r0;have B0:=ω b0;have HW:=ω hW;clear hz hsize hW r0 hWs b0 HV hc1 hc2 hg h1 h2 h3 h4;go_enter Tryz.func102,Tryz.ntmps102;go_wp2_with (first
  | (rw[HW.out])
  | (refine wpList_load_row rfl 109 _ rfl w.heap.size rfl 109 F (0,0) _ R0.out zX rfl Fi.out ?_))
 refine(HP.out _).mono ?_;rintro e w5 ⟨rfl,hb5⟩;have D5:=zbt B0 hb5;clear hb5;go_wp2_with fail;go_ret2;exact⟨rfl,D5.out⟩
theorem xrx(s:ByteArray)(m:Nat)(v:Value)(B:Nat)(q:Nat→Nat→Int)(X:Nat→ByteArray)(ok:Nat→Prop)(V:Value)(w:World)(hm:m≤8)(hv:Holds w B v m q)(hs:s.size≤100000)(hX:∀ i,i<m→(X i).size≤1000)
 (hV1:(∀ i,i<m→ok i)→V=.tuple #[.string (cat s X m),.int .i64 0]) (hV2:∀ i,i<m→¬ ok i→V=.tuple #[.string ⟨#[]⟩,.int .i64 6])
 (HC1:∀ i,i<m→ok i→∀ w1:World,Below w.heap.size w w1→Calls Tryz.prog 100 #[.agg (FL .i64 256 (q i))] w1 (zB w1 (.tuple #[.string (X i),.int .i64 0])))
 (HC2:∀ i,i<m→¬ ok i→∀ w1:World,Below w.heap.size w w1→Calls Tryz.prog 100 #[.agg (FL .i64 256 (q i))] w1 (zB w1 (.tuple #[.string ⟨#[]⟩,.int .i64 6]))):
 Calls Tryz.prog 99 #[.string s,v,.func (.func 100) #[] #[]] w fun e w'=>e=.returned V∧Below w.heap.size w w':=by
 obtain⟨hz,hsize⟩:=zero_of_info polt.infoP;have Hsize:=ω hsize;obtain⟨g,c,hvs,-⟩:=xan hv;have Hv:=ω hv;have HC1:=ω HC1;have HC2:=ω HC2;have HV1:=ω hV1;have HV2:=ω hV2;have HX:=ω hX;have Hs:=ω hs;have Hcs:Ω (∀ r,r≤m→(cat s X r).size≤100000+1000*r):=⟨fun r hr=>by
  induction r with
  | zero=>show s.size≤_;omega
  | succ r ih=>
   have h1:=ih (by omega);have h2:=hX r (by omega);rw[cat,ByteArray.size_append];omega⟩
 subst hvs;clear hv hz hsize hV1 hV2 hX hs;go_enter Tryz.func99,Tryz.ntmps99;go_wp2_with fail;go_loopw [13,0] (fun iv sv wr=>∃ r:Nat,r≤m∧iv=.int .i64 (r:Int)∧sv=.string (cat s X r)∧Ω (∀ i,i<r→ok i)∧Ω (Below w.heap.size w wr)) (fun iv _ _=>m-(intOf iv).toNat)
 case atStart=>exact⟨0,Nat.zero_le _,rfl,rfl,⟨fun i hi=>by omega⟩,⟨Below.refl _ _⟩⟩
 case round=>
  obtain⟨r,hr,rfl,rfl,Hin,Hb⟩:=hrel;by_cases hlt:r<m
  ·have hrz2:(r:Int)<(m:Int):=by omega
   have hr8:r<8:=by omega
   have hrg:=xax (Hv.out.later Hb.out) r hlt;have HCa:=HC1.out r hlt;have HCb:=HC2.out r hlt;obtain⟨F,HF⟩:=xaa (FL .i64 256 (q r));obtain⟨o6,ho6⟩:=zev (r*256);rw[HF.out,ho6]at hrg;rw[HF.out]at HCa HCb;have Hrg:=ω hrg;have Fi:=zri HF Hsize.out;obtain⟨S,HS⟩:=xaa (cat s X r);have HSs:Ω (S.size≤108000):=⟨by rw[←HS.out];have:=Hcs.out r hr;omega⟩;rw[HS.out];have Hlt:=ω hlt;clear hrg;by_cases hok:ok r
   ·have HPk:=ω (fun w1 hb=>HCa hok w1 hb);have Hcat:Ω (S++X r=cat s X (r+1)):=⟨by rw[←HS.out,cat]⟩;have hxs:=HX.out r hlt;obtain⟨Y,HY⟩:=xaa (X r);rw[HY.out]at HPk Hcat hxs;have hsz:¬ 9223372036854775807<S.size+Y.size:=by have:=HSs.out;omega
    have Hin2:Ω (∀ i,i<r+1→ok i):=⟨fun i hi=>by
     by_cases e:i=r
     ·rw[e];exact hok
     ·exact Hin.out i (by omega)⟩
    clear hok HCa HCb hxs;go_wp2_with (first
     | ((with_reducible refine wpList_load_mid rfl 109 _ rfl g o6 ?hx F.toList _ Hrg.out zX rfl ?hi ?_);(case hx=>rfl);(case hi=>rw[Array.length_toList];exact Fi.out)))
    refine(HPk.out _ Hb.out).mono ?_;rintro e w5 ⟨rfl,hb5⟩;have D5:=zbt Hb hb5;clear hb5;go_wp2_with fail;go_roundw
    case rel=>exact⟨r+1,by have:=Hlt.out;omega,by go_num,by rw[Hcat.out],Hin2,D5⟩
    case measure=>have:=Hlt.out;simp[intOf];omega
   ·have HPk:=ω (fun w1 hb=>HCb hok w1 hb);have hVe:Ω (V=.tuple #[.string ⟨#[]⟩,.int .i64 6]):=⟨HV2.out r hlt hok⟩;clear hok HCa HCb;go_wp2_with (first
     | ((with_reducible refine wpList_load_mid rfl 109 _ rfl g o6 ?hx F.toList _ Hrg.out zX rfl ?hi ?_);(case hx=>rfl);(case hi=>rw[Array.length_toList];exact Fi.out)))
    refine(HPk.out _ Hb.out).mono ?_;rintro e w5 ⟨rfl,hb5⟩;have D5:=zbt Hb hb5;clear hb5;go_wp2_with fail;go_ret2;exact⟨by rw[hVe.out];rfl,D5.out⟩
  ·obtain rfl:r=m:=by omega
   have hVe:Ω (V=.tuple #[.string (cat s X r),.int .i64 0]):=⟨HV1.out fun i hi=>Hin.out i hi⟩;obtain⟨S,HS⟩:=xaa (cat s X r);rw[HS.out]at hVe ⊢;go_wp2_with fail;go_ret2;exact⟨by rw[hVe.out];rfl,Hb.out⟩
theorem xry(gc:Nat)(s:ByteArray)(m:Nat)(v:Value)(B:Nat)(q:Nat→Nat→Int)(X:Nat→ByteArray)(ok:Nat→Prop)(V:Value)(w:World)(hm:m≤8)(hv:Holds w B v m q)(hs:s.size≤100000)(hX:∀ i,i<m→(X i).size≤1000)
 (hV1:(∀ i,i<m→ok i)→V=.tuple #[.string (cat s X m),.int .i64 0]) (hV2:∀ i,i<m→¬ ok i→V=.tuple #[.string ⟨#[]⟩,.int .i64 6])
 (HC1:∀ i,i<m→ok i→∀ w1:World,Below w.heap.size w w1→Calls Tryz.prog 102 #[.agg (FL .i64 256 (q i)),.pointer (some ⟨gc,0,none⟩)] w1 (zB w1 (.tuple #[.string (X i),.int .i64 0])))
 (HC2:∀ i,i<m→¬ ok i→∀ w1:World,Below w.heap.size w w1→Calls Tryz.prog 102 #[.agg (FL .i64 256 (q i)),.pointer (some ⟨gc,0,none⟩)] w1 (zB w1 (.tuple #[.string ⟨#[]⟩,.int .i64 6]))):
 Calls Tryz.prog 99 #[.string s,v,.func (.func 102) #[] #[.pointer (some ⟨gc,0,none⟩)]] w fun e w'=>e=.returned V∧Below w.heap.size w w':=by
 obtain⟨hz,hsize⟩:=zero_of_info polt.infoP;have Hsize:=ω hsize;obtain⟨g,c,hvs,-⟩:=xan hv;have Hv:=ω hv;have HC1:=ω HC1;have HC2:=ω HC2;have HV1:=ω hV1;have HV2:=ω hV2;have HX:=ω hX;have Hs:=ω hs;have Hcs:Ω (∀ r,r≤m→(cat s X r).size≤100000+1000*r):=⟨fun r hr=>by
  induction r with
  | zero=>show s.size≤_;omega
  | succ r ih=>
   have h1:=ih (by omega);have h2:=hX r (by omega);rw[cat,ByteArray.size_append];omega⟩
 subst hvs;clear hv hz hsize hV1 hV2 hX hs;go_enter Tryz.func99,Tryz.ntmps99;go_wp2_with fail;go_loopw [13,0] (fun iv sv wr=>∃ r:Nat,r≤m∧iv=.int .i64 (r:Int)∧sv=.string (cat s X r)∧Ω (∀ i,i<r→ok i)∧Ω (Below w.heap.size w wr)) (fun iv _ _=>m-(intOf iv).toNat)
 case atStart=>exact⟨0,Nat.zero_le _,rfl,rfl,⟨fun i hi=>by omega⟩,⟨Below.refl _ _⟩⟩
 case round=>
  obtain⟨r,hr,rfl,rfl,Hin,Hb⟩:=hrel;by_cases hlt:r<m
  ·have hrz2:(r:Int)<(m:Int):=by omega
   have hr8:r<8:=by omega
   have hrg:=xax (Hv.out.later Hb.out) r hlt;have HCa:=HC1.out r hlt;have HCb:=HC2.out r hlt;obtain⟨F,HF⟩:=xaa (FL .i64 256 (q r));obtain⟨o6,ho6⟩:=zev (r*256);rw[HF.out,ho6]at hrg;rw[HF.out]at HCa HCb;have Hrg:=ω hrg;have Fi:=zri HF Hsize.out;obtain⟨S,HS⟩:=xaa (cat s X r);have HSs:Ω (S.size≤108000):=⟨by rw[←HS.out];have:=Hcs.out r hr;omega⟩;rw[HS.out];have Hlt:=ω hlt;clear hrg;by_cases hok:ok r
   ·have HPk:=ω (fun w1 hb=>HCa hok w1 hb);have Hcat:Ω (S++X r=cat s X (r+1)):=⟨by rw[←HS.out,cat]⟩;have hxs:=HX.out r hlt;obtain⟨Y,HY⟩:=xaa (X r);rw[HY.out]at HPk Hcat hxs;have hsz:¬ 9223372036854775807<S.size+Y.size:=by have:=HSs.out;omega
    have Hin2:Ω (∀ i,i<r+1→ok i):=⟨fun i hi=>by
     by_cases e:i=r
     ·rw[e];exact hok
     ·exact Hin.out i (by omega)⟩
    clear hok HCa HCb hxs;go_wp2_with (first
     | ((with_reducible refine wpList_load_mid rfl 109 _ rfl g o6 ?hx F.toList _ Hrg.out zX rfl ?hi ?_);(case hx=>rfl);(case hi=>rw[Array.length_toList];exact Fi.out)))
    refine(HPk.out _ Hb.out).mono ?_;rintro e w5 ⟨rfl,hb5⟩;have D5:=zbt Hb hb5;clear hb5;go_wp2_with fail;go_roundw
    case rel=>exact⟨r+1,by have:=Hlt.out;omega,by go_num,by rw[Hcat.out],Hin2,D5⟩
    case measure=>have:=Hlt.out;simp[intOf];omega
   ·have HPk:=ω (fun w1 hb=>HCb hok w1 hb);have hVe:Ω (V=.tuple #[.string ⟨#[]⟩,.int .i64 6]):=⟨HV2.out r hlt hok⟩;clear hok HCa HCb;go_wp2_with (first
     | ((with_reducible refine wpList_load_mid rfl 109 _ rfl g o6 ?hx F.toList _ Hrg.out zX rfl ?hi ?_);(case hx=>rfl);(case hi=>rw[Array.length_toList];exact Fi.out)))
    refine(HPk.out _ Hb.out).mono ?_;rintro e w5 ⟨rfl,hb5⟩;have D5:=zbt Hb hb5;clear hb5;go_wp2_with fail;go_ret2;exact⟨by rw[hVe.out];rfl,D5.out⟩
  ·obtain rfl:r=m:=by omega
   have hVe:Ω (V=.tuple #[.string (cat s X r),.int .i64 0]):=⟨HV1.out fun i hi=>Hin.out i hi⟩;obtain⟨S,HS⟩:=xaa (cat s X r);rw[HS.out]at hVe ⊢;go_wp2_with fail;go_ret2;exact⟨by rw[hVe.out];rfl,Hb.out⟩
end ken
namespace kde
open arr mem stil polys polt pols rbita rbitb rbitd rbite rbitf rbitg bitp rndm saml lsl11 qrow mlkm mlkb rkpb mlkd
theorem xl4(s:ByteArray)(low high:Int)(w:World)(h1 : 0≤low)(h2 : 1≤high)(h3:low<4190208)(h4:high<4190208)(hs:s.size=32*lb (low+high).toNat):
 Calls Tryz.prog 58 #[.string s,.int .i64 low,.int .i64 high] w (zB w (if inb (up s (lb (low+high).toNat)) (low+high) then .tuple #[.agg (FL .i64 256 (un (up s (lb (low+high).toNat)) high)),.int .i64 0] else .tuple #[.agg (FL .i64 256 fun _=>0),.int .i64 3])):=by
 have hu:=fun w1=>punp.xgz s (low+high) w1 (by omega) (by omega) hs
 by_cases hin:inb (up s (lb (low+high).toNat)) (low+high)
 ·simp only[if_pos hin]at hu ⊢;exact puns.xg0 s low high w _ h1 h2 h3 h4 hin hu
 ·simp only[if_neg hin]at hu ⊢;exact puns.xl5 s low high w 3 h1 h2 h3 h4 (by decide) hu
theorem xmx(x:ByteArray)(gc:Nat)(low high:Int)(w:World)(V:Array Value)(c:Int)(hVs:V.size=256)(hVo:V.all (·.oneCell')=true)(hg:gc<w.heap.size)(hc1:w.cell? ⟨gc,1,none⟩=some (.int .i64 low))(hc2:w.cell? ⟨gc,2,none⟩=some (.int .i64 high))
 (HP:∀ w1:World,Calls Tryz.prog 58 #[.string x,.int .i64 low,.int .i64 high] w1 (zB w1 (.tuple #[.agg V,.int .i64 c]))):
 Calls Tryz.prog 57 #[.string x,.pointer (some ⟨gc,0,none⟩)] w (zB w (.tuple #[.agg V,.int .i64 c])):=by
 obtain⟨hz,hsize⟩:=zero_of_info polt.infoP;obtain⟨z,HZ⟩:=xaa (FL .i64 256 fun _=>0);rw[HZ.out]at hz;have Hzs:=zfs HZ;have Vi:Ω ((Tryz.prog.info? 109).map (·.size)=some V.size):=⟨by rw[hVs];exact hsize⟩;have Vz:Ω (z.size=V.size):=⟨by rw[Hzs.out,hVs]⟩;have Vo:=ω hVo;have HP:=ω HP;obtain⟨W,hW⟩:=zev (w.alloc (.cells z 109));obtain⟨r0,hWs,b0⟩:=one hW;have d1:W.cell? ⟨gc,1,none⟩=some (.int .i64 low):=(b0.cell (p:=⟨gc,1,none⟩) hg).trans hc1;have d2:W.cell? ⟨gc,2,none⟩=some (.int .i64 high):=(b0.cell (p:=⟨gc,2,none⟩) hg).trans hc2;have R0:Ω (W.heap[w.heap.size]? = some (.cells z 109 (0,0))):=⟨r0⟩;have B0:=ω b0;have HW:=ω hW;clear hsize hW r0 b0 hVs hVo HZ hc1 hc2 hWs hg;go_enter Tryz.func57,Tryz.ntmps57;go_wp2_with (rw[HW.out]);refine(HP.out _).mono ?_;rintro e w5 ⟨rfl,hb5⟩;have D5:=zbt B0 hb5;have R5:Ω (w5.heap[w.heap.size]? = some (.cells z 109 (0,0))):=⟨(hb5.block _ (xac R0.out)).trans R0.out⟩;clear hb5;go_wp2_with (refine wpList_store_row rfl 109 _ _ rfl w.heap.size V rfl rfl 109 _ R5.out Vi.out Vz.out Vo.out ?_);refine bodyPost_ret_by (v:=.tuple #[.agg V,.int .i64 c]) (rbite.results_cell_tmp rfl _ _ w.heap.size 109 _ (0,0) _ rfl (setRow_heap _ _ _ _ _ _ R5.out) zX rfl Vi.out _ rfl) rfl ?_;exact⟨rfl,D5.out.trans (below_setRow _ _ _ (Nat.le_refl _))⟩
theorem xrt(gc:Nat)(s:ByteArray)(m n:Nat)(q:Nat→Nat→Int)(ok:Nat→Prop)(w:World)(hm : 1≤m∧m≤8)(hn:n≤1000)(hs:s.size=m*n)
 (HC1:∀ i,i<m→ok i→∀ w1:World,Below w.heap.size w w1→Calls Tryz.prog 57 #[.string (s.extract (i*n) ((i+1)*n)),.pointer (some ⟨gc,0,none⟩)] w1 (zB w1 (.tuple #[.agg (FL .i64 256 (q i)),.int .i64 0])))
 (HC2:∀ i,i<m→¬ ok i→∀ w1:World,Below w.heap.size w w1→Calls Tryz.prog 57 #[.string (s.extract (i*n) ((i+1)*n)),.pointer (some ⟨gc,0,none⟩)] w1 (zB w1 (.tuple #[.agg (FL .i64 256 fun _=>0),.int .i64 3]))):
 Calls Tryz.prog 56 #[.string s,.int .i64 (m:Int),.func (.func 57) #[] #[.pointer (some ⟨gc,0,none⟩)]] w fun x w'=>(((∀ i,i<m→ok i)∧∃ v,x=.returned (.tuple #[v,.int .i64 0])∧Holds w' w.heap.size v m q)∨((¬ ∀ i,i<m→ok i)∧x=.returned (.tuple #[.slice none 0 0,.int .i64 3])))∧Below w.heap.size w w':=by
 obtain⟨i0,hi,hz0,hz1,hz2⟩:=rbitb.parts infoPoly;obtain⟨hz,hsize⟩:=zero_of_info polt.infoP;obtain⟨z,HZ⟩:=xaa (FL .i64 256 fun _=>0);rw[HZ.out]at hz hz0;have HI:=ω (And.intro hi (And.intro hz0 (And.intro hz1 hz2)));have Hzs:=zfs HZ;have Hsize:=ω hsize;have hm1:=hm.1;have hm8:=hm.2;have hmz:((m:Int)==0)=false:=by simp;omega
 have hmz2:¬ (m:Int)=0:=by omega
 have hmn:m*n≤8000:=Nat.le_trans (Nat.mul_le_mul hm.2 hn) (by decide);have hdiv:(s.size:Int).tdiv (m:Int)=(n:Int):=by
  rw[hs,Int.tdiv_eq_ediv_of_nonneg (by omega)];push_cast
  exact Int.mul_ediv_cancel_left _ hmz2
 have hde:(s.size:Int) / (m:Int)=(n:Int):=by
  rw[←hdiv,Int.tdiv_eq_ediv_of_nonneg (by omega)]
 have hdw:IntKind.i64.wrap ((s.size:Int) / (m:Int))=(n:Int):=by rw[hde,IntKind.wrap_i64];omega
 have HC1:=ω HC1;have HC2:=ω HC2;have Hs:=ω hs;have Hmn:=ω hmn;have Hm:=ω hm;have hn0 : 0≤(n:Int):=by omega
 clear hi hz0 hz1 hz2 hsize hs hmn hm hdiv hde;go_enter Tryz.func56,Tryz.ntmps56;go_wp2_with (at_make;refine wpList_make_full _ rfl (.tmp 13) (.tmp 13) 67 rfl w.heap.size 109 i0 (.agg z) 256 Tryz.underlying67 HI.out.1 HI.out.2.1 HI.out.2.2.1 .i64 .i64 m m m rfl rfl rfl rfl (by rw[HI.out.2.2.2];omega) (by unfold maxLen;omega) (Nat.le_refl _) ?_);intro w5 hown hgr;obtain⟨hrow,hb5⟩:=xbm HZ.out hown hgr;obtain⟨g,hg⟩:=zev w.heap.size;rw[hg]at hrow ⊢;have A5:Ω (At g (RW m (fst q 0)) 109 w5 w5):=⟨by rw[xbl];exact At.refl hrow⟩;have B5:Ω (Below w.heap.size w w5):=⟨hb5⟩;have Hg:=ω hg;clear hown hgr hrow hb5 hg;go_wp2_with fail;go_loopw [21] (fun v wr=>∃ r:Nat,r≤m∧v=.int .i64 (r:Int)∧Ω (∀ i,i<r→ok i)∧Ω (At g (RW m (fst q r)) 109 w5 wr)) (fun v _=>m-(intOf v).toNat)
 case atStart=>exact⟨0,Nat.zero_le _,rfl,⟨fun i hi=>by omega⟩,A5⟩
 case round=>
  clear A5;obtain⟨r,hr,rfl,Hin,A0⟩:=hrel;have BU:Ω (Below w.heap.size w wr):=⟨B5.out.trans (A0.out.below B5.out.size (Nat.le_of_eq Hg.out))⟩;by_cases hlt:r<m
  ·have hrz:(r:Int)<(m:Int):=by omega
   have hr8:r<8:=by omega
   have hmul:(r+1)*n≤m*n:=Nat.mul_le_mul_right n hlt;have hsplit:(r+1)*n=r*n+n:=Nat.succ_mul r n;have HCa:=HC1.out r hlt;have HCb:=HC2.out r hlt;obtain⟨p,hp⟩:=zev (r*n);obtain⟨p2,hp2⟩:=zev ((r+1)*n);rw[hp,hp2]at HCa HCb;have hps:p2≤s.size:=by have:=Hs.out;omega
   have hpp:p≤p2:=by omega
   have hpz:p2≤8000:=by have:=Hmn.out;omega
   have f1:IntKind.i64.wrap ((r:Int)*(n:Int))=(p:Int):=by rw[show (r:Int)*(n:Int)=((r*n:Nat):Int) by push_cast;rfl,hp,IntKind.wrap_i64];omega
   have f2:IntKind.i64.wrap (((r:Int)+1)*(n:Int))=(p2:Int):=by rw[show ((r:Int)+1)*(n:Int)=(((r+1)*n:Nat):Int) by push_cast;rfl,hp2,IntKind.wrap_i64];omega
   obtain⟨X,HX⟩:=xaa (s.extract p p2);have hex:=HX.out;rw[HX.out]at HCa HCb;have Hlt:=ω hlt;clear hmul hsplit hp hp2;by_cases hok:ok r
   ·have HCr:=ω (HCa hok);have Hin2:Ω (∀ i,i<r+1→ok i):=⟨fun i hi=>by
     by_cases e:i=r
     ·rw[e];exact hok
     ·exact Hin.out i (by omega)⟩
    obtain⟨F,HF⟩:=xaa (FL .i64 256 (q r));rw[HF.out]at HCr;have Fs:=zfs HF;have Fo:=zro HF;have Fi:=zsz Fs Hsize.out;have Fz:Ω (z.size=F.size):=⟨by rw[Hzs.out,Fs.out]⟩;have Hup:Ω (ups (fst q r) r (q r)=fst q (r+1)):=⟨xbp q r⟩;obtain⟨o6,ho6⟩:=zev (r*256);have Ho6:=ω ho6;clear hok HCa HCb;go_wp2_with fail;refine(HCr.out _ BU.out).mono ?_;rintro e w3 ⟨rfl,hb3⟩;obtain⟨W4,hW4⟩:=zev (w3.alloc (.cells F 109));obtain⟨r4,hs4,b4⟩:=one hW4;have R4:=ω r4;have A4:Ω (At g (RW m (fst q r)) 109 w5 W4):=⟨A0.out.later (hb3.trans (b4.mono hb3.size))⟩;have HW4:=ω hW4;clear hb3 hW4 r4 hs4 b4;go_wp2_with (first
     | (refine xam rfl 109 _ _ rfl F rfl rfl Fi.out (by exact Fz.out) Fo.out rfl ?_)
     | (rw[HW4.out])
     | (refine wpList_load_row rfl 109 _ rfl w3.heap.size rfl 109 F (0,0) _ R4.out zX rfl Fi.out ?_)
     | ((with_reducible refine xcg A4 HF.out Hlt.out Ho6.out rfl _ _ rfl rfl ?hx ?hy ?_);(case hx=>exact rfl);(case hy=>exact rfl);intro w7 A7;rw[Hup.out]at A7))
    go_roundw
    case rel=>exact⟨r+1,by have:=Hlt.out;omega,by go_num,Hin2,A7⟩
    case measure=>have:=Hlt.out;simp[intOf];omega
   ·have HCr:=ω (HCb hok);rw[HZ.out]at HCr;have Zi:=zsz Hzs Hsize.out;have Zo:=zro HZ;have Hno:Ω (¬ ∀ i,i<m→ok i):=⟨fun h=>hok (h r Hlt.out)⟩;clear hok HCa HCb;go_wp2_with fail;refine(HCr.out _ BU.out).mono ?_;rintro e w3 ⟨rfl,hb3⟩;obtain⟨W4,hW4⟩:=zev (w3.alloc (.cells z 109));obtain⟨r4,hs4,b4⟩:=one hW4;have B4:Ω (Below w.heap.size w W4):=⟨BU.out.trans ((hb3.trans (b4.mono hb3.size)).mono BU.out.size)⟩;have HW4:=ω hW4;clear hb3 hW4 r4 hs4 b4;go_wp2_with (first
     | (refine xam rfl 109 _ _ rfl z rfl rfl Zi.out rfl Zo.out rfl ?_)
     | (rw[HW4.out]))
    go_ret2;exact⟨Or.inr ⟨Hno.out,rfl⟩,B4.out⟩
  ·obtain rfl:r=m:=by omega
   have HH:Ω (Holds wr w.heap.size (.slice (some ⟨g,0,none⟩) r r) r q):=⟨xbo A0.out.row (Nat.le_of_eq Hg.out) (fun i hi=>xbk q r i hi)⟩;clear A0;go_wp2_with fail;go_ret2;exact⟨Or.inl ⟨Hin.out,_,rfl,HH.out⟩,BU.out⟩
end kde
namespace krw
open arr mem stil polys polt pols rbitb nttl saml qrow mlkm rkpb rkrw
theorem xa1{w w':World}(hC:∃ p:Regrown,w'=Go.Sort.grow (redrawn w p.d) p.os):Below w.heap.size w w':=by
 obtain⟨pp,rfl⟩:=hC;exact below_regrown _ _ _
theorem xin(T:Array Value)(Z:Nat→Int)(R nv:Nat)(n:Nat→Nat)(x:Nat→Nat→Nat→Int)(y:Nat→Nat→Int)(v vv:Value)(B:Nat)(w:World)(hTs:T.size=465)(hT:nthere.ZT T Z)(hR : 1≤R∧R≤8)(hn:∀ r,r<R→n r≤8)(hv : 1≤nv∧nv≤8)
 (HM:MX w v R n x) (HV:Holds w B vv nv y):
 Calls Tryz.prog 42 #[.agg T,v,vv] w fun e w'=>(∃ v',e=.returned v'∧Holds w' w.heap.size v' R (fun r=>rowv (fun k=>Z k%8380417) (x r) y (min (n r) nv)))∧Below w.heap.size w w':=by
 obtain⟨ζ,hζ⟩:=xaa (fun k=>Z k%8380417);have HTh:Ω (∀ (f:Nat→Int) (w1:World),Calls Tryz.prog 95 #[.agg T,.agg (FL .i64 256 f)] w1 (zB w1 (.agg (FL .i64 256 (thereR ζ 8 f))))):=⟨fun f w1=>by rw[←hζ.out];exact nthere.xfm T Z f w1 hT⟩;have HBk:Ω (∀ (f:Nat→Int) (w1:World),Calls Tryz.prog 97 #[.agg T,.agg (FL .i64 256 f)] w1 (zB w1 (.agg (FL .i64 256 (fun i=>(backR ζ 8 f i*8347681)%8380417))))):=⟨fun f w1=>by rw[←hζ.out];exact nback.xfv T Z f w1 hT⟩;have HTm:=ω ntimes.xcs;have HAd:=ω fadd.xcj;rw[hζ.out];have HTz:Ω ((Tryz.prog.info? 34).map (·.size)=some T.size):=⟨by rw[hTs];kernel_rfl⟩;obtain⟨i0,hi,hz0,hz1,hz2⟩:=parts infoPoly;obtain⟨hz,hsize⟩:=zero_of_info polt.infoP;obtain⟨z,HZ⟩:=xaa (FL .i64 256 fun _=>0);rw[HZ.out]at hz hz0;have HI:=ω (And.intro hi (And.intro hz0 (And.intro hz1 hz2)));have Hzs:=zfs HZ;have Hsize:=ω hsize;obtain⟨G,C,rfl,hG,hrows⟩:=HM;obtain⟨gv,cv,rfl,hgv⟩:=xan HV;have HRows:=ω hrows;have HVv:=ω HV;have HGv:=ω (And.intro hG hgv);have Hn:=ω hn;have Hv:=ω hv;have hnv8:=hv.2;have hR8:=hR.2;obtain⟨th,hth⟩:=xaa (fun j=>thereR ζ 8 (y j));have Hth:Ω (∀ j,thereR ζ 8 (y j)=th j):=⟨fun j=>by rw[←hth.out]⟩;obtain⟨res,hres⟩:=xaa (fun r=>rowv ζ (x r) y (min (n r) nv));have Hres:Ω (∀ r k,(backR ζ 8 (rsum (x r) th (min (n r) nv)) k*8347681)%8380417=res r k):=⟨fun r k=>by rw[←hres.out,←hth.out];rfl⟩;rw[hres.out];obtain⟨W,hW⟩:=zev (w.alloc (.cells T 34));obtain⟨r0,hWs,b0⟩:=one hW;have T0:Ω (W.heap[w.heap.size]? = some (.cells T 34 (0,0))):=⟨r0⟩;have BW:=ω b0;have HWs:=ω hWs;have HW:=ω hW;clear hW r0 b0 hWs hi hz0 hz1 hz2 hsize hrows HV hn hv hR hth hres hζ hG hgv hT hTs
 go_enter Tryz.func42,Tryz.ntmps42;go_wp2_with (first
  | (rw[HW.out])
  | (at_make;refine wpList_make_full _ rfl (.tmp 15) (.tmp 15) 67 rfl W.heap.size 109 i0 (.agg z) 256 Tryz.underlying67 HI.out.1 HI.out.2.1 HI.out.2.2.1 .i64 .i64 nv nv nv rfl rfl rfl rfl (by rw[HI.out.2.2.2];omega) (by unfold maxLen;omega) (Nat.le_refl _) ?_))
 intro w3 hown hgr;obtain⟨hrow,hb3⟩:=xbm HZ.out hown hgr;obtain⟨gt,hgt⟩:=zev W.heap.size;rw[hgt]at hrow ⊢;have A3:Ω (At gt (RW nv (fst th 0)) 109 w3 w3):=⟨by rw[xbl];exact At.refl hrow⟩;have B3:Ω (Below W.heap.size W w3):=⟨hb3⟩;have Hgt:=ω hgt;clear hown hgr hrow hb3 hgt;go_wp2_with fail;go_loopw [19] (fun iv wr=>∃ r:Nat,r≤nv∧iv=.int .i64 (r:Int)∧Ω (At gt (RW nv (fst th r)) 109 w3 wr)) (fun iv _=>nv-(intOf iv).toNat)
 case atStart=>exact⟨0,Nat.zero_le _,rfl,A3⟩
 case round=>
  clear A3;obtain⟨r,hr,rfl,A0⟩:=hrel;have BU:Ω (Below W.heap.size W wr):=⟨B3.out.trans (A0.out.below B3.out.size (Nat.le_of_eq Hgt.out))⟩;have BE:=zbt BW BU.out;by_cases hlt:r<nv
  ·have hrz:(r:Int)<(nv:Int):=by omega
   have hr8:r<8:=by omega
   have hrg:=xax (HVv.out.later BE.out) r hlt;obtain⟨F,HF⟩:=xaa (FL .i64 256 (y r));obtain⟨o6,ho6⟩:=zev (r*256);rw[HF.out,ho6]at hrg;have Hrg:Ω (∀ w':World,Below wr.heap.size wr w'→w'.rangeAt gv o6 F.toList):=⟨fun w' hb'=>xa3 hrg (Nat.lt_of_lt_of_le HGv.out.2 BE.out.size) hb'⟩;have Fi:=zfi HF Hsize.out;have T1:Ω (wr.heap[w.heap.size]? = some (.cells T 34 (0,0))):=⟨(BU.out.block _ (xac T0.out)).trans T0.out⟩;have HTr:Ω (∀ w1:World,Calls Tryz.prog 95 #[.agg T,.agg F] w1 (zB w1 (.agg (FL .i64 256 (th r))))):=⟨fun w1=>by rw[←HF.out,←Hth.out];exact HTh.out (y r) w1⟩;obtain⟨E,HE⟩:=xaa (FL .i64 256 (th r));rw[HE.out]at HTr;have Hup:Ω (ups (fst th r) r (th r)=fst th (r+1)):=⟨xbp th r⟩;have Hlt:=ω hlt;have Ho6:=ω ho6;clear hrg hlt HF;go_wp2_with fail;refine qtail.xb0 8 (by kernel_rfl) (by kernel_rfl) ?_;iterate 2 (quiet_step (skip))
   refine xa2 rfl 34 _ rfl _ rfl 34 _ _ (fun w' hC=>xaw T1.out hC) zY rfl HTz.out ?_;iterate 3 (quiet_step (skip))
   refine xch rfl 109 _ rfl gv o6 rfl F.toList _ (fun w' hC=>Hrg.out w' (xa1 hC)) zX rfl Fi.out ?_;quiet_step (exact Calls.regrown_of (HTr.out _));refine wpQuiet_nil ?_;intro wn hC;have hbn:Below wr.heap.size wr wn:=xa1 hC;have A6:Ω (At gt (RW nv (fst th r)) 109 w3 wn):=⟨A0.out.later hbn⟩;clear hC hbn A0 HTr Hrg T1;simp only[List.drop_succ_cons,List.drop_zero];go_wp2_with ((with_reducible refine xcg A6 HE.out Hlt.out Ho6.out rfl _ _ rfl rfl ?hx ?hy ?_);(case hx=>exact rfl);(case hy=>exact rfl);intro w7 A7;rw[Hup.out]at A7);go_roundw
   case rel=>exact⟨r+1,by have:=Hlt.out;omega,by go_num,A7⟩
   case measure=>have:=Hlt.out;simp[intOf];omega
  ·obtain rfl:r=nv:=by omega
   rename World=>w2
   have HTt:Ω (Holds w2 0 (.slice (some ⟨gt,0,none⟩) r r) r th):=⟨xbo A0.out.row (Nat.zero_le _) (fun i hi=>xbk th r i hi)⟩;have Hgl:Ω (gt<w2.heap.size):=⟨xac A0.out.row⟩;clear A0 hlt;go_wp2_with (at_make;refine wpList_make_full _ rfl (.tmp 33) (.tmp 33) 67 rfl w2.heap.size 109 i0 (.agg z) 256 Tryz.underlying67 HI.out.1 HI.out.2.1 HI.out.2.2.1 .i64 .i64 R R R rfl rfl rfl rfl (by rw[HI.out.2.2.2];omega) (by unfold maxLen;omega) (Nat.le_refl _) ?_);intro w5 hown hgr;obtain⟨hrow,hb5⟩:=xbm HZ.out hown hgr;obtain⟨go,hgo⟩:=zev w2.heap.size;rw[hgo]at hrow ⊢;have A5:Ω (At go (RW R (fst res 0)) 109 w5 w5):=⟨by rw[xbl];exact At.refl hrow⟩;have B5:Ω (Below w2.heap.size w2 w5):=⟨hb5⟩;have Hgo:=ω hgo;clear hown hgr hrow hb5 hgo;go_wp2_with fail;go_loopw [37] (fun iv wr=>∃ i:Nat,i≤R∧iv=.int .i64 (i:Int)∧Ω (At go (RW R (fst res i)) 109 w5 wr)) (fun iv _=>R-(intOf iv).toNat)
   case atStart=>exact⟨0,Nat.zero_le _,rfl,A5⟩
   case round=>
    clear A5;obtain⟨i,hi,rfl,Ao⟩:=hrel;rename World=>w3'
    have B2:Ω (Below w2.heap.size w2 w3'):=⟨B5.out.trans (Ao.out.below B5.out.size (Nat.le_of_eq Hgo.out))⟩;have BX:=zbt BE B2.out;by_cases hlt:i<R
    ·have hiz:(i:Int)<(R:Int):=by omega
     have hi8:i<8:=by omega
     obtain⟨g,c,hcell,hg,hpol⟩:=HRows.out i hlt;have hc0:w3'.cell? ⟨G,i,none⟩=some (.slice (some ⟨g,0,none⟩) (n i) c):=(BX.out.cell (p:=⟨G,i,none⟩) HGv.out.1).trans hcell;have Hpol:=ω hpol;have Hg:=ω hg;have hN8:=Hn.out i hlt;obtain⟨N,hN⟩:=zev (n i);rw[hN]at hc0 Hpol hN8;obtain⟨M,hM⟩:=zev (min N r);have hMz:min (N:Int) (r:Int)=(M:Int):=by omega
     have hMz2:min (r:Int) (N:Int)=(M:Int):=by omega
     have hMN:M≤N:=by omega
     have hMr:M≤r:=by omega
     obtain⟨W4,hW4⟩:=zev (w3'.alloc (.cells z 109));obtain⟨r4,hs4,b4⟩:=one hW4;have HW4:=ω hW4;have A4:Ω (At w3'.heap.size (FL .i64 256 (rsum (x i) th 0)) 109 W4 W4):=⟨by rw[rsum,HZ.out];exact At.refl r4⟩;have D4:Ω (Below w3'.heap.size w3' W4):=⟨b4⟩;have Hlt:=ω hlt;have HN:Ω (min (n i) r=M):=⟨by rw[hN];exact hM⟩;clear hcell hg hpol hW4 r4 hs4 b4 hlt hN hM;go_wp2_with (rw[HW4.out]);clear hc0 hMz hMz2;go_loopw [47] (fun jv wr=>∃ j:Nat,j≤M∧jv=.int .i64 (j:Int)∧Ω (At w3'.heap.size (FL .i64 256 (rsum (x i) th j)) 109 W4 wr)) (fun jv _=>M-(intOf jv).toNat)
     case atStart=>exact⟨0,Nat.zero_le _,rfl,A4⟩
     case round=>
      clear A4;obtain⟨j,hj,rfl,A5⟩:=hrel;have D5:Ω (Below w3'.heap.size w3' wr):=⟨D4.out.trans (A5.out.below D4.out.size (Nat.le_refl _))⟩;have B6:=zbt BX D5.out;by_cases hjlt:j<M
      ·have hjz:(j:Int)<(M:Int):=by omega
       have hj8:j<8:=by omega
       have hjN:(j:Int)<(N:Int):=by omega
       have hjr:(j:Int)<(r:Int):=by omega
       have hrg:=xo8 (m:=j) (fun k hk=>(B6.out.cell (p:=⟨g,256*j+k,none⟩) Hg.out).trans (Hpol.out j (by omega) k hk));have hrt:=xa3 (xax HTt.out j (by omega)) Hgl.out (B2.out.trans (D5.out.mono B2.out.size));obtain⟨F,HF⟩:=xaa (FL .i64 256 (x i j));obtain⟨E,HE⟩:=xaa (FL .i64 256 (th j));obtain⟨o6,ho6⟩:=zev (j*256);rw[HF.out,ho6]at hrg;rw[HE.out,ho6]at hrt;have Fi:=zfi HF Hsize.out;have Ei:=zfi HE Hsize.out;have Hrg:Ω (∀ w':World,Below wr.heap.size wr w'→w'.rangeAt g o6 F.toList):=⟨fun w' hb'=>xa3 hrg (Nat.lt_of_lt_of_le Hg.out B6.out.size) hb'⟩;have Hrt:Ω (∀ w':World,Below wr.heap.size wr w'→w'.rangeAt gt o6 E.toList):=⟨fun w' hb'=>xa3 hrt (Nat.lt_of_lt_of_le Hgl.out (Nat.le_trans B2.out.size D5.out.size)) hb'⟩;have H1:Ω (∀ w1:World,Calls Tryz.prog 96 #[.agg F,.agg E] w1 (zB w1 (.agg (FL .i64 256 fun k=>(x i j k*th j k)%8380417)))):=⟨fun w1=>by rw[←HF.out,←HE.out];exact HTm.out (x i j) (th j) w1⟩;have H2:Ω (∀ w1:World,Calls Tryz.prog 94 #[.agg (FL .i64 256 (rsum (x i) th j)),.agg (FL .i64 256 fun k=>(x i j k*th j k)%8380417)] w1 (zB w1 (.agg (FL .i64 256 (rsum (x i) th (j+1)))))):=⟨fun w1=>HAd.out _ _ w1⟩;obtain⟨S,HS⟩:=xaa (FL .i64 256 (rsum (x i) th j));obtain⟨P,HP⟩:=xaa (FL .i64 256 fun k=>(x i j k*th j k)%8380417);obtain⟨S2,HS2⟩:=xaa (FL .i64 256 (rsum (x i) th (j+1)));rw[HS.out]at A5 H2;rw[HP.out]at H1 H2;rw[HS2.out]at H2;have Si:=zri HS Hsize.out;have Si2:=zri HS2 Hsize.out;have So2:=zro HS2;have Sz2:Ω (S.size=S2.size):=⟨by rw[←HS.out,←HS2.out,xad,xad]⟩;have Hjlt:=ω hjlt;clear hrg hrt hjlt HF HE HS HP
       go_wp2_with fail;refine qtail.xb0 11 (by kernel_rfl) (by kernel_rfl) ?_;refine xa2 rfl 109 _ rfl _ rfl 109 _ _ (fun w' hC=>xaw A5.out.row hC) zX rfl Si.out ?_;iterate 3 (quiet_step (skip))
       refine xch rfl 109 _ rfl g o6 rfl F.toList _ (fun w' hC=>Hrg.out w' (xa1 hC)) zX rfl Fi.out ?_;iterate 3 (quiet_step (skip))
       refine xch rfl 109 _ rfl gt o6 rfl E.toList _ (fun w' hC=>Hrt.out w' (xa1 hC)) zX rfl Ei.out ?_;quiet_step (exact Calls.regrown_of (H1.out _));quiet_step (exact Calls.regrown_of (H2.out _));refine wpQuiet_nil ?_;intro w8 hC;have hbn:Below wr.heap.size wr w8:=xa1 hC;have A7:Ω (At w3'.heap.size S 109 W4 w8):=⟨A5.out.later hbn⟩;obtain⟨w9,hw9⟩:=zev (w8.setRow w3'.heap.size S2);have A8:Ω (At w3'.heap.size (FL .i64 256 (rsum (x i) th (j+1))) 109 W4 w9):=⟨by
        rw[HS2.out,←hw9];exact⟨A7.out.os,A7.out.tape,A7.out.output,by simpa [World.setRow] using A7.out.size,setRow_heap _ _ _ _ _ _ A7.out.row,fun k hk hkg=>(setRow_other _ _ _ _ hkg).trans (A7.out.block k hk hkg)⟩⟩
       have HW9:=ω hw9;clear hC hbn A5 hw9;simp only[List.drop_succ_cons,List.drop_zero];refine wpList_store_row rfl 109 _ _ rfl w3'.heap.size S2 rfl rfl 109 _ A7.out.row Si2.out Sz2.out So2.out ?_;rw[HW9.out];go_wp2_with fail;go_roundw
       case rel=>exact⟨j+1,by have:=Hjlt.out;omega,by go_num,A8⟩
       case measure=>have:=Hjlt.out;simp[intOf];omega
      ·obtain rfl:j=M:=by omega
       have Hb9:Ω (∀ w1:World,Calls Tryz.prog 97 #[.agg T,.agg (FL .i64 256 (rsum (x i) th j))] w1 (zB w1 (.agg (FL .i64 256 (res i))))):=⟨fun w1=>by
        have h:=HBk.out (rsum (x i) th j) w1;rw[show (fun k=>(backR ζ 8 (rsum (x i) th j) k*8347681)%8380417)=res i from funext fun k=>by rw[←HN.out];exact Hres.out i k]at h;exact h⟩
       obtain⟨S,HS⟩:=xaa (FL .i64 256 (rsum (x i) th j));rw[HS.out]at A5 Hb9;have Si:=zri HS Hsize.out;have T5:Ω (wr.heap[w.heap.size]? = some (.cells T 34 (0,0))):=⟨by
        have h:=BU.out.trans ((B2.out.mono BU.out.size).trans (D5.out.mono (Nat.le_trans BU.out.size B2.out.size)));exact(h.block _ (xac T0.out)).trans T0.out⟩
       have R5:=ω A5.out.row;have Ao2:Ω (At go (RW R (fst res i)) 109 w5 wr):=⟨Ao.out.later D5.out⟩;obtain⟨E,HE⟩:=xaa (FL .i64 256 (res i));rw[HE.out]at Hb9;have Hup:Ω (ups (fst res i) i (res i)=fst res (i+1)):=⟨xbp res i⟩;obtain⟨o6,ho6⟩:=zev (i*256);have Ho6:=ω ho6;clear A5 hjlt Ao;go_wp2_with (first
        | (refine wpList_load_row rfl 34 _ rfl w.heap.size rfl 34 T (0,0) _ T5.out zY rfl HTz.out ?_)
        | (refine wpList_load_row rfl 109 _ rfl w3'.heap.size rfl 109 S (0,0) _ R5.out zX rfl Si.out ?_))
       refine(Hb9.out _).mono ?_;rintro e w6 ⟨rfl,hb6⟩;have A6:Ω (At go (RW R (fst res i)) 109 w5 w6):=⟨Ao2.out.later hb6⟩;clear hb6 Ao2 R5 T5;go_wp2_with ((with_reducible refine xcg A6 HE.out Hlt.out Ho6.out rfl _ _ rfl rfl ?hx ?hy ?_);(case hx=>exact rfl);(case hy=>exact rfl);intro w7 A7;rw[Hup.out]at A7);go_roundw
       case rel=>exact⟨i+1,by have:=Hlt.out;omega,by go_num,A7⟩
       case measure=>have:=Hlt.out;simp[intOf];omega
    ·obtain rfl:i=R:=by omega
     have HH:Ω (Holds w3' w.heap.size (.slice (some ⟨go,0,none⟩) i i) i res):=⟨xbo Ao.out.row (by have:=BE.out.size;have:=Hgo.out;omega) (fun k hk=>xbk res i k hk)⟩;clear Ao;go_wp2_with fail;go_ret;exact⟨⟨_,rfl,HH.out⟩,BX.out⟩
end krw
namespace ksp
open arr mem stil polys polt pols rbitb rbitc rndm saml qrow helda qsec mlkm rkpb rkrw
theorem xi3{Q:Exit→Act→World→Prop}{K:Act→World→Prop}{op:Oper}{ac:Act}{w0 w:World}{g m i o:Nat}{t:TypeId}{p:Nat→Nat→Int}{f:Nat→Int}{F:Array Value}(H:Ω (At g (RW m p) t w0 w))(hF:FL .i64 256 f=F)(hi:i<m)(hoi:i*256=o)
 (x y:Operand) (ho:op.op=.store 109 x y) (hd:op.dst=none) (hx:ac.eval x=.pointer (some ⟨g,o,none⟩)) (hy:ac.eval y=.agg F)
 (h:∀ w',Ω (At g (RW m (ups p i f)) t w0 w')→K ac w'):op.wp Tryz.prog ac w K Q:=by
 subst hF;obtain⟨hz,hsize⟩:=zero_of_info polt.infoP;refine wp_store_mid _ x y ho g o (FL .i64 256 f) hx hy (fun j hj=>?_) (by rw[xad];exact hsize) (xbf _ _ _) ?_
 ·rw[xad]at hj;rw[H.out.cell,H.out.frozen];have e3:(RW m p)[o+j]? = some (.int .i64 (p ((o+j) / 256) ((o+j)%256))):=xa9 .i64 (256*m) _ (o+j) (by omega);rw[e3];exact⟨rfl,rfl⟩
 ·rw[hd];refine h _ ⟨?_⟩;have h1:At g (sp (RW m p) (256*i) (FL .i64 256 f).toList) t w (w.setCells g (256*i) (FL .i64 256 f).toList):=At.set H.out.row H.out.lt (Below.refl _ _);rw[sp_rw m p i f]at h1;rw[show o=256*i by omega];exact H.out.trans h1
theorem xfi(m:Nat)(va vb:Value)(Ba Bb:Nat)(p q:Nat→Nat→Int)(w:World)(hm : 1≤m∧m≤8)(ha:Holds w Ba va m p)(hb:Holds w Bb vb m q):
 Calls Tryz.prog 41 #[va,vb] w fun x w'=>(∃ v1 v2,x=.returned (.tuple #[v1,v2])∧Holds w' w.heap.size v1 m (fun i k=>sh ((p i k+q i k)%8380417))∧Holds w' w.heap.size v2 m (fun i k=>sl ((p i k+q i k)%8380417)%8380417))∧Below w.heap.size w w':=by
 obtain⟨i0,hi0,hz0,hz1,hz2⟩:=parts infoPoly;obtain⟨hz,hsize⟩:=zero_of_info polt.infoP;obtain⟨z,HZ⟩:=xaa (FL .i64 256 fun _=>0);rw[HZ.out]at hz hz0;have HI:=ω (And.intro hi0 (And.intro hz0 (And.intro hz1 hz2)));have Hsize:=ω hsize;obtain⟨gp,cp,rfl,hgp⟩:=xan ha;obtain⟨gq,cq',rfl,hgq⟩:=xan hb;have HVa:=ω ha;have HVb:=ω hb;have Hga:=ω hgp;have Hgq:=ω hgq;have hm1:=hm.1;have hm8:=hm.2;obtain⟨tt,htt⟩:=xaa (fun i k=>(p i k+q i k)%8380417);have Htt:Ω (∀ i,(fun k=>(p i k+q i k)%8380417)=tt i):=⟨fun i=>by rw[←htt.out]⟩;obtain⟨hi,hhi⟩:=xaa (fun i k=>sh (tt i k));have Hhi:Ω (∀ i,(fun k=>sh (tt i k))=hi i):=⟨fun i=>by rw[←hhi.out]⟩;obtain⟨lo,hlo⟩:=xaa (fun i k=>sl (tt i k)%8380417);have Hlo:Ω (∀ i,(fun k=>sl (tt i k)%8380417)=lo i):=⟨fun i=>by rw[←hlo.out]⟩;have e1:(fun i k=>sh ((p i k+q i k)%8380417))=hi:=by rw[←hhi.out,←htt.out]
 have e2:(fun i k=>sl ((p i k+q i k)%8380417)%8380417)=lo:=by rw[←hlo.out,←htt.out]
 rw[e1,e2];clear hi0 hz0 hz1 hz2 hsize ha hb hgp hgq hm e1 e2 hhi hlo htt;go_enter Tryz.func41,Tryz.ntmps41;go_wp2_with fail;obtain⟨B0,hB0⟩:=zev w.heap.size;refine xbe B0 8 [0,1,3,4,2,5,6,7] (by kernel_rfl) rfl rfl (by decide) (fun hS ops HO=>?_);simp only[List.filterMap_cons,List.filterMap_nil,List.getElem?_cons_succ,List.getElem?_cons_zero];iterate 4 (refine zV hS ?_)
 refine xj4 (by rw[←HO.out];kernel_rfl) (by rw[←HO.out];kernel_rfl) (by rw[←HO.out];kernel_rfl) (fun K hK=>?_) (fun K hK=>?_)
 ·refine xdz (.tmp 10) (.tmp 10) 67 rfl 109 i0 (.agg z) 256 Tryz.underlying67 HI.out.1 HI.out.2.1 HI.out.2.2.1 .i64 .i64 m rfl rfl (by rw[HI.out.2.2.2];omega) (by unfold maxLen;omega) ?_;intro w3 hown hgr;obtain⟨hrow,hb3⟩:=xbm HZ.out hown hgr;have h3:Below w.heap.size w w3:=(Below.refl _ _).drew.trans hb3;refine hK _ _ (by rw[←hB0];exact h3) ?_;clear hK K;obtain⟨ga,hga⟩:=zev w.heap.size;have R1:w3.heap[ga]? = some (.cells (RW m fun _ _=>0) 109 (0,0)):=by rw[←hga];exact hrow
  have l1:ga<w3.heap.size:=xac R1;show HK _ _ _ _ _ _ _ (Act.put _ _ (.slice (some ⟨w.heap.size,0,none⟩) m m)) _;rw[hga];simp only[Act.put,heldb.pa,heldb.pb,heldb.pc];refine xj2 ?_;(focus (refine heldb.hk_t (v:=?_) (by rw[←HO.out];kernel_rfl) (fun _ _ _ h=>h) ?_ (by rw[←hB0];exact h3) ?_;rotate_left;focus (intro w9 h9;go_simp;first | done | with_reducible rfl);all_goals skip))
  simp only[Act.put,heldb.pa,heldb.pb,heldb.pc];refine zS fun K hK=>?_
  refine xdz (.tmp 13) (.tmp 13) 67 rfl 109 i0 (.agg z) 256 Tryz.underlying67 HI.out.1 HI.out.2.1 HI.out.2.2.1 .i64 .i64 m rfl rfl (by rw[HI.out.2.2.2];omega) (by unfold maxLen;omega) ?_;intro w4 hown2 hgr2;obtain⟨hrow2,hb4⟩:=xbm HZ.out hown2 hgr2;have h4:=zbm h3 hb4;have h5:Below B0 w w4:=by rw[←hB0];exact h4
  refine hK _ _ h5 ?_;clear hK K;obtain⟨gb,hgb⟩:=zev w3.heap.size;have R2:w4.heap[gb]? = some (.cells (RW m fun _ _=>0) 109 (0,0)):=by rw[←hgb];exact hrow2
  have R3:w4.heap[ga]? = some (.cells (RW m fun _ _=>0) 109 (0,0)):=(hb4.block _ l1).trans R1;rw[hgb];simp only[Act.put,heldb.pa,heldb.pb,heldb.pc];refine zV h5 ?_;refine zN ?_;have G1:Ω (w4.heap[ga]? = some (.cells (RW m fun _ _=>0) 109 (0,0))):=⟨R3⟩;have G2:Ω (w4.heap[gb]? = some (.cells (RW m fun _ _=>0) 109 (0,0))):=⟨R2⟩;have Hg:Ω (ga≠gb∧w.heap.size≤ga∧w.heap.size≤gb):=⟨by have:=h3.size;refine⟨?_,?_,?_⟩<;>omega⟩;have B4:=ω h4;clear hown hgr hrow hb3 h3 hown2 hgr2 hrow2 hb4 h4 R1 R2 R3 l1 HO hS h5 hB0 hga hgb;have A0x:Ω (w4.heap[ga]? = some (.cells (RW m (fst hi 0)) 109 (0,0))):=⟨by rw[xbl];exact G1.out⟩;have B0x:Ω (w4.heap[gb]? = some (.cells (RW m (fst lo 0)) 109 (0,0))):=⟨by rw[xbl];exact G2.out⟩;go_wp2_with fail;go_loopw [17] (fun v wr=>∃ r:Nat,r≤m∧v=.int .i64 (r:Int)∧Ω (wr.heap[ga]? = some (.cells (RW m (fst hi r)) 109 (0,0)))∧Ω (wr.heap[gb]? = some (.cells (RW m (fst lo r)) 109 (0,0)))∧Ω (Below w.heap.size w wr)) (fun v _=>m-(intOf v).toNat)
  case atStart=>exact⟨0,Nat.zero_le _,rfl,A0x,B0x,B4⟩
  case round=>
   clear A0x B0x G1 G2;obtain⟨r,hr,rfl,Ra,Rb,Hb⟩:=hrel;by_cases hlt:r<m
   ·have hrz:(r:Int)<(m:Int):=by omega
    have hr8:r<8:=by omega
    obtain⟨o6,ho6⟩:=zev (r*256);obtain⟨F,HF⟩:=xaa (FL .i64 256 (p r));obtain⟨G,HG⟩:=xaa (FL .i64 256 (q r));have Fi:=zfi HF Hsize.out;have Gi:=zfi HG Hsize.out;have Ha:∀ w':World,Below w.heap.size wr w'→w'.rangeAt gp o6 F.toList:=fun w' hb'=>by
     have h:=xa3 (xax HVa.out r hlt) Hga.out (Hb.out.trans hb');rw[HF.out,ho6]at h;exact h
    have Hbb:∀ w':World,Below w.heap.size wr w'→w'.rangeAt gq o6 G.toList:=fun w' hb'=>by
     have h:=xa3 (xax HVb.out r hlt) Hgq.out (Hb.out.trans hb');rw[HG.out,ho6]at h;exact h
    have Ha:=ω Ha;have Hbb:=ω Hbb;have HAr:Ω (∀ w1:World,Calls Tryz.prog 94 #[.agg F,.agg G] w1 (zB w1 (.agg (FL .i64 256 (tt r))))):=⟨fun w1=>by rw[←HF.out,←HG.out,←Htt.out];exact fadd.xcj (p r) (q r) w1⟩;have HSr:Ω (∀ w1:World,Calls Tryz.prog 93 #[.agg (FL .i64 256 (tt r))] w1 (zB w1 (.tuple #[.agg (FL .i64 256 (hi r)),.agg (FL .i64 256 (lo r))]))):=⟨fun w1=>by rw[←Hhi.out,←Hlo.out];exact rsplit.xfi (tt r) w1⟩;have Hua:Ω (ups (fst hi r) r (hi r)=fst hi (r+1)):=⟨xbp hi r⟩;have Hub:Ω (ups (fst lo r) r (lo r)=fst lo (r+1)):=⟨xbp lo r⟩;obtain⟨S,HS⟩:=xaa (FL .i64 256 (tt r));obtain⟨X,HX⟩:=xaa (FL .i64 256 (hi r));obtain⟨Y,HY⟩:=xaa (FL .i64 256 (lo r));rw[HS.out]at HAr HSr;rw[HX.out,HY.out]at HSr;have Hlt:=ω hlt;have Ho6:=ω ho6;clear hlt HF HG HS;go_wp2_with fail;refine xbe w.heap.size 21 [0,1,2,3,4,5,6,7,8,9,10,11,12,13,14,15,16,17,18,19,20] (by kernel_rfl) rfl rfl (by decide) (fun hS ops HO=>?_);simp only[List.filterMap_cons,List.filterMap_nil,List.getElem?_cons_succ,List.getElem?_cons_zero];iterate 7 (refine zV hS ?_)
    refine fork.xhu (by rw[←HO.out];kernel_rfl) (by rw[←HO.out];kernel_rfl) (by rw[←HO.out];kernel_rfl) (by rw[←HO.out];kernel_rfl) (fun _ _ _ _ h=>h) 109 _ rfl gp o6 rfl F.toList _ Ha.out zX rfl Fi.out hS ?_;simp only[Act.put,heldb.pa,heldb.pb,heldb.pc];iterate 3 (refine zV hS ?_)
    refine fork.xhu (by rw[←HO.out];kernel_rfl) (by rw[←HO.out];kernel_rfl) (by rw[←HO.out];kernel_rfl) (by rw[←HO.out];kernel_rfl) (fun _ _ _ _ h=>h) 109 _ rfl gq o6 rfl G.toList _ Hbb.out zX rfl Gi.out hS ?_;simp only[Act.put,heldb.pa,heldb.pb,heldb.pc];refine zS fun K hK=>?_
    go_simp
    refine(HAr.out _).mono ?_;rintro x w3 ⟨rfl,hb3⟩;have h3:Below w.heap.size wr w3:=hS.trans (hb3.mono (Nat.le_trans Hb.out.size hS.size));refine hK _ _ h3 ?_;clear hK K;try simp only[Act.put,heldb.pa,heldb.pb,heldb.pc]
    refine zS fun K hK=>?_
    go_simp
    refine(HSr.out _).mono ?_;rintro x w5 ⟨rfl,hb5⟩;have h5:Below w.heap.size wr w5:=h3.trans (hb5.mono (Nat.le_trans Hb.out.size h3.size));refine hK _ _ h5 ?_;clear hK K;try simp only[Act.put,heldb.pa,heldb.pb,heldb.pc]
    iterate 4 (refine zV h5 ?_)
    have hbn:Below wr.heap.size wr w5:=(xhn _ wr 1).trans (hb3.trans (hb5.mono hb3.size));have A6:Ω (At ga (RW m (fst hi r)) 109 w5 w5):=⟨At.refl ((hbn.block _ (xac Ra.out)).trans Ra.out)⟩;have B6:Ω (w5.heap[gb]? = some (.cells (RW m (fst lo r)) 109 (0,0))):=⟨(hbn.block _ (xac Rb.out)).trans Rb.out⟩;refine zS fun K hK=>?_
    refine xi3 A6 HX.out Hlt.out Ho6.out _ _ rfl rfl rfl rfl (fun w7 A7=>?_);rw[Hua.out]at A7;have h7:Below w.heap.size wr w7:=h5.trans (A7.out.below (Nat.le_trans Hb.out.size h5.size) Hg.out.2.1);have A8:Ω (At gb (RW m (fst lo r)) 109 w7 w7):=⟨At.refl (A7.out.other (xac B6.out) (Ne.symm Hg.out.1) B6.out)⟩;refine hK _ _ h7 ?_;clear hK K;try simp only[Act.put,heldb.pa,heldb.pb,heldb.pc]
    refine zV h7 ?_;refine zS fun K hK=>?_
    refine xi3 A8 HY.out Hlt.out Ho6.out _ _ rfl rfl rfl rfl (fun w8 A9=>?_);rw[Hub.out]at A9;have h8:Below w.heap.size wr w8:=h7.trans (A9.out.below (Nat.le_trans Hb.out.size h7.size) Hg.out.2.2);refine hK _ _ h8 ?_;clear hK K;try simp only[Act.put,heldb.pa,heldb.pb,heldb.pc]
    refine zN ?_;have D8:Ω (Below w.heap.size w w8):=⟨Hb.out.trans h8⟩;have Ra8:Ω (w8.heap[ga]? = some (.cells (RW m (fst hi (r+1))) 109 (0,0))):=⟨A9.out.other (xac A7.out.row) Hg.out.1 A7.out.row⟩;have Rb8:Ω (w8.heap[gb]? = some (.cells (RW m (fst lo (r+1))) 109 (0,0))):=⟨A9.out.row⟩;clear hS HO hb3 h3 hb5 h5 hbn A6 B6 A7 A8 A9 h7 h8 Ra Rb HAr HSr Ha Hbb;go_wp2_with fail;go_roundw
    case rel=>exact⟨r+1,by have:=Hlt.out;omega,by go_num,Ra8,Rb8,D8⟩
    case measure=>have:=Hlt.out;simp[intOf];omega
   ·obtain rfl:r=m:=by omega
    have H1:Ω (Holds wr w.heap.size (.slice (some ⟨ga,0,none⟩) r r) r hi):=⟨xbo Ra.out Hg.out.2.1 (fun i hi'=>xbk hi r i hi')⟩;have H2:Ω (Holds wr w.heap.size (.slice (some ⟨gb,0,none⟩) r r) r lo):=⟨xbo Rb.out Hg.out.2.2 (fun i hi'=>xbk lo r i hi')⟩;clear Ra Rb;go_wp2_with fail;go_ret2;exact⟨⟨_,_,rfl,H1.out,H2.out⟩,Hb.out⟩
 ·refine xdz (.tmp 13) (.tmp 13) 67 rfl 109 i0 (.agg z) 256 Tryz.underlying67 HI.out.1 HI.out.2.1 HI.out.2.2.1 .i64 .i64 m rfl rfl (by rw[HI.out.2.2.2];omega) (by unfold maxLen;omega) ?_;intro w3 hown hgr;obtain⟨hrow,hb3⟩:=xbm HZ.out hown hgr;have h3:Below w.heap.size w w3:=(Below.refl _ _).drew.trans hb3;refine hK _ _ (by rw[←hB0];exact h3) ?_;clear hK K;obtain⟨gb,hgb⟩:=zev w.heap.size;have R1:w3.heap[gb]? = some (.cells (RW m fun _ _=>0) 109 (0,0)):=by rw[←hgb];exact hrow
  have l1:gb<w3.heap.size:=xac R1;show HK _ _ _ _ _ _ _ (Act.put _ _ (.slice (some ⟨w.heap.size,0,none⟩) m m)) _;rw[hgb];simp only[Act.put,heldb.pa,heldb.pb,heldb.pc];refine zS fun K hK=>?_
  refine xdz (.tmp 10) (.tmp 10) 67 rfl 109 i0 (.agg z) 256 Tryz.underlying67 HI.out.1 HI.out.2.1 HI.out.2.2.1 .i64 .i64 m rfl rfl (by rw[HI.out.2.2.2];omega) (by unfold maxLen;omega) ?_;intro w4 hown2 hgr2;obtain⟨hrow2,hb4⟩:=xbm HZ.out hown2 hgr2;have h4:=zbm h3 hb4;have h5:Below B0 w w4:=by rw[←hB0];exact h4
  refine hK _ _ h5 ?_;clear hK K;obtain⟨ga,hga⟩:=zev w3.heap.size;have R2:w4.heap[ga]? = some (.cells (RW m fun _ _=>0) 109 (0,0)):=by rw[←hga];exact hrow2
  have R3:w4.heap[gb]? = some (.cells (RW m fun _ _=>0) 109 (0,0)):=(hb4.block _ l1).trans R1;rw[hga];simp only[Act.put,heldb.pa,heldb.pb,heldb.pc];iterate 2 (refine zV h5 ?_)
  refine zN ?_;have G2:Ω (w4.heap[gb]? = some (.cells (RW m fun _ _=>0) 109 (0,0))):=⟨R3⟩;have G1:Ω (w4.heap[ga]? = some (.cells (RW m fun _ _=>0) 109 (0,0))):=⟨R2⟩;have Hg:Ω (ga≠gb∧w.heap.size≤ga∧w.heap.size≤gb):=⟨by have:=h3.size;refine⟨?_,?_,?_⟩<;>omega⟩;have B4:=ω h4;clear hown hgr hrow hb3 h3 hown2 hgr2 hrow2 hb4 h4 R1 R2 R3 l1 HO hS h5 hB0 hga hgb;have A0x:Ω (w4.heap[ga]? = some (.cells (RW m (fst hi 0)) 109 (0,0))):=⟨by rw[xbl];exact G1.out⟩;have B0x:Ω (w4.heap[gb]? = some (.cells (RW m (fst lo 0)) 109 (0,0))):=⟨by rw[xbl];exact G2.out⟩;go_wp2_with fail;go_loopw [17] (fun v wr=>∃ r:Nat,r≤m∧v=.int .i64 (r:Int)∧Ω (wr.heap[ga]? = some (.cells (RW m (fst hi r)) 109 (0,0)))∧Ω (wr.heap[gb]? = some (.cells (RW m (fst lo r)) 109 (0,0)))∧Ω (Below w.heap.size w wr)) (fun v _=>m-(intOf v).toNat)
  case atStart=>exact⟨0,Nat.zero_le _,rfl,A0x,B0x,B4⟩
  case round=>
   clear A0x B0x G1 G2;obtain⟨r,hr,rfl,Ra,Rb,Hb⟩:=hrel;by_cases hlt:r<m
   ·have hrz:(r:Int)<(m:Int):=by omega
    have hr8:r<8:=by omega
    obtain⟨o6,ho6⟩:=zev (r*256);obtain⟨F,HF⟩:=xaa (FL .i64 256 (p r));obtain⟨G,HG⟩:=xaa (FL .i64 256 (q r));have Fi:=zfi HF Hsize.out;have Gi:=zfi HG Hsize.out;have Ha:∀ w':World,Below w.heap.size wr w'→w'.rangeAt gp o6 F.toList:=fun w' hb'=>by
     have h:=xa3 (xax HVa.out r hlt) Hga.out (Hb.out.trans hb');rw[HF.out,ho6]at h;exact h
    have Hbb:∀ w':World,Below w.heap.size wr w'→w'.rangeAt gq o6 G.toList:=fun w' hb'=>by
     have h:=xa3 (xax HVb.out r hlt) Hgq.out (Hb.out.trans hb');rw[HG.out,ho6]at h;exact h
    have Ha:=ω Ha;have Hbb:=ω Hbb;have HAr:Ω (∀ w1:World,Calls Tryz.prog 94 #[.agg F,.agg G] w1 (zB w1 (.agg (FL .i64 256 (tt r))))):=⟨fun w1=>by rw[←HF.out,←HG.out,←Htt.out];exact fadd.xcj (p r) (q r) w1⟩;have HSr:Ω (∀ w1:World,Calls Tryz.prog 93 #[.agg (FL .i64 256 (tt r))] w1 (zB w1 (.tuple #[.agg (FL .i64 256 (hi r)),.agg (FL .i64 256 (lo r))]))):=⟨fun w1=>by rw[←Hhi.out,←Hlo.out];exact rsplit.xfi (tt r) w1⟩;have Hua:Ω (ups (fst hi r) r (hi r)=fst hi (r+1)):=⟨xbp hi r⟩;have Hub:Ω (ups (fst lo r) r (lo r)=fst lo (r+1)):=⟨xbp lo r⟩;obtain⟨S,HS⟩:=xaa (FL .i64 256 (tt r));obtain⟨X,HX⟩:=xaa (FL .i64 256 (hi r));obtain⟨Y,HY⟩:=xaa (FL .i64 256 (lo r));rw[HS.out]at HAr HSr;rw[HX.out,HY.out]at HSr;have Hlt:=ω hlt;have Ho6:=ω ho6;clear hlt HF HG HS;go_wp2_with fail;refine xbe w.heap.size 21 [0,1,2,3,4,5,6,7,8,9,10,11,12,13,14,15,16,17,18,19,20] (by kernel_rfl) rfl rfl (by decide) (fun hS ops HO=>?_);simp only[List.filterMap_cons,List.filterMap_nil,List.getElem?_cons_succ,List.getElem?_cons_zero];iterate 7 (refine zV hS ?_)
    refine fork.xhu (by rw[←HO.out];kernel_rfl) (by rw[←HO.out];kernel_rfl) (by rw[←HO.out];kernel_rfl) (by rw[←HO.out];kernel_rfl) (fun _ _ _ _ h=>h) 109 _ rfl gp o6 rfl F.toList _ Ha.out zX rfl Fi.out hS ?_;simp only[Act.put,heldb.pa,heldb.pb,heldb.pc];iterate 3 (refine zV hS ?_)
    refine fork.xhu (by rw[←HO.out];kernel_rfl) (by rw[←HO.out];kernel_rfl) (by rw[←HO.out];kernel_rfl) (by rw[←HO.out];kernel_rfl) (fun _ _ _ _ h=>h) 109 _ rfl gq o6 rfl G.toList _ Hbb.out zX rfl Gi.out hS ?_;simp only[Act.put,heldb.pa,heldb.pb,heldb.pc];refine zS fun K hK=>?_
    go_simp
    refine(HAr.out _).mono ?_;rintro x w3 ⟨rfl,hb3⟩;have h3:Below w.heap.size wr w3:=hS.trans (hb3.mono (Nat.le_trans Hb.out.size hS.size));refine hK _ _ h3 ?_;clear hK K;try simp only[Act.put,heldb.pa,heldb.pb,heldb.pc]
    refine zS fun K hK=>?_
    go_simp
    refine(HSr.out _).mono ?_;rintro x w5 ⟨rfl,hb5⟩;have h5:Below w.heap.size wr w5:=h3.trans (hb5.mono (Nat.le_trans Hb.out.size h3.size));refine hK _ _ h5 ?_;clear hK K;try simp only[Act.put,heldb.pa,heldb.pb,heldb.pc]
    iterate 4 (refine zV h5 ?_)
    have hbn:Below wr.heap.size wr w5:=(xhn _ wr 1).trans (hb3.trans (hb5.mono hb3.size));have A6:Ω (At ga (RW m (fst hi r)) 109 w5 w5):=⟨At.refl ((hbn.block _ (xac Ra.out)).trans Ra.out)⟩;have B6:Ω (w5.heap[gb]? = some (.cells (RW m (fst lo r)) 109 (0,0))):=⟨(hbn.block _ (xac Rb.out)).trans Rb.out⟩;refine zS fun K hK=>?_
    refine xi3 A6 HX.out Hlt.out Ho6.out _ _ rfl rfl rfl rfl (fun w7 A7=>?_);rw[Hua.out]at A7;have h7:Below w.heap.size wr w7:=h5.trans (A7.out.below (Nat.le_trans Hb.out.size h5.size) Hg.out.2.1);have A8:Ω (At gb (RW m (fst lo r)) 109 w7 w7):=⟨At.refl (A7.out.other (xac B6.out) (Ne.symm Hg.out.1) B6.out)⟩;refine hK _ _ h7 ?_;clear hK K;try simp only[Act.put,heldb.pa,heldb.pb,heldb.pc]
    refine zV h7 ?_;refine zS fun K hK=>?_
    refine xi3 A8 HY.out Hlt.out Ho6.out _ _ rfl rfl rfl rfl (fun w8 A9=>?_);rw[Hub.out]at A9;have h8:Below w.heap.size wr w8:=h7.trans (A9.out.below (Nat.le_trans Hb.out.size h7.size) Hg.out.2.2);refine hK _ _ h8 ?_;clear hK K;try simp only[Act.put,heldb.pa,heldb.pb,heldb.pc]
    refine zN ?_;have D8:Ω (Below w.heap.size w w8):=⟨Hb.out.trans h8⟩;have Ra8:Ω (w8.heap[ga]? = some (.cells (RW m (fst hi (r+1))) 109 (0,0))):=⟨A9.out.other (xac A7.out.row) Hg.out.1 A7.out.row⟩;have Rb8:Ω (w8.heap[gb]? = some (.cells (RW m (fst lo (r+1))) 109 (0,0))):=⟨A9.out.row⟩;clear hS HO hb3 h3 hb5 h5 hbn A6 B6 A7 A8 A9 h7 h8 Ra Rb HAr HSr Ha Hbb;go_wp2_with fail;go_roundw
    case rel=>exact⟨r+1,by have:=Hlt.out;omega,by go_num,Ra8,Rb8,D8⟩
    case measure=>have:=Hlt.out;simp[intOf];omega
   ·obtain rfl:r=m:=by omega
    have H1:Ω (Holds wr w.heap.size (.slice (some ⟨ga,0,none⟩) r r) r hi):=⟨xbo Ra.out Hg.out.2.1 (fun i hi'=>xbk hi r i hi')⟩;have H2:Ω (Holds wr w.heap.size (.slice (some ⟨gb,0,none⟩) r r) r lo):=⟨xbo Rb.out Hg.out.2.2 (fun i hi'=>xbk lo r i hi')⟩;clear Ra Rb;go_wp2_with fail;go_ret2;exact⟨⟨_,_,rfl,H1.out,H2.out⟩,Hb.out⟩
end ksp
namespace ksh
open arr mem keca kstep kturn spok samc rsdoc
theorem xfe{T:Array Value}(gt:Nat)(x:ByteArray)(n:Nat)(w:World)(hK:KT T TL RL)(hP:Gp w)(hrow:w.heap[gt]? = some (.cells T 34 (0,0)))(hn:n≤50000)(hx:x.size≤1125899906842624):
 Calls Tryz.prog 39 #[.pointer (some ⟨gt,0,none⟩),.string x,.int .i64 (n:Int)] w (zB w (.string (out TL RL 2 x n))):=by
 have HS:=ω (fun w1 hb=>qdoc.shake 2 x n w hK hP (Or.inr rfl) hn hx w1 hb);have HTz:Ω ((Tryz.prog.info? 34).map (·.size)=some T.size):=⟨infoT T hK⟩;have HR:=ω hrow;obtain⟨Y,HY⟩:=xaa (out TL RL 2 x n);rw[HY.out]at HS ⊢;clear hK hP hrow hn hx HY;go_enter Tryz.func39,Tryz.ntmps39;go_wp2_with (refine wpList_load_row rfl 34 _ rfl gt rfl 34 T (0,0) _ HR.out zY rfl HTz.out ?_);refine(HS.out _ (Below.refl _ _)).mono ?_;rintro e w5 ⟨rfl,hb5⟩;go_wp2_with fail;go_ret;exact⟨rfl,hb5⟩
end ksh
namespace mga
open arr mem stil polys polt pols nttl rndm saml spok rsdoc mlkm mlsm keca kstep kturn rkpb rkrw qrow mgd
theorem xfe{T:Array Value}(gt:Nat)(x:ByteArray)(n:Nat)(w:World)(hK:KT T TL RL)(hP:Gp w)(hrow:w.heap[gt]? = some (.cells T 34 (0,0)))(hn:n≤50000)(hx:x.size≤1125899906842624):
 Calls Tryz.prog 60 #[.pointer (some ⟨gt,0,none⟩),.string x,.int .i64 (n:Int)] w (zB w (.string (out TL RL 2 x n))):=by
 have HS:=ω (fun w1 hb=>qdoc.shake 2 x n w hK hP (Or.inr rfl) hn hx w1 hb);have HTz:Ω ((Tryz.prog.info? 34).map (·.size)=some T.size):=⟨infoT T hK⟩;have HR:=ω hrow;obtain⟨Y,HY⟩:=xaa (out TL RL 2 x n);rw[HY.out]at HS ⊢;clear hK hP hrow hn hx HY;go_enter Tryz.func60,Tryz.ntmps60;go_wp2_with (refine wpList_load_row rfl 34 _ rfl gt rfl 34 T (0,0) _ HR.out zY rfl HTz.out ?_);refine(HS.out _ (Below.refl _ _)).mono ?_;rintro e w5 ⟨rfl,hb5⟩;go_wp2_with fail;go_ret;exact⟨rfl,hb5⟩
theorem xb1(f:Nat→Int)(w:World):
 Calls Tryz.prog 121 #[.agg (FL .i64 256 f)] w (zB w (.int .i64 (fldm.cbs (fun _=>f) 1))):=by
 obtain⟨i0,hi,hz0,hz1,hz2⟩:=tparts infoPoly;obtain⟨z,HZ⟩:=xaa (FL .i64 256 fun _=>0);rw[HZ.out]at hz0;have HI:=ω (And.intro hi (And.intro hz0 hz1));obtain⟨F,HF⟩:=xaa (FL .i64 256 f);have Fs:=zfs HF;have Fi:Ω ((Tryz.prog.info? 109).map (·.size)=some F.size):=⟨by rw[Fs.out];exact(zero_of_info polt.infoP).2⟩;obtain⟨W,hW⟩:=zev (w.alloc (.cells F 109));obtain⟨r0,hWs,b0⟩:=one hW;obtain⟨U,hU⟩:=zev (W.alloc (.cells F 109));obtain⟨r1,hUs,b1⟩:=one hU;have HS:Ω (Calls Tryz.prog 118 #[.slice (some ⟨W.heap.size,0,none⟩) 1 1] U (zE U (.int .i64 (fldm.cbs (fun _=>f) 1)))):=⟨fsize.xb1 W.heap.size 1 1 (fun _=>f) U (by decide) fun j hj i hi=>by
  obtain rfl:j=0:=by omega
  rw[Nat.zero_mul,Nat.zero_add];exact xaq (by rw[HF.out];exact r1) i hi⟩
 have R0:=ω r0;have B1:Ω (Below w.heap.size w U):=⟨b0.trans (b1.mono b0.size)⟩;have HW:=ω hW;have HU:=ω hU;rw[HF.out];clear hi hz0 hz1 hz2 HZ hW r0 hWs b0 hU r1 hUs b1 HF;go_enter Tryz.func121,Tryz.ntmps121;go_wp2_with (first
  | (rw[HU.out])
  | (rw[HW.out])
  | (refine wpList_load_row rfl 109 _ rfl w.heap.size rfl 109 F (0,0) _ R0.out zX rfl Fi.out ?_)
  | (with_reducible refine fork.xwf rfl 67 109 _ rfl F Fs.out i0 z Tryz.underlying67 HI.out.1 HI.out.2.1 HI.out.2.2 rfl ?_))
 refine HS.out.mono ?_;rintro e w5 ⟨rfl,h5⟩;rw[h5];clear h5 w5;go_wp2_with fail;go_ret;exact⟨rfl,B1.out⟩
theorem xno(gs:Nat)(t e m:Int)(w:World)(h4:w.cell? ⟨gs,4,none⟩=some (.int .i64 t))(h3:w.cell? ⟨gs,3,none⟩=some (.int .i64 e))(hm:IntKind.i64.wrap (t*e)=m):
 Calls Tryz.prog 119 #[.pointer (some ⟨gs,0,none⟩)] w fun e' w'=>e'=.returned (.int .i64 m)∧w'=w.drew:=by
 go_enter Tryz.func119,Tryz.ntmps119;go_wp2_with fail;refine xav (by kernel_rfl) (by kernel_rfl) ?_;repeat still_step
 refine wpStill_nil ?_;go_wp2_with fail;go_ret;exact⟨rfl,rfl⟩
theorem xky{T:Array Value}(Z:Nat→Int)(gs gt g1 o1 g2 o2:Nat)(c f:Nat→Int)(w:World)(hT:nthere.ZT T Z)(hc:w.cell? ⟨gs,0,none⟩=some (.pointer (some ⟨gt,0,none⟩)))(hr:w.heap[gt]? = some (.cells T 34 (0,0)))
 (h1:w.rangeAt g1 o1 (FL .i64 256 c).toList) (h2:w.rangeAt g2 o2 (FL .i64 256 f).toList) (ls:gs<w.heap.size) (l1:g1<w.heap.size) (l2:g2<w.heap.size):
 Calls Tryz.prog 117 #[.pointer (some ⟨gs,0,none⟩),.pointer (some ⟨g1,o1,none⟩),.pointer (some ⟨g2,o2,none⟩)] w (zB w (.agg (FL .i64 256 (mul (fun k=>Z k%8380417) c f)))):=by
 obtain⟨hz,hsize⟩:=zero_of_info polt.infoP;obtain⟨z,HZ⟩:=xaa (FL .i64 256 fun _=>0);rw[HZ.out]at hz;have Hzs:=zfs HZ;have HTz:Ω ((Tryz.prog.info? 34).map (·.size)=some T.size):=⟨by rw[hT.size];kernel_rfl⟩;have HTm:Ω (∀ w1:World,Calls Tryz.prog 96 #[.agg (FL .i64 256 c),.agg (FL .i64 256 f)] w1 (zB w1 (.agg (FL .i64 256 fun i=>(c i*f i)%8380417)))):=⟨fun w1=>ntimes.xcs c f w1⟩;have HBk:Ω (∀ w1:World,Calls Tryz.prog 97 #[.agg T,.agg (FL .i64 256 fun i=>(c i*f i)%8380417)] w1 (zB w1 (.agg (FL .i64 256 (mul (fun k=>Z k%8380417) c f))))):=⟨fun w1=>nback.xfv T Z _ w1 hT⟩;obtain⟨F,HF⟩:=xaa (FL .i64 256 c);obtain⟨G,HG⟩:=xaa (FL .i64 256 f);obtain⟨M,HM⟩:=xaa (FL .i64 256 fun i=>(c i*f i)%8380417);obtain⟨R,HR⟩:=xaa (FL .i64 256 (mul (fun k=>Z k%8380417) c f));have Fi:=zfi HF hsize;have Gi:=zfi HG hsize;have Ri:=zri HR hsize;have Ro:=zro HR;have Rz:=zrz Hzs HR;rw[HM.out,HR.out]at HBk;rw[HF.out,HG.out,HM.out]at HTm;rw[HF.out]at h1;rw[HG.out]at h2;rw[HR.out];obtain⟨W,hW⟩:=zev (w.alloc (.cells z 109));obtain⟨r0,hWs,b0⟩:=one hW;have q0:∀ d os,(Go.Sort.grow (redrawn W d) os).cell? ⟨gs,0,none⟩=some (.pointer (some ⟨gt,0,none⟩)):=fun d os=>cell_regrown ((b0.cell (p:=⟨gs,0,none⟩) ls).trans hc) d os
 have T0:Ω (W.heap[gt]? = some (.cells T 34 (0,0))):=⟨(b0.block _ (xac hr)).trans hr⟩;have H1:Ω (∀ w':World,Below W.heap.size W w'→w'.rangeAt g1 o1 F.toList):=⟨fun w' hb=>xa3 h1 l1 (b0.trans (hb.mono b0.size))⟩;have H2:Ω (∀ w':World,Below W.heap.size W w'→w'.rangeAt g2 o2 G.toList):=⟨fun w' hb=>xa3 h2 l2 (b0.trans (hb.mono b0.size))⟩;have R0:=ω r0;have B0:=ω b0;have HW:=ω hW;clear hsize hW r0 hWs b0 HZ HF HG HM HR hc hr h1 h2 ls l1 l2 hT;go_enter Tryz.func117,Tryz.ntmps117;go_wp2_with (rw[HW.out]);refine qtail.xb0 14 (by kernel_rfl) (by kernel_rfl) ?_;iterate 5 (quiet_step (skip))
 refine xa2 rfl 34 _ rfl _ rfl 34 _ _ (fun w' hC=>xaw T0.out hC) zY rfl HTz.out ?_;iterate 2 (quiet_step (skip))
 refine xch rfl 109 _ rfl g1 o1 rfl F.toList _ (fun w' hC=>H1.out w' (krw.xa1 hC)) zX rfl Fi.out ?_;iterate 2 (quiet_step (skip))
 refine xch rfl 109 _ rfl g2 o2 rfl G.toList _ (fun w' hC=>H2.out w' (krw.xa1 hC)) zX rfl Gi.out ?_;quiet_step (exact Calls.regrown_of (HTm.out _));quiet_step (exact Calls.regrown_of (HBk.out _));refine wpQuiet_nil ?_;intro wn hC;have hbn:Below W.heap.size W wn:=krw.xa1 hC;have R5:Ω (wn.heap[w.heap.size]? = some (.cells z 109 (0,0))):=⟨(hbn.block _ (xac R0.out)).trans R0.out⟩;have D5:=zbt B0 hbn;clear hC hbn q0;simp only[List.drop_succ_cons,List.drop_zero];refine wpList_store_row rfl 109 _ _ rfl w.heap.size R rfl rfl 109 _ R5.out Ri.out Rz.out Ro.out ?_;go_wp2_with fail;refine bodyPost_ret_by (v:=.agg R) (results_cell_row rfl _ _ w.heap.size 109 _ (0,0) _ rfl (setRow_heap _ _ _ _ _ _ R5.out) zX rfl Ri.out) rfl ?_;exact⟨rfl,D5.out.trans (below_setRow _ _ _ (Nat.le_refl _))⟩
end mga
end Go.Proofs.YtgahcabgmfbhdaaGreatDoor
