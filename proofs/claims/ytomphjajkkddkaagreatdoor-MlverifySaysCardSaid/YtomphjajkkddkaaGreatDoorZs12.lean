/-
  A signer and an attempt in memory, and plain facts for the walks of mlsign. No function of a program
-/
import Derived.Test.YtomphjajkkddkaaGreatDoorZs09
import Derived.Test.YtomphjajkkddkaaGreatDoorZs06
import Derived.Test.YtomphjajkkddkaaGreatDoorZs10
import Derived.Test.YtomphjajkkddkaaGreatDoorZs03
import Derived.Test.YtomphjajkkddkaaGreatDoorZs11
import Derived.Test.YtomphjajkkddkaaGreatDoorZs02
import Derived.Test.YtomphjajkkddkaaGreatDoorZs01
import Derived.Test.YtomphjajkkddkaaGreatDoorProg
import Derived.Test.YtomphjajkkddkaaGreatDoorZs04
import Derived.Test.YtomphjajkkddkaaGreatDoorZs05
import Derived.Lib.QuietBelow
import Derived.Shelf.Strings.Repeat
import Derived.Shelf.Strings.Builder1
import Derived.Shelf.Strings.Builder2
import Derived.Shelf.Strconv.Itoa0
set_option maxRecDepth 100000
set_option maxHeartbeats 16000000
set_option linter.unusedSimpArgs false
set_option linter.unusedVariables false
open Go Go.RowKit
open Go renaming World->G,Calls->aD,Value->aE,TypeId->aH,Program->aI
open Go.RowKit renaming Below->aF,intOf->aG
open Go.Lib renaming byteCells->aJ
open Go.Region renaming wanted->aL
open Go.Instr renaming index->aN
open Go.Value renaming int->O,agg->I,string->E,tuple->aA,slice->aB,pointer->aC
open Go.IntKind renaming i64->J
open Go.Obj renaming cells->Y
open Go.Proofs.Tryz renaming prog->aO
namespace Go.Proofs.YtomphjajkkddkaaGreatDoor
namespace mgd
open arr mem cZ bU aT aV bS cY bF dD bM bZ eH dW cV aR vary varyn
def SG(gt:Nat)(k l e t a b o s:Int)(vm va vb vl:aE)(mu ms:ByteArray):Array aE:=#[aC (some ⟨gt,0,none⟩),O J k,O J l,O J e,O J t,O J a,O J b,O J o,O J s,vm,va,vb,vl,E mu,E ms]
def AT(vy vw:aE)(h:ByteArray)(c:Nat->Int):Array aE:=(vy :: vw :: Value.string h :: (FL J 256 c).toList).toArray
structure SGN (T:Array aE) (S:Sg) (gs gt gm cm ga ca gb cb gl cl:Nat) (w:G):Prop where
 row:w.heap[gs]? = some (Y (SG gt S.kn S.ln S.e S.t S.a S.b S.o S.s (aB (some ⟨gm,0,none⟩) S.kn cm) (aB (some ⟨ga,0,none⟩) S.ln ca) (aB (some ⟨gb,0,none⟩) S.kn cb) (aB (some ⟨gl,0,none⟩) S.kn cl) S.mu S.ms) 149 (0,0))
 tab:w.heap[gt]? = some (Y T 34 (0,0))
 mat:MX w (aB (some ⟨gm,0,none⟩) S.kn cm) S.kn (fun _=>S.ln) (qX S.rho)
 ha:Holds w 0 (aB (some ⟨ga,0,none⟩) S.ln ca) S.ln (fun i=>aS S.ζ 8 (S.A i))
 hb:Holds w 0 (aB (some ⟨gb,0,none⟩) S.kn cb) S.kn (fun i=>aS S.ζ 8 (S.B i))
 hl:Holds w 0 (aB (some ⟨gl,0,none⟩) S.kn cl) S.kn (fun i=>aS S.ζ 8 (S.C i))
structure OKS (T:Array aE) (Z:Nat->Int) (S:Sg):Prop where
 lat:bP (S.kn:Int) (S.ln:Int) S.e S.t S.a S.b S.o S.s=true
 zt:cE.ZT T Z
 kt:KT T TL RL
 ez:S.ζ = fun k=>Z k%8380417
 mu:S.mu.size=64
 ms:S.ms.size=64
 rho:S.rho.size=32
theorem xi3{T:Array aE}{Z:Nat->Int}{S:Sg}(h:OKS T Z S):(1<=S.kn/\S.kn<=8)/\(1<=S.ln/\S.ln<=8)/\(S.e=2\/S.e=4)/\(1<=S.t/\S.t<=64)/\(S.a=131072\/S.a=524288)/\(S.b=95232\/S.b=261888)/\(1<=S.o/\S.o<=100)/\(S.s=128\/S.s=192\/S.s=256):=by
 have h:=h.lat;unfold bP upto okg at h;simp only[jQ,nW,kN,lL]at h;omega
section
variable {T:Array aE} {S:Sg} {gs gt gm cm ga ca gb cb gl cl:Nat} {w:G}
theorem xls{w w':G}{v:aE}{R:Nat}{n:Nat->Nat}{x:Nat->Nat->Nat->Int}(h:MX w v R n x)(hb:zb w w'):MX w' v R n x:=by
 obtain⟨Gq,C,e,h1,h2⟩:=h;refine⟨Gq,C,e,iZ h1 hb.size,fun r hr=>?_⟩;obtain⟨g,c,h3,h4,h5⟩:=h2 r hr;exact⟨g,c,(hb.cell (p:=⟨Gq,r,none⟩) h1).trans h3,iZ h4 hb.size,fun j hj k hk=>(hb.cell (p:=⟨g,256*j+k,none⟩) h4).trans (h5 j hj k hk)⟩
theorem SGN.later{w':G}(h:SGN T S gs gt gm cm ga ca gb cb gl cl w)(hb:zb w w'):SGN T S gs gt gm cm ga ca gb cb gl cl w':=
 ⟨(hb.block _ (bI h.row)).trans h.row,(hb.block _ (bI h.tab)).trans h.tab,xls h.mat hb,h.ha.later hb,h.hb.later hb,h.hl.later hb⟩
theorem SGN.cell(h:SGN T S gs gt gm cm ga ca gb cb gl cl w)(i:Nat)(v:aE)(hv:(SG gt S.kn S.ln S.e S.t S.a S.b S.o S.s (aB (some ⟨gm,0,none⟩) S.kn cm) (aB (some ⟨ga,0,none⟩) S.ln ca) (aB (some ⟨gb,0,none⟩) S.kn cb) (aB (some ⟨gl,0,none⟩) S.kn cl) S.mu S.ms)[i]? = some v):w.cell? ⟨gs,i,none⟩=some v:=aZ h.row hv
theorem SGN.lts(h:SGN T S gs gt gm cm ga ca gb cb gl cl w):gs<w.heap.size:=bI h.row
theorem SGN.ltt(h:SGN T S gs gt gm cm ga ca gb cb gl cl w):gt<w.heap.size:=bI h.tab
theorem SGN.lat(h:SGN T S gs gt gm cm ga ca gb cb gl cl w):w.rangeAt gs 1 [O J S.kn,O J S.ln,O J S.e,O J S.t,O J S.a,O J S.b,O J S.o,O J S.s]:=fun j v hv=>by
 rcases (show j=0\/j=1\/j=2\/j=3\/j=4\/j=5\/j=6\/j=7 by
  have h1:j<8:=by
   rcases Nat.lt_or_ge j 8 with h2 | h2
   ·exact h2
   ·rw[jY (by simpa using h2)]at hv;cases hv
  omega) with rfl | rfl | rfl | rfl | rfl | rfl | rfl | rfl<;>(injection hv with hv;subst hv;exact h.cell _ _ rfl)
end
theorem xff(vy vw:aE)(h:ByteArray)(c:Nat->Int):(AT vy vw h c).size=259:=by simp[AT,cC]
theorem xno{w:G}{g:Nat}{t:aH}{vy vw:aE}{h:ByteArray}{c:Nat->Int}(hr:w.heap[g]? = some (Y (AT vy vw h c) t (0,0))):w.rangeAt g 3 (FL J 256 c).toList:=fun j v hv=>by
 refine aZ hr ?_;unfold AT;rw[oJ,show 3+j=j+1+1+1 by omega,jF,jF,jF];exact hv
theorem at_one(p q:Option Addr)(n1 c1 n2 c2:Nat)(h:ByteArray)(c:Nat->Int):(AT (.slice p n1 c1) (.slice q n2 c2) h c).all (·.oneCell')=true:=by
 have h1:=xbj J 256 c;rw[kM]at h1 ⊢;intro x hx;unfold AT at hx;rw[List.mem_toArray]at hx;simp only[kT]at hx;rcases hx with rfl | rfl | rfl | hx
 ·rfl
 ·rfl
 ·rfl
 ·exact h1 x (by simpa using hx)
theorem xrf(gt:Nat)(k l e t a b o s:Int)(p1 p2 p3 p4:Option Addr)(n1 n2 n3 n4 c1 c2 c3 c4:Nat)(mu ms:ByteArray):(SG gt k l e t a b o s (.slice p1 n1 c1) (.slice p2 n2 c2) (.slice p3 n3 c3) (.slice p4 n4 c4) mu ms).all (·.oneCell')=true:=by simp[SG,Value.oneCell']
theorem infoSg:(aO.info? 149).map (·.size)=some 15:=by kernel_rfl
theorem infoAtz:(aO.info? 185).map (fun i=>(i.zero,i.size))=some (some (I (AT (aB none 0 0) (aB none 0 0) ⟨#[]⟩ fun _=>0)),259):=by kernel_rfl
theorem infoSgz:(aO.info? 149).map (fun i=>(i.zero,i.size))=some (some (I #[aC none,O J 0,O J 0,O J 0,O J 0,O J 0,O J 0,O J 0,O J 0,aB none 0 0,aB none 0 0,aB none 0 0,aB none 0 0,E ⟨#[]⟩,E ⟨#[]⟩]),15):=by kernel_rfl
theorem infoAt:(aO.info? 185).map (·.size)=some 259:=by kernel_rfl
theorem xtp(gt:Nat)(k l e t a b o s:Int)(p1 p2 p3 p4:Option Addr)(n1 n2 n3 n4 c1 c2 c3 c4:Nat)(mu ms:ByteArray):aO.built 149 [(0,aC (some ⟨gt,0,none⟩)),(1,I (bO k l e t a b o s)),(2,.slice p1 n1 c1),(3,.slice p2 n2 c2),(4,.slice p3 n3 c3),(5,.slice p4 n4 c4),(6,E mu),(7,E ms)]=some (SG gt k l e t a b o s (.slice p1 n1 c1) (.slice p2 n2 c2) (.slice p3 n3 c3) (.slice p4 n4 c4) mu ms):=by kernel_rfl
theorem xtn(p q:Option Addr)(n1 c1 n2 c2:Nat)(h:ByteArray)(c:Nat->Int):aO.built 185 [(0,.slice p n1 c1),(1,.slice q n2 c2),(2,E h),(3,I (FL J 256 c))]=some (AT (.slice p n1 c1) (.slice q n2 c2) h c):=by kernel_rfl
theorem xgz{w:G}{B m k:Nat}{v:aE}{p:Nat->Nat->Int}(h:Holds w B v m p)(hk:k<B)(R:Array aE):Holds (w.setRow k R) B v m p:=by
 obtain⟨g,c,e,h1,h2,h3⟩:=h;refine⟨g,c,e,h1,by simpa [World.setRow] using h2,fun i hi j hj=>?_⟩;rw[<-h3 i hi j hj];have hb:(w.setRow k R).heap[g]? = w.heap[g]? := lW _ _ _ _ (by omega);unfold World.cell?;simp only[hb]
def mul(ζ : Nat->Int)(c f:Nat->Int):Nat->Int:=fun k=>(bH ζ 8 (fun i=>(c i*f i)%8380417) k*8347681)%8380417
theorem mul_one(ζ : Nat->Int)(c f:Nat->Int):mul ζ (aS ζ 8 c) (aS ζ 8 f)=one ζ c f:=rfl
theorem xhz{P:aI}{ops:Array Oper}{C:G->Prop}{Q:Act->Prop}{rest:List Oper}{o:Oper}{a:Act}(hw:aL o (yielded ops a.tmps)=true)(ty:aH)(x:Operand)(ho:o.op=.load ty x)
 (b n:Nat) (hx:a.eval x=aC (some ⟨b,n,none⟩)) (cs:List aE) (d:TypeDesc) (hS:∀ w,C w->w.rangeAt b n cs)
 (hu:P.underlying ty=some d) (hd:d.isRow=true) (hi:(P.info? ty).map (·.size)=some cs.length)
 (h:dE P ops C Q rest (a.put o.dst (I cs.toArray))):dE P ops C Q (o :: rest) a:=
 xdq hw (I cs.toArray) (fun w hC=>by
  unfold execOp;simp only[ho,hx,Instr.loadAt,Instr.sureAddr,lQ,mR,kQ,run_loadVar_mid w b n ty cs d (hS w hC) hu hd hi]) h
theorem ends1{P:aI}{Q:Exit->Act->G->Prop}{W:G}{a:Act}{v1:Vr}(c1:Array aE)(h1:a.eval (.tmp v1.e)=I c1)(f1:Fits P v1.ty v1.Z c1)
 (h:∀ p1 w',W.heap.size<=p1->zb W w'->w'.heap[p1]? = some (Y c1 v1.ty (0,0))->Q .normal (a.put (some v1.d) (aC (some ⟨p1,0,none⟩))) w'):EndsN P [v1] Q W a:=by
 refine⟨fun v hv=>?_,fun ps w' hm hi hb=>?_⟩
 ·simp only[kT,mK,or_false]at hv;subst hv;exact⟨c1,h1,f1⟩
 ·obtain⟨p1,d1,e1,l1,k1,r1⟩:=hm v1 (by simp);obtain rfl:d1=c1:=by rw[h1]at k1;injection k1 with k1;exact k1.symm
  have e:cS [v1] ps a=a.put (some v1.d) (aC (some ⟨p1,0,none⟩)):=by
   simp only[cS,List.foldr_cons,List.foldr_nil,e1];rfl
  rw[e];exact h p1 w' l1 hb r1
theorem yag{P:aI}{ops:Array Oper}{C:G->Prop}{Q:Act->Prop}{rest:List Oper}{o:Oper}{a:Act}(hw:aL o (yielded ops a.tmps)=true)(v:aE)(hv:∀ w,(execOp a.eval o).run P w=.ok (.value v) w)
 (h:wpQuiet P ops C Q rest (a.put o.dst v)):wpQuiet P ops C Q (o :: rest) a:=by
 refine wpQuiet_step fun K hK=>?_
 rw[iP hw];exact⟨v,fun w _=>by unfold Oper.quietAt;rw[hv w];exact⟨rfl,rfl⟩,hK _ h⟩
theorem xky{P:aI}{ev:Operand->aE}{o:Oper}(t:aH)(parts:Array (Nat × Operand))(ho:o.op=.build t parts)(C:Array aE)(hC:P.built t (parts.map fun (i,x)=>(i,ev x)).toList=some C)(w:G):(execOp ev o).run P w=.ok (.value (I C)) w:=by
 unfold execOp;simp only[ho,lQ,run_build w t _ C hC,kQ,mR]
theorem xuh{P:aI}{ev:Operand->aE}{o:Oper}(t:aH){x0 x1 x2 x3:Operand}{v0 v1 v2 v3:aE}(ho:o.op=.build t #[(0,x0),(1,x1),(2,x2),(3,x3)])(h0:ev x0=v0)(h1:ev x1=v1)(h2:ev x2=v2)(h3:ev x3=v3)(C:Array aE)(hC:P.built t [(0,v0),(1,v1),(2,v2),(3,v3)]=some C)(w:G):(execOp ev o).run P w=.ok (.value (I C)) w:=
 xky t _ ho C (by simpa only[List.map_toArray,lT,List.map_nil,h0,h1,h2,h3] using hC) w
theorem xui{P:aI}{ev:Operand->aE}{o:Oper}(t:aH){x0 x1 x2 x3 x4 x5 x6 x7:Operand}{v0 v1 v2 v3 v4 v5 v6 v7:aE}(ho:o.op=.build t #[(0,x0),(1,x1),(2,x2),(3,x3),(4,x4),(5,x5),(6,x6),(7,x7)])(h0:ev x0=v0)(h1:ev x1=v1)(h2:ev x2=v2)(h3:ev x3=v3)(h4:ev x4=v4)(h5:ev x5=v5)(h6:ev x6=v6)(h7:ev x7=v7)(C:Array aE)(hC:P.built t [(0,v0),(1,v1),(2,v2),(3,v3),(4,v4),(5,v5),(6,v6),(7,v7)]=some C)(w:G):(execOp ev o).run P w=.ok (.value (I C)) w:=
 xky t _ ho C (by simpa only[List.map_toArray,lT,List.map_nil,h0,h1,h2,h3,h4,h5,h6,h7] using hC) w
theorem xug{P:aI}{ev:Operand->aE}{o:Oper}(t:aH)(ho:o.op=.build t #[])(C:Array aE)(hC:P.built t []=some C)(w:G):(execOp ev o).run P w=.ok (.value (I C)) w:=
 xky t _ ho C (by simpa only[List.map_toArray,List.map_nil] using hC) w
theorem xuj{ev:Operand->aE}{op:Oper}{x0 x1 x2 x3 x4 x5 x6 x7:Operand}{gt:Nat}{k l e t a b o s:Int}{p1 p2 p3 p4:Option Addr}{n1 n2 n3 n4 c1 c2 c3 c4:Nat}{mu ms:ByteArray}(ho:op.op=.build 149 #[(0,x0),(1,x1),(2,x2),(3,x3),(4,x4),(5,x5),(6,x6),(7,x7)])
 (h0:ev x0=aC (some ⟨gt,0,none⟩)) (h1:ev x1=I (bO k l e t a b o s)) (h2:ev x2=.slice p1 n1 c1) (h3:ev x3=.slice p2 n2 c2) (h4:ev x4=.slice p3 n3 c3) (h5:ev x5=.slice p4 n4 c4) (h6:ev x6=E mu) (h7:ev x7=E ms) (w:G):
 (execOp ev op).run aO w=.ok (.value (I (SG gt k l e t a b o s (.slice p1 n1 c1) (.slice p2 n2 c2) (.slice p3 n3 c3) (.slice p4 n4 c4) mu ms))) w:=
 xui _ ho h0 h1 h2 h3 h4 h5 h6 h7 _ (xtp _ _ _ _ _ _ _ _ _ _ _ _ _ _ _ _ _ _ _ _ _ _ _) w
def resH(S:Sg)(n:Nat):aE:=if bE.eW (tLo S n) S.kn<S.b-S.t*S.e/\bE.eW (gK S n) S.kn<S.b/\(eD.dR (fI S n) S.kn:Int)<=S.o then aA #[E ⟨(aY.cP (eD.lay (fI S n) S.o.toNat S.kn S.kn)).toArray⟩,.bool true] else aA #[E ⟨#[]⟩,.bool false]
theorem xia(p:Nat->Nat->Int)(x:Int)(hx : 0<x)(n:Nat):bE.eW p n<x↔∀ i,i<n->bE.cb (p i) 256<x:=by
 induction n with
 | zero=>exact⟨fun _ i hi=>by omega,fun _=>hx⟩
 | succ n ih=>
  rw[bE.eW];constructor
  ·intro h i hi;by_cases e:i=n
   ·rw[e];omega
   ·exact ih.1 (by omega) i (by omega)
  ·intro h;have h1:=ih.2 fun i hi=>h i (by omega)
   have h2:=h n (by omega);omega
theorem xt1(f:Nat->Int):bE.eW (fun _=>f) 1=bE.cb f 256:=by
 have:=(bE.xh9 f 256).1;show max 0 (bE.cb f 256)=_;omega
end mgd
namespace eX
open Go.Shelf
def xis:Go.Shelf.Ren:=⟨fun | 99=>121 | 105=>67 | 165=>122 | 166=>91 | 169=>86 | 170=>123 | 206=>160 | 212=>120 | 240=>143 | 241=>161 | 263=>158 | 264=>159 | 276=>173 | 277=>183 | n=>n,fun | 0=>0 | 3=>3 | 4=>4 | 5=>5 | 9=>9 | 20=>20 | 37=>57 | 46=>62 | 51=>24 | 53=>27 | 70=>115 | 72=>117 | 75=>120 | 76=>121 | 80=>118 | 109=>141 | 127=>160 | 146=>178 | 148=>180 | 164=>197 | n=>n,fun | n=>n⟩
theorem lays105:Go.Proofs.Lays.n105 aO xis:={
 mixed:=by kernel_rfl
 f99:=Tryz.func121.trans (lD some (by kernel_rfl))
 f105:=Tryz.func67.trans (lD some (by kernel_rfl))
 f165:=Tryz.func122.trans (lD some (by kernel_rfl))
 f166:=Tryz.func91.trans (lD some (by kernel_rfl))
 f169:=Tryz.func86.trans (lD some (by kernel_rfl))
 f170:=Tryz.func123.trans (lD some (by kernel_rfl))
 f206:=Tryz.func160.trans (lD some (by kernel_rfl))
 f212:=Tryz.func120.trans (lD some (by kernel_rfl))
 f240:=Tryz.func143.trans (lD some (by kernel_rfl))
 f241:=Tryz.func161.trans (lD some (by kernel_rfl))
 f263:=Tryz.func158.trans (lD some (by kernel_rfl))
 f264:=Tryz.func159.trans (lD some (by kernel_rfl))
 f276:=Tryz.func173.trans (lD some (by kernel_rfl))
 f277:=Tryz.func183.trans (lD some (by kernel_rfl))
 t0:=Tryz.underlying0
 a0:=Tryz.isAgg0
 z0:=Tryz.sizeOf0
 v0:=Tryz.zeroValue0
 t3:=Tryz.underlying3
 a3:=Tryz.isAgg3
 z3:=Tryz.sizeOf3
 v3:=Tryz.zeroValue3
 t4:=Tryz.underlying4
 a4:=Tryz.isAgg4
 z4:=Tryz.sizeOf4
 v4:=Tryz.zeroValue4
 t5:=Tryz.underlying5
 a5:=Tryz.isAgg5
 z5:=Tryz.sizeOf5
 v5:=Tryz.zeroValue5
 t9:=Tryz.underlying9
 a9:=Tryz.isAgg9
 z9:=Tryz.sizeOf9
 v9:=Tryz.zeroValue9
 t20:=Tryz.underlying20
 a20:=Tryz.isAgg20
 z20:=Tryz.sizeOf20
 v20:=Tryz.zeroValue20
 t37:=Tryz.underlying57
 a37:=Tryz.isAgg57
 z37:=Tryz.sizeOf57
 v37:=Tryz.zeroValue57
 t46:=Tryz.underlying62
 a46:=Tryz.isAgg62
 z46:=Tryz.sizeOf62
 v46:=Tryz.zeroValue62
 t51:=Tryz.underlying24
 a51:=Tryz.isAgg24
 z51:=Tryz.sizeOf24
 v51:=Tryz.zeroValue24
 t53:=Tryz.underlying27
 a53:=Tryz.isAgg27
 z53:=Tryz.sizeOf27
 v53:=Tryz.zeroValue27
 t70:=Tryz.underlying115
 a70:=Tryz.isAgg115
 z70:=Tryz.sizeOf115
 v70:=Tryz.zeroValue115
 t72:=Tryz.underlying117
 a72:=Tryz.isAgg117
 z72:=Tryz.sizeOf117
 v72:=Tryz.zeroValue117
 t75:=Tryz.underlying120
 a75:=Tryz.isAgg120
 z75:=Tryz.sizeOf120
 v75:=Tryz.zeroValue120
 t76:=Tryz.underlying121
 a76:=Tryz.isAgg121
 z76:=Tryz.sizeOf121
 v76:=Tryz.zeroValue121
 t109:=Tryz.underlying141
 a109:=Tryz.isAgg141
 z109:=Tryz.sizeOf141
 v109:=Tryz.zeroValue141
 t127:=Tryz.underlying160
 a127:=Tryz.isAgg160
 z127:=Tryz.sizeOf160
 v127:=Tryz.zeroValue160
 t146:=Tryz.underlying178
 a146:=Tryz.isAgg178
 z146:=Tryz.sizeOf178
 v146:=Tryz.zeroValue178
 t148:=Tryz.underlying180
 a148:=Tryz.isAgg180
 z148:=Tryz.sizeOf180
 v148:=Tryz.zeroValue180
 t164:=Tryz.underlying197
 a164:=Tryz.isAgg197
 z164:=Tryz.sizeOf197
 v164:=Tryz.zeroValue197 }
theorem extra105:Builder.Extra aO xis:={
 sizeBuilder:=by kernel_rfl
 liesBuilder:=by kernel_rfl
 t5:=Tryz.underlying5
 a5:=Tryz.isAgg5
 z5:=Tryz.sizeOf5
 v5:=Tryz.zeroValue5
 infoByte:=by kernel_rfl
 cellsByte:=by kernel_rfl
 sizeByte:=by kernel_rfl
 neB5:=by decide }
open Go.RowKit in
theorem repeated(s:ByteArray)(c:Nat)(w:G)(hc:c<=9223372036854775807)(hlen:s.size*c<=140737488355328):
 aD aO 67 #[E s,O J c] w (zB w (E ⟨(Lib.repeatL s.data.toList c).toArray⟩)):=Any.strings_Repeat lays105 extra105 s c w hc hlen
open Go.RowKit in
theorem gG(B b:Nat)(bs:List aE)(s:ByteArray)(w:G)(h:Lib.IsBuilder 117 5 B b bs w)(hlen:bs.length+s.size<=140737488355328)(hBw:B<=w.heap.size):
 aD aO 91 #[aC (some ⟨b,0,none⟩),E s] w fun e w'=>e=.returned (.tuple #[O J s.size,.nilIface])/\(Lib.BuilderAt 117 5 B b (aC (some ⟨b,0,none⟩)) (bs++Lib.strCells s) w'/\aF B w w'):=Any.Builder_WriteString (ρ := xis) { lays105 with } extra105 B b bs s w h hlen hBw
open Go.RowKit in
theorem toText(B b:Nat)(l:List UInt8)(w:G)(h:Lib.IsBuilder 117 5 B b (aJ l) w)(hBw:B<=w.heap.size):
 aD aO 86 #[aC (some ⟨b,0,none⟩)] w fun e w'=>e=.returned (E ⟨l.toArray⟩)/\aF B w w':=Any.Builder_String_any (ρ := xis) { lays105 with } extra105 B b l w h hBw
open Go.RowKit
open mem
theorem xki{T e:aH}{B b:Nat}{bs:List aE}{w w':G}(h:Lib.IsBuilder T e B b bs w)(k:zb w w'):Lib.IsBuilder T e B b bs w':=by
 have key:∀ p,Lib.BuilderAt T e B b p bs w->Lib.BuilderAt T e B b p bs w':=by
  intro p h;have hl:=h.lt;obtain⟨hB,v,hbk,hown,hne⟩:=h;refine⟨hB,v,(k.block b hl).trans hbk,⟨hown.1,?_⟩,hne⟩;rcases hown.2 with h0 | ⟨g,cap,cur,h1,h2,hg,h3⟩
  ·exact kW h0
  ·exact kO ⟨g,cap,cur,h1,h2,(k.block g (bI hg)).trans hg,h3⟩
 rcases h with h | h
 ·exact kW (key _ h)
 ·exact kO (key _ h)
end eX
namespace shelf
open Go.Shelf
def xvc:Go.Shelf.Ren:=⟨fun | 129=>193 | n=>n,fun | 3=>3 | 4=>4 | 5=>5 | 9=>9 | 46=>62 | 53=>27 | n=>n,fun | n=>n⟩
theorem lays129:Go.Proofs.Lays.n129 aO xvc:={
 mixed:=by kernel_rfl
 f129:=Tryz.func193.trans (lD some (by kernel_rfl))
 t3:=Tryz.underlying3
 a3:=Tryz.isAgg3
 z3:=Tryz.sizeOf3
 v3:=Tryz.zeroValue3
 t4:=Tryz.underlying4
 a4:=Tryz.isAgg4
 z4:=Tryz.sizeOf4
 v4:=Tryz.zeroValue4
 t5:=Tryz.underlying5
 a5:=Tryz.isAgg5
 z5:=Tryz.sizeOf5
 v5:=Tryz.zeroValue5
 t9:=Tryz.underlying9
 a9:=Tryz.isAgg9
 z9:=Tryz.sizeOf9
 v9:=Tryz.zeroValue9
 t46:=Tryz.underlying62
 a46:=Tryz.isAgg62
 z46:=Tryz.sizeOf62
 v46:=Tryz.zeroValue62
 t53:=Tryz.underlying27
 a53:=Tryz.isAgg27
 z53:=Tryz.sizeOf27
 v53:=Tryz.zeroValue27 }
open Go.RowKit in
theorem len64(x:Int)(w:G)(h0 : 0<=x)(h1:x<=18446744073709551615):
 aD aO 193 #[O .u64 x] w (zE w (O J (Lib.bitLen x.toNat))):=Any.bits_Len64 lays129 x w h0 h1
end shelf
namespace plong
open arr mem aW
theorem xvh(f:Nat):∀ n,Lib.bitLenAux f n=lbf f n:=by
 induction f with
 | zero=>intro n;rfl
 | succ f ih=>
  intro n;rw[Lib.bitLenAux,lbf,ih];by_cases h:n=0
  ·rw[iP h,iP h]
  ·rw[iQ h,iQ h];omega
theorem xoz(x:Int)(h0 : 0<=x)(h1:x<=18446744073709551615)(w:G):aD aO 169 #[O .u64 x] w (zE w (O J ((lb x.toNat:Nat):Int))):=by
 have H:∀ w1:G,aD aO 193 #[O .u64 x] w1 (zE w1 (O J ((lb x.toNat:Nat):Int))):=fun w1=>by
  have h:=shelf.len64 x w1 h0 h1;rw[show Lib.bitLen x.toNat=lb x.toNat from xvh 64 _]at h;exact h
 go_enter Tryz.func169,Tryz.ntmps169;go_wp2_with fail;refine(H _).mono ?_;rintro e w1 ⟨rfl,rfl⟩;go_wp2_with fail;go_ret;exact⟨rfl,rfl⟩
theorem xc3(n:Int)(hn:n<9223372036854775808)(w:G):aD aO 127 #[O J n] w (zE w (O J ((lb n.toNat:Nat):Int))):=by
 by_cases h0 : 0<=n
 ·have H:=fun w1=>xoz n h0 (by omega) w1
  have hmx:max n 0=n:=by omega
  have fu:IntKind.u64.wrap n=n:=by rw[kA];omega
  go_enter Tryz.func127,Tryz.ntmps127;go_wp2_with fail;refine(H _).mono ?_;rintro e w1 ⟨rfl,rfl⟩;go_wp2_with fail;go_ret;exact⟨rfl,rfl⟩
 ·have H:=fun w1=>xoz 0 (by decide) (by decide) w1
  have hz:n.toNat=(0:Int).toNat:=by omega
  rw[hz];have hmx:max n 0=0:=by omega
  have fu:IntKind.u64.wrap 0=0:=by decide
  go_enter Tryz.func127,Tryz.ntmps127;go_wp2_with fail;refine(H _).mono ?_;rintro e w1 ⟨rfl,rfl⟩;go_wp2_with fail;go_ret;exact⟨rfl,rfl⟩
end plong
namespace dX
open arr mem
theorem xpl(m:Int)(w:G):aD aO 128 #[O J m] w (zE w (.bool (decide (1<=m/\m<8380417)))):=by
 by_cases c0 : 1<=m
 rotate_left
 ·rw[jN (fun h=>c0 h.1)];go_enter Tryz.func128,Tryz.ntmps128;go_wp2_with fail;go_ret;exact⟨rfl,rfl⟩
 by_cases c1:m<8380417
 rotate_left
 ·rw[jN (fun h=>c1 h.2)];go_enter Tryz.func128,Tryz.ntmps128;go_wp2_with fail;go_ret;exact⟨rfl,rfl⟩
 rw[jP ⟨c0,c1⟩];go_enter Tryz.func128,Tryz.ntmps128;go_wp2_with fail;go_ret;exact⟨rfl,rfl⟩
theorem xb9(wd:Nat)(h:wd<=64)(w:G):aD aO 129 #[O J (wd:Int)] w (zE w (O J ((32*wd:Nat):Int))):=by
 obtain⟨M,hM⟩:=aQ (32*wd);have f1:J.wrap (256*(wd:Int))=256*(wd:Int):=bB;have f2:(256*(wd:Int)).tdiv 8=(M:Int):=by rw[iU (by omega)];have:=hM.o;omega
 have f3 : 256*(wd:Int) / 8=(M:Int):=by have:=hM.o;omega
 rw[hM.o];go_enter Tryz.func129,Tryz.ntmps129;go_wp2_with fail;go_ret;exact⟨by first | rfl | (congr 2;have:=hM.o;omega),rfl⟩
end dX
namespace dX
open arr mem
theorem xkx(l h:Int)(w:G):aD aO 155 #[O J l,O J h] w (zE w (.bool (decide (0<=l/\l<4190208/\1<=h/\h<4190208)))):=by
 by_cases c0 : 0<=l
 rotate_left
 ·rw[jN (fun k=>c0 k.1)];go_enter Tryz.func155,Tryz.ntmps155;go_wp2_with fail;go_ret;exact⟨rfl,rfl⟩
 by_cases c1:l<4190208
 rotate_left
 ·rw[jN (fun k=>c1 k.2.1)];go_enter Tryz.func155,Tryz.ntmps155;go_wp2_with fail;go_ret;exact⟨rfl,rfl⟩
 by_cases c2 : 1<=h
 rotate_left
 ·rw[jN (fun k=>c2 k.2.2.1)];go_enter Tryz.func155,Tryz.ntmps155;go_wp2_with fail;go_ret;exact⟨rfl,rfl⟩
 by_cases c3:h<4190208
 rotate_left
 ·rw[jN (fun k=>c3 k.2.2.2)];go_enter Tryz.func155,Tryz.ntmps155;go_wp2_with fail;go_ret;exact⟨rfl,rfl⟩
 rw[jP ⟨c0,c1,c2,c3⟩];go_enter Tryz.func155,Tryz.ntmps155;go_wp2_with fail;go_ret;exact⟨rfl,rfl⟩
end dX
namespace pstore
open arr mem bD dZ bitn aT aY bC bA
def us(l:List Nat):List aE:=l.map fun (x:Nat)=>Value.int .u8 (x:Int)
theorem xz3(l:List Nat)(x:Nat):us (l ++ [x])=us l ++ [O .u8 (x:Int)]:=by simp[us]
theorem xep{w:G}{base g cap n:Nat}{l:List Nat}(hn:l.length=n)(hl:∀ x∈l,x<256)(h:w.ownsRow base 5 1 (aB (some ⟨g,0,none⟩) n cap) n (us l)):
 (convert 57 9 (aB (some ⟨g,0,none⟩) n cap)).run aO w=.ok (E ⟨(cP l).toArray⟩) w:=by
 subst hn;have hz:(cP l).length=l.length:=by simp[cP]
 have:=run_convert_bytes_back (P:=aO) w 57 9 5 ⟨g,0,none⟩ cap (cP l) Tryz.underlying57 Tryz.underlying5 Tryz.underlying9 (fun j hj=>by
  rw[hz]at hj;rw[Addr.add_mid,kP,h.cellAt j (by rw[oA];exact hj)];have hx:=hl l[j] (kZ hj);simp[us,cP,iT hj,jO hx])
 rw[hz]at this;exact this
theorem xze(g wd:Nat)(L:List Nat)(w:G)(hl:L.length=256)(hw0 : 1<=wd)(hw:wd<=23)(hL:∀ x∈L,x<2 ^ wd)(hg:g<w.heap.size)(hcell:∀ i,i<256->w.cell? ⟨g,i,none⟩=some (O J ((L.getD i 0:Nat):Int))):
 aD aO 141 #[aC (some ⟨g,0,none⟩),O J (wd:Int)] w (zB w (E ⟨(cP (nb 8 (32*wd) (pk wd L))).toArray⟩)):=by
 obtain⟨i0,hi,hz0,hz1,hz2⟩:=parts dV;have HI:=D (jA hi (jA hz0 (jA hz1 hz2)));obtain⟨M,hM⟩:=aQ (32*wd);have HS:∀ w1:G,aD aO 129 #[O J (wd:Int)] w1 (zE w1 (O J (M:Int))):=fun w1=>by rw[<-hM.o];exact dX.xb9 wd (by omega) w1
 have hMb:M<=736:=by rw[<-hM.o];omega
 obtain⟨N,hN⟩:=aQ (pk wd L);have HNi:U (∀ i,i<256->L.getD i 0=N / 2 ^ (wd*i)%2 ^ wd):=⟨fun i hi=>by
  rw[<-hN.o,xf2 wd L hL i (by rw[hl];exact hi),iO,iT (by rw[hl];exact hi)];rfl⟩
 have Hcell:=D hcell;obtain⟨R,HR⟩:=aQ (cP (nb 8 M N));rw[hM.o,hN.o,HR.o];clear hi hz0 hz1 hz2 hcell hL hl;go_enter Tryz.func141,Tryz.ntmps141;go_wp2_with fail;refine(HS _).mono ?_;rintro e w ⟨rfl,rfl⟩;go_wp2_with (at_make;refine wpList_make_own _ rfl _ _ 57 rfl w.heap.size 5 i0 (O .u8 0) 1 Tryz.underlying57 HI.o.1 HI.o.2.1 HI.o.2.2.1 J J _ M rfl rfl rfl (by rw[HI.o.2.2.2];omega) (by unfold maxLen;omega) (iM _) ?_);intro w3 hown hgr;have B3:U (zb w w3):=⟨(iR _ _).grown hgr (iM _) (fun k hk=>by simp at hk)⟩;have O3:U (w3.ownsRow w.heap.size 5 1 (aB (some ⟨w.heap.size,0,none⟩) 0 M) 0 (us (nb 8 0 N))):=⟨hown⟩;clear hown hgr;go_wp2_with fail;go_loopw [5,6,7,14] (fun v a k c wr=>∃ i b h j:Nat,i<=256/\8*b<=wd*i/\wd*i<8*b+8/\N%2 ^ (wd*i) / 2 ^ (8*b)=h/\j+8*b=wd*i/\v=aB (some ⟨w.heap.size,0,none⟩) b M/\a=O J (h:Int)/\k=O J (j:Int)/\c=O J (i:Int)/\U (wr.ownsRow w.heap.size 5 1 (aB (some ⟨w.heap.size,0,none⟩) b M) b (us (nb 8 b N)))/\U (zb w wr)) (fun _ _ _ c _=>256-(aG c).toNat)
 case atStart=>exact⟨0,0,0,0,iX _,by omega,by omega,by simp[Nat.mod_one],by omega,rfl,rfl,rfl,rfl,O3,B3⟩
 case round=>
  clear O3 B3;obtain⟨i,b,h,j,hi,hb1,hb2,hh,hj,rfl,rfl,rfl,rfl,Ow,Bw⟩:=hrel;by_cases hlt:i<256
  ·have hiz:(i:Int)<256:=by omega
   have cx:=(Bw.o.cell (p:=⟨g,i,none⟩) hg).trans (Hcell.o i hlt);obtain⟨x,hx⟩:=aP (L.getD i 0);have hxN:=HNi.o i hlt;rw[hx]at hxN cx;have hxl:x<2 ^ wd:=by rw[hxN];exact kB _ (kD _)
   obtain⟨m,hm⟩:=aP (wd*i);have hm2:wd*(i+1)=m+wd:=by rw[kG,hm]
   have hmM:m+wd<=8*M:=by
    have h1:wd*(i+1)<=wd*256:=kJ _ hlt;have:=hM.o;omega
   rw[hm]at hb1 hb2 hh hj hxN;obtain⟨d,hd⟩:=aP (x*2 ^ j);have hj7:j<=7:=by omega
   have hor:=xp1 N m (8*b) wd hb1;rw[hh,<-hxN,show m-8*b=j by omega,hd]at hor;obtain⟨h',hh'⟩:∃ h',N%2 ^ (m+wd) / 2 ^ (8*b)=h':=⟨_,rfl⟩;rw[hh']at hor;have hhl:h<2 ^ j:=by rw[<-hh,show j=m-8*b by omega];exact xil N m (8*b) hb1
   have hj30:j+wd<=30:=by omega
   have hh'l:h'<2 ^ (j+wd):=by rw[<-hh',show j+wd=m+wd-8*b by omega];exact xil N (m+wd) (8*b) (by omega)
   have p7:=xf5 j 7 hj7;have p23:=xf5 wd 23 hw;have p30:=xf5 (j+wd) 30 hj30;have hd30:d<2 ^ 30:=by
    rw[<-hd];have h1:x*2 ^ j<2 ^ wd*2 ^ j:=Nat.mul_lt_mul_of_lt_of_le hxl (iM _) (kD _);rw[<-lF,mJ wd]at h1;omega
   have hh30:h'<2 ^ 30:=by omega
   have hh7:h<2 ^ 30:=by omega
   have fd:(x:Int)*2 ^ j=(d:Int):=by rw[<-hd,kV,Int.natCast_pow];rfl
   have fdw:J.wrap ((x:Int)*2 ^ j)=(d:Int):=by rw[fd,iN];omega
   have V:=xg7 h d (by omega) (by omega);rw[hor]at V;have fjw:J.wrap ((j:Int)+(wd:Int))=((j+wd:Nat):Int):=bB;have hxi:x<8388608:=by omega
   have Hh:=D hh';have Hm:=D (jA hm2 hmM);clear hx hxN hxl hm hm2 hb2 hh hd hor hh' hhl hh'l p7 p23 p30 hmM fd;have hb8 : 8*b<=m+wd:=by omega
   have hj64:j<64:=by omega
   clear hb1 hj30 hd30 hxi;go_wp2_with fail;clear V fdw fjw cx hj7 hj64;obtain⟨m',hm'⟩:∃ m',m+wd=m':=⟨_,rfl⟩;rw[hm']at hb8 Hh Hm;go_loopw [5,6,7] (fun v a k wr=>∃ b h j:Nat,8*b<=m'/\h<2 ^ 30/\N%2 ^ m' / 2 ^ (8*b)=h/\j+8*b=m'/\v=aB (some ⟨w.heap.size,0,none⟩) b M/\a=O J (h:Int)/\k=O J (j:Int)/\U (wr.ownsRow w.heap.size 5 1 (aB (some ⟨w.heap.size,0,none⟩) b M) b (us (nb 8 b N)))/\U (zb w wr)) (fun _ _ k _=>(aG k).toNat)
   case atStart=>exact⟨b,h',j+wd,hb8,hh30,Hh.o,by omega,rfl,rfl,by go_num,Ow,Bw⟩
   case round=>
    clear Ow Bw Hh hb8 hh30 hh7 hj hm';obtain⟨b,h,j,hb8,hh30,hh,hj,rfl,rfl,rfl,Ow,Bw⟩:=hrel;by_cases h8 : 8<=j
    ·have hj8:(8:Int)<=(j:Int):=by omega
     obtain⟨β,hβ⟩:∃ β,h%256 = β := ⟨_,rfl⟩;obtain⟨h2,hh2⟩:=aP (h / 256);have Hn:U (us (nb 8 (b+1) N)=us (nb 8 b N) ++ [O .u8 (β : Int)]):=⟨by
      have e:=xpi N m' (8*b) 8 (by omega);rw[hh]at e;rw[xv2,xz3,<-e,<-hβ]⟩
     have Hh2:U (N%2 ^ m' / 2 ^ (8*(b+1))=h2):=⟨by rw[<-hh2,<-hh,kG,lF,mY]⟩;have fβ : (h:Int)%256=(β : Int):=by omega
     have fβw:IntKind.u8.wrap (h:Int)=(β : Int):=by rw[kU];omega
     have fh2:(h:Int) / 256=(h2:Int):=by omega
     have hh23:h2<2 ^ 30:=by omega
     have fj8:J.wrap ((j:Int)-8)=((j-8:Nat):Int):=by have:=Hm.o.2;rw[iN];omega
     have hbM:b+1<=M:=by have:=Hm.o.2;omega
     have hbM':b<=M:=by omega
     have hwx:=Bw.o.size;clear hβ hh2 hh;go_wp2_with (at_builtin;refine wpList_append_fits _ rfl _ _ 57 rfl w.heap.size 5 i0 1 Tryz.underlying57 HI.o.1 HI.o.2.2.1 w.heap.size b M _ rfl (Ow.o.alloc _) ⟨wr.heap.size,0,none⟩ 1 1 [O .u8 (β : Int)] rfl rfl xbg (fun u hu=>by simp at hu;subst hu;rfl) hbM ?_);intro w4 hown' hgrow;have hb4:aF w.heap.size wr w4:=((iR w.heap.size wr).alloc hwx _).grown hgrow (by rw[size_alloc];omega) (fun k hk=>by simp at hk;omega);have HB4:U (zb w w4):=⟨Bw.o.trans hb4⟩;have OY:U (w4.ownsRow w.heap.size 5 1 (aB (some ⟨w.heap.size,0,none⟩) (b+1) M) (b+1) (us (nb 8 (b+1) N))):=⟨by rw[Hn.o];exact hown'⟩;clear hown' hgrow hb4 Ow Bw;go_wp2_with fail;go_roundw
     case rel=>exact⟨b+1,h2,j-8,by omega,hh23,Hh2.o,by omega,rfl,by go_num,by go_num,OY,HB4⟩
     case measure=>simp[aG];omega
    ·have hj8:¬ (8:Int)<=(j:Int):=by omega
     go_wp2_with fail;go_roundw
     case rel=>exact⟨i+1,b,h,j,by omega,by rw[Hm.o.1];exact hb8,by rw[Hm.o.1];omega,by rw[Hm.o.1];exact hh,by rw[Hm.o.1];exact hj,rfl,rfl,rfl,by go_num,Ow,Bw⟩
     case measure=>simp[aG];omega
  ·obtain rfl:i=256:=by omega
   simp only[jE];obtain rfl:b=M:=by have:=hM.o;omega
   have hcv:=xep (xcf 8 b N) (fun x hx=>xg5 8 b N x hx) Ow.o;rw[HR.o]at hcv;clear hh;go_wp2_with fail;go_ret;exact⟨rfl,Bw.o⟩
end pstore
namespace ppack
open arr mem bD dZ bitn aT aW aY bC bA bY
theorem ns_get(f:Nat->Int)(h:∀ i,i<256->0<=f i)(i:Nat)(hi:i<256):(((ns f).getD i 0:Nat):Int)=f i:=by
 unfold ns;rw[iO,mU,List.getElem?_range hi];exact Int.toNat_of_nonneg (h i hi)
theorem xv8(f:Nat->Int):(ns f).length=256:=by simp[ns]
theorem xlf(most:Int)(h1 : 1<=most)(h2:most<8380417) : 1<=lb most.toNat:=
 ((xdg 64 most.toNat (by omega)).2.1 (by omega)).1
theorem ns_lt(f:Nat->Int)(most:Int)(h1 : 1<=most)(h2:most<8380417)(h:fK f most):∀ x∈ns f,x<2 ^ lb most.toNat:=by
 intro x hx;obtain⟨i,hi,rfl⟩:=nY.1 hx;have h3:=h i (lV.1 hi);have h4:=(xdg 64 most.toNat (by omega)).1;exact mM (by omega) h4
theorem xd7(f:Nat->Int)(most:Int)(w:G)(h1 : 1<=most)(h2:most<8380417):
 aD aO 89 #[I (FL J 256 f),O J most] w (zB w (if fK f most then aA #[E (packed f most),O J 0] else aA #[E ⟨#[]⟩,O J 6])):=by
 have HM:∀ w1:G,aD aO 128 #[O J most] w1 (zE w1 (.bool true)):=fun w1=>by
  have h:=dX.xpl most w1;rw[jP ⟨h1,h2⟩]at h;exact h
 have HLg:U (∀ w1:G,aD aO 127 #[O J most] w1 (zE w1 (O J ((lb most.toNat:Nat):Int)))):=⟨fun w1=>plong.xc3 most (by omega) w1⟩;have HSt:U (∀ (g:Nat) (w1:G),fK f most->g<w1.heap.size->(∀ i,i<256->w1.cell? ⟨g,i,none⟩=some (O J (f i)))->aD aO 141 #[aC (some ⟨g,0,none⟩),O J ((lb most.toNat:Nat):Int)] w1 (zB w1 (E (packed f most)))):=⟨fun g w1 hin hg hc=>by
  unfold packed;exact pstore.xze g (lb most.toNat) (ns f) w1 (xv8 f) (xlf most h1 h2) (xg3 most h2) (ns_lt f most h1 h2 hin) hg (fun i hi=>by rw[ns_get f (fun k hk=>(hin k hk).1) i hi];exact hc i hi)⟩
 obtain⟨Oq,HO⟩:=aQ (packed f most);obtain⟨wd,hwd⟩:=aQ (lb most.toNat);rw[HO.o,hwd.o]at HSt;rw[hwd.o]at HLg;rw[HO.o];have Hidx:U (∀ i:Nat,i<256->∀ w1,(aN 76 (I (FL J 256 f)) (O J (i:Int))).run aO w1=.ok (O J (f i)) w1):=⟨fun i hi w1=>xct (P:=aO) zX (by kernel_rfl) (by kernel_rfl) (by kernel_rfl) _ _ i hi (xba J 256 f i hi) w1⟩;have Fi:U ((aO.info? 76).map (·.size)=some (FL J 256 f).size):=⟨by rw[cC];exact sizeP⟩;obtain⟨V,HV⟩:=aQ (if fK f most then Value.tuple #[E Oq,O J 0] else aA #[E ⟨#[]⟩,O J 6]);rw[HV.o];have Hcells:U (∀ (w1:G) (g:Nat),w1.heap[g]? = some (Y (FL J 256 f) 76 (0,0))->∀ i,i<256->w1.cell? ⟨g,i,none⟩=some (O J (f i))):=⟨fun w1 g h i hi=>fZ h i hi⟩;obtain⟨F,HF⟩:=aQ (FL J 256 f);rw[HF.o]at Hidx Fi Hcells ⊢;obtain⟨W,hW⟩:=aP (w.alloc (Y F 76));have HW:=D hW;have BW:=zba hW;have hrow:=zhp hW;have H12:=D (jA h1 h2);clear hW HF HO h1 h2;go_enter Tryz.func89,Tryz.ntmps89;go_wp2_with (rw[HW.o]);refine(HM _).mono ?_;rintro e W ⟨rfl,rfl⟩;go_wp2_with (refine iL rfl 76 _ rfl w.heap.size rfl 76 F (0,0) _ hrow.o zX rfl Fi.o ?_);go_loopw [12] (fun c wr=>∃ j:Nat,j<=256/\c=O J (j:Int)/\U (∀ i,i<j->0<=f i/\f i<=most)/\W=wr) (fun c _=>256-(aG c).toNat)
 case atStart=>exact⟨0,iX _,rfl,⟨fun i hi=>by omega⟩,rfl⟩
 case round=>
  obtain⟨j,hj,rfl,Hin,rfl⟩:=hrel;by_cases hlt:j<256
  ·have hjz:(j:Int)<256:=by omega
   have hidx:=Hidx.o j hlt;obtain⟨x,hx⟩:=aP (f j);rw[hx]at hidx;by_cases hbad:x<0\/most<x
   ·have hV:U (V=aA #[E ⟨#[]⟩,O J 6]):=⟨by rw[<-HV.o,iQ];intro hall;have:=hall j hlt;rw[hx]at this;omega⟩;clear hx;rcases hbad with hb1 | hb1
    ·go_wp2_with fail;go_ret2;exact⟨by rw[hV.o];rfl,BW.o⟩
    ·by_cases hb0:x<0
     ·go_wp2_with fail;go_ret2;exact⟨by rw[hV.o];rfl,BW.o⟩
     ·go_wp2_with fail;go_ret2;exact⟨by rw[hV.o];rfl,BW.o⟩
   ·have hb0:¬ x<0:=by omega
    have hb1:¬ most<x:=by omega
    have Hin2:U (∀ i,i<j+1->0<=f i/\f i<=most):=⟨fun i hi=>by
     by_cases e:i=j
     ·subst e;rw[hx];omega
     ·exact Hin.o i (by omega)⟩
    clear hx hbad;go_wp2_with fail;go_roundw
    case rel=>exact⟨j+1,by omega,by go_num,Hin2,trivial⟩
    case measure=>simp[aG];omega
  ·obtain rfl:j=256:=by omega
   simp only[jE];have hall:fK f most:=Hin.o;have hV:U (V=aA #[E Oq,O J 0]):=⟨by rw[<-HV.o,iP hall]⟩;have C1:=D (HSt.o w.heap.size W hall (bI hrow.o) (Hcells.o W w.heap.size hrow.o));clear hall hj hlt;go_wp2_with fail;refine(HLg.o _).mono ?_;rintro e w5 ⟨rfl,rfl⟩;go_wp2_with fail;refine C1.o.mono ?_;rintro e w6 ⟨rfl,h6⟩;have BF:=bK BW h6;clear h6;go_wp2_with fail;go_ret2;exact⟨by rw[hV.o];rfl,BF.o⟩
end ppack
namespace psig
open arr mem bD dZ bitn aT bE fP aW aY bC bA bL
theorem xos(f:Nat->Int)(low high:Int):fK (sg f high) (low+high)↔ins f low high:=by
 unfold fK ins sg;constructor
 ·intro h i hi;have:=h i hi;omega
 ·intro h i hi;have:=h i hi;omega
theorem xrm(f:Nat->Int)(low high:Int)(w:G)(h1 : 0<=low)(h3:low<4190208)(h2 : 1<=high)(h4:high<4190208):
 aD aO 119 #[I (FL J 256 f),O J low,O J high] w (zB w (if ins f low high then aA #[E (packed (sg f high) (low+high)),O J 0] else aA #[E ⟨#[]⟩,O J 6])):=by
 have HM:∀ w1:G,aD aO 155 #[O J low,O J high] w1 (zE w1 (.bool true)):=fun w1=>by
  have h:=dX.xkx low high w1;rw[jP ⟨h1,h3,h2,h4⟩]at h;exact h
 obtain⟨V,HV⟩:=aQ (if ins f low high then Value.tuple #[E (packed (sg f high) (low+high)),O J 0] else aA #[E ⟨#[]⟩,O J 6]);obtain⟨v0,v1,hv⟩:∃ v0 v1,V=.tuple #[v0,v1]:=by
  rw[<-HV.o];by_cases h:ins f low high
  ·rw[iP h];exact⟨_,_,rfl⟩
  ·rw[iQ h];exact⟨_,_,rfl⟩
 have HPk:U (∀ w1:G,aD aO 89 #[I (FL J 256 (sg f high)),O J (low+high)] w1 (zB w1 (.tuple #[v0,v1]))):=⟨fun w1=>by
  have h9:=ppack.xd7 (sg f high) (low+high) w1 (by omega) (by omega);rw[show (if fK (sg f high) (low+high) then Value.tuple #[E (packed (sg f high) (low+high)),O J 0] else aA #[E ⟨#[]⟩,O J 6])=V by
   rw[<-HV.o];by_cases h:ins f low high
   ·rw[iP h,iP ((xos f low high).2 h)]
   ·rw[iQ h,iQ (fun k=>h ((xos f low high).1 k))],hv]at h9
  exact h9⟩
 rw[HV.o,hv];clear HV hv;obtain⟨Gq,HG⟩:=aQ (FL J 256 (sg f high));rw[HG.o]at HPk;have Hidx:U (∀ i:Nat,i<256->∀ w1,(aN 76 (I (FL J 256 f)) (O J (i:Int))).run aO w1=.ok (O J (f i)) w1):=⟨fun i hi w1=>xct (P:=aO) zX (by kernel_rfl) (by kernel_rfl) (by kernel_rfl) _ _ i hi (xba J 256 f i hi) w1⟩;have Fi:U ((aO.info? 76).map (·.size)=some (FL J 256 f).size):=⟨by rw[cC];exact sizeP⟩;have Gi:=eE HG sizeP;obtain⟨F,HF⟩:=aQ (FL J 256 f);rw[HF.o]at Hidx Fi ⊢;obtain⟨W,hW⟩:=aP (w.alloc (Y F 76));have HW:=D hW;have BW:=zba hW;have hrow:=zhp hW;have A0:U (At w.heap.size (FL J 256 (pt (sg f high) f 0)) 76 W W):=⟨by rw[xbf,HF.o];exact At.refl hrow.o⟩;have fl2:J.wrap (low+high)=low+high:=bB;have HL:=D (jA h1 (jA h2 (jA h3 h4)));clear hW HF h1 h2 h3 h4;go_enter Tryz.func119,Tryz.ntmps119;go_wp2_with (rw[HW.o]);refine(HM _).mono ?_;rintro e W ⟨rfl,rfl⟩;go_wp2_with (refine iL rfl 76 _ rfl w.heap.size rfl 76 F (0,0) _ hrow.o zX rfl Fi.o ?_);go_loopw [15] (fun c wr=>∃ j:Nat,j<=256/\c=O J (j:Int)/\U (At w.heap.size (FL J 256 (pt (sg f high) f j)) 76 W wr)) (fun c _=>256-(aG c).toNat)
 case atStart=>exact⟨0,iX _,rfl,A0⟩
 case round=>
  clear A0;obtain⟨j,hj,rfl,A0⟩:=hrel;have BE:U (zb w wr):=⟨BW.o.trans (A0.o.below (by have:=BW.o.size;omega) (iM _))⟩;by_cases hlt:j<256
  ·have hjz:(j:Int)<256:=by omega
   have hidx:=Hidx.o j hlt;have Hce:=D (fun w1=>xdc (f j) 8380417 w1);obtain⟨c,hc⟩:=aP (ce 8380417 (f j));have hcs:=xt2 (f j);rw[hc]at Hce hcs;have fs:J.wrap (high-c)=high-c:=by rw[iN];have:=HL.o;omega
   have hsg:U (high-c=sg f high j):=⟨by unfold sg;rw[hc]⟩;clear hc hcs;go_wp2_with fail;refine(Hce.o _).mono ?_;rintro e w2 ⟨rfl,rfl⟩;clear hidx;go_wp2_with ((with_reducible refine cU A0 rfl _ _ _ rfl rfl ?_);refine⟨_,_,_,rfl,rfl,rfl,(by rw[cC];exact hlt),?_⟩;intro wn HR;rw[eV,xa1 _ _ _ _ hsg.o]at HR);go_roundw
   case rel=>exact⟨j+1,by omega,by go_num,HR⟩
   case measure=>simp[aG];omega
  ·obtain rfl:j=256:=by omega
   simp only[jE];rw[xbc,HG.o]at A0;have Hrow:=D A0.o.row;clear A0;go_wp2_with (refine iL rfl 76 _ rfl w.heap.size rfl 76 Gq (0,0) _ Hrow.o zX rfl Gi.o ?_);refine(HPk.o _).mono ?_;rintro e w6 ⟨rfl,h6⟩;have BF:=bK BE h6;clear h6;go_wp2_with fail;go_ret2;exact⟨rfl,BF.o⟩
end psig
namespace rpart
open arr mem bE bF
theorem xeu(g:Int)(w:G):aD aO 103 #[O J g] w (zE w (.bool (okg g))):=by
 unfold okg;cases h1:g==95232
 ·cases h2:g==261888
  ·go_enter Tryz.func103,Tryz.ntmps103;go_wp2_with fail;go_ret;exact⟨rfl,rfl⟩
  ·go_enter Tryz.func103,Tryz.ntmps103;go_wp2_with fail;go_ret;exact⟨rfl,rfl⟩
 ·go_enter Tryz.func103,Tryz.ntmps103;go_wp2_with fail;go_ret;exact⟨rfl,rfl⟩
theorem xj0(n m:Int)(w:G):aD aO 102 #[O J n,O J m] w (zE w (.bool (upto n m))):=by
 unfold upto;by_cases h1 : 1<=n
 ·rw[jP h1];by_cases h2:n<=m
  ·rw[jP h2];go_enter Tryz.func102,Tryz.ntmps102;go_wp2_with fail;go_ret;exact⟨rfl,rfl⟩
  ·rw[jN h2];go_enter Tryz.func102,Tryz.ntmps102;go_wp2_with fail;go_ret;exact⟨rfl,rfl⟩
 ·rw[jN h1];go_enter Tryz.func102,Tryz.ntmps102;go_wp2_with fail;go_ret;exact⟨rfl,rfl⟩
end rpart
namespace eF
open arr mem aV bF rpart
theorem bt(x:Bool):x=false\/x=true/\True:=by cases x<;>simp
theorem bo(x y:Bool):x=true/\True\/(x=false/\y=true/\True)\/x=false/\y=false:=by cases x<;>cases y<;>simp
theorem b3(x y z:Bool):x=true\/(x=false/\y=true)\/(x=false/\y=false/\z=true)\/x=false/\y=false/\z=false:=by cases x<;>cases y<;>cases z<;>simp
theorem bd(p:Prop):p/\True\/¬ p:=by by_cases h:p<;>simp[h]
theorem xbo(k l e t a b o s:Int)(w:G):aD aO 49 #[I (bO k l e t a b o s)] w (zB w (.bool (bP k l e t a b o s))):=by
 obtain⟨W,hW⟩:=aP (w.alloc (Y (bO k l e t a b o s) 37));have HW:=D hW;have HB:=zba hW;have hrow:W.heap[w.heap.size]? = some (Y (bO k l e t a b o s) 37 (0,0)):=by rw[<-hW];exact cM _ _ _ rfl
 have c0:W.cell? ⟨w.heap.size,0,none⟩=some (O J k):=aZ hrow rfl;have c1:W.cell? ⟨w.heap.size,1,none⟩=some (O J l):=aZ hrow rfl;have c2:W.cell? ⟨w.heap.size,2,none⟩=some (O J e):=aZ hrow rfl;have c3:W.cell? ⟨w.heap.size,3,none⟩=some (O J t):=aZ hrow rfl;have c4:W.cell? ⟨w.heap.size,4,none⟩=some (O J a):=aZ hrow rfl;have c5:W.cell? ⟨w.heap.size,5,none⟩=some (O J b):=aZ hrow rfl;have c6:W.cell? ⟨w.heap.size,6,none⟩=some (O J o):=aZ hrow rfl;have c7:W.cell? ⟨w.heap.size,7,none⟩=some (O J s):=aZ hrow rfl;clear hrow hW;obtain⟨V,HV⟩:=aQ (bP k l e t a b o s);rw[HV.o];have Ch1:=xj0 k 8;have Ch2:=xj0 l 8;have Ch3:=xj0 t 64;have Ch4:=xj0 o 100;have Ch9:=xeu b;rcases bt (upto k 8) with h0 | ⟨h0,g0⟩
 all_goals try (have z:=g0;clear g0;rcases bt (upto l 8) with h1 | ⟨h1,g1⟩)
 all_goals try (have z:=g1;clear g1;rcases bt (upto t 64) with h2 | ⟨h2,g2⟩)
 all_goals try (have z:=g2;clear g2;rcases bt (upto o 100) with h3 | ⟨h3,g3⟩)
 all_goals try (have z:=g3;clear g3;rcases bo (e==2) (e==4) with ⟨h4,g4⟩ | ⟨h4,h4y,g4⟩ | ⟨h4,h4y⟩)
 all_goals try (have z:=g4;clear g4;rcases bo (a==131072) (a==524288) with ⟨h5,g5⟩ | ⟨h5,h5y,g5⟩ | ⟨h5,h5y⟩)
 all_goals try (have z:=g5;clear g5;rcases bt (okg b) with h6 | ⟨h6,g6⟩)
 all_goals try (have z:=g6;clear g6;rcases b3 (s==128) (s==192) (s==256) with h7 | ⟨h7,h7y⟩ | ⟨h7,h7y,h7z⟩ | ⟨h7,h7y,h7z⟩)
 all_goals
  try rw[h0]at Ch1
  try rw[h1]at Ch2
  try rw[h2]at Ch3
  try rw[h3]at Ch4
  try rw[h6]at Ch9
  have HE:=HV.o;clear HV;simp[bP, *]at HE;subst HE;go_enter Tryz.func49,Tryz.ntmps49;go_wp2_with (rw[HW.o]);repeat ((first | with_reducible refine(Ch1 _).mono ?_ | with_reducible refine(Ch2 _).mono ?_ | with_reducible refine(Ch3 _).mono ?_ | with_reducible refine(Ch4 _).mono ?_ | with_reducible refine(Ch9 _).mono ?_);rintro e0 w0 ⟨rfl,rfl⟩;go_wp2_with fail)
  go_ret;exact⟨rfl,HB.o⟩
end eF
namespace rpart
open arr mem bE fP bF
theorem xl5(x g:Int)(w:G)(h:okg g=false):aD aO 142 #[O J x,O J g] w (zE w (.tuple #[O J 0,O J 0])):=by
 have Hg:=xeu g;rw[h]at Hg;go_enter Tryz.func142,Tryz.ntmps142;go_wp2_with fail;refine(Hg _).mono ?_;rintro e w1 ⟨rfl,rfl⟩;go_wp2_with fail;go_ret2;exact⟨rfl,rfl⟩
theorem xeb(x:Int)(w:G):aD aO 142 #[O J x,O J 95232] w (zE w (.tuple #[O J (cD 95232 x),O J (lw 95232 x)])):=by
 have hb:=xl9 x;have HH:U (cD 95232 x=if x%8380417-pl 95232 x=8380416 then 0 else (x%8380417-pl 95232 x) / (2*95232)):=⟨by unfold cD;rw[iP xb5]⟩;have HL:U (lw 95232 x=if x%8380417-pl 95232 x=8380416 then pl 95232 x-1 else pl 95232 x):=⟨by unfold lw;rw[iP xb5]⟩;obtain⟨hv,Hhv⟩:=aQ (cD 95232 x);obtain⟨lv,Hlv⟩:=aQ (lw 95232 x);rw[Hhv.o]at HH ⊢;rw[Hlv.o]at HL ⊢;have Hg:∀ w1:G,aD aO 103 #[O J 95232] w1 (zE w1 (.bool true)):=fun w1=>by have h:=xeu 95232 w1;rw[xb5]at h;exact h
 have Hr:=eU x;have Hc:=xdc (x%8380417) 190464;rw[show ce 190464 (x%8380417)=pl 95232 x from rfl]at Hc;obtain⟨l,hl⟩:=aQ (pl 95232 x);rw[hl.o]at HH HL Hc hb;have hrb : 0<=x%8380417/\x%8380417<8380417:=by omega
 obtain⟨r,hr⟩:=aQ (x%8380417);rw[hr.o]at HH HL Hc hb Hr hrb;obtain⟨d,hd⟩:=aP (r-l);have f1:J.wrap (r-l)=d:=by rw[hd,iN];omega
 have f2:J.wrap (l-1)=l-1:=bB;rw[hd]at HH HL hb;have hdb : 0<=d/\d<8480417+95232:=by omega
 clear hd;by_cases h1:d=8380416
 ·obtain rfl:hv=0:=by rw[HH.o,iP h1]
  obtain rfl:lv=l-1:=by rw[HL.o,iP h1]
  subst h1;clear HH HL hb hr hl;go_enter Tryz.func142,Tryz.ntmps142;go_wp2_with fail;refine(Hg _).mono ?_;rintro e w1 ⟨rfl,rfl⟩;go_wp2_with fail;refine(Hr _).mono ?_;rintro e w1 ⟨rfl,rfl⟩;go_wp2_with fail;refine(Hc _).mono ?_;rintro e w1 ⟨rfl,rfl⟩;go_wp2_with fail;go_ret2;exact⟨rfl,rfl⟩
 ·have hq:d.tdiv 190464=hv:=by rw[HH.o,iQ h1,iU hdb.1];rfl
  have hq2:d / 190464=hv:=by rw[HH.o,iQ h1];rfl
  have hw:J.wrap hv=hv:=by rw[<-hq2,iN];omega
  obtain rfl:lv=l:=by rw[HL.o,iQ h1]
  have h2:(d==8380416)=false:=jV.2 h1;clear HH HL hb hr hl h1;go_enter Tryz.func142,Tryz.ntmps142;go_wp2_with fail;refine(Hg _).mono ?_;rintro e w1 ⟨rfl,rfl⟩;go_wp2_with fail;refine(Hr _).mono ?_;rintro e w1 ⟨rfl,rfl⟩;go_wp2_with fail;refine(Hc _).mono ?_;rintro e w1 ⟨rfl,rfl⟩;go_wp2_with fail;go_ret2;exact⟨rfl,rfl⟩
theorem xea(x:Int)(w:G):aD aO 142 #[O J x,O J 261888] w (zE w (.tuple #[O J (cD 261888 x),O J (lw 261888 x)])):=by
 have hb:=xl8 x;have HH:U (cD 261888 x=if x%8380417-pl 261888 x=8380416 then 0 else (x%8380417-pl 261888 x) / (2*261888)):=⟨by unfold cD;rw[iP xcg]⟩;have HL:U (lw 261888 x=if x%8380417-pl 261888 x=8380416 then pl 261888 x-1 else pl 261888 x):=⟨by unfold lw;rw[iP xcg]⟩;obtain⟨hv,Hhv⟩:=aQ (cD 261888 x);obtain⟨lv,Hlv⟩:=aQ (lw 261888 x);rw[Hhv.o]at HH ⊢;rw[Hlv.o]at HL ⊢;have Hg:∀ w1:G,aD aO 103 #[O J 261888] w1 (zE w1 (.bool true)):=fun w1=>by have h:=xeu 261888 w1;rw[xcg]at h;exact h
 have Hr:=eU x;have Hc:=xdc (x%8380417) 523776;rw[show ce 523776 (x%8380417)=pl 261888 x from rfl]at Hc;obtain⟨l,hl⟩:=aQ (pl 261888 x);rw[hl.o]at HH HL Hc hb;have hrb : 0<=x%8380417/\x%8380417<8380417:=by omega
 obtain⟨r,hr⟩:=aQ (x%8380417);rw[hr.o]at HH HL Hc hb Hr hrb;obtain⟨d,hd⟩:=aP (r-l);have f1:J.wrap (r-l)=d:=by rw[hd,iN];omega
 have f2:J.wrap (l-1)=l-1:=bB;rw[hd]at HH HL hb;have hdb : 0<=d/\d<8480417+261888:=by omega
 clear hd;by_cases h1:d=8380416
 ·obtain rfl:hv=0:=by rw[HH.o,iP h1]
  obtain rfl:lv=l-1:=by rw[HL.o,iP h1]
  subst h1;clear HH HL hb hr hl;go_enter Tryz.func142,Tryz.ntmps142;go_wp2_with fail;refine(Hg _).mono ?_;rintro e w1 ⟨rfl,rfl⟩;go_wp2_with fail;refine(Hr _).mono ?_;rintro e w1 ⟨rfl,rfl⟩;go_wp2_with fail;refine(Hc _).mono ?_;rintro e w1 ⟨rfl,rfl⟩;go_wp2_with fail;go_ret2;exact⟨rfl,rfl⟩
 ·have hq:d.tdiv 523776=hv:=by rw[HH.o,iQ h1,iU hdb.1];rfl
  have hq2:d / 523776=hv:=by rw[HH.o,iQ h1];rfl
  have hw:J.wrap hv=hv:=by rw[<-hq2,iN];omega
  obtain rfl:lv=l:=by rw[HL.o,iQ h1]
  have h2:(d==8380416)=false:=jV.2 h1;clear HH HL hb hr hl h1;go_enter Tryz.func142,Tryz.ntmps142;go_wp2_with fail;refine(Hg _).mono ?_;rintro e w1 ⟨rfl,rfl⟩;go_wp2_with fail;refine(Hr _).mono ?_;rintro e w1 ⟨rfl,rfl⟩;go_wp2_with fail;refine(Hc _).mono ?_;rintro e w1 ⟨rfl,rfl⟩;go_wp2_with fail;go_ret2;exact⟨rfl,rfl⟩
theorem xf1(x g:Int)(w:G):aD aO 142 #[O J x,O J g] w (zE w (.tuple #[O J (cD g x),O J (lw g x)])):=by
 cases h:okg g
 ·rw[xol h,xo4 h];exact xl5 x g w h
 ·rcases xlz h with rfl | rfl
  ·exact xeb x w
  ·exact xea x w
end rpart
namespace rhigh
open arr mem bD aT aV bE fP bF rpart
theorem xla(f:Nat->Int)(g:Int)(w:G):
 aD aO 202 #[I (FL J 256 f),O J g] w (zB w (I (FL J 256 fun i=>cD g (f i)))):=by
 obtain⟨hz,hsize⟩:=iY aX;obtain⟨z,HZ⟩:=aQ (FL J 256 fun _=>0);rw[HZ.o]at hz;have Hzs:=dP HZ;obtain⟨F,HF⟩:∃ F:Nat->Int,U (F=fun i=>cD g (f i)):=⟨_,⟨rfl⟩⟩;have hFi:∀ i,F i=(fun i=>cD g (f i)) i:=fun i=>by rw[HF.o]
 have HFi:=D hFi;rw[<-HF.o];clear HF hFi;obtain⟨R,HR⟩:=aQ (FL J 256 F);have Ri:=eE HR hsize;have Ro:=eJ HR;have Rz:=gJ Hzs HR;obtain⟨Iq,HI⟩:=aQ (FL J 256 f);have Ii:=eE HI hsize;rw[HR.o,HI.o];clear hsize;have Hix:U (∀ (i:Nat),i<256->∀ w1:G,(aN 76 (I Iq) (O J (i:Int))).run aO w1=.ok (O J (f i)) w1):=⟨fun i hi w1=>by rw[<-HI.o];exact xev f i hi w1⟩;go_enter Tryz.func202,Tryz.ntmps202;go_wp2_with fail;clear hz;obtain⟨W,hW⟩:=aP ((w.alloc (Y Iq 76)).alloc (Y z 76));obtain⟨b0,b1,hWs,hWb⟩:=two hW;rw[hW];clear hW;have B0:=D b0;have B1:=D b1;have HWs:U (w.heap.size+2<=W.heap.size):=⟨by omega⟩;have HWb:=D hWb;clear hWs hWb b0 b1;refine nC 76 _ rfl w.heap.size rfl 76 Iq (0,0) _ B0.o zX rfl Ii.o ?_;go_wp2_with fail;go_loopw [8] (fun v wr=>∃ i:Nat,i<=256/\v=O J (i:Int)/\U (At w.heap.size (FL J 256 (pt F f i)) 76 W wr)) (fun v _=>256-(aG v).toNat)
 case atStart=>exact⟨0,iX _,rfl,⟨by rw[xbf,HI.o];exact At.refl B0.o⟩⟩
 case round=>
  obtain⟨i,hi,rfl,A0⟩:=hrel;by_cases hlt:i<256
  ·have hiz:(i:Int)<256:=by omega
   have hx0:=Hix.o i hlt wr;obtain⟨x,hx⟩:=aP (f i);rw[hx]at hx0;have HV:U (F i=cD g x):=⟨by rw[HFi.o,hx]⟩;have Hp:=xf1 x g;obtain⟨h0,hh0⟩:=aQ (cD g x);obtain⟨l0,hl0⟩:=aQ (lw g x);rw[hh0.o,hl0.o]at Hp;have HU:U (upd (pt F f i) i h0=pt F f (i+1)):=⟨xa1 F f i h0 (by rw[HV.o,hh0.o])⟩;clear hx;go_wp2_with fail;refine(Hp _).mono ?_;rintro e w1 ⟨rfl,rfl⟩;go_wp2_with ((with_reducible refine cU A0 rfl _ _ _ rfl rfl ?_);refine⟨_,_,_,rfl,rfl,rfl,by rw[cC];exact hlt,?_⟩;intro wn HR2;rw[eV,HU.o]at HR2);go_roundw
   case rel=>exact⟨i+1,by omega,by go_num,HR2⟩
   case measure=>simp[aG];omega
  ·obtain rfl:i=256:=by omega
   simp only[jE];rw[xbc,HR.o]at A0;have Hrow:=D A0.o.row;have Hres:U (wr.heap[w.heap.size+1]? = some (Y z 76 (0,0))):=⟨A0.o.other (by have:=HWs.o;omega) (by omega) B1.o⟩;have HB:U (zb w wr):=⟨HWb.o.trans (A0.o.below (by have:=HWs.o;omega) (iM _))⟩;clear A0;go_wp2_with (first
    | (refine iL rfl 76 _ rfl w.heap.size rfl 76 R (0,0) _ Hrow.o zX rfl Ri.o ?_)
    | (refine iS rfl 76 _ _ rfl (w.heap.size+1) R rfl rfl 76 _ Hres.o Ri.o Rz.o Ro.o ?_))
   refine iV (v:=I R) (jC rfl _ _ (w.heap.size+1) 76 _ (0,0) _ rfl (jD _ _ _ _ _ _ Hres.o) zX rfl Ri.o) rfl ?_;exact⟨rfl,HB.o.trans (below_setRow _ _ _ (by omega))⟩
end rhigh
end Go.Proofs.YtomphjajkkddkaaGreatDoor
