/-
  What the document's own Matrix of layer 11 returns. Conditions: the tables have their size; what its
-/
import Derived.Test.YtgahcabgmfbhdaaGreatDoorZt02
import Derived.Test.YtgahcabgmfbhdaaGreatDoorZt11
import Derived.Test.YtgahcabgmfbhdaaGreatDoorZt05
set_option maxRecDepth 100000
set_option maxHeartbeats 16000000
set_option linter.unusedSimpArgs false
set_option linter.unusedVariables false
open Go Go.RowKit
namespace Go.Proofs.YtgahcabgmfbhdaaGreatDoor
namespace rsmat
open arr mem stil polys polt rbitb rbitc rndm saml samr
theorem infoSl:(Tryz.prog.info? 67).map (fun i=>(i.zero,i.size,i.bytes))=some (some (.slice none 0 0),1,24):=by kernel_rfl
theorem xkj{T:Array Value}(kn ln:Nat)(e t a b o s:Int)(sd:ByteArray)(q:Nat→Nat→Nat→Int)(w:World)(hT:(Tryz.prog.info? 34).map (·.size)=some T.size)(hk : 1≤kn∧kn≤8)(hl : 1≤ln∧ln≤8)(h:latt (kn:Int) (ln:Int) e t a b o s=true)(hsd:sd.size≤1125899906842624)
 (HS:∀ r c:Nat,r<8→c<8→∀ w1:World,Calls Tryz.prog 69 #[.agg T,.string (tw sd c r)] w1 (zB w1 (.agg (FL .i64 256 (q r c))))):
 Calls Tryz.prog 30 #[.agg T,.agg (zLt (kn:Int) (ln:Int) e t a b o s),.string sd] w fun x w'=>(∃ v vs,x=.returned v∧w'.ownsRow w.heap.size 67 1 v kn vs∧Rowl w' w.heap.size v.ownBlock vs ln q)∧Below w.heap.size w w':=by
 have HR:Ω (∀ w1:World,Calls Tryz.prog 68 #[.agg (zLt (kn:Int) (ln:Int) e t a b o s)] w1 (zB w1 (.bool true))):=⟨fun w1=>by rw[←h];exact rfright.xbn _ _ e t a b o s w1⟩;obtain⟨i0,hi,hz0,hz1,hz2⟩:=parts infoPoly;obtain⟨hz,hsize⟩:=zero_of_info polt.infoP;obtain⟨z,HZ⟩:=xaa (FL .i64 256 fun _=>0);rw[HZ.out]at hz hz0;obtain⟨j0,hj,hy0,hy1,hy2⟩:=parts infoSl;have HJ:=ω (And.intro hj (And.intro hy0 (And.intro hy1 hy2)));have HI:=ω (And.intro hi (And.intro hz0 (And.intro hz1 hz2)));have Hzs:=zfs HZ;have Hsize:=ω hsize;clear hi hz0 hz1 hz2 hsize hj hy0 hy1 hy2;obtain⟨C,HC⟩:=xaa ((zLt (kn:Int) (ln:Int) e t a b o s):Array Value);rw[HC.out]at HR ⊢;have HCs:Ω ((Tryz.prog.info? 37).map (·.size)=some C.size):=⟨by rw[←HC.out];kernel_rfl⟩;obtain⟨W,hW⟩:=zev ((w.alloc (.cells T 34)).alloc (.cells C 37));obtain⟨r0,r1,hWs,b0⟩:=two hW;have T0:Ω (W.heap[w.heap.size]? = some (.cells T 34 (0,0))):=⟨r0⟩;have L0:Ω (W.heap[w.heap.size+1]? = some (.cells C 37 (0,0))):=⟨r1⟩;have BW:=ω b0;have HWs:=ω hWs;have HW:=ω hW;have HSm:=ω HS;have HTz:=ω hT;have Hk:=ω hk;have Hl:=ω hl;have Hsd:=ω hsd;clear hW r0 r1 b0 h HS hT hk hl hsd hWs;go_enter Tryz.func30,Tryz.ntmps30;go_wp2_with (first
  | (rw[HW.out])
  | (refine wpList_load_row rfl 37 _ rfl (w.heap.size+1) rfl 37 _ (0,0) _ L0.out zZ rfl HCs.out ?_))
 refine(HR.out _).mono ?_;rintro x u1 ⟨rfl,hb1⟩;have B1:Ω (Below w.heap.size w u1):=⟨BW.out.trans (hb1.mono (by rw[HWs.out];omega))⟩;have T1:Ω (u1.heap[w.heap.size]? = some (.cells T 34 (0,0))):=⟨(hb1.block _ (by rw[HWs.out];omega)).trans T0.out⟩;have L1:Ω (u1.heap[w.heap.size+1]? = some (.cells C 37 (0,0))):=⟨(hb1.block _ (by rw[HWs.out];omega)).trans L0.out⟩;have cK:∀ w1:World,Below u1.heap.size u1 w1→w1.cell? ⟨w.heap.size+1,0,none⟩=some (.int .i64 (kn:Int)):=fun w1 hb=>xab ((hb.block _ (xac L1.out)).trans L1.out) (by rw[←HC.out];rfl)
 have cL:∀ w1:World,Below u1.heap.size u1 w1→w1.cell? ⟨w.heap.size+1,1,none⟩=some (.int .i64 (ln:Int)):=fun w1 hb=>xab ((hb.block _ (xac L1.out)).trans L1.out) (by rw[←HC.out];rfl)
 have HcL:=ω cL;have cK1:=cK u1 (Below.refl _ _);clear hb1 cK cL;go_wp2_with fail;clear cK1;go_loopw [7,16] (fun x v wr=>∃ r:Nat,r≤kn∧v=.int .i64 (r:Int)∧Ω (∃ vs,wr.ownsRow u1.heap.size 67 1 x r vs∧Rowl wr u1.heap.size x.ownBlock vs ln q)∧Ω (Below u1.heap.size u1 wr)) (fun _ v _=>kn-(intOf v).toNat)
 case atStart=>exact⟨0,Nat.zero_le _,rfl,⟨[],⟨rfl,Or.inl ⟨rfl,rfl⟩⟩,xpl _ _ _ _ _⟩,⟨Below.refl _ _⟩⟩
 case round=>
  rename World=>wo
  obtain⟨r,hr,rfl,HO,Hb⟩:=hrel;by_cases hlt:r<kn
  ·have hltz:(r:Int)<(kn:Int):=by omega
   have hr8:r<8:=by have:=Hk.out;omega
   have cL1:=HcL.out wo Hb.out;have Hlt:=ω hlt;go_wp2_with fail;clear cL1;go_loopw [9,21] (fun y v wr=>∃ c:Nat,c≤ln∧v=.int .i64 (c:Int)∧Ω (wr.ownsRow wo.heap.size 109 256 y c (cq (q r) c))∧Ω (Below wo.heap.size wo wr)) (fun _ v _=>ln-(intOf v).toNat)
   case atStart=>exact⟨0,Nat.zero_le _,rfl,⟨⟨rfl,Or.inl ⟨rfl,rfl⟩⟩⟩,⟨Below.refl _ _⟩⟩
   case round=>
    obtain⟨c,hc,rfl,Oy,Hc⟩:=hrel;by_cases hclt:c<ln
    ·have hcz:(c:Int)<(ln:Int):=by omega
     have hc8:c<8:=by have:=Hl.out;omega
     have fr8:IntKind.u8.wrap (r:Int)=(r:Int):=by rw[IntKind.wrap_u8];omega
     have fc8:IntKind.u8.wrap (c:Int)=(c:Int):=by rw[IntKind.wrap_u8];omega
     have BO:=zbt Hb Hc.out;have T2:Ω (wr.heap[w.heap.size]? = some (.cells T 34 (0,0))):=⟨(BO.out.block _ (xac T1.out)).trans T1.out⟩;obtain⟨W2,hW2⟩:=zev (wr.alloc (.cells #[.int .u8 (c:Int),.int .u8 (r:Int)] 5));obtain⟨r2,hs2,b2⟩:=one hW2;have hcv:=xc6 (t:=5) (l:=[c,r]) (cap:=2) (n:=2) rfl (by simp;omega) r2;obtain⟨X,hX⟩:∃ X:ByteArray,⟨(u8s [c,r]).toArray⟩=X:=⟨_,rfl⟩;have hXs:X.size=2:=by rw[←hX];rfl
     have hcat:sd++X=tw sd c r:=by rw[←hX];rfl
     rw[hX]at hcv;have HW2:=ω hW2;have hsd:=Hsd.out;have HSr:=HSm.out r c hr8 hc8;rw[←hcat]at HSr;have HSr:=ω HSr;have D2:Ω (Below wr.heap.size wr W2):=⟨b2⟩;have Hclt:=ω hclt;clear hX hcat r2 hs2 b2 hW2;go_wp2_with fail;refine wp_load_row 34 _ rfl w.heap.size rfl 34 T (0,0) _ T2.out zY rfl HTz.out ?_;go_wp2_with (rw[HW2.out]);refine(HSr.out _).mono ?_;rintro x1 w3 ⟨rfl,hb3⟩;have D3:=zbt D2 hb3;have Oy3:Ω (w3.ownsRow wo.heap.size 109 256 u9 c (cq (q r) c)):=⟨xbu Oy.out D3.out⟩;obtain⟨F,HF⟩:=xaa (FL .i64 256 (q r c));have Fs:=zfs HF;have Fo:=zro HF;rw[HF.out];have hws:wo.heap.size≤w3.heap.size:=Nat.le_trans Hc.out.size D3.out.size;have HF0:Ω (∀ cs:Array Value,cs.size=256→Instr.fill (fun i=>some (i*i0.size,i0.size)) cs [(0,.agg F)]=some F):=⟨fun cs hc=>by rw[HI.out.2.2.1];exact xd5 F cs Fs.out hc⟩;have Hzc:Ω ((Value.agg z).cells.size=256):=⟨Hzs.out⟩;clear hb3 hcv fr8 fc8 hXs Oy;go_wp2_with fail;refine wp_buildSlice 67 109 1 _ rfl F i0 (.agg z) Tryz.underlying67 HI.out.1 HI.out.2.1 (by rw[HI.out.2.2.1];decide) (by rw[HI.out.2.2.1];decide) ?hf ?_
     case hf=>
      go_simp
      exact⟨⟨decide_eq_false (fun h=>h (Fs.out.trans HI.out.2.2.1.symm)),by rw[Fs.out,HI.out.2.2.1];exact Nat.le_refl _⟩,xev F _ Fs.out (by simp[HI.out.2.2.1])⟩
     go_wp2_with (at_builtin;refine wpList_append_own _ rfl _ _ 67 rfl wo.heap.size 109 i0 (.agg z) 256 2048 Tryz.underlying67 HI.out.1 HI.out.2.1 HI.out.2.2.1 HI.out.2.2.2 Hzc.out (by decide) _ _ _ rfl (Oy3.out.alloc _) ⟨w3.heap.size,0,none⟩ 1 1 F.toList rfl (by rw[Array.length_toList,Fs.out]) (fun j u hu=>xdi hu) (fun u hu=>xd1 Fo.out u hu) (by unfold maxLen;omega) (by omega) (by rw[size_alloc];omega) ?_);intro v' w8 hown' hgrow _;have hb8:Below wo.heap.size w3 w8:=((Below.refl wo.heap.size w3).alloc hws _).grown hgrow (by rw[size_alloc];omega) (fun k hk=>(Oy3.out.lt k hk).1);have B8:Ω (Below wo.heap.size wo w8):=⟨Hc.out.trans ((D3.out.mono Hc.out.size).trans hb8)⟩;have O8:Ω (w8.ownsRow wo.heap.size 109 256 v' (c+1) (cq (q r) (c+1))):=⟨by rw[cq,HF.out];exact hown'⟩;clear hown' hgrow hb8;go_wp2_with fail;go_roundw
     case rel=>exact⟨c+1,by have:=Hclt.out;omega,by go_num,O8,B8⟩
     case measure=>have:=Hclt.out;simp[intOf];omega
    ·obtain rfl:c=ln:=by omega
     obtain⟨vs,hov,hrv⟩:=HO.out;have hvl:vs.length=r:=by have:=hov.1;omega
     have HH:Ω (pols.Holds wr wo.heap.size u9 c (q r)):=⟨saml.xcc Hl.out.1 Oy.out⟩;have ho1:Ω (u9.oneCell'=true):=⟨holds_one HH.out⟩;have hrows:Ω (Rowl wr u1.heap.size u7.ownBlock (vs ++ [u9]) c q):=⟨(hrv.later Hc.out).snoc (by rw[hvl];exact HH.out) Hb.out.size (fun k hk=>(hov.lt k hk).2)⟩;obtain⟨gi,ci,hu9,-⟩:=HH.out;have hov2:Ω (wr.ownsRow u1.heap.size 67 1 u7 r vs):=⟨xbu hov Hc.out⟩;have hws:u1.heap.size≤wr.heap.size:=Nat.le_trans Hb.out.size Hc.out.size;have Hzc:Ω ((Value.slice none 0 0).cells.size=1):=⟨rfl⟩;have Hlt2:=Hlt.out;clear hov hrv Oy hclt HH;subst hu9;go_wp2_with (at_builtin;refine wpList_append_own_at _ rfl _ _ 63 rfl u1.heap.size 67 j0 (.slice none 0 0) 1 24 Tryz.underlying63 HJ.out.1 HJ.out.2.1 HJ.out.2.2.1 HJ.out.2.2.2 Hzc.out (by decide) _ _ _ rfl (hov2.out.alloc _) ⟨wr.heap.size,0,none⟩ 1 1 [.slice (some ⟨gi,0,none⟩) c ci] rfl rfl (fun j u hu=>cell_one_new _ _ _ j u hu) (fun u hu=>by rw[List.mem_singleton]at hu;subst hu;exact ho1.out) (by unfold maxLen;omega) (by omega) (by rw[size_alloc];omega) ?_);intro v' w8 hown' hgrow _ hblk;have hb8:Below u1.heap.size wr w8:=((Below.refl u1.heap.size wr).alloc hws _).grown hgrow (by rw[size_alloc];omega) (fun k hk=>(hov2.out.lt k hk).1);have B8:Ω (Below u1.heap.size u1 w8):=⟨Hb.out.trans ((Hc.out.mono Hb.out.size).trans hb8)⟩;have O8:Ω (∃ vs,w8.ownsRow u1.heap.size 67 1 v' (r+1) vs∧Rowl w8 u1.heap.size v'.ownBlock vs c q):=⟨_,hown',(hrows.out.later (xbg _ _)).grown hgrow (by rw[size_alloc];exact hblk)⟩;clear hown' hgrow hb8 hblk;go_wp2_with fail
     go_roundw
     case rel=>exact⟨r+1,by omega,by go_num,O8,B8⟩
     case measure=>simp[intOf];omega
  ·obtain rfl:r=kn:=by omega
   obtain⟨vs,hov,hrv⟩:=HO.out;have Fx:Ω (wo.ownsRow w.heap.size 67 1 u7 r vs):=⟨xgf hov B1.out.size⟩;have Gx:Ω (Rowl wo w.heap.size u7.ownBlock vs ln q):=⟨hrv.base B1.out.size⟩;clear hov hrv;go_wp2_with fail;go_ret;exact⟨⟨_,vs,rfl,Fx.out,Gx.out⟩,B1.out.trans (Hb.out.mono B1.out.size)⟩
end rsmat
namespace rols
open Go.RowKit
open arr kecm
theorem xng(x k:Nat)(w:World)(hx:x<18446744073709551616)(hk:k<9223372036854775808):
 Calls Tryz.prog 179 #[.int .u64 (x:Int),.int .i64 (k:Int)] w (zE w (.int .u64 ((rol x (k%64):Nat):Int))):=by
 have hq:=mask k hk;have hw:IntKind.u64.wrap (k:Int)=(k:Int):=by rw[IntKind.wrap_u64];omega
 obtain⟨n,hn⟩:=zev (k%64);rw[hn]at hq ⊢;have hn63:n≤63:=by omega
 clear hn;by_cases h0:n=0
 ·subst h0;have h1:bits .and .u64 (k:Int) 63=0:=hq;have h2:bits .and .u64 64 63=0:=by decide +kernel
  clear hq hn63;have h3:bits .or .u64 (x:Int) (x:Int)=(x:Int):=by rw[u64_or_nat x x hx hx,Nat.or_self]
  have h4:(x:Int)<18446744073709551616:=by omega
  rw[xut x hx];go_enter Tryz.func179,Tryz.ntmps179;go_wp2_with fail;go_ret;exact⟨rfl,rfl⟩
 ·obtain⟨m,hm⟩:∃ m,m=64-n:=⟨_,rfl⟩;have Hm:=ω hm;have h2:bits .and .u64 (64-(n:Int)) 63=(m:Int):=by
   have h:=mask (64-n) (by omega);rw[show ((64-n:Nat):Int)=64-(n:Int) by omega]at h;rw[h];omega
  have hm63:m≤63:=by omega
  have hn1 : 1≤n:=by omega
  clear hm h0;go_enter Tryz.func179,Tryz.ntmps179;go_wp2_with fail;go_ret;exact⟨xcd (orl x n m Hm.out hx),rfl⟩
end rols
namespace rkec
open Go.RowKit
open arr mem kecm kecb kstep kfun
theorem left1(x r:Nat)(w:World)(hx:x<18446744073709551616)(hr:rol x 1=r):
 Calls Tryz.prog 179 #[.int .u64 (x:Int),.int .i64 1] w (zE w (.int .u64 (r:Int))):=by
 subst hr;exact rols.xng x 1 w hx (by decide)
theorem z5_is:(#[.int .u64 0,.int .u64 0,.int .u64 0,.int .u64 0,.int .u64 0]:Array Value)=LK .u64 [0,0,0,0,0]:=rfl
def oxy(i:Nat):Nat:=5*(i%5)+i / 5
theorem oxy_lt(i:Nat)(h:i<25):oxy i<25:=by unfold oxy;omega
theorem xtm(i x y:Nat)(hi:i<25)(hx:x<5)(hy:y<5)(h:oxy i=5*x+y):i=x+5*y:=by unfold oxy at h;omega
theorem src_at(x y:Nat)(hx:x<5)(hy:y<5):src (y+5*((2*x+3*y)%5))=x+5*y:=by
 unfold src;have:∀ x:Fin 5,∀ y:Fin 5,(3*((y.val+5*((2*x.val+3*y.val)%5)) / 5)+(y.val+5*((2*x.val+3*y.val)%5))%5)%5+5*((y.val+5*((2*x.val+3*y.val)%5))%5)=x.val+5*y.val:=by decide
 exact this ⟨x,hx⟩ ⟨y,hy⟩
theorem xvp(i j:Nat)(hi:i<25)(hj:j<25)(h:src i=src j):i=j:=by
 have h1:=xjp ⟨i,hi⟩;have h2:=xjp ⟨j,hj⟩;simp only at h1 h2;rw[←h1,←h2,h]
end rkec
namespace rkeb
open Go.RowKit
open arr mem kecm kecb kstep kfun rkec
theorem sizeT:(Tryz.prog.info? 34).map (·.size)=some 465:=by kernel_rfl
theorem xq9(a:List Nat):bendL a=mkS (kbend.bl a):=rfl
end rkeb
namespace rperm
open Go.RowKit
open arr mem kecm kecb kstep kfun rkec rkeb
def ct(b:List Nat)(x:Nat):List Nat:=(List.range 5).map fun i=>if i<x then kc b i else 0
theorem xhg(b:List Nat)(x:Nat):(ct b x).length=5:=by simp[ct]
theorem ct_get(b:List Nat)(x i:Nat)(h:i<5):(ct b x).getD i 0=if i<x then kc b i else 0:=by simp[ct,List.getD_eq_getElem?_getD,h]
theorem ct_set(b:List Nat)(x v:Nat)(_hx:x<5)(hv:kc b x=v):(LK .u64 (ct b x)).setIfInBounds x (.int .u64 (v:Int))=LK .u64 (ct b (x+1)):=by
 subst hv;rw[xcm];congr 1
 apply List.ext_getElem (by rw[List.length_set,xhg,xhg]);intro i h1 h2;rw[List.getElem_set];simp only[ct,List.getElem_map,List.getElem_range];by_cases e:x=i
 ·subst e;rw[if_pos rfl,if_pos (by omega)]
 ·rw[if_neg e];by_cases h3:i<x
  ·rw[if_pos h3,if_pos (by omega)]
  ·rw[if_neg h3,if_neg (by omega)]
theorem ct_at(b:List Nat)(p c:Nat)(hp:p<5)(hc:kc b p=c):(LK .u64 (ct b 5))[p]? = some (.int .u64 (c:Int)):=by
 rw[xar _ _ _ (by rw[xhg];exact hp),ct_get b 5 p hp,if_pos hp,hc]
theorem one{w W:World}{x:Obj}(h:w.alloc x=W):W.heap[w.heap.size]? = some x∧W.heap.size=w.heap.size+1∧Below w.heap.size w W:=by
 subst h;exact⟨xae _ _ _ rfl,size_alloc _ _,xbg _ _⟩
theorem xia{T:Array Value}{ts rs:List Nat}(a:List Nat)(w:World)(h:St a)(hK:KT T ts rs):
 Calls Tryz.prog 168 #[.agg T,.agg (LK .u64 a)] w (zB w (.agg (LK .u64 (permL (fun i=>ts.getD i 0) (fun i=>rs.getD i 0) a 24)))):=by
 have H:=ω h;have HK:=ω hK;obtain⟨z,HZ⟩:=xaa Z;have HZl:Ω (z.length=25):=⟨by rw[←HZ.out];rfl⟩;have Hz:Ω ((#[.int .u64 0,.int .u64 0,.int .u64 0,.int .u64 0,.int .u64 0,.int .u64 0,.int .u64 0,.int .u64 0,.int .u64 0,.int .u64 0,.int .u64 0,.int .u64 0,.int .u64 0,.int .u64 0,.int .u64 0,.int .u64 0,.int .u64 0,.int .u64 0,.int .u64 0,.int .u64 0,.int .u64 0,.int .u64 0,.int .u64 0,.int .u64 0,.int .u64 0]:Array Value)=LK .u64 z):=⟨by rw[←HZ.out];exact z_is⟩;clear h HZ hK;obtain⟨R,HR⟩:=xaa (permL (fun i=>ts.getD i 0) (fun i=>rs.getD i 0) a 24);have HRl:Ω (R.length=25):=⟨by rw[←HR.out];exact(xgm (fun i=>ts.getD i 0) _ HK.out.br H.out 24).len⟩;have HRo:=ω (xau .u64 R);have HRz:=ω (size25 HRl.out);rw[HR.out];go_enter Tryz.func168,Tryz.ntmps168;go_wp2_with fail;rw[Hz.out];obtain⟨W,hW⟩:=zev (((w.alloc (.cells T 34)).alloc (.cells (LK .u64 a) 163)).alloc (.cells (LK .u64 z) 163));obtain⟨b0,b1,b2,hWs,hWb⟩:=three hW;rw[hW];clear hW;have B0:=ω b0;have B1:=ω b1;have B2:=ω b2;have HWs:=ω hWs;have HWb:=ω hWb;clear hWs hWb b0 b1 b2;go_loopw [14] (fun i wr=>∃ k:Nat,k≤24∧i=.int .i64 (k:Int)∧Ω (At (w.heap.size+1) (LK .u64 (permL (fun i=>ts.getD i 0) (fun i=>rs.getD i 0) a k)) 163 W wr)) (fun i _=>24-(intOf i).toNat)
 case atStart=>exact⟨0,by decide,rfl,⟨At.refl B1.out⟩⟩
 case round=>
  obtain⟨k,hk,rfl,A0⟩:=hrel;by_cases hlt:k<24
  ·have hkz:(k:Int)<24:=by omega
   clear hk;obtain⟨cur,Hcur⟩:=xaa (permL (fun i=>ts.getD i 0) (fun i=>rs.getD i 0) a k);have HC:Ω (St cur):=⟨by rw[←Hcur.out];exact xgm (fun i=>ts.getD i 0) _ HK.out.br H.out k⟩;rw[Hcur.out]at A0;go_wp2_with fail;rw[z5_is];obtain⟨V,hV⟩:=zev (wr.alloc (.cells (LK .u64 [0,0,0,0,0]) 201));obtain⟨v0,v1,v2⟩:=one hV;rw[hV];clear hV;obtain⟨gc,hgc⟩:=zev wr.heap.size;have G:Ω (W.heap.size≤gc∧V.heap.size=gc+1):=⟨hgc ▸ A0.out.size,hgc ▸ v1⟩;have AV:Ω (At (w.heap.size+1) (LK .u64 cur) 163 W V):=⟨A0.out.later v2⟩;rw[hgc]at v0;rw[hgc];have V0:=ω v0;clear v0 v1 v2 hgc A0;go_loopw [17] (fun i wr=>∃ x:Nat,x≤5∧i=.int .i64 (x:Int)∧Ω (At gc (LK .u64 (ct cur x)) 201 V wr)) (fun i _=>5-(intOf i).toNat)
   case atStart=>exact⟨0,by decide,rfl,⟨At.refl V0.out⟩⟩
   case round=>
    obtain⟨x,hx,rfl,A0⟩:=hrel;by_cases hlu:x<5
    ·have hxz:(x:Int)<5:=by omega
     have hxz2:(x:Int)<25:=by omega
     have hA:=A0.out.other (by have:=G.out;have:=HWs.out;omega) (by have:=G.out;have:=HWs.out;omega) AV.out.row;obtain⟨q1,hq1⟩:∃ q,q=x+5:=⟨_,rfl⟩;have f1:IntKind.i64.wrap ((x:Int)+5)=(q1:Int):=zwi;have z1:(q1:Int)<25:=by omega
     obtain⟨q2,hq2⟩:∃ q,q=x+10:=⟨_,rfl⟩;have f2:IntKind.i64.wrap ((x:Int)+10)=(q2:Int):=zwi;have z2:(q2:Int)<25:=by omega
     obtain⟨q3,hq3⟩:∃ q,q=x+15:=⟨_,rfl⟩;have f3:IntKind.i64.wrap ((x:Int)+15)=(q3:Int):=zwi;have z3:(q3:Int)<25:=by omega
     obtain⟨q4,hq4⟩:∃ q,q=x+20:=⟨_,rfl⟩;have f4:IntKind.i64.wrap ((x:Int)+20)=(q4:Int):=zwi;have z4:(q4:Int)<25:=by omega
     obtain⟨y0,hy0⟩:=zev (g cur x);have c0:=xal HC.out.len hA x y0 (by omega) hy0;obtain⟨y1,hy1⟩:=zev (g cur q1);have c1:=xal HC.out.len hA q1 y1 (by omega) hy1;obtain⟨y2,hy2⟩:=zev (g cur q2);have c2:=xal HC.out.len hA q2 y2 (by omega) hy2;obtain⟨y3,hy3⟩:=zev (g cur q3);have c3:=xal HC.out.len hA q3 y3 (by omega) hy3;obtain⟨y4,hy4⟩:=zev (g cur q4);have c4:=xal HC.out.len hA q4 y4 (by omega) hy4;obtain⟨v,hv⟩:=zev (kc cur x);have E:=xor5 y0 y1 y2 y3 y4 v (hy0 ▸ HC.out.lt _) (hy1 ▸ HC.out.lt _) (hy2 ▸ HC.out.lt _) (hy3 ▸ HC.out.lt _) (hy4 ▸ HC.out.lt _) (by rw[←hv,kc,←hy0,←hy1,←hy2,←hy3,←hy4,hq1,hq2,hq3,hq4]);have HS:=ω (ct_set cur x v hlu hv);clear hA hq1 hq2 hq3 hq4 hy0 hy1 hy2 hy3 hy4 hv;go_wp2_with fail;refine xay 25 (by kernel_rfl) (by kernel_rfl) ?_;simp only[List.take_succ_cons,List.take_zero,List.drop_succ_cons,List.drop_zero];repeat still_step
     refine wpStill_nil ?_;have A1:Ω (At gc (LK .u64 (ct cur x)) 201 V wr.drew):=⟨xag A0.out⟩;clear c0 c1 c2 c3 c4 f1 f2 f3 f4
     with_reducible refine xaf A1 rfl _ _ _ rfl rfl ?_
     refine⟨_,_,_,rfl,rfl,rfl,by rw[xak,xhg];exact hlu,?_⟩;intro wn HRn;rw[HS.out]at HRn;go_wp2_with fail;go_roundw
     case rel=>exact⟨x+1,by omega,by go_num,HRn⟩
     case measure=>simp[intOf];omega
    ·obtain rfl:x=5:=by omega
     simp only[Int.cast_ofNat_Int];clear hx hlu;go_wp2_with fail;rw[Hz.out];have AW:Ω (At (w.heap.size+1) (LK .u64 cur) 163 W wr):=⟨xfu AV.out G.out.1 (by have:=G.out;have:=HWs.out;omega) A0.out⟩;have hcc:=A0.out.row;have hgs:gc<wr.heap.size:=A0.out.lt;obtain⟨V2,hV⟩:=zev (wr.alloc (.cells (LK .u64 z) 163));obtain⟨v0,v1,v2⟩:=one hV;rw[hV];clear hV;obtain⟨gb,hgb⟩:=zev wr.heap.size;have G2:Ω (W.heap.size≤gb∧V2.heap.size=gb+1∧gc<gb):=⟨hgb ▸ AW.out.size,hgb ▸ v1,hgb ▸ hgs⟩;have AX:Ω (At (w.heap.size+1) (LK .u64 cur) 163 W V2):=⟨AW.out.later v2⟩;have VC:Ω (V2.heap[gc]? = some (.cells (LK .u64 (ct cur 5)) 201 (0,0))):=⟨(v2.block _ hgs).trans hcc⟩;rw[hgb]at v0;rw[hgb];have VB:=ω v0;clear v0 v1 v2 hgb A0 AW hcc hgs AV V0;go_loopw [46] (fun i wr=>∃ x:Nat,x≤5∧i=.int .i64 (x:Int)∧Ω (At gb (LK .u64 (kecm.part (fun j=>oxy (src j)) (kturn.tl ts (mixL cur)) (g z) (5*x))) 163 V2 wr)) (fun i _=>5-(intOf i).toNat)
     case atStart=>
      refine⟨0,by decide,rfl,⟨?_⟩⟩;rw[Nat.mul_zero,xgi,xco HZl.out];exact At.refl VB.out
     case round=>
      obtain⟨x,hx,rfl,A0⟩:=hrel;by_cases hlu:x<5
      ·have hxz:(x:Int)<5:=by omega
       clear hx;obtain⟨dd,hd⟩:=zev (kd cur x);obtain⟨k4,hk4⟩:∃ q,q=x+4:=⟨_,rfl⟩;obtain⟨k1,hk1⟩:∃ q,q=x+1:=⟨_,rfl⟩;obtain⟨p4,hp4⟩:=zev ((x+4)%5);obtain⟨p1,hp1⟩:=zev ((x+1)%5);obtain⟨c,hc⟩:=zev (kc cur p4);obtain⟨e,he⟩:=zev (kc cur p1);obtain⟨r,hr⟩:=zev (rol (kc cur p1) 1);have be:e<18446744073709551616:=he ▸ xbq HC.out p1;have bd:dd<18446744073709551616:=hd ▸ xd8 HC.out x;have Her:=ω (show rol e 1=r by rw[←he,hr]);have D:=xor2 c r dd (hc ▸ xbq HC.out p4) (hr ▸ xdv _ _ (xbq HC.out p1)) (xez cur x p4 p1 c r dd hp4 hp1 hc hr hd);have w4:IntKind.i64.wrap ((x:Int)+4)=(k4:Int):=zwi;have w1:IntKind.i64.wrap ((x:Int)+1)=(k1:Int):=zwi;have m4:(k4:Int).tmod 5=(p4:Int):=by rw[Int.tmod_eq_emod_of_nonneg (by omega)];omega
       have m1:(k1:Int).tmod 5=(p1:Int):=by rw[Int.tmod_eq_emod_of_nonneg (by omega)];omega
       have l4:(p4:Int)<5:=by omega
       have l1:(p1:Int)<5:=by omega
       have hcr:=A0.out.other (by have:=G2.out;omega) (by have:=G2.out;omega) VC.out;have c4:wr.cell? ⟨gc,p4,none⟩=some (.int .u64 (c:Int)):=xab hcr (ct_at cur p4 c (by omega) hc);have c1:wr.cell? ⟨gc,p1,none⟩=some (.int .u64 (e:Int)):=xab hcr (ct_at cur p1 e (by omega) he);have Hd:=ω hd;clear hd hc he hr hp4 hp1 hk4 hk1 hcr;go_wp2_with fail;refine xav (by kernel_rfl) (by kernel_rfl) ?_;repeat still_step
       still_call (left1 e r _ be Her.out)
       repeat still_step
       refine wpStill_nil ?_;clear c4 c1 w4 w1 m4 m1 D;have A1:Ω (At gb (LK .u64 (kecm.part (fun j=>oxy (src j)) (kturn.tl ts (mixL cur)) (g z) (5*x))) 163 V2 wr.drew):=⟨xag A0.out⟩;clear A0;go_wp2_with fail;go_loopw [61] (fun i wr=>∃ y:Nat,y≤5∧i=.int .i64 (y:Int)∧Ω (At gb (LK .u64 (kecm.part (fun j=>oxy (src j)) (kturn.tl ts (mixL cur)) (g z) (5*x+y))) 163 V2 wr)) (fun i _=>5-(intOf i).toNat)
       case atStart=>exact⟨0,by decide,rfl,A1⟩
       case round=>
        clear A1;obtain⟨y,hy,rfl,A0⟩:=hrel;by_cases hlv:y<5
        ·have hyz:(y:Int)<5:=by omega
         clear hy;have f1:IntKind.i64.wrap (2*(x:Int))=((2*x:Nat):Int):=zwi;have f2:IntKind.i64.wrap (3*(y:Int))=((3*y:Nat):Int):=zwi;have f7:IntKind.i64.wrap (5*(y:Int))=((5*y:Nat):Int):=zwi;obtain⟨xa,hxa⟩:∃ q:Nat,q=2*x:=⟨_,rfl⟩;obtain⟨yb,hyb⟩:∃ q:Nat,q=3*y:=⟨_,rfl⟩;obtain⟨yf,hyf⟩:∃ q:Nat,q=5*y:=⟨_,rfl⟩;rw[←hxa]at f1;rw[←hyb]at f2;rw[←hyf]at f7;obtain⟨c,hc⟩:∃ q:Nat,q=xa+yb:=⟨_,rfl⟩;have f3:IntKind.i64.wrap ((xa:Int)+(yb:Int))=(c:Int):=zwi;obtain⟨d,hd⟩:∃ q:Nat,q=c%5:=⟨_,rfl⟩;have f4:(c:Int).tmod 5=(d:Int):=by rw[Int.tmod_eq_emod_of_nonneg (by omega)];omega
         obtain⟨e,he⟩:∃ q:Nat,q=5*d:=⟨_,rfl⟩;have f5:IntKind.i64.wrap (5*(d:Int))=(e:Int):=zwi;obtain⟨j,hj⟩:∃ q:Nat,q=y+e:=⟨_,rfl⟩;have f6:IntKind.i64.wrap ((y:Int)+(e:Int))=(j:Int):=zwi;obtain⟨i,hi⟩:∃ q:Nat,q=x+yf:=⟨_,rfl⟩;have f8:IntKind.i64.wrap ((x:Int)+(yf:Int))=(i:Int):=zwi;have hi25:i<25:=by omega
         have hj25:j<25:=by omega
         have iz:(i:Int)<25:=by omega
         have jz:(j:Int)<25:=by omega
         have hsj:src j=i:=by rw[hj,he,hd,hc,hxa,hyb,hi,hyf];exact src_at x y hlu hlv
         have hoi:oxy i=5*x+y:=by unfold oxy;omega
         obtain⟨l,hl⟩:=zev (g cur i);obtain⟨m,hm⟩:=zev (g (mixL cur) i);have bm:m<18446744073709551616:=hm ▸ (xbr HC.out).lt i;have V:=xor2 l dd m (hl ▸ HC.out.lt i) bd (by rw[←hm,mixL,xcx _ i hi25,hl,xe0 cur i x (by omega),Hd.out]);obtain⟨t,ht⟩:=zev (ts.getD i 0);have bt:t<9223372036854775808:=ht ▸ HK.out.bt i;have cl:=xal HC.out.len (A0.out.other (by have:=G2.out;have:=HWs.out;omega) (by have:=G2.out;have:=HWs.out;omega) AX.out.row) i l hi25 hl;have ct:wr.cell? ⟨w.heap.size,184+i,none⟩=some (.int .i64 (t:Int)):=by
          rw[←ht];exact xab (A0.out.other (by have:=G2.out;have:=HWs.out;omega) (by have:=G2.out;have:=HWs.out;omega) (AX.out.other (by have:=HWs.out;omega) (by omega) B0.out)) (HK.out.t i hi25)
         have HS:=ω (xb7 (ord:=fun j=>oxy (src j)) (f:=kturn.tl ts (mixL cur)) (d:=g z) (m:=5*x+y) j (rol m (t%64)) hj25 (by rw[hsj,hoi]) (fun i' hi' e'=>xvp i' j hi' hj25 (by rw[hsj];have h1:=xtm (src i') x y (xlo i' hi') hlu hlv e';omega)) (by rw[kturn.tl,hsj,hm,ht]));clear hxa hyb hyf hc hd he hj hi hsj hoi hl ht hm;go_wp2_with fail;refine xay 26 (by kernel_rfl) (by kernel_rfl) ?_;simp only[List.take_succ_cons,List.take_zero,List.drop_succ_cons,List.drop_zero];repeat still_step
         still_call (rols.xng m t _ bm bt)
         repeat still_step
         refine wpStill_nil ?_;have A1:Ω (At gb (LK .u64 (kecm.part (fun j=>oxy (src j)) (kturn.tl ts (mixL cur)) (g z) (5*x+y))) 163 V2 wr.drew):=⟨xag A0.out⟩;clear cl ct f1 f2 f3 f4 f5 f6 f7 f8 V
         with_reducible refine xaf A1 rfl _ _ _ rfl rfl ?_
         refine⟨_,_,_,rfl,rfl,rfl,by rw[lk25 _ (xcp _ _ _ _)];exact hj25,?_⟩;intro wn HRn;rw[HS.out]at HRn;go_wp2_with fail;go_roundw
         case rel=>exact⟨y+1,by omega,by go_num,HRn⟩
         case measure=>simp[intOf];omega
        ·obtain rfl:y=5:=by omega
         simp only[Int.cast_ofNat_Int];go_wp2_with fail;go_roundw
         case rel=>exact⟨x+1,by omega,by go_num,by rw[Nat.mul_add];exact A0⟩
         case measure=>simp[intOf];omega
      ·obtain rfl:x=5:=by omega
       simp only[Int.cast_ofNat_Int];clear hx hlu;obtain⟨tb,Htb⟩:=xaa (turnL (fun i=>ts.getD i 0) (mixL cur));have HT:Ω (St tb):=⟨by rw[←Htb.out];exact xdy _ (xbr HC.out)⟩;have hfin:=A0.out;rw[xgg _ _ _ _ (fun i hi=>oxy_lt _ (xlo i hi)),←kturn.xqa,Htb.out]at hfin;obtain⟨V3,hV3⟩:=zev wr;rw[hV3]at hfin;rw[hV3];clear hV3 A0;have AY:Ω (At (w.heap.size+1) (LK .u64 cur) 163 W V3):=⟨xfu AX.out G2.out.1 (by have:=G2.out;have:=HWs.out;omega) hfin⟩;have VB3:=ω hfin.row;have G3:Ω (gb<V3.heap.size):=⟨hfin.lt⟩;clear hfin AX VB VC;go_wp2_with fail;go_loopw [12] (fun i wr=>∃ n:Nat,n≤25∧n%5=0∧i=.int .i64 (n:Int)∧Ω (At (w.heap.size+1) (LK .u64 (kecm.part (fun i=>i) (kbend.bl tb) (g cur) n)) 163 V3 wr)) (fun i _=>25-(intOf i).toNat)
       case atStart=>
        refine⟨0,by decide,rfl,rfl,⟨?_⟩⟩;rw[xgi,xco HC.out.len];exact At.refl AY.out.row
       case round=>
        obtain⟨n,hn,hm,rfl,A0⟩:=hrel;by_cases hlu:n<25
        ·have hnz:(n:Int)<25:=by omega
         have hn20:n≤20:=by omega
         have Hm:=ω hm;clear hn hlu hm;go_wp2_with fail;go_loopw [96] (fun i wr=>∃ x:Nat,x≤5∧i=.int .i64 (x:Int)∧Ω (At (w.heap.size+1) (LK .u64 (kecm.part (fun i=>i) (kbend.bl tb) (g cur) (n+x))) 163 V3 wr)) (fun i _=>5-(intOf i).toNat)
         case atStart=>exact⟨0,by decide,rfl,A0⟩
         case round=>
          clear A0;obtain⟨x,hx,rfl,A0⟩:=hrel;by_cases hlv:x<5
          ·have hxz:(x:Int)<5:=by omega
           have hm:=Hm.out;obtain⟨i,hi⟩:∃ q:Nat,q=n+x:=⟨_,rfl⟩;have f8:IntKind.i64.wrap ((x:Int)+(n:Int))=(i:Int):=zwi;obtain⟨x1,hx1⟩:∃ q:Nat,q=x+1:=⟨_,rfl⟩;have f1:IntKind.i64.wrap ((x:Int)+1)=(x1:Int):=zwi;obtain⟨p1,hp1⟩:∃ q:Nat,q=x1%5:=⟨_,rfl⟩;have g1:(x1:Int).tmod 5=(p1:Int):=by rw[Int.tmod_eq_emod_of_nonneg (by omega)];omega
           obtain⟨j1,hj1⟩:∃ q:Nat,q=p1+n:=⟨_,rfl⟩;have e1:IntKind.i64.wrap ((p1:Int)+(n:Int))=(j1:Int):=zwi;obtain⟨x2,hx2⟩:∃ q:Nat,q=x+2:=⟨_,rfl⟩;have f2:IntKind.i64.wrap ((x:Int)+2)=(x2:Int):=zwi;obtain⟨p2,hp2⟩:∃ q:Nat,q=x2%5:=⟨_,rfl⟩;have g2:(x2:Int).tmod 5=(p2:Int):=by rw[Int.tmod_eq_emod_of_nonneg (by omega)];omega
           obtain⟨j2,hj2⟩:∃ q:Nat,q=p2+n:=⟨_,rfl⟩;have e2:IntKind.i64.wrap ((p2:Int)+(n:Int))=(j2:Int):=zwi;have hi25:i<25:=by omega
           have h125:j1<25:=by omega
           have h225:j2<25:=by omega
           have iz:(i:Int)<25:=by omega
           have z1:(j1:Int)<25:=by omega
           have z2:(j2:Int)<25:=by omega
           have q1:(i%5+1)%5+5*(i / 5)=j1:=by omega
           have q2:(i%5+2)%5+5*(i / 5)=j2:=by omega
           obtain⟨l,hl⟩:=zev (g tb i);obtain⟨m,hm1⟩:=zev (g tb j1);obtain⟨u,hu⟩:=zev (g tb j2);obtain⟨v,hv⟩:=zev (kbend.bl tb i);have hA:=A0.out.other G3.out (by have:=G2.out;have:=HWs.out;omega) VB3.out;have cl:=xal HT.out.len hA i l hi25 hl;have cm:=xal HT.out.len hA j1 m h125 hm1;have cn:=xal HT.out.len hA j2 u h225 hu;have HV:=ω (bend3 l m u v (hl ▸ HT.out.lt _) (hm1 ▸ HT.out.lt _) (hu ▸ HT.out.lt _) (kbend.xdf tb i j1 j2 l m u v q1 q2 hl hm1 hu hv));have HS:=ω (xb7 (ord:=fun i=>i) (f:=kbend.bl tb) (d:=g cur) (m:=n+x) i v hi25 hi (fun i' hi' e'=>e'.trans hi.symm) hv);clear hi hx1 hp1 hj1 hx2 hp2 hj2 q1 q2 hl hm1 hu hv hA hm;go_wp2_with fail;refine xay 26 (by kernel_rfl) (by kernel_rfl) ?_;simp only[List.take_succ_cons,List.take_zero,List.drop_succ_cons,List.drop_zero];repeat still_step
           refine wpStill_nil ?_;have A1:Ω (At (w.heap.size+1) (LK .u64 (kecm.part (fun i=>i) (kbend.bl tb) (g cur) (n+x))) 163 V3 wr.drew):=⟨xag A0.out⟩;clear cl cm cn f1 f2 f8 g1 g2 e1 e2
           with_reducible refine xaf A1 rfl _ _ _ rfl rfl ?_
           refine⟨_,_,_,rfl,rfl,rfl,by rw[lk25 _ (xcp _ _ _ _)];exact hi25,?_⟩;intro wn HRm;have HRn:Ω (At (w.heap.size+1) (LK .u64 (kecm.part (fun i=>i) (kbend.bl tb) (g cur) (n+x+1))) 163 V3 wn):=⟨by rw[←HS.out,←HV.out];exact HRm.out⟩;clear HRm;go_wp2_with fail;go_roundw
           case rel=>exact⟨x+1,by omega,by go_num,HRn⟩
           case measure=>simp[intOf];omega
          ·obtain rfl:x=5:=by omega
           simp only[Int.cast_ofNat_Int];go_wp2_with fail;go_roundw
           case rel=>exact⟨n+5,by omega,by have:=Hm.out;omega,by go_num,A0⟩
           case measure=>simp[intOf];omega
        ·obtain rfl:n=25:=by omega
         simp only[Int.cast_ofNat_Int];clear hn hm hlu;obtain⟨s,Hs⟩:=xaa (bendL tb);have Hst:Ω (St s):=⟨by rw[←Hs.out];exact xfw HT.out⟩;have hfin:=A0.out;rw[xgg _ _ _ _ (fun i hi=>hi),←xq9,Hs.out]at hfin;have AE:Ω (At (w.heap.size+1) (LK .u64 s) 163 W wr):=⟨AY.out.trans hfin⟩;clear hfin;obtain⟨x,hx⟩:=zev (g s 0);obtain⟨c,hc⟩:=zev (rs.getD k 0);obtain⟨v,hv⟩:=zev (x ^^^ c);have V:=xor2 x c v (hx ▸ Hst.out.lt 0) (hc ▸ HK.out.br k) hv;have cx:=xal Hst.out.len AE.out.row 0 x (by decide) hx;have cr:wr.cell? ⟨w.heap.size,160+k,none⟩=some (.int .u64 (c:Int)):=by rw[←hc];exact xab (AE.out.other (by have:=HWs.out;omega) (by omega) B0.out) (HK.out.r k hlt)
         have HS:Ω ((LK .u64 s).setIfInBounds 0 (.int .u64 (v:Int))=LK .u64 (permL (fun i=>ts.getD i 0) (fun i=>rs.getD i 0) a (k+1))):=⟨by
          rw[xnd c v Hst.out.len (by rw[hx,hv]),permL,Hcur.out,roundL,Htb.out,Hs.out,hc]⟩
         clear hx hc hv;go_wp2_with fail;refine xay 8 (by kernel_rfl) (by kernel_rfl) ?_;simp only[List.take_succ_cons,List.take_zero,List.drop_succ_cons,List.drop_zero];repeat still_step
         refine wpStill_nil ?_;have A4:Ω (At (w.heap.size+1) (LK .u64 s) 163 W wr.drew):=⟨xag AE.out⟩;clear cx cr V
         with_reducible refine xaf A4 rfl _ _ _ rfl rfl ?_
         refine⟨_,_,_,rfl,rfl,rfl,by rw[lk25 _ Hst.out.len];decide,?_⟩;intro w5 G5;rw[HS.out]at G5;go_wp2_with fail;go_roundw
         case rel=>exact⟨k+1,by omega,by go_num,G5⟩
         case measure=>simp[intOf];omega
  ·obtain rfl:k=24:=by omega
   simp only[Int.cast_ofNat_Int];have hfin:=A0.out;rw[HR.out]at hfin;have Hrow:=ω hfin.row;have Hres:Ω (wr.heap[w.heap.size+2]? = some (.cells (LK .u64 z) 163 (0,0))):=⟨hfin.other (by have:=HWs.out;omega) (by omega) B2.out⟩;have Hb5:Ω (Below w.heap.size w wr):=⟨HWb.out.trans (hfin.below (by have:=HWs.out;omega) (by omega))⟩;clear hfin;go_wp2_with (first
    | (refine wpList_load_row rfl 163 _ rfl (w.heap.size+1) rfl 163 (LK .u64 R) (0,0) _ Hrow.out Tryz.underlying163 rfl HRz.out ?_)
    | (refine wpList_store_row rfl 163 _ _ rfl (w.heap.size+2) (LK .u64 R) rfl rfl 163 _ Hres.out HRz.out (same25 HZl.out HRl.out) HRo.out ?_))
   refine bodyPost_ret_by (v:=.agg (LK .u64 R)) (results_cell_row rfl _ _ (w.heap.size+2) 163 _ (0,0) _ rfl (setRow_heap _ _ _ _ _ _ Hres.out) Tryz.underlying163 rfl HRz.out) rfl ?_;exact⟨rfl,Hb5.out.trans (below_setRow _ _ _ (by omega))⟩
end rperm
end Go.Proofs.YtgahcabgmfbhdaaGreatDoor
