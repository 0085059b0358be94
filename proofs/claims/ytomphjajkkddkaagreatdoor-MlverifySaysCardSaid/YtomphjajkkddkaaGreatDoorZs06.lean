/-
  Comparing two values of type api.Tables, or two lists of round constants, by '==': it answers, whate
-/
import Derived.Test.YtomphjajkkddkaaGreatDoorZs05
import Derived.Test.YtomphjajkkddkaaGreatDoorZs02
import Derived.Test.YtomphjajkkddkaaGreatDoorZs04
import Derived.Test.YtomphjajkkddkaaGreatDoorRows
import Derived.Test.YtomphjajkkddkaaGreatDoorZs03
import Derived.Test.YtomphjajkkddkaaGreatDoorZs01
import Derived.Laws.StructEq
import Derived.ChangeKeysEq
import Derived.LaidMore
import Derived.OpenShut
import Derived.Stop.Joined
set_option maxRecDepth 100000
set_option maxHeartbeats 16000000
set_option linter.unusedSimpArgs false
set_option linter.unusedVariables false
open Go Go.RowKit
open Go renaming World->G,Calls->aD,Value->aE,TypeId->aH,Program->aI
open Go.RowKit renaming intOf->aG
open Go.Value renaming int->O,agg->I,string->E,tuple->aA
open Go.IntKind renaming i64->J
open Go.Obj renaming cells->Y
open Go.Proofs.Tryz renaming prog->aO
namespace Go.Proofs.YtomphjajkkddkaaGreatDoor
namespace eqs
open Go.RowKit
open tabv arr
def dY(xs:Array aE)(i:Nat):Int:=match xs[i]? with
 | some (.int _ a)=>a
 | _=>0
def Nums(k:IntKind)(xs:Array aE)(o n:Nat):Prop:=∀ i,i<n->∃ a,xs[o+i]? = some (.int k a)
section
variable {P:aI}
theorem xhi(w:G){e:aH}{k:IntKind}(he:P.underlying e=some (.int k)){xs:Array aE}{i:Nat}{v:aE}(hx:xs[i]? = some v):(part e xs i).run P w=.ok v w:=by
 have h:(isAgg e).run P w=.ok false w:=by
  unfold isAgg;rw[lQ,run_underlying he w];simp
 unfold part;simp[lQ,h,hx]
theorem xhh(w:G)(d:Nat){e:aH}{k:IntKind}(he:P.underlying e=some (.int k))(xs ys:Array aE):∀ is:List Nat,(∀ i∈is,∃ a,xs[i]? = some (.int k a))->(∀ i∈is,∃ a,ys[i]? = some (.int k a)) ->
 (Op.eqItems (d+1) e 1 xs ys is).run P w=.ok (is.all fun i=>dY xs i==dY ys i) w
 | [],_,_=>by simp[Op.eqItems]
 | i :: is,hx,hy=>by
  obtain⟨a,ha⟩:=hx i (by simp);obtain⟨b,hb⟩:=hy i (by simp);have ih:=xhh w d he xs ys is (fun j hj=>hx j (by simp[hj])) (fun j hj=>hy j (by simp[hj]));have e1:dY xs i=a:=by simp[dY,ha]
  have e2:dY ys i=b:=by simp[dY,hb]
  simp only[Op.eqItems,oA,lQ,xhi w he ha,xhi w he hb,kQ,run_equalIn_int w d e k k a b he,List.all_cons,e1,e2];cases hab:(a==b)
  ·simp
  ·simpa using ih
theorem xq5(w:G)(d:Nat){t e:aH}{n:Nat}{k:IntKind}{i:TypeInfo}(ht:P.underlying t=some (.array n e))(hi:P.info? e=some i)(hc:P.cellsOf e=1)(he:P.underlying e=some (.int k))(xs ys:Array aE)
 (hx:Nums k xs 0 n) (hy:Nums k ys 0 n):(Op.equalIn (d+2) t (.agg xs) (.agg ys)).run P w=.ok ((List.range n).all fun i=>dY xs i==dY ys i) w:=by
 rw[run_equalIn_array w (d+1) xs ys ht hi,hc];exact xhh w d he xs ys _ (fun j hj=>by have:=hx j (by simpa using hj);rwa [kP]at this) (fun j hj=>by have:=hy j (by simpa using hj);rwa [kP]at this)
structure FieldOk (P:aI) (f:Field) (xs:Array aE):Prop where
 nm : (f.name ≠ "_") = True
 ok:∃ n e k i,P.underlying f.type=some (.array n e)/\(P.info? f.type).map (·.size)=some n/\P.info? e=some i/\P.cellsOf e=1/\P.underlying e=some (.int k)/\f.offset+n<=xs.size/\Nums k xs f.offset n
end
def kd(i:Nat):IntKind:=if i<72 then .u32 else if i<184 then .u64 else .i64
def Good(xs:Array aE):Prop:=xs.size=465/\∀ i,i<465->∃ a,xs[i]? = some (.int (kd i) a)
theorem xoq{P:aI}{e:aH}{s:Nat}(h:(P.info? e).map (·.size)=some s):∃ i,P.info? e=some i:=by
 cases hq:P.info? e with
 | none=>rw[hq]at h;cases h
 | some i=>exact⟨i,rfl⟩
end eqs
namespace words
open Go Go.ChangeShapes Go.WideShapes Go.ChangeAt Go.RowKit
open arr eqs
section
variable {H:Type} {enc:aH × aE->H} {P:aI} {w:G} {base:Nat} {spare held:Bool}
end
end words
namespace laids
open Go Go.ChangeShapes Go.WideShapes Go.ChangeAt Go.RowKit
open arr mem bT
theorem xld{P:aI}{w:G}{g n:Nat}{name:String}{t e:aH}(ds:List Nat)(h:laidMetH P [(name,.agg (ds.map fun d:Nat=>.lit (.int .i64 (d:Int))))] w)(hg:P.globalNamed name=some g)(ht:(P.globals[g]?).map (·.type)=some t)
 (hu:P.underlying t=some (.array n e)) (he:P.underlying e=some (.int .i64)) (hce:P.cellsOf e=1) (hct:P.cellsOf t=n) (hl:ds.length=n) (hn : 0<n):∃ t,w.heap[g]? = some (.cells (LK .i64 ds) t (0,0)):=by
 rw[MakeChecks.laidMetH_plain _ _ _ (by simp[DataW.handleName?])]at h;obtain⟨ps,⟨g0,t0,cs,fuel,p,q,hg0,ht0,hv,hd,hq,hps⟩,-,hb⟩:=h;obtain rfl:=kF (hg.symm.trans hg0);obtain rfl:=kF (ht.symm.trans ht0);obtain⟨xs,m,-,hx,hlen,hxs,hel⟩:=DataW.trod_array hu hd;simp only[Prod.mk.injEq,DataW.agg.injEq]at hx;have hsz:cs.size=n:=by rw[<-hct,<-hlen];simp
 have hmem:MemPlace.cell g 0∈ps:=by
  rw[hps];refine List.mem_append_left _ (List.mem_append_left _ (MemPlace.mem_row.2 ⟨0,by omega,by simp⟩))
 obtain⟨⟨c,t',hc⟩,-⟩:=hb g 0 hmem;have hcc:c=cs:=by
  simp only[World.var?,hg,Option.bind_some,hc]at hv;exact kF hv
 subst hcc;refine⟨t',?_⟩;rw[hc];congr 2
 apply Array.ext (by rw[fE,hsz,hl]);intro i h1 h2;have h3:=hel i (by omega);rw[hce,oA,nA (by simpa using h1),jH,jU,iT (by omega)]at h3;obtain⟨a,e1,e2,-⟩:=DataW.trod_int he h3;have e3:(ds.map fun d:Nat=>(DataW.lit (.int .i64 (d:Int)):DataW Unit))[i]? = (xs.map (·.1))[i]? := by rw[hx.1]
 rw[mU,mU,iT (by omega),iT (by omega),e2]at e3;simp only[nU,mT,DataW.lit.injEq,Lit.int.injEq,true_and]at e3;simp only[nV,and_true]at e1;have e4:c[i]=.int .i64 a:=by simpa using e1
 rw[e4,<-e3];simp[LK]
theorem gp_of{w : G}(h : laidMetH aO [("sigil/keccak.places", Rows.laid_sigil_keccak_places)] w) : Gp w :=
 xld (n:=25) (t:=31) (e:=3) PL h (by kernel_rfl) (by kernel_rfl) (by kernel_rfl) (by kernel_rfl) (by kernel_rfl) (by kernel_rfl) rfl (by decide)
end laids
namespace iD
open Go.RowKit
open arr mem bJ dL bT bU
theorem size25{l:List Nat}(h:l.length=25):(aO.info? 162).map (·.size)=some (LK .u64 l).size:=by rw[fE,h];exact info25
theorem same25{l m:List Nat}(h:l.length=25)(hm:m.length=25):(LK .u64 l).size=(LK .u64 m).size:=by rw[fE,fE,h,hm]
theorem two{w W:G}{x y:Obj}(h:(w.alloc x).alloc y=W):W.heap[w.heap.size]? = some x/\W.heap[w.heap.size+1]? = some y/\W.heap.size=w.heap.size+2/\zb w W:=by
 subst h;refine⟨?_,cM _ _ _ (by rw[size_alloc]),by rw[size_alloc,size_alloc],((iR _ _).alloc (iM _) _).alloc (by rw[size_alloc];omega) _⟩;rw[fF _ _ _ (by rw[size_alloc];omega),cM _ _ _ rfl]
theorem three{w W:G}{x y z:Obj}(h:((w.alloc x).alloc y).alloc z=W):W.heap[w.heap.size]? = some x/\W.heap[w.heap.size+1]? = some y/\W.heap[w.heap.size+2]? = some z/\W.heap.size=w.heap.size+3/\zb w W:=by
 obtain⟨h1,h2,h3,h4⟩:=two (w:=w) (x:=x) (y:=y) rfl;subst h;refine⟨?_,?_,cM _ _ _ h3.symm,by rw[size_alloc,h3],h4.alloc (by rw[h3];omega) _⟩
 ·rw[fF _ _ _ (by omega),h1]
 ·rw[fF _ _ _ (by omega),h2]
theorem cst_at(rs:List Nat)(k:Nat)(h:k<24):cst rs (k:Int)=rs.getD k 0:=by
 rw[cst,iP (by omega),kL]
theorem xi9{T:Array aE}{ts rs:List Nat}(a:List Nat)(w:G)(h:St a)(hK:KT T ts rs)(hP:Gp w):
 aD aO 204 #[.agg T,.agg (LK .u64 a)] w (zB w (.agg (LK .u64 (fC (fun i=>ts.getD i 0) (fun i=>rs.getD i 0) a 24)))):=by
 have H:=D h;obtain⟨z,HZ⟩:=aQ Z;have HZl:U (z.length=25):=⟨by rw[<-HZ.o];rfl⟩;have Hz:U ((#[.int .u64 0,.int .u64 0,.int .u64 0,.int .u64 0,.int .u64 0,.int .u64 0,.int .u64 0,.int .u64 0,.int .u64 0,.int .u64 0,.int .u64 0,.int .u64 0,.int .u64 0,.int .u64 0,.int .u64 0,.int .u64 0,.int .u64 0,.int .u64 0,.int .u64 0,.int .u64 0,.int .u64 0,.int .u64 0,.int .u64 0,.int .u64 0,.int .u64 0]:Array aE)=LK .u64 z):=⟨by rw[<-HZ.o];exact z_is⟩;clear h HZ;have HK:=D hK;have HP:=D hP;clear hK hP;obtain⟨R,HR⟩:=aQ (fC (fun i=>ts.getD i 0) (fun i=>rs.getD i 0) a 24);have HRl:U (R.length=25):=⟨by rw[<-HR.o];exact(xhb (fun i=>ts.getD i 0) _ HK.o.br H.o 24).len⟩;have HRo:=D (gV .u64 R);have HRz:=D (size25 HRl.o);rw[HR.o];go_enter Tryz.func204,Tryz.ntmps204;go_wp2_with fail;rw[Hz.o];obtain⟨W,hW⟩:=aP (((w.alloc (.cells T 34)).alloc (.cells (LK .u64 a) 162)).alloc (.cells (LK .u64 z) 162));obtain⟨b0,b1,b2,hWs,hWb⟩:=three hW;rw[hW];clear hW;have B0:=D b0;have B1:=D b1;have B2:=D b2;have HWs:=D hWs;have HWb:=D hWb;clear hWs hWb b0 b1 b2;have P0:U (Gp W):=⟨HP.o.later HWb.o⟩;go_loopw [6] (fun i wr=>∃ k:Nat,k<=24/\i=.int .i64 (k:Int)/\U (At (w.heap.size+1) (LK .u64 (fC (fun i=>ts.getD i 0) (fun i=>rs.getD i 0) a k)) 162 W wr)) (fun i _=>24-(aG i).toNat)
 case atStart=>exact⟨0,by decide,rfl,⟨At.refl B1.o⟩⟩
 case round=>
  obtain⟨k,hk,rfl,A0⟩:=hrel;by_cases hlt:k<24
  ·have hkz:(k:Int)<24:=by omega
   go_wp2_with fail;refine(bU.xza (k:Int) w.heap.size (w.heap.size+1) T _ ts rs wr (xhb (fun i=>ts.getD i 0) _ HK.o.br H.o k) HK.o (Gp.at P0.o A0.o (by have:=xgw HP.o;omega)) (A0.o.other (by have:=HWs.o;omega) (by omega) B0.o) A0.o.row (by omega) (by have:=xgw HP.o;omega)).mono ?_;rintro e w1 ⟨rfl,h1⟩;have A1:U (At (w.heap.size+1) (LK .u64 (fC (fun i=>ts.getD i 0) (fun i=>rs.getD i 0) a (k+1))) 162 W w1):=⟨by rw[fC,<-cst_at rs k hlt];exact A0.o.trans h1⟩;clear h1;go_wp2_with fail;go_roundw
   case rel=>exact⟨k+1,by omega,by go_num,A1⟩
   case measure=>simp[aG];omega
  ·obtain rfl:k=24:=by omega
   simp only[jE];have A1:U (At (w.heap.size+1) (LK .u64 R) 162 W wr):=⟨by rw[<-HR.o];exact A0.o⟩;have Hres:U (wr.heap[w.heap.size+2]? = some (.cells (LK .u64 z) 162 (0,0))):=⟨A1.o.other (by have:=HWs.o;omega) (by omega) B2.o⟩;have Hrow:=D A1.o.row;have Hb1:U (zb w wr):=⟨HWb.o.trans (A1.o.below (by have:=HWs.o;omega) (by omega))⟩;go_wp2_with (first
    | (refine iL rfl 162 _ rfl (w.heap.size+1) rfl 162 (LK .u64 R) (0,0) _ Hrow.o Tryz.underlying162 rfl HRz.o ?_)
    | (refine iS rfl 162 _ _ rfl (w.heap.size+2) (LK .u64 R) rfl rfl 162 _ Hres.o HRz.o (same25 HZl.o HRl.o) HRo.o ?_))
   refine iV (v:=.agg (LK .u64 R)) (jC rfl _ _ (w.heap.size+2) 162 _ (0,0) _ rfl (jD _ _ _ _ _ _ Hres.o) Tryz.underlying162 rfl HRz.o) rfl ?_;exact⟨rfl,Hb1.o.trans (below_setRow _ _ _ (by omega))⟩
end iD
namespace kecd
open Go.RowKit
open arr mem tabv bJ cZ bU
theorem tl_lt:∀ i,TL.getD i 0<64:=by
 intro i;by_cases h:i<25
 ·have:∀ i:Fin 25,TL.getD i.val 0<64:=by decide
  exact this ⟨i,h⟩
 ·rw[iO,jY (by show 25<=i;omega)];decide
theorem xmf:∀ i,RL.getD i 0<18446744073709551616:=by
 intro i;by_cases h:i<24
 ·have:∀ i:Fin 24,RL.getD i.val 0<18446744073709551616:=by decide
  exact this ⟨i,h⟩
 ·rw[iO,jY (by show 24<=i;omega)];decide
theorem xdd:KT TA TL RL:=
 ⟨fun i hi=>by rw[xju _ (by omega),xm6 i hi,tl_is],fun i hi=>by rw[xju _ (by omega),xm5 i hi,rl_is],fun i=>iZ (tl_lt i) (by decide),xmf,xdn,xgd⟩
theorem st_of{a:List Nat}(h:a.length=25)(h2:∀ i:Fin 25,g a i.val<18446744073709551616):St a:=⟨h,fun i=>by
 by_cases hi:i<25
 ·exact h2 ⟨i,hi⟩
 ·unfold g;rw[iO,jY (by omega)];decide⟩
theorem xfr(l:List Nat)(m v i:Nat):(l.set m v).getD i 0=if i=m/\m<l.length then v else l.getD i 0:=by
 rw[iO,iO,nS];by_cases h:m=i
 ·subst h;by_cases h2:m<l.length
  ·simp[h2]
  ·rw[iP rfl,iQ h2,iQ (by omega),jY (by omega)]
 ·rw[iQ h,iQ (by omega)]
theorem one{w W:G}{x:Obj}(h:w.alloc x=W):W.heap[w.heap.size]? = some x/\W.heap.size=w.heap.size+1/\zb w W:=by
 subst h;exact⟨cM _ _ _ rfl,size_alloc _ _,xby _ _⟩
end kecd
namespace awake14
open mem arr tabv built bT aV bF
def d32:ByteArray:=⟨#[48,49,50,51,52,53,54,55,56,57,48,49,50,51,52,53,54,55,56,57,48,49,50,51,52,53,54,55,56,57,48,49]⟩
theorem xh6(PK SK SG:ByteArray)(w:G)(hP:Gp w)
 (HPr:∀ w1:G,Gp w1->aD aO 18 #[I TA,I iJ,E d32] w1 (zB w1 (aA #[E PK,E SK,O J 0])))
 (HSg:∀ w1:G,Gp w1->aD aO 19 #[I TA,I iJ,E SK,E ⟨#[97,98,99]⟩,E ⟨#[99]⟩,E ⟨#[]⟩] w1 (zB w1 (aA #[E SG,O J 0])))
 (HV1:∀ w1:G,Gp w1->aD aO 9 #[I TA,I iJ,E PK,E ⟨#[97,98,99]⟩,E ⟨#[99]⟩,E SG] w1 (zB w1 (aA #[.bool true,O J 0])))
 (HV2:∀ w1:G,Gp w1->aD aO 9 #[I TA,I iJ,E PK,E ⟨#[97,98,100]⟩,E ⟨#[99]⟩,E SG] w1 (zB w1 (aA #[.bool false,O J 0]))):
 aD aO 6 #[] w (zB w (.bool true)):=by
 have HP:=D hP;obtain⟨hz,hsize⟩:=iY built.dI;obtain⟨hzl,hsizel⟩:=iY rset.gY;obtain⟨Zl,HZl⟩:=aQ set0;rw[HZl.o]at hzl;have HZls:U (Zl.size=8):=⟨by rw[<-HZl.o];rfl⟩;have Hsizel:=D hsizel;obtain⟨Zt,HZt⟩:=aQ TZ;rw[HZt.o]at hz;have HZts:U (Zt.size=465):=⟨by rw[<-HZt.o];exact xcc⟩;obtain⟨T,HT⟩:=aQ TA;have HTs:U (T.size=465):=⟨by rw[<-HT.o];exact xdn⟩;have HTo:U (T.all (·.oneCell')=true):=⟨by rw[<-HT.o];exact xgd⟩;have HTz:U ((aO.info? 34).map (·.size)=some T.size):=⟨by rw[HTs.o];kernel_rfl⟩;have Hmk:U (∀ w1:G,aD aO 16 #[] w1 (zB w1 (I T))):=⟨fun w1=>by rw[<-HT.o];exact make.xln w1⟩;obtain⟨C,HC⟩:=aQ iJ;have HCs:U (C.size=8):=⟨by rw[<-HC.o];rfl⟩;have HCo:U (C.all (·.oneCell')=true):=⟨by rw[<-HC.o];simp[iJ,Value.oneCell']⟩;have HCz:=zsz HCs Hsizel.o;have HSet4:U (∀ w1:G,aD aO 17 #[O J 4] w1 (zB w1 (aA #[I C,O J 0]))):=⟨fun w1=>by rw[<-HC.o];exact rset.xmr w1⟩;rw[HC.o,HT.o]at HPr HSg HV1 HV2;have HPr:=D HPr;have HSg:=D HSg;have HV1:=D HV1;have HV2:=D HV2;clear hsize hsizel hP HT HZl HC HZt;go_enter Tryz.func6,Tryz.ntmps6;go_wp2_with fail;refine(Hmk.o _).mono ?_;rintro e w1 ⟨rfl,hb1⟩;obtain⟨W1,hW1⟩:=aP (w1.alloc (Y T 34));obtain⟨r1,hs1,b1⟩:=one hW1;have HW1:=D hW1;have B1:U (zb w W1):=⟨hb1.trans (b1.mono hb1.size)⟩;have K0:=gW r1;clear hb1 hW1 r1 hs1 b1;go_wp2_with (first
  | (refine fV rfl 34 _ _ rfl _ rfl rfl HTz.o (by rw[HTs.o];exact HZts.o) HTo.o rfl ?_)
  | (rw[HW1.o]))
 refine(HSet4.o _).mono ?_;rintro e w3 ⟨rfl,hb3⟩;obtain⟨W3,hW3⟩:=aP (w3.alloc (Y C 37));obtain⟨r3,hs3,b3⟩:=one hW3;have HW3:=D hW3;have k3:=zbm hb3 b3;have B3:=bK B1 k3;have KT1:U (∀ w':G,zb W3 w'->w'.heap[w1.heap.size]? = some (Y T 34 (0,0))):=⟨fun w' hb=>K0.o _ (k3.trans (hb.mono k3.size))⟩;have KC:=gW r3;have GP:U (∀ w':G,zb W3 w'->Gp w'):=⟨fun w' hb=>HP.o.later (B3.o.trans (hb.mono B3.o.size))⟩;have E3:U (zb W3 W3):=⟨iR _ _⟩;clear hb3 hW3 r3 hs3 b3 k3 K0;go_wp2_with (first
  | (refine fV rfl 37 _ _ rfl _ rfl rfl HCz.o (by rw[HCs.o];exact HZls.o) HCo.o rfl ?_)
  | (rw[HW3.o])
  | (refine iL rfl 34 _ rfl w1.heap.size rfl 34 T (0,0) _ (KT1.o _ E3.o) zY rfl HTz.o ?_)
  | (refine iL rfl 37 _ rfl w3.heap.size rfl 37 C (0,0) _ (KC.o _ E3.o) zZ rfl HCz.o ?_))
 clear hz hzl;refine(HPr.o _ (GP.o _ E3.o)).mono ?_;rintro e w4 ⟨rfl,hb⟩;have E4:=bK E3 hb;clear hb;go_wp2_with (first
  | (refine iL rfl 34 _ rfl w1.heap.size rfl 34 T (0,0) _ (KT1.o _ E4.o) zY rfl HTz.o ?_)
  | (refine iL rfl 37 _ rfl w3.heap.size rfl 37 C (0,0) _ (KC.o _ E4.o) zZ rfl HCz.o ?_))
 refine(HSg.o _ (GP.o _ E4.o)).mono ?_;rintro e w5 ⟨rfl,hb⟩;have E5:=bK E4 hb;clear hb;go_wp2_with (first
  | (refine iL rfl 34 _ rfl w1.heap.size rfl 34 T (0,0) _ (KT1.o _ E5.o) zY rfl HTz.o ?_)
  | (refine iL rfl 37 _ rfl w3.heap.size rfl 37 C (0,0) _ (KC.o _ E5.o) zZ rfl HCz.o ?_))
 refine(HV1.o _ (GP.o _ E5.o)).mono ?_;rintro e w6 ⟨rfl,hb⟩;have E6:=bK E5 hb;clear hb;go_wp2_with (first
  | (refine iL rfl 34 _ rfl w1.heap.size rfl 34 T (0,0) _ (KT1.o _ E6.o) zY rfl HTz.o ?_)
  | (refine iL rfl 37 _ rfl w3.heap.size rfl 37 C (0,0) _ (KC.o _ E6.o) zZ rfl HCz.o ?_))
 refine(HV2.o _ (GP.o _ E6.o)).mono ?_;rintro e w7 ⟨rfl,hb⟩;have E7:=bK E6 hb;clear hb;go_wp2_with fail;go_ret;exact⟨rfl,B3.o.trans (E7.o.mono B3.o.size)⟩
end awake14
end Go.Proofs.YtomphjajkkddkaaGreatDoor
