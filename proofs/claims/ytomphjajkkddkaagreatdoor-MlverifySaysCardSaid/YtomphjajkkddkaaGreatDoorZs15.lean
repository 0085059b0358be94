/-
  What package sample's Matrix returns. Conditions: the tables have their size; what Uniform returns i
-/
import Derived.Test.YtomphjajkkddkaaGreatDoorZs14
import Derived.Test.YtomphjajkkddkaaGreatDoorZs02
import Derived.Test.YtomphjajkkddkaaGreatDoorZs12
import Derived.Test.YtomphjajkkddkaaGreatDoorZs03
import Derived.Test.YtomphjajkkddkaaGreatDoorZs01
import Derived.Test.YtomphjajkkddkaaGreatDoorZs09
import Derived.Test.YtomphjajkkddkaaGreatDoorZs08
import Derived.Test.YtomphjajkkddkaaGreatDoorZs04
import Derived.Test.YtomphjajkkddkaaGreatDoorZs05
import Derived.Test.YtomphjajkkddkaaGreatDoorZs11
import Derived.Lib.QuietBelow
import Derived.StillTailTactics
import Derived.Great.Frames
import Derived.BigRegion
import Derived.Great.BuildSlice
set_option maxRecDepth 100000
set_option maxHeartbeats 16000000
set_option linter.unusedSimpArgs false
set_option linter.unusedVariables false
open Go Go.RowKit
open Go renaming World->G,Calls->aD,Value->aE,TypeId->aH,Program->aI
open Go.RowKit renaming Below->aF,intOf->aG
open Go.Region renaming ready->aK,wanted->aL
open Go.Act renaming put->aM
open Go.Instr renaming index->aN
open Go.Value renaming int->O,agg->I,string->E,tuple->aA,slice->aB,pointer->aC
open Go.IntKind renaming i64->J
open Go.Obj renaming cells->Y
open Go.Proofs.Tryz renaming prog->aO
namespace Go.Proofs.YtomphjajkkddkaaGreatDoor
abbrev lY:=@Go.wpList_make_full
section
open Go Go.RowKit cV aR
variable {P:aI} {ops:Array Oper} {Q:Exit->Act->G->Prop} {S:G->Prop} {b b':Array Bool} {k:Nat} {ks:List Nat} {o:Oper} {rest:List Oper} {a a':Act} {w:G} {v:aE}
theorem zV(hS:S w)(h:HK P ops Q S b' rest ks a' w)(hc:tk ops b k o a=true:=by rw[<-HO.o];kernel_rfl)(hQ:∀ c a w,Q (.panic c) (a.put o.dst v) w->Q (.panic c) a w:=by exact fun _ _ _ h=>h)(hy:∀ w,S w->(execOp a.eval o).run P w=.ok (.value v) w:=by intro w9 h9;go_simp;first | done | with_reducible rfl)(hb:b.setIfInBounds k true=b':=by first | (simp only[aR.pa,aR.pb,aR.pc];first | done | rfl) | rfl)(ha:a.put o.dst v=a':=by simp only[aM,aR.pa,aR.pb,aR.pc];first | done | rfl):HK P ops Q S b (o::rest) (k::ks) a w:=by
 subst hb ha;exact fY hc hQ hy hS h
theorem zW{p:G->Prop}(C:∀ w,S w->p w)(hS:S w)(h:HK P ops Q S b' rest ks a' w)(hc:tk ops b k o a=true:=by rw[<-HO.o];kernel_rfl)(hQ:∀ c a w,Q (.panic c) (a.put o.dst v) w->Q (.panic c) a w:=by exact fun _ _ _ h=>h)(hy:∀ w,p w->(execOp a.eval o).run P w=.ok (.value v) w:=by intro w9 hc;go_simp;first | done | with_reducible rfl)(hb:b.setIfInBounds k true=b':=by first | (simp only[aR.pa,aR.pb,aR.pc];first | done | rfl) | rfl)(ha:a.put o.dst v=a':=by simp only[aM,aR.pa,aR.pb,aR.pc];first | done | rfl):HK P ops Q S b (o::rest) (k::ks) a w:=by
 subst hb ha;exact fY hc hQ (fun w h=>hy w (C w h)) hS h
end
namespace qmat
open arr mem bD aT aV aY bC bF bS bQ fO qpair eM
theorem infoSl:(aO.info? 44).map (fun i=>(i.zero,i.size,i.bytes))=some (some (aB none 0 0),1,24):=by kernel_rfl
def OU(vs:List aE)(n:Nat):Array aE:=(vs++List.replicate n (Value.slice none 0 0)).toArray
theorem xp5(vs:List aE)(n:Nat):(OU vs n).size=vs.length+n:=by unfold OU;simp
theorem ou_set(vs:List aE)(n:Nat)(v:aE):(OU vs (n+1)).setIfInBounds vs.length v=OU (vs ++ [v]) n:=by
 unfold OU;rw[mV,List.set_append_right _ _ (iM _),mW,List.replicate_succ,List.set_cons_zero,mL];rfl
theorem ou_get(vs:List aE)(n i:Nat)(h:i<vs.length):(OU vs n)[i]? = vs[i]? := by
 unfold OU;rw[oJ,mC h]
theorem xp4(vs:List aE)(n:Nat)(v:aE):(OU (vs ++ [v]) n)[vs.length]? = some v:=by
 rw[ou_get _ _ _ (by rw[kK];exact Nat.lt_succ_self _),lR (iM _),mW];rfl
theorem xvr{w w':G}{B:Nat}{e:aH}{n:Nat}(h:w'.ownsRow B e 1 (aB (some ⟨w.heap.size,0,none⟩) n n) n (madeCells #[Value.slice none 0 0] n).toList)(hg:w.grownBy w' none):
 w'.heap[w.heap.size]? = some (Y (OU [] n) e (0,0))/\zb w w':=by
 obtain⟨cur,h1,h2⟩:=xp9 h;have e0:cur=OU [] n:=by
  apply Array.ext';rw[h2,toList_madeCells_one];unfold OU;simp
 rw[e0]at h1;exact⟨h1,(iR _ _).grown hg (iM _) (fun k hk=>by simp at hk)⟩
theorem xx9{w w':G}{B gm ln:Nat}{vs:List aE}{p:Nat->Nat->Nat->Int}(h:dO w B (some gm) vs ln p)(hs:w.heap.size<=w'.heap.size)(hb:∀ g,g<w.heap.size->g≠gm->w'.heap[g]? = w.heap[g]?):dO w' B (some gm) vs ln p:=fun i v hv=>by
 obtain⟨g,c,e,h1,h2,h3,h4⟩:=h i v hv;refine⟨g,c,e,h1,iZ h2 hs,h3,fun s hs k hk=>?_⟩;rw[<-h4 s hs k hk];have e2:=hb g h2 (fun e2=>h3 (by rw[e2]));simp only[World.cell?,e2]
theorem xlp{T:Array aE}(kn ln:Nat)(e t a b o s:Int)(sd:ByteArray)(q:Nat->Nat->Nat->Int)(w:G)(hT:(aO.info? 34).map (·.size)=some T.size)(hk : 1<=kn/\kn<=8)(hl : 1<=ln/\ln<=8)(h:bP (kn:Int) (ln:Int) e t a b o s=true)(hsd:sd.size<=1125899906842624)
 (HS:∀ r c:Nat,r<8->c<8->∀ w1:G,zb w w1->aD aO 83 #[I T,E (tw sd c r)] w1 (zB w1 (I (FL J 256 (q r c))))):
 aD aO 33 #[I T,I (bO (kn:Int) (ln:Int) e t a b o s),E sd] w fun x w'=>(∃ v vs,x=.returned v/\w'.ownsRow w.heap.size 44 1 v kn vs/\dO w' w.heap.size v.ownBlock vs ln q)/\zb w w':=by
 have HR:U (∀ w1:G,aD aO 49 #[I (bO (kn:Int) (ln:Int) e t a b o s)] w1 (zB w1 (.bool true))):=⟨fun w1=>by rw[<-h];exact eF.xbo _ _ e t a b o s w1⟩;obtain⟨i0,hi,hz0,hz1,hz2⟩:=parts bX;obtain⟨hz,hsize⟩:=iY aV.aX;obtain⟨z,HZ⟩:=aQ (FL J 256 fun _=>0);rw[HZ.o]at hz hz0;have HI:=D (jA hi (jA hz0 (jA hz1 hz2)));obtain⟨j0,hj,hy0,hy1,hy2⟩:=parts infoSl;have HJ:=D (jA hj (jA hy0 (jA hy1 hy2)));clear hj hy0 hy1 hy2;clear hi hz0 hz1 hz2 hsize;obtain⟨C,HC⟩:=aQ ((bO (kn:Int) (ln:Int) e t a b o s):Array aE);rw[HC.o]at HR ⊢;have HCs:U ((aO.info? 37).map (·.size)=some C.size):=⟨by rw[<-HC.o];kernel_rfl⟩;obtain⟨W,hW⟩:=aP ((w.alloc (Y T 34)).alloc (Y C 37));obtain⟨r0,r1,hWs,b0⟩:=two hW;have T0:U (W.heap[w.heap.size]? = some (Y T 34 (0,0))):=⟨r0⟩;have L0:U (W.heap[w.heap.size+1]? = some (Y C 37 (0,0))):=⟨r1⟩;have BW:=D b0;have HWs:=D hWs;have HW:=D hW;have HSm:=D HS;have HTz:=D hT;have Hk:=D hk;have Hl:=D hl;have Hsd:=D hsd;clear hW r0 r1 b0 h HS hT hk hl hsd hWs;go_enter Tryz.func33,Tryz.ntmps33;go_wp2_with (first
  | (rw[HW.o])
  | (refine iL rfl 37 _ rfl (w.heap.size+1) rfl 37 _ (0,0) _ L0.o zZ rfl HCs.o ?_))
 refine(HR.o _).mono ?_;rintro x u1 ⟨rfl,hb1⟩;have B1:U (zb w u1):=⟨BW.o.trans (hb1.mono (by rw[HWs.o];omega))⟩;have T1:U (u1.heap[w.heap.size]? = some (Y T 34 (0,0))):=⟨(hb1.block _ (by rw[HWs.o];omega)).trans T0.o⟩;have L1:U (u1.heap[w.heap.size+1]? = some (Y C 37 (0,0))):=⟨(hb1.block _ (by rw[HWs.o];omega)).trans L0.o⟩;have HcK:U (∀ w1:G,zb u1 w1->w1.cell? ⟨w.heap.size+1,0,none⟩=some (O J (kn:Int))):=⟨fun w1 hb=>aZ ((hb.block _ (bI L1.o)).trans L1.o) (by rw[<-HC.o];rfl)⟩;have HcL:U (∀ w1:G,zb u1 w1->w1.cell? ⟨w.heap.size+1,1,none⟩=some (O J (ln:Int))):=⟨fun w1 hb=>aZ ((hb.block _ (bI L1.o)).trans L1.o) (by rw[<-HC.o];rfl)⟩;have hln8:ln<=8:=Hl.o.2;have hkn8:kn<=8:=Hk.o.2;have cK1:=HcK.o u1 (iR _ _);clear hb1;go_wp2_with (at_make;refine lY _ rfl (.tmp 14) (.tmp 14) 74 rfl u1.heap.size 44 j0 (aB none 0 0) 1 Tryz.underlying74 HJ.o.1 HJ.o.2.1 HJ.o.2.2.1 J J kn kn kn rfl rfl rfl rfl (by rw[HJ.o.2.2.2];omega) (by unfold maxLen;omega) (iM _) ?_);intro w3 hown hgr;obtain⟨hrow,hb3⟩:=xvr hown hgr;obtain⟨gm,hgm⟩:=aP u1.heap.size;rw[hgm]at hrow;have B3:U (zb u1 w3):=⟨hb3⟩;have Hgm:U (u1.heap.size=gm):=⟨hgm⟩;have O3:U (∃ vs,vs.length=0/\w3.heap[gm]? = some (Y (OU vs (kn-0)) 44 (0,0))/\dO w3 gm (some gm) vs ln q):=⟨[],rfl,hrow,xq4 _ _ _ _ _⟩;rw[hgm];clear hown hgr hrow hb3 cK1 hgm;go_wp2_with fail;go_loopw [18] (fun v wr=>∃ r:Nat,r<=kn/\v=O J (r:Int)/\U (∃ vs,vs.length=r/\wr.heap[gm]? = some (Y (OU vs (kn-r)) 44 (0,0))/\dO wr gm (some gm) vs ln q)/\U (zb u1 wr)) (fun v _=>kn-(aG v).toNat)
 case atStart=>exact⟨0,iX _,rfl,O3,B3⟩
 case round=>
  clear O3;obtain⟨r,hr,rfl,HO,Hb⟩:=hrel;rename G=>wo
  by_cases hlt:r<kn
  ·have hltz:(r:Int)<(kn:Int):=by omega
   have hr8:r<8:=by omega
   obtain⟨vs,hvl,hov,hrv⟩:=HO.o;have hgl:gm<wo.heap.size:=bI hov;have cL1:=HcL.o wo Hb.o;have Hov:=D hov;have Hrv:=D hrv;have Hvl:=D hvl;clear hov hrv hvl HO;go_wp2_with (at_make;refine lY _ rfl (.tmp 24) (.tmp 24) 44 rfl wo.heap.size 76 i0 (I z) 256 Tryz.underlying44 HI.o.1 HI.o.2.1 HI.o.2.2.1 J J ln ln ln rfl rfl rfl rfl (by rw[HI.o.2.2.2];omega) (by unfold maxLen;omega) (iM _) ?_);intro w5 hown hgr;obtain⟨hrow,hb5⟩:=xbn HZ.o hown hgr;obtain⟨gr,hgr2⟩:=aP wo.heap.size;rw[hgr2]at hrow hgl ⊢;have Hgr:U (wo.heap.size=gr):=⟨hgr2⟩;have A5:U (At gm (OU vs (kn-r)) 44 w5 w5):=⟨At.refl ((hb5.block _ (by rw[hgr2];exact hgl)).trans Hov.o)⟩;have R5:U (w5.heap[gr]? = some (Y (RW ln fun _ _=>0) 76 (0,0))):=⟨hrow⟩;have HB5:U (zb wo w5):=⟨hb5⟩;have Hset:U ((OU vs (kn-r)).setIfInBounds r (aB (some ⟨gr,0,none⟩) ln ln)=OU (vs ++ [aB (some ⟨gr,0,none⟩) ln ln]) (kn-(r+1))):=⟨by
    have:=ou_set vs (kn-(r+1)) (aB (some ⟨gr,0,none⟩) ln ln);rw[Hvl.o,show kn-(r+1)+1=kn-r by omega]at this;exact this⟩
   have Hin:U (r<(OU vs (kn-r)).size):=⟨by rw[xp5,Hvl.o];omega⟩;clear hown hgr hrow hb5 hgr2 cL1;go_wp2_with ((with_reducible refine xhy A5 rfl _ _ _ rfl r (aB (some ⟨gr,0,none⟩) ln ln) rfl rfl ?hz rfl Hin.o rfl ?_);(case hz=>kernel_rfl);intro wn A6;rw[Hset.o]at A6;have hcr:wn.cell? ⟨gm,r,none⟩=some (aB (some ⟨gr,0,none⟩) ln ln):=by rw[A6.o.cell,<-Hvl.o];exact xp4 _ _ _);have R6:U (wn.heap[gr]? = some (Y (RW ln fun _ _=>0) 76 (0,0))):=⟨A6.o.other (bI R5.o) (by omega) R5.o⟩;have Hbl:U (∀ g,g<wo.heap.size->g≠gm->wn.heap[g]? = wo.heap[g]?):=⟨fun g h1 h2=>(A6.o.block g (iZ h1 HB5.o.size) h2).trans (HB5.o.block g h1)⟩;have BN:U (zb u1 wn):=⟨Hb.o.trans ((HB5.o.mono Hb.o.size).trans (A6.o.below (jJ Hb.o.size HB5.o.size) (mS Hgm.o)))⟩;have Rm:U (wn.heap[gm]? = some (Y (OU (vs ++ [aB (some ⟨gr,0,none⟩) ln ln]) (kn-(r+1))) 44 (0,0))):=⟨A6.o.row⟩;have Hws:U (wo.heap.size<=wn.heap.size):=⟨jJ HB5.o.size A6.o.size⟩;have A7:U (At gr (RW ln (fst (q r) 0)) 76 wn wn):=⟨by rw[xbl];exact At.refl R6.o⟩;have Hgu:U (u1.heap.size<=gr):=⟨by have:=Hb.o.size;rw[Hgr.o]at this;exact this⟩;clear A5 A6 R5 R6 Hset Hin HB5 hcr;go_loopw [32] (fun v wr=>∃ c:Nat,c<=ln/\v=O J (c:Int)/\U (At gr (RW ln (fst (q r) c)) 76 wn wr)) (fun v _=>ln-(aG v).toNat)
   case atStart=>exact⟨0,iX _,rfl,A7⟩
   case round=>
    clear A7;obtain⟨c,hc,rfl,A0⟩:=hrel;have BU:U (zb u1 wr):=⟨BN.o.trans (A0.o.below BN.o.size Hgu.o)⟩;have BE:=bK B1 BU.o;by_cases hclt:c<ln
    ·have hcz:(c:Int)<(ln:Int):=by omega
     have hc8:c<8:=by omega
     have T2:U (wr.heap[w.heap.size]? = some (Y T 34 (0,0))):=⟨(BU.o.block _ (bI T1.o)).trans T1.o⟩;have HPr:U (∀ w1:G,aD aO 84 #[O J (c:Int),O J (r:Int)] w1 (zB w1 (E (x2 c r)))):=⟨fun w1=>xd8 c r (by omega) (by omega) w1⟩;have HSr:U (∀ w1:G,zb w w1->aD aO 83 #[I T,E (sd++x2 c r)] w1 (zB w1 (I (FL J 256 (q r c))))):=⟨fun w1 hb=>HSm.o r c hr8 hc8 w1 hb⟩;have Rw:U (wr.heap[gm]? = some (Y (OU (vs ++ [aB (some ⟨gr,0,none⟩) ln ln]) (kn-(r+1))) 44 (0,0))):=⟨A0.o.other (bI Rm.o) (by omega) Rm.o⟩;have cr2:∀ d os,(Go.Sort.grow (redrawn wr d) os).cell? ⟨gm,r,none⟩=some (aB (some ⟨gr,0,none⟩) ln ln):=fun d os=>aZ (((jX wr d os).block _ (bI Rw.o)).trans Rw.o) (by rw[<-Hvl.o];exact xp4 _ _ _)
     obtain⟨X,HX⟩:=aQ (x2 c r);rw[HX.o]at HPr HSr;have hXs:X.size=2:=by rw[<-HX.o];rfl
     have hsz:(9223372036854775807<sd.size+2)=False:=by have:=Hsd.o;simp;omega
     obtain⟨F,HF⟩:=aQ (FL J 256 (q r c));rw[HF.o]at HSr;obtain⟨o6,ho6⟩:=aP (c*256);have Ho6:=D ho6;have Hclt:=D hclt;have Hup:U (ups (fst (q r) c) c (q r c)=fst (q r) (c+1)):=⟨xbq (q r) c⟩;clear HX;go_wp2_with fail;refine eQ.xb8 12 (by kernel_rfl) (by kernel_rfl) ?_;iterate 5 (quiet_step (skip))
     refine xa2 rfl 34 _ rfl _ rfl 34 _ _ (fun w' hC=>gM T2.o hC) zY rfl HTz.o ?_;iterate 3 (quiet_step (skip))
     quiet_step (exact jI (HPr.o _));quiet_step (skip);quiet_step (exact jI (HSr.o _ (BE.o.trans ((jX _ _ _).mono BE.o.size))));refine kY ?_;intro w8 hC;have hbn:zb wr w8:=by
      obtain⟨pp,rfl⟩:=hC;exact jX _ _ _
     have A8:U (At gr (RW ln (fst (q r) c)) 76 wn w8):=⟨A0.o.later hbn⟩;clear hC hbn A0 hXs hsz HPr HSr cr2;simp only[iW,jK];go_wp2_with ((with_reducible refine xci A8 HF.o Hclt.o Ho6.o rfl _ _ rfl rfl ?hx ?hy ?_);(case hx=>exact rfl);(case hy=>exact rfl);intro w9 A9;rw[Hup.o]at A9);go_roundw
     case rel=>exact⟨c+1,by have:=Hclt.o;omega,by go_num,A9⟩
     case measure=>have:=Hclt.o;simp[aG];omega
    ·obtain rfl:c=ln:=by omega
     have hbl2:∀ g,g<wo.heap.size->g≠gm->wr.heap[g]? = wo.heap[g]? := fun g h1 h2=>(A0.o.block g (iZ h1 Hws.o) (by have:=Hgr.o;omega)).trans (Hbl.o g h1 h2)
     have Rw:wr.heap[gm]? = some (Y (OU (vs ++ [aB (some ⟨gr,0,none⟩) c c]) (kn-(r+1))) 44 (0,0)):=A0.o.other (bI Rm.o) (by omega) Rm.o;have hH:Holds wr wo.heap.size (aB (some ⟨gr,0,none⟩) c c) c (q r):=xbp A0.o.row (mS Hgr.o) (fun i hi=>xbk (q r) c i hi);have hR1:=xx9 Hrv.o (jJ Hws.o A0.o.size) hbl2;have hR2:=dO.snoc (x:=aB (some ⟨gm,0,none⟩) kn kn) (y:=aB (some ⟨gr,0,none⟩) c c) hR1 (by rw[Hvl.o];exact hH) (Nat.le_of_lt (by have:=Hgr.o;omega)) (fun k hk=>by
      have e:gm=k:=by injection hk
      have:=Hgr.o;omega)
     have O8:U (∃ vs,vs.length=r+1/\wr.heap[gm]? = some (Y (OU vs (kn-(r+1))) 44 (0,0))/\dO wr gm (some gm) vs c q):=⟨_,by rw[kK,Hvl.o];rfl,Rw,hR2⟩;clear hbl2 Rw hH hR1 hR2 A0;go_wp2_with fail;go_roundw
     case rel=>exact⟨r+1,by omega,by go_num,O8,BU⟩
     case measure=>simp[aG];omega
  ·obtain rfl:r=kn:=by omega
   obtain⟨vs,hvl,hov,hrv⟩:=HO.o;rw[mW]at hov;have Fx:U (wo.ownsRow w.heap.size 44 1 (aB (some ⟨gm,0,none⟩) r r) r vs):=⟨by omega,kO ⟨gm,r,_,rfl,jJ B1.o.size (mS Hgm.o),hov,iM _,by unfold maxLen;omega,by rw[xp5];omega,by unfold OU;rw[List.replicate_zero,List.append_nil];show vs.take (r*1)=vs;exact lG (by omega)⟩⟩;have Gx:U (dO wo w.heap.size (some gm) vs ln q):=⟨hrv.base (jJ B1.o.size (mS Hgm.o))⟩;clear hov hrv hvl HO;go_wp2_with fail;go_ret;exact⟨⟨_,vs,rfl,Fx.o,Gx.o⟩,B1.o.trans (Hb.o.mono B1.o.size)⟩
end qmat
namespace qsec
open arr mem bD aT aV aY bC bF bS bQ qpair eM cV
section
variable {P:aI} {ops:Array Oper} {Q:Exit->Act->G->Prop} {S:G->Prop}
theorem xop{b:Array Bool}{k1 k2:Nat}{ks:List Nat}{o1 o2:Oper}{rest:List Oper}{a:Act}{w:G}(hw1:aL o1 (yielded ops a.tmps)=true)(hw2:aL o2 (yielded ops a.tmps)=true)(hr:aK .any ops b=[k1,k2])
 (h1:∀ K:Act->G->Prop,(∀ a' w',S w'->HK P ops Q S (b.setIfInBounds k1 true) (o2 :: rest) (k2 :: ks) a' w'->K a' w')->o1.wp P a w K Q)
 (h2:∀ K:Act->G->Prop,(∀ a' w',S w'->HK P ops Q S (b.setIfInBounds k2 true) (o1 :: rest) (k1 :: ks) a' w'->K a' w')->o2.wp P a w K Q):HK P ops Q S b (o1 :: o2 :: rest) (k1 :: k2 :: ks) a w:=fun hl=>by
 simp only[lT,nV]at hl;obtain⟨e1,e2,e3⟩:=hl;refine wpAnyH_all hr (by simp) fun j hj=>?_
 simp only[kT,mK,or_false]at hj;rcases hj with rfl | rfl
 ·unfold Go.wpOp;simp only[e1,hw1,if_true];exact kW (h1 _ fun a' w' hs hh=>⟨hs,hh (by simp only[lT,e2,e3])⟩)
 ·unfold Go.wpOp;simp only[e2,hw2,if_true];exact kW (h2 _ fun a' w' hs hh=>⟨hs,hh (by simp only[lT,e1,e3])⟩)
theorem xoo{b:Array Bool}{k1 k2:Nat}{ks:List Nat}{o1 o2:Oper}{rest:List Oper}{a:Act}{w:G}(h:HK P ops Q S b (o2 :: o1 :: rest) (k2 :: k1 :: ks) a w):HK P ops Q S b (o1 :: o2 :: rest) (k1 :: k2 :: ks) a w:=fun hl=>by
 simp only[lT,nV]at hl;exact h (by simp only[lT,hl.1,hl.2.1,hl.2.2])
end
theorem xyp{T:Array aE}(kn ln:Nat)(e t a b o s:Int)(sd:ByteArray)(q:Nat->Nat->Int)(w:G)(hT:(aO.info? 34).map (·.size)=some T.size)(hk : 1<=kn/\kn<=8)(hl : 1<=ln/\ln<=8)(h:bP (kn:Int) (ln:Int) e t a b o s=true)(hsd:sd.size<=1125899906842624)
 (HS:∀ r:Nat,r<16->∀ w1:G,zb w w1->aD aO 114 #[I T,E (tw sd r 0),O J e] w1 (zB w1 (I (FL J 256 (q r))))):
 aD aO 63 #[I T,I (bO (kn:Int) (ln:Int) e t a b o s),E sd] w fun x w'=>(∃ v1 v2,x=.returned (.tuple #[v1,v2])/\Holds w' w.heap.size v1 ln q/\Holds w' w.heap.size v2 kn (fun i=>q (ln+i)))/\zb w w':=by
 have HR:U (∀ w1:G,aD aO 49 #[I (bO (kn:Int) (ln:Int) e t a b o s)] w1 (zB w1 (.bool true))):=⟨fun w1=>by rw[<-h];exact eF.xbo _ _ e t a b o s w1⟩;obtain⟨i0,hi,hz0,hz1,hz2⟩:=parts bX;obtain⟨hz,hsize⟩:=iY aV.aX;obtain⟨z,HZ⟩:=aQ (FL J 256 fun _=>0);rw[HZ.o]at hz hz0;have HI:=D (jA hi (jA hz0 (jA hz1 hz2)));have hbytes:i0.bytes=2048:=hz2;clear hi hz0 hz1 hz2 hsize;obtain⟨C,HC⟩:=aQ ((bO (kn:Int) (ln:Int) e t a b o s):Array aE);rw[HC.o]at HR ⊢;have HCs:U ((aO.info? 37).map (·.size)=some C.size):=⟨by rw[<-HC.o];kernel_rfl⟩;obtain⟨W,hW⟩:=aP ((w.alloc (Y T 34)).alloc (Y C 37));obtain⟨r0,r1,hWs,b0⟩:=two hW;have T0:U (W.heap[w.heap.size]? = some (Y T 34 (0,0))):=⟨r0⟩;have L0:U (W.heap[w.heap.size+1]? = some (Y C 37 (0,0))):=⟨r1⟩;have BW:=D b0;have HWs:=D hWs;have HW:=D hW;have HSm:=D HS;have HTz:=D hT;have Hk:=D hk;have Hl:=D hl;have Hsd:=D hsd;clear hW r0 r1 b0 h HS hT hk hl hsd hWs;go_enter Tryz.func63,Tryz.ntmps63;go_wp2_with (first
  | (rw[HW.o])
  | (refine iL rfl 37 _ rfl (w.heap.size+1) rfl 37 _ (0,0) _ L0.o zZ rfl HCs.o ?_))
 refine(HR.o _).mono ?_;rintro x u1 ⟨rfl,hb1⟩;have B1:U (zb w u1):=⟨BW.o.trans (hb1.mono (by rw[HWs.o];omega))⟩;have T1:U (u1.heap[w.heap.size]? = some (Y T 34 (0,0))):=⟨(hb1.block _ (by rw[HWs.o];omega)).trans T0.o⟩;have L1:U (u1.heap[w.heap.size+1]? = some (Y C 37 (0,0))):=⟨(hb1.block _ (by rw[HWs.o];omega)).trans L0.o⟩;have HcK:U (∀ w1:G,zb u1 w1->w1.cell? ⟨w.heap.size+1,0,none⟩=some (O J (kn:Int))):=⟨fun w1 hb=>aZ ((hb.block _ (bI L1.o)).trans L1.o) (by rw[<-HC.o];rfl)⟩;have HcL:U (∀ w1:G,zb u1 w1->w1.cell? ⟨w.heap.size+1,1,none⟩=some (O J (ln:Int))):=⟨fun w1 hb=>aZ ((hb.block _ (bI L1.o)).trans L1.o) (by rw[<-HC.o];rfl)⟩;have HcE:U (∀ w1:G,zb u1 w1->w1.cell? ⟨w.heap.size+1,2,none⟩=some (O J e)):=⟨fun w1 hb=>aZ ((hb.block _ (bI L1.o)).trans L1.o) (by rw[<-HC.o];rfl)⟩;have hln8:ln<=8:=Hl.o.2;have hkn8:kn<=8:=Hk.o.2;clear hb1;go_wp2_with fail;obtain⟨B0,hB0⟩:=aP u1.heap.size;refine xa4 B0 8 [0,1,3,4,2,5,6,7] (by kernel_rfl) rfl rfl (by decide) (fun hS ops HO=>?_);simp only[jT,mI,jF,jL];refine zV hS ?_;(focus (refine aR.fY (v:=?_) (by rw[<-HO.o];kernel_rfl) (fun _ _ _ h=>h) ?_ hS ?_;rotate_left;focus (intro w9 h9;have hc:=HcL.o w9 (by unfold zb;rw[hB0];exact h9);go_simp;first | done | with_reducible rfl);all_goals skip))
 simp only[aM,aR.pa,aR.pb,aR.pc];refine zV hS ?_;(focus (refine aR.fY (v:=?_) (by rw[<-HO.o];kernel_rfl) (fun _ _ _ h=>h) ?_ hS ?_;rotate_left;focus (intro w9 h9;have hc:=HcK.o w9 (by unfold zb;rw[hB0];exact h9);go_simp;first | done | with_reducible rfl);all_goals skip))
 simp only[aM,aR.pa,aR.pb,aR.pc];refine xop (by rw[<-HO.o];kernel_rfl) (by rw[<-HO.o];kernel_rfl) (by rw[<-HO.o];kernel_rfl) (fun K hK=>?_) (fun K hK=>?_)
 ·refine xeh (.tmp 16) (.tmp 16) 44 rfl 76 i0 (I z) 256 Tryz.underlying44 HI.o.1 HI.o.2.1 HI.o.2.2.1 J J ln rfl rfl (by rw[HI.o.2.2.2];omega) (by unfold maxLen;omega) ?_;intro w3 hown hgr;obtain⟨hrow,hb3⟩:=xbn HZ.o hown hgr;have h3:zb u1 w3:=(iR _ _).drew.trans hb3;refine hK _ _ (by rw[<-hB0];exact h3) ?_;clear hK K;obtain⟨ga,hga⟩:=aP u1.heap.size;have R1:w3.heap[ga]? = some (Y (RW ln fun _ _=>0) 76 (0,0)):=by rw[<-hga];exact hrow
  have l1:ga<w3.heap.size:=bI R1;show HK _ _ _ _ _ _ _ (aM _ _ (aB (some ⟨u1.heap.size,0,none⟩) ln ln)) _;rw[hga];simp only[aM,aR.pa,aR.pb,aR.pc];refine xoo ?_;(focus (refine aR.fY (v:=?_) (by rw[<-HO.o];kernel_rfl) (fun _ _ _ h=>h) ?_ (by rw[<-hB0];exact h3) ?_;rotate_left;focus (intro w9 h9;go_simp;first | done | with_reducible rfl);all_goals skip))
  simp only[aM,aR.pa,aR.pb,aR.pc];refine zS fun K hK=>?_
  refine xeh (.tmp 19) (.tmp 19) 44 rfl 76 i0 (I z) 256 Tryz.underlying44 HI.o.1 HI.o.2.1 HI.o.2.2.1 J J kn rfl rfl (by rw[HI.o.2.2.2];omega) (by unfold maxLen;omega) ?_;intro w4 hown2 hgr2;obtain⟨hrow2,hb4⟩:=xbn HZ.o hown2 hgr2;have h4:=zbm h3 hb4;have h5:aF B0 u1 w4:=by rw[<-hB0];exact h4
  refine hK _ _ h5 ?_;clear hK K;obtain⟨gb,hgb⟩:=aP w3.heap.size;have R2:w4.heap[gb]? = some (Y (RW kn fun _ _=>0) 76 (0,0)):=by rw[<-hgb];exact hrow2
  have R3:w4.heap[ga]? = some (Y (RW ln fun _ _=>0) 76 (0,0)):=(hb4.block _ l1).trans R1;rw[hgb];simp only[aM,aR.pa,aR.pb,aR.pc];refine zV h5 ?_;refine zN ?_;have G1:U (w4.heap[ga]? = some (Y (RW ln fun _ _=>0) 76 (0,0))):=⟨R3⟩;have G2:U (w4.heap[gb]? = some (Y (RW kn fun _ _=>0) 76 (0,0))):=⟨R2⟩;have Hg:U (ga≠gb/\u1.heap.size<=ga/\u1.heap.size<=gb):=⟨by have:=h3.size;refine⟨?_,?_,?_⟩<;>omega⟩;have B4:=D h4;clear hown hgr hrow hb3 h3 hown2 hgr2 hrow2 hb4 h4 R1 R2 R3 l1 HO hS h5 hB0 hga hgb;go_wp2_with fail;have Aga:U (At ga (RW ln (fst q 0)) 76 w4 w4):=⟨by rw[xbl];exact At.refl G1.o⟩;have BXga:=B4;go_loopw [23] (fun v wr=>∃ r:Nat,r<=ln/\v=O J (r:Int)/\U (At ga (RW ln (fst q r)) 76 w4 wr)) (fun v _=>ln-(aG v).toNat)
  case atStart=>exact⟨0,iX _,rfl,Aga⟩
  case round=>
   clear Aga;obtain⟨r,hr,rfl,A0⟩:=hrel;have BU:U (zb u1 wr):=⟨BXga.o.trans (A0.o.below BXga.o.size Hg.o.2.1)⟩;have BE:=bK B1 BU.o;by_cases hlt:r<ln
   ·have hltz:(r:Int)<(ln:Int):=by omega
    have hr16:r<16:=by have:=Hk.o;have:=Hl.o;omega
    have T2:U (wr.heap[w.heap.size]? = some (Y T 34 (0,0))):=⟨(BU.o.block _ (bI T1.o)).trans T1.o⟩;have HPr:U (∀ w1:G,aD aO 84 #[O J (r:Int),O J 0] w1 (zB w1 (E (x2 r 0)))):=⟨fun w1=>xd8 r 0 (by omega) (by omega) w1⟩;have HSr:U (∀ w1:G,zb w w1->aD aO 114 #[I T,E (sd++x2 r 0),O J e] w1 (zB w1 (I (FL J 256 (q r))))):=⟨fun w1 hb=>by
     have:=HSm.o r hr16 w1 hb;first | exact this | (rw[hM];exact this)⟩
    have cE2:∀ d os,(Go.Sort.grow (redrawn wr d) os).cell? ⟨w.heap.size+1,2,none⟩=some (O J e):=fun d os=>HcE.o _ (BU.o.trans ((jX _ _ _).mono BU.o.size))
    obtain⟨X,HX⟩:=aQ (x2 r 0);rw[HX.o]at HPr HSr;have hXs:X.size=2:=by rw[<-HX.o];rfl
    have hsz:(9223372036854775807<sd.size+2)=False:=by have:=Hsd.o;simp;omega
    obtain⟨F,HF⟩:=aQ (FL J 256 (q r));rw[HF.o]at HSr;obtain⟨o6,ho6⟩:=aP (r*256);have Ho6:=D ho6;have Hlt:=D hlt;have Hup:U (ups (fst q r) r (q r)=fst q (r+1)):=⟨xbq q r⟩;clear HX;go_wp2_with fail;refine eQ.xb8 10 (by kernel_rfl) (by kernel_rfl) ?_;iterate 2 (quiet_step (skip))
    refine xa2 rfl 34 _ rfl _ rfl 34 _ _ (fun w' hC=>gM T2.o hC) zY rfl HTz.o ?_;iterate 2 (quiet_step (skip))
    quiet_step (exact jI (HPr.o _));iterate 3 (quiet_step (skip))
    quiet_step (exact jI (HSr.o _ (BE.o.trans ((jX _ _ _).mono BE.o.size))));refine kY ?_;intro wn hC;have hbn:zb wr wn:=by
     obtain⟨pp,rfl⟩:=hC;exact jX _ _ _
    have A6:U (At ga (RW ln (fst q r)) 76 w4 wn):=⟨A0.o.later hbn⟩;clear hC hbn A0 hXs hsz HPr HSr cE2;simp only[iW,jK];go_wp2_with ((with_reducible refine xci A6 HF.o Hlt.o Ho6.o rfl _ _ rfl rfl ?hx ?hy ?_);(case hx=>exact rfl);(case hy=>exact rfl);intro w7 A7;rw[Hup.o]at A7);go_roundw
    case rel=>exact⟨r+1,by have:=Hlt.o;omega,by go_num,A7⟩
    case measure=>have:=Hlt.o;simp[aG];omega
   ·obtain rfl:r=ln:=by omega
    rename G=>wo
    have F1:U (wo.heap[ga]? = some (Y (RW r (fst q r)) 76 (0,0))):=⟨A0.o.row⟩;have Agb:U (At gb (RW kn (fst (fun i=>q (r+i)) 0)) 76 wo wo):=⟨by rw[xbl];exact At.refl (A0.o.other (bI G2.o) (Ne.symm Hg.o.1) G2.o)⟩;have BXgb:=BU;clear A0 G1 G2;go_wp2_with fail;go_loopw [40] (fun v wr=>∃ r2:Nat,r2<=kn/\v=O J (r2:Int)/\U (At gb (RW kn (fst (fun i=>q (r+i)) r2)) 76 wo wr)) (fun v _=>kn-(aG v).toNat)
    case atStart=>exact⟨0,iX _,rfl,Agb⟩
    case round=>
     clear Agb;obtain⟨r2,hr,rfl,A0⟩:=hrel;have BU:U (zb u1 wr):=⟨BXgb.o.trans (A0.o.below BXgb.o.size Hg.o.2.2)⟩;have BE:=bK B1 BU.o;by_cases hlt:r2<kn
     ·have hltz:(r2:Int)<(kn:Int):=by omega
      have hr16:(r+r2)<16:=by have:=Hk.o;have:=Hl.o;omega
      obtain⟨M,hM⟩:=aP (r+r2);have fM:J.wrap ((r:Int)+(r2:Int))=(M:Int):=bB;have cL2:∀ d os,(Go.Sort.grow (redrawn wr d) os).cell? ⟨w.heap.size+1,1,none⟩=some (O J (r:Int)):=fun d os=>HcL.o _ (BU.o.trans ((jX _ _ _).mono BU.o.size))
      have T2:U (wr.heap[w.heap.size]? = some (Y T 34 (0,0))):=⟨(BU.o.block _ (bI T1.o)).trans T1.o⟩;have HPr:U (∀ w1:G,aD aO 84 #[O J (M:Int),O J 0] w1 (zB w1 (E (x2 M 0)))):=⟨fun w1=>xd8 M 0 (by omega) (by omega) w1⟩;have HSr:U (∀ w1:G,zb w w1->aD aO 114 #[I T,E (sd++x2 M 0),O J e] w1 (zB w1 (I (FL J 256 (q (r+r2)))))):=⟨fun w1 hb=>by
       have:=HSm.o (r+r2) hr16 w1 hb;rw[hM]at this;first | exact this | (rw[hM];exact this)⟩
      have cE2:∀ d os,(Go.Sort.grow (redrawn wr d) os).cell? ⟨w.heap.size+1,2,none⟩=some (O J e):=fun d os=>HcE.o _ (BU.o.trans ((jX _ _ _).mono BU.o.size))
      obtain⟨X,HX⟩:=aQ (x2 M 0);rw[HX.o]at HPr HSr;have hXs:X.size=2:=by rw[<-HX.o];rfl
      have hsz:(9223372036854775807<sd.size+2)=False:=by have:=Hsd.o;simp;omega
      obtain⟨F,HF⟩:=aQ (FL J 256 (q (r+r2)));rw[HF.o]at HSr;obtain⟨o6,ho6⟩:=aP (r2*256);have Ho6:=D ho6;have Hlt:=D hlt;have Hup:U (ups (fst (fun i=>q (r+i)) r2) r2 (q (r+r2))=fst (fun i=>q (r+i)) (r2+1)):=⟨xbq (fun i=>q (r+i)) r2⟩;clear HX;go_wp2_with fail;refine eQ.xb8 13 (by kernel_rfl) (by kernel_rfl) ?_;iterate 2 (quiet_step (skip))
      refine xa2 rfl 34 _ rfl _ rfl 34 _ _ (fun w' hC=>gM T2.o hC) zY rfl HTz.o ?_;iterate 5 (quiet_step (skip))
      quiet_step (exact jI (HPr.o _));iterate 3 (quiet_step (skip))
      quiet_step (exact jI (HSr.o _ (BE.o.trans ((jX _ _ _).mono BE.o.size))));refine kY ?_;intro wn hC;have hbn:zb wr wn:=by
       obtain⟨pp,rfl⟩:=hC;exact jX _ _ _
      have A6:U (At gb (RW kn (fst (fun i=>q (r+i)) r2)) 76 wo wn):=⟨A0.o.later hbn⟩;clear hC hbn A0 hXs hsz HPr HSr cE2 fM cL2 hM;simp only[iW,jK];go_wp2_with ((with_reducible refine xci A6 HF.o Hlt.o Ho6.o rfl _ _ rfl rfl ?hx ?hy ?_);(case hx=>exact rfl);(case hy=>exact rfl);intro w7 A7;rw[Hup.o]at A7);go_roundw
      case rel=>exact⟨r2+1,by have:=Hlt.o;omega,by go_num,A7⟩
      case measure=>have:=Hlt.o;simp[aG];omega
     ·obtain rfl:r2=kn:=by omega
      have H1:U (Holds wr w.heap.size (aB (some ⟨ga,0,none⟩) r r) r q):=⟨xbp (A0.o.other (bI F1.o) Hg.o.1 F1.o) (jJ B1.o.size Hg.o.2.1) (fun i hi=>xbk q r i hi)⟩;have H2:U (Holds wr w.heap.size (aB (some ⟨gb,0,none⟩) r2 r2) r2 (fun i=>q (r+i))):=⟨xbp A0.o.row (jJ B1.o.size Hg.o.2.2) (fun i hi=>xbk (fun i=>q (r+i)) r2 i hi)⟩;clear A0 F1;go_wp2_with fail;go_ret2;exact⟨⟨_,_,rfl,H1.o,H2.o⟩,BE.o⟩
 ·refine xeh (.tmp 19) (.tmp 19) 44 rfl 76 i0 (I z) 256 Tryz.underlying44 HI.o.1 HI.o.2.1 HI.o.2.2.1 J J kn rfl rfl (by rw[HI.o.2.2.2];omega) (by unfold maxLen;omega) ?_;intro w3 hown hgr;obtain⟨hrow,hb3⟩:=xbn HZ.o hown hgr;have h3:zb u1 w3:=(iR _ _).drew.trans hb3;refine hK _ _ (by rw[<-hB0];exact h3) ?_;clear hK K;obtain⟨gb,hgb⟩:=aP u1.heap.size;have R1:w3.heap[gb]? = some (Y (RW kn fun _ _=>0) 76 (0,0)):=by rw[<-hgb];exact hrow
  have l1:gb<w3.heap.size:=bI R1;show HK _ _ _ _ _ _ _ (aM _ _ (aB (some ⟨u1.heap.size,0,none⟩) kn kn)) _;rw[hgb];simp only[aM,aR.pa,aR.pb,aR.pc];refine zS fun K hK=>?_
  refine xeh (.tmp 16) (.tmp 16) 44 rfl 76 i0 (I z) 256 Tryz.underlying44 HI.o.1 HI.o.2.1 HI.o.2.2.1 J J ln rfl rfl (by rw[HI.o.2.2.2];omega) (by unfold maxLen;omega) ?_;intro w4 hown2 hgr2;obtain⟨hrow2,hb4⟩:=xbn HZ.o hown2 hgr2;have h4:=zbm h3 hb4;have h5:aF B0 u1 w4:=by rw[<-hB0];exact h4
  refine hK _ _ h5 ?_;clear hK K;obtain⟨ga,hga⟩:=aP w3.heap.size;have R2:w4.heap[ga]? = some (Y (RW ln fun _ _=>0) 76 (0,0)):=by rw[<-hga];exact hrow2
  have R3:w4.heap[gb]? = some (Y (RW kn fun _ _=>0) 76 (0,0)):=(hb4.block _ l1).trans R1;rw[hga];simp only[aM,aR.pa,aR.pb,aR.pc];iterate 2 (refine zV h5 ?_)
  refine zN ?_;have G1:U (w4.heap[ga]? = some (Y (RW ln fun _ _=>0) 76 (0,0))):=⟨R2⟩;have G2:U (w4.heap[gb]? = some (Y (RW kn fun _ _=>0) 76 (0,0))):=⟨R3⟩;have Hg:U (ga≠gb/\u1.heap.size<=ga/\u1.heap.size<=gb):=⟨by have:=h3.size;refine⟨?_,?_,?_⟩<;>omega⟩;have B4:=D h4;clear hown hgr hrow hb3 h3 hown2 hgr2 hrow2 hb4 h4 R1 R2 R3 l1 HO hS h5 hB0 hgb hga;go_wp2_with fail;have Aga:U (At ga (RW ln (fst q 0)) 76 w4 w4):=⟨by rw[xbl];exact At.refl G1.o⟩;have BXga:=B4;go_loopw [23] (fun v wr=>∃ r:Nat,r<=ln/\v=O J (r:Int)/\U (At ga (RW ln (fst q r)) 76 w4 wr)) (fun v _=>ln-(aG v).toNat)
  case atStart=>exact⟨0,iX _,rfl,Aga⟩
  case round=>
   clear Aga;obtain⟨r,hr,rfl,A0⟩:=hrel;have BU:U (zb u1 wr):=⟨BXga.o.trans (A0.o.below BXga.o.size Hg.o.2.1)⟩;have BE:=bK B1 BU.o;by_cases hlt:r<ln
   ·have hltz:(r:Int)<(ln:Int):=by omega
    have hr16:r<16:=by have:=Hk.o;have:=Hl.o;omega
    have T2:U (wr.heap[w.heap.size]? = some (Y T 34 (0,0))):=⟨(BU.o.block _ (bI T1.o)).trans T1.o⟩;have HPr:U (∀ w1:G,aD aO 84 #[O J (r:Int),O J 0] w1 (zB w1 (E (x2 r 0)))):=⟨fun w1=>xd8 r 0 (by omega) (by omega) w1⟩;have HSr:U (∀ w1:G,zb w w1->aD aO 114 #[I T,E (sd++x2 r 0),O J e] w1 (zB w1 (I (FL J 256 (q r))))):=⟨fun w1 hb=>by
     have:=HSm.o r hr16 w1 hb;first | exact this | (rw[hM];exact this)⟩
    have cE2:∀ d os,(Go.Sort.grow (redrawn wr d) os).cell? ⟨w.heap.size+1,2,none⟩=some (O J e):=fun d os=>HcE.o _ (BU.o.trans ((jX _ _ _).mono BU.o.size))
    obtain⟨X,HX⟩:=aQ (x2 r 0);rw[HX.o]at HPr HSr;have hXs:X.size=2:=by rw[<-HX.o];rfl
    have hsz:(9223372036854775807<sd.size+2)=False:=by have:=Hsd.o;simp;omega
    obtain⟨F,HF⟩:=aQ (FL J 256 (q r));rw[HF.o]at HSr;obtain⟨o6,ho6⟩:=aP (r*256);have Ho6:=D ho6;have Hlt:=D hlt;have Hup:U (ups (fst q r) r (q r)=fst q (r+1)):=⟨xbq q r⟩;clear HX;go_wp2_with fail;refine eQ.xb8 10 (by kernel_rfl) (by kernel_rfl) ?_;iterate 2 (quiet_step (skip))
    refine xa2 rfl 34 _ rfl _ rfl 34 _ _ (fun w' hC=>gM T2.o hC) zY rfl HTz.o ?_;iterate 2 (quiet_step (skip))
    quiet_step (exact jI (HPr.o _));iterate 3 (quiet_step (skip))
    quiet_step (exact jI (HSr.o _ (BE.o.trans ((jX _ _ _).mono BE.o.size))));refine kY ?_;intro wn hC;have hbn:zb wr wn:=by
     obtain⟨pp,rfl⟩:=hC;exact jX _ _ _
    have A6:U (At ga (RW ln (fst q r)) 76 w4 wn):=⟨A0.o.later hbn⟩;clear hC hbn A0 hXs hsz HPr HSr cE2;simp only[iW,jK];go_wp2_with ((with_reducible refine xci A6 HF.o Hlt.o Ho6.o rfl _ _ rfl rfl ?hx ?hy ?_);(case hx=>exact rfl);(case hy=>exact rfl);intro w7 A7;rw[Hup.o]at A7);go_roundw
    case rel=>exact⟨r+1,by have:=Hlt.o;omega,by go_num,A7⟩
    case measure=>have:=Hlt.o;simp[aG];omega
   ·obtain rfl:r=ln:=by omega
    rename G=>wo
    have F1:U (wo.heap[ga]? = some (Y (RW r (fst q r)) 76 (0,0))):=⟨A0.o.row⟩;have Agb:U (At gb (RW kn (fst (fun i=>q (r+i)) 0)) 76 wo wo):=⟨by rw[xbl];exact At.refl (A0.o.other (bI G2.o) (Ne.symm Hg.o.1) G2.o)⟩;have BXgb:=BU;clear A0 G1 G2;go_wp2_with fail;go_loopw [40] (fun v wr=>∃ r2:Nat,r2<=kn/\v=O J (r2:Int)/\U (At gb (RW kn (fst (fun i=>q (r+i)) r2)) 76 wo wr)) (fun v _=>kn-(aG v).toNat)
    case atStart=>exact⟨0,iX _,rfl,Agb⟩
    case round=>
     clear Agb;obtain⟨r2,hr,rfl,A0⟩:=hrel;have BU:U (zb u1 wr):=⟨BXgb.o.trans (A0.o.below BXgb.o.size Hg.o.2.2)⟩;have BE:=bK B1 BU.o;by_cases hlt:r2<kn
     ·have hltz:(r2:Int)<(kn:Int):=by omega
      have hr16:(r+r2)<16:=by have:=Hk.o;have:=Hl.o;omega
      obtain⟨M,hM⟩:=aP (r+r2);have fM:J.wrap ((r:Int)+(r2:Int))=(M:Int):=bB;have cL2:∀ d os,(Go.Sort.grow (redrawn wr d) os).cell? ⟨w.heap.size+1,1,none⟩=some (O J (r:Int)):=fun d os=>HcL.o _ (BU.o.trans ((jX _ _ _).mono BU.o.size))
      have T2:U (wr.heap[w.heap.size]? = some (Y T 34 (0,0))):=⟨(BU.o.block _ (bI T1.o)).trans T1.o⟩;have HPr:U (∀ w1:G,aD aO 84 #[O J (M:Int),O J 0] w1 (zB w1 (E (x2 M 0)))):=⟨fun w1=>xd8 M 0 (by omega) (by omega) w1⟩;have HSr:U (∀ w1:G,zb w w1->aD aO 114 #[I T,E (sd++x2 M 0),O J e] w1 (zB w1 (I (FL J 256 (q (r+r2)))))):=⟨fun w1 hb=>by
       have:=HSm.o (r+r2) hr16 w1 hb;rw[hM]at this;first | exact this | (rw[hM];exact this)⟩
      have cE2:∀ d os,(Go.Sort.grow (redrawn wr d) os).cell? ⟨w.heap.size+1,2,none⟩=some (O J e):=fun d os=>HcE.o _ (BU.o.trans ((jX _ _ _).mono BU.o.size))
      obtain⟨X,HX⟩:=aQ (x2 M 0);rw[HX.o]at HPr HSr;have hXs:X.size=2:=by rw[<-HX.o];rfl
      have hsz:(9223372036854775807<sd.size+2)=False:=by have:=Hsd.o;simp;omega
      obtain⟨F,HF⟩:=aQ (FL J 256 (q (r+r2)));rw[HF.o]at HSr;obtain⟨o6,ho6⟩:=aP (r2*256);have Ho6:=D ho6;have Hlt:=D hlt;have Hup:U (ups (fst (fun i=>q (r+i)) r2) r2 (q (r+r2))=fst (fun i=>q (r+i)) (r2+1)):=⟨xbq (fun i=>q (r+i)) r2⟩;clear HX;go_wp2_with fail;refine eQ.xb8 13 (by kernel_rfl) (by kernel_rfl) ?_;iterate 2 (quiet_step (skip))
      refine xa2 rfl 34 _ rfl _ rfl 34 _ _ (fun w' hC=>gM T2.o hC) zY rfl HTz.o ?_;iterate 5 (quiet_step (skip))
      quiet_step (exact jI (HPr.o _));iterate 3 (quiet_step (skip))
      quiet_step (exact jI (HSr.o _ (BE.o.trans ((jX _ _ _).mono BE.o.size))));refine kY ?_;intro wn hC;have hbn:zb wr wn:=by
       obtain⟨pp,rfl⟩:=hC;exact jX _ _ _
      have A6:U (At gb (RW kn (fst (fun i=>q (r+i)) r2)) 76 wo wn):=⟨A0.o.later hbn⟩;clear hC hbn A0 hXs hsz HPr HSr cE2 fM cL2 hM;simp only[iW,jK];go_wp2_with ((with_reducible refine xci A6 HF.o Hlt.o Ho6.o rfl _ _ rfl rfl ?hx ?hy ?_);(case hx=>exact rfl);(case hy=>exact rfl);intro w7 A7;rw[Hup.o]at A7);go_roundw
      case rel=>exact⟨r2+1,by have:=Hlt.o;omega,by go_num,A7⟩
      case measure=>have:=Hlt.o;simp[aG];omega
     ·obtain rfl:r2=kn:=by omega
      have H1:U (Holds wr w.heap.size (aB (some ⟨ga,0,none⟩) r r) r q):=⟨xbp (A0.o.other (bI F1.o) Hg.o.1 F1.o) (jJ B1.o.size Hg.o.2.1) (fun i hi=>xbk q r i hi)⟩;have H2:U (Holds wr w.heap.size (aB (some ⟨gb,0,none⟩) r2 r2) r2 (fun i=>q (r+i))):=⟨xbp A0.o.row (jJ B1.o.size Hg.o.2.2) (fun i hi=>xbk (fun i=>q (r+i)) r2 i hi)⟩;clear A0 F1;go_wp2_with fail;go_ret2;exact⟨⟨_,_,rfl,H1.o,H2.o⟩,BE.o⟩
end qsec
namespace twor
open arr mem
def mks(l:List Nat)(b:Array Bool):Array Bool:=l.foldl (fun b i=>b.setIfInBounds i true) b
def rdy(ops:Array Oper)(l:List Nat):List Nat:=aK .any ops (mks l (Array.replicate ops.size false))
def twoB(ops:Array Oper):Bool:=
 decide (rdy ops []=[0,1]) && decide (rdy ops [0]=[1,2]) && decide (rdy ops [1]=[0]) && decide (rdy ops [0,1]=[2]) && decide (rdy ops [1,0]=[2]) && decide (rdy ops [0,2]=[1]) &&
 decide (rdy ops [0,1,2]=[3]) && decide (rdy ops [1,0,2]=[3]) && decide (rdy ops [0,2,1]=[3]) && decide (rdy ops [0,1,2,3]=[]) && decide (rdy ops [1,0,2,3]=[]) && decide (rdy ops [0,2,1,3]=[])
structure Ld (o:Oper) (ty:aH) (x d:Nat):Prop where
 op:o.op=.load ty (.tmp x)
 dst:o.dst=some d
 gd:o.guard=none
structure Sr (o:Oper) (ty:aH) (y d:Nat):Prop where
 op:o.op=.store ty (.tmp y) (.tmp d)
 dst:o.dst=none
 gd:o.guard=none
theorem xdi{o:Oper}{y:Nat->Option Bool}{X Yq:Prop}(hg:o.guard=none)(h:X):if aL o y=true then X else Yq:=by
 rw[iP (by unfold aL;rw[hg])];exact h
structure Two (P:aI) (w:G) (ty:aH) (g r:Nat) (A:Array aE):Prop where
 row:∃ t fr,w.heap[g]? = some (Y A t fr)
 res:∃ t Oq,w.heap[r]? = some (Y Oq t (0,0))/\Oq.size=A.size
 un:∃ Dq,P.underlying ty=some Dq/\(match Dq with | .struct _ | .array _ _=>true | _=>false)=true
 info:(P.info? ty).map (·.size)=some A.size
 one:A.all (·.oneCell')=true
theorem Two.set{P:aI}{w:G}{ty:aH}{g r:Nat}{A:Array aE}(h:Two P w ty g r A)(k:Nat)(C:Array aE)(h1:k≠g)(h2:k≠r):Two P (w.setRow k C) ty g r A:=by
 obtain⟨⟨t,fr,a1⟩,⟨t2,Oq,b1,b2⟩,c,d,e⟩:=h;exact⟨⟨t,fr,(lW _ _ _ _ (Ne.symm h1)).trans a1⟩,⟨t2,Oq,(lW _ _ _ _ (Ne.symm h2)).trans b1,b2⟩,c,d,e⟩
theorem Two.load{P:aI}{w:G}{ty:aH}{g r:Nat}{A:Array aE}(h:Two P w ty g r A){o:Oper}{x d:Nat}(ho:Ld o ty x d){a:Act}{K:Act->G->Prop}{Q:Exit->Act->G->Prop}(e:a.eval (.tmp x)=aC (some ⟨g,0,none⟩))(hK:K (a.put (some d) (I A)) w):o.wp P a w K Q:=by
 obtain⟨⟨t,fr,a1⟩,-,⟨Dq,c1,c2⟩,i,-⟩:=h;exact nC ty _ ho.op g e t A fr Dq a1 c1 (by cases Dq<;>first | rfl | exact c2) i (by rw[ho.dst];exact hK)
theorem Two.store{P:aI}{w:G}{ty:aH}{g r:Nat}{A:Array aE}(h:Two P w ty g r A){o:Oper}{y d:Nat}(ho:Sr o ty y d){a:Act}{K:Act->G->Prop}{Q:Exit->Act->G->Prop}(e:a.eval (.tmp y)=aC (some ⟨r,0,none⟩))(e2:a.eval (.tmp d)=I A)(hK:K a (w.setRow r A)):o.wp P a w K Q:=by
 obtain⟨-,⟨t,Oq,b1,b2⟩,-,i,o1⟩:=h;exact wp_store_row ty _ _ ho.op r A e e2 t Oq b1 i b2 o1 (by rw[ho.dst];exact hK)
theorem xxo{P:aI}{id:Nat}{Q:Exit->Act->G->Prop}{a:Act}{w:G}{o0 o1 o2 o3:Oper}(ty0 ty1:aH)(x0 x1 y0 y1 d0 d1:Nat)(hm:P.follows .mixedOrders=true)(hB:twoB #[o0,o1,o2,o3]=true)
 (h0:Ld o0 ty0 x0 d0) (h1:Ld o1 ty1 x1 d1) (h2:Sr o2 ty0 y0 d0) (h3:Sr o3 ty1 y1 d1) (hne:(d0≠x1/\d0≠y0/\d0≠y1/\d0≠d1)/\d1≠y0/\d1≠y1/\d1≠x0) (hd:d0<a.tmps.size/\d1<a.tmps.size)
 (g0 g1 r0 r1:Nat) (A B:Array aE) (e0:a.eval (.tmp x0)=aC (some ⟨g0,0,none⟩)) (e1:a.eval (.tmp x1)=aC (some ⟨g1,0,none⟩)) (f0:a.eval (.tmp y0)=aC (some ⟨r0,0,none⟩)) (f1:a.eval (.tmp y1)=aC (some ⟨r1,0,none⟩))
 (K0:Two P w.drew ty0 g0 r0 A) (K1:Two P w.drew ty1 g1 r1 B) (n1:r0≠g1) (n2:r0≠r1)
 (h:Q .normal ((a.put (some d0) (I A)).put (some d1) (I B)) ((w.drew.setRow r0 A).setRow r1 B)):(Code.region id #[o0,o1,o2,o3] true).wp P Q a w:=by
 simp only[twoB,jQ,kN]at hB;obtain⟨⟨⟨⟨⟨⟨⟨⟨⟨⟨⟨b0,b1⟩,b2⟩,b3⟩,b4⟩,b5⟩,b6⟩,b7⟩,b8⟩,b9⟩,b10⟩,b11⟩:=hB;obtain⟨⟨m1,m2,m3,m4⟩,m5,m6,m7⟩:=hne;have s0:d1<(a.put (some d0) (I A)).tmps.size:=by show d1<(a.tmps.setIfInBounds d0 _).size;rw[nD];exact hd.2
 have s1:d0<(a.put (some d1) (I B)).tmps.size:=by show d0<(a.tmps.setIfInBounds d1 _).size;rw[nD];exact hd.1
 obtain⟨p,hp⟩:=aP ((a.put (some d0) (I A)).put (some d1) (I B));have hp':(a.put (some d1) (I B)).put (some d0) (I A)=p:=by rw[<-hp];exact Act.put_comm a _ _ (fun d hd1 hd2=>m4 (by injection hd1 with hd1;injection hd2 with hd2;omega))
 have ev:∀ t,d0≠t->d1≠t->p.eval (.tmp t)=a.eval (.tmp t):=fun t ht1 ht2=>by rw[<-hp,nI _ _ _ _ ht2,nI _ _ _ _ ht1]
 have v0:p.eval (.tmp d0)=I A:=by rw[<-hp',oV _ _ _ s1]
 have v1:p.eval (.tmp d1)=I B:=by rw[<-hp,oV _ _ _ s0]
 rw[hp]at h;have last:∀ {l:Array Bool},aK .any #[o0,o1,o2,o3] l=[3]->aK .any #[o0,o1,o2,o3] (l.setIfInBounds 3 true)=[]->wpAny P .any #[o0,o1,o2,o3] Q 1 l p (w.drew.setRow r0 A):=by
  intro l hr hr2;refine lJ hr (by simp) ?_;refine jZ rfl (fun K hK=>xdi h3.gd ?_) lB;exact(K1.set r0 A n1 n2).store h3 ((ev y1 m3 m6).trans f1) v1 (hK _ _ ⟨hr2,h⟩)
 refine oC hm ?_;show wpAny P .any #[o0,o1,o2,o3] Q 4 (Array.replicate 4 false) a w.drew;refine lJ (rs:=[0,1]) b0 (by simp) ?_;refine jZ rfl (fun K hK=>xdi h0.gd ?_) (jZ rfl (fun K hK=>xdi h1.gd ?_) lB)
 ·refine K0.load h0 e0 (hK _ _ ?_);refine lJ (rs:=[1,2]) b1 (by simp) ?_;refine jZ rfl (fun K hK=>xdi h1.gd ?_) (jZ rfl (fun K hK=>xdi h2.gd ?_) lB)
  ·refine K1.load h1 ((nI _ _ _ _ m1).trans e1) (hK _ _ ?_);rw[hp];refine lJ (rs:=[2]) b3 (by simp) ?_;refine jZ rfl (fun K hK=>xdi h2.gd ?_) lB;refine K0.store h2 ((ev y0 m2 m5).trans f0) v0 (hK _ _ ?_);exact last b6 b9
  ·refine K0.store h2 ((nI _ _ _ _ m2).trans f0) (oV _ _ _ hd.1) (hK _ _ ?_);refine lJ (rs:=[1]) b5 (by simp) ?_;refine jZ rfl (fun K hK=>xdi h1.gd ?_) lB;refine(K1.set r0 A n1 n2).load h1 ((nI _ _ _ _ m1).trans e1) (hK _ _ ?_);rw[hp];exact last b8 b11
 ·refine K1.load h1 e1 (hK _ _ ?_);refine lJ (rs:=[0]) b2 (by simp) ?_;refine jZ rfl (fun K hK=>xdi h0.gd ?_) lB;refine K0.load h0 ((nI _ _ _ _ m7).trans e0) (hK _ _ ?_);rw[hp'];refine lJ (rs:=[2]) b4 (by simp) ?_;refine jZ rfl (fun K hK=>xdi h2.gd ?_) lB;refine K0.store h2 ((ev y0 m2 m5).trans f0) v0 (hK _ _ ?_);exact last b7 b10
theorem xxv{P:aI}{fn:Func}{p0 p1:Nat}{ty0 ty1:aH}(h:fn.results=#[.cell p0 ty0,.cell p1 ty1])(tmps:Array aE)(w:G)(r0 r1:Nat)(A B:Array aE)
 (e0:tmps.getD p0 undef=aC (some ⟨r0,0,none⟩)) (e1:tmps.getD p1 undef=aC (some ⟨r1,0,none⟩)) (t0 t1:aH) (f0 f1:Nat × Nat) (k0:w.heap[r0]? = some (Y A t0 f0)) (k1:w.heap[r1]? = some (Y B t1 f1))
 (D0 D1:TypeDesc) (u0:P.underlying ty0=some D0) (c0:(match D0 with | .struct _ | .array _ _=>true | _=>false)=true) (u1:P.underlying ty1=some D1) (c1:(match D1 with | .struct _ | .array _ _=>true | _=>false)=true)
 (i0:(P.info? ty0).map (·.size)=some A.size) (i1:(P.info? ty1).map (·.size)=some B.size):(results fn tmps).run P w=.ok (aA #[I A,I B]) w:=by
 have e0':tmps[p0]?.getD undef=aC (some ⟨r0,0,none⟩):=by simpa using e0
 have e1':tmps[p1]?.getD undef=aC (some ⟨r1,0,none⟩):=by simpa using e1
 simp[results,h,e0',e1',asAddr,nM w r0 t0 ty0 A f0 D0 k0 u0 c0 i0,nM w r1 t1 ty1 B f1 D1 k1 u1 c1 i1]
end twor
namespace rsplit
open arr mem bD aT aV bE fP bF floa twor
theorem xgc(f:Nat->Int)(w:G):
 aD aO 115 #[I (FL J 256 f)] w (zB w (aA #[I (FL J 256 fun i=>sh (f i)),I (FL J 256 fun i=>sl (f i)%8380417)])):=by
 obtain⟨hz,hsize⟩:=iY aX;obtain⟨z,HZ⟩:=aQ (FL J 256 fun _=>0);rw[HZ.o]at hz;have Hzs:=dP HZ;obtain⟨F,HF⟩:∃ F:Nat->Int,U (F=fun i=>sh (f i)):=⟨_,⟨rfl⟩⟩;have HFi:U (∀ i,F i=sh (f i)):=⟨fun i=>by rw[HF.o]⟩;obtain⟨Gq,HG⟩:∃ Gq:Nat->Int,U (Gq=fun i=>sl (f i)%8380417):=⟨_,⟨rfl⟩⟩;have HGi:U (∀ i,Gq i=sl (f i)%8380417):=⟨fun i=>by rw[HG.o]⟩;rw[<-HF.o,<-HG.o];clear HF HG;have sz:∀ h:Nat->Int,(aO.info? 76).map (·.size)=some (FL J 256 h).size:=fun h=>by rw[cC];exact hsize
 obtain⟨R,HR⟩:=aQ (FL J 256 F);have Ri:U ((aO.info? 76).map (·.size)=some R.size):=⟨by rw[<-HR.o];exact sz _⟩;have Ro:=eJ HR;have Rz:=gJ Hzs HR;obtain⟨S,HS⟩:=aQ (FL J 256 Gq);have Si:U ((aO.info? 76).map (·.size)=some S.size):=⟨by rw[<-HS.o];exact sz _⟩;have So:=eJ HS;have Sz:=gJ Hzs HS;obtain⟨Iq,HI⟩:=aQ (FL J 256 f);have Ii:U ((aO.info? 76).map (·.size)=some Iq.size):=⟨by rw[<-HI.o];exact sz _⟩;rw[HR.o,HS.o,HI.o];clear hsize sz;have Hix:U (∀ (i:Nat),i<256->∀ w1:G,(aN 76 (I Iq) (O J (i:Int))).run aO w1=.ok (O J (f i)) w1):=⟨fun i hi w1=>by rw[<-HI.o];exact xev f i hi w1⟩;have Hred:=D eU;have Hcen:=D xdc;go_enter Tryz.func115,Tryz.ntmps115;go_wp2_with fail;clear hz;obtain⟨W1,hW1⟩:=aP (((w.alloc (Y Iq 76)).alloc (Y z 76)).alloc (Y z 76));obtain⟨b0,b1,b2,hWs1,hWb1⟩:=three hW1;obtain⟨W,hW⟩:=aP ((W1.alloc (Y z 76)).alloc (Y z 76));obtain⟨c3,c4,hWs,hWb⟩:=two hW;rw[hW1,hW];rw[hWs1]at c3 c4 hWs;have B0:U (W.heap[w.heap.size]? = some (Y Iq 76 (0,0))):=⟨(hWb.block _ (by omega)).trans b0⟩;have B1:U (W.heap[w.heap.size+1]? = some (Y z 76 (0,0))):=⟨(hWb.block _ (by omega)).trans b1⟩;have B2:U (W.heap[w.heap.size+2]? = some (Y z 76 (0,0))):=⟨(hWb.block _ (by omega)).trans b2⟩;have B3:U (W.heap[w.heap.size+3]? = some (Y z 76 (0,0))):=⟨c3⟩;have B4:U (W.heap[w.heap.size+4]? = some (Y z 76 (0,0))):=⟨c4⟩;have HWs:U (w.heap.size+5<=W.heap.size):=⟨by omega⟩;have HWB:U (zb w W):=⟨hWb1.trans (hWb.mono (by omega))⟩
 clear hW hW1 b0 b1 b2 c3 c4 hWs1 hWs hWb1 hWb;refine nC 76 _ rfl w.heap.size rfl 76 Iq (0,0) _ B0.o zX rfl Ii.o ?_;go_wp2_with fail;go_loopw [10] (fun v wr=>∃ i:Nat,i<=256/\v=O J (i:Int)/\U (zb w wr/\wr.heap[w.heap.size+1]? = some (Y z 76 (0,0))/\wr.heap[w.heap.size+2]? = some (Y z 76 (0,0)) /\
  wr.heap[w.heap.size+3]? = some (Y (FL J 256 (pt F (fun _=>0) i)) 76 (0,0))/\wr.heap[w.heap.size+4]? = some (Y (FL J 256 (pt Gq (fun _=>0) i)) 76 (0,0)))) (fun v _=>256-(aG v).toNat)
 case atStart=>exact⟨0,iX _,rfl,⟨HWB.o,B1.o,B2.o,by rw[xbf,HZ.o];exact B3.o,by rw[xbf,HZ.o];exact B4.o⟩⟩
 case round=>
  obtain⟨i,hi,rfl,A0⟩:=hrel;by_cases hlt:i<256
  ·have hiz:(i:Int)<256:=by omega
   have hx0:=Hix.o i hlt wr;obtain⟨x,hx⟩:=aP (f i);rw[hx]at hx0;have HV:U (F i=sh x/\Gq i=sl x%8380417):=⟨by rw[HFi.o,HGi.o,hx];exact⟨rfl,rfl⟩⟩;have hb:=xmu x;have hs:=(xjs x);have Hr:=Hred.o x;have Hc:=Hcen.o (x%8380417) 8192;rw[show ce 8192 (x%8380417)=sl x from rfl]at Hc;obtain⟨v,hv⟩:=aQ (sh x);have hvd:(x%8380417-sl x) / 8192=v:=hv.o;obtain⟨l,hl⟩:=aQ (sl x);rw[hl.o]at Hc hb hs hvd;rw[hv.o]at hs;obtain⟨r,hr⟩:=aQ (x%8380417);have hrb : 0<=r/\r<8380417:=by rw[<-hr.o];omega
   rw[hr.o]at Hr Hc hb hvd hs;have Hl:=Hred.o l;obtain⟨u,hu⟩:=aQ (l%8380417);rw[hu.o]at Hl;obtain⟨d,hd⟩:=aP (r-l);have f1:J.wrap (r-l)=d:=by rw[hd,iN];omega
   rw[hd]at hvd;have hd0 : 0<=d:=by omega
   have f2:J.wrap (d.tdiv 8192)=v:=by rw[iU hd0,hvd,iN];omega
   have HU:U (upd (pt F (fun _=>0) i) i v=pt F (fun _=>0) (i+1)):=⟨xa1 F _ i v (by rw[HV.o.1,hv.o])⟩;have HU2:U (upd (pt Gq (fun _=>0) i) i u=pt Gq (fun _=>0) (i+1)):=⟨xa1 Gq _ i u (by rw[HV.o.2,hl.o,hu.o])⟩;clear hx hb hs hd hd0 hvd hrb hr hv hl hu HV;go_wp2_with fail;refine(Hr _).mono ?_;rintro e wx ⟨rfl,rfl⟩;go_wp2_with fail;refine(Hc _).mono ?_;rintro e wy ⟨rfl,rfl⟩;go_wp2_with fail;refine xkb (by kernel_rfl) ?_;refine zA 1 ?_;refine xkc [0,2,3,4,5,6,7,8] 9 [10,11] rfl (by kernel_rfl) ?_;simp only[pick,jT,mI,jF,jL];repeat still_step
   still_call (Hl _)
   repeat still_step
   refine jR ?_;have A1:U (At (w.heap.size+3) (FL J 256 (pt F (fun _=>0) i)) 76 wy wy.drew):=⟨eN (At.refl A0.o.2.2.2.1)⟩
   with_reducible refine cU A1 rfl _ _ _ rfl rfl ?_
   refine⟨_,_,_,rfl,rfl,rfl,by rw[cC];exact hlt,?_⟩;intro w5 A2;rw[eV,HU.o]at A2;have A3:U (At (w.heap.size+4) (FL J 256 (pt Gq (fun _=>0) i)) 76 w5 w5):=⟨At.refl (A2.o.other (bI A0.o.2.2.2.2) (by omega) A0.o.2.2.2.2)⟩;refine wpList_plain rfl (fun K hK=>?_);go_simp
   refine hK _ _ ?_;clear hK K
   with_reducible refine cU A3 rfl _ _ _ rfl rfl ?_
   refine⟨_,_,_,rfl,rfl,rfl,(by rw[cC];exact hlt),?_⟩;intro w6 A4;rw[eV,HU2.o]at A4;have AE:U (zb w w6/\w6.heap[w.heap.size+1]? = some (Y z 76 (0,0))/\w6.heap[w.heap.size+2]? = some (Y z 76 (0,0)) /\
    w6.heap[w.heap.size+3]? = some (Y (FL J 256 (pt F (fun _=>0) (i+1))) 76 (0,0))/\w6.heap[w.heap.size+4]? = some (Y (FL J 256 (pt Gq (fun _=>0) (i+1))) 76 (0,0))):=⟨by
    have s0:=A0.o.1.size;have s1:=A2.o.size;have l1:=bI A0.o.2.1;have l2:=bI A0.o.2.2.1;have l3:=bI A2.o.row;exact⟨(A0.o.1.trans (A2.o.below (by omega) (by omega))).trans (A4.o.below (by omega) (by omega)),
     A4.o.other (by omega) (by omega) (A2.o.other l1 (by omega) A0.o.2.1),A4.o.other (by omega) (by omega) (A2.o.other l2 (by omega) A0.o.2.2.1),
     A4.o.other (by omega) (by omega) A2.o.row,A4.o.row⟩⟩
   clear A0 A1 A2 A3 A4;go_wp2_with fail;go_roundw
   case rel=>exact⟨i+1,by omega,by go_num,AE⟩
   case measure=>simp[aG];omega
  ·obtain rfl:i=256:=by omega
   simp only[jE];rw[xbc,xbc,HR.o,HS.o]at A0;have K0:Two aO wr.drew 76 (w.heap.size+3) (w.heap.size+1) R:=⟨⟨_,_,A0.o.2.2.2.1⟩,⟨_,_,A0.o.2.1,Rz.o⟩,⟨_,zX,rfl⟩,Ri.o,Ro.o⟩;have K1:Two aO wr.drew 76 (w.heap.size+4) (w.heap.size+2) S:=⟨⟨_,_,A0.o.2.2.2.2⟩,⟨_,_,A0.o.2.2.1,Sz.o⟩,⟨_,zX,rfl⟩,Si.o,So.o⟩;have HK:=D (jA K0 K1);clear K0 K1;go_wp2_with fail;refine xxo 76 76 4 5 2 3 29 30 (by kernel_rfl) (by kernel_rfl) ⟨rfl,rfl,rfl⟩ ⟨rfl,rfl,rfl⟩ ⟨rfl,rfl,rfl⟩ ⟨rfl,rfl,rfl⟩ (by decide) ⟨(lZ rfl : 29<31),(lZ rfl : 30<31)⟩ _ _ _ _ R S rfl rfl rfl rfl HK.o.1 HK.o.2 (by omega) (by omega) ?_;go_wp2_with fail;have q0:(wr.drew.setRow (w.heap.size+1) R).heap[w.heap.size+1]? = some (Y R 76 (0,0)):=jD _ _ _ _ _ _ A0.o.2.1;have q1:(wr.drew.setRow (w.heap.size+1) R).heap[w.heap.size+2]? = some (Y z 76 (0,0)):=(lW _ _ _ _ (by omega)).trans A0.o.2.2.1;refine iV (v:=aA #[I R,I S]) (xxv rfl _ _ (w.heap.size+1) (w.heap.size+2) R S rfl rfl 76 76 (0,0) (0,0) ((lW _ _ _ _ (by omega)).trans q0) (jD _ _ _ _ _ _ q1) _ _ zX rfl zX rfl Ri.o Si.o) rfl ?_;exact⟨rfl,(A0.o.1.drew.trans (below_setRow _ _ _ (by omega))).trans (below_setRow _ _ _ (by omega))⟩
end rsplit
namespace fork
open arr mem aT aV bS polb cV
section
variable {P:aI} {ops:Array Oper} {Q:Exit->Act->G->Prop} {S:G->Prop}
end
theorem xin{P:aI}{ops:Array Oper}{Q:Exit->Act->G->Prop}{S:G->Prop}{b:Array Bool}{k:Nat}{ks:List Nat}{o:Oper}{rest:List Oper}{a:Act}{w:G}(hw:aL o (yielded ops a.tmps)=true)(hs:Region.noSelect ops=true)(hf:Region.free .any ops b k=true)(hr:(aK .any ops b).contains k=true)
 (hQ:∀ v c a w,Q (.panic c) (a.put o.dst v) w->Q (.panic c) a w) (ty:aH) (x:Operand) (ho:o.op=.load ty x)
 (g n:Nat) (hx:a.eval x=aC (some ⟨g,n,none⟩)) (cs:List aE) (d:TypeDesc) (hC:∀ w,S w->w.rangeAt g n cs)
 (hu:P.underlying ty=some d) (hd:d.isRow=true) (hz:(P.info? ty).map (·.size)=some cs.length) (hS:S w)
 (h:HK P ops Q S (b.setIfInBounds k true) rest ks (a.put o.dst (I cs.toArray)) w):HK P ops Q S b (o :: rest) (k :: ks) a w:=
 xlb hw hs hf hr (hQ _) (fun w hw2=>by
  unfold execOp;simp only[ho,hx,Instr.loadAt,Instr.sureAddr,lQ,mR,kQ,run_loadVar_mid w g n ty cs d (hC w hw2) hu hd hz]) hS h
theorem xsi{P:aI}{ops:Array Oper}{rest:List Oper}{o:Oper}{a:Act}{w:G}{Q:Exit->Act->G->Prop}(hg:o.guard=none)(t e:aH)(x:Operand)(ho:o.op=.buildSlice t 1 #[(0,x)])
 (F:Array aE) (hF:F.size=256) (ie:TypeInfo) (z:Array aE)
 (hu:P.underlying t=some (.slice e)) (hie:P.info? e=some ie) (hz:ie.zero=some (I z)) (hsz:ie.size=256) (hx:a.eval x=I F)
 (h:wpList P ops Q rest (a.put o.dst (aB (some ⟨w.heap.size,0,none⟩) 1 1)) (w.alloc (Y F e))):wpList P ops Q (o :: rest) a w:=by
 refine wpList_buildSlice hg t e 1 _ ho F ie (I z) hu hie hz (by rw[hsz];decide) (by rw[hsz];decide) ?_ h;have hc:((#[(0,x)]:Array (Nat × Operand)).map fun (i,x)=>(i,a.eval x)).toList=[(0,Value.agg F)]:=by simp[hx]
 rw[hc,hsz];exact xfo F _ hF (by rw[Array.size_map,Array.size_range])
end fork
namespace iI
open arr mem cZ bU bT dD aT aV bS aW bC bY cG bF fW fL fD bQ fO bM
theorem shake{T:Array aE}(k:Int)(b:ByteArray)(n:Nat)(w:G)(hK:KT T TL RL)(hP:Gp w)(hk:k=1\/k=2)(hn:n<=50000)(hb:b.size<=1125899906842624):
 ∀ w1:G,zb w w1->aD aO 78 #[I T,O J k,E b,O J (n:Int)] w1 (zB w1 (aA #[E (out TL RL k b n),O J 0])):=fun w1 h1=>by
 rcases hk with rfl | rfl
 ·exact xri 1 b n w1 hK (hP.later h1) (by decide) rfl hn hb
 ·exact xri 2 b n w1 hK (hP.later h1) (by decide) rfl hn hb
theorem uniform{T:Array aE}(b:ByteArray)(w:G)(hK:KT T TL RL)(hP:Gp w)(hb:b.size<=1125899906842624):
 aD aO 83 #[I T,E b] w (zB w (I (FL J 256 (dU b)))):=
 quni.xsq b _ w (dI T hK) (xb1 1 b 1008) (shake 1 b 1008 w hK hP (kW rfl) (by decide) hb)
theorem small{T:Array aE}(b:ByteArray)(e:Int)(w:G)(hK:KT T TL RL)(hP:Gp w)(hb:b.size<=1125899906842624):
 aD aO 114 #[I T,E b,O J e] w (zB w (I (FL J 256 (dS b e)))):=
 qsma.xsp b _ e w (dI T hK) (xb1 2 b 816) (shake 2 b 816 w hK hP (kO rfl) (by decide) hb)
theorem secrets{T:Array aE}(kn ln:Nat)(e t a b o s:Int)(sd:ByteArray)(w:G)(hK:KT T TL RL)(hP:Gp w)(h:bP (kn:Int) (ln:Int) e t a b o s=true)(hsd:sd.size<=1000):
 aD aO 63 #[I T,I (bO (kn:Int) (ln:Int) e t a b o s),E sd] w fun x w'=>(∃ v1 v2,x=.returned (.tuple #[v1,v2])/\Holds w' w.heap.size v1 ln (qS sd e)/\Holds w' w.heap.size v2 kn (fun i=>qS sd e (ln+i)))/\zb w w':=by
 obtain⟨h1,h2,-⟩:=xde h;exact qsec.xyp kn ln e t a b o s sd (qS sd e) w (dI T hK) (by omega) (by omega) h (by omega) fun r _ w1 hb=>small (tw sd r 0) e w1 hK (hP.later hb) (by rw[xhv];omega)
theorem matrix{T:Array aE}(kn ln:Nat)(e t a b o s:Int)(sd:ByteArray)(w:G)(hK:KT T TL RL)(hP:Gp w)(h:bP (kn:Int) (ln:Int) e t a b o s=true)(hsd:sd.size<=1000):
 aD aO 33 #[I T,I (bO (kn:Int) (ln:Int) e t a b o s),E sd] w fun x w'=>(∃ v vs,x=.returned v/\w'.ownsRow w.heap.size 44 1 v kn vs/\dO w' w.heap.size v.ownBlock vs ln (qX sd))/\zb w w':=by
 obtain⟨h1,h2,-⟩:=xde h;exact qmat.xlp kn ln e t a b o s sd (qX sd) w (dI T hK) (by omega) (by omega) h (by omega) fun r c _ _ w1 hb=>uniform (tw sd c r) w1 hK (hP.later hb) (by rw[xhv];omega)
end iI
end Go.Proofs.YtomphjajkkddkaaGreatDoor
