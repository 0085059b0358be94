/-
  What mlkey's PublicBytes returns for valid arguments. Conditions: as each theorem says. A string's f
-/
import Derived.Test.YtomphjajkkddkaaGreatDoorZs16
import Derived.Test.YtomphjajkkddkaaGreatDoorZs02
import Derived.Test.YtomphjajkkddkaaGreatDoorZs12
import Derived.Test.YtomphjajkkddkaaGreatDoorZs18
import Derived.Test.YtomphjajkkddkaaGreatDoorZs08
import Derived.Test.YtomphjajkkddkaaGreatDoorZs15
import Derived.Test.YtomphjajkkddkaaGreatDoorZs03
import Derived.Test.YtomphjajkkddkaaGreatDoorProg
import Derived.Test.YtomphjajkkddkaaGreatDoorZs04
import Derived.Test.YtomphjajkkddkaaGreatDoorZs01
import Derived.Maps.AppendAt
import Derived.Shelf.Strings.Trim
set_option maxRecDepth 100000
set_option maxHeartbeats 16000000
set_option linter.unusedSimpArgs false
set_option linter.unusedVariables false
open Go Go.RowKit
open Go renaming World->G,Calls->aD,Value->aE,TypeId->aH
open Go.RowKit renaming Below->aF,intOf->aG
open Go.Act renaming put->aM
open Go.Instr renaming index->aN
open Go.Value renaming int->O,agg->I,string->E,tuple->aA,slice->aB,pointer->aC
open Go.IntKind renaming i64->J
open Go.Obj renaming cells->Y
open Go.Proofs.Tryz renaming prog->aO
namespace Go.Proofs.YtomphjajkkddkaaGreatDoor
namespace kpb
open arr mem bD aT aV bS aW aY bA bL bY cG dQ bF bQ eP cV eM bZ dJ fA dN rksb dG dW
theorem enc_pb(x:ByteArray)(m:Nat)(v:aE)(B:Nat)(q:Nat->Nat->Int)(w:G)(hm:m<=8)(hv:Holds w B v m q)(hx:x.size<=100000):
 aD aO 116 #[E x,v,.func (.func 117) #[] #[]] w (zB w (resP x q 1023 m)):=by
 refine ken.xub x m v B q (fun i=>packed (q i) 1023) (fun i=>fK (q i) 1023) _ w hm hv hx (fun i _=>by rw[xcy,xdf];decide) (fun h=>?_) (fun i hi h=>?_) (fun i _ h w1 _=>?_) (fun i _ h w1 _=>?_)
 ·unfold resP;rw[iP (show okP q 1023 m from h)]
 ·unfold resP;rw[iQ (show ¬ okP q 1023 m from fun h2=>h (h2 i hi))]
 ·have h1:=ken.xn8 (q i) w1;rw[iP h]at h1;exact h1
 ·have h1:=ken.xn8 (q i) w1;rw[iQ h]at h1;exact h1
theorem pb_any(kn:Nat)(l e t a b o s:Int)(rho:ByteArray)(v:aE)(B:Nat)(q:Nat->Nat->Int)(w:G)(h:bP (kn:Int) l e t a b o s=true)(hrho:rho.size=32)(hv:Holds w B v kn q):
 aD aO 65 #[I (bO (kn:Int) l e t a b o s),E rho,v] w (zB w (resP rho q 1023 kn)):=by
 have HR0:=fun w1=>eF.xbo (kn:Int) l e t a b o s w1
 simp only[h]at HR0;obtain⟨hk,-⟩:=xbe h;have HE0:∀ w1:G,zb w w1->aD aO 116 #[E rho,v,.func (.func 117) #[] #[]] w1 (zB w1 (resP rho q 1023 kn)):=fun w1 hb=>enc_pb rho kn v B q w1 (by omega) (hv.later hb) (by omega)
 obtain⟨V1,V2,HV⟩:∃ (V1:ByteArray) (V2:Int),U (resP rho q 1023 kn=aA #[E V1,O J V2]):=by
  unfold resP;split
  ·exact⟨_,_,⟨rfl⟩⟩
  ·exact⟨_,_,⟨rfl⟩⟩
 rw[HV.o]at HE0 ⊢;obtain⟨g,c,hvs,-⟩:=gD hv;subst hvs;obtain⟨C,HC⟩:=aQ ((bO (kn:Int) l e t a b o s):Array aE);simp only[HC.o]at HR0 ⊢;have HCs:U ((aO.info? 37).map (·.size)=some C.size):=⟨by rw[<-HC.o];kernel_rfl⟩;obtain⟨W,hW⟩:=aP (w.alloc (Y C 37));obtain⟨r0,hWs,b0⟩:=one hW;have CB:=gW r0;have BW:=D b0;have HW:=D hW;have cK:U (∀ w':G,zb W w'->w'.cell? ⟨w.heap.size,0,none⟩=some (O J (kn:Int))):=⟨fun w' hb=>aZ (CB.o w' hb) (by rw[<-HC.o];rfl)⟩;have HR:=D HR0;have HE:=D HE0;have hrz:(rho.size:Int)=32:=by omega
 have hnz:((kn:Int) != (kn:Int))=false:=by simp
 clear HR0 HE0 hW r0 hWs b0 hv h hk hrho HV;go_enter Tryz.func65,Tryz.ntmps65;go_wp2_with (first
  | (rw[HW.o])
  | (refine iL rfl 37 _ rfl w.heap.size rfl 37 _ (0,0) _ (CB.o _ (iR _ _)) zZ rfl HCs.o ?_))
 refine(HR.o _).mono ?_;rintro x u1 ⟨rfl,hb1⟩;have E1:=bK BW hb1;have c0:=cK.o u1 hb1;clear hb1;go_wp2_with fail;refine(HE.o _ E1.o).mono ?_;rintro x u2 ⟨rfl,hb2⟩;have E2:=bK E1 hb2;clear hb2;go_wp2_with fail;go_ret2;exact⟨rfl,E2.o⟩
end kpb
namespace kpu
open arr mem bD aT aV bS aW aY bA bL bY cG dQ bF bQ eP cV eM bZ dJ fA dN rksb dG dW
theorem xoe(x:ByteArray)(n:Nat)(w:G)(hn:n<=x.size)(hx:x.size<=100000):
 aD aO 76 #[E x,O J (n:Int)] w (zB w (E (x.extract 0 n))):=by
 have h1:=pcut.xt5 x (n:Int) w (by omega);rw[show ((n:Int)).toNat=n by omega,<-pcut.xod x n n (by omega)]at h1;exact h1
theorem xi7(x:ByteArray)(p n m i:Nat)(hi:i<m)(hx:p+n*m<=x.size)(q:Nat)(hq:q=x.size\/q=p+n*m):(x.extract p q).extract (i*n) ((i+1)*n)=x.extract (p+n*i) (p+n*i+n):=by
 have h1:n*(i+1)<=n*m:=kJ _ hi;rw[kG]at h1;rw[ByteArray.extract_extract,nX,kI i n];congr 1
 omega
end kpu
namespace ksb
open arr mem bD aT aV bS aW aY bA bL bY cG dQ bQ eP cV eM bZ dJ fA dN rksb dG dW
open bF (bP)
open ksz
theorem enc_sb(gc:Nat)(x:ByteArray)(m:Nat)(v:aE)(B:Nat)(q:Nat->Nat->Int)(low high:Int)(w:G)(hm:m<=8)(hv:Holds w B v m q)(hx:x.size<=100000)(h1 : 0<=low)(h2 : 1<=high)(h3:low<4190208)(h4:high<4190208)(hg:gc<w.heap.size)(hc1:w.cell? ⟨gc,1,none⟩=some (O J low))(hc2:w.cell? ⟨gc,2,none⟩=some (O J high)):
 aD aO 116 #[E x,v,.func (.func 118) #[] #[aC (some ⟨gc,0,none⟩)]] w (zB w (resS x q low high m)):=by
 have hb:=bY.xg3 (low+high) (by omega);refine ken.xuc gc x m v B q (fun i=>packed (sg (q i) high) (low+high)) (fun i=>ins (q i) low high) _ w hm hv hx (fun i _=>by rw[xcy];omega) (fun h=>?_) (fun i hi h=>?_) (fun i _ h w1 hb1=>?_) (fun i _ h w1 hb1=>?_)
 ·unfold resS;rw[iP (show okS q low high m from h)];rfl
 ·unfold resS;rw[iQ (show ¬ okS q low high m from fun h2=>h (h2 i hi))]
 ·have h5:=ken.xn9 (q i) gc low high w1 h1 h2 h3 h4 (iZ hg hb1.size) ((hb1.cell (p:=⟨gc,1,none⟩) hg).trans hc1) ((hb1.cell (p:=⟨gc,2,none⟩) hg).trans hc2);rw[iP h]at h5;exact h5
 ·have h5:=ken.xn9 (q i) gc low high w1 h1 h2 h3 h4 (iZ hg hb1.size) ((hb1.cell (p:=⟨gc,1,none⟩) hg).trans hc1) ((hb1.cell (p:=⟨gc,2,none⟩) hg).trans hc2);rw[iQ h]at h5;exact h5
def pq(p q l:Nat->Nat->Int)(r:Nat):Nat->Nat->Int:=if r=0 then p else if r=1 then q else l
def mm(kn ln r:Nat):Nat:=if r=0 then ln else kn
def st(kn ln:Nat)(e:Int)(h:ByteArray)(p q l:Nat->Nat->Int)(r:Nat):ByteArray:=
 if r=0 then h else if r=1 then bN h p e e ln else if r=2 then bN (bN h p e e ln) q e e kn else skB kn ln e h p q l
theorem xy8(kn ln:Nat)(e:Int)(h:ByteArray)(p q l:Nat->Nat->Int)(r:Nat)(hr:r<3):bN (st kn ln e h p q l r) (pq p q l r) (lw e r) (hg e r) (mm kn ln r)=st kn ln e h p q l (r+1):=by
 rcases (show r=0\/r=1\/r=2 by omega) with rfl | rfl | rfl<;>rfl
theorem xy9(kn ln:Nat)(e:Int)(h:ByteArray)(p q l:Nat->Nat->Int)(r:Nat)(he:e=2\/e=4)(hk:kn<=8)(hl:ln<=8)(hh:h.size=128):(st kn ln e h p q l r).size<=100000:=by
 obtain⟨-,-,b⟩:=xg1 e he;have a1 : 32*lb (e+e).toNat*ln<=128*8:=lA (by omega) hl;have a2 : 32*lb (e+e).toNat*kn<=128*8:=lA (by omega) hk;unfold st;split
 ·omega
 ·split
  ·rw[xbd];omega
  ·split
   ·rw[xbd,xbd];omega
   ·rw[xro];omega
theorem sb_any(kn ln:Nat)(e t a b o s:Int)(hd:ByteArray)(va vb vl:aE)(Ba Bb Bl:Nat)(p q lo:Nat->Nat->Int)(w:G)(h:bP (kn:Int) (ln:Int) e t a b o s=true)(hhd:hd.size=128)(ha:Holds w Ba va ln p)(hb:Holds w Bb vb kn q)(hlo:Holds w Bl vl kn lo):
 aD aO 66 #[I (bO (kn:Int) (ln:Int) e t a b o s),E hd,va,vb,vl] w (zB w (resK kn ln e hd p q lo)):=by
 have HR0:=fun w1=>eF.xbo (kn:Int) (ln:Int) e t a b o s w1
 simp only[h]at HR0;have HL0:=fun w1=>xlj (kn:Int) (ln:Int) e t a b o s w1
 obtain⟨hk,hl,he,-⟩:=xbe h;have hk : 1<=kn/\kn<=8:=by omega
 have hl : 1<=ln/\ln<=8:=by omega
 have HQ:U (∀ r,r<3->∃ B c g,Holds w B (aB (some ⟨g,0,none⟩) (mm kn ln r) c) (mm kn ln r) (pq p q lo r)/\(#[va,vb,vl]:Array aE)[r]? = some (aB (some ⟨g,0,none⟩) (mm kn ln r) c)):=⟨fun r hr=>by
  rcases (show r=0\/r=1\/r=2 by omega) with rfl | rfl | rfl
  ·obtain⟨g,c,e1,-⟩:=gD ha;subst e1;exact⟨Ba,c,g,ha,rfl⟩
  ·obtain⟨g,c,e1,-⟩:=gD hb;subst e1;exact⟨Bb,c,g,hb,rfl⟩
  ·obtain⟨g,c,e1,-⟩:=gD hlo;subst e1;exact⟨Bl,c,g,hlo,rfl⟩⟩
 obtain⟨ga,ca,e1,-⟩:=gD ha;obtain⟨gb,cb,e2,-⟩:=gD hb;obtain⟨gl,cl,e3,-⟩:=gD hlo;subst e1 e2 e3;have HEn:U (∀ (r gc:Nat) (v:aE) (B:Nat) (w1:G),r<3->Holds w1 B v (mm kn ln r) (pq p q lo r)->gc<w1.heap.size->w1.cell? ⟨gc,1,none⟩=some (O J (lw e r))->w1.cell? ⟨gc,2,none⟩=some (O J (hg e r)) ->
  aD aO 116 #[E (st kn ln e hd p q lo r),v,.func (.func 118) #[] #[aC (some ⟨gc,0,none⟩)]] w1 (zB w1 (if okS (pq p q lo r) (lw e r) (hg e r) (mm kn ln r) then aA #[E (st kn ln e hd p q lo (r+1)),O J 0] else aA #[E ⟨#[]⟩,O J 6]))):=⟨fun r gc v B w1 hr hv hg' hc1 hc2=>by
  have h5:=enc_sb gc (st kn ln e hd p q lo r) (mm kn ln r) v B (pq p q lo r) (lw e r) (hg e r) w1 (by unfold mm;split<;>omega) hv (xy9 kn ln e hd p q lo r he hk.2 hl.2 hhd) (by unfold lw;split<;>omega) (by unfold hg;split<;>omega) (by unfold lw;split<;>omega) (by unfold hg;split<;>omega) hg' hc1 hc2;unfold resS at h5;rw[xy8 kn ln e hd p q lo r hr]at h5;exact h5⟩
 have HNo:U (∀ r,r<3->¬ okS (pq p q lo r) (lw e r) (hg e r) (mm kn ln r)->resK kn ln e hd p q lo=aA #[E ⟨#[]⟩,O J 6]):=⟨fun r hr hno=>by
  unfold resK;rw[iQ];rintro ⟨q1,q2,q3⟩;rcases (show r=0\/r=1\/r=2 by omega) with rfl | rfl | rfl
  ·exact hno q1
  ·exact hno q2
  ·exact hno q3⟩
 have HYes:U ((∀ r,r<3->okS (pq p q lo r) (lw e r) (hg e r) (mm kn ln r))->resK kn ln e hd p q lo=aA #[E (st kn ln e hd p q lo 3),O J 0]):=⟨fun h5=>by
  unfold resK;rw[iP ⟨h5 0 (by decide),h5 1 (by decide),h5 2 (by decide)⟩];rfl⟩
 have HIx:U (∀ (r:Nat),r<3->∀ w1:G,(aN 102 (I (lst (kn:Int) (ln:Int) e)) (O J (r:Int))).run aO w1=.ok (I #[O J (mn (kn:Int) (ln:Int) r),O J (lw e r),O J (hg e r)]) w1):=⟨fun r hr w1=>xlc (kn:Int) (ln:Int) e r hr w1⟩;have Hst0:U (st kn ln e hd p q lo 0=hd):=⟨rfl⟩;obtain⟨V,HV⟩:=aQ (resK kn ln e hd p q lo);simp only[HV.o]at HNo HYes ⊢;obtain⟨S,HS⟩:=aQ (st kn ln e hd p q lo);simp only[HS.o]at HEn HYes Hst0;obtain⟨OK,HOK⟩:=aQ (fun r=>okS (pq p q lo r) (lw e r) (hg e r) (mm kn ln r));have HOK2:∀ r,okS (pq p q lo r) (lw e r) (hg e r) (mm kn ln r)=OK r:=fun r=>by rw[<-HOK.o]
 have HEc:U (∀ (r gc:Nat) (v:aE) (B:Nat) (w1:G),r<3->Holds w1 B v (mm kn ln r) (pq p q lo r)->gc<w1.heap.size->w1.cell? ⟨gc,1,none⟩=some (O J (lw e r))->w1.cell? ⟨gc,2,none⟩=some (O J (hg e r)) ->
  (OK r/\aD aO 116 #[E (S r),v,.func (.func 118) #[] #[aC (some ⟨gc,0,none⟩)]] w1 (zB w1 (aA #[E (S (r+1)),O J 0])))\/(¬ OK r/\aD aO 116 #[E (S r),v,.func (.func 118) #[] #[aC (some ⟨gc,0,none⟩)]] w1 (zB w1 (aA #[E ⟨#[]⟩,O J 6])))):=⟨fun r gc v B w1 q1 q2 q3 q4 q5=>by
  have h6:=HEn.o r gc v B w1 q1 q2 q3 q4 q5;by_cases h7:okS (pq p q lo r) (lw e r) (hg e r) (mm kn ln r)
  ·rw[iP h7]at h6;exact kW ⟨by rw[<-HOK2 r];exact h7,h6⟩
  ·rw[iQ h7]at h6;exact kO ⟨by rw[<-HOK2 r];exact h7,h6⟩⟩
 simp only[HOK2]at HNo HYes;obtain⟨mf,hmf⟩:=aQ (mn (kn:Int) (ln:Int));obtain⟨lf,hlf⟩:=aQ (lw e);obtain⟨gf,hgf⟩:=aQ (hg e);obtain⟨Ls,hLs⟩:=aQ (lst (kn:Int) (ln:Int) e);obtain⟨mN,hmN⟩:=aQ (mm kn ln);obtain⟨pQ,hpQ⟩:=aQ (pq p q lo);simp only[hmf.o,hlf.o,hgf.o,hLs.o,hmN.o,hpQ.o]at HIx HEc HL0 HQ;obtain⟨Arr,HArr⟩:=aQ (#[aB (some ⟨ga,0,none⟩) ln ca,aB (some ⟨gb,0,none⟩) kn cb,aB (some ⟨gl,0,none⟩) kn cl]:Array aE);simp only[HArr.o]at HQ;obtain⟨C,HC⟩:=aQ ((bO (kn:Int) (ln:Int) e t a b o s):Array aE);simp only[HC.o]at HR0 HL0 ⊢;have HCs:U ((aO.info? 37).map (·.size)=some C.size):=⟨by rw[<-HC.o];kernel_rfl⟩;obtain⟨W,hW⟩:=aP (w.alloc (Y C 37));obtain⟨r0,hWs,b0⟩:=one hW;have CB:=gW r0;have BW:=D b0;have HW:=D hW;have cK:U (∀ w':G,zb W w'->w'.cell? ⟨w.heap.size,0,none⟩=some (O J (kn:Int))):=⟨fun w' hb=>aZ (CB.o w' hb) (by rw[<-HC.o];rfl)⟩;have cL:U (∀ w':G,zb W w'->w'.cell? ⟨w.heap.size,1,none⟩=some (O J (ln:Int))):=⟨fun w' hb=>aZ (CB.o w' hb) (by rw[<-HC.o];rfl)⟩;have HR:=D HR0;have HL:=D HL0;have hhz:((hd.size:Int) != 128)=false:=by rw[hhd];rfl
 have hhi:(hd.size:Int)=128:=by omega
 have hk2:((kn:Int) != (kn:Int))=false:=by simp
 have hl2:((ln:Int) != (ln:Int))=false:=by simp
 clear HR0 HL0 hW r0 hWs b0 h hk hl he hhd ha hb hlo HV HS HOK HOK2 HEn hmf hlf hgf hLs hmN hpQ;go_enter Tryz.func66,Tryz.ntmps66;go_wp2_with (first
  | (rw[HW.o])
  | (refine iL rfl 37 _ rfl w.heap.size rfl 37 _ (0,0) _ (CB.o _ (iR _ _)) zZ rfl HCs.o ?_))
 refine(HR.o _).mono ?_;rintro x u1 ⟨rfl,hb1⟩;have E1:U (zb W u1):=⟨hb1⟩;have c0:=cK.o u1 hb1;have c1:=cL.o u1 hb1;clear hb1;obtain⟨W3,hW3⟩:=aP (u1.alloc (Y #[aB (some ⟨ga,0,none⟩) ln ca,aB (some ⟨gb,0,none⟩) kn cb,aB (some ⟨gl,0,none⟩) kn cl] 139));obtain⟨r3,hs3,b3⟩:=one hW3;have E3:=bK E1 b3;rw[HArr.o]at r3;have R3:=D r3;have HW3:=D hW3;clear r3 hs3 b3 hW3;go_wp2_with (first
  | (rw[HW3.o])
  | (refine iL rfl 37 _ rfl w.heap.size rfl 37 _ (0,0) _ (CB.o _ E3.o) zZ rfl HCs.o ?_))
 refine(HL.o _).mono ?_;rintro x u2 ⟨rfl,hb2⟩;have R2:U (u2.heap[u1.heap.size]? = some (Y Arr 139 (0,0))):=⟨(hb2.block _ (bI R3.o)).trans R3.o⟩;have E2:=bK E3 hb2;clear hb2 c0 c1 R3;go_wp2_with fail;go_loopw [53,13,14] (fun iv sv ev wr=>∃ r:Nat,r<=3/\iv=O J (r:Int)/\sv=E (S r)/\ev=O J 0/\U (∀ i,i<r->OK i)/\U (zb u2 wr)) (fun iv _ _ _=>3-(aG iv).toNat)
 case atStart=>exact⟨0,by decide,rfl,by rw[Hst0.o],rfl,⟨fun i hi=>by omega⟩,⟨iR _ _⟩⟩
 case round=>
  obtain⟨i,hi,rfl,rfl,rfl,Hok,Hb⟩:=hrel;have BE:=bK E2 Hb.o;by_cases hlt:i<3
  ·have hiz:(i:Int)<3:=by omega
   have hix:=HIx.o i hlt;obtain⟨Bv,cv,gv,hv,hav⟩:=HQ.o i hlt;obtain⟨m,hm⟩:=aQ (mf i);obtain⟨lo',hlo'⟩:=aQ (lf i);obtain⟨hi',hhi'⟩:=aQ (gf i);rw[hm.o,hlo'.o,hhi'.o]at hix;obtain⟨W4,hW4⟩:=aP (wr.alloc (Y #[O J m,O J lo',O J hi'] 101));obtain⟨r4,hs4,b4⟩:=one hW4;have d1:W4.cell? ⟨wr.heap.size,1,none⟩=some (O J (lf i)):=by rw[hlo'.o];exact aZ r4 rfl
   have d2:W4.cell? ⟨wr.heap.size,2,none⟩=some (O J (gf i)):=by rw[hhi'.o];exact aZ r4 rfl
   have B4:=bK Hb b4;have R4:W4.heap[u1.heap.size]? = some (Y Arr 139 (0,0)):=(B4.o.block _ (bI R2.o)).trans R2.o;have c4:W4.cell? ⟨u1.heap.size,i,none⟩=some (aB (some ⟨gv,0,none⟩) (mN i) cv):=aZ R4 hav;have hcase:=HEc.o i wr.heap.size (aB (some ⟨gv,0,none⟩) (mN i) cv) Bv W4 hlt (hv.later (BW.o.trans ((E2.o.trans (B4.o.mono E2.o.size)).mono BW.o.size))) (bI r4) d1 d2;have HW4:=D hW4;have Hlt:=D hlt;obtain⟨nn,hnn⟩:=aP (mN i);rw[hnn]at c4 hcase;obtain⟨s0,hs0⟩:=aQ (S i);rw[hs0.o]at hcase ⊢;clear r4 hs4 b4 hW4 d1 d2 R4 hv hav hlt hnn;rcases hcase with ⟨bR,hcall⟩ | ⟨bR,hcall⟩
   ·have HCl:=D hcall;have Hok2:U (∀ j,j<i+1->OK j):=⟨fun j hj=>by
     by_cases e:j=i
     ·rw[e];exact bR
     ·exact Hok.o j (by omega)⟩
    obtain⟨s1,hs1⟩:=aQ (S (i+1));rw[hs1.o]at HCl;clear hcall bR;go_wp2_with (rw[HW4.o]);refine HCl.o.mono ?_;rintro x w5 ⟨rfl,hb5⟩;have B5:=bK B4 hb5;clear hb5 HCl;go_wp2_with fail;go_roundw
    case rel=>exact⟨i+1,by have:=Hlt.o;omega,by go_num,by rw[hs1.o],rfl,Hok2,B5⟩
    case measure=>have:=Hlt.o;simp[aG];omega
   ·have HCl:=D hcall;have hVe:U (V=aA #[E ⟨#[]⟩,O J 6]):=⟨HNo.o i Hlt.o bR⟩;clear hcall bR;go_wp2_with (rw[HW4.o]);refine HCl.o.mono ?_;rintro x w5 ⟨rfl,hb5⟩;have B5:=bK B4 hb5;clear hb5 HCl;go_wp2_with fail;go_ret2;exact⟨by rw[hVe.o];rfl,BW.o.trans ((E2.o.trans (B5.o.mono E2.o.size)).mono BW.o.size)⟩
  ·obtain rfl:i=3:=by omega
   have hVe:U (V=aA #[E (S 3),O J 0]):=⟨HYes.o fun r hr=>Hok.o r hr⟩;obtain⟨s3,hs3⟩:=aQ (S 3);rw[hs3.o]at hVe ⊢;simp only[jE];go_wp2_with fail;go_ret2;exact⟨by rw[hVe.o];rfl,BW.o.trans (BE.o.mono BW.o.size)⟩
end ksb
namespace kse
open arr mem bD aT aV bS aW aY bA bL bY cG dQ bQ eP cV eM bZ dJ fA dN rksb dG dW
open bF (bP)
open ksz ksb
def Rowm(w:G)(skip:Option Nat)(vs:List aE)(n:Nat->Nat)(p:Nat->Nat->Nat->Int):Prop:=
 ∀ i v,vs[i]? = some v->∃ g c,v=aB (some ⟨g,0,none⟩) (n i) c/\g<w.heap.size/\some g≠skip/\∀ s,s<n i->∀ k,k<256->w.cell? ⟨g,256*s+k,none⟩=some (O J (p i s k))
theorem Rowm.grown{w w':G}{n:Nat->Nat}{skip skip':Option Nat}{vs:List aE}{p:Nat->Nat->Nat->Int}(h:Rowm w skip vs n p)(hg:w.grownBy w' skip)(hs:skip'=skip\/skip'=some w.heap.size):Rowm w' skip' vs n p:=fun i v hv=>by
 obtain⟨g,c,e,h2,h3,h4⟩:=h i v hv;refine⟨g,c,e,iZ h2 hg.size,?_,fun s hs k hk=>hg.cell (h4 s hs k hk) h3⟩;rcases hs with rfl | rfl
 ·exact h3
 ·intro e2;injection e2 with e2;omega
theorem Rowm.later{w w':G}{n:Nat->Nat}{skip:Option Nat}{vs:List aE}{p:Nat->Nat->Nat->Int}(h:Rowm w skip vs n p)(hb:zb w w'):Rowm w' skip vs n p:=fun i v hv=>by
 obtain⟨g,c,e,h2,h3,h4⟩:=h i v hv;exact⟨g,c,e,iZ h2 hb.size,h3,fun s hs k hk=>(hb.cell (p:=⟨g,256*s+k,none⟩) h2).trans (h4 s hs k hk)⟩
theorem Rowm.snoc{w:G}{B':Nat}{n:Nat->Nat}{x y:aE}{vs:List aE}{p:Nat->Nat->Nat->Int}(h:Rowm w x.ownBlock vs n p)(hy:Holds w B' y (n vs.length) (p vs.length))(hx:∀ k,x.ownBlock=some k->k<B'):Rowm w x.ownBlock (vs ++ [y]) n p:=fun i v hv=>by
 by_cases e:i<vs.length
 ·exact h i v (by rwa [mC e]at hv)
 ·have e2:i=vs.length:=by
   have:=(List.getElem?_eq_some_iff.1 hv).1;rw[kK,List.length_singleton]at this;omega
  subst e2;rw[lR (iM _),mW]at hv;have e3:y=v:=by simpa using hv
  subst e3;obtain⟨g,c,e,h1,h2,h3⟩:=hy;exact⟨g,c,e,h2,fun e4=>by have:=hx g e4.symm;omega,h3⟩
theorem xxk(w:G)(v:aE)(t:aH)(j:Nat)(u:aE)(hu:[v][j]? = some u):(w.alloc (Y #[v] t)).cell? ((⟨w.heap.size,0,none⟩:Addr).add j)=some u:=xdw (by simpa using hu)
theorem dec_se(gc:Nat)(x:ByteArray)(p m W:Nat)(low high:Int)(w:G)(hm : 1<=m/\m<=8)(h1 : 0<=low)(h2 : 1<=high)(h3:low<4190208)(h4:high<4190208)(hW:lb (low+high).toNat=W)(hx:p+32*W*m<=x.size)(hg:gc<w.heap.size)(hc1:w.cell? ⟨gc,1,none⟩=some (O J low))(hc2:w.cell? ⟨gc,2,none⟩=some (O J high)):
 aD aO 73 #[E (x.extract p (p+32*W*m)),O J (m:Int),.func (.func 162) #[] #[aC (some ⟨gc,0,none⟩)]] w fun r w'=>((okU x p W (low+high) m/\∃ v,r=.returned (.tuple #[v,O J 0])/\Holds w' w.heap.size v m (iB x p W high))\/(¬ okU x p W (low+high) m/\r=.returned (aA #[aB none 0 0,O J 3])))/\zb w w':=by
 have hb:=bY.xg3 (low+high) (by omega);have hsz:∀ i,i<m->(x.extract (p+32*W*i) (p+32*W*i+32*W)).size=32*W:=fun i hi=>xww x p W i m hi hx
 have hU:=fun i (hi:i<m) (w1:G)=>kde.xzz (x.extract (p+32*W*i) (p+32*W*i+32*W)) low high w1 h1 h2 h3 h4 (by rw[hW];exact hsz i hi)
 rw[hW]at hb;simp only[hW]at hU;refine kde.xt7 gc (x.extract p (p+32*W*m)) m (32*W) (iB x p W high) (fun i=>fK (rdU x p W i) (low+high)) w hm (by omega) (by rw[size_extract _ _ _ (by omega) hx,kI m];omega) (fun i hi ho w1 hb1=>?_) (fun i hi ho w1 hb1=>?_)
 ·rw[kpu.xi7 x p (32*W) m i hi hx _ (kO rfl)];refine kde.xoa _ gc low high w1 _ 0 (cC _ _ _) (xbj _ _ _) (iZ hg hb1.size) ((hb1.cell (p:=⟨gc,1,none⟩) hg).trans hc1) ((hb1.cell (p:=⟨gc,2,none⟩) hg).trans hc2) fun w2=>?_
  have h5:=hU i hi w2;rw[iP (show fK (up (x.extract (p+32*W*i) (p+32*W*i+32*W)) W) (low+high) from ho)]at h5;exact h5
 ·rw[kpu.xi7 x p (32*W) m i hi hx _ (kO rfl)];refine kde.xoa _ gc low high w1 _ 3 (cC _ _ _) (xbj _ _ _) (iZ hg hb1.size) ((hb1.cell (p:=⟨gc,1,none⟩) hg).trans hc1) ((hb1.cell (p:=⟨gc,2,none⟩) hg).trans hc2) fun w2=>?_
  have h5:=hU i hi w2;rw[iQ (show ¬ fK (up (x.extract (p+32*W*i) (p+32*W*i+32*W)) W) (low+high) from ho)]at h5;exact h5
theorem mn_mm(kn ln r:Nat):mn (kn:Int) (ln:Int) r=((mm kn ln r:Nat):Int):=by unfold mn mm;split<;>rfl
def po(kn ln W r:Nat):Nat:=if r=0 then 128 else if r=1 then 128+32*W*ln else if r=2 then 128+32*W*ln+32*W*kn else 128+32*W*ln+32*W*kn+416*kn
def wf(W r:Nat):Nat:=if r=2 then 13 else W
theorem xqj(kn ln W r:Nat)(hr:r<3):po kn ln W (r+1)=po kn ln W r+32*wf W r*mm kn ln r:=by
 rcases (show r=0\/r=1\/r=2 by omega) with rfl | rfl | rfl<;>rfl
theorem xyo(k l e t a b o s:Int)(x:ByteArray)(w:G)(h:bP k l e t a b o s=true)(hx:(x.size:Int)≠sz2 k l e):
 aD aO 124 #[I (bO k l e t a b o s),E x] w (zB w (aA #[E ⟨#[]⟩,aB none 0 0,O J 3])):=by
 have HR0:=fun w1=>eF.xbo k l e t a b o s w1
 simp only[h]at HR0;have HS0:∀ w1:G,aD aO 20 #[I (bO k l e t a b o s)] w1 (zB w1 (.tuple #[O J (gX k),O J (sz2 k l e),O J (sz3 k l a o s)])):=fun w1=>by
  have h1:=ksz.xdl k l e t a b o s w1;unfold szs at h1;rw[iP h]at h1;exact h1
 obtain⟨n1,en1⟩:=aP (gX k);obtain⟨n2,en2⟩:=aP (sz2 k l e);obtain⟨n3,en3⟩:=aP (sz3 k l a o s);simp only[en1,en2,en3]at HS0 hx;have hn1:((x.size:Int) != n2)=true:=by simpa using hx
 obtain⟨C,HC⟩:=aQ ((bO k l e t a b o s):Array aE);simp only[HC.o]at HR0 HS0 ⊢;have HCs:U ((aO.info? 37).map (·.size)=some C.size):=⟨by rw[<-HC.o];kernel_rfl⟩;obtain⟨W,hW⟩:=aP (w.alloc (Y C 37));obtain⟨r0,hWs,b0⟩:=one hW;have CB:=gW r0;have BW:=D b0;have HW:=D hW;have HR:=D HR0;have HS:=D HS0;clear HR0 HS0 hW r0 hWs b0 h hx en1 en2 en3;go_enter Tryz.func124,Tryz.ntmps124;go_wp2_with (first
  | (rw[HW.o])
  | (refine iL rfl 37 _ rfl w.heap.size rfl 37 _ (0,0) _ (CB.o _ (iR _ _)) zZ rfl HCs.o ?_))
 refine(HR.o _).mono ?_;rintro r u1 ⟨rfl,hb1⟩;have E1:U (zb W u1):=⟨hb1⟩;clear hb1;go_wp2_with (refine iL rfl 37 _ rfl w.heap.size rfl 37 _ (0,0) _ (CB.o _ E1.o) zZ rfl HCs.o ?_);refine(HS.o _).mono ?_;rintro r u2 ⟨rfl,hb2⟩;have E2:=bK E1 hb2;clear hb2;go_wp2_with fail;go_ret3
 exact⟨rfl,BW.o.trans (E2.o.mono BW.o.size)⟩
theorem xrb(kn ln:Nat)(e t a b o s:Int)(x:ByteArray)(w:G)(h:bP (kn:Int) (ln:Int) e t a b o s=true)(hx:(x.size:Int)=sz2 kn ln e):
 aD aO 124 #[I (bO (kn:Int) (ln:Int) e t a b o s),E x] w fun r w'=>((okK x kn ln e/\∃ v,r=.returned (aA #[E (x.extract 0 128),v,O J 0])/\dG.three w' v x kn ln e)\/(¬ okK x kn ln e/\r=.returned (aA #[E ⟨#[]⟩,aB none 0 0,O J 3])))/\zb w w':=by
 obtain⟨hk,hl,he,-⟩:=xbe h;have hk : 1<=kn/\kn<=8:=by omega
 have hl : 1<=ln/\ln<=8:=by omega
 obtain⟨le1,le2,le3⟩:=xg1 e he;have HR0:=fun w1=>eF.xbo (kn:Int) (ln:Int) e t a b o s w1
 simp only[h]at HR0;have HL0:=fun w1=>xlj (kn:Int) (ln:Int) e t a b o s w1
 have HS0:∀ w1:G,aD aO 20 #[I (bO (kn:Int) (ln:Int) e t a b o s)] w1 (zB w1 (.tuple #[O J (gX (kn:Int)),O J (sz2 (kn:Int) (ln:Int) e),O J (sz3 (kn:Int) (ln:Int) a o s)])):=fun w1=>by
  have h1:=ksz.xdl (kn:Int) (ln:Int) e t a b o s w1;unfold szs at h1;rw[iP h]at h1;exact h1
 have hn1:((x.size:Int) != sz2 (kn:Int) (ln:Int) e)=false:=by rw[hx];simp
 have hsz:x.size=128+32*lb (e+e).toNat*ln+32*lb (e+e).toNat*kn+416*kn:=by
  rw[sz2,<-le1]at hx;have e1 : 32*((lb (e+e).toNat:Nat):Int)*((ln:Int)+(kn:Int))=((32*lb (e+e).toNat*ln+32*lb (e+e).toNat*kn:Nat):Int):=by push_cast;rw[mQ]
  omega
 have hbig:x.size<=100000:=by
  have a1 : 32*lb (e+e).toNat*ln<=128*8:=lA (by omega) hl.2;have a2 : 32*lb (e+e).toNat*kn<=128*8:=lA (by omega) hk.2;omega
 obtain⟨n1,en1⟩:=aP (gX (kn:Int));obtain⟨n2,en2⟩:=aP (sz2 (kn:Int) (ln:Int) e);obtain⟨n3,en3⟩:=aP (sz3 (kn:Int) (ln:Int) a o s);simp only[en1,en2,en3]at HS0 hn1;unfold okK dG.three;obtain⟨Wd,hWd⟩:=aP (lb (e+e).toNat);simp only[hWd]at hsz ⊢;have hwl:∀ r,r<3->lb (lw e r+hg e r).toNat=wf Wd r:=fun r hr=>by
  rcases (show r=0\/r=1\/r=2 by omega) with rfl | rfl | rfl
  ·exact hWd
  ·exact hWd
  ·exact xg2
 have hwb:∀ r,wf Wd r<=13:=fun r=>by unfold wf;split<;>omega
 have hmm:∀ r,1<=mm kn ln r/\mm kn ln r<=8:=fun r=>by unfold mm;split<;>omega
 have hP3:po kn ln Wd 3=x.size:=by rw[hsz];rfl
 have hPl:∀ r,r<=3->po kn ln Wd r<=x.size:=fun r hr=>by
  rw[hsz];unfold po;split
  ·omega
  ·split
   ·omega
   ·split<;>omega
 have HSz:U (∀ (r:Nat) (w1:G),r<3->aD aO 70 #[O J (lw e r+hg e r)] w1 (zE w1 (O J (32*(wf Wd r:Int))))):=⟨fun r w1 hr=>xb9 _ _ (by have:=xit e r he;omega) (hwl r hr) (by have:=hwb r;omega) w1⟩;have HD:U (∀ (r gc:Nat) (w1:G),r<3->gc<w1.heap.size->w1.cell? ⟨gc,1,none⟩=some (O J (lw e r))->w1.cell? ⟨gc,2,none⟩=some (O J (hg e r)) ->
  aD aO 73 #[E (x.extract (po kn ln Wd r) (po kn ln Wd (r+1))),O J ((mm kn ln r:Nat):Int),.func (.func 162) #[] #[aC (some ⟨gc,0,none⟩)]] w1 fun y w'=>((okU x (po kn ln Wd r) (wf Wd r) (lw e r+hg e r) (mm kn ln r)/\∃ v,y=.returned (.tuple #[v,O J 0])/\Holds w' w1.heap.size v (mm kn ln r) (iB x (po kn ln Wd r) (wf Wd r) (hg e r)))\/(¬ okU x (po kn ln Wd r) (wf Wd r) (lw e r+hg e r) (mm kn ln r)/\y=.returned (aA #[aB none 0 0,O J 3])))/\zb w1 w'):=⟨fun r gc w1 hr hg' hc1 hc2=>by
  have h6:=xqj kn ln Wd r hr;have h7:=hPl (r+1) (by omega);rw[h6];exact dec_se gc x (po kn ln Wd r) (mm kn ln r) (wf Wd r) (lw e r) (hg e r) w1 (hmm r) (by unfold lw;split<;>omega) (by unfold hg;split<;>omega) (by unfold lw;split<;>omega) (by unfold hg;split<;>omega) (hwl r hr) (by omega) hg' hc1 hc2⟩
 have HStep:U (∀ r,r<3->po kn ln Wd (r+1)=po kn ln Wd r+mm kn ln r*(32*wf Wd r)):=⟨fun r hr=>by rw[xqj kn ln Wd r hr,kI (mm kn ln r)]⟩;obtain⟨okr,hokr⟩:=aQ (fun r=>okU x (po kn ln Wd r) (wf Wd r) (lw e r+hg e r) (mm kn ln r));have hokr2:∀ r,okU x (po kn ln Wd r) (wf Wd r) (lw e r+hg e r) (mm kn ln r)=okr r:=fun r=>by rw[<-hokr.o]
 obtain⟨qr,hqr⟩:=aQ (fun r=>iB x (po kn ln Wd r) (wf Wd r) (hg e r));have hqr2:∀ r,iB x (po kn ln Wd r) (wf Wd r) (hg e r)=qr r:=fun r=>by rw[<-hqr.o]
 have q0:iB x 128 Wd e=qr 0:=hqr2 0;have q1:iB x (128+32*Wd*ln) Wd e=qr 1:=hqr2 1;have q2:iB x (128+32*Wd*ln+32*Wd*kn) 13 4096=qr 2:=hqr2 2;have o0:okU x 128 Wd (e+e) ln=okr 0:=hokr2 0;have o1:okU x (128+32*Wd*ln) Wd (e+e) kn=okr 1:=hokr2 1;have o2:okU x (128+32*Wd*ln+32*Wd*kn) 13 8191 kn=okr 2:=hokr2 2;simp only[q0,q1,q2,o0,o1,o2];simp only[hokr2,hqr2]at HD;have HIx:U (∀ (r:Nat),r<3->∀ w1:G,(aN 102 (I (lst (kn:Int) (ln:Int) e)) (O J (r:Int))).run aO w1=.ok (I #[O J ((mm kn ln r:Nat):Int),O J (lw e r),O J (hg e r)]) w1):=⟨fun r hr w1=>by rw[<-mn_mm];exact xlc (kn:Int) (ln:Int) e r hr w1⟩;have Hlo:U (∀ r,J.wrap (lw e r+hg e r)=lw e r+hg e r):=⟨fun r=>by have:=xit e r he;rw[iN];omega⟩;have Hm0:U (mm kn ln 0=ln/\mm kn ln 1=kn/\mm kn ln 2=kn):=⟨rfl,rfl,rfl⟩;have hP0:po kn ln Wd 0=128:=rfl;have HC0:=D (fun w1=>kpu.xoe x 128 w1 (by omega) (by omega));obtain⟨P,hP⟩:=aQ (po kn ln Wd);obtain⟨wd,hwd⟩:=aQ (wf Wd);obtain⟨lf,hlf⟩:=aQ (lw e);obtain⟨gf,hgf⟩:=aQ (hg e);obtain⟨Ls,hLs⟩:=aQ (lst (kn:Int) (ln:Int) e);obtain⟨mN,hmN⟩:=aQ (mm kn ln);simp only[hP.o,hwd.o,hlf.o,hgf.o,hLs.o,hmN.o]at HIx HD HL0 HSz Hlo HStep Hm0 hwb hmm hP3 hPl hP0;have Hwb:=D hwb;have Hmm:=D hmm;have HPl:=D hPl;have HP3:=D hP3;have HP0:=D hP0;have Hbig:=D hbig;obtain⟨j0,hj,hy0,hy1,hy2⟩:=aY.parts qmat.infoSl;have HJ:=D (jA hj (jA hy0 (jA hy1 hy2)));clear hj hy0 hy1 hy2;obtain⟨C,HC⟩:=aQ ((bO (kn:Int) (ln:Int) e t a b o s):Array aE)
 simp only[HC.o]at HR0 HL0 HS0 ⊢;have HCs:U ((aO.info? 37).map (·.size)=some C.size):=⟨by rw[<-HC.o];kernel_rfl⟩;obtain⟨W,hW⟩:=aP (w.alloc (Y C 37));obtain⟨r0,hWs,b0⟩:=one hW;have CB:=gW r0;have BW:=D b0;have HW:=D hW;have HR:=D HR0;have HS:=D HS0;have HL:=D HL0;clear HR0 HS0 HL0 hW r0 hWs b0 h hx en1 en2 en3 hk hl he le1 le2 le3 hsz hbig hWd hwl hwb hmm hP3 hPl hP0 hokr hokr2 hqr hqr2 q0 q1 q2 o0 o1 o2 hP hwd hlf hgf hLs hmN;go_enter Tryz.func124,Tryz.ntmps124;go_wp2_with (first
  | (rw[HW.o])
  | (refine iL rfl 37 _ rfl w.heap.size rfl 37 _ (0,0) _ (CB.o _ (iR _ _)) zZ rfl HCs.o ?_))
 refine(HR.o _).mono ?_;rintro r u1 ⟨rfl,hb1⟩;have E1:U (zb W u1):=⟨hb1⟩;clear hb1;go_wp2_with (refine iL rfl 37 _ rfl w.heap.size rfl 37 _ (0,0) _ (CB.o _ E1.o) zZ rfl HCs.o ?_);refine(HS.o _).mono ?_;rintro r u2 ⟨rfl,hb2⟩;have E2:=bK E1 hb2;clear hb2;go_wp2_with (refine iL rfl 37 _ rfl w.heap.size rfl 37 _ (0,0) _ (CB.o _ E2.o) zZ rfl HCs.o ?_);refine(HL.o _).mono ?_;rintro r u3 ⟨rfl,hb3⟩;have E3:=bK E2 hb3;clear hb3;go_wp2_with fail;go_loopw [32,11,10] (fun iv av lv wr=>∃ r:Nat,r<=3/\iv=O J (r:Int)/\av=O J ((P r:Nat):Int)/\U (∀ i,i<r->okr i)/\U (∃ vs,wr.ownsRow u3.heap.size 44 1 lv r vs/\Rowm wr lv.ownBlock vs mN qr)/\U (zb u3 wr)) (fun iv _ _ _=>3-(aG iv).toNat)
 case atStart=>exact⟨0,by decide,rfl,by rw[HP0.o];rfl,⟨fun i hi=>by omega⟩,⟨[],⟨rfl,kW ⟨rfl,rfl⟩⟩,fun i v h=>by simp at h⟩,⟨iR _ _⟩⟩
 case round=>
  obtain⟨i,hi,rfl,rfl,Hok,HOv,Hb⟩:=hrel;have BE:=bK E3 Hb.o;by_cases hlt:i<3
  ·have hiz:(i:Int)<3:=by omega
   have hix:=HIx.o i hlt;have f1:=Hlo.o i;have hst:=HStep.o i hlt;have hb1:=HPl.o (i+1) (by omega);have hb3:=Hmm.o i;have hb4:=Hwb.o i;have hbg:=Hbig.o;have HSz':=HSz.o i;have HDi:=HD.o i;obtain⟨m,hm⟩:=aP (mN i);obtain⟨lo,hlo⟩:=aQ (lf i);obtain⟨hi',hhi⟩:=aQ (gf i);rw[hm,hlo.o,hhi.o]at hix;rw[hlo.o,hhi.o]at f1 HSz' HDi;rw[hm]at hst hb3 HDi;have HSz2:=D (fun w1=>HSz' w1 hlt);obtain⟨n,hn⟩:∃ n:Nat,32*wd i=n:=⟨_,rfl⟩;have hnz : 32*((wd i:Nat):Int)=(n:Int):=by omega
   rw[hnz]at HSz2;rw[hn]at hst;obtain⟨p,hp⟩:=aP (m*n);rw[hp]at hst;obtain⟨s0,hs0⟩:=aP (P i);obtain⟨s1,hs1⟩:=aP (P (i+1));rw[hs0,hs1]at HDi;rw[hs0,hs1]at hst;rw[hs1]at hb1;rw[hs0];have f2:J.wrap ((m:Int)*(n:Int))=(p:Int):=by rw[show (m:Int)*(n:Int)=((m*n:Nat):Int) by push_cast;rfl,hp,iN];omega
   have f5:J.wrap ((s0:Int)+(p:Int))=(s1:Int):=bB;have hs01:s0<=s1:=by omega
   have hs1x:s1<=x.size:=hb1;have hs1z:s1<=100000:=by omega
   obtain⟨X,hX⟩:=aQ (x.extract s0 s1);have hex:=hX.o;rw[hX.o]at HDi;have HDc:=D (fun gc w1=>HDi gc w1 hlt);have Hlt:=D hlt;have Hs1:=D hs1;have Hm:=D hm;clear HSz' HDi hst hb1 hb3 hb4 hbg hn hnz hp hs0 hs1 hm hlt hX;obtain⟨W4,hW4⟩:=aP (wr.alloc (Y #[O J (m:Int),O J lo,O J hi'] 101));obtain⟨r4,hs4,b4⟩:=one hW4;have d0:W4.cell? ⟨wr.heap.size,0,none⟩=some (O J (m:Int)):=aZ r4 rfl;have d1:W4.cell? ⟨wr.heap.size,1,none⟩=some (O J lo):=aZ r4 rfl;have d2:W4.cell? ⟨wr.heap.size,2,none⟩=some (O J hi'):=aZ r4 rfl;have B4:=bK Hb b4;have D4:U (zb wr W4):=⟨b4⟩;have R4:=D r4;have HW4:=D hW4;clear r4 hs4 b4 hW4;go_wp2_with (rw[HW4.o]);refine xav (by kernel_rfl) (by kernel_rfl) ?_;repeat still_step
   still_call (HSz2.o _)
   repeat still_step
   refine jR ?_;clear d0 d1 d2;go_wp2_with fail;have KR:∀ w':G,aF W4.heap.size W4.drew w'->w'.heap[wr.heap.size]? = some (Y #[O J (m:Int),O J lo,O J hi'] 101 (0,0)):=fun w' hb=>(hb.block _ (bI R4.o)).trans R4.o
   have KD:∀ w':G,aF W4.heap.size W4.drew w'->w'.cell? ⟨wr.heap.size,0,none⟩=some (O J (m:Int)):=fun w' hb=>aZ (KR w' hb) rfl
   refine xa4 (W4.heap.size) 13 [0,1,2,3,4,5,6,7,8,9,10,11,12] (by kernel_rfl) rfl rfl (by decide) (fun hS ops HO=>?_);simp only[jT,mI,jF,jL];iterate 5 (refine zV hS ?_)
   refine zW KD hS ?_;refine zV hS ?_;refine zS fun K hK=>?_
   go_simp
   have hr0:=KR _ hS;refine(HDc.o _ _ (bI hr0) (aZ hr0 rfl) (aZ hr0 rfl)).mono ?_;rintro r w9 ⟨hv,hb9⟩;have h9:aF W4.heap.size W4.drew w9:=hS.trans (hb9.mono hS.size);have hsz4:W4.heap.size<=W4.drew.drew.heap.size:=hS.size;clear hr0;rcases hv with ⟨bR,v,rfl,hv⟩ | ⟨bR,rfl⟩
   ·obtain⟨gi,ci,e1,hgi⟩:=gD hv;subst e1;refine hK _ _ h9 ?_;clear hK K;try simp only[aM,aR.pa,aR.pb,aR.pc]
    iterate 5 (refine zV h9 ?_)
    refine zN ?_;have F9:U (zb W4 w9):=⟨(xij _ W4 1).trans h9⟩;have E9:=bK B4 F9.o;have HH:U (Holds w9 W4.heap.size (aB (some ⟨gi,0,none⟩) m ci) m (qr i)):=⟨by obtain⟨g2,c2,q1,q2,q3⟩:=hv;exact⟨g2,c2,q1,jJ hsz4 q2,q3⟩⟩;have Hok2:U (∀ j,j<i+1->okr j):=⟨fun j hj=>by
     by_cases e:j=i
     ·rw[e];exact bR
     ·exact Hok.o j (by omega)⟩
    have G9:=bK D4 F9.o;clear hS HO hb9 h9 hv bR hgi KR KD hsz4;obtain⟨vs,hov,hrv⟩:=HOv.o;have hvl:vs.length=i:=by have:=hov.1;omega
    have hov2:U (w9.ownsRow u3.heap.size 44 1 u10 i vs):=⟨xcv hov G9.o⟩;have hrows:U (Rowm w9 u10.ownBlock (vs ++ [aB (some ⟨gi,0,none⟩) m ci]) mN qr):=⟨(hrv.later G9.o).snoc (by rw[hvl,Hm.o];exact HH.o) (fun k hk=>iZ (hov.lt k hk).2 D4.o.size)⟩;have hws:u3.heap.size<=w9.heap.size:=E9.o.size;have hio:=Hlt.o;clear hov hrv;go_wp2_with (at_builtin;refine wpList_append_own_at _ rfl _ _ 74 rfl u3.heap.size 44 j0 (aB none 0 0) 1 24 Tryz.underlying74 HJ.o.1 HJ.o.2.1 HJ.o.2.2.1 HJ.o.2.2.2 rfl (by decide) _ _ _ rfl (hov2.o.alloc _) ⟨w9.heap.size,0,none⟩ 1 1 [aB (some ⟨gi,0,none⟩) m ci] rfl rfl (fun j u hu=>xxk _ _ _ j u hu) (fun u hu=>by rw[List.mem_singleton]at hu;subst hu;rfl) (by unfold maxLen;omega) (by omega) (by rw[size_alloc];omega) ?_);intro v' w8 hown' hgrow _ hblk;have hb8:aF u3.heap.size w9 w8:=((iR u3.heap.size w9).alloc hws _).grown hgrow (by rw[size_alloc];omega) (fun k hk=>(hov2.o.lt k hk).1);have B8:U (zb u3 w8):=⟨E9.o.trans hb8⟩;have O8:U (∃ vs,w8.ownsRow u3.heap.size 44 1 v' (i+1) vs/\Rowm w8 v'.ownBlock vs mN qr):=⟨_,hown',(hrows.o.later (xby _ _)).grown hgrow (by rw[size_alloc];exact hblk)⟩;clear hown' hgrow hb8 hblk hio;go_wp2_with fail;go_roundw
    case rel=>exact⟨i+1,by have:=Hlt.o;omega,by go_num,by rw[Hs1.o],Hok2,O8,B8⟩
    case measure=>have:=Hlt.o;simp[aG];omega
   ·refine hK _ _ h9 ?_;clear hK K;try simp only[aM,aR.pa,aR.pb,aR.pc]
    iterate 5 (refine zV h9 ?_)
    refine zN ?_;have F9:U (zb W4 w9):=⟨(xij _ W4 1).trans h9⟩;have E9:U (zb W w9):=⟨E3.o.trans ((B4.o.trans (F9.o.mono B4.o.size)).mono E3.o.size)⟩;have Hno:U (¬ (okr 0/\okr 1/\okr 2)):=⟨fun q=>bR (by
     rcases (show i=0\/i=1\/i=2 by have:=Hlt.o;omega) with rfl | rfl | rfl
     ·exact q.1
     ·exact q.2.1
     ·exact q.2.2)⟩
    clear hS HO hb9 h9 bR KR KD hsz4;go_wp2_with fail;go_ret3
    exact⟨kO ⟨Hno.o,rfl⟩,BW.o.trans (E9.o.mono BW.o.size)⟩
  ·obtain rfl:i=3:=by omega
   simp only[jE];obtain⟨vs,hov,hrv⟩:=HOv.o;have hvl:vs.length=3:=by have:=hov.1;omega
   obtain⟨g,c,e1⟩:=bA.xbu (by decide) hov;subst e1;have HT:U (∀ w':G,zb wr w'->∃ g1 c1 v1 v2 v3,Value.slice (some ⟨g,0,none⟩) 3 c=aB (some ⟨g1,0,none⟩) 3 c1/\g1<w'.heap.size/\w'.cell? ⟨g1,0,none⟩=some v1/\w'.cell? ⟨g1,1,none⟩=some v2/\w'.cell? ⟨g1,2,none⟩=some v3/\Holds w' 0 v1 ln (qr 0)/\Holds w' 0 v2 kn (qr 1)/\Holds w' 0 v3 kn (qr 2)):=⟨fun w' hb=>by
    have hgl:=(hov.lt g rfl).2;have hh:∀ j,j<3->∃ v,w'.cell? ⟨g,j,none⟩=some v/\Holds w' 0 v (mN j) (qr j):=fun j hj=>by
     have hv:vs[j]? = some vs[j]:=iT (by omega);obtain⟨g2,c2,e2,q1,-,q3⟩:=hrv j _ hv;refine⟨vs[j],(hb.cell (p:=⟨g,j,none⟩) hgl).trans ((hov.cellAt j (by omega)).trans hv),g2,c2,e2,iX _,iZ q1 hb.size,fun s hs k hk=>(hb.cell (p:=⟨g2,256*s+k,none⟩) q1).trans (q3 s hs k hk)⟩
    obtain⟨v1,c1,H1⟩:=hh 0 (by decide);obtain⟨v2,c2,H2⟩:=hh 1 (by decide);obtain⟨v3,c3,H3⟩:=hh 2 (by decide);obtain⟨m0,m1,m2⟩:=Hm0.o;rw[m0]at H1;rw[m1]at H2;rw[m2]at H3;exact⟨g,c,v1,v2,v3,rfl,iZ hgl hb.size,c1,c2,c3,H1,H2,H3⟩⟩
   clear hov hrv;go_wp2_with fail;refine(HC0.o _).mono ?_;rintro r w5 ⟨rfl,hb5⟩;have B5:U (zb wr w5):=⟨hb5⟩;clear hb5;go_wp2_with fail;go_ret3
   exact⟨kW ⟨⟨Hok.o 0 (by decide),Hok.o 1 (by decide),Hok.o 2 (by decide)⟩,_,rfl,HT.o _ B5.o⟩,BW.o.trans ((BE.o.trans (B5.o.mono BE.o.size)).mono BW.o.size)⟩
end kse
namespace kpr
open arr mem bD aT aV bS aW aY bA bL bY cG dQ bQ eP cV eM bZ dJ dN rksb dW
open bF (bP)
open fO fD bM cZ bU bT dD mlkd
theorem xd8{T:Array aE}(Z:Nat->Int)(kn ln:Nat)(e t a b o s:Int)(sd:ByteArray)(w:G)(hK:KT T TL RL)(hP:Gp w)(hT:cE.ZT T Z)(h:bP (kn:Int) (ln:Int) e t a b o s=true)(hsd:sd.size=32):
 aD aO 18 #[I T,I (bO (kn:Int) (ln:Int) e t a b o s),E sd] w (zB w (aA #[E (pPk (fun k=>Z k%8380417) sd kn ln e),E (pSk (fun k=>Z k%8380417) sd kn ln e),O J 0])):=by
 obtain⟨hk,hl,-,he,-⟩:=xde h;have hk : 1<=kn/\kn<=8:=by omega
 have hl : 1<=ln/\ln<=8:=by omega
 have HR0:∀ w1:G,aD aO 49 #[I (bO (kn:Int) (ln:Int) e t a b o s)] w1 (zB w1 (.bool true)):=fun w1=>by rw[<-h];exact eF.xbo _ _ e t a b o s w1
 have HSe0:∀ w1:G,Gp w1->aD aO 63 #[I T,I (bO (kn:Int) (ln:Int) e t a b o s),E (cB sd kn ln)] w1 fun x w'=>(∃ v1 v2,x=.returned (.tuple #[v1,v2])/\Holds w' w1.heap.size v1 ln (qS (cB sd kn ln) e)/\Holds w' w1.heap.size v2 kn (fun i=>qS (cB sd kn ln) e (ln+i)))/\zb w1 w':=fun w1 hg=>iI.secrets kn ln e t a b o s _ w1 hK hg h (by rw[xwo];decide)
 have HMa0:∀ w1:G,Gp w1->aD aO 33 #[I T,I (bO (kn:Int) (ln:Int) e t a b o s),E (cI sd kn ln)] w1 fun x w'=>(∃ v,x=.returned v/\MX w' v kn (fun _=>ln) (qX (cI sd kn ln)))/\zb w1 w':=fun w1 hg=>by
  refine(iI.matrix kn ln e t a b o s _ w1 hK hg h (by rw[xbv];decide)).mono ?_;rintro x w' ⟨⟨v,vs,rfl,h1,h2⟩,hb⟩;exact⟨⟨v,rfl,xi1 hk.1 h1 h2⟩,hb⟩
 obtain⟨ζ,hζ⟩:=aQ (fun k=>Z k%8380417);have HRw0:∀ (w1:G) (v vv:aE) (B:Nat),MX w1 v kn (fun _=>ln) (qX (cI sd kn ln))->Holds w1 B vv ln (qS (cB sd kn ln) e)->aD aO 32 #[I T,v,vv] w1 fun e' w'=>(∃ v',e'=.returned v'/\Holds w' w1.heap.size v' kn (fun r=>cQ ζ (qX (cI sd kn ln) r) (qS (cB sd kn ln) e) ln))/\zb w1 w':=fun w1 v vv B h1 h2=>by
  have h3:=krw.xhg T Z kn ln (fun _=>ln) (qX (cI sd kn ln)) (qS (cB sd kn ln) e) v vv B w1 hK.size hT hk (fun _ _=>hl.2) hl h1 h2;simp only[Nat.min_self,hζ.o]at h3;exact h3
 have HSp0:∀ (w1:G) (v vb:aE) (B B':Nat),Holds w1 B v kn (fun r=>cQ ζ (qX (cI sd kn ln) r) (qS (cB sd kn ln) e) ln)->Holds w1 B' vb kn (fun i=>qS (cB sd kn ln) e (ln+i))->aD aO 64 #[v,vb] w1 fun x w'=>(∃ v1 v2,x=.returned (.tuple #[v1,v2])/\Holds w' w1.heap.size v1 kn (pHi ζ sd kn ln e)/\Holds w' w1.heap.size v2 kn (pLo ζ sd kn ln e))/\zb w1 w':=fun w1 v vb B B' h1 h2=>ksp.xgc kn v vb B B' _ _ w1 hk h1 h2
 have HPb0:∀ (w1:G) (v:aE) (B:Nat),Holds w1 B v kn (pHi ζ sd kn ln e)->aD aO 65 #[I (bO (kn:Int) (ln:Int) e t a b o s),E (cI sd kn ln),v] w1 (zB w1 (aA #[E (pPk ζ sd kn ln e),O J 0])):=fun w1 v B hv=>by
  have h1:=kpb.pb_any kn ln e t a b o s (cI sd kn ln) v B _ w1 h (xbv _ _ _) hv;unfold resP at h1;rw[iP (show okP (pHi ζ sd kn ln e) 1023 kn from fun i _=>xqa ζ sd kn ln e i)]at h1;exact h1
 have HSb0:∀ (w1:G) (va vb vl:aE) (Ba Bb Bl:Nat),Holds w1 Ba va ln (qS (cB sd kn ln) e)->Holds w1 Bb vb kn (fun i=>qS (cB sd kn ln) e (ln+i))->Holds w1 Bl vl kn (pLo ζ sd kn ln e)->aD aO 66 #[I (bO (kn:Int) (ln:Int) e t a b o s),E (cI sd kn ln++pKey sd kn ln++pTr ζ sd kn ln e),va,vb,vl] w1 (zB w1 (aA #[E (pSk ζ sd kn ln e),O J 0])):=fun w1 va vb vl Ba Bb Bl h1 h2 h3=>by
  have h4:=ksb.sb_any kn ln e t a b o s (dT ζ sd kn ln e) va vb vl Ba Bb Bl _ _ _ w1 h (xfy _ _ _ _ _) h1 h2 h3;unfold resK at h4;rw[iP ⟨fun i _=>xf7 _ e he i,fun i _=>xf7 _ e he (ln+i),fun i _=>xl1 ζ sd kn ln e i⟩]at h4;exact h4
 have HS10:∀ w1:G,Gp w1->w1.heap[w.heap.size]? = some (Y T 34 (0,0))->aD aO 62 #[aC (some ⟨w.heap.size,0,none⟩),E (tw sd kn ln),O J 128] w1 (zB w1 (E (pS sd kn ln))):=fun w1 hg hr=>ksh.xc8 w.heap.size _ 128 w1 hK hg hr (by decide) (by rw[xhv];omega)
 have HS20:∀ w1:G,Gp w1->w1.heap[w.heap.size]? = some (Y T 34 (0,0))->aD aO 62 #[aC (some ⟨w.heap.size,0,none⟩),E (pPk ζ sd kn ln e),O J 64] w1 (zB w1 (E (pTr ζ sd kn ln e))):=fun w1 hg hr=>ksh.xc8 w.heap.size _ 64 w1 hK hg hr (by decide) (by rw[xl2];omega)
 rw[hζ.o];have HTz:U ((aO.info? 34).map (·.size)=some T.size):=⟨dI T hK⟩;have HP:=D hP;obtain⟨ρS,hρS⟩:=aQ (pS sd kn ln);obtain⟨ρR,hρR⟩:=aQ (cI sd kn ln);obtain⟨ρK,hρK⟩:=aQ (pKey sd kn ln);obtain⟨ρG,hρG⟩:=aQ (cB sd kn ln);obtain⟨PK,hPK⟩:=aQ (pPk ζ sd kn ln e);obtain⟨SK,hSK⟩:=aQ (pSk ζ sd kn ln e);obtain⟨TR,hTR⟩:=aQ (pTr ζ sd kn ln e);obtain⟨A,hA⟩:=aQ (qS (cB sd kn ln) e);obtain⟨Bq,hBq⟩:=aQ (fun i=>qS (cB sd kn ln) e (ln+i));obtain⟨Yq,hY⟩:=aQ (fun r=>cQ ζ (qX (cI sd kn ln) r) (qS (cB sd kn ln) e) ln);obtain⟨X,hX⟩:=aQ (qX (cI sd kn ln));obtain⟨hi,hhi⟩:=aQ (pHi ζ sd kn ln e);obtain⟨lo,hlo⟩:=aQ (pLo ζ sd kn ln e);have sS : ρS.size=128:=by rw[<-hρS.o];exact xi5 _ _ _
 have sR : ρR.size=32:=by rw[<-hρR.o];exact xbv _ _ _
 have sK : ρK.size=32:=by rw[<-hρK.o];exact xe5 _ _ _
 have sT:TR.size=64:=by rw[<-hTR.o];exact xl3 _ _ _ _ _
 have eR : ρS.extract 0 32 = ρR:=by rw[<-hρS.o,<-hρR.o];rfl
 have eG : ρS.extract 32 96 = ρG:=by rw[<-hρS.o,<-hρG.o];rfl
 have eK : ρS.extract 96 128 = ρK:=by rw[<-hρS.o,<-hρK.o];rfl
 simp only[hBq.o]at HSe0 HSb0 HSp0;simp only[hY.o]at HRw0 HSp0;simp only[hX.o]at HMa0 HRw0;simp only[hρS.o,hρR.o,hρK.o,hρG.o,hPK.o,hSK.o,hTR.o,hhi.o,hlo.o]at HS10 HS20 HSe0 HMa0 HRw0 HPb0 HSb0 HSp0 hA ⊢;simp only[hA.o]at HSe0 HRw0 HSb0;have HeR:=D eR;have HeG:=D eG;have HeK:=D eK;have Hk:=D hk;have Hl:=D hl;clear hρS hρR hρK hρG hPK hSK hTR hA hBq hX hhi hlo hY hζ hT hK h he hk hl eR eG eK hP;obtain⟨C,HC⟩:=aQ ((bO (kn:Int) (ln:Int) e t a b o s):Array aE);simp only[HC.o]at HR0 HSe0 HMa0 HPb0 HSb0 ⊢;have HCs:U ((aO.info? 37).map (·.size)=some C.size):=⟨by rw[<-HC.o];kernel_rfl⟩;obtain⟨W,hW⟩:=aP ((w.alloc (Y T 34)).alloc (Y C 37));obtain⟨r0,r1,hWs,b0⟩:=two hW;have TB:U (∀ w':G,zb W w'->w'.heap[w.heap.size]? = some (Y T 34 (0,0))):=⟨fun w' hb=>(hb.block _ (by rw[hWs];omega)).trans r0⟩;have CB:U (∀ w':G,zb W w'->w'.heap[w.heap.size+1]? = some (Y C 37 (0,0))):=⟨fun w' hb=>(hb.block _ (by rw[hWs];omega)).trans r1⟩;have BW:=D b0;have HW:=D hW;have HR:=D HR0;have HS1:=D HS10;have HS2:=D HS20;have HSe:=D HSe0;have HMa:=D HMa0;have HRw:=D HRw0;have HSp:=D HSp0;have HPb:=D HPb0;have HSb:=D HSb0;have GP:U (∀ w':G,zb W w'->Gp w'):=⟨fun w' hb=>HP.o.later (BW.o.trans (hb.mono BW.o.size))⟩;have hsz:(sd.size:Int)=32:=by omega
 have hsR:(ρR.size:Int)=32:=by omega
 have hsdz:=hsd;clear HR0 HS10 HS20 HSe0 HMa0 HRw0 HSp0 HPb0 HSb0 hW r0 r1 hWs b0 hsd;go_enter Tryz.func18,Tryz.ntmps18;go_wp2_with (first
  | (rw[HW.o])
  | (refine iL rfl 37 _ rfl (w.heap.size+1) rfl 37 _ (0,0) _ (CB.o _ (iR _ _)) zZ rfl HCs.o ?_))
 refine(HR.o _).mono ?_;rintro x u1 ⟨rfl,hb1⟩;have E1:U (zb W u1):=⟨hb1⟩;have cK:u1.cell? ⟨w.heap.size+1,0,none⟩=some (O J (kn:Int)):=aZ (CB.o _ hb1) (by rw[<-HC.o];rfl);have cL:u1.cell? ⟨w.heap.size+1,1,none⟩=some (O J (ln:Int)):=aZ (CB.o _ hb1) (by rw[<-HC.o];rfl);have f8k:IntKind.u8.wrap (kn:Int)=(kn:Int):=by rw[kU];have:=Hk.o;omega
 have f8l:IntKind.u8.wrap (ln:Int)=(ln:Int):=by rw[kU];have:=Hl.o;omega
 obtain⟨W2,hW2⟩:=aP (u1.alloc (Y #[O .u8 (kn:Int),O .u8 (ln:Int)] 5));obtain⟨r2,hs2,b2⟩:=one hW2;have hcv:=xeo (t:=5) (l:=[kn,ln]) (cap:=2) (n:=2) rfl (by have:=Hk.o;have:=Hl.o;simp;omega) r2;obtain⟨XX,hXX⟩:∃ X:ByteArray,⟨(cP [kn,ln]).toArray⟩=X:=⟨_,rfl⟩;have hXs:XX.size=2:=by rw[<-hXX];rfl
 have hcat:sd++XX=tw sd kn ln:=by rw[<-hXX];rfl
 rw[hXX]at hcv;have E2:U (zb W W2):=⟨hb1.trans (b2.mono hb1.size)⟩;have HW2:=D hW2;have HS1a:=HS1.o W2 (GP.o _ E2.o) (TB.o _ E2.o);rw[<-hcat]at HS1a;have HS1b:=D HS1a;clear hXX hcat r2 hs2 b2 hW2 hb1 HS1a;go_wp2_with (rw[HW2.o]);refine HS1b.o.mono ?_;rintro x w3 ⟨rfl,hb3⟩;have E3:=bK E2 hb3;clear HS1b hb3 hcv cK cL hXs;have hsSz:(ρS.size:Int)=128:=by omega
 have hsSn : ρS.size=128:=sS;have e0:=HeR.o;have e1:=HeG.o;have e2:=HeK.o;go_wp2_with fail;refine xav (by kernel_rfl) (by kernel_rfl) ?_;repeat still_step
 refine jR ?_;clear e0 e1 e2;have E4:U (zb W w3.drew):=⟨E3.o.drew⟩;go_wp2_with (first
  | (refine iL rfl 34 _ rfl w.heap.size rfl 34 T (0,0) _ (TB.o _ E4.o) zY rfl HTz.o ?_)
  | (refine iL rfl 37 _ rfl (w.heap.size+1) rfl 37 _ (0,0) _ (CB.o _ E4.o) zZ rfl HCs.o ?_))
 refine(HSe.o _ (GP.o _ E4.o)).mono ?_;rintro x w5 ⟨⟨va,vb,rfl,ha,hb⟩,hb5⟩;have E5:=bK E4 hb5;have Ba:=D ha;have Bb:=D hb;obtain⟨B1,hB1⟩:=aP w3.drew.heap.size;rw[hB1]at Ba Bb;clear hb5 ha hb hB1;go_wp2_with fail;have KT5:U (∀ w':G,zb w5 w'->w'.heap[w.heap.size]? = some (Y T 34 (0,0))):=⟨fun w' hb=>TB.o w' (E5.o.trans (hb.mono E5.o.size))⟩;have KC5:U (∀ w':G,zb w5 w'->w'.heap[w.heap.size+1]? = some (Y C 37 (0,0))):=⟨fun w' hb=>CB.o w' (E5.o.trans (hb.mono E5.o.size))⟩;refine xa4 (w5.heap.size) 14 [0,1,2,3,5,7,4,6,8,9,10,11,12,13] (by kernel_rfl) rfl rfl (by decide) (fun hS ops HO=>?_);simp only[jT,mI,jF,jL];iterate 2 (refine aR.gP (by rw[<-HO.o];kernel_rfl) (fun _ _ _ _ h=>h) 34 _ rfl (w.heap.size) rfl 34 T _ KT5.o zY rfl HTz.o (hS) ?_;simp only[aM,aR.pa,aR.pb,aR.pc])
 refine aR.gP (by rw[<-HO.o];kernel_rfl) (fun _ _ _ _ h=>h) 37 _ rfl (w.heap.size+1) rfl 37 C _ KC5.o zZ rfl HCs.o (hS) ?_;simp only[aM,aR.pa,aR.pb,aR.pc];iterate 3 (refine zV hS ?_)
 refine zS fun K hK=>?_
 go_simp
 refine(HMa.o _ (GP.o _ (E5.o.trans (hS.mono E5.o.size)))).mono ?_;rintro x w6 ⟨⟨vm,rfl,hm⟩,hb6⟩;have h6:=zbm hS hb6;refine hK _ _ h6 ?_;clear hK K;try simp only[aM,aR.pa,aR.pb,aR.pc]
 refine zS fun K hK=>?_
 go_simp
 refine(HRw.o _ _ _ _ hm (Ba.o.later h6)).mono ?_;rintro x w7 ⟨⟨vr,rfl,hr⟩,hb7⟩;have h7:=zbm h6 hb7;refine hK _ _ h7 ?_;clear hK K;try simp only[aM,aR.pa,aR.pb,aR.pc]
 refine zS fun K hK=>?_
 go_simp
 refine(HSp.o _ _ _ _ _ hr (Bb.o.later h7)).mono ?_;rintro x w8 ⟨⟨vh,vl,rfl,hh,hl⟩,hb8⟩;have h8:=zbm h7 hb8;refine hK _ _ h8 ?_;clear hK K;try simp only[aM,aR.pa,aR.pb,aR.pc]
 iterate 5 (refine zV h8 ?_)
 refine zN ?_;have E8:=bK E5 h8;have Bh:=D hh;have Bl:=D hl;have Ba8:=D (Ba.o.later h8);have Bb8:=D (Bb.o.later h8);clear hS HO hb6 h6 hm hb7 h7 hr hb8 h8 hh hl KT5 KC5 Ba Bb;go_wp2_with (refine iL rfl 37 _ rfl (w.heap.size+1) rfl 37 _ (0,0) _ (CB.o _ E8.o) zZ rfl HCs.o ?_);refine(HPb.o _ _ _ Bh.o).mono ?_;rintro x w9 ⟨rfl,hb9⟩;have E9:=bK E8 hb9;have Ba9:=D (Ba8.o.later hb9);have Bb9:=D (Bb8.o.later hb9);have Bl9:=D (Bl.o.later hb9);clear hb9 Bh Ba8 Bb8 Bl;go_wp2_with fail;have KC9:U (∀ w':G,zb w9 w'->w'.heap[w.heap.size+1]? = some (Y C 37 (0,0))):=⟨fun w' hb=>CB.o w' (E9.o.trans (hb.mono E9.o.size))⟩;have z1:¬ 9223372036854775807 < ρR.size + ρK.size:=by omega
 have z2:(ρR ++ ρK).size=64:=by rw[jS];omega
 obtain⟨RK,hRK⟩:=aP (ρR ++ ρK);rw[hRK]at z2;have z3:¬ 9223372036854775807<RK.size+TR.size:=by omega
 have hRK2 : ρR ++ ρK++TR=RK++TR:=by rw[hRK]
 have HRK2:=D hRK2;clear hRK2;refine xa4 (w9.heap.size) 16 [0,1,2,3,4,7,8,9,5,6,10,11,12,13,14,15] (by kernel_rfl) rfl rfl (by decide) (fun hS ops HO=>?_);simp only[jT,mI,jF,jL];refine aR.gP (by rw[<-HO.o];kernel_rfl) (fun _ _ _ _ h=>h) 37 _ rfl (w.heap.size+1) rfl 37 C _ KC9.o zZ rfl HCs.o (hS) ?_;simp only[aM,aR.pa,aR.pb,aR.pc];iterate 7 (refine zV hS ?_)
 refine zS fun K hK=>?_
 go_simp
 have b5:=E9.o.trans (hS.mono E9.o.size);refine(HS2.o _ (GP.o _ b5) (TB.o _ b5)).mono ?_;rintro x w10 ⟨rfl,hb10⟩;have h10:=zbm hS hb10;refine hK _ _ h10 ?_;clear hK K b5;try simp only[aM,aR.pa,aR.pb,aR.pc]
 refine zV h10 ?_;refine zS fun K hK=>?_
 go_simp
 have hcl:=HSb.o _ _ _ _ _ _ _ (Ba9.o.later h10) (Bb9.o.later h10) (Bl9.o.later h10);rw[HRK2.o]at hcl;refine hcl.mono ?_;clear hcl;rintro x w11 ⟨rfl,hb11⟩;have h11:=zbm h10 hb11;refine hK _ _ h11 ?_;clear hK K;try simp only[aM,aR.pa,aR.pb,aR.pc]
 iterate 5 (refine zV h11 ?_)
 refine zN ?_;have E11:=bK E9 h11;clear hS HO hb10 h10 hb11 h11 KC9;go_wp2_with fail;go_ret3
 exact⟨rfl,BW.o.trans (E11.o.mono BW.o.size)⟩
end kpr
namespace pinc
open arr mem bD bC
def incs(s:ByteArray):Prop:=∀ k,k<s.size->0<k->(aU s).getD (k-1) 0<(aU s).getD k 0
instance (s:ByteArray):Decidable (incs s):=by unfold incs;exact inferInstance
theorem xtt(s:ByteArray)(k:Nat):(aU s).getD k 0<256:=by
 by_cases hj:k<(aU s).length
 ·rw[iO,iT hj];exact fG s _ (kZ hj)
 ·rw[iO,jY (by omega)];decide
theorem xu4(s:ByteArray)(n:Nat)(hn:s.size=n)(hs:n<4294967296)(w:G):aD aO 105 #[E s] w (zB w (.bool (decide (incs s)))):=by
 obtain⟨V,HV⟩:=aQ (decide (incs s));rw[HV.o];have Hix:U (∀ j,j<n->∀ w1:G,(aN 9 (E s) (O J (j:Int))).run aO w1=.ok (O .u8 (((aU s).getD j 0:Nat):Int)) w1):=⟨fun j hj w1=>byte_of s j _ (by omega) rfl w1⟩;have Hsz:=D hn;go_enter Tryz.func105,Tryz.ntmps105;go_wp2_with fail;go_loopw [3] (fun v wr=>∃ k:Nat,1<=k/\(k<=n\/k=1)/\v=O J (k:Int)/\U (∀ j,j<k->j<n->0<j->(aU s).getD (j-1) 0<(aU s).getD j 0)/\U (zb w wr)) (fun v _=>n+1-(aG v).toNat)
 case atStart=>exact⟨1,iM _,kO rfl,rfl,⟨fun j h1 _ h2=>by omega⟩,⟨iR _ _⟩⟩
 case round=>
  obtain⟨k,hk1,hkn,rfl,Hin,Hb⟩:=hrel;by_cases hlt:k<n
  ·have hkz:(k:Int)<(n:Int):=by omega
   have hkz2:(k:Int)<(s.size:Int):=by omega
   have i1:=Hix.o k hlt;have i2:=Hix.o (k-1) (by omega);obtain⟨k1,hk⟩:=aP (k-1);rw[hk]at i2;have fk1:J.wrap ((k:Int)-1)=(k1:Int):=bB;obtain⟨a,ha⟩:=aP ((aU s).getD k1 0);obtain⟨b,hb⟩:=aP ((aU s).getD k 0);rw[hb]at i1;rw[ha]at i2;have BD:U (zb w wr.drew):=⟨Hb.o.drew⟩;by_cases hab:b<=a
   ·have hV:U (V=false):=⟨by
     rw[<-HV.o];refine jN fun h=>?_
     have:=h k (by rw[hn];exact hlt) (by omega);rw[hk,ha,hb]at this;omega⟩
    have fd:decide ((b:Int)<=(a:Int))=true:=jP (by omega);have fd2:decide (b<=a)=true:=jP hab;clear hk ha hb;go_wp2_with fail;refine xav (by kernel_rfl) (by kernel_rfl) ?_;repeat still_step
    refine jR ?_;go_wp2_with fail;go_ret;exact⟨by rw[hV.o];rfl,BD.o⟩
   ·have Hin2:U (∀ j,j<k+1->j<n->0<j->(aU s).getD (j-1) 0<(aU s).getD j 0):=⟨fun j h1 h2 h3=>by
     by_cases e:j=k
     ·subst e;rw[hk,ha,hb];omega
     ·exact Hin.o j (by omega) h2 h3⟩
    have fd:decide ((b:Int)<=(a:Int))=false:=jN (by omega);have fd2:decide (b<=a)=false:=jN hab;clear hk ha hb;go_wp2_with fail;refine xav (by kernel_rfl) (by kernel_rfl) ?_;repeat still_step
    refine jR ?_;go_wp2_with fail;go_roundw
    case rel=>exact⟨k+1,by omega,kW (by omega),by go_num,Hin2,BD⟩
    case measure=>simp[aG];omega
  ·have hkz:¬ (k:Int)<(n:Int):=by omega
   have hkz2:¬ (k:Int)<(s.size:Int):=by omega
   have hV:U (V=true):=⟨by
    rw[<-HV.o];exact jP fun j h1 h2=>Hin.o j (by omega) (by omega) h2⟩
   go_wp2_with fail;go_ret;exact⟨by rw[hV.o];rfl,Hb.o⟩
end pinc
namespace dX
open arr mem
theorem xft(o m:Int)(w:G):aD aO 104 #[O J o,O J m] w (zE w (.bool (decide (1<=o/\o<=255/\1<=m/\m<=8)))):=by
 by_cases c0 : 1<=o
 rotate_left
 ·rw[jN (fun h=>c0 h.1)];go_enter Tryz.func104,Tryz.ntmps104;go_wp2_with fail;go_ret;exact⟨rfl,rfl⟩
 by_cases c1:o<=255
 rotate_left
 ·rw[jN (fun h=>c1 h.2.1)];go_enter Tryz.func104,Tryz.ntmps104;go_wp2_with fail;go_ret;exact⟨rfl,rfl⟩
 by_cases c2 : 1<=m
 rotate_left
 ·rw[jN (fun h=>c2 h.2.2.1)];go_enter Tryz.func104,Tryz.ntmps104;go_wp2_with fail;go_ret;exact⟨rfl,rfl⟩
 by_cases c3:m<=8
 rotate_left
 ·rw[jN (fun h=>c3 h.2.2.2)];go_enter Tryz.func104,Tryz.ntmps104;go_wp2_with fail;go_ret;exact⟨rfl,rfl⟩
 rw[jP ⟨c0,c1,c2,c3⟩];go_enter Tryz.func104,Tryz.ntmps104;go_wp2_with fail;go_ret;exact⟨rfl,rfl⟩
end dX
namespace shelft
open Go.Shelf
def xve:Go.Shelf.Ren:=⟨fun | 231=>148 | n=>n,fun | 3=>3 | 4=>4 | 5=>5 | 9=>9 | n=>n,fun | n=>n⟩
theorem laysL:Go.Proofs.Lays.n231 aO xve:={
 mixed:=by kernel_rfl
 f231:=Tryz.func148.trans (lD some (by kernel_rfl))
 t3:=Tryz.underlying3
 a3:=Tryz.isAgg3
 z3:=Tryz.sizeOf3
 v3:=Tryz.zeroValue3
 t4:=Tryz.underlying4
 a4:=Tryz.isAgg4
 z4:=Tryz.sizeOf4
 v4:=Tryz.zeroValue4
 t5:=Tryz.underlying5
 a5:=Tryz.isAgg5
 z5:=Tryz.sizeOf5
 v5:=Tryz.zeroValue5
 t9:=Tryz.underlying9
 a9:=Tryz.isAgg9
 z9:=Tryz.sizeOf9
 v9:=Tryz.zeroValue9 }
def xvf:Go.Shelf.Ren:=⟨fun | 232=>149 | n=>n,fun | 3=>3 | 4=>4 | 5=>5 | 9=>9 | n=>n,fun | n=>n⟩
theorem laysR:Go.Proofs.Lays.n232 aO xvf:={
 mixed:=by kernel_rfl
 f232:=Tryz.func149.trans (lD some (by kernel_rfl))
 t3:=Tryz.underlying3
 a3:=Tryz.isAgg3
 z3:=Tryz.sizeOf3
 v3:=Tryz.zeroValue3
 t4:=Tryz.underlying4
 a4:=Tryz.isAgg4
 z4:=Tryz.sizeOf4
 v4:=Tryz.zeroValue4
 t5:=Tryz.underlying5
 a5:=Tryz.isAgg5
 z5:=Tryz.sizeOf5
 v5:=Tryz.zeroValue5
 t9:=Tryz.underlying9
 a9:=Tryz.isAgg9
 z9:=Tryz.sizeOf9
 v9:=Tryz.zeroValue9 }
open Go.RowKit in
theorem left0(s:ByteArray)(w:G):aD aO 148 #[E s,O .u8 0] w (zE w (E ⟨(Lib.trimLeftB s.data.toList 0).toArray⟩)):=Any.strings_trimLeftByte laysL s 0 w
open Go.RowKit in
theorem right0(s:ByteArray)(hs:s.size<=9223372036854775807)(w:G):aD aO 149 #[E s,O .u8 0] w (zE w (E ⟨(Lib.trimRightB s.data.toList 0).toArray⟩)):=Any.strings_trimRightByte laysR s 0 w hs
end shelft
namespace trims
open arr mem bD
theorem xkw(l:List UInt8):l.dropWhile (· == (0:UInt8))=[]↔∀ b∈l,b=0:=by
 induction l with
 | nil=>simp
 | cons x l ih=>
  rw[List.dropWhile_cons];by_cases h:x=0
  ·subst h;simp[ih]
  ·have:(x==(0:UInt8))=false:=by simpa using h
   rw[this];simp[h]
theorem dw_head(l:List UInt8)(x:UInt8)(r:List UInt8)(h:l.dropWhile (· == (0:UInt8))=x :: r):x≠0/\x∈l:=by
 induction l with
 | nil=>simp at h
 | cons y l ih=>
  rw[List.dropWhile_cons]at h;by_cases e:y=0
  ·subst e;simp at h;exact⟨(ih h).1,List.mem_cons_of_mem _ (ih h).2⟩
  ·have e2:(y==(0:UInt8))=false:=by simpa using e
   rw[e2]at h;simp at h;rw[<-h.1];exact⟨e,by simp⟩
theorem xzt(l:List UInt8)(h:∀ b∈l,b=0):Lib.trimB l 0=[]:=by
 have h1:l.reverse.dropWhile (· == (0:UInt8))=[]:=(xkw _).2 fun b hb=>h b (by simpa using hb)
 unfold Lib.trimB Lib.trimRightB Lib.trimLeftB;rw[h1];rfl
theorem xzu(l:List UInt8)(h:¬ ∀ b∈l,b=0):Lib.trimB l 0≠[]:=by
 intro e;unfold Lib.trimB Lib.trimRightB Lib.trimLeftB at e;have e1:=(xkw _).1 e;rcases hq:l.reverse.dropWhile (· == (0:UInt8)) with _ | ⟨x,r⟩
 ·exact h fun b hb=>(xkw _).1 hq b (by simpa using hb)
 ·exact(dw_head _ _ _ hq).1 (e1 x (by rw[hq];simp))
theorem xzs(s:ByteArray)(hs:s.size<=9223372036854775807)(w:G):aD aO 106 #[E s,E ⟨#[0]⟩] w (zB w (E ⟨(Lib.trimB s.data.toList 0).toArray⟩)):=by
 by_cases h0:s.data.toList=[]
 ·have hs0:s=⟨#[]⟩:=by rw[<-Lib.mk_data s,h0]
  subst hs0;go_enter Tryz.func106,Tryz.ntmps106;go_wp2_with fail;go_ret;exact⟨rfl,iR _ _⟩
 ·have HR:=fun w1=>shelft.right0 s hs w1
  have HL:=fun w1=>shelft.left0 ⟨(Lib.trimRightB s.data.toList 0).toArray⟩ w1
  obtain⟨t,ht⟩:∃ t:ByteArray,(⟨(Lib.trimRightB s.data.toList 0).toArray⟩:ByteArray)=t:=⟨_,rfl⟩;obtain⟨u,hu⟩:∃ u:ByteArray,(⟨(Lib.trimB s.data.toList 0).toArray⟩:ByteArray)=u:=⟨_,rfl⟩;have e1:(⟨(Lib.trimLeftB t.data.toList 0).toArray⟩:ByteArray)=u:=by rw[<-hu,<-ht];rfl
  rw[ht]at HR HL;rw[e1]at HL;rw[hu];have he1:¬ s.toList=[]:=by rw[Lib.toList_data];exact h0
  have he:s.toList.isEmpty=false:=by simpa using he1
  clear ht hu e1 h0;go_enter Tryz.func106,Tryz.ntmps106;go_wp2_with fail;refine xav (by kernel_rfl) (by kernel_rfl) ?_;repeat still_step
  still_call (HR _)
  repeat still_step
  still_call (HL _)
  repeat still_step
  refine jR ?_;go_wp2_with fail;go_ret;exact⟨rfl,(iR _ _).drew⟩
end trims
end Go.Proofs.YtomphjajkkddkaaGreatDoor
