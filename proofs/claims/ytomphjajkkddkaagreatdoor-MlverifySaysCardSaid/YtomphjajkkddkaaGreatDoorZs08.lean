/-
  What squeeze of the sponge does: bytes of a sponge in memory. Conditions: the state has 25 words of 
-/
import Derived.Test.YtomphjajkkddkaaGreatDoorZs07
import Derived.Test.YtomphjajkkddkaaGreatDoorZs06
import Derived.Test.YtomphjajkkddkaaGreatDoorZs02
import Derived.Test.YtomphjajkkddkaaGreatDoorZs01
import Derived.Test.YtomphjajkkddkaaGreatDoorZs04
set_option maxRecDepth 100000
set_option maxHeartbeats 16000000
set_option linter.unusedSimpArgs false
set_option linter.unusedVariables false
open Go Go.RowKit
open Go renaming World->G,Calls->aD,Value->aE,Program->aI
open Go.RowKit renaming Below->aF
open Go.Lib renaming byteCells->aJ
open Go.Value renaming int->O,agg->I,string->E,tuple->aA,slice->aB,pointer->aC
open Go.IntKind renaming i64->J
open Go.Obj renaming cells->Y
open Go.Proofs.Tryz renaming prog->aO
namespace Go.Proofs.YtomphjajkkddkaaGreatDoor
abbrev jZ:=@Go.AllReady.cons
abbrev lB:=@Go.AllReady.nil
abbrev lJ:=@Go.wpAny_ready
abbrev lU:=@Go.World.ownsRow.drew
namespace spog
open arr mem bJ dL bU bT cF spmx eT eZ gI iH spob spoc spod spoe spof
theorem xep{w:G}{base g cap n:Nat}{l:List UInt8}(hn:l.length=n)(h:w.ownsRow base 5 1 (aB (some ⟨g,0,none⟩) n cap) n (aJ l)):
 (convert 57 9 (aB (some ⟨g,0,none⟩) n cap)).run aO w=.ok (E ⟨l.toArray⟩) w:=by
 subst hn;refine run_convert_bytes_back (P:=aO) w 57 9 5 ⟨g,0,none⟩ cap l Tryz.underlying57 Tryz.underlying5 Tryz.underlying9 (fun j hj=>?_);have:=h.cellAt j (by omega);rw[Addr.add_mid,kP,this];simp[aJ,hj]
theorem xcj{P:aI}{md:Region.Mode}{l:List Oper}{Q:Exit->Act->G->Prop}{listed:Array Bool}{a:Act}{w:G}(n g:Nat)(hB:Region.seqB md l.toArray g n listed=true)(hg:(l.drop n).length=g)
 (h:wpList P l.toArray Q (l.drop n) a w):wpAny P md l.toArray Q g listed a w:=by
 subst hg;exact wpAny_of_seq (l.drop n) n listed a w (fun j=>by simp[List.getElem?_drop]) hB h
theorem fin_is(k:Int)(h : 0<bG k):fin k=cF.mark k:=by
 unfold fin cF.mark;unfold bG at h;by_cases h1:k=1
 ·simp[h1]
 ·by_cases h2:k=2
  ·simp[h2]
  ·by_cases h3:k=3
   ·simp[h3]
   ·by_cases h4:k=4
    ·simp[h4]
    ·simp[h1,h2,h3,h4]at h
end spog
namespace spoh
open arr mem bJ dL bU bT cF spmx eT eZ gI iH spob spoc spod spoe spof spog
theorem xzq(k:Int)(r:Nat)(hr:bG k=r)(h0 : 0<r):∃ z:Nat,∀ w1:G,aD aO 132 #[O J k] w1 (zB w1 (I #[O J (r:Int),O .u8 ((cF.mark k:Nat):Int),O J (z:Int)])):=
 ⟨iH.size k,fun w1=>by have h:=xm2 k w1;unfold tr at h;rw[hr,fin_is k (by rw[hr];exact h0)]at h;exact h⟩
theorem xmw{T:Array aE}{ts rs:List Nat}(gt gs:Nat)(k:Int)(p0 n:Nat)(l:List Nat)(w:G)(h:St l)(hK:KT T ts rs)(hP:Gp w)(hT:w.heap[gt]? = some (Y T 34 (0,0)))(hne:gt≠gs)(hgp:gs≠3)(hr0 : 0<bG k)(hp:p0<bG k)(hn:n<=50000)
 (hrow:w.heap[gs]? = some (Y (SC k l (p0:Int) false) 164 (0,0))):
 aD aO 172 #[aC (some ⟨gt,0,none⟩),aC (some ⟨gs,0,none⟩),O J (n:Int)] w fun e w'=>e=.returned (E ⟨(cP (sq (PP ts rs) (bG k) (pad (bG k) (cF.mark k) ⟨l,p0⟩) n)).toArray⟩)/\At gs (SC k (sk (PP ts rs) (bG k) (pad (bG k) (cF.mark k) ⟨l,p0⟩) n).l ((sk (PP ts rs) (bG k) (pad (bG k) (cF.mark k) ⟨l,p0⟩) n).at':Nat) true) 164 w w':=by
 have hr168:=xjh k;obtain⟨r,hr⟩:=aP (bG k);rw[hr]at hp hr168 hr0 ⊢;obtain⟨z,hTr⟩:=xzq k r hr hr0;have hf:=xpb k;obtain⟨f,hf2⟩:=aP (cF.mark k);rw[hf2]at hTr hf ⊢;obtain⟨s0,Hs0⟩:=aQ (pad r f ⟨l,p0⟩);have Hs0k:U (St s0.l/\s0.at'<=r):=⟨by rw[<-Hs0.o];exact xi6 h⟩;rw[Hs0.o];obtain⟨Eq,HE⟩:=aQ (sk (PP ts rs) r s0 n);rw[HE.o];obtain⟨bs,Hbs⟩:=aQ (cP (sq (PP ts rs) r s0 n));have Hbl:U (bs.length=n):=⟨by rw[<-Hbs.o,xzy,xmv]⟩;rw[Hbs.o];obtain⟨i0,hi,hz0,hz1,hz2⟩:=parts dV;have HI:=D (jA hi (jA hz0 (jA hz1 hz2)));have HTr:=D hTr;have H:=D h;have HK:=D hK;have HP:=D hP;have HT:=D hT;have HR:=D hrow;have hgt:=bI hT;have hgs:=bI hrow;have c0:w.cell? ⟨gs,0,none⟩=some (O J k):=aZ hrow (xcx k l _ _);have c3:w.cell? ⟨gs,27,none⟩=some (.bool false):=aZ hrow (xco k _ false h.len);clear h hK hP hT hrow hTr hr hi hz0 hz1 hz2;go_enter Tryz.func172,Tryz.ntmps172;go_wp2_with fail;refine(HTr.o _).mono ?_;rintro e w1 ⟨rfl,hb1⟩;have A1:U (At gs (SC k l (p0:Int) false) 164 w w1):=⟨(At.refl HR.o).later hb1⟩;obtain⟨W,hW⟩:=aP (w1.alloc (Y #[O J (r:Int),O .u8 (f:Int),O J (z:Int)] 153));have HW:=D hW;obtain⟨gk,hgk⟩:=aP w1.heap.size;have hgk2:gs<gk:=by rw[<-hgk];have:=A1.o.size;omega
 have A2:U (At gs (SC k l (p0:Int) false) 164 w W):=⟨by rw[<-hW];exact A1.o.later (xby _ _)⟩;have K2:U (W.heap[gk]? = some (Y #[O J (r:Int),O .u8 (f:Int),O J (z:Int)] 153 (0,0))):=⟨by rw[<-hW];exact cM _ _ _ hgk.symm⟩;have hgkW:=bI K2.o;have c3:W.cell? ⟨gs,27,none⟩=some (.bool false):=aZ A2.o.row (xco k _ false H.o.len);have cp:W.cell? ⟨gs,26,none⟩=some (O J (p0:Int)):=aZ A2.o.row (gO k _ false H.o.len);have ck1:W.cell? ⟨gk,1,none⟩=some (O .u8 (f:Int)):=aZ K2.o rfl;clear hb1 c0 HTr HR hW A1;go_wp2_with (rw[HW.o]);refine gZ 9 (by kernel_rfl) (by kernel_rfl) ?_;simp only[jH,jU,iW,jK];repeat still_step
 refine jR ?_;clear c3 cp ck1;go_wp2_with fail;refine(xiy gs k (p0:Int) false l 164 p0 f W.drew H.o (by omega) hf A2.o.row).mono ?_;rintro e w3 ⟨rfl,h3⟩;have A3:U (At gs (SC k (xb l p0 f) (p0:Int) false) 164 W w3):=⟨⟨h3.os,h3.tape,h3.output,h3.size,h3.row,h3.block⟩⟩;have H3:U (St (xb l p0 f)):=⟨xcq H.o p0 f⟩;obtain⟨l3,Hl3⟩:=aQ (xb l p0 f);rw[Hl3.o]at A3 H3;obtain⟨r1,hr1⟩:=aP (r-1);have fr1:J.wrap ((r:Int)-1)=(r1:Int):=bB;have ck0:w3.cell? ⟨gk,0,none⟩=some (O J (r:Int)):=aZ (A3.o.other hgkW (by omega) K2.o) rfl;clear h3;go_wp2_with fail;refine gZ 6 (by kernel_rfl) (by kernel_rfl) ?_;simp only[jH,jU,iW,jK];repeat still_step
 refine jR ?_;clear fr1 ck0;go_wp2_with fail;refine(xiy gs k (p0:Int) false l3 164 r1 128 w3.drew H3.o (by omega) (by decide) A3.o.row).mono ?_;rintro e w5 ⟨rfl,h5⟩;have A5:U (At gs (SC k (xb l3 r1 128) (p0:Int) false) 164 W w5):=⟨A3.o.trans (b:=w3) ⟨h5.os,h5.tape,h5.output,h5.size,h5.row,h5.block⟩⟩;have H5:U (St (xb l3 r1 128)):=⟨xcq H3.o r1 128⟩;have Hpad:U (s0=⟨xb l3 r1 128,r⟩):=⟨by rw[<-Hs0.o,pad,Hl3.o,hr1]⟩;obtain⟨l5,Hl5⟩:=aQ (xb l3 r1 128);rw[Hl5.o]at A5 H5 Hpad;have ck0:w5.cell? ⟨gk,0,none⟩=some (O J (r:Int)):=aZ (A5.o.other hgkW (by omega) K2.o) rfl;have co:w5.cell? ⟨gs,27,none⟩=some (.bool false):=aZ A5.o.row (xco k _ false H5.o.len);have fo:w5.frozen? ⟨gs,27,none⟩=false:=frozen_of_row w5 gs 27 _ _ A5.o.row;clear h5 Hl3 Hl5 Hs0 hr1 A3 H3;go_wp2_with fail;refine oC (by kernel_rfl) ?_;change wpAny _ _ _ _ _ _ _ (World.drew _)
 refine zA 0 ?_;refine zA 1 ?_;refine zA 2 ?_;refine zA 4 ?_;refine zA 5 ?_;refine lJ (rs:=[3,6]) (by kernel_rfl) (by simp) ?_;refine jZ rfl (fun K hK=>?_) (jZ rfl (fun K hK=>?_) lB)
 ·(go_simp;refine hK _ _ ?_;clear hK K)
  (refine lJ (rs:=[6]) (by kernel_rfl) (by simp) ?_;refine jZ rfl (fun K hK=>?_) lB;go_simp;refine hK _ _ ?_;clear hK K)
  refine xcj 7 3 (by kernel_rfl) (by kernel_rfl) ?_;simp only[iW,jK];have A6:U (At gs (SC k l5 (p0:Int) true) 164 W (w5.setCell ⟨gs,27,none⟩ (.bool true)).drew):=⟨by
   have h9:=xcz A5.o 27 (.bool true);rw[xmq k _ false true H5.o.len]at h9;exact eN h9⟩
  obtain⟨w7,hw7⟩:=aP ((w5.setCell ⟨gs,27,none⟩ (.bool true)).drew);rw[hw7]at A6 ⊢;clear hw7 ck0 co fo A5;have c3:True:=trivial;go_wp2_with (first
   | ((with_reducible refine cU A6 rfl _ _ _ rfl rfl ?_);refine⟨_,_,_,rfl,rfl,rfl,(by rw[xa6 k _ true H5.o.len];decide),?_⟩;intro w8 A8;rw[xbh k _ _ true H5.o.len]at A8;have A8:U (At gs (SC k s0.l (s0.at':Int) true) 164 W w8):=⟨by rw[Hpad.o];exact A8.o⟩;have K2:U (w8.heap[gk]? = some (Y #[O J (r:Int),O .u8 (f:Int),O J (z:Int)] 153 (0,0))):=⟨A8.o.other hgkW (by omega) K2.o⟩;have A2:U (At gs (SC k s0.l (s0.at':Int) true) 164 w w8):=⟨A2.o.trans A8.o⟩;clear A8 A6 Hpad)
   | (at_make;refine wpList_make_own _ rfl _ _ 57 rfl w8.heap.size 5 i0 (O .u8 0) 1 Tryz.underlying57 HI.o.1 HI.o.2.1 HI.o.2.2.1 J J (n:Int) n rfl rfl rfl (by rw[HI.o.2.2.2];omega) (by unfold maxLen;omega) (iM _) ?_))
  intro w4 hown hgr;have hb4:zb w8 w4:=(iR _ _).grown hgr (iM _) (fun k hk=>by simp at hk);have hgkW:=bI K2.o;have AW:U (At gs (SC k s0.l (s0.at':Int) true) 164 w8 w4):=⟨(At.refl A2.o.row).later hb4⟩;have OW0:=D hown;have PW:U (Gp w8):=⟨Gp.at HP.o A2.o hgp⟩;have TW:U (w8.heap[gt]? = some (Y T 34 (0,0))):=⟨A2.o.other hgt hne HT.o⟩;have hgtW:gt<w8.heap.size:=bI TW.o;have hgsW:gs<w8.heap.size:=bI A2.o.row;clear hown hgr hb4 c3;go_wp2_with fail;go_loopw [8] (fun v wr=>∃ j:Nat,j<=n/\(∃ g cap,v=aB (some ⟨g,0,none⟩) j cap)/\U (wr.ownsRow w8.heap.size 5 1 v j (aJ (cP (sq (PP ts rs) r s0 j))))/\U (At gs (SC k (sk (PP ts rs) r s0 j).l ((sk (PP ts rs) r s0 j).at':Nat) true) 164 w8 wr)) (fun v _=>n-(match v with | .slice _ m _=>m | _=>0))
  case atStart=>exact⟨0,iX _,⟨_,_,rfl⟩,OW0,AW⟩
  case round=>
   clear OW0 AW;obtain⟨j,hj,⟨gv,cap,rfl⟩,OWN,A0⟩:=hrel;by_cases hlt:j<n
   ·have hjz:(j:Int)<(n:Int):=by omega
    obtain⟨st,Hst⟩:=aQ (sk (PP ts rs) r s0 j);have Hso:U (St st.l/\st.at'<=r):=⟨by rw[<-Hst.o];exact xfa (fun _ h=>xb7 HK.o.br h) hr0 Hs0k.o.1 Hs0k.o.2 j⟩;rw[Hst.o]at A0;have Htl:U (St (tn (PP ts rs) r st).l/\(tn (PP ts rs) r st).at'<r):=⟨xm1 (fun _ h=>xb7 HK.o.br h) hr0 Hso.o.1 Hso.o.2⟩;obtain⟨sl,p⟩:=st;have hsl:=Hso.o.1;have hp':=Hso.o.2;simp only at hsl hp' A0;have hp8:p<=168:=by omega
    have Hsl:=D hsl;have Hp:=D hp';have cp0:wr.cell? ⟨gs,26,none⟩=some (O J (p:Int)):=aZ A0.o.row (gO k _ true hsl.len);have Krow:U (wr.heap[gk]? = some (Y #[O J (r:Int),O .u8 (f:Int),O J (z:Int)] 153 (0,0))):=⟨A0.o.other hgkW (by omega) K2.o⟩;have ck0:wr.cell? ⟨gk,0,none⟩=some (O J (r:Int)):=aZ Krow.o rfl;clear hsl hp';by_cases he:p=r
    ·have hz:((p:Int)==(r:Int))=true:=lL.2 (by omega);go_wp2_with fail;refine xav (by kernel_rfl) (by kernel_rfl) ?_;repeat still_step
     refine jR ?_;have Ad:U (At gs (SC k sl (p:Int) true) 164 w8 wr.drew):=⟨eN A0.o⟩;go_wp2_with fail;refine(xi2 gt gs k (p:Int) true sl wr.drew Hsl.o HK.o (Gp.at PW.o Ad.o hgp) (Ad.o.other hgtW hne TW.o) Ad.o.row).mono ?_;rintro e w6 ⟨rfl,h6⟩;have A6:U (At gs (SC k (PP ts rs sl) ((0:Nat):Int) true) 164 w8 w6):=⟨Ad.o.trans h6⟩;have O6:U (w6.ownsRow w8.heap.size 5 1 (aB (some ⟨gv,0,none⟩) j cap) j (aJ (cP (sq (PP ts rs) r s0 j)))):=⟨xb6 (lU OWN.o) h6 hgsW⟩;have Htn:U (tn (PP ts rs) r ⟨sl,p⟩=⟨PP ts rs sl,0⟩):=⟨by rw[tn,iP he]⟩;clear h6 cp0 ck0 Krow OWN Ad A0;obtain⟨y,hy⟩:∃ y:Nat,0=y:=⟨_,rfl⟩;rw[hy]at A6 Htn;obtain⟨xl,Hxl⟩:=aQ (PP ts rs sl);rw[Hxl.o]at A6 Htn;rw[Htn.o]at Htl;clear hy Hxl he hz;go_wp2_with fail;have HXl:U (St xl):=⟨Htl.o.1⟩;have hyr:y<r:=Htl.o.2;obtain⟨d,hd⟩:=aP (y+n-j);obtain⟨d1,hd1⟩:=aP (y+n);have fd1:J.wrap ((y:Int)+(n:Int))=(d1:Int):=bB;have fd:J.wrap ((d1:Int)-(j:Int))=(d:Int):=bB;have cp1:w6.cell? ⟨gs,26,none⟩=some (O J (y:Int)):=aZ A6.o.row (gO k _ true HXl.o.len);have K6:U (w6.heap[gk]? = some (Y #[O J (r:Int),O .u8 (f:Int),O J (z:Int)] 153 (0,0))):=⟨A6.o.other hgkW (by omega) K2.o⟩;have ck1:w6.cell? ⟨gk,0,none⟩=some (O J (r:Int)):=aZ K6.o rfl;clear Htl;refine xav (by kernel_rfl) (by kernel_rfl) ?_;repeat still_step
     refine jR ?_;obtain⟨zz,hzz⟩:=aP ((if r<d then r else d));have hmin:(if r<d then (r:Int) else (d:Int))=(zz:Int):=by rw[<-hzz];split<;>rfl
     have hz1:y<zz:=by rw[<-hzz];split<;>omega
     have hz2:zz<=r:=by rw[<-hzz];split<;>omega
     have hz3:j+(zz-y)<=n:=by rw[<-hzz];split<;>omega
     rw[hmin];obtain⟨m,hm⟩:=aP (zz-y);have HNX:U (sk (PP ts rs) r s0 (j+m)=⟨xl,zz⟩/\sq (PP ts rs) r s0 (j+m)=sq (PP ts rs) r s0 j++gS xl y m):=⟨by
      obtain⟨k1,k2⟩:=xjo (PP ts rs) r ⟨sl,p⟩ xl y m hr0 Htn.o (by omega) (by omega);rw[xe9,xho,Hst.o,k1,k2,show y+m=zz by omega];exact⟨rfl,rfl⟩⟩
     have HC:=D (xjk w8.heap.size gs k (y:Int) true xl 164 (sq (PP ts rs) r s0 j) j gv cap y zz w6.drew.drew HXl.o (by omega) (by omega) (by omega) hgsW A6.o.size A6.o.row (lU (lU O6.o)));rw[hm]at HC hz3;have hA6:=A6.o.size;clear hzz hmin fd fd1 hd hd1 O6 Htn ck1;have cp1:w6.drew.cell? ⟨gs,26,none⟩=some (O J (y:Int)):=cp1;go_wp2_with fail;refine gZ 9 (by kernel_rfl) (by kernel_rfl) ?_;simp only[jH,jU,iW,jK];repeat still_step
     refine jR ?_;clear cp1;go_wp2_with fail;refine HC.o.mono ?_;rintro e w7 ⟨gv',cap',rfl,OY,hb7⟩;have OY:=D OY;have A7:U (At gs (SC k xl (y:Int) true) 164 w8 w7):=⟨xcr (eN (eN A6.o)) hb7 (iM _) hgsW⟩;have AR:U (At gs (SC k xl (y:Int) true) 164 w7 w7):=⟨At.refl A7.o.row⟩;clear hb7 HC A6 K6;go_wp2_with ((with_reducible refine cU AR rfl _ _ _ rfl rfl ?_);refine⟨_,_,_,rfl,rfl,rfl,(by rw[xa6 k _ true HXl.o.len];decide),?_⟩;intro w9 HR9;rw[xbh k _ _ true HXl.o.len]at HR9);have AN:U (At gs (SC k (sk (PP ts rs) r s0 (j+m)).l ((sk (PP ts rs) r s0 (j+m)).at':Nat) true) 164 w8 w9):=⟨by rw[HNX.o.1];exact A7.o.trans HR9.o⟩;have ON:U (w9.ownsRow w8.heap.size 5 1 (aB (some ⟨gv',0,none⟩) (j+m) cap') (j+m) (aJ (cP (sq (PP ts rs) r s0 (j+m))))):=⟨by rw[HNX.o.2];exact xb6 OY.o HR9.o hgsW⟩;clear HR9 AR A7 OY;go_roundw
     case rel=>exact⟨j+m,hz3,⟨_,_,rfl⟩,ON,AN⟩
     case measure=>simp;omega
    ·have hz:((p:Int)==(r:Int))=false:=jV.2 (by omega);go_wp2_with fail;refine xav (by kernel_rfl) (by kernel_rfl) ?_;repeat still_step
     refine jR ?_;have A6:U (At gs (SC k sl (p:Int) true) 164 w8 wr.drew):=⟨eN A0.o⟩;have O6:U (wr.drew.ownsRow w8.heap.size 5 1 (aB (some ⟨gv,0,none⟩) j cap) j (aJ (cP (sq (PP ts rs) r s0 j)))):=⟨lU OWN.o⟩;have Htn:U (tn (PP ts rs) r ⟨sl,p⟩=⟨sl,p⟩):=⟨by rw[tn,iQ he]⟩;rw[Htn.o]at Htl;clear cp0 ck0 Krow OWN A0 he;obtain⟨w6,hw6⟩:=aP wr.drew;rw[hw6]at A6 O6 ⊢;obtain⟨xl,Hxl⟩:=aP sl;obtain⟨y,hy⟩:=aP p;have Htn:U (tn (PP ts rs) r ⟨sl,p⟩=⟨xl,y⟩):=⟨by rw[<-Hxl,<-hy];exact Htn.o⟩;rw[Hxl]at A6 Htl;rw[hy]at A6 Htl;clear hw6 Hxl hy;go_wp2_with fail;clear hz;have HXl:U (St xl):=⟨Htl.o.1⟩;have hyr:y<r:=Htl.o.2;obtain⟨d,hd⟩:=aP (y+n-j);obtain⟨d1,hd1⟩:=aP (y+n);have fd1:J.wrap ((y:Int)+(n:Int))=(d1:Int):=bB;have fd:J.wrap ((d1:Int)-(j:Int))=(d:Int):=bB;have cp1:w6.cell? ⟨gs,26,none⟩=some (O J (y:Int)):=aZ A6.o.row (gO k _ true HXl.o.len);have K6:U (w6.heap[gk]? = some (Y #[O J (r:Int),O .u8 (f:Int),O J (z:Int)] 153 (0,0))):=⟨A6.o.other hgkW (by omega) K2.o⟩;have ck1:w6.cell? ⟨gk,0,none⟩=some (O J (r:Int)):=aZ K6.o rfl;clear Htl;refine xav (by kernel_rfl) (by kernel_rfl) ?_;repeat still_step
     refine jR ?_;obtain⟨zz,hzz⟩:=aP ((if r<d then r else d));have hmin:(if r<d then (r:Int) else (d:Int))=(zz:Int):=by rw[<-hzz];split<;>rfl
     have hz1:y<zz:=by rw[<-hzz];split<;>omega
     have hz2:zz<=r:=by rw[<-hzz];split<;>omega
     have hz3:j+(zz-y)<=n:=by rw[<-hzz];split<;>omega
     rw[hmin];obtain⟨m,hm⟩:=aP (zz-y);have HNX:U (sk (PP ts rs) r s0 (j+m)=⟨xl,zz⟩/\sq (PP ts rs) r s0 (j+m)=sq (PP ts rs) r s0 j++gS xl y m):=⟨by
      obtain⟨k1,k2⟩:=xjo (PP ts rs) r ⟨sl,p⟩ xl y m hr0 Htn.o (by omega) (by omega);rw[xe9,xho,Hst.o,k1,k2,show y+m=zz by omega];exact⟨rfl,rfl⟩⟩
     have HC:=D (xjk w8.heap.size gs k (y:Int) true xl 164 (sq (PP ts rs) r s0 j) j gv cap y zz w6.drew.drew HXl.o (by omega) (by omega) (by omega) hgsW A6.o.size A6.o.row (lU (lU O6.o)));rw[hm]at HC hz3;have hA6:=A6.o.size;clear hzz hmin fd fd1 hd hd1 O6 Htn ck1;have cp1:w6.drew.cell? ⟨gs,26,none⟩=some (O J (y:Int)):=cp1;go_wp2_with fail;refine gZ 9 (by kernel_rfl) (by kernel_rfl) ?_;simp only[jH,jU,iW,jK];repeat still_step
     refine jR ?_;clear cp1;go_wp2_with fail;refine HC.o.mono ?_;rintro e w7 ⟨gv',cap',rfl,OY,hb7⟩;have OY:=D OY;have A7:U (At gs (SC k xl (y:Int) true) 164 w8 w7):=⟨xcr (eN (eN A6.o)) hb7 (iM _) hgsW⟩;have AR:U (At gs (SC k xl (y:Int) true) 164 w7 w7):=⟨At.refl A7.o.row⟩;clear hb7 HC A6 K6;go_wp2_with ((with_reducible refine cU AR rfl _ _ _ rfl rfl ?_);refine⟨_,_,_,rfl,rfl,rfl,(by rw[xa6 k _ true HXl.o.len];decide),?_⟩;intro w9 HR9;rw[xbh k _ _ true HXl.o.len]at HR9);have AN:U (At gs (SC k (sk (PP ts rs) r s0 (j+m)).l ((sk (PP ts rs) r s0 (j+m)).at':Nat) true) 164 w8 w9):=⟨by rw[HNX.o.1];exact A7.o.trans HR9.o⟩;have ON:U (w9.ownsRow w8.heap.size 5 1 (aB (some ⟨gv',0,none⟩) (j+m) cap') (j+m) (aJ (cP (sq (PP ts rs) r s0 (j+m))))):=⟨by rw[HNX.o.2];exact xb6 OY.o HR9.o hgsW⟩;clear HR9 AR A7 OY;go_roundw
     case rel=>exact⟨j+m,hz3,⟨_,_,rfl⟩,ON,AN⟩
     case measure=>simp;omega
   ·obtain rfl:j=n:=by omega
    rw[HE.o]at A0;rw[Hbs.o]at OWN;have hcv:=xep Hbl.o OWN.o;have AF:U (At gs (SC k Eq.l (Eq.at':Int) true) 164 w wr):=⟨A2.o.trans A0.o⟩;clear A0 OWN;go_wp2_with fail;go_ret;exact⟨rfl,AF.o⟩
 ·(go_simp;refine hK _ _ ?_;clear hK K)
  (refine lJ (rs:=[3]) (by kernel_rfl) (by simp) ?_;refine jZ rfl (fun K hK=>?_) lB;go_simp;refine hK _ _ ?_;clear hK K)
  refine xcj 7 3 (by kernel_rfl) (by kernel_rfl) ?_;simp only[iW,jK];have A6:U (At gs (SC k l5 (p0:Int) true) 164 W (w5.setCell ⟨gs,27,none⟩ (.bool true)).drew):=⟨by
   have h9:=xcz A5.o 27 (.bool true);rw[xmq k _ false true H5.o.len]at h9;exact eN h9⟩
  obtain⟨w7,hw7⟩:=aP ((w5.setCell ⟨gs,27,none⟩ (.bool true)).drew);rw[hw7]at A6 ⊢;clear hw7 ck0 co fo A5;have c3:True:=trivial;go_wp2_with (first
   | ((with_reducible refine cU A6 rfl _ _ _ rfl rfl ?_);refine⟨_,_,_,rfl,rfl,rfl,(by rw[xa6 k _ true H5.o.len];decide),?_⟩;intro w8 A8;rw[xbh k _ _ true H5.o.len]at A8;have A8:U (At gs (SC k s0.l (s0.at':Int) true) 164 W w8):=⟨by rw[Hpad.o];exact A8.o⟩;have K2:U (w8.heap[gk]? = some (Y #[O J (r:Int),O .u8 (f:Int),O J (z:Int)] 153 (0,0))):=⟨A8.o.other hgkW (by omega) K2.o⟩;have A2:U (At gs (SC k s0.l (s0.at':Int) true) 164 w w8):=⟨A2.o.trans A8.o⟩;clear A8 A6 Hpad)
   | (at_make;refine wpList_make_own _ rfl _ _ 57 rfl w8.heap.size 5 i0 (O .u8 0) 1 Tryz.underlying57 HI.o.1 HI.o.2.1 HI.o.2.2.1 J J (n:Int) n rfl rfl rfl (by rw[HI.o.2.2.2];omega) (by unfold maxLen;omega) (iM _) ?_))
  intro w4 hown hgr;have hb4:zb w8 w4:=(iR _ _).grown hgr (iM _) (fun k hk=>by simp at hk);have hgkW:=bI K2.o;have AW:U (At gs (SC k s0.l (s0.at':Int) true) 164 w8 w4):=⟨(At.refl A2.o.row).later hb4⟩;have OW0:=D hown;have PW:U (Gp w8):=⟨Gp.at HP.o A2.o hgp⟩;have TW:U (w8.heap[gt]? = some (Y T 34 (0,0))):=⟨A2.o.other hgt hne HT.o⟩;have hgtW:gt<w8.heap.size:=bI TW.o;have hgsW:gs<w8.heap.size:=bI A2.o.row;clear hown hgr hb4 c3;go_wp2_with fail;go_loopw [8] (fun v wr=>∃ j:Nat,j<=n/\(∃ g cap,v=aB (some ⟨g,0,none⟩) j cap)/\U (wr.ownsRow w8.heap.size 5 1 v j (aJ (cP (sq (PP ts rs) r s0 j))))/\U (At gs (SC k (sk (PP ts rs) r s0 j).l ((sk (PP ts rs) r s0 j).at':Nat) true) 164 w8 wr)) (fun v _=>n-(match v with | .slice _ m _=>m | _=>0))
  case atStart=>exact⟨0,iX _,⟨_,_,rfl⟩,OW0,AW⟩
  case round=>
   clear OW0 AW;obtain⟨j,hj,⟨gv,cap,rfl⟩,OWN,A0⟩:=hrel;by_cases hlt:j<n
   ·have hjz:(j:Int)<(n:Int):=by omega
    obtain⟨st,Hst⟩:=aQ (sk (PP ts rs) r s0 j);have Hso:U (St st.l/\st.at'<=r):=⟨by rw[<-Hst.o];exact xfa (fun _ h=>xb7 HK.o.br h) hr0 Hs0k.o.1 Hs0k.o.2 j⟩;rw[Hst.o]at A0;have Htl:U (St (tn (PP ts rs) r st).l/\(tn (PP ts rs) r st).at'<r):=⟨xm1 (fun _ h=>xb7 HK.o.br h) hr0 Hso.o.1 Hso.o.2⟩;obtain⟨sl,p⟩:=st;have hsl:=Hso.o.1;have hp':=Hso.o.2;simp only at hsl hp' A0;have hp8:p<=168:=by omega
    have Hsl:=D hsl;have Hp:=D hp';have cp0:wr.cell? ⟨gs,26,none⟩=some (O J (p:Int)):=aZ A0.o.row (gO k _ true hsl.len);have Krow:U (wr.heap[gk]? = some (Y #[O J (r:Int),O .u8 (f:Int),O J (z:Int)] 153 (0,0))):=⟨A0.o.other hgkW (by omega) K2.o⟩;have ck0:wr.cell? ⟨gk,0,none⟩=some (O J (r:Int)):=aZ Krow.o rfl;clear hsl hp';by_cases he:p=r
    ·have hz:((p:Int)==(r:Int))=true:=lL.2 (by omega);go_wp2_with fail;refine xav (by kernel_rfl) (by kernel_rfl) ?_;repeat still_step
     refine jR ?_;have Ad:U (At gs (SC k sl (p:Int) true) 164 w8 wr.drew):=⟨eN A0.o⟩;go_wp2_with fail;refine(xi2 gt gs k (p:Int) true sl wr.drew Hsl.o HK.o (Gp.at PW.o Ad.o hgp) (Ad.o.other hgtW hne TW.o) Ad.o.row).mono ?_;rintro e w6 ⟨rfl,h6⟩;have A6:U (At gs (SC k (PP ts rs sl) ((0:Nat):Int) true) 164 w8 w6):=⟨Ad.o.trans h6⟩;have O6:U (w6.ownsRow w8.heap.size 5 1 (aB (some ⟨gv,0,none⟩) j cap) j (aJ (cP (sq (PP ts rs) r s0 j)))):=⟨xb6 (lU OWN.o) h6 hgsW⟩;have Htn:U (tn (PP ts rs) r ⟨sl,p⟩=⟨PP ts rs sl,0⟩):=⟨by rw[tn,iP he]⟩;clear h6 cp0 ck0 Krow OWN Ad A0;obtain⟨y,hy⟩:∃ y:Nat,0=y:=⟨_,rfl⟩;rw[hy]at A6 Htn;obtain⟨xl,Hxl⟩:=aQ (PP ts rs sl);rw[Hxl.o]at A6 Htn;rw[Htn.o]at Htl;clear hy Hxl he hz;go_wp2_with fail;have HXl:U (St xl):=⟨Htl.o.1⟩;have hyr:y<r:=Htl.o.2;obtain⟨d,hd⟩:=aP (y+n-j);obtain⟨d1,hd1⟩:=aP (y+n);have fd1:J.wrap ((y:Int)+(n:Int))=(d1:Int):=bB;have fd:J.wrap ((d1:Int)-(j:Int))=(d:Int):=bB;have cp1:w6.cell? ⟨gs,26,none⟩=some (O J (y:Int)):=aZ A6.o.row (gO k _ true HXl.o.len);have K6:U (w6.heap[gk]? = some (Y #[O J (r:Int),O .u8 (f:Int),O J (z:Int)] 153 (0,0))):=⟨A6.o.other hgkW (by omega) K2.o⟩;have ck1:w6.cell? ⟨gk,0,none⟩=some (O J (r:Int)):=aZ K6.o rfl;clear Htl;refine xav (by kernel_rfl) (by kernel_rfl) ?_;repeat still_step
     refine jR ?_;obtain⟨zz,hzz⟩:=aP ((if r<d then r else d));have hmin:(if r<d then (r:Int) else (d:Int))=(zz:Int):=by rw[<-hzz];split<;>rfl
     have hz1:y<zz:=by rw[<-hzz];split<;>omega
     have hz2:zz<=r:=by rw[<-hzz];split<;>omega
     have hz3:j+(zz-y)<=n:=by rw[<-hzz];split<;>omega
     rw[hmin];obtain⟨m,hm⟩:=aP (zz-y);have HNX:U (sk (PP ts rs) r s0 (j+m)=⟨xl,zz⟩/\sq (PP ts rs) r s0 (j+m)=sq (PP ts rs) r s0 j++gS xl y m):=⟨by
      obtain⟨k1,k2⟩:=xjo (PP ts rs) r ⟨sl,p⟩ xl y m hr0 Htn.o (by omega) (by omega);rw[xe9,xho,Hst.o,k1,k2,show y+m=zz by omega];exact⟨rfl,rfl⟩⟩
     have HC:=D (xjk w8.heap.size gs k (y:Int) true xl 164 (sq (PP ts rs) r s0 j) j gv cap y zz w6.drew.drew HXl.o (by omega) (by omega) (by omega) hgsW A6.o.size A6.o.row (lU (lU O6.o)));rw[hm]at HC hz3;have hA6:=A6.o.size;clear hzz hmin fd fd1 hd hd1 O6 Htn ck1;have cp1:w6.drew.cell? ⟨gs,26,none⟩=some (O J (y:Int)):=cp1;go_wp2_with fail;refine gZ 9 (by kernel_rfl) (by kernel_rfl) ?_;simp only[jH,jU,iW,jK];repeat still_step
     refine jR ?_;clear cp1;go_wp2_with fail;refine HC.o.mono ?_;rintro e w7 ⟨gv',cap',rfl,OY,hb7⟩;have OY:=D OY;have A7:U (At gs (SC k xl (y:Int) true) 164 w8 w7):=⟨xcr (eN (eN A6.o)) hb7 (iM _) hgsW⟩;have AR:U (At gs (SC k xl (y:Int) true) 164 w7 w7):=⟨At.refl A7.o.row⟩;clear hb7 HC A6 K6;go_wp2_with ((with_reducible refine cU AR rfl _ _ _ rfl rfl ?_);refine⟨_,_,_,rfl,rfl,rfl,(by rw[xa6 k _ true HXl.o.len];decide),?_⟩;intro w9 HR9;rw[xbh k _ _ true HXl.o.len]at HR9);have AN:U (At gs (SC k (sk (PP ts rs) r s0 (j+m)).l ((sk (PP ts rs) r s0 (j+m)).at':Nat) true) 164 w8 w9):=⟨by rw[HNX.o.1];exact A7.o.trans HR9.o⟩;have ON:U (w9.ownsRow w8.heap.size 5 1 (aB (some ⟨gv',0,none⟩) (j+m) cap') (j+m) (aJ (cP (sq (PP ts rs) r s0 (j+m))))):=⟨by rw[HNX.o.2];exact xb6 OY.o HR9.o hgsW⟩;clear HR9 AR A7 OY;go_roundw
     case rel=>exact⟨j+m,hz3,⟨_,_,rfl⟩,ON,AN⟩
     case measure=>simp;omega
    ·have hz:((p:Int)==(r:Int))=false:=jV.2 (by omega);go_wp2_with fail;refine xav (by kernel_rfl) (by kernel_rfl) ?_;repeat still_step
     refine jR ?_;have A6:U (At gs (SC k sl (p:Int) true) 164 w8 wr.drew):=⟨eN A0.o⟩;have O6:U (wr.drew.ownsRow w8.heap.size 5 1 (aB (some ⟨gv,0,none⟩) j cap) j (aJ (cP (sq (PP ts rs) r s0 j)))):=⟨lU OWN.o⟩;have Htn:U (tn (PP ts rs) r ⟨sl,p⟩=⟨sl,p⟩):=⟨by rw[tn,iQ he]⟩;rw[Htn.o]at Htl;clear cp0 ck0 Krow OWN A0 he;obtain⟨w6,hw6⟩:=aP wr.drew;rw[hw6]at A6 O6 ⊢;obtain⟨xl,Hxl⟩:=aP sl;obtain⟨y,hy⟩:=aP p;have Htn:U (tn (PP ts rs) r ⟨sl,p⟩=⟨xl,y⟩):=⟨by rw[<-Hxl,<-hy];exact Htn.o⟩;rw[Hxl]at A6 Htl;rw[hy]at A6 Htl;clear hw6 Hxl hy;go_wp2_with fail;clear hz;have HXl:U (St xl):=⟨Htl.o.1⟩;have hyr:y<r:=Htl.o.2;obtain⟨d,hd⟩:=aP (y+n-j);obtain⟨d1,hd1⟩:=aP (y+n);have fd1:J.wrap ((y:Int)+(n:Int))=(d1:Int):=bB;have fd:J.wrap ((d1:Int)-(j:Int))=(d:Int):=bB;have cp1:w6.cell? ⟨gs,26,none⟩=some (O J (y:Int)):=aZ A6.o.row (gO k _ true HXl.o.len);have K6:U (w6.heap[gk]? = some (Y #[O J (r:Int),O .u8 (f:Int),O J (z:Int)] 153 (0,0))):=⟨A6.o.other hgkW (by omega) K2.o⟩;have ck1:w6.cell? ⟨gk,0,none⟩=some (O J (r:Int)):=aZ K6.o rfl;clear Htl;refine xav (by kernel_rfl) (by kernel_rfl) ?_;repeat still_step
     refine jR ?_;obtain⟨zz,hzz⟩:=aP ((if r<d then r else d));have hmin:(if r<d then (r:Int) else (d:Int))=(zz:Int):=by rw[<-hzz];split<;>rfl
     have hz1:y<zz:=by rw[<-hzz];split<;>omega
     have hz2:zz<=r:=by rw[<-hzz];split<;>omega
     have hz3:j+(zz-y)<=n:=by rw[<-hzz];split<;>omega
     rw[hmin];obtain⟨m,hm⟩:=aP (zz-y);have HNX:U (sk (PP ts rs) r s0 (j+m)=⟨xl,zz⟩/\sq (PP ts rs) r s0 (j+m)=sq (PP ts rs) r s0 j++gS xl y m):=⟨by
      obtain⟨k1,k2⟩:=xjo (PP ts rs) r ⟨sl,p⟩ xl y m hr0 Htn.o (by omega) (by omega);rw[xe9,xho,Hst.o,k1,k2,show y+m=zz by omega];exact⟨rfl,rfl⟩⟩
     have HC:=D (xjk w8.heap.size gs k (y:Int) true xl 164 (sq (PP ts rs) r s0 j) j gv cap y zz w6.drew.drew HXl.o (by omega) (by omega) (by omega) hgsW A6.o.size A6.o.row (lU (lU O6.o)));rw[hm]at HC hz3;have hA6:=A6.o.size;clear hzz hmin fd fd1 hd hd1 O6 Htn ck1;have cp1:w6.drew.cell? ⟨gs,26,none⟩=some (O J (y:Int)):=cp1;go_wp2_with fail;refine gZ 9 (by kernel_rfl) (by kernel_rfl) ?_;simp only[jH,jU,iW,jK];repeat still_step
     refine jR ?_;clear cp1;go_wp2_with fail;refine HC.o.mono ?_;rintro e w7 ⟨gv',cap',rfl,OY,hb7⟩;have OY:=D OY;have A7:U (At gs (SC k xl (y:Int) true) 164 w8 w7):=⟨xcr (eN (eN A6.o)) hb7 (iM _) hgsW⟩;have AR:U (At gs (SC k xl (y:Int) true) 164 w7 w7):=⟨At.refl A7.o.row⟩;clear hb7 HC A6 K6;go_wp2_with ((with_reducible refine cU AR rfl _ _ _ rfl rfl ?_);refine⟨_,_,_,rfl,rfl,rfl,(by rw[xa6 k _ true HXl.o.len];decide),?_⟩;intro w9 HR9;rw[xbh k _ _ true HXl.o.len]at HR9);have AN:U (At gs (SC k (sk (PP ts rs) r s0 (j+m)).l ((sk (PP ts rs) r s0 (j+m)).at':Nat) true) 164 w8 w9):=⟨by rw[HNX.o.1];exact A7.o.trans HR9.o⟩;have ON:U (w9.ownsRow w8.heap.size 5 1 (aB (some ⟨gv',0,none⟩) (j+m) cap') (j+m) (aJ (cP (sq (PP ts rs) r s0 (j+m))))):=⟨by rw[HNX.o.2];exact xb6 OY.o HR9.o hgsW⟩;clear HR9 AR A7 OY;go_roundw
     case rel=>exact⟨j+m,hz3,⟨_,_,rfl⟩,ON,AN⟩
     case measure=>simp;omega
   ·obtain rfl:j=n:=by omega
    rw[HE.o]at A0;rw[Hbs.o]at OWN;have hcv:=xep Hbl.o OWN.o;have AF:U (At gs (SC k Eq.l (Eq.at':Int) true) 164 w wr):=⟨A2.o.trans A0.o⟩;clear A0 OWN;go_wp2_with fail;go_ret;exact⟨rfl,AF.o⟩
end spoh
namespace dD
open arr mem bJ dL bU bT iD cF spmx eT rspb eZ gI rspe iH spob spoe spof spog spoh
theorem z_st:St Z:=kecd.st_of xfe (by decide)
def out(ts rs:List Nat)(k:Int)(b:ByteArray)(n:Nat):ByteArray:=⟨(cP (sq (PP ts rs) (bG k) (pad (bG k) (cF.mark k) (abs (PP ts rs) (bG k) ⟨Z,0⟩ (aU b))) n)).toArray⟩
theorem yaa{T:Array aE}{ts rs:List Nat}(gt:Nat)(k:Int)(b:ByteArray)(n:Nat)(w:G)(hK:KT T ts rs)(hP:Gp w)(hT:w.heap[gt]? = some (Y T 34 (0,0)))(hr0 : 0<bG k)(hn:n<=50000)(hb:b.size<=1125899906842624):
 aD aO 134 #[aC (some ⟨gt,0,none⟩),O J k,E b,O J (n:Int)] w (zB w (E (out ts rs k b n))):=by
 obtain⟨Oq,HO⟩:=aQ (out ts rs k b n);rw[HO.o];obtain⟨Eq,HE⟩:=aQ (abs (PP ts rs) (bG k) ⟨Z,0⟩ (aU b));have hEo:St Eq.l/\Eq.at'<bG k:=by rw[<-HE.o];exact xh3 (fun _ h=>xb7 hK.br h) _ z_st hr0
 obtain⟨F,HF⟩:=aQ (SC k Z 0 false);have Fi:U ((aO.info? 164).map (·.size)=some F.size):=⟨by rw[<-HF.o];exact xdj _ _ _ xfe⟩;have Fo:U (F.all (·.oneCell')=true):=⟨by rw[<-HF.o];exact xef _ _ _ _⟩;have Fz:U ((#[O J 0,O .u64 0,O .u64 0,O .u64 0,O .u64 0,O .u64 0,O .u64 0,O .u64 0,O .u64 0,O .u64 0,O .u64 0,O .u64 0,O .u64 0,O .u64 0,O .u64 0,O .u64 0,O .u64 0,O .u64 0,O .u64 0,O .u64 0,O .u64 0,O .u64 0,O .u64 0,O .u64 0,O .u64 0,O .u64 0,O J 0,.bool false]:Array aE).size=F.size):=⟨by rw[<-HF.o,xa6 _ _ _ xfe];rfl⟩;have Fb:U ((#[O J k,O .u64 0,O .u64 0,O .u64 0,O .u64 0,O .u64 0,O .u64 0,O .u64 0,O .u64 0,O .u64 0,O .u64 0,O .u64 0,O .u64 0,O .u64 0,O .u64 0,O .u64 0,O .u64 0,O .u64 0,O .u64 0,O .u64 0,O .u64 0,O .u64 0,O .u64 0,O .u64 0,O .u64 0,O .u64 0,O J 0,.bool false]:Array aE)=F):=⟨by rw[<-HF.o];rfl⟩;have hgp:=xgw hP;have hgt:=bI hT;obtain⟨W,hW⟩:=aP (w.alloc (Y F 164));have HW:=D hW;have hb0:zb w W:=by rw[<-hW];exact xby _ _
 have hrow:W.heap[w.heap.size]? = some (Y (SC k Z ((0:Nat):Int) false) 164 (0,0)):=by rw[<-hW,show SC k Z ((0:Nat):Int) false=F from HF.o];exact cM _ _ _ rfl
 have C1:=D (spoe.xsv gt w.heap.size k 0 Z b W z_st hK (hP.later hb0) ((hb0.block _ hgt).trans hT) (by omega) (by omega) hr0 hb hrow);rw[HE.o]at C1;have C2:U (∀ w2:G,At w.heap.size (SC k Eq.l (Eq.at':Nat) false) 164 W w2->aD aO 172 #[aC (some ⟨gt,0,none⟩),aC (some ⟨w.heap.size,0,none⟩),O J (n:Int)] w2 fun e w'=>e=.returned (E Oq)/\aF w.heap.size w2 w'):=⟨fun w2 h2=>by
  have hz:W.heap.size=w.heap.size+1:=by rw[<-hW];exact size_alloc _ _
  refine(spoh.xmw gt w.heap.size k Eq.at' n Eq.l w2 hEo.1 hK (Gp.at (hP.later hb0) h2 (by omega)) (h2.other (by omega) (by omega) ((hb0.block _ hgt).trans hT)) (by omega) (by omega) hr0 hEo.2 hn h2.row).mono ?_;rintro e w3 ⟨rfl,h3⟩;refine⟨?_,h3.below (by have:=h2.size;omega) (iM _)⟩;rw[<-HO.o,out,HE.o]⟩
 have HB0:=D hb0;clear hrow hb0 hW hEo hK hP hT;go_enter Tryz.func134,Tryz.ntmps134;go_wp2_with (first
  | (rw[HW.o])
  | ((with_reducible refine xnf rfl _ _ rfl #[O J k,O .u64 0,O .u64 0,O .u64 0,O .u64 0,O .u64 0,O .u64 0,O .u64 0,O .u64 0,O .u64 0,O .u64 0,O .u64 0,O .u64 0,O .u64 0,O .u64 0,O .u64 0,O .u64 0,O .u64 0,O .u64 0,O .u64 0,O .u64 0,O .u64 0,O .u64 0,O .u64 0,O .u64 0,O .u64 0,O J 0,.bool false] ?hC ?_);(case hC=>kernel_rfl);rw[Fb.o])
  | (refine fV rfl 164 _ _ rfl F rfl rfl Fi.o (by first | exact Fz.o | rfl) Fo.o rfl ?_))
 refine C1.o.mono ?_;rintro e w1 ⟨rfl,h1⟩;have HB1:U (zb w w1):=⟨HB0.o.trans (h1.below (by have:=HB0.o.size;omega) (iM _))⟩;have C3:=D (C2.o w1 h1);clear h1 C1 C2;go_wp2_with fail;refine C3.o.mono ?_;rintro e w2 ⟨rfl,h2⟩;have HB2:U (zb w w2):=⟨HB1.o.trans h2⟩;clear h2;go_wp2_with fail;go_ret;exact⟨rfl,HB2.o⟩
theorem xzo(k:Int):∃ f:Nat,∀ w1:G,aD aO 132 #[O J k] w1 (zB w1 (I #[O J ((bG k:Nat):Int),O .u8 (f:Int),O J ((iH.size k:Nat):Int)])):=⟨fin k,xm2 k⟩
theorem xri{T:Array aE}{ts rs:List Nat}(k:Int)(b:ByteArray)(n:Nat)(w:G)(hK:KT T ts rs)(hP:Gp w)(h0 : 0<bG k)(h1:iH.size k=0)(hn:n<=50000)(hb:b.size<=1125899906842624):
 aD aO 78 #[I T,O J k,E b,O J (n:Int)] w (zB w (aA #[E (out ts rs k b n),O J 0])):=by
 obtain⟨f,hTr⟩:=xzo k;obtain⟨r,hr⟩:=aP (bG k);obtain⟨z,hz⟩:=aP (iH.size k);rw[hr]at hTr;rw[h1]at hTr;have q0:((r:Int)==0)=false:=jV.2 (by omega);have hTr:∀ w1:G,aD aO 132 #[O J k] w1 (zB w1 (I #[O J (r:Int),O .u8 (f:Int),O J 0])):=hTr;have HTr:=D hTr;have HTz:U ((aO.info? 34).map (·.size)=some T.size):=⟨by rw[hK.size];exact eT.sizeT⟩;have HF:U (∀ w1:G,aD aO 133 #[O J (n:Int)] w1 (zE w1 (.bool true))):=⟨fun w1=>by have h9:=xum (n:Int) w1;rw[jP (by omega)]at h9;exact h9⟩;have HP:=D hP;have HK:=D hK;clear hTr;obtain⟨W,hW⟩:=aP (w.alloc (Y T 34));have HW:=D hW;have HB0:=zba hW;have HT:=zhp hW;have hz1:W.heap.size=w.heap.size+1:=by rw[<-hW];exact size_alloc _ _
 clear hW;go_enter Tryz.func78,Tryz.ntmps78;go_wp2_with (rw[HW.o]);refine(HTr.o _).mono ?_;rintro e w1 ⟨rfl,hb1⟩;obtain⟨V,hV⟩:=aP (w1.alloc (Y #[O J (r:Int),O .u8 (f:Int),O J 0] 153));have HV:=D hV;have HB1:U (zb w V):=⟨(HB0.o.trans (hb1.mono (by omega))).trans ((by rw[<-hV];exact(xby _ _).mono (by have:=hb1.size;omega)))⟩;have HT1:U (V.heap[w.heap.size]? = some (Y T 34 (0,0))):=⟨by rw[<-hV,fF _ _ _ (by have:=hb1.size;omega)];exact(hb1.block _ (by omega)).trans HT.o⟩;have Hrow:V.heap[w1.heap.size]? = some (Y #[O J (r:Int),O .u8 (f:Int),O J 0] 153 (0,0)):=by rw[<-hV];exact cM _ _ _ rfl
 have k0:V.cell? ⟨w1.heap.size,0,none⟩=some (O J (r:Int)):=aZ Hrow rfl;have k2:V.cell? ⟨w1.heap.size,2,none⟩=some (O J 0):=aZ Hrow rfl;have hz2:w.heap.size<w1.heap.size:=by have:=hb1.size;omega
 clear hb1 HTr hV Hrow;go_wp2_with (rw[HV.o]);refine(HF.o _).mono ?_;rintro e w2 ⟨rfl,rfl⟩;go_wp2_with fail;refine(yaa w.heap.size k b n w2 HK.o (HP.o.later HB1.o) HT1.o h0 hn hb).mono ?_;rintro e w3 ⟨rfl,h3⟩;have HB3:U (zb w w3):=⟨HB1.o.trans (h3.mono (by have:=HB1.o.size;omega))⟩;clear h3;go_wp2_with fail;go_ret2;exact⟨rfl,HB3.o⟩
end dD
namespace fD
open arr mem bJ dL cZ bU cF spmx gI aT bE fL dD
theorem xp6(k:Int)(b:ByteArray)(n:Nat):bC.aU (out TL RL k b n)=sq (PP TL RL) (bG k) (pad (bG k) (cF.mark k) (abs (PP TL RL) (bG k) ⟨Z,0⟩ (eZ.aU b))) n:=by
 unfold out;exact dQ.xgp _ (fun x hx=>sq_lt _ _ _ _ x hx)
theorem xb1(k:Int)(b:ByteArray)(n:Nat):(out TL RL k b n).size=n:=by
 rw[<-bC.xaz,xp6,xmv]
end fD
namespace bM
open arr mem cZ bU dD aT aV aW bC bY cG bF fW fL fD bQ
theorem dI(T:Array aE)(hK:KT T TL RL):(aO.info? 34).map (·.size)=some T.size:=by rw[hK.size];kernel_rfl
def dU(b:ByteArray):Nat->Int:=uni (aU (out TL RL 1 b 1008))
def dS(b:ByteArray)(e:Int):Nat->Int:=sma (aU (out TL RL 2 b 816)) e
def dB(b:ByteArray)(tau:Int):Nat->Int:=ball (aU (out TL RL 2 b 544)) tau
def mw(a:Int):Nat:=lb (a-1).toNat+1
def dM(b:ByteArray)(a:Int):Nat->Int:=un (up (out TL RL 2 b (32*mw a)) (mw a)) a
theorem xd5(a:Int)(h:a=131072\/a=524288):lb (a-1+a).toNat=mw a/\mw a<=64/\(2:Int) ^ mw a=2*a:=by
 rcases h with rfl | rfl<;>decide +kernel
theorem xjz(s:ByteArray)(m i:Nat) : 0<=up s m i/\up s m i<(2:Int) ^ m:=by
 unfold up bC.bt;have:=kB (dZ.pk 8 (aU s) / 2 ^ (m*i)) (kD m);refine⟨Int.natCast_nonneg _,?_⟩;exact_mod_cast this
def qS(sd:ByteArray)(e:Int)(r:Nat):Nat->Int:=dS (tw sd r 0) e
def qM(sd:ByteArray)(a:Int)(fn r:Nat):Nat->Int:=dM (tw sd ((fn+r)%256) ((fn+r) / 256)) a
def qX(sd:ByteArray)(r c:Nat):Nat->Int:=dU (tw sd c r)
theorem xde{k l e t a b o s:Int}(h:bP k l e t a b o s=true):(1<=k/\k<=8)/\(1<=l/\l<=8)/\(1<=t/\t<=64)/\(e=2\/e=4)/\(a=131072\/a=524288):=by
 unfold bP upto at h;simp only[jQ,nW,kN,lL]at h;obtain⟨⟨⟨⟨⟨⟨⟨h1,h2⟩,h3⟩,h4⟩,h5⟩,h6⟩,h7⟩,h8⟩:=h;exact⟨h1,h2,h3,h5,h6⟩
end bM
end Go.Proofs.YtomphjajkkddkaaGreatDoor
