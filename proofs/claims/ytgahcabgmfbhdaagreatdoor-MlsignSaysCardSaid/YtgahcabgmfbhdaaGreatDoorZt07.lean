/-
  What squeeze of the sponge does: bytes of a sponge in memory. Conditions: the state has 25 words of 
-/
import Derived.Test.YtgahcabgmfbhdaaGreatDoorZt06
import Derived.Test.YtgahcabgmfbhdaaGreatDoorZt05
import Derived.Test.YtgahcabgmfbhdaaGreatDoorZt02
import Derived.Test.YtgahcabgmfbhdaaGreatDoorZt01
import Derived.Test.YtgahcabgmfbhdaaGreatDoorZt04
import Derived.Test.YtgahcabgmfbhdaaGreatDoorProg
set_option maxRecDepth 100000
set_option maxHeartbeats 16000000
set_option linter.unusedSimpArgs false
set_option linter.unusedVariables false
open Go Go.RowKit
namespace Go.Proofs.YtgahcabgmfbhdaaGreatDoor
namespace spog
open arr mem kecm kecb kstep kturn spgm spmx rspa rspc rspd spoa spob spoc spod spoe spof
theorem xd3{w:World}{base g cap n:Nat}{l:List UInt8}(hn:l.length=n)(h:w.ownsRow base 5 1 (.slice (some ⟨g,0,none⟩) n cap) n (Lib.byteCells l)):
 (convert 49 9 (.slice (some ⟨g,0,none⟩) n cap)).run Tryz.prog w=.ok (.string ⟨l.toArray⟩) w:=by
 subst hn;refine run_convert_bytes_back (P:=Tryz.prog) w 49 9 5 ⟨g,0,none⟩ cap l Tryz.underlying49 Tryz.underlying5 Tryz.underlying9 (fun j hj=>?_);have:=h.cellAt j (by omega);rw[Addr.add_mid,Nat.zero_add,this];simp[Lib.byteCells,hj]
theorem xb9{P:Program}{md:Region.Mode}{l:List Oper}{Q:Exit→Act→World→Prop}{listed:Array Bool}{a:Act}{w:World}(n g:Nat)(hB:Region.seqB md l.toArray g n listed=true)(hg:(l.drop n).length=g)
 (h:wpList P l.toArray Q (l.drop n) a w):wpAny P md l.toArray Q g listed a w:=by
 subst hg;exact wpAny_of_seq (l.drop n) n listed a w (fun j=>by simp[List.getElem?_drop]) hB h
theorem fin_is(k:Int)(h : 0<rate k):fin k=spgm.mark k:=by
 unfold fin spgm.mark;unfold rate at h;by_cases h1:k=1
 ·simp[h1]
 ·by_cases h2:k=2
  ·simp[h2]
  ·by_cases h3:k=3
   ·simp[h3]
   ·by_cases h4:k=4
    ·simp[h4]
    ·simp[h1,h2,h3,h4]at h
end spog
namespace spoh
open arr mem kecm kecb kstep kturn spgm spmx rspa rspc rspd spoa spob spoc spod spoe spof spog
theorem xv2(k:Int)(r:Nat)(hr:rate k=r)(h0 : 0<r):∃ z:Nat,∀ w1:World,Calls Tryz.prog 141 #[.int .i64 k] w1 (zB w1 (.agg #[.int .i64 (r:Int),.int .u8 ((spgm.mark k:Nat):Int),.int .i64 (z:Int)])):=
 ⟨spoa.size k,fun w1=>by have h:=xlw k w1;unfold tr at h;rw[hr,fin_is k (by rw[hr];exact h0)]at h;exact h⟩
theorem xln{T:Array Value}{ts rs:List Nat}(gt gs:Nat)(k:Int)(p0 n:Nat)(l:List Nat)(w:World)(h:St l)(hK:KT T ts rs)(hP:Gp w)(hT:w.heap[gt]? = some (.cells T 34 (0,0)))(hne:gt≠gs)(hgp:gs≠1)(hr0 : 0<rate k)(hp:p0<rate k)(hn:n≤50000)
 (hrow:w.heap[gs]? = some (.cells (SC k l (p0:Int) false) 165 (0,0))):
 Calls Tryz.prog 173 #[.pointer (some ⟨gt,0,none⟩),.pointer (some ⟨gs,0,none⟩),.int .i64 (n:Int)] w fun e w'=>e=.returned (.string ⟨(u8s (sq (PP ts rs) (rate k) (pad (rate k) (spgm.mark k) ⟨l,p0⟩) n)).toArray⟩)∧At gs (SC k (sk (PP ts rs) (rate k) (pad (rate k) (spgm.mark k) ⟨l,p0⟩) n).l ((sk (PP ts rs) (rate k) (pad (rate k) (spgm.mark k) ⟨l,p0⟩) n).at':Nat) true) 165 w w':=by
 have hr168:=xii k;obtain⟨r,hr⟩:=zev (rate k);rw[hr]at hp hr168 hr0 ⊢;obtain⟨z,hTr⟩:=xv2 k r hr hr0;have hf:=xnp k;obtain⟨f,hf2⟩:=zev (spgm.mark k);rw[hf2]at hTr hf ⊢;obtain⟨s0,Hs0⟩:=xaa (pad r f ⟨l,p0⟩);have Hs0k:Ω (St s0.l∧s0.at'≤r):=⟨by rw[←Hs0.out];exact xh8 h⟩;rw[Hs0.out];obtain⟨E,HE⟩:=xaa (sk (PP ts rs) r s0 n);rw[HE.out];obtain⟨bs,Hbs⟩:=xaa (u8s (sq (PP ts rs) r s0 n));have Hbl:Ω (bs.length=n):=⟨by rw[←Hbs.out,xv8,xlm]⟩;rw[Hbs.out];obtain⟨i0,hi,hz0,hz1,hz2⟩:=parts infoByte;have HI:=ω (And.intro hi (And.intro hz0 (And.intro hz1 hz2)));have HTr:=ω hTr;have H:=ω h;have HK:=ω hK;have HP:=ω hP;have HT:=ω hT;have HR:=ω hrow;have hgt:=xac hT;have hgs:=xac hrow;have c0:w.cell? ⟨gs,0,none⟩=some (.int .i64 k):=xab hrow (xcq k l _ _);have c3:w.cell? ⟨gs,27,none⟩=some (.bool false):=xab hrow (xcf k _ false h.len);clear h hK hP hT hrow hTr hr hi hz0 hz1 hz2;go_enter Tryz.func173,Tryz.ntmps173;go_wp2_with fail;refine(HTr.out _).mono ?_;rintro e w1 ⟨rfl,hb1⟩;have A1:Ω (At gs (SC k l (p0:Int) false) 165 w w1):=⟨(At.refl HR.out).later hb1⟩;obtain⟨W,hW⟩:=zev (w1.alloc (.cells #[.int .i64 (r:Int),.int .u8 (f:Int),.int .i64 (z:Int)] 175));have HW:=ω hW;obtain⟨gk,hgk⟩:=zev w1.heap.size;have hgk2:gs<gk:=by rw[←hgk];have:=A1.out.size;omega
 have A2:Ω (At gs (SC k l (p0:Int) false) 165 w W):=⟨by rw[←hW];exact A1.out.later (xbg _ _)⟩;have K2:Ω (W.heap[gk]? = some (.cells #[.int .i64 (r:Int),.int .u8 (f:Int),.int .i64 (z:Int)] 175 (0,0))):=⟨by rw[←hW];exact xae _ _ _ hgk.symm⟩;have hgkW:=xac K2.out;have c3:W.cell? ⟨gs,27,none⟩=some (.bool false):=xab A2.out.row (xcf k _ false H.out.len);have cp:W.cell? ⟨gs,26,none⟩=some (.int .i64 (p0:Int)):=xab A2.out.row (xas k _ false H.out.len);have ck1:W.cell? ⟨gk,1,none⟩=some (.int .u8 (f:Int)):=xab K2.out rfl;clear hb1 c0 HTr HR hW A1;go_wp2_with (rw[HW.out]);refine xay 9 (by kernel_rfl) (by kernel_rfl) ?_;simp only[List.take_succ_cons,List.take_zero,List.drop_succ_cons,List.drop_zero];repeat still_step
 refine wpStill_nil ?_;clear c3 cp ck1;go_wp2_with fail;refine(xh2 gs k (p0:Int) false l 165 p0 f W.drew H.out (by omega) hf A2.out.row).mono ?_;rintro e w3 ⟨rfl,h3⟩;have A3:Ω (At gs (SC k (xb l p0 f) (p0:Int) false) 165 W w3):=⟨⟨h3.os,h3.tape,h3.output,h3.size,h3.row,h3.block⟩⟩;have H3:Ω (St (xb l p0 f)):=⟨xci H.out p0 f⟩;obtain⟨l3,Hl3⟩:=xaa (xb l p0 f);rw[Hl3.out]at A3 H3;obtain⟨r1,hr1⟩:=zev (r-1);have fr1:IntKind.i64.wrap ((r:Int)-1)=(r1:Int):=zwi;have ck0:w3.cell? ⟨gk,0,none⟩=some (.int .i64 (r:Int)):=xab (A3.out.other hgkW (by omega) K2.out) rfl;clear h3;go_wp2_with fail;refine xay 6 (by kernel_rfl) (by kernel_rfl) ?_;simp only[List.take_succ_cons,List.take_zero,List.drop_succ_cons,List.drop_zero];repeat still_step
 refine wpStill_nil ?_;clear fr1 ck0;go_wp2_with fail;refine(xh2 gs k (p0:Int) false l3 165 r1 128 w3.drew H3.out (by omega) (by decide) A3.out.row).mono ?_;rintro e w5 ⟨rfl,h5⟩;have A5:Ω (At gs (SC k (xb l3 r1 128) (p0:Int) false) 165 W w5):=⟨A3.out.trans (b:=w3) ⟨h5.os,h5.tape,h5.output,h5.size,h5.row,h5.block⟩⟩;have H5:Ω (St (xb l3 r1 128)):=⟨xci H3.out r1 128⟩;have Hpad:Ω (s0=⟨xb l3 r1 128,r⟩):=⟨by rw[←Hs0.out,pad,Hl3.out,hr1]⟩;obtain⟨l5,Hl5⟩:=xaa (xb l3 r1 128);rw[Hl5.out]at A5 H5 Hpad;have ck0:w5.cell? ⟨gk,0,none⟩=some (.int .i64 (r:Int)):=xab (A5.out.other hgkW (by omega) K2.out) rfl;have co:w5.cell? ⟨gs,27,none⟩=some (.bool false):=xab A5.out.row (xcf k _ false H5.out.len);have fo:w5.frozen? ⟨gs,27,none⟩=false:=frozen_of_row w5 gs 27 _ _ A5.out.row;clear h5 Hl3 Hl5 Hs0 hr1 A3 H3;go_wp2_with fail;refine wp_region_any (by kernel_rfl) ?_;change wpAny _ _ _ _ _ _ _ (World.drew _)
 refine zA 0 ?_;refine zA 1 ?_;refine zA 2 ?_;refine zA 4 ?_;refine zA 5 ?_;refine wpAny_ready (rs:=[3,6]) (by kernel_rfl) (by simp) ?_;refine AllReady.cons rfl (fun K hK=>?_) (AllReady.cons rfl (fun K hK=>?_) AllReady.nil)
 ·(go_simp;refine hK _ _ ?_;clear hK K)
  (refine wpAny_ready (rs:=[6]) (by kernel_rfl) (by simp) ?_;refine AllReady.cons rfl (fun K hK=>?_) AllReady.nil;go_simp;refine hK _ _ ?_;clear hK K)
  refine xb9 7 3 (by kernel_rfl) (by kernel_rfl) ?_;simp only[List.drop_succ_cons,List.drop_zero];have A6:Ω (At gs (SC k l5 (p0:Int) true) 165 W (w5.setCell ⟨gs,27,none⟩ (.bool true)).drew):=⟨by
   have h9:=xct A5.out 27 (.bool true);rw[xle k _ false true H5.out.len]at h9;exact xag h9⟩
  obtain⟨w7,hw7⟩:=zev ((w5.setCell ⟨gs,27,none⟩ (.bool true)).drew);rw[hw7]at A6 ⊢;clear hw7 ck0 co fo A5;have c3:True:=trivial;go_wp2_with (first
   | ((with_reducible refine xaf A6 rfl _ _ _ rfl rfl ?_);refine⟨_,_,_,rfl,rfl,rfl,(by rw[xa5 k _ true H5.out.len];decide),?_⟩;intro w8 A8;rw[xbd k _ _ true H5.out.len]at A8;have A8:Ω (At gs (SC k s0.l (s0.at':Int) true) 165 W w8):=⟨by rw[Hpad.out];exact A8.out⟩;have K2:Ω (w8.heap[gk]? = some (.cells #[.int .i64 (r:Int),.int .u8 (f:Int),.int .i64 (z:Int)] 175 (0,0))):=⟨A8.out.other hgkW (by omega) K2.out⟩;have A2:Ω (At gs (SC k s0.l (s0.at':Int) true) 165 w w8):=⟨A2.out.trans A8.out⟩;clear A8 A6 Hpad)
   | (at_make;refine wpList_make_own _ rfl _ _ 49 rfl w8.heap.size 5 i0 (.int .u8 0) 1 Tryz.underlying49 HI.out.1 HI.out.2.1 HI.out.2.2.1 .i64 .i64 (n:Int) n rfl rfl rfl (by rw[HI.out.2.2.2];omega) (by unfold maxLen;omega) (Nat.le_refl _) ?_))
  intro w4 hown hgr;have hb4:Below w8.heap.size w8 w4:=(Below.refl _ _).grown hgr (Nat.le_refl _) (fun k hk=>by simp at hk);have hgkW:=xac K2.out;have AW:Ω (At gs (SC k s0.l (s0.at':Int) true) 165 w8 w4):=⟨(At.refl A2.out.row).later hb4⟩;have OW0:=ω hown;have PW:Ω (Gp w8):=⟨Gp.at HP.out A2.out hgp⟩;have TW:Ω (w8.heap[gt]? = some (.cells T 34 (0,0))):=⟨A2.out.other hgt hne HT.out⟩;have hgtW:gt<w8.heap.size:=xac TW.out;have hgsW:gs<w8.heap.size:=xac A2.out.row;clear hown hgr hb4 c3;go_wp2_with fail;go_loopw [8] (fun v wr=>∃ j:Nat,j≤n∧(∃ g cap,v=.slice (some ⟨g,0,none⟩) j cap)∧Ω (wr.ownsRow w8.heap.size 5 1 v j (Lib.byteCells (u8s (sq (PP ts rs) r s0 j))))∧Ω (At gs (SC k (sk (PP ts rs) r s0 j).l ((sk (PP ts rs) r s0 j).at':Nat) true) 165 w8 wr)) (fun v _=>n-(match v with | .slice _ m _=>m | _=>0))
  case atStart=>exact⟨0,Nat.zero_le _,⟨_,_,rfl⟩,OW0,AW⟩
  case round=>
   clear OW0 AW;obtain⟨j,hj,⟨gv,cap,rfl⟩,OWN,A0⟩:=hrel;by_cases hlt:j<n
   ·have hjz:(j:Int)<(n:Int):=by omega
    obtain⟨st,Hst⟩:=xaa (sk (PP ts rs) r s0 j);have Hso:Ω (St st.l∧st.at'≤r):=⟨by rw[←Hst.out];exact xel (fun _ h=>xbw HK.out.br h) hr0 Hs0k.out.1 Hs0k.out.2 j⟩;rw[Hst.out]at A0;have Htl:Ω (St (tn (PP ts rs) r st).l∧(tn (PP ts rs) r st).at'<r):=⟨xlu (fun _ h=>xbw HK.out.br h) hr0 Hso.out.1 Hso.out.2⟩;obtain⟨sl,p⟩:=st;have hsl:=Hso.out.1;have hp':=Hso.out.2;simp only at hsl hp' A0;have hp8:p≤168:=by omega
    have Hsl:=ω hsl;have Hp:=ω hp';have cp0:wr.cell? ⟨gs,26,none⟩=some (.int .i64 (p:Int)):=xab A0.out.row (xas k _ true hsl.len);have Krow:Ω (wr.heap[gk]? = some (.cells #[.int .i64 (r:Int),.int .u8 (f:Int),.int .i64 (z:Int)] 175 (0,0))):=⟨A0.out.other hgkW (by omega) K2.out⟩;have ck0:wr.cell? ⟨gk,0,none⟩=some (.int .i64 (r:Int)):=xab Krow.out rfl;clear hsl hp';by_cases he:p=r
    ·have hz:((p:Int)==(r:Int))=true:=beq_iff_eq.2 (by omega);go_wp2_with fail;refine xav (by kernel_rfl) (by kernel_rfl) ?_;repeat still_step
     refine wpStill_nil ?_;have Ad:Ω (At gs (SC k sl (p:Int) true) 165 w8 wr.drew):=⟨xag A0.out⟩;go_wp2_with fail;refine(xh5 gt gs k (p:Int) true sl wr.drew Hsl.out HK.out (Gp.at PW.out Ad.out hgp) (Ad.out.other hgtW hne TW.out) Ad.out.row).mono ?_;rintro e w6 ⟨rfl,h6⟩;have A6:Ω (At gs (SC k (PP ts rs sl) ((0:Nat):Int) true) 165 w8 w6):=⟨Ad.out.trans h6⟩;have O6:Ω (w6.ownsRow w8.heap.size 5 1 (.slice (some ⟨gv,0,none⟩) j cap) j (Lib.byteCells (u8s (sq (PP ts rs) r s0 j)))):=⟨xbv (World.ownsRow.drew OWN.out) h6 hgsW⟩;have Htn:Ω (tn (PP ts rs) r ⟨sl,p⟩=⟨PP ts rs sl,0⟩):=⟨by rw[tn,if_pos he]⟩;clear h6 cp0 ck0 Krow OWN Ad A0;obtain⟨y,hy⟩:∃ y:Nat,0=y:=⟨_,rfl⟩;rw[hy]at A6 Htn;obtain⟨xl,Hxl⟩:=xaa (PP ts rs sl);rw[Hxl.out]at A6 Htn;rw[Htn.out]at Htl;clear hy Hxl he hz;go_wp2_with fail;have HXl:Ω (St xl):=⟨Htl.out.1⟩;have hyr:y<r:=Htl.out.2;obtain⟨d,hd⟩:=zev (y+n-j);obtain⟨d1,hd1⟩:=zev (y+n);have fd1:IntKind.i64.wrap ((y:Int)+(n:Int))=(d1:Int):=zwi;have fd:IntKind.i64.wrap ((d1:Int)-(j:Int))=(d:Int):=zwi;have cp1:w6.cell? ⟨gs,26,none⟩=some (.int .i64 (y:Int)):=xab A6.out.row (xas k _ true HXl.out.len);have K6:Ω (w6.heap[gk]? = some (.cells #[.int .i64 (r:Int),.int .u8 (f:Int),.int .i64 (z:Int)] 175 (0,0))):=⟨A6.out.other hgkW (by omega) K2.out⟩;have ck1:w6.cell? ⟨gk,0,none⟩=some (.int .i64 (r:Int)):=xab K6.out rfl;clear Htl;refine xav (by kernel_rfl) (by kernel_rfl) ?_;repeat still_step
     refine wpStill_nil ?_;obtain⟨zz,hzz⟩:=zev ((if r<d then r else d));have hmin:(if r<d then (r:Int) else (d:Int))=(zz:Int):=by rw[←hzz];split<;>rfl
     have hz1:y<zz:=by rw[←hzz];split<;>omega
     have hz2:zz≤r:=by rw[←hzz];split<;>omega
     have hz3:j+(zz-y)≤n:=by rw[←hzz];split<;>omega
     rw[hmin];obtain⟨m,hm⟩:=zev (zz-y);have HNX:Ω (sk (PP ts rs) r s0 (j+m)=⟨xl,zz⟩∧sq (PP ts rs) r s0 (j+m)=sq (PP ts rs) r s0 j++gbs xl y m):=⟨by
      obtain⟨k1,k2⟩:=xim (PP ts rs) r ⟨sl,p⟩ xl y m hr0 Htn.out (by omega) (by omega);rw[xek,xgv,Hst.out,k1,k2,show y+m=zz by omega];exact⟨rfl,rfl⟩⟩
     have HC:=ω (xij w8.heap.size gs k (y:Int) true xl 165 (sq (PP ts rs) r s0 j) j gv cap y zz w6.drew.drew HXl.out (by omega) (by omega) (by omega) hgsW A6.out.size A6.out.row (World.ownsRow.drew (World.ownsRow.drew O6.out)));rw[hm]at HC hz3;have hA6:=A6.out.size;clear hzz hmin fd fd1 hd hd1 O6 Htn ck1;have cp1:w6.drew.cell? ⟨gs,26,none⟩=some (.int .i64 (y:Int)):=cp1;go_wp2_with fail;refine xay 9 (by kernel_rfl) (by kernel_rfl) ?_;simp only[List.take_succ_cons,List.take_zero,List.drop_succ_cons,List.drop_zero];repeat still_step
     refine wpStill_nil ?_;clear cp1;go_wp2_with fail;refine HC.out.mono ?_;rintro e w7 ⟨gv',cap',rfl,OY,hb7⟩;have OY:=ω OY;have A7:Ω (At gs (SC k xl (y:Int) true) 165 w8 w7):=⟨xck (xag (xag A6.out)) hb7 (Nat.le_refl _) hgsW⟩;have AR:Ω (At gs (SC k xl (y:Int) true) 165 w7 w7):=⟨At.refl A7.out.row⟩;clear hb7 HC A6 K6;go_wp2_with ((with_reducible refine xaf AR rfl _ _ _ rfl rfl ?_);refine⟨_,_,_,rfl,rfl,rfl,(by rw[xa5 k _ true HXl.out.len];decide),?_⟩;intro w9 HR9;rw[xbd k _ _ true HXl.out.len]at HR9);have AN:Ω (At gs (SC k (sk (PP ts rs) r s0 (j+m)).l ((sk (PP ts rs) r s0 (j+m)).at':Nat) true) 165 w8 w9):=⟨by rw[HNX.out.1];exact A7.out.trans HR9.out⟩;have ON:Ω (w9.ownsRow w8.heap.size 5 1 (.slice (some ⟨gv',0,none⟩) (j+m) cap') (j+m) (Lib.byteCells (u8s (sq (PP ts rs) r s0 (j+m))))):=⟨by rw[HNX.out.2];exact xbv OY.out HR9.out hgsW⟩;clear HR9 AR A7 OY;go_roundw
     case rel=>exact⟨j+m,hz3,⟨_,_,rfl⟩,ON,AN⟩
     case measure=>simp;omega
    ·have hz:((p:Int)==(r:Int))=false:=beq_eq_false_iff_ne.2 (by omega);go_wp2_with fail;refine xav (by kernel_rfl) (by kernel_rfl) ?_;repeat still_step
     refine wpStill_nil ?_;have A6:Ω (At gs (SC k sl (p:Int) true) 165 w8 wr.drew):=⟨xag A0.out⟩;have O6:Ω (wr.drew.ownsRow w8.heap.size 5 1 (.slice (some ⟨gv,0,none⟩) j cap) j (Lib.byteCells (u8s (sq (PP ts rs) r s0 j)))):=⟨World.ownsRow.drew OWN.out⟩;have Htn:Ω (tn (PP ts rs) r ⟨sl,p⟩=⟨sl,p⟩):=⟨by rw[tn,if_neg he]⟩;rw[Htn.out]at Htl;clear cp0 ck0 Krow OWN A0 he;obtain⟨w6,hw6⟩:=zev wr.drew;rw[hw6]at A6 O6 ⊢;obtain⟨xl,Hxl⟩:=zev sl;obtain⟨y,hy⟩:=zev p;have Htn:Ω (tn (PP ts rs) r ⟨sl,p⟩=⟨xl,y⟩):=⟨by rw[←Hxl,←hy];exact Htn.out⟩;rw[Hxl]at A6 Htl;rw[hy]at A6 Htl;clear hw6 Hxl hy;go_wp2_with fail;clear hz;have HXl:Ω (St xl):=⟨Htl.out.1⟩;have hyr:y<r:=Htl.out.2;obtain⟨d,hd⟩:=zev (y+n-j);obtain⟨d1,hd1⟩:=zev (y+n);have fd1:IntKind.i64.wrap ((y:Int)+(n:Int))=(d1:Int):=zwi;have fd:IntKind.i64.wrap ((d1:Int)-(j:Int))=(d:Int):=zwi;have cp1:w6.cell? ⟨gs,26,none⟩=some (.int .i64 (y:Int)):=xab A6.out.row (xas k _ true HXl.out.len);have K6:Ω (w6.heap[gk]? = some (.cells #[.int .i64 (r:Int),.int .u8 (f:Int),.int .i64 (z:Int)] 175 (0,0))):=⟨A6.out.other hgkW (by omega) K2.out⟩;have ck1:w6.cell? ⟨gk,0,none⟩=some (.int .i64 (r:Int)):=xab K6.out rfl;clear Htl;refine xav (by kernel_rfl) (by kernel_rfl) ?_;repeat still_step
     refine wpStill_nil ?_;obtain⟨zz,hzz⟩:=zev ((if r<d then r else d));have hmin:(if r<d then (r:Int) else (d:Int))=(zz:Int):=by rw[←hzz];split<;>rfl
     have hz1:y<zz:=by rw[←hzz];split<;>omega
     have hz2:zz≤r:=by rw[←hzz];split<;>omega
     have hz3:j+(zz-y)≤n:=by rw[←hzz];split<;>omega
     rw[hmin];obtain⟨m,hm⟩:=zev (zz-y);have HNX:Ω (sk (PP ts rs) r s0 (j+m)=⟨xl,zz⟩∧sq (PP ts rs) r s0 (j+m)=sq (PP ts rs) r s0 j++gbs xl y m):=⟨by
      obtain⟨k1,k2⟩:=xim (PP ts rs) r ⟨sl,p⟩ xl y m hr0 Htn.out (by omega) (by omega);rw[xek,xgv,Hst.out,k1,k2,show y+m=zz by omega];exact⟨rfl,rfl⟩⟩
     have HC:=ω (xij w8.heap.size gs k (y:Int) true xl 165 (sq (PP ts rs) r s0 j) j gv cap y zz w6.drew.drew HXl.out (by omega) (by omega) (by omega) hgsW A6.out.size A6.out.row (World.ownsRow.drew (World.ownsRow.drew O6.out)));rw[hm]at HC hz3;have hA6:=A6.out.size;clear hzz hmin fd fd1 hd hd1 O6 Htn ck1;have cp1:w6.drew.cell? ⟨gs,26,none⟩=some (.int .i64 (y:Int)):=cp1;go_wp2_with fail;refine xay 9 (by kernel_rfl) (by kernel_rfl) ?_;simp only[List.take_succ_cons,List.take_zero,List.drop_succ_cons,List.drop_zero];repeat still_step
     refine wpStill_nil ?_;clear cp1;go_wp2_with fail;refine HC.out.mono ?_;rintro e w7 ⟨gv',cap',rfl,OY,hb7⟩;have OY:=ω OY;have A7:Ω (At gs (SC k xl (y:Int) true) 165 w8 w7):=⟨xck (xag (xag A6.out)) hb7 (Nat.le_refl _) hgsW⟩;have AR:Ω (At gs (SC k xl (y:Int) true) 165 w7 w7):=⟨At.refl A7.out.row⟩;clear hb7 HC A6 K6;go_wp2_with ((with_reducible refine xaf AR rfl _ _ _ rfl rfl ?_);refine⟨_,_,_,rfl,rfl,rfl,(by rw[xa5 k _ true HXl.out.len];decide),?_⟩;intro w9 HR9;rw[xbd k _ _ true HXl.out.len]at HR9);have AN:Ω (At gs (SC k (sk (PP ts rs) r s0 (j+m)).l ((sk (PP ts rs) r s0 (j+m)).at':Nat) true) 165 w8 w9):=⟨by rw[HNX.out.1];exact A7.out.trans HR9.out⟩;have ON:Ω (w9.ownsRow w8.heap.size 5 1 (.slice (some ⟨gv',0,none⟩) (j+m) cap') (j+m) (Lib.byteCells (u8s (sq (PP ts rs) r s0 (j+m))))):=⟨by rw[HNX.out.2];exact xbv OY.out HR9.out hgsW⟩;clear HR9 AR A7 OY;go_roundw
     case rel=>exact⟨j+m,hz3,⟨_,_,rfl⟩,ON,AN⟩
     case measure=>simp;omega
   ·obtain rfl:j=n:=by omega
    rw[HE.out]at A0;rw[Hbs.out]at OWN;have hcv:=xd3 Hbl.out OWN.out;have AF:Ω (At gs (SC k E.l (E.at':Int) true) 165 w wr):=⟨A2.out.trans A0.out⟩;clear A0 OWN;go_wp2_with fail;go_ret;exact⟨rfl,AF.out⟩
 ·(go_simp;refine hK _ _ ?_;clear hK K)
  (refine wpAny_ready (rs:=[3]) (by kernel_rfl) (by simp) ?_;refine AllReady.cons rfl (fun K hK=>?_) AllReady.nil;go_simp;refine hK _ _ ?_;clear hK K)
  refine xb9 7 3 (by kernel_rfl) (by kernel_rfl) ?_;simp only[List.drop_succ_cons,List.drop_zero];have A6:Ω (At gs (SC k l5 (p0:Int) true) 165 W (w5.setCell ⟨gs,27,none⟩ (.bool true)).drew):=⟨by
   have h9:=xct A5.out 27 (.bool true);rw[xle k _ false true H5.out.len]at h9;exact xag h9⟩
  obtain⟨w7,hw7⟩:=zev ((w5.setCell ⟨gs,27,none⟩ (.bool true)).drew);rw[hw7]at A6 ⊢;clear hw7 ck0 co fo A5;have c3:True:=trivial;go_wp2_with (first
   | ((with_reducible refine xaf A6 rfl _ _ _ rfl rfl ?_);refine⟨_,_,_,rfl,rfl,rfl,(by rw[xa5 k _ true H5.out.len];decide),?_⟩;intro w8 A8;rw[xbd k _ _ true H5.out.len]at A8;have A8:Ω (At gs (SC k s0.l (s0.at':Int) true) 165 W w8):=⟨by rw[Hpad.out];exact A8.out⟩;have K2:Ω (w8.heap[gk]? = some (.cells #[.int .i64 (r:Int),.int .u8 (f:Int),.int .i64 (z:Int)] 175 (0,0))):=⟨A8.out.other hgkW (by omega) K2.out⟩;have A2:Ω (At gs (SC k s0.l (s0.at':Int) true) 165 w w8):=⟨A2.out.trans A8.out⟩;clear A8 A6 Hpad)
   | (at_make;refine wpList_make_own _ rfl _ _ 49 rfl w8.heap.size 5 i0 (.int .u8 0) 1 Tryz.underlying49 HI.out.1 HI.out.2.1 HI.out.2.2.1 .i64 .i64 (n:Int) n rfl rfl rfl (by rw[HI.out.2.2.2];omega) (by unfold maxLen;omega) (Nat.le_refl _) ?_))
  intro w4 hown hgr;have hb4:Below w8.heap.size w8 w4:=(Below.refl _ _).grown hgr (Nat.le_refl _) (fun k hk=>by simp at hk);have hgkW:=xac K2.out;have AW:Ω (At gs (SC k s0.l (s0.at':Int) true) 165 w8 w4):=⟨(At.refl A2.out.row).later hb4⟩;have OW0:=ω hown;have PW:Ω (Gp w8):=⟨Gp.at HP.out A2.out hgp⟩;have TW:Ω (w8.heap[gt]? = some (.cells T 34 (0,0))):=⟨A2.out.other hgt hne HT.out⟩;have hgtW:gt<w8.heap.size:=xac TW.out;have hgsW:gs<w8.heap.size:=xac A2.out.row;clear hown hgr hb4 c3;go_wp2_with fail;go_loopw [8] (fun v wr=>∃ j:Nat,j≤n∧(∃ g cap,v=.slice (some ⟨g,0,none⟩) j cap)∧Ω (wr.ownsRow w8.heap.size 5 1 v j (Lib.byteCells (u8s (sq (PP ts rs) r s0 j))))∧Ω (At gs (SC k (sk (PP ts rs) r s0 j).l ((sk (PP ts rs) r s0 j).at':Nat) true) 165 w8 wr)) (fun v _=>n-(match v with | .slice _ m _=>m | _=>0))
  case atStart=>exact⟨0,Nat.zero_le _,⟨_,_,rfl⟩,OW0,AW⟩
  case round=>
   clear OW0 AW;obtain⟨j,hj,⟨gv,cap,rfl⟩,OWN,A0⟩:=hrel;by_cases hlt:j<n
   ·have hjz:(j:Int)<(n:Int):=by omega
    obtain⟨st,Hst⟩:=xaa (sk (PP ts rs) r s0 j);have Hso:Ω (St st.l∧st.at'≤r):=⟨by rw[←Hst.out];exact xel (fun _ h=>xbw HK.out.br h) hr0 Hs0k.out.1 Hs0k.out.2 j⟩;rw[Hst.out]at A0;have Htl:Ω (St (tn (PP ts rs) r st).l∧(tn (PP ts rs) r st).at'<r):=⟨xlu (fun _ h=>xbw HK.out.br h) hr0 Hso.out.1 Hso.out.2⟩;obtain⟨sl,p⟩:=st;have hsl:=Hso.out.1;have hp':=Hso.out.2;simp only at hsl hp' A0;have hp8:p≤168:=by omega
    have Hsl:=ω hsl;have Hp:=ω hp';have cp0:wr.cell? ⟨gs,26,none⟩=some (.int .i64 (p:Int)):=xab A0.out.row (xas k _ true hsl.len);have Krow:Ω (wr.heap[gk]? = some (.cells #[.int .i64 (r:Int),.int .u8 (f:Int),.int .i64 (z:Int)] 175 (0,0))):=⟨A0.out.other hgkW (by omega) K2.out⟩;have ck0:wr.cell? ⟨gk,0,none⟩=some (.int .i64 (r:Int)):=xab Krow.out rfl;clear hsl hp';by_cases he:p=r
    ·have hz:((p:Int)==(r:Int))=true:=beq_iff_eq.2 (by omega);go_wp2_with fail;refine xav (by kernel_rfl) (by kernel_rfl) ?_;repeat still_step
     refine wpStill_nil ?_;have Ad:Ω (At gs (SC k sl (p:Int) true) 165 w8 wr.drew):=⟨xag A0.out⟩;go_wp2_with fail;refine(xh5 gt gs k (p:Int) true sl wr.drew Hsl.out HK.out (Gp.at PW.out Ad.out hgp) (Ad.out.other hgtW hne TW.out) Ad.out.row).mono ?_;rintro e w6 ⟨rfl,h6⟩;have A6:Ω (At gs (SC k (PP ts rs sl) ((0:Nat):Int) true) 165 w8 w6):=⟨Ad.out.trans h6⟩;have O6:Ω (w6.ownsRow w8.heap.size 5 1 (.slice (some ⟨gv,0,none⟩) j cap) j (Lib.byteCells (u8s (sq (PP ts rs) r s0 j)))):=⟨xbv (World.ownsRow.drew OWN.out) h6 hgsW⟩;have Htn:Ω (tn (PP ts rs) r ⟨sl,p⟩=⟨PP ts rs sl,0⟩):=⟨by rw[tn,if_pos he]⟩;clear h6 cp0 ck0 Krow OWN Ad A0;obtain⟨y,hy⟩:∃ y:Nat,0=y:=⟨_,rfl⟩;rw[hy]at A6 Htn;obtain⟨xl,Hxl⟩:=xaa (PP ts rs sl);rw[Hxl.out]at A6 Htn;rw[Htn.out]at Htl;clear hy Hxl he hz;go_wp2_with fail;have HXl:Ω (St xl):=⟨Htl.out.1⟩;have hyr:y<r:=Htl.out.2;obtain⟨d,hd⟩:=zev (y+n-j);obtain⟨d1,hd1⟩:=zev (y+n);have fd1:IntKind.i64.wrap ((y:Int)+(n:Int))=(d1:Int):=zwi;have fd:IntKind.i64.wrap ((d1:Int)-(j:Int))=(d:Int):=zwi;have cp1:w6.cell? ⟨gs,26,none⟩=some (.int .i64 (y:Int)):=xab A6.out.row (xas k _ true HXl.out.len);have K6:Ω (w6.heap[gk]? = some (.cells #[.int .i64 (r:Int),.int .u8 (f:Int),.int .i64 (z:Int)] 175 (0,0))):=⟨A6.out.other hgkW (by omega) K2.out⟩;have ck1:w6.cell? ⟨gk,0,none⟩=some (.int .i64 (r:Int)):=xab K6.out rfl;clear Htl;refine xav (by kernel_rfl) (by kernel_rfl) ?_;repeat still_step
     refine wpStill_nil ?_;obtain⟨zz,hzz⟩:=zev ((if r<d then r else d));have hmin:(if r<d then (r:Int) else (d:Int))=(zz:Int):=by rw[←hzz];split<;>rfl
     have hz1:y<zz:=by rw[←hzz];split<;>omega
     have hz2:zz≤r:=by rw[←hzz];split<;>omega
     have hz3:j+(zz-y)≤n:=by rw[←hzz];split<;>omega
     rw[hmin];obtain⟨m,hm⟩:=zev (zz-y);have HNX:Ω (sk (PP ts rs) r s0 (j+m)=⟨xl,zz⟩∧sq (PP ts rs) r s0 (j+m)=sq (PP ts rs) r s0 j++gbs xl y m):=⟨by
      obtain⟨k1,k2⟩:=xim (PP ts rs) r ⟨sl,p⟩ xl y m hr0 Htn.out (by omega) (by omega);rw[xek,xgv,Hst.out,k1,k2,show y+m=zz by omega];exact⟨rfl,rfl⟩⟩
     have HC:=ω (xij w8.heap.size gs k (y:Int) true xl 165 (sq (PP ts rs) r s0 j) j gv cap y zz w6.drew.drew HXl.out (by omega) (by omega) (by omega) hgsW A6.out.size A6.out.row (World.ownsRow.drew (World.ownsRow.drew O6.out)));rw[hm]at HC hz3;have hA6:=A6.out.size;clear hzz hmin fd fd1 hd hd1 O6 Htn ck1;have cp1:w6.drew.cell? ⟨gs,26,none⟩=some (.int .i64 (y:Int)):=cp1;go_wp2_with fail;refine xay 9 (by kernel_rfl) (by kernel_rfl) ?_;simp only[List.take_succ_cons,List.take_zero,List.drop_succ_cons,List.drop_zero];repeat still_step
     refine wpStill_nil ?_;clear cp1;go_wp2_with fail;refine HC.out.mono ?_;rintro e w7 ⟨gv',cap',rfl,OY,hb7⟩;have OY:=ω OY;have A7:Ω (At gs (SC k xl (y:Int) true) 165 w8 w7):=⟨xck (xag (xag A6.out)) hb7 (Nat.le_refl _) hgsW⟩;have AR:Ω (At gs (SC k xl (y:Int) true) 165 w7 w7):=⟨At.refl A7.out.row⟩;clear hb7 HC A6 K6;go_wp2_with ((with_reducible refine xaf AR rfl _ _ _ rfl rfl ?_);refine⟨_,_,_,rfl,rfl,rfl,(by rw[xa5 k _ true HXl.out.len];decide),?_⟩;intro w9 HR9;rw[xbd k _ _ true HXl.out.len]at HR9);have AN:Ω (At gs (SC k (sk (PP ts rs) r s0 (j+m)).l ((sk (PP ts rs) r s0 (j+m)).at':Nat) true) 165 w8 w9):=⟨by rw[HNX.out.1];exact A7.out.trans HR9.out⟩;have ON:Ω (w9.ownsRow w8.heap.size 5 1 (.slice (some ⟨gv',0,none⟩) (j+m) cap') (j+m) (Lib.byteCells (u8s (sq (PP ts rs) r s0 (j+m))))):=⟨by rw[HNX.out.2];exact xbv OY.out HR9.out hgsW⟩;clear HR9 AR A7 OY;go_roundw
     case rel=>exact⟨j+m,hz3,⟨_,_,rfl⟩,ON,AN⟩
     case measure=>simp;omega
    ·have hz:((p:Int)==(r:Int))=false:=beq_eq_false_iff_ne.2 (by omega);go_wp2_with fail;refine xav (by kernel_rfl) (by kernel_rfl) ?_;repeat still_step
     refine wpStill_nil ?_;have A6:Ω (At gs (SC k sl (p:Int) true) 165 w8 wr.drew):=⟨xag A0.out⟩;have O6:Ω (wr.drew.ownsRow w8.heap.size 5 1 (.slice (some ⟨gv,0,none⟩) j cap) j (Lib.byteCells (u8s (sq (PP ts rs) r s0 j)))):=⟨World.ownsRow.drew OWN.out⟩;have Htn:Ω (tn (PP ts rs) r ⟨sl,p⟩=⟨sl,p⟩):=⟨by rw[tn,if_neg he]⟩;rw[Htn.out]at Htl;clear cp0 ck0 Krow OWN A0 he;obtain⟨w6,hw6⟩:=zev wr.drew;rw[hw6]at A6 O6 ⊢;obtain⟨xl,Hxl⟩:=zev sl;obtain⟨y,hy⟩:=zev p;have Htn:Ω (tn (PP ts rs) r ⟨sl,p⟩=⟨xl,y⟩):=⟨by rw[←Hxl,←hy];exact Htn.out⟩;rw[Hxl]at A6 Htl;rw[hy]at A6 Htl;clear hw6 Hxl hy;go_wp2_with fail;clear hz;have HXl:Ω (St xl):=⟨Htl.out.1⟩;have hyr:y<r:=Htl.out.2;obtain⟨d,hd⟩:=zev (y+n-j);obtain⟨d1,hd1⟩:=zev (y+n);have fd1:IntKind.i64.wrap ((y:Int)+(n:Int))=(d1:Int):=zwi;have fd:IntKind.i64.wrap ((d1:Int)-(j:Int))=(d:Int):=zwi;have cp1:w6.cell? ⟨gs,26,none⟩=some (.int .i64 (y:Int)):=xab A6.out.row (xas k _ true HXl.out.len);have K6:Ω (w6.heap[gk]? = some (.cells #[.int .i64 (r:Int),.int .u8 (f:Int),.int .i64 (z:Int)] 175 (0,0))):=⟨A6.out.other hgkW (by omega) K2.out⟩;have ck1:w6.cell? ⟨gk,0,none⟩=some (.int .i64 (r:Int)):=xab K6.out rfl;clear Htl;refine xav (by kernel_rfl) (by kernel_rfl) ?_;repeat still_step
     refine wpStill_nil ?_;obtain⟨zz,hzz⟩:=zev ((if r<d then r else d));have hmin:(if r<d then (r:Int) else (d:Int))=(zz:Int):=by rw[←hzz];split<;>rfl
     have hz1:y<zz:=by rw[←hzz];split<;>omega
     have hz2:zz≤r:=by rw[←hzz];split<;>omega
     have hz3:j+(zz-y)≤n:=by rw[←hzz];split<;>omega
     rw[hmin];obtain⟨m,hm⟩:=zev (zz-y);have HNX:Ω (sk (PP ts rs) r s0 (j+m)=⟨xl,zz⟩∧sq (PP ts rs) r s0 (j+m)=sq (PP ts rs) r s0 j++gbs xl y m):=⟨by
      obtain⟨k1,k2⟩:=xim (PP ts rs) r ⟨sl,p⟩ xl y m hr0 Htn.out (by omega) (by omega);rw[xek,xgv,Hst.out,k1,k2,show y+m=zz by omega];exact⟨rfl,rfl⟩⟩
     have HC:=ω (xij w8.heap.size gs k (y:Int) true xl 165 (sq (PP ts rs) r s0 j) j gv cap y zz w6.drew.drew HXl.out (by omega) (by omega) (by omega) hgsW A6.out.size A6.out.row (World.ownsRow.drew (World.ownsRow.drew O6.out)));rw[hm]at HC hz3;have hA6:=A6.out.size;clear hzz hmin fd fd1 hd hd1 O6 Htn ck1;have cp1:w6.drew.cell? ⟨gs,26,none⟩=some (.int .i64 (y:Int)):=cp1;go_wp2_with fail;refine xay 9 (by kernel_rfl) (by kernel_rfl) ?_;simp only[List.take_succ_cons,List.take_zero,List.drop_succ_cons,List.drop_zero];repeat still_step
     refine wpStill_nil ?_;clear cp1;go_wp2_with fail;refine HC.out.mono ?_;rintro e w7 ⟨gv',cap',rfl,OY,hb7⟩;have OY:=ω OY;have A7:Ω (At gs (SC k xl (y:Int) true) 165 w8 w7):=⟨xck (xag (xag A6.out)) hb7 (Nat.le_refl _) hgsW⟩;have AR:Ω (At gs (SC k xl (y:Int) true) 165 w7 w7):=⟨At.refl A7.out.row⟩;clear hb7 HC A6 K6;go_wp2_with ((with_reducible refine xaf AR rfl _ _ _ rfl rfl ?_);refine⟨_,_,_,rfl,rfl,rfl,(by rw[xa5 k _ true HXl.out.len];decide),?_⟩;intro w9 HR9;rw[xbd k _ _ true HXl.out.len]at HR9);have AN:Ω (At gs (SC k (sk (PP ts rs) r s0 (j+m)).l ((sk (PP ts rs) r s0 (j+m)).at':Nat) true) 165 w8 w9):=⟨by rw[HNX.out.1];exact A7.out.trans HR9.out⟩;have ON:Ω (w9.ownsRow w8.heap.size 5 1 (.slice (some ⟨gv',0,none⟩) (j+m) cap') (j+m) (Lib.byteCells (u8s (sq (PP ts rs) r s0 (j+m))))):=⟨by rw[HNX.out.2];exact xbv OY.out HR9.out hgsW⟩;clear HR9 AR A7 OY;go_roundw
     case rel=>exact⟨j+m,hz3,⟨_,_,rfl⟩,ON,AN⟩
     case measure=>simp;omega
   ·obtain rfl:j=n:=by omega
    rw[HE.out]at A0;rw[Hbs.out]at OWN;have hcv:=xd3 Hbl.out OWN.out;have AF:Ω (At gs (SC k E.l (E.at':Int) true) 165 w wr):=⟨A2.out.trans A0.out⟩;clear A0 OWN;go_wp2_with fail;go_ret;exact⟨rfl,AF.out⟩
end spoh
namespace spok
open arr mem kecm kecb kstep kturn kfun spgm spmx rspa rspb rspc rspd rspe spoa spob spoe spof spog spoh
theorem z_st:St Z:=kecd.st_of xep (by decide)
def out(ts rs:List Nat)(k:Int)(b:ByteArray)(n:Nat):ByteArray:=⟨(u8s (sq (PP ts rs) (rate k) (pad (rate k) (spgm.mark k) (abs (PP ts rs) (rate k) ⟨Z,0⟩ (bys b))) n)).toArray⟩
theorem xwc{T:Array Value}{ts rs:List Nat}(gt:Nat)(k:Int)(b:ByteArray)(n:Nat)(w:World)(hK:KT T ts rs)(hP:Gp w)(hT:w.heap[gt]? = some (.cells T 34 (0,0)))(hr0 : 0<rate k)(hn:n≤50000)(hb:b.size≤1125899906842624):
 Calls Tryz.prog 143 #[.pointer (some ⟨gt,0,none⟩),.int .i64 k,.string b,.int .i64 (n:Int)] w (zB w (.string (out ts rs k b n))):=by
 obtain⟨O,HO⟩:=xaa (out ts rs k b n);rw[HO.out];obtain⟨E,HE⟩:=xaa (abs (PP ts rs) (rate k) ⟨Z,0⟩ (bys b));have hEo:St E.l∧E.at'<rate k:=by rw[←HE.out];exact xg6 (fun _ h=>xbw hK.br h) _ z_st hr0
 obtain⟨F,HF⟩:=xaa (SC k Z 0 false);have Fi:Ω ((Tryz.prog.info? 165).map (·.size)=some F.size):=⟨by rw[←HF.out];exact xdb _ _ _ xep⟩;have Fo:Ω (F.all (·.oneCell')=true):=⟨by rw[←HF.out];exact xdw _ _ _ _⟩;have Fz:Ω ((#[.int .i64 0,.int .u64 0,.int .u64 0,.int .u64 0,.int .u64 0,.int .u64 0,.int .u64 0,.int .u64 0,.int .u64 0,.int .u64 0,.int .u64 0,.int .u64 0,.int .u64 0,.int .u64 0,.int .u64 0,.int .u64 0,.int .u64 0,.int .u64 0,.int .u64 0,.int .u64 0,.int .u64 0,.int .u64 0,.int .u64 0,.int .u64 0,.int .u64 0,.int .u64 0,.int .i64 0,.bool false]:Array Value).size=F.size):=⟨by rw[←HF.out,xa5 _ _ _ xep];rfl⟩;have Fb:Ω ((#[.int .i64 k,.int .u64 0,.int .u64 0,.int .u64 0,.int .u64 0,.int .u64 0,.int .u64 0,.int .u64 0,.int .u64 0,.int .u64 0,.int .u64 0,.int .u64 0,.int .u64 0,.int .u64 0,.int .u64 0,.int .u64 0,.int .u64 0,.int .u64 0,.int .u64 0,.int .u64 0,.int .u64 0,.int .u64 0,.int .u64 0,.int .u64 0,.int .u64 0,.int .u64 0,.int .i64 0,.bool false]:Array Value)=F):=⟨by rw[←HF.out];rfl⟩;have hgp:=xf6 hP;have hgt:=xac hT;obtain⟨W,hW⟩:=zev (w.alloc (.cells F 165));have HW:=ω hW;have hb0:Below w.heap.size w W:=by rw[←hW];exact xbg _ _
 have hrow:W.heap[w.heap.size]? = some (.cells (SC k Z ((0:Nat):Int) false) 165 (0,0)):=by rw[←hW,show SC k Z ((0:Nat):Int) false=F from HF.out];exact xae _ _ _ rfl
 have C1:=ω (spoe.xqt gt w.heap.size k 0 Z b W z_st hK (hP.later hb0) ((hb0.block _ hgt).trans hT) (by omega) (by omega) hr0 hb hrow);rw[HE.out]at C1;have C2:Ω (∀ w2:World,At w.heap.size (SC k E.l (E.at':Nat) false) 165 W w2→Calls Tryz.prog 173 #[.pointer (some ⟨gt,0,none⟩),.pointer (some ⟨w.heap.size,0,none⟩),.int .i64 (n:Int)] w2 fun e w'=>e=.returned (.string O)∧Below w.heap.size w2 w'):=⟨fun w2 h2=>by
  have hz:W.heap.size=w.heap.size+1:=by rw[←hW];exact size_alloc _ _
  refine(spoh.xln gt w.heap.size k E.at' n E.l w2 hEo.1 hK (Gp.at (hP.later hb0) h2 (by omega)) (h2.other (by omega) (by omega) ((hb0.block _ hgt).trans hT)) (by omega) (by omega) hr0 hEo.2 hn h2.row).mono ?_;rintro e w3 ⟨rfl,h3⟩;refine⟨?_,h3.below (by have:=h2.size;omega) (Nat.le_refl _)⟩;rw[←HO.out,out,HE.out]⟩
 have HB0:=ω hb0;clear hrow hb0 hW hEo hK hP hT;go_enter Tryz.func143,Tryz.ntmps143;go_wp2_with (first
  | (rw[HW.out])
  | ((with_reducible refine xl8 rfl _ _ rfl #[.int .i64 k,.int .u64 0,.int .u64 0,.int .u64 0,.int .u64 0,.int .u64 0,.int .u64 0,.int .u64 0,.int .u64 0,.int .u64 0,.int .u64 0,.int .u64 0,.int .u64 0,.int .u64 0,.int .u64 0,.int .u64 0,.int .u64 0,.int .u64 0,.int .u64 0,.int .u64 0,.int .u64 0,.int .u64 0,.int .u64 0,.int .u64 0,.int .u64 0,.int .u64 0,.int .i64 0,.bool false] ?hC ?_);(case hC=>kernel_rfl);rw[Fb.out])
  | (refine xam rfl 165 _ _ rfl F rfl rfl Fi.out (by first | exact Fz.out | rfl) Fo.out rfl ?_))
 refine C1.out.mono ?_;rintro e w1 ⟨rfl,h1⟩;have HB1:Ω (Below w.heap.size w w1):=⟨HB0.out.trans (h1.below (by have:=HB0.out.size;omega) (Nat.le_refl _))⟩;have C3:=ω (C2.out w1 h1);clear h1 C1 C2;go_wp2_with fail;refine C3.out.mono ?_;rintro e w2 ⟨rfl,h2⟩;have HB2:Ω (Below w.heap.size w w2):=⟨HB1.out.trans h2⟩;clear h2;go_wp2_with fail;go_ret;exact⟨rfl,HB2.out⟩
theorem xv0(k:Int):∃ f:Nat,∀ w1:World,Calls Tryz.prog 141 #[.int .i64 k] w1 (zB w1 (.agg #[.int .i64 ((rate k:Nat):Int),.int .u8 (f:Int),.int .i64 ((spoa.size k:Nat):Int)])):=⟨fin k,xlw k⟩
theorem xpv{T:Array Value}{ts rs:List Nat}(k:Int)(b:ByteArray)(n:Nat)(w:World)(hK:KT T ts rs)(hP:Gp w)(h0 : 0<rate k)(h1:spoa.size k=0)(hn:n≤50000)(hb:b.size≤1125899906842624):
 Calls Tryz.prog 90 #[.agg T,.int .i64 k,.string b,.int .i64 (n:Int)] w (zB w (.tuple #[.string (out ts rs k b n),.int .i64 0])):=by
 obtain⟨f,hTr⟩:=xv0 k;obtain⟨r,hr⟩:=zev (rate k);obtain⟨z,hz⟩:=zev (spoa.size k);rw[hr]at hTr;rw[h1]at hTr;have q0:((r:Int)==0)=false:=beq_eq_false_iff_ne.2 (by omega);have hTr:∀ w1:World,Calls Tryz.prog 141 #[.int .i64 k] w1 (zB w1 (.agg #[.int .i64 (r:Int),.int .u8 (f:Int),.int .i64 0])):=hTr;have HTr:=ω hTr;have HTz:Ω ((Tryz.prog.info? 34).map (·.size)=some T.size):=⟨by rw[hK.size];exact rspa.sizeT⟩;have HF:Ω (∀ w1:World,Calls Tryz.prog 142 #[.int .i64 (n:Int)] w1 (zE w1 (.bool true))):=⟨fun w1=>by have h9:=xr5 (n:Int) w1;rw[decide_eq_true (by omega)]at h9;exact h9⟩;have HP:=ω hP;have HK:=ω hK;clear hTr;obtain⟨W,hW⟩:=zev (w.alloc (.cells T 34));have HW:=ω hW;have HB0:=zba hW;have HT:=zhp hW;have hz1:W.heap.size=w.heap.size+1:=by rw[←hW];exact size_alloc _ _
 clear hW;go_enter Tryz.func90,Tryz.ntmps90;go_wp2_with (rw[HW.out]);refine(HTr.out _).mono ?_;rintro e w1 ⟨rfl,hb1⟩;obtain⟨V,hV⟩:=zev (w1.alloc (.cells #[.int .i64 (r:Int),.int .u8 (f:Int),.int .i64 0] 175));have HV:=ω hV;have HB1:Ω (Below w.heap.size w V):=⟨(HB0.out.trans (hb1.mono (by omega))).trans ((by rw[←hV];exact(xbg _ _).mono (by have:=hb1.size;omega)))⟩;have HT1:Ω (V.heap[w.heap.size]? = some (.cells T 34 (0,0))):=⟨by rw[←hV,xaj _ _ _ (by have:=hb1.size;omega)];exact(hb1.block _ (by omega)).trans HT.out⟩;have Hrow:V.heap[w1.heap.size]? = some (.cells #[.int .i64 (r:Int),.int .u8 (f:Int),.int .i64 0] 175 (0,0)):=by rw[←hV];exact xae _ _ _ rfl
 have k0:V.cell? ⟨w1.heap.size,0,none⟩=some (.int .i64 (r:Int)):=xab Hrow rfl;have k2:V.cell? ⟨w1.heap.size,2,none⟩=some (.int .i64 0):=xab Hrow rfl;have hz2:w.heap.size<w1.heap.size:=by have:=hb1.size;omega
 clear hb1 HTr hV Hrow;go_wp2_with (rw[HV.out]);refine(HF.out _).mono ?_;rintro e w2 ⟨rfl,rfl⟩;go_wp2_with fail;refine(xwc w.heap.size k b n w2 HK.out (HP.out.later HB1.out) HT1.out h0 hn hb).mono ?_;rintro e w3 ⟨rfl,h3⟩;have HB3:Ω (Below w.heap.size w w3):=⟨HB1.out.trans (h3.mono (by have:=HB1.out.size;omega))⟩;clear h3;go_wp2_with fail;go_ret2;exact⟨rfl,HB3.out⟩
end spok
namespace samc
open arr mem kecm kecb keca kstep spgm spmx rspd polys fldm samb spok
theorem xol(k:Int)(b:ByteArray)(n:Nat):rbitc.bys (out TL RL k b n)=sq (PP TL RL) (rate k) (pad (rate k) (spgm.mark k) (abs (PP TL RL) (rate k) ⟨Z,0⟩ (rspc.bys b))) n:=by
 unfold out;exact bitp.xg9 _ (fun x hx=>sq_lt _ _ _ _ x hx)
theorem xbt(k:Int)(b:ByteArray)(n:Nat):(out TL RL k b n).size=n:=by
 rw[←rbitc.xa0,xol,xlm]
end samc
namespace rsdoc
open arr mem keca kstep spok polys polt rbita rbitc rbitf rbitg rndm samm samb samc saml
theorem infoT(T:Array Value)(hK:KT T TL RL):(Tryz.prog.info? 34).map (·.size)=some T.size:=by rw[hK.size];kernel_rfl
def dU(b:ByteArray):Nat→Int:=uni (bys (out TL RL 1 b 1008))
def dS(b:ByteArray)(e:Int):Nat→Int:=sma (bys (out TL RL 2 b 816)) e
def dB(b:ByteArray)(tau:Int):Nat→Int:=ball (bys (out TL RL 2 b 544)) tau
def mw(a:Int):Nat:=lb (a-1).toNat+1
def dM(b:ByteArray)(a:Int):Nat→Int:=un (up (out TL RL 2 b (32*mw a)) (mw a)) a
theorem xga(a:Int)(h:a=131072∨a=524288):lb (a-1+a).toNat=mw a∧mw a≤64∧(2:Int) ^ mw a=2*a:=by
 rcases h with rfl | rfl<;>decide +kernel
theorem up_lt(s:ByteArray)(m i:Nat) : 0≤up s m i∧up s m i<(2:Int) ^ m:=by
 unfold up rbitc.bt;have:=Nat.mod_lt (bitm.pk 8 (bys s) / 2 ^ (m*i)) (Nat.two_pow_pos m);refine⟨Int.natCast_nonneg _,?_⟩;exact_mod_cast this
def qS(sd:ByteArray)(e:Int)(r:Nat):Nat→Int:=dS (tw sd r 0) e
def qM(sd:ByteArray)(a:Int)(fn r:Nat):Nat→Int:=dM (tw sd ((fn+r)%256) ((fn+r) / 256)) a
def qX(sd:ByteArray)(r c:Nat):Nat→Int:=dU (tw sd c r)
theorem xe1{k l e t a b o s:Int}(h:latt k l e t a b o s=true):(1≤k∧k≤8)∧(1≤l∧l≤8)∧(1≤t∧t≤64)∧(e=2∨e=4)∧(a=131072∨a=524288):=by
 unfold latt upto at h;simp only[Bool.and_eq_true,Bool.or_eq_true,decide_eq_true_eq,beq_iff_eq]at h;obtain⟨⟨⟨⟨⟨⟨⟨h1,h2⟩,h3⟩,h4⟩,h5⟩,h6⟩,h7⟩,h8⟩:=h;exact⟨h1,h2,h3,h5,h6⟩
end rsdoc
namespace nttm
def Cg(a b:Int):Prop:=(a-b)%8380417=0
def sm(f:Nat→Int):Nat→Int
 | 0=>0
 | n+1=>sm f n+f n
def sh(n:Nat)(r:Int)(b:Nat→Int):Nat→Int:=fun j=>if j=0 then r*b (n-1) else b (j-1)
def shi(n:Nat)(r:Int)(b:Nat→Int):Nat→Nat→Int
 | 0=>b
 | i+1=>sh n r (shi n r b i)
def mul(n:Nat)(r:Int)(a b:Nat→Int):Nat→Int:=fun j=>sm (fun i=>a i*shi n r b i j) n
def half(s:Nat)(z:Int)(f:Nat→Int):Nat→Int:=fun j=>f j+z*f (j+s)
variable (ζ : Nat→Int)
def ly(K s:Nat)(f:Nat→Int):Nat→Int:=fun j=>if j%(2*s)<s then f j + ζ (K+j / (2*s))*f (j+s) else f (j-s) - ζ (K+j / (2*s))*f j
def bk(K s:Nat)(f:Nat→Int):Nat→Int:=fun j=>if j%(2*s)<s then f j+f (j+s) else - ζ (2*K-1-j / (2*s))*(f (j-s)-f j)
theorem place{s j:Nat}(hs : 0<s):(j%(2*s)<s→(j+s)%(2*s)=j%(2*s)+s∧(j+s) / (2*s)=j / (2*s))∧(¬ j%(2*s)<s→s≤j∧(j-s)%(2*s)=j%(2*s)-s∧(j-s) / (2*s)=j / (2*s)):=by
 have h1:=Nat.div_add_mod j (2*s);have h2:=Nat.mod_lt j (show 0<2*s by omega);constructor
 ·intro h;have e:j+s=2*s*(j / (2*s))+(j%(2*s)+s):=by omega
  constructor
  ·rw[e,Nat.mul_add_mod,Nat.mod_eq_of_lt (by omega)]
  ·rw[e,Nat.mul_add_div (by omega),Nat.div_eq_of_lt (by omega:j%(2*s)+s<2*s)];omega
 ·intro h;have hj:s≤j:=by have:=Nat.mod_le j (2*s);omega
  have e:j-s=2*s*(j / (2*s))+(j%(2*s)-s):=by omega
  refine⟨hj,?_,?_⟩
  ·rw[e,Nat.mul_add_mod,Nat.mod_eq_of_lt (by omega)]
  ·rw[e,Nat.mul_add_div (by omega),Nat.div_eq_of_lt (by omega:j%(2*s)-s<2*s)];omega
end nttm
namespace nttp
open nttm
variable (ζ : Nat→Int)
theorem up{K s j:Nat}(hs : 0<s)(hj:j<2*s*K)(hr:j%(2*s)<s):j+s<2*s*K:=by
 have h:=(Nat.div_lt_iff_lt_mul (show 0<2*s by omega)).1 (show (j+s) / (2*s)<K by rw[((place (j:=j) hs).1 hr).2];exact Nat.div_lt_of_lt_mul hj);rw[Nat.mul_comm]at h;exact h
def pb(ρ : Nat→Int)(K n:Nat)(f g:Nat→Int):Nat→Int:=fun j=>mul n (ρ (K+j / n)) (fun i=>f (n*(j / n)+i)) (fun i=>g (n*(j / n)+i)) (j%n)
def there:Nat→(Nat→Int)→Nat→Int
 | 0,f=>f
 | m+1,f=>ly ζ (2 ^ m) (2 ^ (7-m)) (there m f)
def back:Nat→(Nat→Int)→Nat→Int
 | 0,f=>f
 | m+1,f=>bk ζ (2 ^ (7-m)) (2 ^ m) (back m f)
theorem xpw(m:Nat)(h:m≤7) : 2*2 ^ (7-m)*2 ^ m=256∧2*2 ^ m*2 ^ (7-m)=256:=by
 have e : 2 ^ (7-m)*2 ^ m=128:=by rw[←Nat.pow_add,show 7-m+m=7 by omega]
 constructor
 ·rw[Nat.mul_assoc,e]
 ·rw[Nat.mul_assoc,Nat.mul_comm (2 ^ m),e]
def Inv:Prop:=∀ m,m≤7→∀ t,t<2 ^ m→Cg (ζ (2 ^ m+t) * ζ (2*2 ^ m-1-t)) (-1)
structure Sq (ρ : Nat→Int):Prop where
 top:Cg (ρ 1) (-1)
 sq:∀ k,0<k→k<256→Cg (ρ k) (ζ k * ζ k)
 lo:∀ k,0<k→k<256→Cg (ρ (2*k)) (ζ k)
 hi:∀ k,0<k→k<256→Cg (ρ (2*k+1)) (- ζ k)
end nttp
namespace nttl
open nttm nttp polys
variable (ζ : Nat→Int)
def pair(s j:Nat):Nat:=j / (2*s)*s+j%s
theorem xe7{s t r:Nat}(hr:r<s):pair s (2*s*t+r)=t*s+r∧(2*s*t+r) / (2*s)=t∧(2*s*t+r)%(2*s)=r:=by
 have h1:(2*s*t+r) / (2*s)=t:=by rw[Nat.mul_add_div (by omega),Nat.div_eq_of_lt (by omega),Nat.add_zero]
 have h2:(2*s*t+r)%(2*s)=r:=by rw[Nat.mul_add_mod,Nat.mod_eq_of_lt (by omega)]
 have h3:(2*s*t+r)%s=r:=by rw[show 2*s*t+r=s*(2*t)+r by rw[←Nat.mul_assoc,Nat.mul_comm s 2],Nat.mul_add_mod,Nat.mod_eq_of_lt hr]
 exact⟨by unfold pair;rw[h1,h3],h1,h2⟩
theorem xe6{s t r:Nat}(hr:r<s):pair s (2*s*t+r+s)=t*s+r∧(2*s*t+r+s) / (2*s)=t∧(2*s*t+r+s)%(2*s)=r+s:=by
 have h1:(2*s*t+r+s) / (2*s)=t:=by rw[Nat.add_assoc,Nat.mul_add_div (by omega),Nat.div_eq_of_lt (by omega),Nat.add_zero]
 have h2:(2*s*t+r+s)%(2*s)=r+s:=by rw[Nat.add_assoc,Nat.mul_add_mod,Nat.mod_eq_of_lt (by omega)]
 have h3:(2*s*t+r+s)%s=r:=by rw[show 2*s*t+r+s=s*(2*t+1)+r by rw[Nat.mul_add,←Nat.mul_assoc,Nat.mul_comm s 2];omega,Nat.mul_add_mod,Nat.mod_eq_of_lt hr]
 exact⟨by unfold pair;rw[h1,h3],h1,h2⟩
theorem xoo{s j:Nat}(hs : 0<s):∃ t r,r<s∧pair s j=t*s+r∧(j=2*s*t+r∨j=2*s*t+r+s):=by
 have h1:=Nat.div_add_mod j (2*s);have h2:=Nat.mod_lt j (show 0<2*s by omega);by_cases h:j%(2*s)<s
 ·refine⟨j / (2*s),j%(2*s),h,?_,Or.inl h1.symm⟩;have:=(xe7 (t:=j / (2*s)) h).1;rwa [h1]at this
 ·have e:j=2*s*(j / (2*s))+(j%(2*s)-s)+s:=by omega
  refine⟨j / (2*s),j%(2*s)-s,by omega,?_,Or.inr e⟩;have:=(xe6 (t:=j / (2*s)) (show j%(2*s)-s<s by omega)).1;rwa [←e]at this
theorem xtr{s t t' r r':Nat}(hr:r<s)(hr':r'<s)(h:t*s+r=t'*s+r'):t=t'∧r=r':=by
 have h1:(t*s+r) / s=t:=by rw[Nat.mul_comm,Nat.mul_add_div (by omega),Nat.div_eq_of_lt hr,Nat.add_zero]
 have h2:(t'*s+r') / s=t':=by rw[Nat.mul_comm,Nat.mul_add_div (by omega),Nat.div_eq_of_lt hr',Nat.add_zero]
 have e:t=t':=by rw[←h1,←h2,h]
 subst e;exact⟨rfl,by omega⟩
def dn(L:(Nat→Int)→Nat→Int)(s:Nat)(f:Nat→Int)(m:Nat):Nat→Int:=fun j=>if pair s j<m then L f j%8380417 else f j
theorem xhm(L:(Nat→Int)→Nat→Int)(s:Nat)(f:Nat→Int):dn L s f 0=f:=by funext j;unfold dn;rw[if_neg (by omega)]
theorem xhk(L:(Nat→Int)→Nat→Int)(K s:Nat)(hs : 0<s)(f:Nat→Int)(j:Nat)(hj:j<2*s*K):dn L s f (K*s) j=L f j%8380417:=by
 unfold dn;rw[if_pos];obtain⟨t,r,hr,hp,hjj⟩:=xoo (j:=j) hs;have ht:t<K:=by
  have h1 : 2*s*t<2*s*K:=by rcases hjj with h | h<;>omega
  exact Nat.lt_of_mul_lt_mul_left h1
 rw[hp];have:(t+1)*s≤K*s:=Nat.mul_le_mul_right _ ht;rw[Nat.succ_mul]at this;omega
theorem xf4(L:(Nat→Int)→Nat→Int){s t r:Nat}(hr:r<s)(f:Nat→Int):dn L s f (t*s+r) (2*s*t+r)=f (2*s*t+r):=by unfold dn;rw[(xe7 hr).1,if_neg (by omega)]
theorem xf3(L:(Nat→Int)→Nat→Int){s t r:Nat}(hr:r<s)(f:Nat→Int):dn L s f (t*s+r) (2*s*t+r+s)=f (2*s*t+r+s):=by unfold dn;rw[(xe6 hr).1,if_neg (by omega)]
theorem same(p q:Prop)[Decidable p][Decidable q](a b:Int)(h:p↔q):(if p then a else b)=if q then a else b:=by
 by_cases hp:p
 ·rw[if_pos hp,if_pos (h.1 hp)]
 ·rw[if_neg hp,if_neg (fun x=>hp (h.2 x))]
theorem xhl(L:(Nat→Int)→Nat→Int){s t r:Nat}(hr:r<s)(f:Nat→Int)(x y:Int)(hx:x=L f (2*s*t+r)%8380417)(hy:y=L f (2*s*t+r+s)%8380417):
 upd (upd (dn L s f (t*s+r)) (2*s*t+r+s) y) (2*s*t+r) x=dn L s f (t*s+r+1)∧upd (upd (dn L s f (t*s+r)) (2*s*t+r) x) (2*s*t+r+s) y=dn L s f (t*s+r+1):=by
 have hs : 0<s:=by omega
 have key:∀ j,j≠2*s*t+r→j≠2*s*t+r+s→(pair s j<t*s+r↔pair s j<t*s+r+1):=by
  intro j h1 h2;obtain⟨t',r',hr',hp,hjj⟩:=xoo (j:=j) hs;constructor
  ·intro h;omega
  ·intro h;by_cases e:pair s j=t*s+r
   ·obtain⟨rfl,rfl⟩:=xtr hr' hr (hp.symm.trans e);rcases hjj with h | h
    ·exact absurd h h1
    ·exact absurd h h2
   ·omega
 subst hx hy;constructor
 ·funext j
  unfold upd;by_cases h1:j=2*s*t+r
  ·subst h1;rw[if_pos rfl];unfold dn;rw[(xe7 hr).1,if_pos (by omega)]
  ·rw[if_neg h1];by_cases h2:j=2*s*t+r+s
   ·subst h2;rw[if_pos rfl];unfold dn;rw[(xe6 hr).1,if_pos (by omega)]
   ·rw[if_neg h2];unfold dn;exact same _ _ _ _ (key j h1 h2)
 ·funext j
  unfold upd;by_cases h2:j=2*s*t+r+s
  ·subst h2;rw[if_pos rfl];unfold dn;rw[(xe6 hr).1,if_pos (by omega)]
  ·rw[if_neg h2];by_cases h1:j=2*s*t+r
   ·subst h1;rw[if_pos rfl];unfold dn;rw[(xe7 hr).1,if_pos (by omega)]
   ·rw[if_neg h1];unfold dn;exact same _ _ _ _ (key j h1 h2)
theorem xnn(K:Nat){s t r:Nat}(hr:r<s)(f:Nat→Int):ly ζ K s f (2*s*t+r)=f (2*s*t+r) + ζ (K+t)*f (2*s*t+r+s)∧ly ζ K s f (2*s*t+r+s)=f (2*s*t+r) - ζ (K+t)*f (2*s*t+r+s):=by
 obtain⟨-,h1,h2⟩:=xe7 (t:=t) hr;obtain⟨-,h3,h4⟩:=xe6 (t:=t) hr;unfold ly;rw[h2,h1,if_pos hr,h4,h3,if_neg (by omega),Nat.add_sub_cancel];exact⟨rfl,rfl⟩
theorem xml(K:Nat){s t r:Nat}(hr:r<s)(f:Nat→Int):bk ζ K s f (2*s*t+r)=f (2*s*t+r)+f (2*s*t+r+s)∧bk ζ K s f (2*s*t+r+s) = - ζ (2*K-1-t)*(f (2*s*t+r)-f (2*s*t+r+s)):=by
 obtain⟨-,h1,h2⟩:=xe7 (t:=t) hr;obtain⟨-,h3,h4⟩:=xe6 (t:=t) hr;unfold bk;rw[h2,if_pos hr,h4,h3,if_neg (by omega),Nat.add_sub_cancel];exact⟨rfl,rfl⟩
def red(f:Nat→Int):Nat→Int:=fun j=>f j%8380417
def thereR:Nat→(Nat→Int)→Nat→Int
 | 0,f=>red f
 | m+1,f=>red (ly ζ (2 ^ m) (2 ^ (7-m)) (thereR m f))
def backR:Nat→(Nat→Int)→Nat→Int
 | 0,f=>red f
 | m+1,f=>red (bk ζ (2 ^ (7-m)) (2 ^ m) (backR m f))
theorem xp5(m:Nat)(f:Nat→Int)(j:Nat) : 0≤thereR ζ m f j∧thereR ζ m f j<8380417:=by
 cases m with
 | zero=>exact⟨Int.emod_nonneg _ (by decide),Int.emod_lt_of_pos _ (by decide)⟩
 | succ m=>exact⟨Int.emod_nonneg _ (by decide),Int.emod_lt_of_pos _ (by decide)⟩
theorem xmh(m:Nat)(f:Nat→Int)(j:Nat) : 0≤backR ζ m f j∧backR ζ m f j<8380417:=by
 cases m with
 | zero=>exact⟨Int.emod_nonneg _ (by decide),Int.emod_lt_of_pos _ (by decide)⟩
 | succ m=>exact⟨Int.emod_nonneg _ (by decide),Int.emod_lt_of_pos _ (by decide)⟩
end nttl
namespace lsl11
open arr mem polys pols saml
def SL(w:World)(v:Value)(m:Nat)(q:Nat→Nat→Int):Prop:=(m=0∧v=.slice none 0 0)∨(1≤m∧m≤8∧∃ B,Holds w B v m q)
theorem SL.later{w w':World}{v:Value}{m:Nat}{q:Nat→Nat→Int}(h:SL w v m q)(hb:Below w.heap.size w w'):SL w' v m q:=
 h.imp id fun ⟨h1,h2,B,h3⟩=>⟨h1,h2,B,h3.later hb⟩
end lsl11
namespace mlkm
open arr mem keca polys fldm spok nttl rbita rbitd rbite rbitf rbitg bitp rndm samb saml rsdoc
def cat(b:ByteArray)(f:Nat→ByteArray):Nat→ByteArray
 | 0=>b
 | n+1=>cat b f n++f n
theorem xf0(b:ByteArray)(f:Nat→ByteArray)(m n:Nat)(h:∀ i,i<n→(f i).size=m):(cat b f n).size=b.size+m*n:=by
 induction n with
 | zero=>rfl
 | succ n ih=>rw[cat,ByteArray.size_append,ih fun i hi=>h i (by omega),h n (by omega),Nat.mul_succ];omega
theorem xji(b:ByteArray)(f:Nat→ByteArray)(n:Nat):b++cat ByteArray.empty f n=cat b f n:=by
 induction n with
 | zero=>rw[cat,cat,ByteArray.append_empty]
 | succ n ih=>rw[cat,cat,←ih,ByteArray.append_assoc]
def rsum(x th:Nat→Nat→Int):Nat→Nat→Int
 | 0=>fun _=>0
 | n+1=>fun k=>(rsum x th n k+(x n k*th n k)%8380417)%8380417
def rowv(ζ : Nat→Int)(x v:Nat→Nat→Int)(n:Nat):Nat→Int:=fun k=>(backR ζ 8 (rsum x (fun j=>thereR ζ 8 (v j)) n) k*8347681)%8380417
def sz1(k:Int):Int:=32+320*k
def sz2(k l e:Int):Int:=128+32*((lb (2*e).toNat:Nat):Int)*(l+k)+416*k
def sz3(k l a o s:Int):Int:=s / 4+32*(((lb (a-1).toNat:Nat):Int)+1)*l+o+k
section
variable (ζ : Nat→Int) (sd:ByteArray) (kn ln:Nat) (e:Int)
def pS:ByteArray:=out TL RL 2 (tw sd kn ln) 128
def pRho:ByteArray:=(pS sd kn ln).extract 0 32
def pSig:ByteArray:=(pS sd kn ln).extract 32 96
def pKey:ByteArray:=(pS sd kn ln).extract 96 128
def pT(i:Nat):Nat→Int:=fun k=>(rowv ζ (qX (pRho sd kn ln) i) (qS (pSig sd kn ln) e) ln k+qS (pSig sd kn ln) e (ln+i) k)%8380417
def pHi(i:Nat):Nat→Int:=fun k=>sh (pT ζ sd kn ln e i k)
def pLo(i:Nat):Nat→Int:=fun k=>sl (pT ζ sd kn ln e i k)%8380417
def pPk:ByteArray:=cat (pRho sd kn ln) (fun i=>packed (pHi ζ sd kn ln e i) 1023) kn
def pTr:ByteArray:=out TL RL 2 (pPk ζ sd kn ln e) 64
def pHead:ByteArray:=pRho sd kn ln++pKey sd kn ln++pTr ζ sd kn ln e
def laidS(b:ByteArray)(p:Nat→Nat→Int)(low high:Int)(n:Nat):ByteArray:=cat b (fun i=>packed (sg (p i) high) (low+high)) n
def skB(h:ByteArray)(a b l:Nat→Nat→Int):ByteArray:=laidS (laidS (laidS h a e e ln) b e e kn) l 4095 4096 kn
def pSk:ByteArray:=skB kn ln e (pHead ζ sd kn ln e) (qS (pSig sd kn ln) e) (fun i=>qS (pSig sd kn ln) e (ln+i)) (pLo ζ sd kn ln e)
end
theorem xh7(sd:ByteArray)(kn ln:Nat):(pS sd kn ln).size=128:=samc.xbt _ _ _
theorem xbz(sd:ByteArray)(kn ln:Nat):(pRho sd kn ln).size=32:=by unfold pRho;rw[pols.size_extract _ _ _ (by decide) (by rw[xh7];decide)]
theorem xtp(sd:ByteArray)(kn ln:Nat):(pSig sd kn ln).size=64:=by unfold pSig;rw[pols.size_extract _ _ _ (by decide) (by rw[xh7];decide)]
theorem xeg(sd:ByteArray)(kn ln:Nat):(pKey sd kn ln).size=32:=by unfold pKey;rw[pols.size_extract _ _ _ (by decide) (by rw[xh7];decide)]
theorem pHi_in(ζ : Nat→Int)(sd:ByteArray)(kn ln:Nat)(e:Int)(i:Nat):inb (pHi ζ sd kn ln e i) 1023:=fun _ _=>⟨(xll _).1,(xll _).2.1⟩
theorem xkr(ζ : Nat→Int)(sd:ByteArray)(kn ln:Nat)(e:Int)(i:Nat):ins (pLo ζ sd kn ln e i) 4095 4096:=fun k _=>by
 have h:=xlk (pT ζ sd kn ln e i k);unfold pLo;rw[xmt _ (by omega) (by omega)];omega
theorem xtn(ζ : Nat→Int)(sd:ByteArray)(kn ln:Nat)(e:Int)(i k:Nat) : 0≤pLo ζ sd kn ln e i k∧pLo ζ sd kn ln e i k<8380417:=by unfold pLo;omega
theorem xfc(sd:ByteArray)(e:Int)(he:e=2∨e=4)(i:Nat):ins (qS sd e i) e e:=fun k _=>xvj _ e he k
theorem xo5(sd:ByteArray)(e:Int)(i k:Nat) : 0≤qS sd e i k∧qS sd e i k<8380417:=xvk _ _ _
theorem xh0:lb (1023:Int).toNat=10:=by decide +kernel
theorem xea:lb (4095+4096:Int).toNat=13:=by decide +kernel
theorem xe2(e:Int)(he:e=2∨e=4):lb (e+e).toNat=lb (2*e).toNat∧1≤lb (e+e).toNat∧lb (e+e).toNat≤4:=by rcases he with rfl | rfl<;>decide +kernel
theorem xto(ζ : Nat→Int)(sd:ByteArray)(kn ln:Nat)(e:Int):(pPk ζ sd kn ln e).size=32+320*kn:=by
 unfold pPk;rw[xf0 _ _ 320 kn fun _ _=>by rw[xcr,xh0],xbz]
theorem xbb(b:ByteArray)(p:Nat→Nat→Int)(low high:Int)(n:Nat):(laidS b p low high n).size=b.size+32*lb (low+high).toNat*n:=xf0 _ _ _ n fun _ _=>xcr _ _
theorem xpx(kn ln:Nat)(e:Int)(h:ByteArray)(a b l:Nat→Nat→Int):(skB kn ln e h a b l).size=h.size+32*lb (e+e).toNat*ln+32*lb (e+e).toNat*kn+416*kn:=by
 unfold skB;rw[xbb,xbb,xbb,xea]
theorem xks(ζ : Nat→Int)(sd:ByteArray)(kn ln:Nat)(e:Int):(pTr ζ sd kn ln e).size=64:=samc.xbt _ _ _
theorem xe5(ζ : Nat→Int)(sd:ByteArray)(kn ln:Nat)(e:Int):(pHead ζ sd kn ln e).size=128:=by
 unfold pHead;rw[ByteArray.size_append,ByteArray.size_append,xbz,xeg,xks]
end mlkm
namespace mlkb
open arr mem polys fldm rbita rbitd rbite rbitf rbitg bitp mlkm rndm
theorem xjr(b:ByteArray)(i:Nat):b.extract i 0=ByteArray.empty:=ByteArray.extract_eq_empty_iff.2 (by omega)
theorem xhq(b:ByteArray)(f:Nat→ByteArray)(n i j:Nat)(h:j≤b.size):(cat b f n).extract i j=b.extract i j:=by
 induction n with
 | zero=>rfl
 | succ n ih=>
  have hs:b.size≤(cat b f n).size:=by
   clear ih;induction n with
   | zero=>exact Nat.le_refl _
   | succ n ih=>rw[cat,ByteArray.size_append];omega
  rw[cat,ByteArray.extract_append,ih,show j-(cat b f n).size=0 by omega,xjr,ByteArray.append_empty]
theorem xr3(b:ByteArray)(f:Nat→ByteArray)(m n i:Nat)(hf:∀ i,i<n→(f i).size=m)(hi:i<n):(cat b f n).extract (b.size+m*i) (b.size+m*i+m)=f i:=by
 induction n with
 | zero=>omega
 | succ n ih=>
  have hs:=xf0 b f m n fun i hi=>hf i (by omega)
  by_cases e:i=n
  ·subst e;rw[cat,ByteArray.extract_append_eq_right hs.symm (by rw[hs,hf i (by omega)])]
  ·have hm:m*(i+1)≤m*n:=Nat.mul_le_mul_left m (by omega);rw[Nat.mul_succ]at hm;rw[cat,ByteArray.extract_append,ih (fun i hi=>hf i (by omega)) (by omega),show b.size+m*i+m-(cat b f n).size=0 by rw[hs];omega,xjr,ByteArray.append_empty]
def rdU(s:ByteArray)(at' w:Nat)(i:Nat):Nat→Int:=up (s.extract (at'+32*w*i) (at'+32*w*i+32*w)) w
def rdS(s:ByteArray)(at' w:Nat)(high:Int)(i:Nat):Nat→Int:=un (rdU s at' w i) high
def okU(s:ByteArray)(at' w:Nat)(most:Int)(n:Nat):Prop:=∀ i,i<n→inb (rdU s at' w i) most
theorem xou(s:ByteArray)(at' w i n:Nat)(hi:i<n)(hs:at'+32*w*n≤s.size):(s.extract (at'+32*w*i) (at'+32*w*i+32*w)).size=32*w:=by
 have hm : 32*w*(i+1)≤32*w*n:=Nat.mul_le_mul_left _ (by omega);rw[Nat.mul_succ]at hm;rw[pols.size_extract _ _ _ (by omega) (by omega)];omega
theorem xo9(b:ByteArray)(f:Nat→Nat→Int)(most:Int)(n i:Nat)(h2:most<8380417)(hi:i<n)(hin:inb (f i) most)(k:Nat)(hk:k<256):rdU (cat b (fun i=>packed (f i) most) n) b.size (lb most.toNat) i k=f i k:=by
 unfold rdU;rw[xr3 b (fun i=>packed (f i) most) (32*lb most.toNat) n i (fun _ _=>xcr _ _) hi];exact xv9 (f i) most h2 hin k hk
theorem xlh{f:Nat→Int}{low high:Int}(h:ins f low high):inb (sg f high) (low+high):=fun i hi=>by
 have:=h i hi;unfold sg;omega
theorem xk0(b:ByteArray)(p:Nat→Nat→Int)(low high:Int)(n i:Nat)(h2:low+high<8380417)(hi:i<n)(hin:ins (p i) low high)(hr:∀ k,0≤p i k∧p i k<8380417)(k:Nat)(hk:k<256):
 rdS (laidS b p low high n) b.size (lb (low+high).toNat) high i k=p i k:=by
 have h:=xo9 b (fun i=>sg (p i) high) (low+high) n i h2 hi (xlh hin) k hk;rw[←un_sg (p i) high k (hr k)];unfold rdS laidS un;rw[h]
theorem xkn(b:ByteArray)(p:Nat→Nat→Int)(low high:Int)(n:Nat)(h2:low+high<8380417)(hin:∀ i,i<n→ins (p i) low high):okU (laidS b p low high n) b.size (lb (low+high).toNat) (low+high) n:=fun i hi k hk=>by
 have h:=xo9 b (fun i=>sg (p i) high) (low+high) n i h2 hi (xlh (hin i hi)) k hk;unfold laidS;rw[h];exact xlh (hin i hi) k hk
theorem xk1(b:ByteArray)(f:Nat→ByteArray)(n at' w i m:Nat)(hi:i<m)(h:at'+32*w*m≤b.size):rdU (cat b f n) at' w i=rdU b at' w i:=by
 have hm : 32*w*(i+1)≤32*w*m:=Nat.mul_le_mul_left _ (by omega);rw[Nat.mul_succ]at hm;unfold rdU;rw[xhq _ _ _ _ _ (by omega)]
end mlkb
namespace rksz
open arr mem polys polt pols rbita rbitd rbite bitp rndm saml samr lsl11 mlkm mlkb
def szs(k l e t a b o s:Int):Value:=if latt k l e t a b o s=true then .tuple #[.int .i64 (sz1 k),.int .i64 (sz2 k l e),.int .i64 (sz3 k l a o s)] else .tuple #[.int .i64 0,.int .i64 0,.int .i64 0]
theorem xby{k l e t a b o s:Int}(h:latt k l e t a b o s=true):(1≤k∧k≤8)∧(1≤l∧l≤8)∧(e=2∨e=4)∧(a=131072∨a=524288)∧(1≤o∧o≤100)∧(s=128∨s=192∨s=256):=by
 unfold latt upto at h;simp only[Bool.and_eq_true,Bool.or_eq_true,decide_eq_true_eq,beq_iff_eq]at h;obtain⟨⟨⟨⟨⟨⟨⟨h1,h2⟩,h3⟩,h4⟩,h5⟩,h6⟩,h7⟩,h8⟩:=h;exact⟨h1,h2,h5,h6,h4,by omega⟩
end rksz
namespace rkpb
open arr mem polys polt pols rbita rbitd rbite bitp rndm saml samr lsl11 mlkm mlkb
def okP(q:Nat→Nat→Int)(most:Int)(n:Nat):Prop:=∀ i,i<n→inb (q i) most
instance (q:Nat→Nat→Int) (most:Int) (n:Nat):Decidable (okP q most n):=by unfold okP;exact inferInstance
def okS(q:Nat→Nat→Int)(low high:Int)(n:Nat):Prop:=∀ i,i<n→ins (q i) low high
instance (q:Nat→Nat→Int) (low high:Int) (n:Nat):Decidable (okS q low high n):=by unfold okS;exact inferInstance
def resP(b:ByteArray)(q:Nat→Nat→Int)(most:Int)(n:Nat):Value:=if okP q most n then .tuple #[.string (cat b (fun i=>packed (q i) most) n),.int .i64 0] else .tuple #[.string ⟨#[]⟩,.int .i64 6]
def resS(b:ByteArray)(q:Nat→Nat→Int)(low high:Int)(n:Nat):Value:=if okS q low high n then .tuple #[.string (laidS b q low high n),.int .i64 0] else .tuple #[.string ⟨#[]⟩,.int .i64 6]
theorem xan{w:World}{B m:Nat}{v:Value}{q:Nat→Nat→Int}(h:Holds w B v m q):∃ g c,v=.slice (some ⟨g,0,none⟩) m c∧g<w.heap.size:=by
 obtain⟨g,c,e,-,h2,-⟩:=h;exact⟨g,c,e,h2⟩
theorem xax{w:World}{B m g c:Nat}{q:Nat→Nat→Int}(h:Holds w B (.slice (some ⟨g,0,none⟩) m c) m q)(j:Nat)(hj:j<m):w.rangeAt g (j*256) (FL .i64 256 (q j)).toList:=by
 obtain⟨g2,c2,e,-,-,h3⟩:=h;injection e with x1 x2 x3
 iterate 2 (injection x1 with x1)
 subst x1;rw[Nat.mul_comm];exact Holds.range (p:=q) fun i hi=>h3 j hj i hi
end rkpb
namespace rksb
open arr mem polys polt pols rbita rbitd rbite bitp rndm saml samr lsl11 mlkm mlkb rkpb
def resK(kn ln:Nat)(e:Int)(h:ByteArray)(p q l:Nat→Nat→Int):Value:=if okS p e e ln∧okS q e e kn∧okS l 4095 4096 kn then .tuple #[.string (skB kn ln e h p q l),.int .i64 0] else .tuple #[.string ⟨#[]⟩,.int .i64 6]
end rksb
namespace rkse
open arr mem polys polt pols rbita rbitd rbite bitp rndm saml samr lsl11 mlkm mlkb
def okK(x:ByteArray)(kn ln:Nat)(e:Int):Prop:=okU x 128 (lb (e+e).toNat) (e+e) ln∧okU x (128+32*lb (e+e).toNat*ln) (lb (e+e).toNat) (e+e) kn∧okU x (128+32*lb (e+e).toNat*ln+32*lb (e+e).toNat*kn) 13 8191 kn
def three(w:World)(v:Value)(x:ByteArray)(kn ln:Nat)(e:Int):Prop:=
 ∃ g c v1 v2 v3,v=.slice (some ⟨g,0,none⟩) 3 c∧g<w.heap.size∧w.cell? ⟨g,0,none⟩=some v1∧w.cell? ⟨g,1,none⟩=some v2∧w.cell? ⟨g,2,none⟩=some v3
  ∧ Holds w 0 v1 ln (rdS x 128 (lb (e+e).toNat) e)∧Holds w 0 v2 kn (rdS x (128+32*lb (e+e).toNat*ln) (lb (e+e).toNat) e)∧Holds w 0 v3 kn (rdS x (128+32*lb (e+e).toNat*ln+32*lb (e+e).toNat*kn) 13 4096)
theorem xbx{w:World}{B m:Nat}{v:Value}{q:Nat→Nat→Int}(h:Holds w B v m q):Holds w 0 v m q:=by
 obtain⟨g,c,e,-,r⟩:=h;exact⟨g,c,e,Nat.zero_le _,r⟩
end rkse
namespace rkrw
open arr mem polys polt pols rbita rbitd rbite bitp rndm saml samr lsl11 mlkm mlkb
def MX(w:World)(v:Value)(R:Nat)(n:Nat→Nat)(x:Nat→Nat→Nat→Int):Prop:=
 ∃ G C,v=.slice (some ⟨G,0,none⟩) R C∧G<w.heap.size∧∀ r,r<R→∃ g c,w.cell? ⟨G,r,none⟩=some (.slice (some ⟨g,0,none⟩) (n r) c)∧g<w.heap.size∧∀ j,j<n r→∀ k,k<256→w.cell? ⟨g,256*j+k,none⟩=some (.int .i64 (x r j k))
theorem xo8{w:World}{g m:Nat}{q:Nat→Int}(h:∀ k,k<256→w.cell? ⟨g,256*m+k,none⟩=some (.int .i64 (q k))):w.rangeAt g (m*256) (FL .i64 256 q).toList:=by
 rw[Nat.mul_comm];exact Holds.range (p:=fun _=>q) (i:=m) h
theorem xch{P:Program}{ops:Array Oper}{C:World→Prop}{Q:Act→Prop}{rest:List Oper}{o:Oper}{a:Act}(hw:Region.wanted o (yielded ops a.tmps)=true)(ty:TypeId)(x:Operand)(ho:o.op=.load ty x)
 (b n:Nat) (hx:a.eval x=.pointer (some ⟨b,n,none⟩)) (cs:List Value) (d:TypeDesc) (hS:∀ w,C w→w.rangeAt b n cs)
 (hu:P.underlying ty=some d) (hd:d.isRow=true) (hi:(P.info? ty).map (·.size)=some cs.length)
 (h:wpQuiet P ops C Q rest (a.put o.dst (.agg cs.toArray))):wpQuiet P ops C Q (o :: rest) a:=by
 refine wpQuiet_step fun K hK=>?_
 rw[if_pos hw];refine⟨.agg cs.toArray,fun w hC=>?_,hK _ h⟩;unfold Oper.quietAt execOp;simp only[ho,hx,Instr.loadAt,Instr.sureAddr,Sem.run_bind,Sem.run_pure,Result.andThen_ok,run_loadVar_mid w b n ty cs d (hS w hC) hu hd hi];exact⟨rfl,rfl⟩
theorem xa3{w w':World}{g o:Nat}{L:List Value}(h:w.rangeAt g o L)(hg:g<w.heap.size)(hb:Below w.heap.size w w'):w'.rangeAt g o L:=fun j v hv=>(hb.cell (p:=⟨g,o+j,none⟩) hg).trans (h j v hv)
end rkrw
namespace mlkd
open arr mem polys polt pols rbita rbitd rbite bitp rndm saml samr lsl11 mlkm mlkb tabm tabt tabv rkrw
theorem mx_of{w:World}{B B' e kn ln:Nat}{v:Value}{vs:List Value}{sk:Option Nat}{p:Nat→Nat→Nat→Int}(hk : 1≤kn)(h:w.ownsRow B e 1 v kn vs)(hr:Rowl w B' sk vs ln p):MX w v kn (fun _=>ln) p:=by
 obtain⟨g,cap,rfl⟩:=xbh (by omega) h;refine⟨g,cap,rfl,(h.lt g rfl).2,fun r hr'=>?_⟩;have hl:vs.length=kn:=by have:=h.1;omega
 have hv:vs[r]? = some vs[r]:=List.getElem?_eq_getElem (by omega);obtain⟨g2,c2,e2,-,h2,-,h4⟩:=hr r _ hv;refine⟨g2,c2,?_,h2,h4⟩;rw[h.cellAt r (by omega),hv,e2]
theorem ht_doc:∀ k,k<256→TA[209+k]? = some (.int .i64 ((zt k:Nat):Int)):=fun k hk=>by rw[xiv _ (by omega),xl1 k hk,xqk 256 k hk (by decide)]
theorem xh4{w w':World}{v:Value}{R:Nat}{n:Nat→Nat}{x:Nat→Nat→Nat→Int}(h:MX w v R n x)(hb:Below w.heap.size w w'):MX w' v R n x:=by
 obtain⟨G,C,e,hG,hr⟩:=h;refine⟨G,C,e,Nat.lt_of_lt_of_le hG hb.size,fun r hr2=>?_⟩;obtain⟨g,c,h1,h2,h3⟩:=hr r hr2;exact⟨g,c,(hb.cell (p:=⟨G,r,none⟩) hG).trans h1,Nat.lt_of_lt_of_le h2 hb.size,fun j hj k hk=>(hb.cell (p:=⟨g,256*j+k,none⟩) h2).trans (h3 j hj k hk)⟩
end mlkd
namespace mlsm
open arr mem keca polys fldm spok nttl rbita rbitb rbitd rbith bitp rndm samb saml rsdoc mlkm
def msg(c x:ByteArray):ByteArray:=(⟨#[0,UInt8.ofNat c.size]⟩:ByteArray)++c++x
def one(ζ : Nat→Int)(c f:Nat→Int):Nat→Int:=fun k=>(backR ζ 8 (fun k=>(thereR ζ 8 c k*thereR ζ 8 f k)%8380417) k*8347681)%8380417
structure Sg where
 ζ : Nat→Int
 kn:Nat
 ln:Nat
 e:Int
 t:Int
 a:Int
 b:Int
 o:Int
 s:Int
 rho:ByteArray
 mu:ByteArray
 ms:ByteArray
 A:Nat→Nat→Int
 B:Nat→Nat→Int
 C:Nat→Nat→Int
section
variable (S:Sg) (n:Nat)
def tY(r:Nat):Nat→Int:=qM S.ms S.a (n*S.ln) r
def tW(i:Nat):Nat→Int:=rowv S.ζ (qX S.rho i) (tY S n) S.ln
def tHi(i:Nat):Nat→Int:=fun k=>hgh S.b (tW S n i k)
def tSum:ByteArray:=out TL RL 2 (cat S.mu (fun i=>packed (tHi S n i) (8380416 / (2*S.b)-1)) S.kn) (S.s / 4).toNat
def tC:Nat→Int:=dB (tSum S n) S.t
def tZ(r:Nat):Nat→Int:=fun k=>(tY S n r k+one S.ζ (tC S n) (S.A r) k)%8380417
def tV(i:Nat):Nat→Int:=fun k=>(tW S n i k-one S.ζ (tC S n) (S.B i) k)%8380417
def tLo(i:Nat):Nat→Int:=fun k=>lw S.b (tV S n i k)%8380417
def tCl(i:Nat):Nat→Int:=one S.ζ (tC S n) (S.C i)
def tHn(i:Nat):Nat→Int:=fun k=>hn S.b ((0-tCl S n i k)%8380417) ((tV S n i k+tCl S n i k)%8380417)
def tOk:Bool:=decide (cbs (tZ S n) S.ln<S.a-S.t*S.e) && (decide (cbs (tLo S n) S.kn<S.b-S.t*S.e) && (decide (cbs (tCl S n) S.kn<S.b) && decide ((tot (tHn S n) S.kn:Int)≤S.o)))
def tSig:ByteArray:=laidS (tSum S n) (tZ S n) (S.a-1) S.a S.ln++⟨(u8s (lay (tHn S n) S.o.toNat S.kn S.kn)).toArray⟩
end
def tTry(S:Sg):Nat→Nat→Option ByteArray
 | 0,_=>none
 | m+1,n=>if tOk S n=true then some (tSig S n) else tTry S m (n+1)
def sgn(ζ : Nat→Int)(kn ln:Nat)(e t a b o s:Int)(hd:ByteArray)(A B C:Nat→Nat→Int)(m r:ByteArray):Sg:=
 let mu:=out TL RL 2 (hd.extract 64 128++m) 64
 ⟨ζ,kn,ln,e,t,a,b,o,s,hd.extract 0 32,mu,out TL RL 2 (hd.extract 32 64++r++mu) 64,A,B,C⟩
end mlsm
namespace fld1
open arr mem fldm
theorem xny(x m:Int)(h0 : 0<m)(h1:m≤4611686018427387904)(w:World):Calls Tryz.prog 158 #[.int .i64 x,.int .i64 m] w (zE w (.int .i64 (x%m))):=by
 obtain⟨z,hz⟩:=zev (x%m);obtain⟨y,hy⟩:=zev (x.tmod m);have h:=xlt x m h0;have hb : 0≤z∧z<m:=by rw[←hz];exact⟨Int.emod_nonneg _ (by omega),Int.emod_lt_of_pos _ (by omega)⟩
 have hm0:¬ m=0:=by omega
 have hm1:(m==0)=false:=beq_eq_false_iff_ne.2 hm0;rw[hz,hy]at h;rw[hz];rcases h with ⟨h2,h3⟩ | ⟨h2,h3⟩
 ·subst h3;have h4:¬ y<0:=by omega
  clear hz hb;go_enter Tryz.func158,Tryz.ntmps158;go_wp2_with fail;go_ret;exact⟨rfl,rfl⟩
 ·have hw:IntKind.i64.wrap (y+m)=z:=zwi;have h3':=ω h3;clear hz hb h3;go_enter Tryz.func158,Tryz.ntmps158;go_wp2_with fail;go_ret;exact⟨by first | rfl | rw[←h3'.out],rfl⟩
theorem xai(x:Int)(w:World):Calls Tryz.prog 112 #[.int .i64 x] w (zE w (.int .i64 (x%8380417))):=by
 obtain⟨z,hz⟩:=xaa (x%8380417);rw[hz.out];have H:∀ w1:World,Calls Tryz.prog 158 #[.int .i64 x,.int .i64 8380417] w1 (zE w1 (.int .i64 z)):=fun w1=>by rw[←hz.out];exact xny x 8380417 (by decide) (by decide) w1
 go_enter Tryz.func112,Tryz.ntmps112;go_wp2_with fail;refine(H _).mono ?_;rintro e w1 ⟨rfl,rfl⟩;go_wp2_with fail;go_ret;exact⟨rfl,rfl⟩
end fld1
namespace fld1
open arr mem fldm
theorem xcv(x m:Int)(w:World):Calls Tryz.prog 145 #[.int .i64 x,.int .i64 m] w (zE w (.int .i64 (ce m x))):=by
 unfold ce;by_cases h0:m<1
 ·rw[if_pos (Or.inl h0)];go_enter Tryz.func145,Tryz.ntmps145;go_wp2_with fail;go_ret;exact⟨rfl,rfl⟩
 ·by_cases h1 : 1125899906842624<m
  ·rw[if_pos (Or.inr h1)];go_enter Tryz.func145,Tryz.ntmps145;go_wp2_with fail;go_ret;exact⟨rfl,rfl⟩
  ·rw[if_neg (by omega)];obtain⟨z,hz⟩:=xaa (x%m);have hb : 0≤z∧z<m:=by rw[←hz.out];exact⟨Int.emod_nonneg _ (by omega),Int.emod_lt_of_pos _ (by omega)⟩
   rw[hz.out];have H:∀ w1:World,Calls Tryz.prog 158 #[.int .i64 x,.int .i64 m] w1 (zE w1 (.int .i64 z)):=fun w1=>by rw[←hz.out];exact xny x m (by omega) (by omega) w1
   have hw:IntKind.i64.wrap (m-z)=m-z:=zwi;have hw2:IntKind.i64.wrap (z-m)=z-m:=zwi;by_cases h5:m / 2<z
   ·rw[if_pos h5];have h6:m-z<z:=by omega
    clear h5;go_enter Tryz.func145,Tryz.ntmps145;go_wp2_with fail;refine(H _).mono ?_;rintro e w1 ⟨rfl,rfl⟩;go_wp2_with fail;go_ret;exact⟨rfl,rfl⟩
   ·rw[if_neg h5];have h6:¬ m-z<z:=by omega
    clear h5;go_enter Tryz.func145,Tryz.ntmps145;go_wp2_with fail;refine(H _).mono ?_;rintro e w1 ⟨rfl,rfl⟩;go_wp2_with fail;go_ret;exact⟨rfl,rfl⟩
end fld1
namespace fscale
open arr mem stil polys polt fldm fld1
theorem xip(f:Nat→Int)(n:Int)(w:World):
 Calls Tryz.prog 149 #[.agg (FL .i64 256 f),.int .i64 n] w (zB w (.agg (FL .i64 256 fun i=>(f i*n)%8380417))):=by
 obtain⟨hz,hsize⟩:=zero_of_info infoP;obtain⟨z,HZ⟩:=xaa (FL .i64 256 fun _=>0);rw[HZ.out]at hz;have Hzs:=zfs HZ;obtain⟨F,HF⟩:∃ F:Nat→Int,Ω (F=fun i=>(f i*n)%8380417):=⟨_,⟨rfl⟩⟩;have hFi:∀ i,F i=(fun i=>(f i*n)%8380417) i:=fun i=>by rw[HF.out]
 have HFi:=ω hFi;rw[←HF.out];clear HF hFi;obtain⟨R,HR⟩:=xaa (FL .i64 256 F);have Ri:=zri HR hsize;have Ro:=zro HR;have Rz:=zrz Hzs HR;rw[HR.out];have Hred:=ω xai;have Hn:Ω (0≤n%8380417∧n%8380417<8380417):=⟨by omega⟩;clear hsize;go_enter Tryz.func149,Tryz.ntmps149;go_wp2_with fail;clear hz;refine(xai n _).mono ?_;rintro e w1 ⟨rfl,hw1⟩;subst hw1;obtain⟨c,hc⟩:=xaa (n%8380417);rw[hc.out];have hcb : 0≤c∧c<8380417:=by have:=Hn.out;rw[hc.out]at this;exact this
 clear Hn;go_wp2_with fail;obtain⟨W,hW⟩:=zev ((w.alloc (.cells (FL .i64 256 f) 109)).alloc (.cells z 109));obtain⟨b0,b1,hWs,hWb⟩:=two hW;rw[hW];clear hW;have B0:=ω b0;have BR:=ω b1;have HWs:Ω (w.heap.size+2≤W.heap.size):=⟨by omega⟩;have HWb:=ω hWb;clear hWs hWb b0 b1;go_loopw [9] (fun v wr=>∃ i:Nat,i≤256∧v=.int .i64 (i:Int)∧Ω (At w.heap.size (FL .i64 256 (pt F f i)) 109 W wr)) (fun v _=>256-(intOf v).toNat)
 case atStart=>exact⟨0,Nat.zero_le _,rfl,⟨by rw[xba];exact At.refl B0.out⟩⟩
 case round=>
  obtain⟨i,hi,rfl,A0⟩:=hrel;by_cases hlt:i<256
  ·have hiz:(i:Int)<256:=by omega
   obtain⟨x,hx⟩:=zev (f i);have ca:wr.cell? ⟨w.heap.size,i,none⟩=some (.int .i64 x):=by
    have h9:=xaq A0.out.row i hlt;rw[xc0,hx]at h9;exact h9
   have HV:Ω (F i=(x*c)%8380417):=⟨by rw[HFi.out,hx,←hc.out,Int.mul_emod,Int.mul_emod x (n%8380417),Int.emod_emod]⟩;obtain⟨x1,hx1⟩:=xaa (x%8380417);have hxb : 0≤x1∧x1<8380417:=by rw[←hx1.out];omega
   have hp : 0≤x1*c∧x1*c≤8380417*8380417:=⟨Int.mul_nonneg hxb.1 hcb.1,Int.le_trans (Int.mul_le_mul_of_nonneg_right (Int.le_of_lt hxb.2) hcb.1) (Int.mul_le_mul_of_nonneg_left (Int.le_of_lt hcb.2) (by decide))⟩;have hs:IntKind.i64.wrap (x1*c)=x1*c:=zwi;have hs2:(x1*c)%8380417=F i:=by rw[HV.out,←hx1.out,Int.mul_emod,Int.emod_emod,←Int.mul_emod]
   obtain⟨v,hv⟩:=xaa ((x1*c)%8380417);have Hx:∀ w1:World,Calls Tryz.prog 112 #[.int .i64 x] w1 fun e w'=>e=.returned (.int .i64 x1)∧w1=w':=fun w1=>by rw[←hx1.out];exact(xai x w1).mono fun _ _ h=>⟨h.1,h.2.symm⟩
   have Hs:∀ w1:World,Calls Tryz.prog 112 #[.int .i64 (x1*c)] w1 fun e w'=>e=.returned (.int .i64 v)∧w1=w':=fun w1=>by rw[←hv.out];exact(xai _ w1).mono fun _ _ h=>⟨h.1,h.2.symm⟩
   have HU:Ω (upd (pt F f i) i v=pt F f (i+1)):=⟨xa4 F f i v (by rw[←hv.out,hs2])⟩;clear hs2 hp hxb;clear hx;go_wp2_with fail;refine(Hx _).mono ?_;rintro e w3 ⟨rfl,hw3⟩;subst hw3;go_wp2_with fail;refine(Hs _).mono ?_;rintro e w3 ⟨rfl,hw3⟩;subst hw3;clear ca;have A1:Ω (At w.heap.size (FL .i64 256 (pt F f i)) 109 W wr):=A0;clear A0;go_wp2_with ((with_reducible refine xaf A1 rfl _ _ _ rfl rfl ?_);refine⟨_,_,_,rfl,rfl,rfl,(by rw[xad];exact hlt),?_⟩;intro wn HR;rw[xap,HU.out]at HR);go_roundw
   case rel=>exact⟨i+1,by omega,by go_num,HR⟩
   case measure=>simp[intOf];omega
  ·obtain rfl:i=256:=by omega
   simp only[Int.cast_ofNat_Int];rw[xa8,HR.out]at A0;have Hrow:=ω A0.out.row;have Hres:Ω (wr.heap[w.heap.size+1]? = some (.cells z 109 (0,0))):=⟨A0.out.other (by have:=HWs.out;omega) (by omega) BR.out⟩;have HB:Ω (Below w.heap.size w wr):=⟨HWb.out.trans (A0.out.below (by have:=HWs.out;omega) (Nat.le_refl _))⟩;clear A0;go_wp2_with (first
    | (refine wpList_load_row rfl 109 _ rfl w.heap.size rfl 109 R (0,0) _ Hrow.out zX rfl Ri.out ?_)
    | (refine wpList_store_row rfl 109 _ _ rfl (w.heap.size+1) R rfl rfl 109 _ Hres.out Ri.out Rz.out Ro.out ?_))
   refine bodyPost_ret_by (v:=.agg R) (results_cell_row rfl _ _ (w.heap.size+1) 109 _ (0,0) _ rfl (setRow_heap _ _ _ _ _ _ Hres.out) zX rfl Ri.out) rfl ?_;exact⟨rfl,HB.out.trans (below_setRow _ _ _ (by omega))⟩
end fscale
namespace nred
open arr mem stil polys polt nttl
theorem xpb(f:Nat→Int)(w:World):
 Calls Tryz.prog 146 #[.agg (FL .i64 256 f)] w (zB w (.agg (FL .i64 256 (red f)))):=by
 obtain⟨hz,hsize⟩:=zero_of_info infoP;obtain⟨z,HZ⟩:=xaa (FL .i64 256 fun _=>0);rw[HZ.out]at hz;have Hzs:=zfs HZ;have hr:(fun i=>(f i*1)%8380417)=red f:=by funext i;unfold red;rw[Int.mul_one]
 obtain⟨F,HF⟩:=xaa (FL .i64 256 f);obtain⟨R,HR⟩:=xaa (FL .i64 256 (red f));have Fi:=zri HF hsize;have Ri:=zri HR hsize;have Ro:=zro HR;have Rz:=zrz Hzs HR;have H:Ω (∀ w1:World,Calls Tryz.prog 149 #[.agg F,.int .i64 1] w1 (zB w1 (.agg R))):=⟨fun w1=>by
  have h:=fscale.xip f 1 w1;rw[hr,HF.out,HR.out]at h;exact h⟩
 rw[HF.out,HR.out];clear hr HF HR HZ hsize;go_enter Tryz.func146,Tryz.ntmps146;go_wp2_with fail;obtain⟨W,hW⟩:=zev ((w.alloc (.cells F 109)).alloc (.cells z 109));obtain⟨b0,b1,hWs,hWb⟩:=two hW;rw[hW];clear hW;have B0:=ω b0;have B1:=ω b1;have HWb:=ω hWb;clear hz hWs hWb b0 b1;go_wp2_with fail;refine wp_load_row 109 _ rfl w.heap.size rfl 109 F (0,0) _ B0.out zX rfl Fi.out ?_;go_wp2_with fail;refine(H.out _).mono ?_;rintro e w1 ⟨rfl,hb⟩;have B2:Ω (w1.heap[w.heap.size+1]? = some (.cells z 109 (0,0))):=⟨(hb.block _ (xac B1.out)).trans B1.out⟩;have HB:=zbt HWb hb;clear hb B0 B1 HWb;go_wp2_with (refine wpList_store_row rfl 109 _ _ rfl (w.heap.size+1) R rfl rfl 109 _ B2.out Ri.out Rz.out Ro.out ?_);refine bodyPost_ret_by (v:=.agg R) (results_cell_row rfl _ _ (w.heap.size+1) 109 _ (0,0) _ rfl (setRow_heap _ _ _ _ _ _ B2.out) zX rfl Ri.out) rfl ?_;exact⟨rfl,HB.out.trans (below_setRow _ _ _ (by omega))⟩
end nred
namespace ntimes
open arr mem stil polys polt fldm fld1
theorem xcs(f g:Nat→Int)(w:World):
 Calls Tryz.prog 96 #[.agg (FL .i64 256 f),.agg (FL .i64 256 g)] w (zB w (.agg (FL .i64 256 fun i=>(f i*g i)%8380417))):=by
 obtain⟨hz,hsize⟩:=zero_of_info infoP;obtain⟨z,HZ⟩:=xaa (FL .i64 256 fun _=>0);rw[HZ.out]at hz;have Hzs:=zfs HZ;obtain⟨F,HF⟩:∃ F:Nat→Int,Ω (F=fun i=>(f i*g i)%8380417):=⟨_,⟨rfl⟩⟩;have hFi:∀ i,F i=(fun i=>(f i*g i)%8380417) i:=fun i=>by rw[HF.out]
 have HFi:=ω hFi;rw[←HF.out];clear HF hFi;obtain⟨R,HR⟩:=xaa (FL .i64 256 F);have Ri:=zri HR hsize;have Ro:=zro HR;have Rz:=zrz Hzs HR;rw[HR.out];have Hred:=ω xai;clear hsize;go_enter Tryz.func96,Tryz.ntmps96;go_wp2_with fail;clear hz;obtain⟨W,hW⟩:=zev (((w.alloc (.cells (FL .i64 256 f) 109)).alloc (.cells (FL .i64 256 g) 109)).alloc (.cells z 109));obtain⟨b0,b1,b2,hWs,hWb⟩:=three hW;rw[hW];clear hW;have B0:=ω b0;have B1:=ω b1;have BR:=ω b2;have HWs:Ω (w.heap.size+3≤W.heap.size):=⟨by omega⟩;have HWb:=ω hWb;clear hWs hWb b0 b1 b2;go_loopw [6] (fun v wr=>∃ i:Nat,i≤256∧v=.int .i64 (i:Int)∧Ω (At w.heap.size (FL .i64 256 (pt F f i)) 109 W wr)) (fun v _=>256-(intOf v).toNat)
 case atStart=>exact⟨0,Nat.zero_le _,rfl,⟨by rw[xba];exact At.refl B0.out⟩⟩
 case round=>
  obtain⟨i,hi,rfl,A0⟩:=hrel;by_cases hlt:i<256
  ·have hiz:(i:Int)<256:=by omega
   obtain⟨x,hx⟩:=zev (f i);have ca:wr.cell? ⟨w.heap.size,i,none⟩=some (.int .i64 x):=by
    have h9:=xaq A0.out.row i hlt;rw[xc0,hx]at h9;exact h9
   obtain⟨y,hy⟩:=zev (g i);have cb:wr.cell? ⟨w.heap.size+1,i,none⟩=some (.int .i64 y):=by
    rw[←hy];exact xaq (A0.out.other (by have:=HWs.out;omega) (by omega) B1.out) i hlt
   have HV:Ω (F i=(x*y)%8380417):=⟨by rw[HFi.out,hx,hy]⟩;obtain⟨x1,hx1⟩:=xaa (x%8380417);obtain⟨y1,hy1⟩:=xaa (y%8380417);have hxb : 0≤x1∧x1<8380417:=by rw[←hx1.out];omega
   have hyb : 0≤y1∧y1<8380417:=by rw[←hy1.out];omega
   have hp : 0≤x1*y1∧x1*y1≤8380417*8380417:=⟨Int.mul_nonneg hxb.1 hyb.1,Int.le_trans (Int.mul_le_mul_of_nonneg_right (Int.le_of_lt hxb.2) hyb.1) (Int.mul_le_mul_of_nonneg_left (Int.le_of_lt hyb.2) (by decide))⟩;have hs:IntKind.i64.wrap (x1*y1)=x1*y1:=zwi;have hmm:=Int.mul_emod x y 8380417;rw[hx1.out,hy1.out]at hmm;obtain⟨s,hs1⟩:=xaa (x1*y1);have hs2:s%8380417=F i:=by rw[HV.out,←hs1.out,hmm]
   obtain⟨v,hv⟩:=xaa (s%8380417);have Hx:∀ w1:World,Calls Tryz.prog 112 #[.int .i64 x] w1 (zE w1 (.int .i64 x1)):=fun w1=>by rw[←hx1.out];exact xai x w1
   have Hy:∀ w1:World,Calls Tryz.prog 112 #[.int .i64 y] w1 (zE w1 (.int .i64 y1)):=fun w1=>by rw[←hy1.out];exact xai y w1
   have Hs:∀ w1:World,Calls Tryz.prog 112 #[.int .i64 (x1*y1)] w1 (zE w1 (.int .i64 v)):=fun w1=>by rw[hs1.out,←hv.out];exact xai s w1
   have HU:Ω (upd (pt F f i) i v=pt F f (i+1)):=⟨xa4 F f i v (by rw[←hv.out,hs2])⟩;clear hy hs2 hmm hp hxb hyb;clear hx;go_wp2_with fail;refine xay 12 (by kernel_rfl) (by kernel_rfl) ?_;simp only[List.take_succ_cons,List.take_zero,List.drop_succ_cons,List.drop_zero];repeat still_step
   still_call (Hx _)
   repeat still_step
   still_call (Hy _)
   repeat still_step
   still_call (Hs _)
   repeat still_step
   refine wpStill_nil ?_;clear cb;clear ca;have A1:Ω (At w.heap.size (FL .i64 256 (pt F f i)) 109 W wr.drew):=⟨xag A0.out⟩;clear A0
   with_reducible refine xaf A1 rfl _ _ _ rfl rfl ?_
   refine⟨_,_,_,rfl,rfl,rfl,by rw[xad];exact hlt,?_⟩;intro wn HR;rw[xap,HU.out]at HR;go_wp2_with fail;go_roundw
   case rel=>exact⟨i+1,by omega,by go_num,HR⟩
   case measure=>simp[intOf];omega
  ·obtain rfl:i=256:=by omega
   simp only[Int.cast_ofNat_Int];rw[xa8,HR.out]at A0;have Hrow:=ω A0.out.row;have Hres:Ω (wr.heap[w.heap.size+2]? = some (.cells z 109 (0,0))):=⟨A0.out.other (by have:=HWs.out;omega) (by omega) BR.out⟩;have HB:Ω (Below w.heap.size w wr):=⟨HWb.out.trans (A0.out.below (by have:=HWs.out;omega) (Nat.le_refl _))⟩;clear A0;go_wp2_with (first
    | (refine wpList_load_row rfl 109 _ rfl w.heap.size rfl 109 R (0,0) _ Hrow.out zX rfl Ri.out ?_)
    | (refine wpList_store_row rfl 109 _ _ rfl (w.heap.size+2) R rfl rfl 109 _ Hres.out Ri.out Rz.out Ro.out ?_))
   refine bodyPost_ret_by (v:=.agg R) (results_cell_row rfl _ _ (w.heap.size+2) 109 _ (0,0) _ rfl (setRow_heap _ _ _ _ _ _ Hres.out) zX rfl Ri.out) rfl ?_;exact⟨rfl,HB.out.trans (below_setRow _ _ _ (by omega))⟩
end ntimes
end Go.Proofs.YtgahcabgmfbhdaaGreatDoor
