/-
  What round.Hint returns. Conditions: none. What package bits' rightHints returns. Conditions: none. 
-/
import Derived.Test.YtgahcabgmfbhdaaGreatDoorZt21
import Derived.Test.YtgahcabgmfbhdaaGreatDoorZt17
import Derived.Test.YtgahcabgmfbhdaaGreatDoorZt10
import Derived.Test.YtgahcabgmfbhdaaGreatDoorZt03
import Derived.Test.YtgahcabgmfbhdaaGreatDoorZt02
import Derived.Test.YtgahcabgmfbhdaaGreatDoorProg
import Derived.Test.YtgahcabgmfbhdaaGreatDoorZt18
import Derived.Test.YtgahcabgmfbhdaaGreatDoorZt01
import Derived.Test.YtgahcabgmfbhdaaGreatDoorZt11
import Derived.Test.YtgahcabgmfbhdaaGreatDoorZt20
import Derived.WalkMore
set_option maxRecDepth 100000
set_option maxHeartbeats 16000000
set_option linter.unusedSimpArgs false
set_option linter.unusedVariables false
open Go Go.RowKit
namespace Go.Proofs.YtgahcabgmfbhdaaGreatDoor
namespace rhint
open arr mem stil polys polt rndm rhigh vary varyn varye pvar
theorem xj1(zf f:Nat→Int)(g:Int)(w:World):
 Calls Tryz.prog 123 #[.agg (FL .i64 256 zf),.agg (FL .i64 256 f),.int .i64 g] w (zB w (.agg (FL .i64 256 fun i=>hn g (zf i) (f i)))):=by
 obtain⟨hz,hsize⟩:=zero_of_info infoP;obtain⟨z,HZ⟩:=xaa (FL .i64 256 fun _=>0);rw[HZ.out]at hz;have Hzs:=zfs HZ;obtain⟨F,HF⟩:∃ F:Nat→Int,Ω (F=fun i=>hn g (zf i) (f i)):=⟨_,⟨rfl⟩⟩;have HFi:Ω (∀ i,F i=hn g (zf i) (f i)):=⟨fun i=>by rw[HF.out]⟩;rw[←HF.out];clear HF;obtain⟨p,HP⟩:∃ p:Nat→Int,Ω (p=fun i=>hgh g (f i)):=⟨_,⟨rfl⟩⟩;obtain⟨s,HS⟩:∃ s:Nat→Int,Ω (s=fun i=>(f i+zf i)%8380417):=⟨_,⟨rfl⟩⟩;obtain⟨q,HQ⟩:∃ q:Nat→Int,Ω (q=fun i=>hgh g (s i)):=⟨_,⟨rfl⟩⟩;have HFq:Ω (∀ i,F i=if p i=q i then 0 else 1):=⟨fun i=>by rw[HFi.out,HQ.out,HS.out,HP.out];rfl⟩;have sz:∀ h:Nat→Int,(Tryz.prog.info? 109).map (·.size)=some (FL .i64 256 h).size:=fun h=>by rw[xad];exact hsize
 obtain⟨R,HR⟩:=xaa (FL .i64 256 F);have Ri:Ω ((Tryz.prog.info? 109).map (·.size)=some R.size):=⟨by rw[←HR.out];exact sz _⟩;have Ro:=zro HR;have Rz:=zrz Hzs HR;obtain⟨I,HI⟩:=xaa (FL .i64 256 f);have Ii:Ω ((Tryz.prog.info? 109).map (·.size)=some I.size):=⟨by rw[←HI.out];exact sz _⟩;obtain⟨J,HJ⟩:=xaa (FL .i64 256 zf);have Ji:Ω ((Tryz.prog.info? 109).map (·.size)=some J.size):=⟨by rw[←HJ.out];exact sz _⟩;obtain⟨S,HSS⟩:=xaa (FL .i64 256 s);have Hh1:Ω (∀ w1:World,Calls Tryz.prog 160 #[.agg I,.int .i64 g] w1 (zB w1 (.agg (FL .i64 256 p)))):=⟨fun w1=>by rw[←HI.out,HP.out];exact xc7 f g w1⟩;have Hh2:Ω (∀ w1:World,Calls Tryz.prog 160 #[.agg S,.int .i64 g] w1 (zB w1 (.agg (FL .i64 256 q)))):=⟨fun w1=>by rw[←HSS.out,HQ.out];exact xc7 s g w1⟩;have Hadd:Ω (∀ w1:World,Calls Tryz.prog 94 #[.agg I,.agg J] w1 (zB w1 (.agg S))):=⟨fun w1=>by rw[←HI.out,←HJ.out,←HSS.out,HS.out];exact fadd.xcj f zf w1⟩;rw[HR.out,HI.out,HJ.out];clear hsize sz HP HQ HS HSS HI HJ HFi;go_enter Tryz.func123,Tryz.ntmps123;go_wp2_with fail;obtain⟨W,hW⟩:=zev (((w.alloc (.cells J 109)).alloc (.cells I 109)).alloc (.cells z 109));obtain⟨b0,b1,b2,hWs,hWb⟩:=three hW;rw[hW];clear hW;have B0:=ω b0;have B1:=ω b1;have B2:=ω b2;have HWs:Ω (w.heap.size+3≤W.heap.size):=⟨by omega⟩;have HWb:=ω hWb;clear hWs hWb b0 b1 b2;have Hhz:=ω hz;clear hz;refine xgq [vrP 8 10 2 7 13,vrP 9 11 7 8 18] 8 (by kernel_rfl) (by kernel_rfl) (by kernel_rfl) (by kernel_rfl) (by decide) (fun v hv ρ o w1 ho=>by
  simp only[List.mem_cons,List.not_mem_nil,or_false]at hv;rcases hv with rfl | rfl<;>exact allocP ρ o w1 ho) (by simp[vrP]) (fun ops HO=>?_)
 simp only[List.take_succ_cons,List.take_zero];refine xfs rfl 109 _ rfl _ rfl 109 _ _ (fun w9 hw9=>(hw9.block _ (xac B1.out)).trans B1.out) zX rfl Ii.out ?_;refine xah rfl (fun K hK=>?_);go_simp
 apply Exists.intro;refine⟨fun w9 hw9=>rfl,hK _ ?_⟩;clear hK K;refine xah rfl (fun K hK=>?_);go_simp
 apply Exists.intro;refine⟨fun w9 hw9=>?_,hK _ ?_⟩;exact Hh1.out w9;clear hK K;refine xfs rfl 109 _ rfl _ rfl 109 _ _ (fun w9 hw9=>(hw9.block _ (xac B1.out)).trans B1.out) zX rfl Ii.out ?_;refine xfs rfl 109 _ rfl _ rfl 109 _ _ (fun w9 hw9=>(hw9.block _ (xac B0.out)).trans B0.out) zX rfl Ji.out ?_;refine xah rfl (fun K hK=>?_);go_simp
 apply Exists.intro;refine⟨fun w9 hw9=>?_,hK _ ?_⟩;exact Hadd.out w9;clear hK K;refine xah rfl (fun K hK=>?_);go_simp
 apply Exists.intro;refine⟨fun w9 hw9=>rfl,hK _ ?_⟩;clear hK K;refine xah rfl (fun K hK=>?_);go_simp
 apply Exists.intro;refine⟨fun w9 hw9=>?_,hK _ ?_⟩;exact Hh2.out w9;clear hK K;refine ends2 (FL .i64 256 p) (FL .i64 256 q) rfl (fitsP p) rfl (fitsP q) (by decide) (fun p1 p2 w6 l1 l2 n12 hb6 r1 r2=>?_);simp only[vrP,Act.put,heldb.pa,heldb.pb,heldb.pc]at r1 r2 ⊢;have hz:=Hhz.out;have R1:=ω r1;have R2:=ω r2;have C2:Ω (w6.heap[w.heap.size+2]? = some (.cells z 109 (0,0))):=⟨(hb6.block _ (xac B2.out)).trans B2.out⟩;have Hb6:=zbt HWb hb6;have H6s:Ω (w.heap.size+3≤w6.heap.size):=⟨by have:=hb6.size;have:=HWs.out;omega⟩;clear r1 r2 hb6 l1 l2 n12 B0 B1 B2 HWs HWb Hh1 Hh2 Hadd HO;go_wp2_with fail;clear hz Hhz;obtain⟨gh,hgh0⟩:=xaa w6.heap.size;obtain⟨V,hV⟩:=zev (w6.alloc (.cells z 109));obtain⟨v0,hVs,hVb⟩:=one hV;rw[hV];clear hV;rw[hgh0.out]at v0;rw[hgh0.out];have V1:Ω (V.heap[p1]? = some (.cells (FL .i64 256 p) 109 (0,0))):=⟨(hVb.block _ (xac R1.out)).trans R1.out⟩;have V2:Ω (V.heap[p2]? = some (.cells (FL .i64 256 q) 109 (0,0))):=⟨(hVb.block _ (xac R2.out)).trans R2.out⟩;have V3:Ω (V.heap[w.heap.size+2]? = some (.cells z 109 (0,0))):=⟨(hVb.block _ (xac C2.out)).trans C2.out⟩;have HVB:=zbt Hb6 hVb;have HVs:Ω (gh<V.heap.size∧w.heap.size+3≤gh∧p1<gh∧p2<gh):=⟨by have:=H6s.out;have:=hgh0.out;have:=xac R1.out;have:=xac R2.out;omega⟩;have A0':Ω (At gh (FL .i64 256 (pt F (fun _=>0) 0)) 109 V V):=⟨At.refl (by rw[xba,HZ.out];exact v0)⟩;clear v0 hVs hVb hgh0 R1 R2 C2 Hb6 H6s;go_loopw [19] (fun v wr=>∃ i:Nat,i≤256∧v=.int .i64 (i:Int)∧Ω (At gh (FL .i64 256 (pt F (fun _=>0) i)) 109 V wr)) (fun v _=>256-(intOf v).toNat)
 case atStart=>exact⟨0,Nat.zero_le _,rfl,A0'⟩
 case round=>
  obtain⟨i,hi,rfl,A0⟩:=hrel;by_cases hlt:i<256
  ·have hiz:(i:Int)<256:=by omega
   obtain⟨x,hx⟩:=zev (p i);obtain⟨y,hy⟩:=zev (q i);have cx:wr.cell? ⟨p1,i,none⟩=some (.int .i64 x):=by rw[←hx];exact xaq (A0.out.other (by have:=HVs.out;omega) (by have:=HVs.out;omega) V1.out) i hlt
   have cy:wr.cell? ⟨p2,i,none⟩=some (.int .i64 y):=by rw[←hy];exact xaq (A0.out.other (by have:=HVs.out;omega) (by have:=HVs.out;omega) V2.out) i hlt
   have HV:Ω (F i=if x=y then 0 else 1):=⟨by rw[HFq.out,hx,hy]⟩;clear hx hy;by_cases hxy:x=y
   ·subst hxy;have hne:(x != x)=false:=by simp
    have HU:FL .i64 256 (pt F (fun _=>0) i)=FL .i64 256 (pt F (fun _=>0) (i+1)):=by
     rw[←xa4 F (fun _=>0) i 0 (by rw[HV.out,if_pos rfl])];refine xdj _ _ fun j _=>?_
     unfold polys.upd pt;by_cases hj:j=i
     ·subst hj;simp
     ·rw[if_neg hj]
    rw[HU]at A0;clear HU HV;go_wp2_with fail;refine xav (by kernel_rfl) (by kernel_rfl) ?_;repeat still_step
    refine wpStill_nil ?_;clear cx cy;go_wp2_with fail;go_roundw
    case rel=>exact⟨i+1,by omega,by go_num,⟨xag A0.out⟩⟩
    case measure=>simp[intOf];omega
   ·have hne:(x != y)=true:=bne_iff_ne.2 hxy;have HU:Ω (polys.upd (pt F (fun _=>0) i) i 1=pt F (fun _=>0) (i+1)):=⟨xa4 F _ i 1 (by rw[HV.out,if_neg hxy])⟩;clear HV hxy;go_wp2_with fail;refine xav (by kernel_rfl) (by kernel_rfl) ?_;repeat still_step
    refine wpStill_nil ?_;clear cx cy;have A1:Ω (At gh (FL .i64 256 (pt F (fun _=>0) i)) 109 V wr.drew):=⟨xag A0.out⟩;clear A0;go_wp2_with ((with_reducible refine xaf A1 rfl _ _ _ rfl rfl ?_);refine⟨_,_,_,rfl,rfl,rfl,by rw[xad];exact hlt,?_⟩;intro wn A2;rw[xap,HU.out]at A2);go_roundw
    case rel=>exact⟨i+1,by omega,by go_num,A2⟩
    case measure=>simp[intOf];omega
  ·obtain rfl:i=256:=by omega
   simp only[Int.cast_ofNat_Int];rw[xa8,HR.out]at A0;have Hrow:=ω A0.out.row;have Hres:Ω (wr.heap[w.heap.size+2]? = some (.cells z 109 (0,0))):=⟨A0.out.other (by have:=HVs.out;omega) (by have:=HVs.out;omega) V3.out⟩;have HB:Ω (Below w.heap.size w wr):=⟨HVB.out.trans (A0.out.below HVB.out.size (by have:=HVs.out;omega))⟩;clear A0;go_wp2_with (first
    | (refine wpList_load_row rfl 109 _ rfl gh rfl 109 R (0,0) _ Hrow.out zX rfl Ri.out ?_)
    | (refine wpList_store_row rfl 109 _ _ rfl (w.heap.size+2) R rfl rfl 109 _ Hres.out Ri.out Rz.out Ro.out ?_))
   refine bodyPost_ret_by (v:=.agg R) (results_cell_row rfl _ _ (w.heap.size+2) 109 _ (0,0) _ rfl (setRow_heap _ _ _ _ _ _ Hres.out) zX rfl Ri.out) rfl ?_;exact⟨rfl,HB.out.trans (below_setRow _ _ _ (by omega))⟩
end rhint
namespace psmall
open arr mem
theorem xc8(o m:Int)(w:World):Calls Tryz.prog 164 #[.int .i64 o,.int .i64 m] w (zE w (.bool (decide (1≤o∧o≤255∧1≤m∧m≤8)))):=by
 by_cases c0 : 1≤o
 rotate_left
 ·rw[decide_eq_false (fun h=>c0 h.1)];go_enter Tryz.func164,Tryz.ntmps164;go_wp2_with fail;go_ret;exact⟨rfl,rfl⟩
 by_cases c1:o≤255
 rotate_left
 ·rw[decide_eq_false (fun h=>c1 h.2.1)];go_enter Tryz.func164,Tryz.ntmps164;go_wp2_with fail;go_ret;exact⟨rfl,rfl⟩
 by_cases c2 : 1≤m
 rotate_left
 ·rw[decide_eq_false (fun h=>c2 h.2.2.1)];go_enter Tryz.func164,Tryz.ntmps164;go_wp2_with fail;go_ret;exact⟨rfl,rfl⟩
 by_cases c3:m≤8
 rotate_left
 ·rw[decide_eq_false (fun h=>c3 h.2.2.2)];go_enter Tryz.func164,Tryz.ntmps164;go_wp2_with fail;go_ret;exact⟨rfl,rfl⟩
 rw[decide_eq_true ⟨c0,c1,c2,c3⟩];go_enter Tryz.func164,Tryz.ntmps164;go_wp2_with fail;go_ret;exact⟨rfl,rfl⟩
end psmall
namespace phin
open arr mem stil bitm polys fldm rbita rbitb rbitc rbitd rbite rbith
theorem xc8(h:Nat→Nat→Int)(g o cap m om:Nat)(w:World)(hg:g<w.heap.size)(hm1 : 1≤m)(hm8:m≤8)(ho1 : 1≤om)(ho2:om≤255)(hr:∀ i,i<m→w.rangeAt g (o+256*i) (FL .i64 256 (h i)).toList):
 Calls Tryz.prog 124 #[.slice (some ⟨g,o,none⟩) m cap,.int .i64 (om:Int)] w (zB w (if tot h m≤om then .tuple #[.string ⟨(u8s (lay h om m m)).toArray⟩,.int .i64 0] else .tuple #[.string ⟨#[]⟩,.int .i64 6])):=by
 obtain⟨i0,hi,hz0,hz1,hz2⟩:=parts infoByte;have HI:=ω (And.intro hi (And.intro hz0 (And.intro hz1 hz2)));obtain⟨hz,hsize⟩:=zero_of_info infoP;obtain⟨z,HZ⟩:=xaa (FL .i64 256 fun _=>0);rw[HZ.out]at hz;have Hzs:=zfs HZ;have HR:=ω hr;obtain⟨R,HRe⟩:=xaa (u8s (lay h om m m));obtain⟨V,HV⟩:=xaa (if tot h m≤om then Value.tuple #[.string ⟨R.toArray⟩,.int .i64 0] else .tuple #[.string ⟨#[]⟩,.int .i64 6]);rw[HRe.out,HV.out];obtain⟨M,hM⟩:=zev (om+m);have fM:(om:Int)+(m:Int)=(M:Int):=by omega
 have fMw:IntKind.i64.wrap ((om:Int)+(m:Int))=(M:Int):=by rw[fM,IntKind.wrap_i64];omega
 have HM0:∀ w1:World,Calls Tryz.prog 164 #[.int .i64 (om:Int),.int .i64 (m:Int)] w1 (zE w1 (.bool true)):=fun w1=>by
  have h:=psmall.xc8 (om:Int) (m:Int) w1;rw[decide_eq_true (by omega)]at h;exact h
 have HM:=ω hM;clear hi hz0 hz1 hz2 hr HZ hM;go_enter Tryz.func124,Tryz.ntmps124;go_wp2_with fail;go_step3
 go_wp2_with fail;refine(HM0 _).mono ?_;rintro e w ⟨rfl,rfl⟩;go_wp2_with (at_make;refine wpList_make_full _ rfl (.tmp 19) (.tmp 19) 49 rfl w.heap.size 5 i0 (.int .u8 0) 1 Tryz.underlying49 HI.out.1 HI.out.2.1 HI.out.2.2.1 .i64 .i64 M M M rfl rfl rfl rfl (by rw[HI.out.2.2.2];omega) (by unfold maxLen;omega) (Nat.le_refl _) ?_);intro w3 hown hgr;have hb3:Below w.heap.size w w3:=(Below.refl _ _).grown hgr (Nat.le_refl _) (fun k hk=>by simp at hk);obtain⟨cur,hcur,hcl⟩:=xkq hown;have e0:cur=LK .u8 (lay h om m 0):=by
  apply Array.ext';rw[hcl,lay,HM.out];simp only[toList_madeCells_one];simp[LK]
 rw[e0]at hcur;have A3:Ω (At w.heap.size (LK .u8 (lay h om m 0)) 5 w3 w3):=⟨At.refl hcur⟩;have HB3:=ω hb3;have h38:=xac hcur;clear hown hgr hb3 hcl e0 hcur fM fMw;go_wp2_with fail;go_step3
 go_wp2_with fail;go_loopw [23,7] (fun v c wr=>∃ i:Nat,i≤m∧v=.int .i64 (i:Int)∧c=.int .i64 ((tot h i:Nat):Int)∧tot h i≤om∧Ω (At w.heap.size (LK .u8 (lay h om m i)) 5 w3 wr)) (fun v _ _=>m-(intOf v).toNat)
 case atStart=>exact⟨0,Nat.zero_le _,rfl,rfl,Nat.zero_le _,A3⟩
 case round=>
  clear A3;obtain⟨i,hi,rfl,rfl,hto,A0⟩:=hrel;by_cases hlt:i<m
  ·have hiz:(i:Int)<(m:Int):=by omega
   have BW:Ω (Below w.heap.size w wr):=⟨HB3.out.trans (A0.out.below (by omega) (Nat.le_refl _))⟩;have Hrg:Ω (wr.rangeAt g (o+256*i) (FL .i64 256 (h i)).toList):=⟨fun j v hv=>by rw[BW.out.cell (p:=⟨g,o+256*i+j,none⟩) hg];exact HR.out i hlt j v hv⟩;have Hidx:Ω (∀ k:Nat,k<256→∀ w1,(Instr.index 109 (.agg (FL .i64 256 (h i))) (.int .i64 (k:Int))).run Tryz.prog w1=.ok (.int .i64 (h i k)) w1):=⟨fun k hk w1=>xb5 (P:=Tryz.prog) zX (by kernel_rfl) (by kernel_rfl) (by kernel_rfl) _ _ k hk (xa9 .i64 256 (h i) k hk) w1⟩;have Fs:Ω ((FL .i64 256 (h i)).size=256):=⟨xad _ _ _⟩;have Fo:Ω ((FL .i64 256 (h i)).all (·.oneCell')=true):=⟨xbf _ _ _⟩;obtain⟨F,HF⟩:=xaa (FL .i64 256 (h i));rw[HF.out]at Hrg Hidx Fs Fo;have Fi:=zsz Fs hsize;have A4:Ω (At w.heap.size (LK .u8 (put (h i) (tot h i) (lay h om m i) 0)) 5 w3 wr):=⟨by rw[put];exact A0.out⟩;obtain⟨i256,hi256⟩:=zev (256*i);rw[hi256]at Hrg;have fi256:i*256=i256:=by omega
   clear HF hi256;go_wp2_with ((with_reducible refine wpList_load_mid rfl 109 _ rfl g (o+i256) ?hx F.toList _ Hrg.out zX rfl ?hi ?_);(case hx=>rfl);(case hi=>rw[Array.length_toList];exact Fi.out));have Hi:=ω hlt;clear A0;go_loopw [30,7] (fun v c wr=>∃ k:Nat,k≤256∧v=.int .i64 (k:Int)∧c=.int .i64 ((tot h i+cnt (h i) k:Nat):Int)∧tot h i+cnt (h i) k≤om∧Ω (At w.heap.size (LK .u8 (put (h i) (tot h i) (lay h om m i) k)) 5 w3 wr)) (fun v _ _=>256-(intOf v).toNat)
   case atStart=>exact⟨0,Nat.zero_le _,rfl,rfl,hto,A4⟩
   case round=>
    clear A4;obtain⟨k,hk,rfl,rfl,hto,A0⟩:=hrel;obtain⟨n,hn⟩:=zev (tot h i+cnt (h i) k);rw[hn]at hto ⊢;by_cases hklt:k<256
    ·have hkz:(k:Int)<256:=by omega
     have hidx:=Hidx.out k hklt;by_cases hx:h i k=0
     ·rw[hx]at hidx;have Hn:Ω (tot h i+cnt (h i) (k+1)=n):=⟨by rw[cnt,if_pos hx,←hn];omega⟩;have A1:Ω (At w.heap.size (LK .u8 (put (h i) (tot h i) (lay h om m i) (k+1))) 5 w3 wr):=⟨by rw[put,if_pos hx];exact A0.out⟩;clear A0 hn hx;go_wp2_with fail;go_roundw
      case rel=>exact⟨k+1,by omega,by go_num,by rw[Hn.out],by rw[Hn.out];exact hto,A1⟩
      case measure=>simp[intOf];omega
     ·have Hn:Ω (tot h i+cnt (h i) (k+1)=n+1):=⟨by rw[cnt,if_neg hx,←hn];omega⟩;have Hs:Ω ((put (h i) (tot h i) (lay h om m i) k).set n k=put (h i) (tot h i) (lay h om m i) (k+1)):=⟨by rw[put,if_neg hx,hn]⟩;obtain⟨x,hxx⟩:=zev (h i k);rw[hxx]at hidx hx;have fx:(x==0)=false:=by simpa using hx
      have fn1:IntKind.i64.wrap ((n:Int)+1)=((n+1:Nat):Int):=zwi;have fk8:IntKind.u8.wrap (k:Int)=(k:Int):=by rw[IntKind.wrap_u8];omega
      have BE:Ω (Below w.heap.size w wr):=⟨HB3.out.trans (A0.out.below (by omega) (Nat.le_refl _))⟩;clear hx hxx hn;by_cases he:n=om
      ·have hV:Ω (V=.tuple #[.string ⟨#[]⟩,.int .i64 6]):=⟨by
        rw[←HV.out,if_neg];have h1:=xlv h (i+1) m (by have:=Hi.out;omega);have h2:=cnt_mono (h i) (k+1) 256 (by omega);have h3:=Hn.out;rw[tot]at h1;omega⟩
       subst he;go_wp2_with fail;rw[Exit.noGoto_ret];go_ret2;exact⟨by rw[hV.out];rfl,BE.out⟩
      ·have fe:¬ (om:Int)<((n+1:Nat):Int):=by omega
       have fn2:IntKind.i64.wrap (((n+1:Nat):Int)-1)=(n:Int):=zwi;have hno:n+1≤om:=by omega
       have hnM:(n:Int)<(M:Int):=by have:=HM.out;omega
       have HnM:Ω (n<om+m):=⟨by omega⟩;clear he;go_wp2_with ((with_reducible refine xaf A0 rfl _ _ _ rfl rfl ?_);refine⟨_,_,_,rfl,rfl,rfl,(by rw[xak,xgp,xd9];exact HnM.out),?_⟩;intro wn HRn;rw[xcm,Hs.out]at HRn);go_roundw
       case rel=>exact⟨k+1,by omega,by go_num,by rw[Hn.out];go_num,by rw[Hn.out];exact hno,HRn⟩
       case measure=>simp[intOf];omega
    ·obtain rfl:k=256:=by omega
     simp only[Int.cast_ofNat_Int];have Hn:Ω (tot h (i+1)=n):=⟨by rw[tot,hn]⟩;have Hs:Ω ((put (h i) (tot h i) (lay h om m i) 256).set (om+i) n=lay h om m (i+1)):=⟨by rw[lay,Hn.out]⟩;obtain⟨oi,hoi⟩:=zev (om+i);rw[hoi]at Hs;have foi:(om:Int)+(i:Int)=(oi:Int):=by omega
     have foiw:IntKind.i64.wrap ((om:Int)+(i:Int))=(oi:Int):=by rw[foi,IntKind.wrap_i64];omega
     have fn8:IntKind.u8.wrap (n:Int)=(n:Int):=by rw[IntKind.wrap_u8];omega
     have hnM:(oi:Int)<(M:Int):=by have:=HM.out;have:=Hi.out;omega
     have HnM:Ω (oi<om+m):=⟨by have:=Hi.out;omega⟩;clear hn hoi;go_wp2_with ((with_reducible refine xaf A0 rfl _ _ _ rfl rfl ?_);refine⟨_,_,_,rfl,rfl,rfl,(by rw[xak,xgp,xd9];exact HnM.out),?_⟩;intro wn HRn;rw[xcm,Hs.out]at HRn);go_roundw
     case rel=>exact⟨i+1,by have:=Hi.out;omega,by go_num,by rw[Hn.out],by rw[Hn.out];exact hto,HRn⟩
     case measure=>have:=Hi.out;simp[intOf];omega
  ·obtain rfl:i=m:=by omega
   have hV:Ω (V=.tuple #[.string ⟨R.toArray⟩,.int .i64 0]):=⟨by rw[←HV.out,if_pos hto]⟩;have hto2:¬ (om:Int)<((tot h i:Nat):Int):=by omega
   have hcv:=xc6 (cap:=M) (n:=M) (by rw[xd9];exact HM.out) (xnf h om i i (by omega)) A0.out.row;rw[HRe.out]at hcv;have BE:Ω (Below w.heap.size w wr):=⟨HB3.out.trans (A0.out.below (by omega) (Nat.le_refl _))⟩;clear A0;go_wp2_with fail;go_ret2;exact⟨by rw[hV.out];rfl,BE.out⟩
end phin
namespace mgf
open arr mem stil polys polt pols nttl rndm saml spok rsdoc mlkm mlsm keca kstep kturn rkpb rkrw qrow helda heldb mgd vary varyn varye pvar qops
theorem xc8{T:Array Value}{S:Sg}(Z:Nat→Int)(n gs gt gm cm ga ca gb cb' gl cl gn gy cy gw cw:Nat)(w:World)(hO:OKS T Z S)(H:SGN T S gs gt gm cm ga ca gb cb' gl cl w)
 (hA:w.heap[gn]? = some (.cells (AT (.slice (some ⟨gy,0,none⟩) S.ln cy) (.slice (some ⟨gw,0,none⟩) S.kn cw) (tSum S n) (thereR S.ζ 8 (tC S n))) 116 (0,0))) (HYy:Holds w 0 (.slice (some ⟨gw,0,none⟩) S.kn cw) S.kn (tW S n)):
 Calls Tryz.prog 64 #[.pointer (some ⟨gs,0,none⟩),.pointer (some ⟨gn,0,none⟩)] w (zB w (resH S n)):=by
 obtain⟨hk,hl,he,ht,ha,hbb,ho,hs⟩:=xgd hO;obtain⟨m,hm⟩:=zev (S.t*S.e);have hm2 : 0≤m∧m≤256:=by rw[←hm];rcases he with h | h<;>rw[h]<;>omega
 have hmw:IntKind.i64.wrap (S.t*S.e)=m:=by rw[hm,IntKind.wrap_i64];omega
 have hpol:=xmg hA;have c1n:w.cell? ⟨gn,1,none⟩=some (.slice (some ⟨gw,0,none⟩) S.kn cw):=xab hA rfl;have lgn:=xac hA;have hlt_of:∀ (g c m:Nat) (q:Nat→Nat→Int) (w1:World),Holds w1 0 (.slice (some ⟨g,0,none⟩) m c) m q→g<w1.heap.size:=fun g c m q w1 h=>by
  obtain⟨g9,c9,e9,-,h9,-⟩:=h;injection e9 with e9 _ _
  iterate 2 (injection e9 with e9)
  rw[e9];exact h9
 have HPb0:∀ r,r<S.kn→∀ w1:World,Below w.heap.size w w1→Calls Tryz.prog 117 #[.pointer (some ⟨gs,0,none⟩),.pointer (some ⟨gn,3,none⟩),.pointer (some ⟨gb,r*256,none⟩)] w1 (zB w1 (.agg (FL .i64 256 (one S.ζ (tC S n) (S.B r))))):=fun r hr w1 hb=>by
  have h1:=H.later hb;rw[←mul_one];have h2:=mga.xky (T:=T) Z gs gt gn 3 gb (r*256) (thereR S.ζ 8 (tC S n)) (thereR S.ζ 8 (S.B r)) w1 hO.zt (h1.cell 0 _ rfl) h1.tab (xa3 hpol lgn hb) (xax h1.hb r hr) h1.lts (Nat.lt_of_lt_of_le lgn hb.size) (hlt_of _ _ _ _ _ h1.hb);rw[←hO.ez]at h2;exact h2
 have HPl0:∀ r,r<S.kn→∀ w1:World,Below w.heap.size w w1→Calls Tryz.prog 117 #[.pointer (some ⟨gs,0,none⟩),.pointer (some ⟨gn,3,none⟩),.pointer (some ⟨gl,r*256,none⟩)] w1 (zB w1 (.agg (FL .i64 256 (tCl S n r)))):=fun r hr w1 hb=>by
  have h1:=H.later hb;unfold tCl;rw[←mul_one];have h2:=mga.xky (T:=T) Z gs gt gn 3 gl (r*256) (thereR S.ζ 8 (tC S n)) (thereR S.ζ 8 (S.C r)) w1 hO.zt (h1.cell 0 _ rfl) h1.tab (xa3 hpol lgn hb) (xax h1.hl r hr) h1.lts (Nat.lt_of_lt_of_le lgn hb.size) (hlt_of _ _ _ _ _ h1.hl);rw[←hO.ez]at h2;exact h2
 have HSu0:∀ r,∀ w1:World,Calls Tryz.prog 120 #[.agg (FL .i64 256 (tW S n r)),.agg (FL .i64 256 (one S.ζ (tC S n) (S.B r)))] w1 (zB w1 (.agg (FL .i64 256 (tV S n r)))):=fun r w1=>fsub.xfj _ _ w1
 have HLo0:∀ r,∀ w1:World,Calls Tryz.prog 122 #[.agg (FL .i64 256 (tV S n r)),.int .i64 S.b] w1 (zB w1 (.agg (FL .i64 256 (tLo S n r)))):=fun r w1=>rlow.xkd _ _ w1
 have HSz0:∀ (f:Nat→Int) (w1:World),Calls Tryz.prog 121 #[.agg (FL .i64 256 f)] w1 (zB w1 (.int .i64 (fldm.cb f 256))):=fun f w1=>by
  have h:=mga.xb1 f w1;rw[xrp]at h;exact h
 have HNg0:∀ r,∀ w1:World,Calls Tryz.prog 120 #[.agg (FL .i64 256 fun _=>0),.agg (FL .i64 256 (tCl S n r))] w1 (zB w1 (.agg (FL .i64 256 fun k=>(0-tCl S n r k)%8380417))):=fun r w1=>fsub.xfj _ _ w1
 have HAd0:∀ r,∀ w1:World,Calls Tryz.prog 94 #[.agg (FL .i64 256 (tV S n r)),.agg (FL .i64 256 (tCl S n r))] w1 (zB w1 (.agg (FL .i64 256 fun k=>(tV S n r k+tCl S n r k)%8380417))):=fun r w1=>fadd.xcj _ _ w1
 have HHn0:∀ r,∀ w1:World,Calls Tryz.prog 123 #[.agg (FL .i64 256 fun k=>(0-tCl S n r k)%8380417),.agg (FL .i64 256 fun k=>(tV S n r k+tCl S n r k)%8380417),.int .i64 S.b] w1 (zB w1 (.agg (FL .i64 256 (tHn S n r)))):=fun r w1=>rhint.xj1 _ _ _ w1
 have HMr0:∀ w1:World,Below w.heap.size w w1→Calls Tryz.prog 119 #[.pointer (some ⟨gs,0,none⟩)] w1 (zB w1 (.int .i64 m)):=fun w1 hb=>by
  have h1:=H.later hb;refine(mga.xno gs S.t S.e m w1 (h1.cell 4 _ rfl) (h1.cell 3 _ rfl) hmw).mono ?_;rintro e w' ⟨rfl,rfl⟩;exact⟨rfl,(Below.refl _ _).drew⟩
 obtain⟨om,hom⟩:=Int.eq_ofNat_of_zero_le (a:=S.o) (by omega);have hom2 : 1≤om∧om≤100:=by omega
 obtain⟨lim,hlim⟩:=zev (S.b-m);have hlim0 : 0<lim:=by omega
 have hb0 : 0<S.b:=by omega
 have hlimw:IntKind.i64.wrap (S.b-m)=lim:=by rw[hlim,IntKind.wrap_i64];omega
 have HV0:(∀ i,i<S.kn→fldm.cb (tLo S n i) 256<lim∧fldm.cb (tCl S n i) 256<S.b)→rbith.tot (tHn S n) S.kn≤om→resH S n=.tuple #[.string ⟨(rbitb.u8s (rbith.lay (tHn S n) om S.kn S.kn)).toArray⟩,.bool true]:=fun h1 h2=>by
  unfold resH;rw[if_pos ⟨by rw[hm,hlim,xhd _ _ hlim0];exact fun i hi=>(h1 i hi).1,by rw[xhd _ _ hb0];exact fun i hi=>(h1 i hi).2,by rw[hom];exact Int.ofNat_le.2 h2⟩,hom];rfl
 have HV1:∀ i,i<S.kn→lim≤fldm.cb (tLo S n i) 256∨S.b≤fldm.cb (tCl S n i) 256→resH S n=.tuple #[.string ⟨#[]⟩,.bool false]:=fun i hi h=>by
  unfold resH;rw[if_neg];rw[hm,hlim,xhd _ _ hlim0,xhd _ _ hb0];rintro ⟨h1,h2,-⟩;have:=h1 i hi;have:=h2 i hi;omega
 have HV2:om<rbith.tot (tHn S n) S.kn→resH S n=.tuple #[.string ⟨#[]⟩,.bool false]:=fun h=>by
  unfold resH;rw[if_neg];rintro ⟨-,-,h3⟩;omega
 obtain⟨i0,hi,hz0,hz1,hz2⟩:=tparts infoPoly;obtain⟨hz,hsize⟩:=zero_of_info polt.infoP;obtain⟨z,HZ⟩:=xaa (FL .i64 256 fun _=>0);rw[HZ.out]at hz hz0;simp only[HZ.out]at HNg0;have Hb0:Tryz.prog.built 109 []=some z:=by rw[←HZ.out];exact pvar.built0
 have HB0:=ω Hb0;have HI:=ω (And.intro hi (And.intro hz0 (And.intro hz1 hz2)));have Hsize:=ω hsize;have HYv:=ω HYy;have HGy:=ω (hlt_of _ _ _ _ _ HYy);have c11:w.cell? ⟨gs,11,none⟩=some (.slice (some ⟨gb,0,none⟩) S.kn cb'):=H.cell 11 _ rfl;have c12:w.cell? ⟨gs,12,none⟩=some (.slice (some ⟨gl,0,none⟩) S.kn cl):=H.cell 12 _ rfl;have c6:w.cell? ⟨gs,6,none⟩=some (.int .i64 S.b):=H.cell 6 _ rfl;have c7:w.cell? ⟨gs,7,none⟩=some (.int .i64 S.o):=H.cell 7 _ rfl;rw[hom]at c7;have lgs:=H.lts;obtain⟨be,hbe⟩:=zev S.b;rw[hbe]at c6 hlimw HV1;simp only[hbe]at HLo0 HHn0 HV0;obtain⟨kn,hkn⟩:=zev S.kn;simp only[hkn]at HPb0 HPl0 c1n c11 c12 HYv hk HV0 HV1 HV2;obtain⟨V,hV⟩:=xaa (resH S n);rw[hV.out];simp only[hV.out]at HV0 HV1 HV2;obtain⟨hh,ehh⟩:=xaa (tHn S n);obtain⟨vv,evv⟩:=xaa (tV S n);obtain⟨ww,eww⟩:=xaa (tW S n);obtain⟨lo,elo⟩:=xaa (tLo S n);obtain⟨cc,ecc⟩:=xaa (tCl S n);obtain⟨pp,hpp⟩:=xaa (fun r=>one S.ζ (tC S n) (S.B r));have hpp2:∀ r,one S.ζ (tC S n) (S.B r)=pp r:=fun r=>by rw[←hpp.out]
 simp only[hpp2,ehh.out,evv.out,eww.out,elo.out,ecc.out]at HPb0 HPl0 HSu0 HLo0 HNg0 HAd0 HHn0 HV0 HV1 HV2 HYv;have HPb:=ω HPb0;have HPl:=ω HPl0;have HSu:=ω HSu0;have HLo:=ω HLo0;have HSz:=ω HSz0;have HNg:=ω HNg0;have HAd:=ω HAd0;have HHn:=ω HHn0;have HMr:=ω HMr0;have HV0':=ω HV0;have HV1':=ω HV1;have HV2':=ω HV2;have C1n:=ω c1n;have C11:=ω c11;have C12:=ω c12;have C6:=ω c6;have C7:=ω c7;have Lgs:=ω lgs;have Lgn:=ω lgn;have Hom:=ω hom2;have Hlimw:=ω hlimw;have hkn8:=hk.2;have hkn1:=hk.1;clear hi hz0 hz1 hz2 hsize hk hl he ht ha hbb ho hs hm hm2 hmw hpol lgn HPb0 HPl0 HSu0 HLo0 HSz0 HNg0 HAd0 HHn0 HMr0 HV0 HV1 HV2 HYy c11 c12 c6 c7 lgs hlim hlim0 hb0 hlimw hbe hkn hV ehh evv eww elo ecc hpp hpp2 hA H hO hom hom2 hlt_of Hb0;go_enter Tryz.func64,Tryz.ntmps64;go_wp2_with (at_make;refine wpList_make_full _ rfl (.tmp 16) (.tmp 16) 67 rfl w.heap.size 109 i0 (.agg z) 256 Tryz.underlying67 HI.out.1 HI.out.2.1 HI.out.2.2.1 .i64 .i64 kn kn kn rfl rfl rfl rfl (by rw[HI.out.2.2.2];omega) (by unfold maxLen;omega) (Nat.le_refl _) ?_);clear c1n;intro w3 hown hgr;obtain⟨hrow,hb3⟩:=xbm HZ.out hown hgr;obtain⟨go,hgo⟩:=zev w.heap.size;rw[hgo]at hrow ⊢;have A3:Ω (At go (RW kn (fst hh 0)) 109 w3 w3):=⟨by rw[xbl];exact At.refl hrow⟩;have B3:Ω (Below w.heap.size w w3):=⟨hb3⟩;have Hgo:=ω hgo;clear hown hgr hrow hb3 hgo;go_wp2_with fail;go_loopw [20] (fun iv wr=>∃ r:Nat,r≤kn∧iv=.int .i64 (r:Int)∧Ω (∀ i,i<r→fldm.cb (lo i) 256<lim∧fldm.cb (cc i) 256<be)∧Ω (At go (RW kn (fst hh r)) 109 w3 wr)) (fun iv _=>kn-(intOf iv).toNat)
 case atStart=>exact⟨0,Nat.zero_le _,rfl,⟨fun i hi=>by omega⟩,A3⟩
 case round=>
  clear A3;obtain⟨r,hr,rfl,Hin,A0⟩:=hrel;have BU:Ω (Below w.heap.size w wr):=⟨B3.out.trans (A0.out.below B3.out.size (Nat.le_of_eq Hgo.out))⟩;by_cases hlt:r<kn
  ·have hrz:(r:Int)<(kn:Int):=by omega
   have hr8:r<8:=by omega
   have hrg:=xax (HYv.out.later BU.out) r hlt;have BV:∀ w1:World,Below wr.heap.size wr w1→Below w.heap.size w w1:=fun w1 hb=>BU.out.trans (hb.mono BU.out.size)
   have HPq:Ω (∀ w1:World,Below wr.heap.size wr w1→_):=⟨fun w1 hb=>HPb.out r hlt w1 (BV w1 hb)⟩;have HPk:Ω (∀ w1:World,Below wr.heap.size wr w1→_):=⟨fun w1 hb=>HPl.out r hlt w1 (BV w1 hb)⟩;have HMq:Ω (∀ w1:World,Below wr.heap.size wr w1→_):=⟨fun w1 hb=>HMr.out w1 (BV w1 hb)⟩;have HSq:=ω (HSu.out r);have HLq:=ω (HLo.out r);have HZl:=ω (HSz.out (lo r));have HZc:=ω (HSz.out (cc r));have HNq:=ω (HNg.out r);have HAq:=ω (HAd.out r);have HHq:=ω (HHn.out r);obtain⟨F,HF⟩:=xaa (FL .i64 256 (ww r));obtain⟨G,HGG⟩:=xaa (FL .i64 256 (pp r));obtain⟨L,HLL⟩:=xaa (FL .i64 256 (lo r));obtain⟨M,HMM⟩:=xaa (FL .i64 256 fun k=>(0-cc r k)%8380417);obtain⟨N,HNN⟩:=xaa (FL .i64 256 fun k=>(vv r k+cc r k)%8380417);obtain⟨E,HE⟩:=xaa (FL .i64 256 (hh r));obtain⟨o6,ho6⟩:=zev (r*256);have FtV:Ω (Fits Tryz.prog 109 (FL .i64 256 fun _=>0) (FL .i64 256 (vv r))):=⟨fitsP _⟩;have FtC:Ω (Fits Tryz.prog 109 (FL .i64 256 fun _=>0) (FL .i64 256 (cc r))):=⟨fitsP _⟩;obtain⟨Vv,HVV⟩:=xaa (FL .i64 256 (vv r));obtain⟨Cc,HCC⟩:=xaa (FL .i64 256 (cc r));have Vi:=zri HVV Hsize.out;have Ci:=zri HCC Hsize.out;rw[HF.out,ho6]at hrg;rw[ho6,HGG.out]at HPq;rw[ho6,HCC.out]at HPk;rw[HF.out,HGG.out,HVV.out]at HSq;rw[HVV.out,HLL.out]at HLq;rw[HLL.out]at HZl;rw[HCC.out]at HZc FtC;rw[HVV.out]at FtV;rw[HCC.out,HMM.out]at HNq;rw[HVV.out,HCC.out,HNN.out]at HAq;rw[HMM.out,HNN.out,HE.out]at HHq;obtain⟨X,HX⟩:=zev (fldm.cb (lo r) 256);obtain⟨Y,HY⟩:=zev (fldm.cb (cc r) 256);have HX:=ω HX;have HY:=ω HY;rw[HX.out]at HZl;rw[HY.out]at HZc;have Hrg:Ω (∀ w':World,Below wr.heap.size wr w'→w'.rangeAt gw o6 F.toList):=⟨fun w' hb'=>xa3 hrg (Nat.lt_of_lt_of_le HGy.out BU.out.size) hb'⟩
   have Fi:=zfi HF Hsize.out;have K1n:Ω (∀ w':World,Below wr.heap.size wr w'→w'.cell? ⟨gn,1,none⟩=some (.slice (some ⟨gw,0,none⟩) kn cw)):=⟨fun w' hb=>((BV w' hb).cell (p:=⟨gn,1,none⟩) Lgn.out).trans C1n.out⟩;have K11:Ω (∀ w':World,Below wr.heap.size wr w'→w'.cell? ⟨gs,11,none⟩=some (.slice (some ⟨gb,0,none⟩) kn cb')):=⟨fun w' hb=>((BV w' hb).cell (p:=⟨gs,11,none⟩) Lgs.out).trans C11.out⟩;have K12:Ω (∀ w':World,Below wr.heap.size wr w'→w'.cell? ⟨gs,12,none⟩=some (.slice (some ⟨gl,0,none⟩) kn cl)):=⟨fun w' hb=>((BV w' hb).cell (p:=⟨gs,12,none⟩) Lgs.out).trans C12.out⟩;have K6:Ω (∀ w':World,Below wr.heap.size wr w'→w'.cell? ⟨gs,6,none⟩=some (.int .i64 be)):=⟨fun w' hb=>((BV w' hb).cell (p:=⟨gs,6,none⟩) Lgs.out).trans C6.out⟩;have Hup:Ω (ups (fst hh r) r (hh r)=fst hh (r+1)):=⟨xbp hh r⟩;have Hlt:=ω hlt;have Ho6:=ω ho6;have HzA:=ω hz;clear hrg hlt HF HGG HLL HMM HNN HVV HCC BV hz;go_wp2_with fail;refine xgq [vrP 19 20 18 8 41] 19 (by kernel_rfl) (by kernel_rfl) (by kernel_rfl) (by kernel_rfl) (by decide) (fun v hv ρ o w1 ho=>by
    simp only[List.mem_cons,List.not_mem_nil,or_false]at hv;subst hv;exact allocP ρ o w1 ho) (by simp[vrP]) (fun ops HO=>?_)
   simp only[List.take_succ_cons,List.take_zero];refine xah rfl (fun K hK=>?_);go_simp
   apply Exists.intro;refine⟨fun w9 hw9=>?_,hK _ ?_⟩;rfl;clear hK K;refine xah rfl (fun K hK=>?_);go_simp
   apply Exists.intro;refine⟨fun w9 hw9=>?_,hK _ ?_⟩;rfl;clear hK K;refine xah rfl (fun K hK=>?_);go_simp
   apply Exists.intro;refine⟨fun w9 hw9=>?_,hK _ ?_⟩;rfl;clear hK K;refine xen rfl (.slice (some ⟨gw,0,none⟩) kn cw) (fun w9 hw9=>by have hc:=K1n.out w9 hw9;go_simp;first | done | with_reducible rfl) ?_;refine xah rfl (fun K hK=>?_);go_simp
   apply Exists.intro;refine⟨fun w9 hw9=>?_,hK _ ?_⟩;rfl;clear hK K;refine xah rfl (fun K hK=>?_);go_simp
   apply Exists.intro;refine⟨fun w9 hw9=>?_,hK _ ?_⟩;rfl;clear hK K;refine xg4 rfl 109 _ rfl gw o6 rfl F.toList _ (fun w9 hw9=>Hrg.out w9 hw9) zX rfl Fi.out ?_;refine xah rfl (fun K hK=>?_);go_simp
   apply Exists.intro;refine⟨fun w9 hw9=>?_,hK _ ?_⟩;rfl;clear hK K;refine xah rfl (fun K hK=>?_);go_simp
   apply Exists.intro;refine⟨fun w9 hw9=>?_,hK _ ?_⟩;rfl;clear hK K;refine xah rfl (fun K hK=>?_);go_simp
   apply Exists.intro;refine⟨fun w9 hw9=>?_,hK _ ?_⟩;rfl;clear hK K;refine xah rfl (fun K hK=>?_);go_simp
   apply Exists.intro;refine⟨fun w9 hw9=>?_,hK _ ?_⟩;rfl;clear hK K;refine xah rfl (fun K hK=>?_);go_simp
   apply Exists.intro;refine⟨fun w9 hw9=>?_,hK _ ?_⟩;rfl;clear hK K;refine xah rfl (fun K hK=>?_);go_simp
   apply Exists.intro;refine⟨fun w9 hw9=>?_,hK _ ?_⟩;rfl;clear hK K;refine xah rfl (fun K hK=>?_);go_simp
   apply Exists.intro;refine⟨fun w9 hw9=>?_,hK _ ?_⟩;rfl;clear hK K;refine xen rfl (.slice (some ⟨gb,0,none⟩) kn cb') (fun w9 hw9=>by have hc:=K11.out w9 hw9;go_simp;first | done | with_reducible rfl) ?_;refine xah rfl (fun K hK=>?_);go_simp
   apply Exists.intro;refine⟨fun w9 hw9=>?_,hK _ ?_⟩;rfl;clear hK K;refine xah rfl (fun K hK=>?_);go_simp
   apply Exists.intro;refine⟨fun w9 hw9=>?_,hK _ ?_⟩;rfl;clear hK K;refine xah rfl (fun K hK=>?_);go_simp
   apply Exists.intro;refine⟨fun w9 hw9=>?_,hK _ ?_⟩;exact HPq.out w9 hw9;clear hK K;refine xah rfl (fun K hK=>?_);go_simp
   apply Exists.intro;refine⟨fun w9 hw9=>?_,hK _ ?_⟩;exact HSq.out w9;clear hK K;refine ends1 Vv rfl FtV.out (fun p1 w6 l1 hb6 r1=>?_);simp only[vrP,Act.put,heldb.pa,heldb.pb,heldb.pc]at r1 ⊢;have E6:Ω (Below wr.heap.size wr w6):=⟨hb6⟩;have R1:=ω r1;have L1:=ω l1;have T6:Ω (∀ w':World,Below w6.heap.size w6 w'→Below wr.heap.size wr w'):=⟨fun w' hb=>E6.out.trans (hb.mono E6.out.size)⟩;clear HO hb6 r1 l1;go_wp2_with fail;refine xgq [vrP 11 12 10 9 52] 11 (by kernel_rfl) (by kernel_rfl) (by kernel_rfl) (by kernel_rfl) (by decide) (fun v hv ρ o w1 ho=>by
    simp only[List.mem_cons,List.not_mem_nil,or_false]at hv;subst hv;exact allocP ρ o w1 ho) (by simp[vrP]) (fun ops HO=>?_)
   simp only[List.take_succ_cons,List.take_zero];refine xah rfl (fun K hK=>?_);go_simp
   apply Exists.intro;refine⟨fun w9 hw9=>?_,hK _ ?_⟩;rfl;clear hK K;refine xah rfl (fun K hK=>?_);go_simp
   apply Exists.intro;refine⟨fun w9 hw9=>?_,hK _ ?_⟩;rfl;clear hK K;refine xah rfl (fun K hK=>?_);go_simp
   apply Exists.intro;refine⟨fun w9 hw9=>?_,hK _ ?_⟩;rfl;clear hK K;refine xah rfl (fun K hK=>?_);go_simp
   apply Exists.intro;refine⟨fun w9 hw9=>?_,hK _ ?_⟩;rfl;clear hK K;refine xah rfl (fun K hK=>?_);go_simp
   apply Exists.intro;refine⟨fun w9 hw9=>?_,hK _ ?_⟩;rfl;clear hK K;refine xah rfl (fun K hK=>?_);go_simp
   apply Exists.intro;refine⟨fun w9 hw9=>?_,hK _ ?_⟩;rfl;clear hK K;refine xah rfl (fun K hK=>?_);go_simp
   apply Exists.intro;refine⟨fun w9 hw9=>?_,hK _ ?_⟩;rfl;clear hK K;refine xen rfl (.slice (some ⟨gl,0,none⟩) kn cl) (fun w9 hw9=>by have hc:=(fun w9 hw9=>K12.out w9 (T6.out w9 hw9)) w9 hw9;go_simp;first | done | with_reducible rfl) ?_;refine xah rfl (fun K hK=>?_);go_simp
   apply Exists.intro;refine⟨fun w9 hw9=>?_,hK _ ?_⟩;rfl;clear hK K;refine xah rfl (fun K hK=>?_);go_simp
   apply Exists.intro;refine⟨fun w9 hw9=>?_,hK _ ?_⟩;rfl;clear hK K;refine xah rfl (fun K hK=>?_);go_simp
   apply Exists.intro;refine⟨fun w9 hw9=>?_,hK _ ?_⟩;exact HPk.out w9 (T6.out w9 hw9);clear hK K;refine ends1 Cc rfl FtC.out (fun p2 w7 l2 hb7 r2=>?_);simp only[vrP,Act.put,heldb.pa,heldb.pb,heldb.pc]at r2 ⊢;have E7:Ω (Below wr.heap.size wr w7):=⟨T6.out w7 hb7⟩;have R2:=ω r2;have R17:Ω (w7.heap[p1]? = some (.cells Vv 109 (0,0))):=⟨(hb7.block _ (xac R1.out)).trans R1.out⟩;have L2:Ω (wr.heap.size≤p2):=⟨Nat.le_trans E6.out.size l2⟩;have q6:∀ d os,(Go.Sort.grow (redrawn w7 d) os).cell? ⟨gs,6,none⟩=some (.int .i64 be):=fun d os=>cell_regrown (K6.out w7 E7.out) d os
   have HMq7:Ω (∀ w1:World,Below w7.heap.size w7 w1→_):=⟨fun w1 hb=>HMq.out w1 (E7.out.trans (hb.mono E7.out.size))⟩;clear HO hb7 r2 l2 R1;have hlw:=Hlimw.out;by_cases hcA:lim≤X
   ·have hdA:decide (lim≤X)=true:=decide_eq_true hcA;have hVe:Ω (V=.tuple #[.string ⟨#[]⟩,.bool false]):=⟨HV1'.out r Hlt.out (Or.inl (by rw[HX.out];exact hcA))⟩;clear hcA;go_wp2_with fail;refine xei (by kernel_rfl) (by kernel_rfl) (fun ops HO=>?_);refine xa2 rfl 109 _ rfl _ rfl 109 _ _ (fun w' hC=>xaw R17.out hC) zX rfl Vi.out ?_;iterate 5 (quiet_step (skip))
    quiet_step (exact Calls.regrown_of (HLq.out _));quiet_step (exact Calls.regrown_of (HZl.out _));iterate 6 (quiet_step (skip))
    quiet_step (exact Calls.regrown_of (HMq7.out _ (below_regrown _ _ _)));iterate 3 (quiet_step (skip))
    iterate 8 (refine wpQuiet_skip (by rw[←HO.out];kernel_rfl) ?_)
    quiet_step (skip);refine wpQuiet_nil ?_;intro w8 hC;have E8:Ω (Below w7.heap.size w7 w8):=⟨krw.xa1 hC⟩;clear hC q6 HO;have D8:Ω (Below w.heap.size w w8):=⟨BU.out.trans ((E7.out.trans (E8.out.mono E7.out.size)).mono BU.out.size)⟩;go_wp2_with fail;go_ret2;exact⟨by rw[hVe.out];rfl,D8.out⟩
   ·have hdA:decide (lim≤X)=false:=decide_eq_false hcA;by_cases hcB:be≤Y
    ·have hdB:decide (be≤Y)=true:=decide_eq_true hcB;have hVe:Ω (V=.tuple #[.string ⟨#[]⟩,.bool false]):=⟨HV1'.out r Hlt.out (Or.inr (by rw[HY.out];exact hcB))⟩;clear hcA hcB;go_wp2_with fail;refine xei (by kernel_rfl) (by kernel_rfl) (fun ops HO=>?_);refine xa2 rfl 109 _ rfl _ rfl 109 _ _ (fun w' hC=>xaw R17.out hC) zX rfl Vi.out ?_;iterate 5 (quiet_step (skip))
     quiet_step (exact Calls.regrown_of (HLq.out _));quiet_step (exact Calls.regrown_of (HZl.out _));iterate 6 (quiet_step (skip))
     quiet_step (exact Calls.regrown_of (HMq7.out _ (below_regrown _ _ _)));iterate 3 (quiet_step (skip))
     refine xa2 (by rw[←HO.out];kernel_rfl) 109 _ rfl _ rfl 109 _ _ (fun w' hC=>xaw R2.out hC) zX rfl Ci.out ?_;refine wpQuiet_want (by rw[←HO.out];kernel_rfl) (fun K hK=>?_);go_simp
     apply Exists.intro;refine⟨fun _=>?_,hK _ ?_⟩;exact Calls.regrown_of (HZc.out _);iterate 6 (clear hK K;refine wpQuiet_want (by rw[←HO.out];kernel_rfl) (fun K hK=>?_);go_simp;refine hK _ ?_)
     clear hK K;quiet_step (skip);refine wpQuiet_nil ?_;intro w8 hC;have E8:Ω (Below w7.heap.size w7 w8):=⟨krw.xa1 hC⟩;clear hC q6 HO;have D8:Ω (Below w.heap.size w w8):=⟨BU.out.trans ((E7.out.trans (E8.out.mono E7.out.size)).mono BU.out.size)⟩;go_wp2_with fail;go_ret2;exact⟨by rw[hVe.out];rfl,D8.out⟩
    ·have hdB:decide (be≤Y)=false:=decide_eq_false hcB;have Hin2:Ω (∀ i,i<r+1→fldm.cb (lo i) 256<lim∧fldm.cb (cc i) 256<be):=⟨fun i hi=>by
      by_cases e:i=r
      ·rw[e,HX.out,HY.out];omega
      ·exact Hin.out i (by omega)⟩
     clear hcA hcB;go_wp2_with fail;refine xei (by kernel_rfl) (by kernel_rfl) (fun ops HO=>?_);refine xa2 rfl 109 _ rfl _ rfl 109 _ _ (fun w' hC=>xaw R17.out hC) zX rfl Vi.out ?_;iterate 5 (quiet_step (skip))
     quiet_step (exact Calls.regrown_of (HLq.out _));quiet_step (exact Calls.regrown_of (HZl.out _));iterate 6 (quiet_step (skip))
     quiet_step (exact Calls.regrown_of (HMq7.out _ (below_regrown _ _ _)));iterate 3 (quiet_step (skip))
     refine xa2 (by rw[←HO.out];kernel_rfl) 109 _ rfl _ rfl 109 _ _ (fun w' hC=>xaw R2.out hC) zX rfl Ci.out ?_;refine wpQuiet_want (by rw[←HO.out];kernel_rfl) (fun K hK=>?_);go_simp
     apply Exists.intro;refine⟨fun _=>?_,hK _ ?_⟩;exact Calls.regrown_of (HZc.out _);iterate 6 (clear hK K;refine wpQuiet_want (by rw[←HO.out];kernel_rfl) (fun K hK=>?_);go_simp;refine hK _ ?_)
     clear hK K;quiet_step (skip);refine wpQuiet_nil ?_;intro w8 hC;have E8:Ω (Below w7.heap.size w7 w8):=⟨krw.xa1 hC⟩;clear hC q6 HO;have E8r:=zbt E7 E8.out;have R18:Ω (w8.heap[p1]? = some (.cells Vv 109 (0,0))):=⟨(E8.out.block _ (xac R17.out)).trans R17.out⟩;have R28:Ω (w8.heap[p2]? = some (.cells Cc 109 (0,0))):=⟨(E8.out.block _ (xac R2.out)).trans R2.out⟩;have q6:∀ d os,(Go.Sort.grow (redrawn w8 d) os).cell? ⟨gs,6,none⟩=some (.int .i64 be):=fun d os=>cell_regrown (K6.out w8 E8r.out) d os
     have ho6:=Ho6.out;go_wp2_with fail;refine qtail.xb0 14 (by kernel_rfl) (by kernel_rfl) ?_;iterate 2 (quiet_step (skip))
     refine xwk rfl (.agg z) (fun w1=>xm2 _ rfl _ HB0.out w1) ?_;refine xa2 rfl 109 _ rfl _ rfl 109 _ _ (fun w' hC=>xaw R28.out hC) zX rfl Ci.out ?_;quiet_step (exact Calls.regrown_of (HNq.out _));refine xa2 rfl 109 _ rfl _ rfl 109 _ _ (fun w' hC=>xaw R18.out hC) zX rfl Vi.out ?_;refine xa2 rfl 109 _ rfl _ rfl 109 _ _ (fun w' hC=>xaw R28.out hC) zX rfl Ci.out ?_;quiet_step (exact Calls.regrown_of (HAq.out _));iterate 5 (quiet_step (skip))
     quiet_step (exact Calls.regrown_of (HHq.out _));refine wpQuiet_nil ?_;intro wn hC;have hbn:Below w8.heap.size w8 wn:=krw.xa1 hC;have A6:Ω (At go (RW kn (fst hh r)) 109 w3 wn):=⟨A0.out.later (E8r.out.trans (hbn.mono E8r.out.size))⟩;clear hC hbn A0 HPq HPk Hrg q6;simp only[List.drop_succ_cons,List.drop_zero];go_wp2_with ((with_reducible refine xcg A6 HE.out Hlt.out Ho6.out rfl _ _ rfl rfl ?hx ?hy ?_);(case hx=>exact rfl);(case hy=>exact rfl);intro w9 A7;rw[Hup.out]at A7);go_roundw
     case rel=>exact⟨r+1,by have:=Hlt.out;omega,by go_num,Hin2,A7⟩
     case measure=>have:=Hlt.out;simp[intOf];omega
  ·obtain rfl:r=kn:=by omega
   have hrow:=A0.out.row;have HHi:=phin.xc8 hh go 0 r r om wr (xac hrow) hkn1 hkn8 Hom.out.1 (by have:=Hom.out;omega) (fun i hi=>by
    have h9:=xbo (B:=0) (c:=r) hrow (Nat.zero_le _) (fun i hi=>xbk hh r i hi);have h8:=xax h9 i hi;rw[Nat.zero_add,Nat.mul_comm];exact h8)
   have c7:wr.cell? ⟨gs,7,none⟩=some (.int .i64 (om:Int)):=(BU.out.cell (p:=⟨gs,7,none⟩) Lgs.out).trans C7.out;by_cases htot:rbith.tot hh r≤om
   ·rw[if_pos htot]at HHi;have hVe:=ω (HV0'.out Hin.out htot);obtain⟨Ly,HLy⟩:=xaa (⟨(rbitb.u8s (rbith.lay hh om r r)).toArray⟩:ByteArray);rw[HLy.out]at HHi hVe;have HHi:=ω HHi;clear A0 hlt hrow htot;go_wp2_with fail;refine HHi.out.mono ?_;rintro e w5 ⟨rfl,hb5⟩;have D5:=zbt BU hb5;clear hb5;go_wp2_with fail;go_ret2;exact⟨by rw[hVe.out];rfl,D5.out⟩
   ·rw[if_neg htot]at HHi;have hVe:=ω (HV2'.out (by omega));have HHi:=ω HHi;clear A0 hlt hrow htot;go_wp2_with fail;refine HHi.out.mono ?_;rintro e w5 ⟨rfl,hb5⟩;have D5:=zbt BU hb5;clear hb5;go_wp2_with fail;go_ret2;exact⟨by rw[hVe.out];rfl,D5.out⟩
end mgf
namespace mgg
open arr mem stil polys polt pols nttl rndm saml spok rsdoc mlkm mlsm keca kstep kturn rkpb rkrw qrow helda heldb mgd mgr rbita rbitb rbith
theorem xej{T:Array Value}{S:Sg}(Z:Nat→Int)(gs gt gm cm ga ca gb cb' gl cl:Nat)(w:World)(hO:OKS T Z S)(hP:Gp w)(H:SGN T S gs gt gm cm ga ca gb cb' gl cl w):
 Calls Tryz.prog 28 #[.pointer (some ⟨gs,0,none⟩)] w (zB w (fin (tTry S 814 0))):=by
 obtain⟨hk,hl,he,ht,ha,hbb,ho,hs⟩:=xgd hO;have HBe:Ω (∀ n:Nat,n<814→∀ w1:World,Below w.heap.size w w1→Calls Tryz.prog 62 #[.pointer (some ⟨gs,0,none⟩),.int .i64 (n:Int)] w1 fun e w'=>(∃ gy cy gw cw,e=.returned (.agg (AT (.slice (some ⟨gy,0,none⟩) S.ln cy) (.slice (some ⟨gw,0,none⟩) S.kn cw) (tSum S n) (thereR S.ζ 8 (tC S n))))∧Holds w' 0 (.slice (some ⟨gy,0,none⟩) S.ln cy) S.ln (tY S n)∧Holds w' 0 (.slice (some ⟨gw,0,none⟩) S.kn cw) S.kn (tW S n))∧Below w1.heap.size w1 w'):=⟨fun n hn w1 hb=>mgc.xq6 Z n gs gt gm cm ga ca gb cb' gl cl w1 hO (hP.later hb) hn (H.later hb)⟩;have HAn:Ω (∀ n gn gy cy gw cw,∀ w1:World,Below w.heap.size w w1→w1.heap[gn]? = some (.cells (AT (.slice (some ⟨gy,0,none⟩) S.ln cy) (.slice (some ⟨gw,0,none⟩) S.kn cw) (tSum S n) (thereR S.ζ 8 (tC S n))) 116 (0,0))→Holds w1 0 (.slice (some ⟨gy,0,none⟩) S.ln cy) S.ln (tY S n)→Calls Tryz.prog 63 #[.pointer (some ⟨gs,0,none⟩),.pointer (some ⟨gn,0,none⟩)] w1 fun e w'=>(∃ v,e=.returned (.tuple #[v,.bool (decide (fldm.cbs (tZ S n) S.ln<S.a-S.t*S.e))])∧Holds w' w1.heap.size v S.ln (tZ S n))∧Below w1.heap.size w1 w'):=⟨fun n gn gy cy gw cw w1 hb h1 h2=>mge.xqx Z n gs gt gm cm ga ca gb cb' gl cl gn gy cy gw cw w1 hO (H.later hb) h1 h2⟩;have HHi:Ω (∀ n gn gy cy gw cw,∀ w1:World,Below w.heap.size w w1→w1.heap[gn]? = some (.cells (AT (.slice (some ⟨gy,0,none⟩) S.ln cy) (.slice (some ⟨gw,0,none⟩) S.kn cw) (tSum S n) (thereR S.ζ 8 (tC S n))) 116 (0,0))→Holds w1 0 (.slice (some ⟨gw,0,none⟩) S.kn cw) S.kn (tW S n)→Calls Tryz.prog 64 #[.pointer (some ⟨gs,0,none⟩),.pointer (some ⟨gn,0,none⟩)] w1 (zB w1 (resH S n))):=⟨fun n gn gy cy gw cw w1 hb h1 h2=>mgf.xc8 Z n gs gt gm cm ga ca gb cb' gl cl gn gy cy gw cw w1 hO (H.later hb) h1 h2⟩
 have HPk:Ω (∀ n,tOk S n=true→∀ (vz:Value) (B:Nat) (w1:World),Below w.heap.size w w1→Holds w1 B vz S.ln (tZ S n)→Calls Tryz.prog 65 #[.pointer (some ⟨gs,0,none⟩),vz] w1 (zB w1 (.string (laidS ByteArray.empty (tZ S n) (S.a-1) S.a S.ln)))):=⟨fun n hn vz B w1 hb h1=>mgb.xds gs S.ln S.a vz B (tZ S n) w1 ha ((H.later hb).cell 5 _ rfl) (H.later hb).lts hl h1 fun i hi=>mlsb.tZ_in hn (by omega) (by omega) i hi⟩;have HsS:Ω (∀ n,(tSum S n).size≤64):=⟨fun n=>by rw[mlsb.xfk];omega⟩;have HsP:Ω (∀ n,(laidS ByteArray.empty (tZ S n) (S.a-1) S.a S.ln).size≤100000):=⟨fun n=>by
  rw[xbb];have h2:lb (S.a-1+S.a).toNat≤64:=by rcases ha with h | h<;>rw[h]<;>decide +kernel
  have h3:=Nat.mul_le_mul (Nat.mul_le_mul (Nat.le_refl 32) h2) hl.2;have h4:ByteArray.empty.size=0:=rfl;omega⟩
 have HsL:Ω (∀ n,(⟨(u8s (lay (tHn S n) S.o.toNat S.kn S.kn)).toArray⟩:ByteArray).size≤1000):=⟨fun n=>by
  have h1:=mlsb.xlp S n ha;have h2:=xli S n;have h3:(tSig S n).size=(tSum S n).size+(laidS ByteArray.empty (tZ S n) (S.a-1) S.a S.ln).size+(⟨(u8s (lay (tHn S n) S.o.toNat S.kn S.kn)).toArray⟩:ByteArray).size:=by rw[←h2,ByteArray.size_append,ByteArray.size_append]
  rw[mlsb.xfk,xbb]at h3;have h4:ByteArray.empty.size=0:=rfl;have h5:lb (S.a-1+S.a).toNat=lb (S.a-1).toNat+1:=by rcases ha with h | h<;>rw[h]<;>decide +kernel
  rw[h5]at h3;generalize 32*(lb (S.a-1).toNat+1)*S.ln=q at h1 h3;omega⟩
 obtain⟨hz,hsize⟩:=zero_of_info infoAtz;obtain⟨z,HZ⟩:=xaa (AT (.slice none 0 0) (.slice none 0 0) ⟨#[]⟩ fun _=>0);rw[HZ.out]at hz;have Hzs:Ω (z.size=259):=⟨by rw[←HZ.out];exact xer _ _ _ _⟩;have HV1:Ω (∀ n:Nat,n<814→(∀ k,k<n→tOk S k=false)→tOk S n=true→fin (tTry S 814 0)=.tuple #[.string (tSig S n),.int .i64 0]):=⟨fun n h1 h2 h3=>fin_at S n h1 h2 h3⟩;have HV2:Ω ((∀ k,k<814→tOk S k=false)→fin (tTry S 814 0)=.tuple #[.string ⟨#[]⟩,.int .i64 17]):=⟨xm6 S⟩;obtain⟨V,hV⟩:=xaa (fin (tTry S 814 0));rw[hV.out]at HV1 HV2 ⊢;have HzA:=ω hz;clear hk hl he ht ha hbb ho hs hsize HZ hV hO hP H hz;go_enter Tryz.func28,Tryz.ntmps28;iterate 2 (go_wp2_with fail;go_step3)
 go_wp2_with fail;go_loopw [12,4,5] (fun iv s4 s5 wr=>∃ n:Nat,n≤814∧iv=.int .i64 (n:Int)∧s4=.string ⟨#[]⟩∧s5=.int .i64 17∧Ω (∀ k,k<n→tOk S k=false)∧Ω (Below w.heap.size w wr)) (fun iv _ _ _=>814-(intOf iv).toNat)
 case atStart=>exact⟨0,Nat.zero_le _,rfl,rfl,rfl,⟨fun k hk=>by omega⟩,⟨Below.refl _ _⟩⟩
 case round=>
  obtain⟨n,hn,rfl,rfl,rfl,Hno,Hb⟩:=hrel;by_cases hlt:n<814
  ·have hnz:(n:Int)<814:=by omega
   have hz:=HzA.out;go_wp2_with fail;refine(HBe.out n hlt wr Hb.out).mono ?_;rintro e w5 ⟨⟨gy,cy,gw,cw,rfl,hy,hw⟩,hb5⟩;obtain⟨A,HA⟩:=xaa (AT (.slice (some ⟨gy,0,none⟩) S.ln cy) (.slice (some ⟨gw,0,none⟩) S.kn cw) (tSum S n) (thereR S.ζ 8 (tC S n)));have Ai:Ω ((Tryz.prog.info? 116).map (·.size)=some A.size):=⟨by rw[←HA.out,xer];exact infoAt⟩;have Ao:Ω (A.all (·.oneCell')=true):=⟨by rw[←HA.out];exact at_one _ _ _ _ _ _ _ _⟩;have Az:Ω (z.size=A.size):=⟨by rw[Hzs.out,←HA.out,xer]⟩;rw[HA.out];obtain⟨W6,hW6⟩:=zev (w5.alloc (.cells A 116));obtain⟨r6,hs6,b6⟩:=one hW6;have D6:Ω (Below w.heap.size w W6):=⟨Hb.out.trans ((hb5.trans (b6.mono hb5.size)).mono Hb.out.size)⟩;have HW6:=ω hW6;have HY6:=ω (hy.later b6);have HWw6:=ω (hw.later b6);have HAn6:=HAn.out n w5.heap.size gy cy gw cw W6 D6.out (by rw[HA.out];exact r6) HY6.out;have hc2:W6.cell? ⟨w5.heap.size,2,none⟩=some (.string (tSum S n)):=xab r6 (by rw[←HA.out];rfl);have Hc2:=ω hc2;have R6:=ω r6;have L6:Ω (w5.heap.size<W6.heap.size):=⟨xac r6⟩;have Hlt:=ω hlt;clear hW6 r6 hs6 b6 hy hw hb5 hc2 hlt;by_cases h1:fldm.cbs (tZ S n) S.ln<S.a-S.t*S.e
   ·rw[decide_eq_true h1]at HAn6;have HAn6:=ω HAn6;go_wp2_with (first
     | (refine xam rfl 116 _ _ rfl A rfl rfl Ai.out (by exact Az.out) Ao.out rfl ?_)
     | (rw[HW6.out]))
    clear hz;refine HAn6.out.mono ?_;rintro e w7 ⟨⟨vz,rfl,hz7⟩,hb7⟩;have D7:=zbt D6 hb7;have HZ7:=ω hz7;have B7:=ω hb7;have R7:w7.heap[w5.heap.size]? = some (.cells A 116 (0,0)):=(hb7.block _ L6.out).trans R6.out;have HHi7:=HHi.out n w5.heap.size gy cy gw cw w7 D7.out (by rw[HA.out];exact R7) (HWw6.out.later hb7);obtain⟨gz,cz,rfl,-⟩:=xan hz7;clear hz7 hb7 R7;by_cases h2:tOk S n=true
    ·have hres:resH S n=.tuple #[.string ⟨(u8s (lay (tHn S n) S.o.toNat S.kn S.kn)).toArray⟩,.bool true]:=by
      obtain⟨-,q2,q3,q4⟩:=(xh6 S n).1 h2;unfold resH;rw[if_pos ⟨q2,q3,q4⟩]
     rw[hres]at HHi7;have hVe:Ω (V=.tuple #[.string (tSig S n),.int .i64 0]):=⟨HV1.out n Hlt.out Hno.out h2⟩;have hsig:=xli S n;have HPk8:=HPk.out n h2;have s1:=HsS.out n;have s2:=HsP.out n;have s3:=HsL.out n;obtain⟨Sm,HSm⟩:=xaa (tSum S n);obtain⟨Pk,HPkk⟩:=xaa (laidS ByteArray.empty (tZ S n) (S.a-1) S.a S.ln);obtain⟨Ly,HLy⟩:=xaa (⟨(u8s (lay (tHn S n) S.o.toNat S.kn S.kn)).toArray⟩:ByteArray);obtain⟨Sg',HSg⟩:=xaa (tSig S n);rw[HSm.out]at s1 hsig Hc2;rw[HPkk.out]at s2 hsig HPk8;rw[HLy.out]at s3 hsig HHi7;rw[HSg.out]at hsig hVe;obtain⟨Q,hQ⟩:=zev (Sm++Pk);have hQs:Q.size=Sm.size+Pk.size:=by rw[←hQ,ByteArray.size_append]
     rw[hQ]at hsig;have x1:¬ 9223372036854775807<Sm.size+Pk.size:=by omega
     have x2:¬ 9223372036854775807<Q.size+Ly.size:=by omega
     have HHi7:=ω HHi7;have HPk9:=ω HPk8;clear HPk8 s1 s2 s3 hQs h1 h2 hres;go_wp2_with fail;refine HHi7.out.mono ?_;rintro e w8 ⟨rfl,hb8⟩;have D8:=zbt D7 hb8;have HZ8:=ω (HZ7.out.later hb8);have Hc8:Ω (∀ w':World,Below w8.heap.size w8 w'→w'.cell? ⟨w5.heap.size,2,none⟩=some (.string Sm)):=⟨fun w' hb=>by
      have k1:=B7.out.trans (hb8.mono B7.out.size);have k2:=k1.trans (hb.mono k1.size);exact(k2.cell (p:=⟨w5.heap.size,2,none⟩) L6.out).trans Hc2.out⟩
     clear hb8;go_wp2_with fail;refine xbe (w8.heap.size) 10 [0,1,2,3,6,4,5,7,8,9] (by kernel_rfl) rfl rfl (by decide) (fun hS ops HO=>?_);simp only[List.filterMap_cons,fa,List.getElem?_cons_succ,List.getElem?_cons_zero];refine zU hS ?_;refine zD Hc8.out hS ?_;iterate 3 (refine zU hS ?_)
     refine zS fun K hK=>?_
     go_simp
     refine(HPk9.out _ _ _ (D8.out.trans (hS.mono D8.out.size)) (HZ8.out.later hS)).mono ?_;rintro x w9 ⟨rfl,hb9⟩;have h9:=hS.trans (hb9.mono hS.size);refine hK _ _ h9 ?_;clear hK K;try simp only[Act.put,pa,pb,pc]
     iterate 4 (refine zU h9 ?_)
     refine zN ?_;have D9:=zbt D8 h9;clear hS HO hb9 h9 x1 x2 hQ;go_wp2_with fail;rw[Exit.noGoto_ret];go_ret2;exact⟨by rw[hVe.out];rfl,D9.out⟩
    ·have hres:resH S n=.tuple #[.string ⟨#[]⟩,.bool false]:=by
      unfold resH;rw[if_neg];rintro ⟨q2,q3,q4⟩;exact h2 ((xh6 S n).2 ⟨h1,q2,q3,q4⟩)
     rw[hres]at HHi7;have HHi7:=ω HHi7;have Hno2:Ω (∀ k,k<n+1→tOk S k=false):=⟨fun k hk=>by
      by_cases e:k=n
      ·rw[e];exact Bool.eq_false_iff.2 h2
      ·exact Hno.out k (by omega)⟩
     clear h1 h2 hres;go_wp2_with fail;refine HHi7.out.mono ?_;rintro e w8 ⟨rfl,hb8⟩;have D8:=zbt D7 hb8;clear hb8;go_wp2_with fail;go_roundw
     case rel=>exact⟨n+1,by have:=Hlt.out;omega,by go_num,rfl,rfl,Hno2,D8⟩
     case measure=>have:=Hlt.out;simp[intOf];omega
   ·rw[decide_eq_false h1]at HAn6;have HAn6:=ω HAn6;have Hno2:Ω (∀ k,k<n+1→tOk S k=false):=⟨fun k hk=>by
     by_cases e:k=n
     ·rw[e];exact Bool.eq_false_iff.2 fun h2=>h1 ((xh6 S n).1 h2).1
     ·exact Hno.out k (by omega)⟩
    clear h1;go_wp2_with (first
     | (refine xam rfl 116 _ _ rfl A rfl rfl Ai.out (by exact Az.out) Ao.out rfl ?_)
     | (rw[HW6.out]))
    clear hz;refine HAn6.out.mono ?_;rintro e w7 ⟨⟨vz,rfl,hz7⟩,hb7⟩;have D7:=zbt D6 hb7;clear hz7 hb7;go_wp2_with fail;go_roundw
    case rel=>exact⟨n+1,by have:=Hlt.out;omega,by go_num,rfl,rfl,Hno2,D7⟩
    case measure=>have:=Hlt.out;simp[intOf];omega
  ·obtain rfl:n=814:=by omega
   have hVe:=ω (HV2.out Hno.out);go_wp2_with fail;rw[Exit.noGoto_ret];go_ret2;exact⟨by rw[hVe.out];rfl,Hb.out⟩
end mgg
namespace mgi
open arr mem stil polys polt pols nttl rndm saml samr spok rsdoc mlkm mlkb mlsm keca kstep kturn rkpb rkrw rkse rbitb rbitc qrow mgd mgr
open kcon (TH)
theorem xnl(bs:ByteArray):∀ (k i:Nat) (r:List UInt8),bs.size-i=k→(ByteArray.toList.loop bs i r).length=k+r.length
 | 0,i,r,h=>by rw[ByteArray.toList.loop,if_neg (by omega)];simp
 | k+1,i,r,h=>by rw[ByteArray.toList.loop,if_pos (by omega),xnl bs k (i+1) _ (by omega),List.length_cons];omega
theorem xn6(r:ByteArray)(h : 0<r.size):r.toList.isEmpty=false:=by
 have h1:r.toList.length=r.size:=by rw[ByteArray.toList,xnl r r.size 0 [] rfl];simp
 cases e:r.toList with
 | nil=>rw[e]at h1;simp at h1;omega
 | cons a l=>rfl
theorem xf9(c x:ByteArray)(w:World)(h : 255<c.size∨60000<x.size):
 Calls Tryz.prog 13 #[.string c,.string x] w (zE w (.tuple #[.string ⟨#[]⟩,.int .i64 5])):=by
 have h:(255:Int)<(c.size:Int)∨(¬ (255:Int)<(c.size:Int)∧(60000:Int)<(x.size:Int)):=by omega
 rcases h with h | ⟨h1,h⟩
 ·go_enter Tryz.func13,Tryz.ntmps13;go_wp2_with fail;go_ret2;exact⟨rfl,rfl⟩
 ·go_enter Tryz.func13,Tryz.ntmps13;go_wp2_with fail;go_ret2;exact⟨rfl,rfl⟩
theorem xe4(c x:ByteArray)(w:World)(h1:c.size≤255)(h2:x.size≤60000):
 Calls Tryz.prog 13 #[.string c,.string x] w (zB w (.tuple #[.string ((⟨#[0,UInt8.ofNat c.size]⟩:ByteArray)++c++x),.int .i64 0])):=by
 have n1:¬ (255:Int)<(c.size:Int):=by omega
 have n2:¬ (60000:Int)<(x.size:Int):=by omega
 obtain⟨n,hn⟩:=zev c.size;have hw:IntKind.u8.wrap (n:Int)=(n:Int):=by rw[IntKind.wrap_u8];omega
 obtain⟨W,hW⟩:=zev (w.alloc (.cells #[.int .u8 0,.int .u8 (n:Int)] 5));have r0:W.heap[w.heap.size]? = some (.cells #[.int .u8 0,.int .u8 (n:Int)] 5 (0,0)):=by rw[←hW];exact xae _ _ _ rfl
 have hb:Below w.heap.size w W:=by rw[←hW];exact xbg _ _
 have hcv:=xc6 (t:=5) (l:=[0,n]) (cap:=2) (n:=2) rfl (by simp;omega) r0;obtain⟨X,hX⟩:∃ X:ByteArray,⟨(u8s [0,n]).toArray⟩=X:=⟨_,rfl⟩;have hX2:(⟨#[0,UInt8.ofNat n]⟩:ByteArray)=X:=by rw[←hX];rfl
 have hXs:X.size=2:=by rw[←hX];rfl
 rw[hX]at hcv;rw[hn,hX2];rw[hn]at n1;have HW:=ω hW;have HB:=ω hb;clear hX hX2 r0 hb hW;go_enter Tryz.func13,Tryz.ntmps13;go_wp2_with (first | (rw[HW.out]) | fail);go_ret2;exact⟨rfl,HB.out⟩
theorem xhx{T:Array Value}(Z:Nat→Int)(kn ln:Nat)(e t a b o s:Int)(sk hd m r:ByteArray)(SA SB SC:Nat→Nat→Int)(w:World)(hK:KT T TL RL)(hT:nthere.ZT T Z)(hP:Gp w)(h:latt (kn:Int) (ln:Int) e t a b o s=true)(hm:m.size≤100000)(hr:r.size=32)(hhd:hd.size=128)
 (HSe0:∀ w1:World,Calls Tryz.prog 26 #[.agg (zLt (kn:Int) (ln:Int) e t a b o s),.string sk] w1 fun x w'=>(∃ g c g1 c1 g2 c2 g3 c3,x=.returned (.tuple #[.string hd,.slice (some ⟨g,0,none⟩) 3 c,.int .i64 0])∧TH w' g g1 c1 g2 c2 g3 c3 ln kn SA SB SC)∧Below w1.heap.size w1 w'):
 Calls Tryz.prog 11 #[.agg T,.agg (zLt (kn:Int) (ln:Int) e t a b o s),.string sk,.string m,.string r] w (zB w (fin (tTry (sgn (fun k=>Z k%8380417) kn ln e t a b o s hd SA SB SC m r) 814 0))):=by
 obtain⟨S,hS⟩:∃ S,S=sgn (fun k=>Z k%8380417) kn ln e t a b o s hd SA SB SC m r:=⟨_,rfl⟩;rw[←hS];have HTz:Ω ((Tryz.prog.info? 34).map (·.size)=some T.size):=⟨by rw[hT.size];kernel_rfl⟩;obtain⟨L,HL⟩:=xaa ((zLt (kn:Int) (ln:Int) e t a b o s):Array Value);have HLs:Ω ((Tryz.prog.info? 37).map (·.size)=some L.size):=⟨by rw[←HL.out];kernel_rfl⟩;obtain⟨W,hW⟩:=zev ((w.alloc (.cells T 34)).alloc (.cells L 37));obtain⟨r0,r1,hWs,b0⟩:=two hW;have TB:=ztb r0;have LB:=ztb r1;have GP:Ω (∀ w':World,Below W.heap.size W w'→Gp w'):=⟨fun w' hb=>hP.later (b0.trans (hb.mono b0.size))⟩;have BW:=ω b0;have HW:=ω hW;clear hW r0 r1 hWs b0 hP;have hrz:((r.size:Int) != 32)=false:=by rw[hr];rfl
 obtain⟨V,hV⟩:=xaa (fin (tTry S 814 0));have HV:=hV;rw[hV.out];have ekn:S.kn=kn:=by rw[hS];rfl
 have eln:S.ln=ln:=by rw[hS];rfl
 have ee:S.e=e:=by rw[hS];rfl
 have et:S.t=t:=by rw[hS];rfl
 have ea:S.a=a:=by rw[hS];rfl
 have eb:S.b=b:=by rw[hS];rfl
 have eo:S.o=o:=by rw[hS];rfl
 have es:S.s=s:=by rw[hS];rfl
 have eA:S.A=SA:=by rw[hS];rfl
 have eB:S.B=SB:=by rw[hS];rfl
 have eC:S.C=SC:=by rw[hS];rfl
 have hO:OKS T Z S:=⟨by rw[ekn,eln,ee,et,ea,eb,eo,es];exact h,hT,hK,by rw[hS];rfl,by rw[hS];exact samc.xbt _ _ _,by rw[hS];exact samc.xbt _ _ _,by
  rw[show S.rho=hd.extract 0 32 by rw[hS];rfl,size_extract _ _ _ (by omega) (by omega)]⟩
 have HSe:Ω (∀ w1:World,Calls Tryz.prog 26 #[.agg L,.string sk] w1 fun x w'=>(∃ g c g1 c1 g2 c2 g3 c3,x=.returned (.tuple #[.string hd,.slice (some ⟨g,0,none⟩) 3 c,.int .i64 0])∧TH w' g g1 c1 g2 c2 g3 c3 ln kn S.A S.B S.C)∧Below w1.heap.size w1 w'):=⟨fun w1=>by
  rw[←HL.out,eA,eB,eC];exact HSe0 w1⟩
 have HPr:Ω (∀ (gt g c g1 c1 g2 c2 g3 c3:Nat) (w1:World),Gp w1→w1.heap[gt]? = some (.cells T 34 (0,0))→TH w1 g g1 c1 g2 c2 g3 c3 ln kn S.A S.B S.C→Calls Tryz.prog 27 #[.pointer (some ⟨gt,0,none⟩),.agg L,.string hd,.slice (some ⟨g,0,none⟩) 3 c,.string m,.string r] w1 fun x w'=>(∃ gm cm ga ca gb cb gl cl,x=.returned (.agg (SG gt kn ln e t a b o s (.slice (some ⟨gm,0,none⟩) kn cm) (.slice (some ⟨ga,0,none⟩) ln ca) (.slice (some ⟨gb,0,none⟩) kn cb) (.slice (some ⟨gl,0,none⟩) kn cl) S.mu S.ms))∧MX w' (.slice (some ⟨gm,0,none⟩) kn cm) kn (fun _=>ln) (qX S.rho)∧Holds w' 0 (.slice (some ⟨ga,0,none⟩) ln ca) ln (fun i=>thereR S.ζ 8 (S.A i))∧Holds w' 0 (.slice (some ⟨gb,0,none⟩) kn cb) kn (fun i=>thereR S.ζ 8 (S.B i))∧Holds w' 0 (.slice (some ⟨gl,0,none⟩) kn cl) kn (fun i=>thereR S.ζ 8 (S.C i)))∧Below w1.heap.size w1 w'):=⟨fun gt g c g1 c1 g2 c2 g3 c3 w1 q1 q2 q3=>by
  rw[←HL.out];exact mgh.xtz Z kn ln e t a b o s gt g c g1 c1 g2 c2 g3 c3 S.A S.B S.C hd m r w1 S (by rw[eA,eB,eC];exact hS) hK hT q1 h hhd hm hr q2 q3⟩
 have HSi:Ω (∀ (gs gt gm cm ga ca gb cb gl cl:Nat) (w1:World),Gp w1→SGN T S gs gt gm cm ga ca gb cb gl cl w1→Calls Tryz.prog 28 #[.pointer (some ⟨gs,0,none⟩)] w1 fun e w'=>e=.returned V∧Below w1.heap.size w1 w'):=⟨fun gs gt gm cm ga ca gb cb gl cl w1 q1 q2=>by rw[←HV.out];exact mgg.xej Z gs gt gm cm ga ca gb cb gl cl w1 hO q1 q2⟩;have HSGN:Ω (∀ (w1:World) (gs gm cm ga ca gb cb gl cl:Nat),w1.heap[gs]? = some (.cells (SG w.heap.size kn ln e t a b o s (.slice (some ⟨gm,0,none⟩) kn cm) (.slice (some ⟨ga,0,none⟩) ln ca) (.slice (some ⟨gb,0,none⟩) kn cb) (.slice (some ⟨gl,0,none⟩) kn cl) S.mu S.ms) 69 (0,0))→w1.heap[w.heap.size]? = some (.cells T 34 (0,0))→MX w1 (.slice (some ⟨gm,0,none⟩) kn cm) kn (fun _=>ln) (qX S.rho)→Holds w1 0 (.slice (some ⟨ga,0,none⟩) ln ca) ln (fun i=>thereR S.ζ 8 (S.A i))→Holds w1 0 (.slice (some ⟨gb,0,none⟩) kn cb) kn (fun i=>thereR S.ζ 8 (S.B i))→Holds w1 0 (.slice (some ⟨gl,0,none⟩) kn cl) kn (fun i=>thereR S.ζ 8 (S.C i))→SGN T S gs w.heap.size gm cm ga ca gb cb gl cl w1):=⟨fun w1 gs gm cm ga ca gb cb gl cl q1 q2 q3 q4 q5 q6=>⟨by rw[ekn,eln,ee,et,ea,eb,eo,es];exact q1,q2,by rw[ekn,eln];exact q3,by rw[eln];exact q4,by rw[ekn];exact q5,by rw[ekn];exact q6⟩⟩;obtain⟨V1,V2,hV12⟩:=xjt (tTry S 814 0);have hV3:V=.tuple #[.string V1,.int .i64 V2]:=by rw[←HV.out];exact hV12
 subst hV3;obtain⟨mu,hmu⟩:=zev S.mu;obtain⟨ms,hms⟩:=zev S.ms;rw[hmu,hms]at HPr HSGN;obtain⟨hz,-⟩:=zero_of_info infoSgz;obtain⟨z,HZ⟩:=xaa (#[.pointer none,.int .i64 0,.int .i64 0,.int .i64 0,.int .i64 0,.int .i64 0,.int .i64 0,.int .i64 0,.int .i64 0,.slice none 0 0,.slice none 0 0,.slice none 0 0,.slice none 0 0,.string ⟨#[]⟩,.string ⟨#[]⟩]:Array Value);rw[HZ.out]at hz;have Hzs:Ω (z.size=15):=⟨by rw[←HZ.out];rfl⟩;rw[HL.out];clear hS ekn eln ee et ea eb eo es eA eB eC hO HSe0 hhd hr hmu hms HZ HV hV hV12 hK hT h hm;go_enter Tryz.func11,Tryz.ntmps11;go_wp2_with (first
  | (rw[HW.out])
  | (refine wpList_load_row rfl 37 _ rfl (w.heap.size+1) rfl 37 _ (0,0) _ (LB.out _ (Below.refl _ _)) zZ rfl HLs.out ?_))
 refine(HSe.out _).mono ?_;rintro x u1 ⟨⟨g,c,g1,c1,g2,c2,g3,c3,rfl,hth⟩,hb1⟩;have E1:Ω (Below W.heap.size W u1):=⟨hb1⟩;have HTH:=ω hth;clear hb1 hth;go_wp2_with (refine wpList_load_row rfl 37 _ rfl (w.heap.size+1) rfl 37 _ (0,0) _ (LB.out _ E1.out) zZ rfl HLs.out ?_);refine(HPr.out _ _ _ _ _ _ _ _ _ _ (GP.out _ E1.out) (TB.out _ E1.out) HTH.out).mono ?_;rintro x u2 ⟨⟨gm,cm,ga,ca,gb,cb,gl,cl,rfl,q3,q4,q5,q6⟩,hb2⟩;have E2:=zbt E1 hb2;obtain⟨R,HR⟩:=xaa (SG w.heap.size kn ln e t a b o s (.slice (some ⟨gm,0,none⟩) kn cm) (.slice (some ⟨ga,0,none⟩) ln ca) (.slice (some ⟨gb,0,none⟩) kn cb) (.slice (some ⟨gl,0,none⟩) kn cl) mu ms);have Ri:Ω ((Tryz.prog.info? 69).map (·.size)=some R.size):=⟨by rw[←HR.out];exact infoSg⟩;have Ro:Ω (R.all (·.oneCell')=true):=⟨by rw[←HR.out];exact xpt _ _ _ _ _ _ _ _ _ _ _ _ _ _ _ _ _ _ _ _ _ _ _⟩;have Rz:Ω (z.size=R.size):=⟨by rw[Hzs.out,←HR.out];rfl⟩;rw[HR.out];obtain⟨W6,hW6⟩:=zev (u2.alloc (.cells R 69));obtain⟨r6,hs6,b6⟩:=one hW6;have E6:=zbt E2 b6;have HS6:=ω (HSGN.out W6 u2.heap.size gm cm ga ca gb cb gl cl (by rw[HR.out];exact r6) (TB.out _ E6.out) (mlkd.xh4 q3 b6) (q4.later b6) (q5.later b6) (q6.later b6));have HW6:=ω hW6;clear hW6 r6 hs6 b6 q3 q4 q5 q6 hb2;go_wp2_with (first
  | (refine xam rfl 69 _ _ rfl R rfl rfl Ri.out (by exact Rz.out) Ro.out rfl ?_)
  | (rw[HW6.out]))
 refine(HSi.out _ _ _ _ _ _ _ _ _ _ _ (GP.out _ E6.out) HS6.out).mono ?_;rintro x u3 ⟨rfl,hb3⟩;have E3:Ω (Below w.heap.size w u3):=⟨BW.out.trans ((E6.out.trans (hb3.mono E6.out.size)).mono BW.out.size)⟩;clear hb3 hz;go_wp2_with fail;go_ret2;exact⟨rfl,E3.out⟩
theorem xey{T:Array Value}(Z:Nat→Int)(kn ln:Nat)(e t a b o s:Int)(sk m r:ByteArray)(w:World)(hK:KT T TL RL)(hT:nthere.ZT T Z)(hP:Gp w)(h:latt (kn:Int) (ln:Int) e t a b o s=true)(hm:m.size≤100000):
 Calls Tryz.prog 11 #[.agg T,.agg (zLt (kn:Int) (ln:Int) e t a b o s),.string sk,.string m,.string r] w (zB w (resI (fun k=>Z k%8380417) kn ln e t a b o s sk m r)):=by
 obtain⟨hk,hl,-⟩:=rksz.xby h;obtain⟨V,hV⟩:=xaa (resI (fun k=>Z k%8380417) kn ln e t a b o s sk m r);have HV:=hV;unfold resI at HV;rw[hV.out];have HTz:Ω ((Tryz.prog.info? 34).map (·.size)=some T.size):=⟨by rw[hT.size];kernel_rfl⟩;obtain⟨L,HL⟩:=xaa ((zLt (kn:Int) (ln:Int) e t a b o s):Array Value);have HLs:Ω ((Tryz.prog.info? 37).map (·.size)=some L.size):=⟨by rw[←HL.out];kernel_rfl⟩;obtain⟨W,hW⟩:=zev ((w.alloc (.cells T 34)).alloc (.cells L 37));obtain⟨r0,r1,hWs,b0⟩:=two hW;have TB:=ztb r0;have LB:=ztb r1;have GP:Ω (∀ w':World,Below W.heap.size W w'→Gp w'):=⟨fun w' hb=>hP.later (b0.trans (hb.mono b0.size))⟩;have BW:=ω b0;have HW:=ω hW;clear hW r0 r1 hWs b0 hV;by_cases hr:r.size=32
 ·rw[if_pos hr]at HV;have hrz:((r.size:Int) != 32)=false:=by rw[hr];rfl
  by_cases hsz:(sk.size:Int)=sz2 kn ln e
  ·have hhd:(sk.extract 0 128).size=128:=by
    rw[size_extract _ _ _ (by omega) ?_];have:=(kcon.xlj kn ln e sk.size).1 hsz;generalize 32*rbita.lb (2*e).toNat*ln=x at this;generalize 32*rbita.lb (2*e).toNat*kn=y at this;omega
   have HSe0:=fun w1=>kse.xiq kn ln e t a b o s sk w1 h hsz
   by_cases hok:okK sk kn ln e
   ·rw[if_pos ⟨hsz,hok⟩]at HV;have HSe1:∀ w1:World,Calls Tryz.prog 26 #[.agg (zLt (kn:Int) (ln:Int) e t a b o s),.string sk] w1 fun x w'=>(∃ g c g1 c1 g2 c2 g3 c3,x=.returned (.tuple #[.string (sk.extract 0 128),.slice (some ⟨g,0,none⟩) 3 c,.int .i64 0])∧TH w' g g1 c1 g2 c2 g3 c3 ln kn (rdS sk 128 (rbita.lb (e+e).toNat) e) (rdS sk (128+32*rbita.lb (e+e).toNat*ln) (rbita.lb (e+e).toNat) e) (rdS sk (128+32*rbita.lb (e+e).toNat*ln+32*rbita.lb (e+e).toNat*kn) 13 4096))∧Below w1.heap.size w1 w':=fun w1=>by
     refine(HSe0 w1).mono ?_;rintro x w' ⟨⟨-,v,rfl,hv⟩ | ⟨hno,-⟩,hb⟩
     ·obtain⟨g,c,g1,c1,g2,c2,g3,c3,rfl,H⟩:=kcon.xlr hv;exact⟨⟨g,c,g1,c1,g2,c2,g3,c3,rfl,H⟩,hb⟩
     ·exact absurd hok hno
    have h9:=xhx Z kn ln e t a b o s sk (sk.extract 0 128) m r _ _ _ w hK hT hP h hm hr hhd HSe1;rw[←HV.out];exact h9
   ·rw[if_neg (fun hh=>hok hh.2)]at HV;have HSe:Ω (∀ w1:World,Calls Tryz.prog 26 #[.agg L,.string sk] w1 (zB w1 (.tuple #[.string ⟨#[]⟩,.slice none 0 0,.int .i64 3]))):=⟨fun w1=>by
     rw[←HL.out];refine(HSe0 w1).mono ?_;rintro x w' ⟨⟨hyes,-⟩ | ⟨-,rfl⟩,hb⟩
     ·exact absurd hyes hok
     ·exact⟨rfl,hb⟩⟩
    rw[HL.out];clear HSe0 hhd hok hsz hr hK hT h hm hk hl;go_enter Tryz.func11,Tryz.ntmps11;go_wp2_with (first
     | (rw[HW.out])
     | (refine wpList_load_row rfl 37 _ rfl (w.heap.size+1) rfl 37 _ (0,0) _ (LB.out _ (Below.refl _ _)) zZ rfl HLs.out ?_))
    refine(HSe.out _).mono ?_;rintro x u1 ⟨rfl,hb1⟩;have E1:=zbt BW hb1;clear hb1;go_wp2_with fail;go_ret2;exact⟨by rw[←HV.out];rfl,E1.out⟩
  ·rw[if_neg (fun hh=>hsz hh.1)]at HV;have HSe:Ω (∀ w1:World,Calls Tryz.prog 26 #[.agg L,.string sk] w1 (zB w1 (.tuple #[.string ⟨#[]⟩,.slice none 0 0,.int .i64 3]))):=⟨fun w1=>by
    rw[←HL.out];exact kse.xlf (kn:Int) (ln:Int) e t a b o s sk w1 h hsz⟩
   rw[HL.out];clear hsz hr hK hT h hm hk hl;go_enter Tryz.func11,Tryz.ntmps11;go_wp2_with (first
    | (rw[HW.out])
    | (refine wpList_load_row rfl 37 _ rfl (w.heap.size+1) rfl 37 _ (0,0) _ (LB.out _ (Below.refl _ _)) zZ rfl HLs.out ?_))
   refine(HSe.out _).mono ?_;rintro x u1 ⟨rfl,hb1⟩;have E1:=zbt BW hb1;clear hb1;go_wp2_with fail;go_ret2;exact⟨by rw[←HV.out];rfl,E1.out⟩
 ·rw[if_neg hr]at HV;have hrz:((r.size:Int) != 32)=true:=by simp;omega
  rw[HL.out];clear hr hK hT h hm hk hl;go_enter Tryz.func11,Tryz.ntmps11;go_wp2_with (rw[HW.out]);go_ret2;exact⟨by rw[←HV.out];rfl,BW.out⟩
theorem xis{T:Array Value}(k l e t a b o s:Int)(sk x c r:ByteArray)(w:World)(hTs:T.size=465)(hP:Gp w)(F:ByteArray→ByteArray→Value)(hF:∀ m q,∃ (x:ByteArray) (c:Int),F m q=.tuple #[.string x,.int .i64 c])
 (HI:∀ (m q:ByteArray) (w1:World),Gp w1→m.size≤100000→(q=z32∨q=r)→Calls Tryz.prog 11 #[.agg T,.agg (zLt k l e t a b o s),.string sk,.string m,.string q] w1 (zB w1 (F m q))):
 Calls Tryz.prog 9 #[.agg T,.agg (zLt k l e t a b o s),.string sk,.string x,.string c,.string r] w (zB w (if c.size≤255∧x.size≤60000 then F (msg c x) (if r.size=0 then z32 else r) else .tuple #[.string ⟨#[]⟩,.int .i64 5])):=by
 have HTz:Ω ((Tryz.prog.info? 34).map (·.size)=some T.size):=⟨by rw[hTs];kernel_rfl⟩;obtain⟨L,HL⟩:=xaa ((zLt k l e t a b o s):Array Value);have HLs:Ω ((Tryz.prog.info? 37).map (·.size)=some L.size):=⟨by rw[←HL.out];kernel_rfl⟩;obtain⟨W,hW⟩:=zev ((w.alloc (.cells T 34)).alloc (.cells L 37));obtain⟨r0,r1,hWs,b0⟩:=two hW;have TB:=ztb r0;have LB:=ztb r1;have GP:Ω (∀ w':World,Below W.heap.size W w'→Gp w'):=⟨fun w' hb=>hP.later (b0.trans (hb.mono b0.size))⟩;have BW:=ω b0;have HW:=ω hW;have HIn0:∀ (m q:ByteArray) (w1:World),Gp w1→m.size≤100000→(q=z32∨q=r)→Calls Tryz.prog 11 #[.agg T,.agg L,.string sk,.string m,.string q] w1 (zB w1 (F m q)):=fun m q w1 q1 q2 q3=>by
  rw[←HL.out];exact HI m q w1 q1 q2 q3
 rw[HL.out];clear hW r0 r1 hWs b0 hP;by_cases hm:c.size≤255∧x.size≤60000
 ·rw[if_pos hm];have HMs:Ω (∀ w1:World,Calls Tryz.prog 13 #[.string c,.string x] w1 (zB w1 (.tuple #[.string (msg c x),.int .i64 0]))):=⟨fun w1=>xe4 c x w1 hm.1 hm.2⟩;have hms:(msg c x).size≤100000:=by rw[mlsb.xn1];omega
  obtain⟨M,hM⟩:=zev (msg c x);rw[hM]at HMs hms ⊢;by_cases hr:r.size=0
  ·rw[if_pos hr];have hre:r=⟨#[]⟩:=ByteArray.ext (Array.eq_empty_of_size_eq_zero hr);subst hre;have HRe:Ω (∀ w1:World,Calls Tryz.prog 25 #[.string ⟨#[0]⟩,.int .i64 32] w1 (zB w1 (.string z32))):=⟨fun w1=>shelfr.repeated ⟨#[0]⟩ 32 w1 (by decide) (by decide)⟩;have HIn:=ω (fun w1 q1=>HIn0 M z32 w1 q1 hms (Or.inl rfl));obtain⟨V1,V2,hV⟩:=hF M z32;rw[hV]at HIn ⊢;obtain⟨z,hz⟩:=zev z32;rw[hz]at HRe HIn;clear HIn0 hm hM hms hV hz hr HI hF;go_enter Tryz.func9,Tryz.ntmps9;go_wp2_with (rw[HW.out]);refine(HMs.out _).mono ?_;rintro y u1 ⟨rfl,hb1⟩;have E1:Ω (Below W.heap.size W u1):=⟨hb1⟩;clear hb1;go_wp2_with fail;refine(HRe.out _).mono ?_;rintro y u2 ⟨rfl,hb2⟩;have E2:=zbt E1 hb2;clear hb2;go_wp2_with (first
    | (refine wpList_load_row rfl 34 _ rfl w.heap.size rfl 34 T (0,0) _ (TB.out _ E2.out) zY rfl HTz.out ?_)
    | (refine wpList_load_row rfl 37 _ rfl (w.heap.size+1) rfl 37 L (0,0) _ (LB.out _ E2.out) zZ rfl HLs.out ?_))
   refine(HIn.out _ (GP.out _ E2.out)).mono ?_;rintro y u3 ⟨rfl,hb3⟩;have E3:Ω (Below w.heap.size w u3):=⟨BW.out.trans ((E2.out.trans (hb3.mono E2.out.size)).mono BW.out.size)⟩;clear hb3;go_wp2_with fail;go_ret2;exact⟨rfl,E3.out⟩
  ·rw[if_neg hr];have hne:=xn6 r (by omega);have HIn:=ω (fun w1 q1=>HIn0 M r w1 q1 hms (Or.inr rfl));obtain⟨V1,V2,hV⟩:=hF M r;rw[hV]at HIn ⊢;clear HIn0 hm hM hms hV hr HI hF;go_enter Tryz.func9,Tryz.ntmps9;go_wp2_with (rw[HW.out]);refine(HMs.out _).mono ?_;rintro y u2 ⟨rfl,hb2⟩;have E2:Ω (Below W.heap.size W u2):=⟨hb2⟩;clear hb2;go_wp2_with (first
    | (refine wpList_load_row rfl 34 _ rfl w.heap.size rfl 34 T (0,0) _ (TB.out _ E2.out) zY rfl HTz.out ?_)
    | (refine wpList_load_row rfl 37 _ rfl (w.heap.size+1) rfl 37 L (0,0) _ (LB.out _ E2.out) zZ rfl HLs.out ?_))
   refine(HIn.out _ (GP.out _ E2.out)).mono ?_;rintro y u3 ⟨rfl,hb3⟩;have E3:Ω (Below w.heap.size w u3):=⟨BW.out.trans ((E2.out.trans (hb3.mono E2.out.size)).mono BW.out.size)⟩;clear hb3;go_wp2_with fail;go_ret2;exact⟨rfl,E3.out⟩
 ·rw[if_neg hm];have HMs:Ω (∀ w1:World,Calls Tryz.prog 13 #[.string c,.string x] w1 (zE w1 (.tuple #[.string ⟨#[]⟩,.int .i64 5]))):=⟨fun w1=>xf9 c x w1 (by omega)⟩;clear HIn0 hm HI hF;go_enter Tryz.func9,Tryz.ntmps9;go_wp2_with (rw[HW.out]);refine(HMs.out _).mono ?_;rintro y u1 ⟨rfl,h1⟩;rw[h1];clear h1 u1;go_wp2_with fail;go_ret2;exact⟨rfl,BW.out⟩
theorem xej{T:Array Value}(Z:Nat→Int)(kn ln:Nat)(e t a b o s:Int)(sk x c r:ByteArray)(w:World)(hK:KT T TL RL)(hT:nthere.ZT T Z)(hP:Gp w)(h:latt (kn:Int) (ln:Int) e t a b o s=true):
 Calls Tryz.prog 9 #[.agg T,.agg (zLt (kn:Int) (ln:Int) e t a b o s),.string sk,.string x,.string c,.string r] w (zB w (mgr.resS (fun k=>Z k%8380417) kn ln e t a b o s sk x c r)):=
 xis (kn:Int) (ln:Int) e t a b o s sk x c r w hT.size hP (fun m q=>resI (fun k=>Z k%8380417) kn ln e t a b o s sk m q) (fun m q=>xik _ _ _ _ _ _ _ _ _ _ m q) fun m q w1 q1 q2 _=>xey Z kn ln e t a b o s sk m q w1 hK hT q1 h q2
end mgi
namespace rgs
open arr mem stil polys polt pols nttl rndm saml spok rsdoc mlkm mlkb mlsm keca kstep rkpb rkrw rkse qsec mgd mgr mgi
open rbitb rbitc
theorem xis{T:Array Value}(k l e t a b o s:Int)(sk x c r:ByteArray)(w:World)(hTs:T.size=465)(F:ByteArray→ByteArray→Value)(hF:∀ m q,∃ (x:ByteArray) (c:Int),F m q=.tuple #[.string x,.int .i64 c])
 (HI:∀ (m q:ByteArray) (w1:World),m.size≤100000→(q=z32∨q=r)→Calls Tryz.prog 12 #[.agg T,.agg (zLt k l e t a b o s),.string sk,.string m,.string q] w1 (zB w1 (F m q))):
 Calls Tryz.prog 10 #[.agg T,.agg (zLt k l e t a b o s),.string sk,.string x,.string c,.string r] w (zB w (if c.size≤255∧x.size≤60000 then F (msg c x) (if r.size=0 then z32 else r) else .tuple #[.string ⟨#[]⟩,.int .i64 5])):=by
 have HTz:Ω ((Tryz.prog.info? 34).map (·.size)=some T.size):=⟨by rw[hTs];kernel_rfl⟩;obtain⟨L,HL⟩:=xaa ((zLt k l e t a b o s):Array Value);have HLs:Ω ((Tryz.prog.info? 37).map (·.size)=some L.size):=⟨by rw[←HL.out];kernel_rfl⟩;obtain⟨W,hW⟩:=zev ((w.alloc (.cells T 34)).alloc (.cells L 37));obtain⟨r0,r1,hWs,b0⟩:=two hW;have TB:=ztb r0;have LB:=ztb r1;have BW:=ω b0;have HW:=ω hW;have HIn0:∀ (m q:ByteArray) (w1:World),m.size≤100000→(q=z32∨q=r)→Calls Tryz.prog 12 #[.agg T,.agg L,.string sk,.string m,.string q] w1 (zB w1 (F m q)):=fun m q w1 q2 q3=>by
  rw[←HL.out];exact HI m q w1 q2 q3
 rw[HL.out];clear hW r0 r1 hWs b0;by_cases hm:c.size≤255∧x.size≤60000
 ·rw[if_pos hm];have HMs:Ω (∀ w1:World,Calls Tryz.prog 14 #[.string c,.string x] w1 (zB w1 (.tuple #[.string (msg c x),.int .i64 0]))):=⟨fun w1=>r13m.xe4 c x w1 hm.1 hm.2⟩;have hms:(msg c x).size≤100000:=by rw[mlsb.xn1];omega
  obtain⟨M,hM⟩:=zev (msg c x);rw[hM]at HMs hms ⊢;by_cases hr:r.size=0
  ·rw[if_pos hr];have hre:r=⟨#[]⟩:=ByteArray.ext (Array.eq_empty_of_size_eq_zero hr);subst hre;obtain⟨i0,hi0,hz0,hz1,hz2⟩:=parts infoByte;have HI:=ω (And.intro hi0 (And.intro hz0 (And.intro hz1 hz2)));have hcv0:∀ (u:World) (g:Nat),u.ownsRow g 5 1 (.slice (some ⟨g,0,none⟩) 32 32) 32 (madeCells (Value.int .u8 0).cells (32*1)).toList→(convert 49 9 (.slice (some ⟨g,0,none⟩) 32 32)).run Tryz.prog u=.ok (.string z32) u:=fun u g hown=>by
    have h9:=run_convert_bytes_back (P:=Tryz.prog) u 49 9 5 ⟨g,0,none⟩ 32 (List.replicate 32 0) Tryz.underlying49 Tryz.underlying5 Tryz.underlying9 (fun j hj=>by
     have hj2:j<32:=by simpa using hj
     have h:=hown.cellAt j hj2;have e:(madeCells (Value.int .u8 0).cells (32*1)).toList=List.replicate 32 (.int .u8 0):=by kernel_rfl
     rw[e,List.getElem?_replicate,if_pos hj2]at h;rw[Addr.add_mid,Nat.zero_add,h];exact congrArg (fun (u:UInt8)=>some (Value.int .u8 (u.toNat:Int))) (List.getElem_replicate hj).symm)
    exact h9
   have HIn:=ω (fun w1=>HIn0 M z32 w1 hms (Or.inl rfl));obtain⟨V1,V2,hV⟩:=hF M z32;rw[hV]at HIn ⊢;obtain⟨z,hz⟩:=zev z32;rw[hz]at HIn hcv0;have Hcv:=ω hcv0;clear HIn0 hm hM hms hV hz hr hF hcv0 hi0 hz0 hz1 hz2;go_enter Tryz.func10,Tryz.ntmps10;go_wp2_with (rw[HW.out]);refine(HMs.out _).mono ?_;rintro y u1 ⟨rfl,hb1⟩;have E1:Ω (Below W.heap.size W u1):=⟨hb1⟩;clear hb1;go_wp2_with (at_make;refine wpList_make_full _ rfl (.const (.int .i64 32)) (.const (.int .i64 32)) 49 rfl u1.heap.size 5 i0 (.int .u8 0) 1 Tryz.underlying49 HI.out.1 HI.out.2.1 HI.out.2.2.1 .i64 .i64 32 32 32 rfl rfl rfl rfl (by rw[HI.out.2.2.2];decide) (by decide) (Nat.le_refl _) ?_);intro u2 hown hgr;have hb2:Below u1.heap.size u1 u2:=(Below.refl _ _).grown hgr (Nat.le_refl _) (fun k hk=>by simp at hk);have E2:=zbt E1 hb2;have hcv:=Hcv.out u2 u1.heap.size hown;clear hb2 hown hgr;go_wp2_with (first
    | (refine wpList_load_row rfl 34 _ rfl w.heap.size rfl 34 T (0,0) _ (TB.out _ E2.out) zY rfl HTz.out ?_)
    | (refine wpList_load_row rfl 37 _ rfl (w.heap.size+1) rfl 37 L (0,0) _ (LB.out _ E2.out) zZ rfl HLs.out ?_))
   refine(HIn.out _).mono ?_;rintro y u3 ⟨rfl,hb3⟩;have E3:Ω (Below w.heap.size w u3):=⟨BW.out.trans ((E2.out.trans (hb3.mono E2.out.size)).mono BW.out.size)⟩;clear hb3;go_wp2_with fail;go_ret2;exact⟨rfl,E3.out⟩
  ·rw[if_neg hr];have hne:=xn6 r (by omega);have HIn:=ω (fun w1=>HIn0 M r w1 hms (Or.inr rfl));obtain⟨V1,V2,hV⟩:=hF M r;rw[hV]at HIn ⊢;clear HIn0 hm hM hms hV hr HI hF;go_enter Tryz.func10,Tryz.ntmps10;go_wp2_with (rw[HW.out]);refine(HMs.out _).mono ?_;rintro y u2 ⟨rfl,hb2⟩;have E2:Ω (Below W.heap.size W u2):=⟨hb2⟩;clear hb2;go_wp2_with (first
    | (refine wpList_load_row rfl 34 _ rfl w.heap.size rfl 34 T (0,0) _ (TB.out _ E2.out) zY rfl HTz.out ?_)
    | (refine wpList_load_row rfl 37 _ rfl (w.heap.size+1) rfl 37 L (0,0) _ (LB.out _ E2.out) zZ rfl HLs.out ?_))
   refine(HIn.out _).mono ?_;rintro y u3 ⟨rfl,hb3⟩;have E3:Ω (Below w.heap.size w u3):=⟨BW.out.trans ((E2.out.trans (hb3.mono E2.out.size)).mono BW.out.size)⟩;clear hb3;go_wp2_with fail;go_ret2;exact⟨rfl,E3.out⟩
 ·rw[if_neg hm];have HMs:Ω (∀ w1:World,Calls Tryz.prog 14 #[.string c,.string x] w1 (zE w1 (.tuple #[.string ⟨#[]⟩,.int .i64 5]))):=⟨fun w1=>r13m.xf9 c x w1 (by omega)⟩;clear HIn0 hm HI hF;go_enter Tryz.func10,Tryz.ntmps10;go_wp2_with (rw[HW.out]);refine(HMs.out _).mono ?_;rintro y u1 ⟨rfl,h1⟩;rw[h1];clear h1 u1;go_wp2_with fail;go_ret2;exact⟨rfl,BW.out⟩
theorem xej{T:Array Value}(Z:Nat→Int)(kn ln:Nat)(e t a b o s:Int)(sk x c r:ByteArray)(w:World)(hK:KT T TL RL)(hT:nthere.ZT T Z)(h:latt (kn:Int) (ln:Int) e t a b o s=true):
 Calls Tryz.prog 10 #[.agg T,.agg (zLt (kn:Int) (ln:Int) e t a b o s),.string sk,.string x,.string c,.string r] w (zB w (mgr.resS (fun k=>Z k%8380417) kn ln e t a b o s sk x c r)):=
 xis (kn:Int) (ln:Int) e t a b o s sk x c r w hT.size (fun m q=>resI (fun k=>Z k%8380417) kn ln e t a b o s sk m q) (fun m q=>xik _ _ _ _ _ _ _ _ _ _ m q) fun m q w1 q2 _=>rgi.xey Z kn ln e t a b o s sk m q w1 hK hT h q2
end rgs
end Go.Proofs.YtgahcabgmfbhdaaGreatDoor
