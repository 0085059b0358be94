/-
  What package bits' load returns: 256 numbers of a fixed width out of bytes. Conditions: the width is
-/
import Derived.Test.YtgahcabgmfbhdaaGreatDoorZt02
import Derived.Test.YtgahcabgmfbhdaaGreatDoorZt16
import Derived.Test.YtgahcabgmfbhdaaGreatDoorZt07
import Derived.Test.YtgahcabgmfbhdaaGreatDoorZt01
import Derived.Great.Frames
import Derived.BigRegion
set_option maxRecDepth 100000
set_option maxHeartbeats 16000000
set_option linter.unusedSimpArgs false
set_option linter.unusedVariables false
open Go Go.RowKit
namespace Go.Proofs.YtgahcabgmfbhdaaGreatDoor
namespace pload
open arr mem stil bitm bitn polys rbitb rbitc rbitd rbitf
theorem xqw(h wd k:Nat)(hh:h<4294967296)(hk : 2 ^ wd-1=k)(hk2:k<4294967296):bits .and .i64 (h:Int) (k:Int)=((h%2 ^ wd:Nat):Int):=by
 have h0:h%2 ^ wd≤h:=Nat.mod_le _ _;show IntKind.i64.wrap ((BitVec.ofInt 64 (h:Int) &&& BitVec.ofInt 64 (k:Int)).toNat:Int)=_;rw[BitVec.ofInt_natCast,BitVec.ofInt_natCast,BitVec.toNat_and,BitVec.toNat_ofNat,BitVec.toNat_ofNat,Nat.mod_eq_of_lt (by omega),Nat.mod_eq_of_lt (by omega),←hk,Nat.and_two_pow_sub_one_eq_mod,IntKind.wrap_i64];omega
theorem xsr(s:ByteArray)(wd:Nat)(w:World)(hw0 : 1≤wd)(hw:wd≤23)(hs:s.size=32*wd):
 Calls Tryz.prog 157 #[.string s,.int .i64 (wd:Int)] w (zB w (.agg (FL .i64 256 (up s wd)))):=by
 unfold up;obtain⟨hz,hsize⟩:=zero_of_info infoP;obtain⟨z,HZ⟩:=xaa (FL .i64 256 fun _=>0);rw[HZ.out]at hz;have Hzs:=zfs HZ;obtain⟨N,HN⟩:=xaa (pk 8 (bys s));rw[HN.out];obtain⟨R,HR⟩:=xaa (FL .i64 256 fun i=>((bt N wd i wd:Nat):Int));have Ri:=zri HR hsize;have Ro:=zro HR;have Rz:=zrz Hzs HR;rw[HR.out];obtain⟨W,hW⟩:=zev ((w.alloc (.cells z 109)).alloc (.cells z 109));have HW:=ω hW;have hWs:W.heap.size=w.heap.size+2:=by rw[←hW,size_alloc,size_alloc]
 have BW:Ω (Below w.heap.size w W):=⟨by rw[←hW];exact((Below.refl _ _).alloc (Nat.le_refl _) _).alloc (by rw[size_alloc];omega) _⟩;have R0:Ω (W.heap[w.heap.size]? = some (.cells z 109 (0,0))):=⟨by rw[←hW,xaj _ _ _ (by rw[size_alloc];omega)];exact xae _ _ _ rfl⟩;have R1:Ω (W.heap[w.heap.size+1]? = some (.cells (FL .i64 256 (pt (fun i=>((bt N wd i wd:Nat):Int)) (fun _=>0) 0)) 109 (0,0))):=⟨by rw[←hW,xba,HZ.out];exact xae _ _ _ (by rw[size_alloc])⟩;have Hby:Ω (∀ a,a<32*wd→(bys s).getD a 0=N / 2 ^ (8*a)%2 ^ 8):=⟨fun a ha=>by
  rw[←HN.out,xe8 8 (bys s) (xao s) a (by rw[xa0];omega),List.getD_eq_getElem?_getD,List.getElem?_eq_getElem (by rw[xa0];omega)];rfl⟩
 have pw:=xfb wd 23 hw;obtain⟨q,hq⟩:=zev (2 ^ wd);have hq0 : 0<q:=by rw[←hq];exact Nat.two_pow_pos _
 rw[hq]at pw;obtain⟨q1,hq1⟩:=zev (q-1);have Hq:=ω hq;have Hq1:Ω (2 ^ wd-1=q1):=⟨by rw[hq,hq1]⟩;have fq:(2:Int) ^ wd=(q:Int):=by rw[←hq,Int.natCast_pow];rfl
 have fqw:IntKind.i64.wrap ((2:Int) ^ wd)=(q:Int):=by rw[fq,IntKind.wrap_i64];omega
 have fqw2:IntKind.i64.wrap (1*(2:Int) ^ wd)=(q:Int):=by rw[Int.one_mul];exact fqw
 have fq1:IntKind.i64.wrap ((q:Int)-1)=(q1:Int):=zwi;have Hq1b:Ω (q1<8388608):=⟨by omega⟩;have Hfq:=ω fq;clear hW hsize hq hq1 pw hq0 fq;go_enter Tryz.func157,Tryz.ntmps157;go_wp2_with (rw[HW.out]);clear hz;go_loopw [6,7,8,10] (fun v k c d wr=>∃ i a h j:Nat,i≤256∧wd*i≤8*a∧a≤32*wd∧N%2 ^ (8*a) / 2 ^ (wd*i)=h∧j+wd*i=8*a∧j<8∧v=.int .i64 (h:Int)∧k=.int .i64 (j:Int)∧c=.int .i64 (a:Int)∧d=.int .i64 (i:Int)∧Ω (At (w.heap.size+1) (FL .i64 256 (pt (fun i=>((bt N wd i wd:Nat):Int)) (fun _=>0) i)) 109 W wr)) (fun _ _ _ d _=>256-(intOf d).toNat)
 case atStart=>exact⟨0,0,0,0,Nat.zero_le _,by omega,by omega,by simp[Nat.mod_one],by omega,by omega,rfl,rfl,rfl,rfl,⟨At.refl R1.out⟩⟩
 case round=>
  obtain⟨i,a,h,j,hi,hb1,ha,hh,hj,hj8,rfl,rfl,rfl,rfl,A0⟩:=hrel;by_cases hlt:i<256
  ·have hiz:(i:Int)<256:=by omega
   obtain⟨m,hm⟩:=zev (wd*i);have hmM:m+wd≤256*wd:=by
    have h1:wd*(i+1)≤wd*256:=Nat.mul_le_mul_left _ hlt;rw[Nat.mul_succ]at h1;omega
   rw[hm]at hb1 hh hj;have Hm:=ω (And.intro hm hmM);have hjb:j<wd+8:=by omega
   clear hm hmM hj8;go_wp2_with fail;go_loopw [6,7,8] (fun v k c wr=>∃ a h j:Nat,m≤8*a∧a≤32*wd∧N%2 ^ (8*a) / 2 ^ m=h∧j+m=8*a∧j<wd+8∧v=.int .i64 (h:Int)∧k=.int .i64 (j:Int)∧c=.int .i64 (a:Int)∧Ω (At (w.heap.size+1) (FL .i64 256 (pt (fun i=>((bt N wd i wd:Nat):Int)) (fun _=>0) i)) 109 W wr)) (fun _ k _ _=>wd+8-(intOf k).toNat)
   case atStart=>exact⟨a,h,j,hb1,ha,hh,hj,hjb,rfl,rfl,rfl,A0⟩
   case round=>
    clear A0 hb1 ha hh hj hjb;obtain⟨a,h,j,hb1,ha,hh,hj,hjb,rfl,rfl,rfl,A0⟩:=hrel;have hhl:h<2 ^ j:=by rw[←hh,show j=8*a-m by omega];exact xht N (8*a) m hb1
    have p31:=xfb j 31 (by omega);have hh31:h<4294967296:=by omega
    by_cases hlt2:j<wd
    ·have hjz:(j:Int)<(wd:Int):=by omega
     have haM:a<32*wd:=by have:=Hm.out.2;omega
     obtain⟨β,hβ⟩:∃ β,(bys s).getD a 0 = β := ⟨_,rfl⟩;have hβN:=Hby.out a haM;rw[hβ]at hβN;have hβ8 : β < 256:=by rw[hβN];exact Nat.mod_lt _ (by decide)
     have hidx:=byte_of s a β (by omega) hβ;obtain⟨d,hd⟩:=zev (β * 2 ^ j);have hor:=xof N (8*a) m 8 hb1;rw[hh,←hβN,show 8*a-m=j by omega,hd]at hor;obtain⟨h',hh'⟩:∃ h',N%2 ^ (8*a+8) / 2 ^ m=h':=⟨_,rfl⟩;rw[hh']at hor;have p22:=xfb j 22 (by omega);have hd31:d<4294967296:=by
      rw[←hd];have h1 : β * 2 ^ j≤255*2 ^ j:=Nat.mul_le_mul_right _ (by omega);omega
     have fd:(β : Int)*2 ^ j=(d:Int):=by rw[←hd,Int.natCast_mul,Int.natCast_pow];rfl
     have fdw:IntKind.i64.wrap ((β : Int)*2 ^ j)=(d:Int):=by rw[fd,IntKind.wrap_i64];omega
     have V:=xge h d (by omega) (by omega);rw[hor]at V;have Hh':Ω (N%2 ^ (8*(a+1)) / 2 ^ m=h'):=⟨by rw[Nat.mul_succ];exact hh'⟩;have hj64:j<64:=by omega
     have fj8:IntKind.i64.wrap ((j:Int)+8)=((j+8:Nat):Int):=zwi;clear hβ hβN hd hor hh' hhl p31 p22 fd hh hh31 hd31;go_wp2_with fail;go_roundw
     case rel=>exact⟨a+1,h',j+8,by omega,by omega,Hh'.out,by omega,by omega,by go_num,by go_num,by go_num,A0⟩
     case measure=>simp[intOf];omega
    ·have hjz:¬ (j:Int)<(wd:Int):=by omega
     obtain⟨u,hu⟩:=zev (h%2 ^ wd);have V:=xqw h wd q1 hh31 Hq1.out (by have:=Hq1b.out;omega);rw[hu]at V;have Hu:Ω ((u:Int)=((bt N wd i wd:Nat):Int)):=⟨by
      have e:=xnw N (8*a) m wd (by omega);unfold bt;rw[Hm.out.1,←e,hh,hu]⟩
     obtain⟨h2,hh2⟩:=zev (h / 2 ^ wd);have Hh2:Ω (N%2 ^ (8*a) / 2 ^ (wd*(i+1))=h2):=⟨by rw[Nat.mul_succ,Hm.out.1,Nat.pow_add,←Nat.div_div_eq_div_mul,hh,hh2]⟩;have fh2:(h:Int) / 2 ^ wd=(h2:Int):=by rw[←hh2];simp
     have fh3:(h:Int) / (q:Int)=(h2:Int):=by rw[←Hfq.out];exact fh2
     have fjw:IntKind.i64.wrap ((j:Int)-(wd:Int))=((j-wd:Nat):Int):=zwi;have hwd64:wd<64:=by omega
     clear hu hh2 hh hhl p31;go_wp2_with ((with_reducible refine xaf A0 rfl _ _ _ rfl rfl ?_);refine⟨_,_,_,rfl,rfl,rfl,(by rw[xad];exact hlt),?_⟩;intro wn HRn;rw[xap,xa4 (fun i=>((bt N wd i wd:Nat):Int)) _ _ _ Hu.out]at HRn);go_roundw
     case rel=>exact⟨i+1,a,h2,j-wd,by omega,by rw[Nat.mul_succ,Hm.out.1];omega,ha,Hh2.out,by rw[Nat.mul_succ,Hm.out.1];omega,by omega,by go_num,by go_num,rfl,by go_num,HRn⟩
     case measure=>simp[intOf];omega
  ·obtain rfl:i=256:=by omega
   simp only[Int.cast_ofNat_Int];rw[xa8,HR.out]at A0;have Hrow:=ω A0.out.row;have Hres:Ω (wr.heap[w.heap.size]? = some (.cells z 109 (0,0))):=⟨A0.out.other (by omega) (by omega) R0.out⟩;have HB:Ω (Below w.heap.size w wr):=⟨BW.out.trans (A0.out.below (by omega) (by omega))⟩;clear A0 hh;go_wp2_with (first
    | (refine wpList_load_row rfl 109 _ rfl (w.heap.size+1) rfl 109 R (0,0) _ Hrow.out zX rfl Ri.out ?_)
    | (refine wpList_store_row rfl 109 _ _ rfl w.heap.size R rfl rfl 109 _ Hres.out Ri.out Rz.out Ro.out ?_))
   refine bodyPost_ret_by (v:=.agg R) (results_cell_row rfl _ _ w.heap.size 109 _ (0,0) _ rfl (setRow_heap _ _ _ _ _ _ Hres.out) zX rfl Ri.out) rfl ?_;exact⟨rfl,HB.out.trans (below_setRow _ _ _ (Nat.le_refl _))⟩
end pload
namespace punp
open arr mem stil bitm polys fldm rbita rbitb rbitc rbitd rbite rbitf
theorem xgz(s:ByteArray)(most:Int)(w:World)(h1 : 1≤most)(h2:most<8380417)(hs:s.size=32*lb most.toNat):
 Calls Tryz.prog 111 #[.string s,.int .i64 most] w (zB w (if inb (up s (lb most.toNat)) most then .tuple #[.agg (FL .i64 256 (up s (lb most.toNat))),.int .i64 0] else .tuple #[.agg (FL .i64 256 fun _=>0),.int .i64 3])):=by
 obtain⟨hz,hsize⟩:=zero_of_info infoP;have HM:∀ w1:World,Calls Tryz.prog 151 #[.int .i64 most] w1 (zE w1 (.bool true)):=fun w1=>by
  have h:=psmall.xnz most w1;rw[decide_eq_true ⟨h1,h2⟩]at h;exact h
 have hl:=ω (fun w1=>plong.xcn most (by omega) w1);have hl1:=bitp.xj7 most h1 h2;have hl23:=xe3 most (by omega);obtain⟨wd,hwd⟩:=zev (lb most.toNat);rw[hwd]at hs hl hl1 hl23 ⊢;have HN:=ω (fun w1=>pload.xsr s wd w1 hl1 hl23 hs);have HS:=ω (fun w1=>psmall.xb1 wd (by omega) w1);obtain⟨f,Hf⟩:=xaa (up s wd);rw[Hf.out]at HN;rw[Hf.out];have Hpos:Ω (∀ i,0≤f i):=⟨fun i=>by rw[←Hf.out];exact Int.natCast_nonneg _⟩;have Hidx:Ω (∀ i:Nat,i<256→∀ w1,(Instr.index 109 (.agg (FL .i64 256 f)) (.int .i64 (i:Int))).run Tryz.prog w1=.ok (.int .i64 (f i)) w1):=⟨fun i hi w1=>xb5 (P:=Tryz.prog) zX (by kernel_rfl) (by kernel_rfl) (by kernel_rfl) _ _ i hi (xa9 .i64 256 f i hi) w1⟩;obtain⟨z,HZ⟩:=xaa (FL .i64 256 fun _=>0);rw[HZ.out]at hz ⊢;have Hzs:=zfs HZ;have Zi:=zsz Hzs hsize;have Zo:=zro HZ;have Gs:Ω ((FL .i64 256 f).size=256):=⟨xad _ _ _⟩;have Go:Ω ((FL .i64 256 f).all (·.oneCell')=true):=⟨xbf _ _ _⟩;obtain⟨G,HG⟩:=xaa (FL .i64 256 f);rw[HG.out]at HN Hidx Gs Go ⊢;have Gi:=zsz Gs hsize;obtain⟨V,HV⟩:=xaa (if inb f most then Value.tuple #[.agg G,.int .i64 0] else .tuple #[.agg z,.int .i64 3]);rw[HV.out];obtain⟨W,hW⟩:=zev (w.alloc (.cells z 109));have HW:=ω hW;have BW:=zba hW;have hrow:=zhp hW;have hWs:Ω (W.heap.size=w.heap.size+1):=⟨by rw[←hW,size_alloc]⟩;obtain⟨n,hn⟩:=zev (32*wd);rw[hn]at HS;have fne:((s.size:Int) != (n:Int))=false:=by rw[show (s.size:Int)=(n:Int) by omega];simp
 clear hW hsize hwd hs hn Hf HZ HG h1 h2 hl1;go_enter Tryz.func111,Tryz.ntmps111;go_wp2_with (rw[HW.out]);refine(HM _).mono ?_;rintro e W ⟨rfl,rfl⟩;go_wp2_with fail;refine(hl.out _).mono ?_;rintro e W ⟨rfl,rfl⟩;go_wp2_with fail;refine(HS.out _).mono ?_;rintro e W ⟨rfl,rfl⟩;go_wp2_with fail;refine(hl.out _).mono ?_;rintro e W ⟨rfl,rfl⟩;go_wp2_with fail;refine(HN.out _).mono ?_;rintro e w2 ⟨rfl,hb2⟩;have hrow2:Ω (w2.heap[w.heap.size]? = some (.cells z 109 (0,0))):=⟨(hb2.block w.heap.size (by rw[hWs.out];omega)).trans hrow.out⟩;have B2:Ω (Below w.heap.size w w2):=⟨BW.out.trans (hb2.mono (by rw[hWs.out];omega))⟩;have hlt2:w.heap.size<w2.heap.size:=by have:=hb2.size;rw[hWs.out]at this;omega
 obtain⟨W3,hW3⟩:=zev (w2.alloc (.cells G 109));have HW3:=ω hW3;have r3:=zhp hW3;have r0:Ω (W3.heap[w.heap.size]? = some (.cells z 109 (0,0))):=⟨by rw[←hW3,xaj _ _ _ hlt2];exact hrow2.out⟩;have B3:Ω (Below w.heap.size w W3):=⟨by rw[←hW3];exact B2.out.alloc (by omega) _⟩;clear hb2 hW3 hlt2;go_wp2_with (first
  | ((with_reducible refine xam rfl 109 _ _ rfl G ?hx ?hy ?hi ?ho ?h1 ?hn ?_);(case hx=>rfl);(case hy=>rfl);(case hi=>exact Gi.out);(case ho=>rw[Hzs.out,Gs.out]);(case h1=>exact Go.out);(case hn=>rfl);rw[HW3.out])
  | (refine wpList_load_row rfl 109 _ rfl w2.heap.size rfl 109 G (0,0) _ r3.out zX rfl Gi.out ?_))
 go_loopw [26] (fun c wr=>∃ j:Nat,j≤256∧c=.int .i64 (j:Int)∧Ω (∀ i,i<j→f i≤most)∧W3=wr) (fun c _=>256-(intOf c).toNat)
 case atStart=>exact⟨0,Nat.zero_le _,rfl,⟨fun i hi=>by omega⟩,rfl⟩
 case round=>
  obtain⟨j,hj,rfl,Hin,rfl⟩:=hrel;by_cases hlt:j<256
  ·have hjz:(j:Int)<256:=by omega
   have hidx:=Hidx.out j hlt;obtain⟨x,hx⟩:=zev (f j);rw[hx]at hidx;by_cases hbad:most<x
   ·have hV:Ω (V=.tuple #[.agg z,.int .i64 3]):=⟨by rw[←HV.out,if_neg];intro hall;have:=hall j hlt;rw[hx]at this;omega⟩;clear hx;go_wp2_with (refine wpList_store_row rfl 109 _ _ rfl w.heap.size z rfl rfl 109 _ r0.out Zi.out rfl Zo.out ?_);refine bodyPost_ret_by (v:=.tuple #[.agg z,.int .i64 3]) (rbite.results_cell_tmp rfl _ _ w.heap.size 109 _ (0,0) _ rfl (setRow_heap _ _ _ _ _ _ r0.out) zX rfl Zi.out _ rfl) rfl ?_;exact⟨by rw[hV.out],B3.out.trans (below_setRow _ _ _ (Nat.le_refl _))⟩
   ·have Hin2:Ω (∀ i,i<j+1→f i≤most):=⟨fun i hi=>by
     by_cases e:i=j
     ·subst e;rw[hx];omega
     ·exact Hin.out i (by omega)⟩
    clear hx;go_wp2_with fail;go_roundw
    case rel=>exact⟨j+1,by omega,by go_num,Hin2,trivial⟩
    case measure=>simp[intOf];omega
  ·obtain rfl:j=256:=by omega
   simp only[Int.cast_ofNat_Int];have hV:Ω (V=.tuple #[.agg G,.int .i64 0]):=⟨by rw[←HV.out,if_pos];exact fun i hi=>⟨Hpos.out i,Hin.out i hi⟩⟩;clear hj hlt;go_wp2_with (first
    | (refine wpList_load_row rfl 109 _ rfl w2.heap.size rfl 109 G (0,0) _ r3.out zX rfl Gi.out ?_)
    | (refine wpList_store_row rfl 109 _ _ rfl w.heap.size G rfl rfl 109 _ r0.out Gi.out (by rw[Hzs.out,Gs.out]) Go.out ?_))
   refine bodyPost_ret_by (v:=.tuple #[.agg G,.int .i64 0]) (rbite.results_cell_tmp rfl _ _ w.heap.size 109 _ (0,0) _ rfl (setRow_heap _ _ _ _ _ _ r0.out) zX rfl Gi.out _ rfl) rfl ?_;exact⟨by rw[hV.out],B3.out.trans (below_setRow _ _ _ (Nat.le_refl _))⟩
end punp
namespace puns
open arr mem stil bitm polys fldm rbita rbitb rbitc rbitd rbite rbitf fld1 rbitg
theorem xl5(s:ByteArray)(low high:Int)(w:World)(c:Int)(h1 : 0≤low)(h2 : 1≤high)(h3:low<4190208)(h4:high<4190208)(hc:c≠0)
 (hu:∀ w1:World,Calls Tryz.prog 111 #[.string s,.int .i64 (low+high)] w1 (zB w1 (.tuple #[.agg (FL .i64 256 fun _=>0),.int .i64 c]))):
 Calls Tryz.prog 58 #[.string s,.int .i64 low,.int .i64 high] w (zB w (.tuple #[.agg (FL .i64 256 fun _=>0),.int .i64 c])):=by
 have HU:=ω hu;clear hu;obtain⟨hz,hsize⟩:=zero_of_info infoP;obtain⟨z,HZ⟩:=xaa (FL .i64 256 fun _=>0);rw[HZ.out]at hz HU ⊢;have Hzs:=zfs HZ;have Zi:=zsz Hzs hsize;have Zo:=zro HZ;obtain⟨W,hW⟩:=zev (w.alloc (.cells z 109));have HW:=ω hW;have BW:=zba hW;have hrow:=zhp hW;have hWs:Ω (W.heap.size=w.heap.size+1):=⟨by rw[←hW,size_alloc]⟩;have HM:∀ w1:World,Calls Tryz.prog 110 #[.int .i64 low,.int .i64 high] w1 (zE w1 (.bool true)):=fun w1=>by
  have h:=psmall.xjq low high w1;rw[decide_eq_true ⟨h1,h3,h2,h4⟩]at h;exact h
 have fl2:IntKind.i64.wrap (low+high)=low+high:=zwi;have fc:(c != 0)=true:=by simpa using hc
 clear hW hsize HZ h1 h2 h3 h4 hc;go_enter Tryz.func58,Tryz.ntmps58;go_wp2_with (rw[HW.out]);refine(HM _).mono ?_;rintro e W ⟨rfl,rfl⟩;go_wp2_with fail;refine(HU.out _).mono ?_;rintro e w2 ⟨rfl,hb2⟩;have hrow2:Ω (w2.heap[w.heap.size]? = some (.cells z 109 (0,0))):=⟨(hb2.block w.heap.size (by rw[hWs.out];omega)).trans hrow.out⟩;have B2:Ω (Below w.heap.size w w2):=⟨BW.out.trans (hb2.mono (by rw[hWs.out];omega))⟩;have hlt2:w.heap.size<w2.heap.size:=by have:=hb2.size;rw[hWs.out]at this;omega
 obtain⟨W3,hW3⟩:=zev (w2.alloc (.cells z 109));have HW3:=ω hW3;have r3:=zhp hW3;have r0:Ω (W3.heap[w.heap.size]? = some (.cells z 109 (0,0))):=⟨by rw[←hW3,xaj _ _ _ hlt2];exact hrow2.out⟩;have B3:Ω (Below w.heap.size w W3):=⟨by rw[←hW3];exact B2.out.alloc (by omega) _⟩;clear hb2 hW3 hlt2;go_wp2_with (first
  | ((with_reducible refine xam rfl 109 _ _ rfl z ?hx ?hy ?hi ?ho ?h1 ?hn ?_);(case hx=>rfl);(case hy=>rfl);(case hi=>exact Zi.out);(case ho=>rfl);(case h1=>exact Zo.out);(case hn=>rfl);rw[HW3.out])
  | (refine wpList_load_row rfl 109 _ rfl w2.heap.size rfl 109 z (0,0) _ r3.out zX rfl Zi.out ?_)
  | (refine wpList_store_row rfl 109 _ _ rfl w.heap.size z rfl rfl 109 _ r0.out Zi.out rfl Zo.out ?_))
 refine bodyPost_ret_by (v:=.tuple #[.agg z,.int .i64 c]) (rbite.results_cell_tmp rfl _ _ w.heap.size 109 _ (0,0) _ rfl (setRow_heap _ _ _ _ _ _ r0.out) zX rfl Zi.out _ rfl) rfl ?_;exact⟨rfl,B3.out.trans (below_setRow _ _ _ (Nat.le_refl _))⟩
theorem xg0(s:ByteArray)(low high:Int)(w:World)(f:Nat→Int)(h1 : 0≤low)(h2 : 1≤high)(h3:low<4190208)(h4:high<4190208)(hf:∀ i,i<256→0≤f i∧f i≤low+high)
 (hu:∀ w1:World,Calls Tryz.prog 111 #[.string s,.int .i64 (low+high)] w1 (zB w1 (.tuple #[.agg (FL .i64 256 f),.int .i64 0]))):
 Calls Tryz.prog 58 #[.string s,.int .i64 low,.int .i64 high] w (zB w (.tuple #[.agg (FL .i64 256 (un f high)),.int .i64 0])):=by
 have HU:=ω hu;have Hf:=ω hf;clear hu hf;have Hidx:Ω (∀ i:Nat,i<256→∀ w1,(Instr.index 109 (.agg (FL .i64 256 f)) (.int .i64 (i:Int))).run Tryz.prog w1=.ok (.int .i64 (f i)) w1):=⟨fun i hi w1=>xb5 (P:=Tryz.prog) zX (by kernel_rfl) (by kernel_rfl) (by kernel_rfl) _ _ i hi (xa9 .i64 256 f i hi) w1⟩;obtain⟨hz,hsize⟩:=zero_of_info infoP;obtain⟨z,HZ⟩:=xaa (FL .i64 256 fun _=>0);rw[HZ.out]at hz;have Hzs:=zfs HZ;have Fs:Ω ((FL .i64 256 f).size=256):=⟨xad _ _ _⟩;have Fo:Ω ((FL .i64 256 f).all (·.oneCell')=true):=⟨xbf _ _ _⟩;have Hpz:Ω (FL .i64 256 (pt (un f high) f 0)=FL .i64 256 f):=⟨by rw[xba]⟩;obtain⟨F,HF⟩:=xaa (FL .i64 256 f);rw[HF.out]at HU Hidx Fs Fo Hpz;have Fi:=zsz Fs hsize;have Gs:Ω ((FL .i64 256 (un f high)).size=256):=⟨xad _ _ _⟩;have Go:Ω ((FL .i64 256 (un f high)).all (·.oneCell')=true):=⟨xbf _ _ _⟩;have Hall:Ω (FL .i64 256 (pt (un f high) f 256)=FL .i64 256 (un f high)):=⟨xa8 _ _ _ _⟩;obtain⟨G,HG⟩:=xaa (FL .i64 256 (un f high));rw[HG.out]at Gs Go Hall ⊢;have Gi:=zsz Gs hsize;obtain⟨W,hW⟩:=zev (w.alloc (.cells z 109));have HW:=ω hW;have BW:=zba hW;have hrow:=zhp hW;have hWs:Ω (W.heap.size=w.heap.size+1):=⟨by rw[←hW,size_alloc]⟩;have HM:∀ w1:World,Calls Tryz.prog 110 #[.int .i64 low,.int .i64 high] w1 (zE w1 (.bool true)):=fun w1=>by
  have h:=psmall.xjq low high w1;rw[decide_eq_true ⟨h1,h3,h2,h4⟩]at h;exact h
 have fl2:IntKind.i64.wrap (low+high)=low+high:=zwi;have HL:=ω (And.intro h1 (And.intro h2 (And.intro h3 h4)));clear hW hsize HZ HG HF h1 h2 h3 h4;go_enter Tryz.func58,Tryz.ntmps58;go_wp2_with (rw[HW.out]);refine(HM _).mono ?_;rintro e W ⟨rfl,rfl⟩;go_wp2_with fail;refine(HU.out _).mono ?_;rintro e w2 ⟨rfl,hb2⟩;have hrow2:Ω (w2.heap[w.heap.size]? = some (.cells z 109 (0,0))):=⟨(hb2.block w.heap.size (by rw[hWs.out];omega)).trans hrow.out⟩;have B2:Ω (Below w.heap.size w w2):=⟨BW.out.trans (hb2.mono (by rw[hWs.out];omega))⟩;have hlt2:w.heap.size<w2.heap.size:=by have:=hb2.size;rw[hWs.out]at this;omega
 obtain⟨W3,hW3⟩:=zev (w2.alloc (.cells F 109));have HW3:=ω hW3;have r3:=zhp hW3;have r0:Ω (W3.heap[w.heap.size]? = some (.cells z 109 (0,0))):=⟨by rw[←hW3,xaj _ _ _ hlt2];exact hrow2.out⟩;have B3:Ω (Below w.heap.size w W3):=⟨by rw[←hW3];exact B2.out.alloc (by omega) _⟩;have A0:Ω (At w2.heap.size (FL .i64 256 (pt (un f high) f 0)) 109 W3 W3):=⟨by rw[Hpz.out];exact At.refl r3.out⟩;have Hlt2:=ω hlt2;clear hb2 hW3 hlt2;go_wp2_with (first
  | ((with_reducible refine xam rfl 109 _ _ rfl F ?hx ?hy ?hi ?ho ?h1 ?hn ?_);(case hx=>rfl);(case hy=>rfl);(case hi=>exact Fi.out);(case ho=>rw[Hzs.out,Fs.out]);(case h1=>exact Fo.out);(case hn=>rfl);rw[HW3.out])
  | (refine wpList_load_row rfl 109 _ rfl w2.heap.size rfl 109 F (0,0) _ r3.out zX rfl Fi.out ?_))
 go_loopw [30] (fun c wr=>∃ j:Nat,j≤256∧c=.int .i64 (j:Int)∧Ω (At w2.heap.size (FL .i64 256 (pt (un f high) f j)) 109 W3 wr)) (fun c _=>256-(intOf c).toNat)
 case atStart=>exact⟨0,Nat.zero_le _,rfl,A0⟩
 case round=>
  clear A0;obtain⟨j,hj,rfl,A0⟩:=hrel;by_cases hlt:j<256
  ·have hjz:(j:Int)<256:=by omega
   have hidx:=Hidx.out j hlt;have hfj:=Hf.out j hlt;obtain⟨x,hx⟩:=zev (f j);rw[hx]at hidx hfj;have fs:IntKind.i64.wrap (high-x)=high-x:=by rw[IntKind.wrap_i64];have:=HL.out;omega
   have hun:Ω ((high-x)%8380417=un f high j):=⟨by unfold un;rw[hx]⟩;have Hre:=ω (fun w1=>xai (high-x) w1);obtain⟨y,hy⟩:=zev ((high-x)%8380417);rw[hy]at hun Hre;clear hx hy hfj;go_wp2_with fail;refine(Hre.out _).mono ?_;rintro e w5 ⟨rfl,rfl⟩;clear hidx;go_wp2_with ((with_reducible refine xaf A0 rfl _ _ _ rfl rfl ?_);refine⟨_,_,_,rfl,rfl,rfl,(by rw[xad];exact hlt),?_⟩;intro wn HR;rw[xap,xa4 _ _ _ _ hun.out]at HR);go_roundw
   case rel=>exact⟨j+1,by omega,by go_num,HR⟩
   case measure=>simp[intOf];omega
  ·obtain rfl:j=256:=by omega
   simp only[Int.cast_ofNat_Int];rw[Hall.out]at A0;have rg:=ω A0.out.row;have rz:Ω (wr.heap[w.heap.size]? = some (.cells z 109 (0,0))):=⟨A0.out.other (Array.getElem?_eq_some_iff.1 r0.out).1 (by have:=Hlt2.out;omega) r0.out⟩;have BE:Ω (Below w.heap.size w wr):=⟨B3.out.trans (A0.out.below (by exact B3.out.size) (by have:=Hlt2.out;omega))⟩;clear A0 hj hlt;go_wp2_with (first
    | (refine wpList_load_row rfl 109 _ rfl w2.heap.size rfl 109 G (0,0) _ rg.out zX rfl Gi.out ?_)
    | (refine wpList_store_row rfl 109 _ _ rfl w.heap.size G rfl rfl 109 _ rz.out Gi.out (by rw[Hzs.out,Gs.out]) Go.out ?_))
   refine bodyPost_ret_by (v:=.tuple #[.agg G,.int .i64 0]) (rbite.results_cell_tmp rfl _ _ w.heap.size 109 _ (0,0) _ rfl (setRow_heap _ _ _ _ _ _ rz.out) zX rfl Gi.out _ rfl) rfl ?_;exact⟨rfl,BE.out.trans (below_setRow _ _ _ (Nat.le_refl _))⟩
end puns
namespace fadd
open arr mem stil polys polt fldm fld1
theorem xcj(f g:Nat→Int)(w:World):
 Calls Tryz.prog 94 #[.agg (FL .i64 256 f),.agg (FL .i64 256 g)] w (zB w (.agg (FL .i64 256 fun i=>(f i+g i)%8380417))):=by
 obtain⟨hz,hsize⟩:=zero_of_info infoP;obtain⟨z,HZ⟩:=xaa (FL .i64 256 fun _=>0);rw[HZ.out]at hz;have Hzs:=zfs HZ;obtain⟨F,HF⟩:∃ F:Nat→Int,Ω (F=fun i=>(f i+g i)%8380417):=⟨_,⟨rfl⟩⟩;have hFi:∀ i,F i=(fun i=>(f i+g i)%8380417) i:=fun i=>by rw[HF.out]
 have HFi:=ω hFi;rw[←HF.out];clear HF hFi;obtain⟨R,HR⟩:=xaa (FL .i64 256 F);have Ri:=zri HR hsize;have Ro:=zro HR;have Rz:=zrz Hzs HR;rw[HR.out];have Hred:=ω xai;clear hsize;go_enter Tryz.func94,Tryz.ntmps94;go_wp2_with fail;clear hz;obtain⟨W,hW⟩:=zev (((w.alloc (.cells (FL .i64 256 f) 109)).alloc (.cells (FL .i64 256 g) 109)).alloc (.cells z 109));obtain⟨b0,b1,b2,hWs,hWb⟩:=three hW;rw[hW];clear hW;have B0:=ω b0;have B1:=ω b1;have BR:=ω b2;have HWs:Ω (w.heap.size+3≤W.heap.size):=⟨by omega⟩;have HWb:=ω hWb;clear hWs hWb b0 b1 b2;go_loopw [6] (fun v wr=>∃ i:Nat,i≤256∧v=.int .i64 (i:Int)∧Ω (At w.heap.size (FL .i64 256 (pt F f i)) 109 W wr)) (fun v _=>256-(intOf v).toNat)
 case atStart=>exact⟨0,Nat.zero_le _,rfl,⟨by rw[xba];exact At.refl B0.out⟩⟩
 case round=>
  obtain⟨i,hi,rfl,A0⟩:=hrel;by_cases hlt:i<256
  ·have hiz:(i:Int)<256:=by omega
   obtain⟨x,hx⟩:=zev (f i);have ca:wr.cell? ⟨w.heap.size,i,none⟩=some (.int .i64 x):=by
    have h9:=xaq A0.out.row i hlt;rw[xc0,hx]at h9;exact h9
   obtain⟨y,hy⟩:=zev (g i);have cb:wr.cell? ⟨w.heap.size+1,i,none⟩=some (.int .i64 y):=by
    rw[←hy];exact xaq (A0.out.other (by have:=HWs.out;omega) (by omega) B1.out) i hlt
   have HV:Ω (F i=(x+y)%8380417):=⟨by rw[HFi.out,hx,hy]⟩;obtain⟨x1,hx1⟩:=xaa (x%8380417);obtain⟨y1,hy1⟩:=xaa (y%8380417);have hs:IntKind.i64.wrap (x1+y1)=x1+y1:=by rw[←hx1.out,←hy1.out,IntKind.wrap_i64];omega
   obtain⟨s,hs1⟩:=xaa (x1+y1);have hs2:s%8380417=F i:=by rw[HV.out,←hs1.out,←hx1.out,←hy1.out];omega
   obtain⟨v,hv⟩:=xaa (s%8380417);have Hx:∀ w1:World,Calls Tryz.prog 112 #[.int .i64 x] w1 (zE w1 (.int .i64 x1)):=fun w1=>by rw[←hx1.out];exact xai x w1
   have Hy:∀ w1:World,Calls Tryz.prog 112 #[.int .i64 y] w1 (zE w1 (.int .i64 y1)):=fun w1=>by rw[←hy1.out];exact xai y w1
   have Hs:∀ w1:World,Calls Tryz.prog 112 #[.int .i64 (x1+y1)] w1 (zE w1 (.int .i64 v)):=fun w1=>by rw[hs1.out,←hv.out];exact xai s w1
   have HU:Ω (upd (pt F f i) i v=pt F f (i+1)):=⟨xa4 F f i v (by rw[←hv.out,hs2])⟩;clear hy hs2;clear hx;go_wp2_with fail;refine xay 12 (by kernel_rfl) (by kernel_rfl) ?_;simp only[List.take_succ_cons,List.take_zero,List.drop_succ_cons,List.drop_zero];repeat still_step
   still_call (Hx _)
   repeat still_step
   still_call (Hy _)
   repeat still_step
   still_call (Hs _)
   repeat still_step
   refine wpStill_nil ?_;clear cb;clear ca;have A1:Ω (At w.heap.size (FL .i64 256 (pt F f i)) 109 W wr.drew):=⟨xag A0.out⟩;clear A0
   with_reducible refine xaf A1 rfl _ _ _ rfl rfl ?_
   refine⟨_,_,_,rfl,rfl,rfl,by rw[xad];exact hlt,?_⟩;intro wn HR;rw[xap,HU.out]at HR;go_wp2_with fail;go_roundw
   case rel=>exact⟨i+1,by omega,by go_num,HR⟩
   case measure=>simp[intOf];omega
  ·obtain rfl:i=256:=by omega
   simp only[Int.cast_ofNat_Int];rw[xa8,HR.out]at A0;have Hrow:=ω A0.out.row;have Hres:Ω (wr.heap[w.heap.size+2]? = some (.cells z 109 (0,0))):=⟨A0.out.other (by have:=HWs.out;omega) (by omega) BR.out⟩;have HB:Ω (Below w.heap.size w wr):=⟨HWb.out.trans (A0.out.below (by have:=HWs.out;omega) (Nat.le_refl _))⟩;clear A0;go_wp2_with (first
    | (refine wpList_load_row rfl 109 _ rfl w.heap.size rfl 109 R (0,0) _ Hrow.out zX rfl Ri.out ?_)
    | (refine wpList_store_row rfl 109 _ _ rfl (w.heap.size+2) R rfl rfl 109 _ Hres.out Ri.out Rz.out Ro.out ?_))
   refine bodyPost_ret_by (v:=.agg R) (results_cell_row rfl _ _ (w.heap.size+2) 109 _ (0,0) _ rfl (setRow_heap _ _ _ _ _ _ Hres.out) zX rfl Ri.out) rfl ?_;exact⟨rfl,HB.out.trans (below_setRow _ _ _ (by omega))⟩
end fadd
namespace twor
open arr mem
def mks(l:List Nat)(b:Array Bool):Array Bool:=l.foldl (fun b i=>b.setIfInBounds i true) b
def rdy(ops:Array Oper)(l:List Nat):List Nat:=Region.ready .any ops (mks l (Array.replicate ops.size false))
def twoB(ops:Array Oper):Bool:=
 decide (rdy ops []=[0,1]) && decide (rdy ops [0]=[1,2]) && decide (rdy ops [1]=[0]) && decide (rdy ops [0,1]=[2]) && decide (rdy ops [1,0]=[2]) && decide (rdy ops [0,2]=[1]) &&
 decide (rdy ops [0,1,2]=[3]) && decide (rdy ops [1,0,2]=[3]) && decide (rdy ops [0,2,1]=[3]) && decide (rdy ops [0,1,2,3]=[]) && decide (rdy ops [1,0,2,3]=[]) && decide (rdy ops [0,2,1,3]=[])
structure Ld (o:Oper) (ty:TypeId) (x d:Nat):Prop where
 op:o.op=.load ty (.tmp x)
 dst:o.dst=some d
 gd:o.guard=none
structure Sr (o:Oper) (ty:TypeId) (y d:Nat):Prop where
 op:o.op=.store ty (.tmp y) (.tmp d)
 dst:o.dst=none
 gd:o.guard=none
theorem xda{o:Oper}{y:Nat→Option Bool}{X Y:Prop}(hg:o.guard=none)(h:X):if Region.wanted o y=true then X else Y:=by
 rw[if_pos (by unfold Region.wanted;rw[hg])];exact h
structure Two (P:Program) (w:World) (ty:TypeId) (g r:Nat) (A:Array Value):Prop where
 row:∃ t fr,w.heap[g]? = some (.cells A t fr)
 res:∃ t O,w.heap[r]? = some (.cells O t (0,0))∧O.size=A.size
 un:∃ D,P.underlying ty=some D∧(match D with | .struct _ | .array _ _=>true | _=>false)=true
 info:(P.info? ty).map (·.size)=some A.size
 one:A.all (·.oneCell')=true
theorem Two.set{P:Program}{w:World}{ty:TypeId}{g r:Nat}{A:Array Value}(h:Two P w ty g r A)(k:Nat)(C:Array Value)(h1:k≠g)(h2:k≠r):Two P (w.setRow k C) ty g r A:=by
 obtain⟨⟨t,fr,a1⟩,⟨t2,O,b1,b2⟩,c,d,e⟩:=h;exact⟨⟨t,fr,(setRow_other _ _ _ _ (Ne.symm h1)).trans a1⟩,⟨t2,O,(setRow_other _ _ _ _ (Ne.symm h2)).trans b1,b2⟩,c,d,e⟩
theorem Two.load{P:Program}{w:World}{ty:TypeId}{g r:Nat}{A:Array Value}(h:Two P w ty g r A){o:Oper}{x d:Nat}(ho:Ld o ty x d){a:Act}{K:Act→World→Prop}{Q:Exit→Act→World→Prop}(e:a.eval (.tmp x)=.pointer (some ⟨g,0,none⟩))(hK:K (a.put (some d) (.agg A)) w):o.wp P a w K Q:=by
 obtain⟨⟨t,fr,a1⟩,-,⟨D,c1,c2⟩,i,-⟩:=h;exact wp_load_row ty _ ho.op g e t A fr D a1 c1 (by cases D<;>first | rfl | exact c2) i (by rw[ho.dst];exact hK)
theorem Two.store{P:Program}{w:World}{ty:TypeId}{g r:Nat}{A:Array Value}(h:Two P w ty g r A){o:Oper}{y d:Nat}(ho:Sr o ty y d){a:Act}{K:Act→World→Prop}{Q:Exit→Act→World→Prop}(e:a.eval (.tmp y)=.pointer (some ⟨r,0,none⟩))(e2:a.eval (.tmp d)=.agg A)(hK:K a (w.setRow r A)):o.wp P a w K Q:=by
 obtain⟨-,⟨t,O,b1,b2⟩,-,i,o1⟩:=h;exact wp_store_row ty _ _ ho.op r A e e2 t O b1 i b2 o1 (by rw[ho.dst];exact hK)
theorem xuf{P:Program}{id:Nat}{Q:Exit→Act→World→Prop}{a:Act}{w:World}{o0 o1 o2 o3:Oper}(ty0 ty1:TypeId)(x0 x1 y0 y1 d0 d1:Nat)(hm:P.follows .mixedOrders=true)(hB:twoB #[o0,o1,o2,o3]=true)
 (h0:Ld o0 ty0 x0 d0) (h1:Ld o1 ty1 x1 d1) (h2:Sr o2 ty0 y0 d0) (h3:Sr o3 ty1 y1 d1) (hne:(d0≠x1∧d0≠y0∧d0≠y1∧d0≠d1)∧d1≠y0∧d1≠y1∧d1≠x0) (hd:d0<a.tmps.size∧d1<a.tmps.size)
 (g0 g1 r0 r1:Nat) (A B:Array Value) (e0:a.eval (.tmp x0)=.pointer (some ⟨g0,0,none⟩)) (e1:a.eval (.tmp x1)=.pointer (some ⟨g1,0,none⟩)) (f0:a.eval (.tmp y0)=.pointer (some ⟨r0,0,none⟩)) (f1:a.eval (.tmp y1)=.pointer (some ⟨r1,0,none⟩))
 (K0:Two P w.drew ty0 g0 r0 A) (K1:Two P w.drew ty1 g1 r1 B) (n1:r0≠g1) (n2:r0≠r1)
 (h:Q .normal ((a.put (some d0) (.agg A)).put (some d1) (.agg B)) ((w.drew.setRow r0 A).setRow r1 B)):(Code.region id #[o0,o1,o2,o3] true).wp P Q a w:=by
 simp only[twoB,Bool.and_eq_true,decide_eq_true_eq]at hB;obtain⟨⟨⟨⟨⟨⟨⟨⟨⟨⟨⟨b0,b1⟩,b2⟩,b3⟩,b4⟩,b5⟩,b6⟩,b7⟩,b8⟩,b9⟩,b10⟩,b11⟩:=hB;obtain⟨⟨m1,m2,m3,m4⟩,m5,m6,m7⟩:=hne;have s0:d1<(a.put (some d0) (.agg A)).tmps.size:=by show d1<(a.tmps.setIfInBounds d0 _).size;rw[Array.size_setIfInBounds];exact hd.2
 have s1:d0<(a.put (some d1) (.agg B)).tmps.size:=by show d0<(a.tmps.setIfInBounds d1 _).size;rw[Array.size_setIfInBounds];exact hd.1
 obtain⟨p,hp⟩:=zev ((a.put (some d0) (.agg A)).put (some d1) (.agg B));have hp':(a.put (some d1) (.agg B)).put (some d0) (.agg A)=p:=by rw[←hp];exact Act.put_comm a _ _ (fun d hd1 hd2=>m4 (by injection hd1 with hd1;injection hd2 with hd2;omega))
 have ev:∀ t,d0≠t→d1≠t→p.eval (.tmp t)=a.eval (.tmp t):=fun t ht1 ht2=>by rw[←hp,Act.eval_put_ne _ _ _ _ ht2,Act.eval_put_ne _ _ _ _ ht1]
 have v0:p.eval (.tmp d0)=.agg A:=by rw[←hp',Act.eval_put_same _ _ _ s1]
 have v1:p.eval (.tmp d1)=.agg B:=by rw[←hp,Act.eval_put_same _ _ _ s0]
 rw[hp]at h;have last:∀ {l:Array Bool},Region.ready .any #[o0,o1,o2,o3] l=[3]→Region.ready .any #[o0,o1,o2,o3] (l.setIfInBounds 3 true)=[]→wpAny P .any #[o0,o1,o2,o3] Q 1 l p (w.drew.setRow r0 A):=by
  intro l hr hr2;refine wpAny_ready hr (by simp) ?_;refine AllReady.cons rfl (fun K hK=>xda h3.gd ?_) AllReady.nil;exact(K1.set r0 A n1 n2).store h3 ((ev y1 m3 m6).trans f1) v1 (hK _ _ ⟨hr2,h⟩)
 refine wp_region_any hm ?_;show wpAny P .any #[o0,o1,o2,o3] Q 4 (Array.replicate 4 false) a w.drew;refine wpAny_ready (rs:=[0,1]) b0 (by simp) ?_;refine AllReady.cons rfl (fun K hK=>xda h0.gd ?_) (AllReady.cons rfl (fun K hK=>xda h1.gd ?_) AllReady.nil)
 ·refine K0.load h0 e0 (hK _ _ ?_);refine wpAny_ready (rs:=[1,2]) b1 (by simp) ?_;refine AllReady.cons rfl (fun K hK=>xda h1.gd ?_) (AllReady.cons rfl (fun K hK=>xda h2.gd ?_) AllReady.nil)
  ·refine K1.load h1 ((Act.eval_put_ne _ _ _ _ m1).trans e1) (hK _ _ ?_);rw[hp];refine wpAny_ready (rs:=[2]) b3 (by simp) ?_;refine AllReady.cons rfl (fun K hK=>xda h2.gd ?_) AllReady.nil;refine K0.store h2 ((ev y0 m2 m5).trans f0) v0 (hK _ _ ?_);exact last b6 b9
  ·refine K0.store h2 ((Act.eval_put_ne _ _ _ _ m2).trans f0) (Act.eval_put_same _ _ _ hd.1) (hK _ _ ?_);refine wpAny_ready (rs:=[1]) b5 (by simp) ?_;refine AllReady.cons rfl (fun K hK=>xda h1.gd ?_) AllReady.nil;refine(K1.set r0 A n1 n2).load h1 ((Act.eval_put_ne _ _ _ _ m1).trans e1) (hK _ _ ?_);rw[hp];exact last b8 b11
 ·refine K1.load h1 e1 (hK _ _ ?_);refine wpAny_ready (rs:=[0]) b2 (by simp) ?_;refine AllReady.cons rfl (fun K hK=>xda h0.gd ?_) AllReady.nil;refine K0.load h0 ((Act.eval_put_ne _ _ _ _ m7).trans e0) (hK _ _ ?_);rw[hp'];refine wpAny_ready (rs:=[2]) b4 (by simp) ?_;refine AllReady.cons rfl (fun K hK=>xda h2.gd ?_) AllReady.nil;refine K0.store h2 ((ev y0 m2 m5).trans f0) v0 (hK _ _ ?_);exact last b7 b10
theorem xuj{P:Program}{fn:Func}{p0 p1:Nat}{ty0 ty1:TypeId}(h:fn.results=#[.cell p0 ty0,.cell p1 ty1])(tmps:Array Value)(w:World)(r0 r1:Nat)(A B:Array Value)
 (e0:tmps.getD p0 undef=.pointer (some ⟨r0,0,none⟩)) (e1:tmps.getD p1 undef=.pointer (some ⟨r1,0,none⟩)) (t0 t1:TypeId) (f0 f1:Nat × Nat) (k0:w.heap[r0]? = some (.cells A t0 f0)) (k1:w.heap[r1]? = some (.cells B t1 f1))
 (D0 D1:TypeDesc) (u0:P.underlying ty0=some D0) (c0:(match D0 with | .struct _ | .array _ _=>true | _=>false)=true) (u1:P.underlying ty1=some D1) (c1:(match D1 with | .struct _ | .array _ _=>true | _=>false)=true)
 (i0:(P.info? ty0).map (·.size)=some A.size) (i1:(P.info? ty1).map (·.size)=some B.size):(results fn tmps).run P w=.ok (.tuple #[.agg A,.agg B]) w:=by
 have e0':tmps[p0]?.getD undef=.pointer (some ⟨r0,0,none⟩):=by simpa using e0
 have e1':tmps[p1]?.getD undef=.pointer (some ⟨r1,0,none⟩):=by simpa using e1
 simp[results,h,e0',e1',asAddr,run_loadVar_row w r0 t0 ty0 A f0 D0 k0 u0 c0 i0,run_loadVar_row w r1 t1 ty1 B f1 D1 k1 u1 c1 i1]
end twor
namespace rsplit
open arr mem stil polys polt fldm fld1 rndm floa twor
theorem xfi(f:Nat→Int)(w:World):
 Calls Tryz.prog 93 #[.agg (FL .i64 256 f)] w (zB w (.tuple #[.agg (FL .i64 256 fun i=>sh (f i)),.agg (FL .i64 256 fun i=>sl (f i)%8380417)])):=by
 obtain⟨hz,hsize⟩:=zero_of_info infoP;obtain⟨z,HZ⟩:=xaa (FL .i64 256 fun _=>0);rw[HZ.out]at hz;have Hzs:=zfs HZ;obtain⟨F,HF⟩:∃ F:Nat→Int,Ω (F=fun i=>sh (f i)):=⟨_,⟨rfl⟩⟩;have HFi:Ω (∀ i,F i=sh (f i)):=⟨fun i=>by rw[HF.out]⟩;obtain⟨G,HG⟩:∃ G:Nat→Int,Ω (G=fun i=>sl (f i)%8380417):=⟨_,⟨rfl⟩⟩;have HGi:Ω (∀ i,G i=sl (f i)%8380417):=⟨fun i=>by rw[HG.out]⟩;rw[←HF.out,←HG.out];clear HF HG;have sz:∀ h:Nat→Int,(Tryz.prog.info? 109).map (·.size)=some (FL .i64 256 h).size:=fun h=>by rw[xad];exact hsize
 obtain⟨R,HR⟩:=xaa (FL .i64 256 F);have Ri:Ω ((Tryz.prog.info? 109).map (·.size)=some R.size):=⟨by rw[←HR.out];exact sz _⟩;have Ro:=zro HR;have Rz:=zrz Hzs HR;obtain⟨S,HS⟩:=xaa (FL .i64 256 G);have Si:Ω ((Tryz.prog.info? 109).map (·.size)=some S.size):=⟨by rw[←HS.out];exact sz _⟩;have So:=zro HS;have Sz:=zrz Hzs HS;obtain⟨I,HI⟩:=xaa (FL .i64 256 f);have Ii:Ω ((Tryz.prog.info? 109).map (·.size)=some I.size):=⟨by rw[←HI.out];exact sz _⟩;rw[HR.out,HS.out,HI.out];clear hsize sz;have Hix:Ω (∀ (i:Nat),i<256→∀ w1:World,(Instr.index 109 (.agg I) (.int .i64 (i:Int))).run Tryz.prog w1=.ok (.int .i64 (f i)) w1):=⟨fun i hi w1=>by rw[←HI.out];exact xd7 f i hi w1⟩;have Hred:=ω xai;have Hcen:=ω xcv;go_enter Tryz.func93,Tryz.ntmps93;go_wp2_with fail;clear hz;obtain⟨W1,hW1⟩:=zev (((w.alloc (.cells I 109)).alloc (.cells z 109)).alloc (.cells z 109));obtain⟨b0,b1,b2,hWs1,hWb1⟩:=three hW1;obtain⟨W,hW⟩:=zev ((W1.alloc (.cells z 109)).alloc (.cells z 109));obtain⟨c3,c4,hWs,hWb⟩:=two hW;rw[hW1,hW];rw[hWs1]at c3 c4 hWs;have B0:Ω (W.heap[w.heap.size]? = some (.cells I 109 (0,0))):=⟨(hWb.block _ (by omega)).trans b0⟩;have B1:Ω (W.heap[w.heap.size+1]? = some (.cells z 109 (0,0))):=⟨(hWb.block _ (by omega)).trans b1⟩;have B2:Ω (W.heap[w.heap.size+2]? = some (.cells z 109 (0,0))):=⟨(hWb.block _ (by omega)).trans b2⟩;have B3:Ω (W.heap[w.heap.size+3]? = some (.cells z 109 (0,0))):=⟨c3⟩;have B4:Ω (W.heap[w.heap.size+4]? = some (.cells z 109 (0,0))):=⟨c4⟩;have HWs:Ω (w.heap.size+5≤W.heap.size):=⟨by omega⟩;have HWB:Ω (Below w.heap.size w W):=⟨hWb1.trans (hWb.mono (by omega))⟩
 clear hW hW1 b0 b1 b2 c3 c4 hWs1 hWs hWb1 hWb;refine wp_load_row 109 _ rfl w.heap.size rfl 109 I (0,0) _ B0.out zX rfl Ii.out ?_;go_wp2_with fail;go_loopw [10] (fun v wr=>∃ i:Nat,i≤256∧v=.int .i64 (i:Int)∧Ω (Below w.heap.size w wr∧wr.heap[w.heap.size+1]? = some (.cells z 109 (0,0))∧wr.heap[w.heap.size+2]? = some (.cells z 109 (0,0)) ∧
  wr.heap[w.heap.size+3]? = some (.cells (FL .i64 256 (pt F (fun _=>0) i)) 109 (0,0))∧wr.heap[w.heap.size+4]? = some (.cells (FL .i64 256 (pt G (fun _=>0) i)) 109 (0,0)))) (fun v _=>256-(intOf v).toNat)
 case atStart=>exact⟨0,Nat.zero_le _,rfl,⟨HWB.out,B1.out,B2.out,by rw[xba,HZ.out];exact B3.out,by rw[xba,HZ.out];exact B4.out⟩⟩
 case round=>
  obtain⟨i,hi,rfl,A0⟩:=hrel;by_cases hlt:i<256
  ·have hiz:(i:Int)<256:=by omega
   have hx0:=Hix.out i hlt wr;obtain⟨x,hx⟩:=zev (f i);rw[hx]at hx0;have HV:Ω (F i=sh x∧G i=sl x%8380417):=⟨by rw[HFi.out,HGi.out,hx];exact⟨rfl,rfl⟩⟩;have hb:=xlk x;have hs:=(xll x);have Hr:=Hred.out x;have Hc:=Hcen.out (x%8380417) 8192;rw[show ce 8192 (x%8380417)=sl x from rfl]at Hc;obtain⟨v,hv⟩:=xaa (sh x);have hvd:(x%8380417-sl x) / 8192=v:=hv.out;obtain⟨l,hl⟩:=xaa (sl x);rw[hl.out]at Hc hb hs hvd;rw[hv.out]at hs;obtain⟨r,hr⟩:=xaa (x%8380417);have hrb : 0≤r∧r<8380417:=by rw[←hr.out];omega
   rw[hr.out]at Hr Hc hb hvd hs;have Hl:=Hred.out l;obtain⟨u,hu⟩:=xaa (l%8380417);rw[hu.out]at Hl;obtain⟨d,hd⟩:=zev (r-l);have f1:IntKind.i64.wrap (r-l)=d:=by rw[hd,IntKind.wrap_i64];omega
   rw[hd]at hvd;have hd0 : 0≤d:=by omega
   have f2:IntKind.i64.wrap (d.tdiv 8192)=v:=by rw[Int.tdiv_eq_ediv_of_nonneg hd0,hvd,IntKind.wrap_i64];omega
   have HU:Ω (upd (pt F (fun _=>0) i) i v=pt F (fun _=>0) (i+1)):=⟨xa4 F _ i v (by rw[HV.out.1,hv.out])⟩;have HU2:Ω (upd (pt G (fun _=>0) i) i u=pt G (fun _=>0) (i+1)):=⟨xa4 G _ i u (by rw[HV.out.2,hl.out,hu.out])⟩;clear hx hb hs hd hd0 hvd hrb hr hv hl hu HV;go_wp2_with fail;refine(Hr _).mono ?_;rintro e wx ⟨rfl,rfl⟩;go_wp2_with fail;refine(Hc _).mono ?_;rintro e wy ⟨rfl,rfl⟩;go_wp2_with fail;refine xjb (by kernel_rfl) ?_;refine zA 1 ?_;refine xjc [0,2,3,4,5,6,7,8] 9 [10,11] rfl (by kernel_rfl) ?_;simp only[pick,List.filterMap_cons,List.filterMap_nil,List.getElem?_cons_succ,List.getElem?_cons_zero];repeat still_step
   still_call (Hl _)
   repeat still_step
   refine wpStill_nil ?_;have A1:Ω (At (w.heap.size+3) (FL .i64 256 (pt F (fun _=>0) i)) 109 wy wy.drew):=⟨xag (At.refl A0.out.2.2.2.1)⟩
   with_reducible refine xaf A1 rfl _ _ _ rfl rfl ?_
   refine⟨_,_,_,rfl,rfl,rfl,by rw[xad];exact hlt,?_⟩;intro w5 A2;rw[xap,HU.out]at A2;have A3:Ω (At (w.heap.size+4) (FL .i64 256 (pt G (fun _=>0) i)) 109 w5 w5):=⟨At.refl (A2.out.other (xac A0.out.2.2.2.2) (by omega) A0.out.2.2.2.2)⟩;refine wpList_plain rfl (fun K hK=>?_);go_simp
   refine hK _ _ ?_;clear hK K
   with_reducible refine xaf A3 rfl _ _ _ rfl rfl ?_
   refine⟨_,_,_,rfl,rfl,rfl,(by rw[xad];exact hlt),?_⟩;intro w6 A4;rw[xap,HU2.out]at A4;have AE:Ω (Below w.heap.size w w6∧w6.heap[w.heap.size+1]? = some (.cells z 109 (0,0))∧w6.heap[w.heap.size+2]? = some (.cells z 109 (0,0)) ∧
    w6.heap[w.heap.size+3]? = some (.cells (FL .i64 256 (pt F (fun _=>0) (i+1))) 109 (0,0))∧w6.heap[w.heap.size+4]? = some (.cells (FL .i64 256 (pt G (fun _=>0) (i+1))) 109 (0,0))):=⟨by
    have s0:=A0.out.1.size;have s1:=A2.out.size;have l1:=xac A0.out.2.1;have l2:=xac A0.out.2.2.1;have l3:=xac A2.out.row;exact⟨(A0.out.1.trans (A2.out.below (by omega) (by omega))).trans (A4.out.below (by omega) (by omega)),
     A4.out.other (by omega) (by omega) (A2.out.other l1 (by omega) A0.out.2.1),A4.out.other (by omega) (by omega) (A2.out.other l2 (by omega) A0.out.2.2.1),
     A4.out.other (by omega) (by omega) A2.out.row,A4.out.row⟩⟩
   clear A0 A1 A2 A3 A4;go_wp2_with fail;go_roundw
   case rel=>exact⟨i+1,by omega,by go_num,AE⟩
   case measure=>simp[intOf];omega
  ·obtain rfl:i=256:=by omega
   simp only[Int.cast_ofNat_Int];rw[xa8,xa8,HR.out,HS.out]at A0;have K0:Two Tryz.prog wr.drew 109 (w.heap.size+3) (w.heap.size+1) R:=⟨⟨_,_,A0.out.2.2.2.1⟩,⟨_,_,A0.out.2.1,Rz.out⟩,⟨_,zX,rfl⟩,Ri.out,Ro.out⟩;have K1:Two Tryz.prog wr.drew 109 (w.heap.size+4) (w.heap.size+2) S:=⟨⟨_,_,A0.out.2.2.2.2⟩,⟨_,_,A0.out.2.2.1,Sz.out⟩,⟨_,zX,rfl⟩,Si.out,So.out⟩;have HK:=ω (And.intro K0 K1);clear K0 K1;go_wp2_with fail;refine xuf 109 109 4 5 2 3 29 30 (by kernel_rfl) (by kernel_rfl) ⟨rfl,rfl,rfl⟩ ⟨rfl,rfl,rfl⟩ ⟨rfl,rfl,rfl⟩ ⟨rfl,rfl,rfl⟩ (by decide) ⟨(of_decide_eq_true rfl : 29<31),(of_decide_eq_true rfl : 30<31)⟩ _ _ _ _ R S rfl rfl rfl rfl HK.out.1 HK.out.2 (by omega) (by omega) ?_;go_wp2_with fail;have q0:(wr.drew.setRow (w.heap.size+1) R).heap[w.heap.size+1]? = some (.cells R 109 (0,0)):=setRow_heap _ _ _ _ _ _ A0.out.2.1;have q1:(wr.drew.setRow (w.heap.size+1) R).heap[w.heap.size+2]? = some (.cells z 109 (0,0)):=(setRow_other _ _ _ _ (by omega)).trans A0.out.2.2.1;refine bodyPost_ret_by (v:=.tuple #[.agg R,.agg S]) (xuj rfl _ _ (w.heap.size+1) (w.heap.size+2) R S rfl rfl 109 109 (0,0) (0,0) ((setRow_other _ _ _ _ (by omega)).trans q0) (setRow_heap _ _ _ _ _ _ q1) _ _ zX rfl zX rfl Ri.out Si.out) rfl ?_;exact⟨rfl,(A0.out.1.drew.trans (below_setRow _ _ _ (by omega))).trans (below_setRow _ _ _ (by omega))⟩
end rsplit
end Go.Proofs.YtgahcabgmfbhdaaGreatDoor
