/-
  What the document's own Reduce and Centre of layer 7 return. Conditions: none. Variables of type api
-/
import Derived.Test.YtgahcabgmfbhdaaGreatDoorZt02
import Derived.Test.YtgahcabgmfbhdaaGreatDoorProg
import Derived.Test.YtgahcabgmfbhdaaGreatDoorZt08
import Derived.Test.YtgahcabgmfbhdaaGreatDoorZt09
import Derived.Test.YtgahcabgmfbhdaaGreatDoorZt03
import Derived.Test.YtgahcabgmfbhdaaGreatDoorZt06
import Derived.Test.YtgahcabgmfbhdaaGreatDoorZt07
import Derived.Test.YtgahcabgmfbhdaaGreatDoorZt01
set_option maxRecDepth 100000
set_option maxHeartbeats 16000000
set_option linter.unusedSimpArgs false
set_option linter.unusedVariables false
open Go Go.RowKit
namespace Go.Proofs.YtgahcabgmfbhdaaGreatDoor
namespace rfld
open arr mem fldm
theorem xcv(x m:Int)(w:World):Calls Tryz.prog 138 #[.int .i64 x,.int .i64 m] w (zE w (.int .i64 (ce m x))):=by
 unfold ce;by_cases h0:m<1
 ·rw[if_pos (Or.inl h0)];go_enter Tryz.func138,Tryz.ntmps138;go_wp2_with fail;go_ret;exact⟨rfl,rfl⟩
 ·by_cases h1 : 1125899906842624<m
  ·rw[if_pos (Or.inr h1)];go_enter Tryz.func138,Tryz.ntmps138;go_wp2_with fail;go_ret;exact⟨rfl,rfl⟩
  ·rw[if_neg (by omega)];obtain⟨z,hz⟩:=zev (x%m);obtain⟨y,hy⟩:=zev (x.tmod m);have h:=xlt x m (by omega);have hb : 0≤z∧z<m:=by rw[←hz];exact⟨Int.emod_nonneg _ (by omega),Int.emod_lt_of_pos _ (by omega)⟩
   rw[hz,hy]at h;rw[hz];obtain⟨d,hd⟩:=zev (m / 2);have fd:m.tdiv 2=d:=by rw[Int.tdiv_eq_ediv_of_nonneg (by omega)];exact hd
   have fdw:IntKind.i64.wrap (m.tdiv 2)=d:=by rw[fd,IntKind.wrap_i64];omega
   have hm0:¬ m=0:=by omega
   have hm1:(m==0)=false:=beq_eq_false_iff_ne.2 hm0;rw[hd];rcases h with ⟨h2,h3⟩ | ⟨h2,h3⟩
   ·subst h3;have h4:¬ y<0:=by omega
    by_cases h5:d<y
    ·rw[if_pos h5];have hw:IntKind.i64.wrap (y-m)=y-m:=zwi;clear hz;go_enter Tryz.func138,Tryz.ntmps138;go_wp2_with fail;go_ret;exact⟨rfl,rfl⟩
    ·rw[if_neg h5];clear hz;go_enter Tryz.func138,Tryz.ntmps138;go_wp2_with fail;go_ret;exact⟨rfl,rfl⟩
   ·have hw:IntKind.i64.wrap (y+m)=z:=zwi;have hw0:y+m=z:=h3;by_cases h5:d<z
    ·rw[if_pos h5];have hw2:IntKind.i64.wrap (z-m)=z-m:=zwi;clear hz h3;go_enter Tryz.func138,Tryz.ntmps138;go_wp2_with fail;go_ret;exact⟨rfl,rfl⟩
    ·rw[if_neg h5];clear hz h3;go_enter Tryz.func138,Tryz.ntmps138;go_wp2_with fail;go_ret;exact⟨rfl,rfl⟩
end rfld
namespace pvar
open arr mem polys polt vary varyn
theorem allocP(ρ : Operand→Value)(o:Oper)(w1:World)(ho:o.op=.alloc 109):(execOp ρ o).run Tryz.prog w1=.ok (.value (ptr w1.heap.size)) (w1.alloc (.cells (FL .i64 256 fun _=>0) 109)):=by
 obtain⟨hz,-⟩:=zero_of_info infoP;generalize (FL .i64 256 fun _=>0)=z at hz ⊢;unfold execOp;simp only[ho];go_simp
 rfl
def vrP(m s ke d e:Nat):Vr:=⟨m,s,ke,d,e,109,FL .i64 256 fun _=>0⟩
theorem fitsP(f:Nat→Int):Fits Tryz.prog 109 (FL .i64 256 fun _=>0) (FL .i64 256 f):=⟨by rw[xad];exact(zero_of_info infoP).2,by rw[xad,xad],xbf _ _ _⟩
theorem built0:Tryz.prog.built 109 []=some (FL .i64 256 fun _=>0):=by kernel_rfl
end pvar
namespace r9ga
open arr mem rndm
theorem xf5(g:Int)(w:World):Calls Tryz.prog 127 #[.int .i64 g] w (zE w (.bool (okg g))):=by
 unfold okg;cases h1:g==95232
 ·cases h2:g==261888
  ·go_enter Tryz.func127,Tryz.ntmps127;go_wp2_with fail;go_ret;exact⟨rfl,rfl⟩
  ·go_enter Tryz.func127,Tryz.ntmps127;go_wp2_with fail;go_ret;exact⟨rfl,rfl⟩
 ·go_enter Tryz.func127,Tryz.ntmps127;go_wp2_with fail;go_ret;exact⟨rfl,rfl⟩
end r9ga
namespace r9pa
open arr mem fldm rfld r9ga rndm
theorem xkt(x g:Int)(w:World)(h:okg g=false):Calls Tryz.prog 137 #[.int .i64 x,.int .i64 g] w (zE w (.tuple #[.int .i64 0,.int .i64 0])):=by
 have Hg:=xf5 g;rw[h]at Hg;go_enter Tryz.func137,Tryz.ntmps137;go_wp2_with fail;refine(Hg _).mono ?_;rintro e w1 ⟨rfl,rfl⟩;go_wp2_with fail;go_ret2;exact⟨rfl,rfl⟩
theorem xgk(x:Int)(w:World):Calls Tryz.prog 137 #[.int .i64 x,.int .i64 95232] w (zE w (.tuple #[.int .i64 (hgh 95232 x),.int .i64 (lw 95232 x)])):=by
 have hb:=xkx x;have HH:Ω (hgh 95232 x=if x%8380417-pl 95232 x=8380416 then 0 else (x%8380417-pl 95232 x) / (2*95232)):=⟨by unfold hgh;rw[if_pos xcy]⟩;have HL:Ω (lw 95232 x=if x%8380417-pl 95232 x=8380416 then pl 95232 x-1 else pl 95232 x):=⟨by unfold lw;rw[if_pos xcy]⟩;obtain⟨hv,Hhv⟩:=xaa (hgh 95232 x);obtain⟨lv,Hlv⟩:=xaa (lw 95232 x);rw[Hhv.out]at HH ⊢;rw[Hlv.out]at HL ⊢;have Hg:∀ w1:World,Calls Tryz.prog 127 #[.int .i64 95232] w1 (zE w1 (.bool true)):=fun w1=>by have h:=xf5 95232 w1;rw[xcy]at h;exact h
 have Hr:=xai x;have Hc:=xcv (x%8380417) 190464;rw[show ce 190464 (x%8380417)=pl 95232 x from rfl]at Hc;obtain⟨l,hl⟩:=xaa (pl 95232 x);rw[hl.out]at HH HL Hc hb;have hrb : 0≤x%8380417∧x%8380417<8380417:=by omega
 obtain⟨r,hr⟩:=xaa (x%8380417);rw[hr.out]at HH HL Hc hb Hr hrb;obtain⟨d,hd⟩:=zev (r-l);have f1:IntKind.i64.wrap (r-l)=d:=by rw[hd,IntKind.wrap_i64];omega
 have f2:IntKind.i64.wrap (l-1)=l-1:=zwi;rw[hd]at HH HL hb;have hdb : 0≤d∧d<8480417+95232:=by omega
 clear hd;by_cases h1:d=8380416
 ·obtain rfl:hv=0:=by rw[HH.out,if_pos h1]
  obtain rfl:lv=l-1:=by rw[HL.out,if_pos h1]
  subst h1;clear HH HL hb hr hl;go_enter Tryz.func137,Tryz.ntmps137;go_wp2_with fail;refine(Hg _).mono ?_;rintro e w1 ⟨rfl,rfl⟩;go_wp2_with fail;refine(Hr _).mono ?_;rintro e w1 ⟨rfl,rfl⟩;go_wp2_with fail;refine(Hc _).mono ?_;rintro e w1 ⟨rfl,rfl⟩;go_wp2_with fail;go_ret2;exact⟨rfl,rfl⟩
 ·have hq:d.tdiv 190464=hv:=by rw[HH.out,if_neg h1,Int.tdiv_eq_ediv_of_nonneg hdb.1];rfl
  have hq2:d / 190464=hv:=by rw[HH.out,if_neg h1];rfl
  have hw:IntKind.i64.wrap hv=hv:=by rw[←hq2,IntKind.wrap_i64];omega
  obtain rfl:lv=l:=by rw[HL.out,if_neg h1]
  have h2:(d==8380416)=false:=beq_eq_false_iff_ne.2 h1;clear HH HL hb hr hl h1;go_enter Tryz.func137,Tryz.ntmps137;go_wp2_with fail;refine(Hg _).mono ?_;rintro e w1 ⟨rfl,rfl⟩;go_wp2_with fail;refine(Hr _).mono ?_;rintro e w1 ⟨rfl,rfl⟩;go_wp2_with fail;refine(Hc _).mono ?_;rintro e w1 ⟨rfl,rfl⟩;go_wp2_with fail;go_ret2;exact⟨rfl,rfl⟩
theorem xgj(x:Int)(w:World):Calls Tryz.prog 137 #[.int .i64 x,.int .i64 261888] w (zE w (.tuple #[.int .i64 (hgh 261888 x),.int .i64 (lw 261888 x)])):=by
 have hb:=xkw x;have HH:Ω (hgh 261888 x=if x%8380417-pl 261888 x=8380416 then 0 else (x%8380417-pl 261888 x) / (2*261888)):=⟨by unfold hgh;rw[if_pos xdr]⟩;have HL:Ω (lw 261888 x=if x%8380417-pl 261888 x=8380416 then pl 261888 x-1 else pl 261888 x):=⟨by unfold lw;rw[if_pos xdr]⟩;obtain⟨hv,Hhv⟩:=xaa (hgh 261888 x);obtain⟨lv,Hlv⟩:=xaa (lw 261888 x);rw[Hhv.out]at HH ⊢;rw[Hlv.out]at HL ⊢;have Hg:∀ w1:World,Calls Tryz.prog 127 #[.int .i64 261888] w1 (zE w1 (.bool true)):=fun w1=>by have h:=xf5 261888 w1;rw[xdr]at h;exact h
 have Hr:=xai x;have Hc:=xcv (x%8380417) 523776;rw[show ce 523776 (x%8380417)=pl 261888 x from rfl]at Hc;obtain⟨l,hl⟩:=xaa (pl 261888 x);rw[hl.out]at HH HL Hc hb;have hrb : 0≤x%8380417∧x%8380417<8380417:=by omega
 obtain⟨r,hr⟩:=xaa (x%8380417);rw[hr.out]at HH HL Hc hb Hr hrb;obtain⟨d,hd⟩:=zev (r-l);have f1:IntKind.i64.wrap (r-l)=d:=by rw[hd,IntKind.wrap_i64];omega
 have f2:IntKind.i64.wrap (l-1)=l-1:=zwi;rw[hd]at HH HL hb;have hdb : 0≤d∧d<8480417+261888:=by omega
 clear hd;by_cases h1:d=8380416
 ·obtain rfl:hv=0:=by rw[HH.out,if_pos h1]
  obtain rfl:lv=l-1:=by rw[HL.out,if_pos h1]
  subst h1;clear HH HL hb hr hl;go_enter Tryz.func137,Tryz.ntmps137;go_wp2_with fail;refine(Hg _).mono ?_;rintro e w1 ⟨rfl,rfl⟩;go_wp2_with fail;refine(Hr _).mono ?_;rintro e w1 ⟨rfl,rfl⟩;go_wp2_with fail;refine(Hc _).mono ?_;rintro e w1 ⟨rfl,rfl⟩;go_wp2_with fail;go_ret2;exact⟨rfl,rfl⟩
 ·have hq:d.tdiv 523776=hv:=by rw[HH.out,if_neg h1,Int.tdiv_eq_ediv_of_nonneg hdb.1];rfl
  have hq2:d / 523776=hv:=by rw[HH.out,if_neg h1];rfl
  have hw:IntKind.i64.wrap hv=hv:=by rw[←hq2,IntKind.wrap_i64];omega
  obtain rfl:lv=l:=by rw[HL.out,if_neg h1]
  have h2:(d==8380416)=false:=beq_eq_false_iff_ne.2 h1;clear HH HL hb hr hl h1;go_enter Tryz.func137,Tryz.ntmps137;go_wp2_with fail;refine(Hg _).mono ?_;rintro e w1 ⟨rfl,rfl⟩;go_wp2_with fail;refine(Hr _).mono ?_;rintro e w1 ⟨rfl,rfl⟩;go_wp2_with fail;refine(Hc _).mono ?_;rintro e w1 ⟨rfl,rfl⟩;go_wp2_with fail;go_ret2;exact⟨rfl,rfl⟩
theorem xgl(x g:Int)(w:World):Calls Tryz.prog 137 #[.int .i64 x,.int .i64 g] w (zE w (.tuple #[.int .i64 (hgh g x),.int .i64 (lw g x)])):=by
 cases h:okg g
 ·rw[xm9 h,xnm h];exact xkt x g w h
 ·rcases xoa h with rfl | rfl
  ·exact xgk x w
  ·exact xgj x w
end r9pa
namespace r9hi
open arr mem stil polys polt fldm rfld rndm r9pa
theorem xc7(f:Nat→Int)(g:Int)(w:World):
 Calls Tryz.prog 135 #[.agg (FL .i64 256 f),.int .i64 g] w (zB w (.agg (FL .i64 256 fun i=>hgh g (f i)))):=by
 obtain⟨hz,hsize⟩:=zero_of_info infoP;obtain⟨z,HZ⟩:=xaa (FL .i64 256 fun _=>0);rw[HZ.out]at hz;have Hzs:=zfs HZ;obtain⟨F,HF⟩:∃ F:Nat→Int,Ω (F=fun i=>hgh g (f i)):=⟨_,⟨rfl⟩⟩;have hFi:∀ i,F i=(fun i=>hgh g (f i)) i:=fun i=>by rw[HF.out]
 have HFi:=ω hFi;rw[←HF.out];clear HF hFi;obtain⟨R,HR⟩:=xaa (FL .i64 256 F);have Ri:=zri HR hsize;have Ro:=zro HR;have Rz:=zrz Hzs HR;obtain⟨I,HI⟩:=xaa (FL .i64 256 f);have Ii:=zri HI hsize;rw[HR.out,HI.out];clear hsize;have Hix:Ω (∀ (i:Nat),i<256→∀ w1:World,(Instr.index 109 (.agg I) (.int .i64 (i:Int))).run Tryz.prog w1=.ok (.int .i64 (f i)) w1):=⟨fun i hi w1=>by rw[←HI.out];exact xd7 f i hi w1⟩;go_enter Tryz.func135,Tryz.ntmps135;go_wp2_with fail;clear hz;obtain⟨W,hW⟩:=zev ((w.alloc (.cells I 109)).alloc (.cells z 109));obtain⟨b0,b1,hWs,hWb⟩:=two hW;rw[hW];clear hW;have B0:=ω b0;have B1:=ω b1;have HWs:Ω (w.heap.size+2≤W.heap.size):=⟨by omega⟩;have HWb:=ω hWb;clear hWs hWb b0 b1;refine wp_load_row 109 _ rfl w.heap.size rfl 109 I (0,0) _ B0.out zX rfl Ii.out ?_;go_wp2_with fail;go_loopw [8] (fun v wr=>∃ i:Nat,i≤256∧v=.int .i64 (i:Int)∧Ω (At w.heap.size (FL .i64 256 (pt F f i)) 109 W wr)) (fun v _=>256-(intOf v).toNat)
 case atStart=>exact⟨0,Nat.zero_le _,rfl,⟨by rw[xba,HI.out];exact At.refl B0.out⟩⟩
 case round=>
  obtain⟨i,hi,rfl,A0⟩:=hrel;by_cases hlt:i<256
  ·have hiz:(i:Int)<256:=by omega
   have hx0:=Hix.out i hlt wr;obtain⟨x,hx⟩:=zev (f i);rw[hx]at hx0;have HV:Ω (F i=hgh g x):=⟨by rw[HFi.out,hx]⟩;have Hp:=xgl x g;obtain⟨h0,hh0⟩:=xaa (hgh g x);obtain⟨l0,hl0⟩:=xaa (lw g x);rw[hh0.out,hl0.out]at Hp;have HU:Ω (upd (pt F f i) i h0=pt F f (i+1)):=⟨xa4 F f i h0 (by rw[HV.out,hh0.out])⟩;clear hx;go_wp2_with fail;refine(Hp _).mono ?_;rintro e w1 ⟨rfl,rfl⟩;go_wp2_with ((with_reducible refine xaf A0 rfl _ _ _ rfl rfl ?_);refine⟨_,_,_,rfl,rfl,rfl,by rw[xad];exact hlt,?_⟩;intro wn HR2;rw[xap,HU.out]at HR2);go_roundw
   case rel=>exact⟨i+1,by omega,by go_num,HR2⟩
   case measure=>simp[intOf];omega
  ·obtain rfl:i=256:=by omega
   simp only[Int.cast_ofNat_Int];rw[xa8,HR.out]at A0;have Hrow:=ω A0.out.row;have Hres:Ω (wr.heap[w.heap.size+1]? = some (.cells z 109 (0,0))):=⟨A0.out.other (by have:=HWs.out;omega) (by omega) B1.out⟩;have HB:Ω (Below w.heap.size w wr):=⟨HWb.out.trans (A0.out.below (by have:=HWs.out;omega) (Nat.le_refl _))⟩;clear A0;go_wp2_with (first
    | (refine wpList_load_row rfl 109 _ rfl w.heap.size rfl 109 R (0,0) _ Hrow.out zX rfl Ri.out ?_)
    | (refine wpList_store_row rfl 109 _ _ rfl (w.heap.size+1) R rfl rfl 109 _ Hres.out Ri.out Rz.out Ro.out ?_))
   refine bodyPost_ret_by (v:=.agg R) (results_cell_row rfl _ _ (w.heap.size+1) 109 _ (0,0) _ rfl (setRow_heap _ _ _ _ _ _ Hres.out) zX rfl Ri.out) rfl ?_;exact⟨rfl,HB.out.trans (below_setRow _ _ _ (by omega))⟩
end r9hi
namespace r9lo
open arr mem stil polys polt fldm rfld rndm r9pa
theorem xkd(f:Nat→Int)(g:Int)(w:World):
 Calls Tryz.prog 77 #[.agg (FL .i64 256 f),.int .i64 g] w (zB w (.agg (FL .i64 256 fun i=>lw g (f i)%8380417))):=by
 obtain⟨hz,hsize⟩:=zero_of_info infoP;obtain⟨z,HZ⟩:=xaa (FL .i64 256 fun _=>0);rw[HZ.out]at hz;have Hzs:=zfs HZ;obtain⟨F,HF⟩:∃ F:Nat→Int,Ω (F=fun i=>lw g (f i)%8380417):=⟨_,⟨rfl⟩⟩;have hFi:∀ i,F i=(fun i=>lw g (f i)%8380417) i:=fun i=>by rw[HF.out]
 have HFi:=ω hFi;rw[←HF.out];clear HF hFi;obtain⟨R,HR⟩:=xaa (FL .i64 256 F);have Ri:=zri HR hsize;have Ro:=zro HR;have Rz:=zrz Hzs HR;obtain⟨I,HI⟩:=xaa (FL .i64 256 f);have Ii:=zri HI hsize;rw[HR.out,HI.out];clear hsize;have Hix:Ω (∀ (i:Nat),i<256→∀ w1:World,(Instr.index 109 (.agg I) (.int .i64 (i:Int))).run Tryz.prog w1=.ok (.int .i64 (f i)) w1):=⟨fun i hi w1=>by rw[←HI.out];exact xd7 f i hi w1⟩;go_enter Tryz.func77,Tryz.ntmps77;go_wp2_with fail;clear hz;obtain⟨W,hW⟩:=zev ((w.alloc (.cells I 109)).alloc (.cells z 109));obtain⟨b0,b1,hWs,hWb⟩:=two hW;rw[hW];clear hW;have B0:=ω b0;have B1:=ω b1;have HWs:Ω (w.heap.size+2≤W.heap.size):=⟨by omega⟩;have HWb:=ω hWb;clear hWs hWb b0 b1;refine wp_load_row 109 _ rfl w.heap.size rfl 109 I (0,0) _ B0.out zX rfl Ii.out ?_;go_wp2_with fail;go_loopw [10] (fun v wr=>∃ i:Nat,i≤256∧v=.int .i64 (i:Int)∧Ω (At w.heap.size (FL .i64 256 (pt F f i)) 109 W wr)) (fun v _=>256-(intOf v).toNat)
 case atStart=>exact⟨0,Nat.zero_le _,rfl,⟨by rw[xba,HI.out];exact At.refl B0.out⟩⟩
 case round=>
  obtain⟨i,hi,rfl,A0⟩:=hrel;by_cases hlt:i<256
  ·have hiz:(i:Int)<256:=by omega
   have hx0:=Hix.out i hlt wr;obtain⟨x,hx⟩:=zev (f i);rw[hx]at hx0;have HV:Ω (F i=lw g x%8380417):=⟨by rw[HFi.out,hx]⟩;have Hp:=xgl x g;obtain⟨h0,hh0⟩:=xaa (hgh g x);obtain⟨l0,hl0⟩:=xaa (lw g x);rw[hh0.out,hl0.out]at Hp;rw[hl0.out]at HV;have Hr:=xai l0;obtain⟨v,hv⟩:=xaa (l0%8380417);rw[hv.out]at Hr;have HU:Ω (upd (pt F f i) i v=pt F f (i+1)):=⟨xa4 F f i v (by rw[HV.out,hv.out])⟩;clear hx;go_wp2_with fail;refine(Hp _).mono ?_;rintro e w1 ⟨rfl,rfl⟩;go_wp2_with fail;refine(Hr _).mono ?_;rintro e w1 ⟨rfl,rfl⟩;go_wp2_with ((with_reducible refine xaf A0 rfl _ _ _ rfl rfl ?_);refine⟨_,_,_,rfl,rfl,rfl,by rw[xad];exact hlt,?_⟩;intro wn HR2;rw[xap,HU.out]at HR2);go_roundw
   case rel=>exact⟨i+1,by omega,by go_num,HR2⟩
   case measure=>simp[intOf];omega
  ·obtain rfl:i=256:=by omega
   simp only[Int.cast_ofNat_Int];rw[xa8,HR.out]at A0;have Hrow:=ω A0.out.row;have Hres:Ω (wr.heap[w.heap.size+1]? = some (.cells z 109 (0,0))):=⟨A0.out.other (by have:=HWs.out;omega) (by omega) B1.out⟩;have HB:Ω (Below w.heap.size w wr):=⟨HWb.out.trans (A0.out.below (by have:=HWs.out;omega) (Nat.le_refl _))⟩;clear A0;go_wp2_with (first
    | (refine wpList_load_row rfl 109 _ rfl w.heap.size rfl 109 R (0,0) _ Hrow.out zX rfl Ri.out ?_)
    | (refine wpList_store_row rfl 109 _ _ rfl (w.heap.size+1) R rfl rfl 109 _ Hres.out Ri.out Rz.out Ro.out ?_))
   refine bodyPost_ret_by (v:=.agg R) (results_cell_row rfl _ _ (w.heap.size+1) 109 _ (0,0) _ rfl (setRow_heap _ _ _ _ _ _ Hres.out) zX rfl Ri.out) rfl ?_;exact⟨rfl,HB.out.trans (below_setRow _ _ _ (by omega))⟩
end r9lo
namespace r7sb
open arr mem stil polys polt fldm rfld
theorem xfj(f g:Nat→Int)(w:World):
 Calls Tryz.prog 78 #[.agg (FL .i64 256 f),.agg (FL .i64 256 g)] w (zB w (.agg (FL .i64 256 fun i=>(f i-g i)%8380417))):=by
 obtain⟨hz,hsize⟩:=zero_of_info infoP;obtain⟨z,HZ⟩:=xaa (FL .i64 256 fun _=>0);rw[HZ.out]at hz;have Hzs:=zfs HZ;obtain⟨F,HF⟩:∃ F:Nat→Int,Ω (F=fun i=>(f i-g i)%8380417):=⟨_,⟨rfl⟩⟩;have hFi:∀ i,F i=(fun i=>(f i-g i)%8380417) i:=fun i=>by rw[HF.out]
 have HFi:=ω hFi;rw[←HF.out];clear HF hFi;obtain⟨R,HR⟩:=xaa (FL .i64 256 F);have Ri:=zri HR hsize;have Ro:=zro HR;have Rz:=zrz Hzs HR;rw[HR.out];have Hred:=ω xai;clear hsize;go_enter Tryz.func78,Tryz.ntmps78;go_wp2_with fail;clear hz;obtain⟨W,hW⟩:=zev (((w.alloc (.cells (FL .i64 256 f) 109)).alloc (.cells (FL .i64 256 g) 109)).alloc (.cells z 109));obtain⟨b0,b1,b2,hWs,hWb⟩:=three hW;rw[hW];clear hW;have B0:=ω b0;have B1:=ω b1;have BR:=ω b2;have HWs:Ω (w.heap.size+3≤W.heap.size):=⟨by omega⟩;have HWb:=ω hWb;clear hWs hWb b0 b1 b2;go_loopw [6] (fun v wr=>∃ i:Nat,i≤256∧v=.int .i64 (i:Int)∧Ω (At w.heap.size (FL .i64 256 (pt F f i)) 109 W wr)) (fun v _=>256-(intOf v).toNat)
 case atStart=>exact⟨0,Nat.zero_le _,rfl,⟨by rw[xba];exact At.refl B0.out⟩⟩
 case round=>
  obtain⟨i,hi,rfl,A0⟩:=hrel;by_cases hlt:i<256
  ·have hiz:(i:Int)<256:=by omega
   obtain⟨x,hx⟩:=zev (f i);have ca:wr.cell? ⟨w.heap.size,i,none⟩=some (.int .i64 x):=by
    have h9:=xaq A0.out.row i hlt;rw[xc0,hx]at h9;exact h9
   obtain⟨y,hy⟩:=zev (g i);have cb:wr.cell? ⟨w.heap.size+1,i,none⟩=some (.int .i64 y):=by
    rw[←hy];exact xaq (A0.out.other (by have:=HWs.out;omega) (by omega) B1.out) i hlt
   have HV:Ω (F i=(x-y)%8380417):=⟨by rw[HFi.out,hx,hy]⟩;obtain⟨x1,hx1⟩:=xaa (x%8380417);obtain⟨y1,hy1⟩:=xaa (y%8380417);have hs:IntKind.i64.wrap (x1-y1)=x1-y1:=by rw[←hx1.out,←hy1.out,IntKind.wrap_i64];omega
   obtain⟨s,hs1⟩:=xaa (x1-y1);have hs2:s%8380417=F i:=by rw[HV.out,←hs1.out,←hx1.out,←hy1.out];omega
   obtain⟨v,hv⟩:=xaa (s%8380417);have Hx:∀ w1:World,Calls Tryz.prog 136 #[.int .i64 x] w1 (zE w1 (.int .i64 x1)):=fun w1=>by rw[←hx1.out];exact xai x w1
   have Hy:∀ w1:World,Calls Tryz.prog 136 #[.int .i64 y] w1 (zE w1 (.int .i64 y1)):=fun w1=>by rw[←hy1.out];exact xai y w1
   have Hs:∀ w1:World,Calls Tryz.prog 136 #[.int .i64 (x1-y1)] w1 (zE w1 (.int .i64 v)):=fun w1=>by rw[hs1.out,←hv.out];exact xai s w1
   have HU:Ω (upd (pt F f i) i v=pt F f (i+1)):=⟨xa4 F f i v (by rw[←hv.out,hs2])⟩;clear hy hs2;clear hx;go_wp2_with fail;refine xay 12 (by kernel_rfl) (by kernel_rfl) ?_;simp only[List.take_succ_cons,List.take_zero,List.drop_succ_cons,List.drop_zero];repeat still_step
   still_call (Hx _)
   repeat still_step
   still_call (Hy _)
   repeat still_step
   still_call (Hs _)
   repeat still_step
   refine wpStill_nil ?_;clear cb;clear ca;have A1:Ω (At w.heap.size (FL .i64 256 (pt F f i)) 109 W wr.drew):=⟨xag A0.out⟩;clear A0
   with_reducible refine xaf A1 rfl _ _ _ rfl rfl ?_
   refine⟨_,_,_,rfl,rfl,rfl,by rw[xad];exact hlt,?_⟩;intro wn HR;rw[xap,HU.out]at HR;go_wp2_with fail;go_roundw
   case rel=>exact⟨i+1,by omega,by go_num,HR⟩
   case measure=>simp[intOf];omega
  ·obtain rfl:i=256:=by omega
   simp only[Int.cast_ofNat_Int];rw[xa8,HR.out]at A0;have Hrow:=ω A0.out.row;have Hres:Ω (wr.heap[w.heap.size+2]? = some (.cells z 109 (0,0))):=⟨A0.out.other (by have:=HWs.out;omega) (by omega) BR.out⟩;have HB:Ω (Below w.heap.size w wr):=⟨HWb.out.trans (A0.out.below (by have:=HWs.out;omega) (Nat.le_refl _))⟩;clear A0;go_wp2_with (first
    | (refine wpList_load_row rfl 109 _ rfl w.heap.size rfl 109 R (0,0) _ Hrow.out zX rfl Ri.out ?_)
    | (refine wpList_store_row rfl 109 _ _ rfl (w.heap.size+2) R rfl rfl 109 _ Hres.out Ri.out Rz.out Ro.out ?_))
   refine bodyPost_ret_by (v:=.agg R) (results_cell_row rfl _ _ (w.heap.size+2) 109 _ (0,0) _ rfl (setRow_heap _ _ _ _ _ _ Hres.out) zX rfl Ri.out) rfl ?_;exact⟨rfl,HB.out.trans (below_setRow _ _ _ (by omega))⟩
end r7sb
namespace r9hn
open arr mem stil polys polt rndm r9hi vary varyn varye pvar
theorem xj1(zf f:Nat→Int)(g:Int)(w:World):
 Calls Tryz.prog 139 #[.agg (FL .i64 256 zf),.agg (FL .i64 256 f),.int .i64 g] w (zB w (.agg (FL .i64 256 fun i=>hn g (zf i) (f i)))):=by
 obtain⟨hz,hsize⟩:=zero_of_info infoP;obtain⟨z,HZ⟩:=xaa (FL .i64 256 fun _=>0);rw[HZ.out]at hz;have Hzs:=zfs HZ;obtain⟨F,HF⟩:∃ F:Nat→Int,Ω (F=fun i=>hn g (zf i) (f i)):=⟨_,⟨rfl⟩⟩;have HFi:Ω (∀ i,F i=hn g (zf i) (f i)):=⟨fun i=>by rw[HF.out]⟩;rw[←HF.out];clear HF;obtain⟨p,HP⟩:∃ p:Nat→Int,Ω (p=fun i=>hgh g (f i)):=⟨_,⟨rfl⟩⟩;obtain⟨s,HS⟩:∃ s:Nat→Int,Ω (s=fun i=>(f i+zf i)%8380417):=⟨_,⟨rfl⟩⟩;obtain⟨q,HQ⟩:∃ q:Nat→Int,Ω (q=fun i=>hgh g (s i)):=⟨_,⟨rfl⟩⟩;have HFq:Ω (∀ i,F i=if p i=q i then 0 else 1):=⟨fun i=>by rw[HFi.out,HQ.out,HS.out,HP.out];rfl⟩;have sz:∀ h:Nat→Int,(Tryz.prog.info? 109).map (·.size)=some (FL .i64 256 h).size:=fun h=>by rw[xad];exact hsize
 obtain⟨R,HR⟩:=xaa (FL .i64 256 F);have Ri:Ω ((Tryz.prog.info? 109).map (·.size)=some R.size):=⟨by rw[←HR.out];exact sz _⟩;have Ro:=zro HR;have Rz:=zrz Hzs HR;obtain⟨I,HI⟩:=xaa (FL .i64 256 f);have Ii:Ω ((Tryz.prog.info? 109).map (·.size)=some I.size):=⟨by rw[←HI.out];exact sz _⟩;obtain⟨J,HJ⟩:=xaa (FL .i64 256 zf);have Ji:Ω ((Tryz.prog.info? 109).map (·.size)=some J.size):=⟨by rw[←HJ.out];exact sz _⟩;obtain⟨S,HSS⟩:=xaa (FL .i64 256 s);have Hh1:Ω (∀ w1:World,Calls Tryz.prog 135 #[.agg I,.int .i64 g] w1 (zB w1 (.agg (FL .i64 256 p)))):=⟨fun w1=>by rw[←HI.out,HP.out];exact xc7 f g w1⟩;have Hh2:Ω (∀ w1:World,Calls Tryz.prog 135 #[.agg S,.int .i64 g] w1 (zB w1 (.agg (FL .i64 256 q)))):=⟨fun w1=>by rw[←HSS.out,HQ.out];exact xc7 s g w1⟩;have Hadd:Ω (∀ w1:World,Calls Tryz.prog 76 #[.agg I,.agg J] w1 (zB w1 (.agg S))):=⟨fun w1=>by rw[←HI.out,←HJ.out,←HSS.out,HS.out];exact radd.xcj f zf w1⟩;rw[HR.out,HI.out,HJ.out];clear hsize sz HP HQ HS HSS HI HJ HFi;go_enter Tryz.func139,Tryz.ntmps139;go_wp2_with fail;obtain⟨W,hW⟩:=zev (((w.alloc (.cells J 109)).alloc (.cells I 109)).alloc (.cells z 109));obtain⟨b0,b1,b2,hWs,hWb⟩:=three hW;rw[hW];clear hW;have B0:=ω b0;have B1:=ω b1;have B2:=ω b2;have HWs:Ω (w.heap.size+3≤W.heap.size):=⟨by omega⟩;have HWb:=ω hWb;clear hWs hWb b0 b1 b2;have Hhz:=ω hz;clear hz;refine xgq [vrP 8 10 2 7 12,vrP 9 11 7 8 17] 8 (by kernel_rfl) (by kernel_rfl) (by kernel_rfl) (by kernel_rfl) (by decide) (fun v hv ρ o w1 ho=>by
  simp only[List.mem_cons,List.not_mem_nil,or_false]at hv;rcases hv with rfl | rfl<;>exact allocP ρ o w1 ho) (by simp[vrP]) (fun ops HO=>?_)
 simp only[List.take_succ_cons,List.take_zero];refine xfs rfl 109 _ rfl _ rfl 109 _ _ (fun w9 hw9=>(hw9.block _ (xac B1.out)).trans B1.out) zX rfl Ii.out ?_;refine xah rfl (fun K hK=>?_);go_simp
 apply Exists.intro;refine⟨fun w9 hw9=>rfl,hK _ ?_⟩;clear hK K;refine xah rfl (fun K hK=>?_);go_simp
 apply Exists.intro;refine⟨fun w9 hw9=>?_,hK _ ?_⟩;exact Hh1.out w9;clear hK K;refine xfs rfl 109 _ rfl _ rfl 109 _ _ (fun w9 hw9=>(hw9.block _ (xac B1.out)).trans B1.out) zX rfl Ii.out ?_;refine xfs rfl 109 _ rfl _ rfl 109 _ _ (fun w9 hw9=>(hw9.block _ (xac B0.out)).trans B0.out) zX rfl Ji.out ?_;refine xah rfl (fun K hK=>?_);go_simp
 apply Exists.intro;refine⟨fun w9 hw9=>?_,hK _ ?_⟩;exact Hadd.out w9;clear hK K;refine xah rfl (fun K hK=>?_);go_simp
 apply Exists.intro;refine⟨fun w9 hw9=>rfl,hK _ ?_⟩;clear hK K;refine xah rfl (fun K hK=>?_);go_simp
 apply Exists.intro;refine⟨fun w9 hw9=>?_,hK _ ?_⟩;exact Hh2.out w9;clear hK K;refine ends2 (FL .i64 256 p) (FL .i64 256 q) rfl (fitsP p) rfl (fitsP q) (by decide) (fun p1 p2 w6 l1 l2 n12 hb6 r1 r2=>?_);simp only[vrP,Act.put,heldb.pa,heldb.pb,heldb.pc]at r1 r2 ⊢;have hz:=Hhz.out;have R1:=ω r1;have R2:=ω r2;have C2:Ω (w6.heap[w.heap.size+2]? = some (.cells z 109 (0,0))):=⟨(hb6.block _ (xac B2.out)).trans B2.out⟩;have Hb6:=zbt HWb hb6;have H6s:Ω (w.heap.size+3≤w6.heap.size):=⟨by have:=hb6.size;have:=HWs.out;omega⟩;have HL:Ω (w.heap.size+3≤p1∧w.heap.size+3≤p2∧p1≠p2):=⟨by have:=HWs.out;omega⟩;clear hb6 l1 l2 n12 B0 B1 B2 HWs HWb Hh1 Hh2 Hadd HO hz Hhz;have A0':Ω (At p1 (FL .i64 256 (pt F p 0)) 109 w6 w6):=⟨At.refl (by rw[xba];exact r1)⟩;clear r1 r2 R1;go_wp2_with fail;go_loopw [18] (fun v wr=>∃ i:Nat,i≤256∧v=.int .i64 (i:Int)∧Ω (At p1 (FL .i64 256 (pt F p i)) 109 w6 wr)) (fun v _=>256-(intOf v).toNat)
 case atStart=>exact⟨0,Nat.zero_le _,rfl,A0'⟩
 case round=>
  obtain⟨i,hi,rfl,A0⟩:=hrel;by_cases hlt:i<256
  ·have hiz:(i:Int)<256:=by omega
   obtain⟨x,hx⟩:=zev (p i);obtain⟨y,hy⟩:=zev (q i);have cx:wr.cell? ⟨p1,i,none⟩=some (.int .i64 x):=by
    have h9:=xaq A0.out.row i hlt;rw[h9];unfold pt;rw[if_neg (Nat.lt_irrefl i),hx]
   have cy:wr.cell? ⟨p2,i,none⟩=some (.int .i64 y):=by rw[←hy];exact xaq (A0.out.other (xac R2.out) (by have:=HL.out;omega) R2.out) i hlt
   have HV:Ω (F i=if x=y then 0 else 1):=⟨by rw[HFq.out,hx,hy]⟩;clear hx hy;by_cases hxy:x=y
   ·subst hxy;have hne:(x==x)=true:=by simp
    have HU:Ω (polys.upd (pt F p i) i 0=pt F p (i+1)):=⟨xa4 F _ i 0 (by rw[HV.out,if_pos rfl])⟩;clear HV;go_wp2_with fail;refine xav (by kernel_rfl) (by kernel_rfl) ?_;repeat still_step
    refine wpStill_nil ?_;clear cx cy;have A1:Ω (At p1 (FL .i64 256 (pt F p i)) 109 w6 wr.drew):=⟨xag A0.out⟩;clear A0;go_wp2_with ((with_reducible refine xaf A1 rfl _ _ _ rfl rfl ?_);refine⟨_,_,_,rfl,rfl,rfl,by rw[xad];exact hlt,?_⟩;intro wn A2;rw[xap,HU.out]at A2);go_roundw
    case rel=>exact⟨i+1,by omega,by go_num,A2⟩
    case measure=>simp[intOf];omega
   ·have hne:(x==y)=false:=by simp[hxy]
    have HU:Ω (polys.upd (pt F p i) i 1=pt F p (i+1)):=⟨xa4 F _ i 1 (by rw[HV.out,if_neg hxy])⟩;clear HV hxy;go_wp2_with fail;refine xav (by kernel_rfl) (by kernel_rfl) ?_;repeat still_step
    refine wpStill_nil ?_;clear cx cy;have A1:Ω (At p1 (FL .i64 256 (pt F p i)) 109 w6 wr.drew):=⟨xag A0.out⟩;clear A0;go_wp2_with ((with_reducible refine xaf A1 rfl _ _ _ rfl rfl ?_);refine⟨_,_,_,rfl,rfl,rfl,by rw[xad];exact hlt,?_⟩;intro wn A2;rw[xap,HU.out]at A2);go_roundw
    case rel=>exact⟨i+1,by omega,by go_num,A2⟩
    case measure=>simp[intOf];omega
  ·obtain rfl:i=256:=by omega
   simp only[Int.cast_ofNat_Int];rw[xa8,HR.out]at A0;have Hrow:=ω A0.out.row;have Hres:Ω (wr.heap[w.heap.size+2]? = some (.cells z 109 (0,0))):=⟨A0.out.other (xac C2.out) (by have:=HL.out;omega) C2.out⟩;have HB:Ω (Below w.heap.size w wr):=⟨Hb6.out.trans (A0.out.below Hb6.out.size (by have:=HL.out;omega))⟩;clear A0;go_wp2_with (first
    | (refine wpList_load_row rfl 109 _ rfl p1 rfl 109 R (0,0) _ Hrow.out zX rfl Ri.out ?_)
    | (refine wpList_store_row rfl 109 _ _ rfl (w.heap.size+2) R rfl rfl 109 _ Hres.out Ri.out Rz.out Ro.out ?_))
   refine bodyPost_ret_by (v:=.agg R) (results_cell_row rfl _ _ (w.heap.size+2) 109 _ (0,0) _ rfl (setRow_heap _ _ _ _ _ _ Hres.out) zX rfl Ri.out) rfl ?_;exact⟨rfl,HB.out.trans (below_setRow _ _ _ (by omega))⟩
end r9hn
namespace r7sz
open arr mem stil polys polt fldm rfld
theorem xb1(g n c:Nat)(p:Nat→Nat→Int)(w:World)(hn:n≤1000000000000)(hg:g<w.heap.size)(hc:∀ j,j<n→w.rangeAt g (256*j) (FL .i64 256 (p j)).toList):
 Calls Tryz.prog 79 #[.slice (some ⟨g,0,none⟩) n c] w (zB w (.int .i64 (cbs p n))):=by
 obtain⟨hz,hsize⟩:=zero_of_info infoP;obtain⟨z,HZ⟩:=xaa (FL .i64 256 fun _=>0);rw[HZ.out]at hz;have Hzs:=zfs HZ;clear HZ;have HR:=ω hc;clear hc;go_enter Tryz.func79,Tryz.ntmps79;go_wp2_with fail;go_loopw [11,3] (fun v m wr=>∃ i:Nat,i≤n∧v=.int .i64 (i:Int)∧m=.int .i64 (cbs p i)∧Ω (Below w.heap.size w wr)) (fun v _ _=>n-(intOf v).toNat)
 case atStart=>exact⟨0,Nat.zero_le _,rfl,rfl,⟨Below.refl _ _⟩⟩
 case round=>
  obtain⟨i,hi,rfl,rfl,BW⟩:=hrel;by_cases hlt:i<n
  ·have hiz:(i:Int)<(n:Int):=by omega
   have Hrg:Ω (wr.rangeAt g (256*i) (FL .i64 256 (p i)).toList):=⟨fun j v hv=>by rw[BW.out.cell (p:=⟨g,256*i+j,none⟩) hg];exact HR.out i hlt j v hv⟩;have Hidx:Ω (∀ k:Nat,k<256→∀ w1,(Instr.index 109 (.agg (FL .i64 256 (p i))) (.int .i64 (k:Int))).run Tryz.prog w1=.ok (.int .i64 (p i k)) w1):=⟨fun k hk w1=>xd7 (p i) k hk w1⟩;have Fs:Ω ((FL .i64 256 (p i)).size=256):=⟨xad _ _ _⟩;have Fo:Ω ((FL .i64 256 (p i)).all (·.oneCell')=true):=⟨xbf _ _ _⟩;obtain⟨F,HF⟩:=xaa (FL .i64 256 (p i));rw[HF.out]at Hrg Hidx Fs Fo;have Fi:=zsz Fs hsize;obtain⟨W4,hW4⟩:=zev (wr.alloc (.cells F 109));have HW4:=ω hW4;have r4:=zhp hW4;have B4:Ω (Below w.heap.size w W4):=⟨by rw[←hW4];exact BW.out.trans ((xbg _ _).mono BW.out.size)⟩;obtain⟨m,hm⟩:=zev (cbs p i);have hmb:=xf1 p i;have Hs:Ω (cbs p (i+1)=max m (cb (p i) 256)):=⟨by rw[cbs,hm]⟩;rw[hm]at hmb ⊢;obtain⟨i256,hi256⟩:=zev (256*i);rw[hi256]at Hrg;have fi256:i*256=i256:=by omega
   clear hW4 HF hi256 BW hm;go_wp2_with (first
    | ((with_reducible refine wpList_load_mid rfl 109 _ rfl g i256 ?hx F.toList _ Hrg.out zX rfl ?hi ?_);(case hx=>rfl);(case hi=>rw[Array.length_toList];exact Fi.out))
    | ((with_reducible refine xam rfl 109 _ _ rfl F ?hx ?hy ?hi ?ho ?h1 ?hn ?_);(case hx=>rfl);(case hy=>rfl);(case hi=>exact Fi.out);(case ho=>rw[Hzs.out,Fs.out]);(case h1=>exact Fo.out);(case hn=>rfl);rw[HW4.out])
    | (refine wpList_load_row rfl 109 _ rfl wr.heap.size rfl 109 F (0,0) _ r4.out zX rfl Fi.out ?_))
   have Hi:=ω hlt;go_loopw [16,3] (fun v c wr=>∃ k:Nat,k≤256∧v=.int .i64 (k:Int)∧c=.int .i64 (max m (cb (p i) k))∧W4=wr) (fun v _ _=>256-(intOf v).toNat)
   case atStart=>exact⟨0,Nat.zero_le _,rfl,by rw[cb];congr 1;omega,rfl⟩
   case round=>
    obtain⟨k,hk,rfl,rfl,rfl⟩:=hrel;by_cases hlk:k<256
    ·have hkz:(k:Int)<256:=by omega
     have cc:=Hidx.out k hlk;obtain⟨x,hx⟩:=zev (p i k);rw[hx]at cc;obtain⟨q,hq⟩:=zev (max m (cb (p i) k));have hqb : 0≤q∧q≤4190208:=by have:=xhc (p i) k;omega
     obtain⟨d,hcc⟩:=xaa (ce 8380417 x);have hcb:=xjk x;rw[hcc.out]at hcb;obtain⟨e,hk'⟩:=xaa (-d);have Ht:Ω (max m (cb (p i) (k+1))=max q (max d e)):=⟨by rw[cb,hx,hcc.out,hk'.out];omega⟩;have Hx:∀ w1:World,Calls Tryz.prog 138 #[.int .i64 x,.int .i64 8380417] w1 (zE w1 (.int .i64 d)):=fun w1=>by rw[←hcc.out];exact xcv x 8380417 w1
     have hw:IntKind.i64.wrap (-d)=e:=by rw[IntKind.wrap_i64];have:=hk'.out;omega
     rw[hq];clear hx hq;go_wp2_with fail;refine(Hx _).mono ?_;rintro e3 w3 ⟨rfl,hw3⟩;subst hw3;go_wp2_with fail;all_goals go_roundw
     case rel=>exact⟨k+1,by omega,by go_num,by rw[Ht.out];congr 1;omega,by first | trivial | rfl⟩
     case measure=>simp[intOf];omega
    ·obtain rfl:k=256:=by omega
     simp only[Int.cast_ofNat_Int];go_wp2_with fail;all_goals go_roundw
     case rel=>exact⟨i+1,by omega,by go_num,by rw[Hs.out],B4⟩
     case measure=>simp[intOf];omega
  ·obtain rfl:i=n:=by omega
   go_wp2_with fail;go_ret;exact⟨rfl,BW.out⟩
end r7sz
namespace rbita
open arr mem
theorem xcn(n:Int)(hn:n<9223372036854775808)(w:World):Calls Tryz.prog 125 #[.int .i64 n] w (zE w (.int .i64 ((lb n.toNat:Nat):Int))):=by
 go_enter Tryz.func125,Tryz.ntmps125;go_wp2_with fail;go_loopw [0,3] (fun v k wr=>wr=w∧∃ (z:Int) (c:Nat),v=.int .i64 z∧k=.int .i64 (c:Int)∧z<9223372036854775808∧c+lb z.toNat=lb n.toNat∧c≤64) (fun v _ _=>(intOf v).toNat)
 case atStart=>exact⟨rfl,n,0,rfl,rfl,hn,by omega,by omega⟩
 case round=>
  obtain⟨rfl,z,c,rfl,rfl,hz,hc,hc64⟩:=hrel;by_cases h0 : 0<z
  ·have hb:=xsp z.toNat (by omega) (by omega);have hs:=(xc9 64 z.toNat (by omega)).2.2;have hn64:=(xc9 64 n.toNat (by omega)).2.2;have hn64':lb n.toNat≤64:=hn64;go_wp2_with fail;go_roundw
   case rel=>exact⟨by first | trivial | rfl,z / 2,c+1,by go_num,by go_num,by omega,by rw[show (z / 2).toNat=z.toNat / 2 by omega];omega,by omega⟩
   case measure=>simp[intOf];omega
  ·have hz0:z.toNat=0:=by omega
   have hl:lb 0=0:=rfl;rw[hz0,hl,Nat.add_zero]at hc;go_wp2_with fail;go_ret;exact⟨rfl,rfl⟩
end rbita
namespace rbitb
open arr mem stil bitm rbita
theorem xrk(g cap n wd M:Nat)(L:List Nat)(w:World)(hl:L.length=n)(hn:n≤256)(hw:wd≤23)(hM0 : 0<M)(hM:(n*wd+7) / 8=M)(hL:∀ x∈L,x<2 ^ wd)(hg:g<w.heap.size)(hcell:∀ i,i<n→w.cell? ⟨g,i,none⟩=some (.int .i64 ((L.getD i 0:Nat):Int))):
 Calls Tryz.prog 171 #[.slice (some ⟨g,0,none⟩) n cap,.int .i64 (wd:Int)] w (zB w (.string ⟨(u8s (nb 8 M (pk wd L))).toArray⟩)):=by
 obtain⟨i0,hi,hz0,hz1,hz2⟩:=parts infoByte;have HI:=ω (And.intro hi (And.intro hz0 (And.intro hz1 hz2)));have hnw:n*wd≤256*23:=Nat.mul_le_mul hn hw;obtain⟨nw,hnw2⟩:=zev (n*wd);have fnw:(n:Int)*(wd:Int)=(nw:Int):=by rw[←hnw2,Int.natCast_mul]
 have fnww:IntKind.i64.wrap ((n:Int)*(wd:Int))=(nw:Int):=by rw[fnw,IntKind.wrap_i64];omega
 rw[hnw2]at hM hnw;have HnwM:Ω (wd*n≤8*M):=⟨by rw[Nat.mul_comm,hnw2];omega⟩;have fM:((nw:Int)+7).tdiv 8=(M:Int):=by rw[Int.tdiv_eq_ediv_of_nonneg (by omega)];omega
 have fM2:((nw:Int)+7) / 8=(M:Int):=by omega
 have Hcell:=ω hcell;have HL:=ω hL;have Hl:=ω hl;obtain⟨R,HR⟩:=xaa (u8s (nb 8 M (pk wd L)));have HRn:Ω (pk wd L%2 ^ (wd*n)=pk wd L):=⟨Nat.mod_eq_of_lt (by rw[←hl];exact xkv wd L hL)⟩;rw[HR.out];clear hi hz0 hz1 hz2 hcell hL hl hnw2;go_enter Tryz.func171,Tryz.ntmps171;go_wp2_with (at_make;refine wpList_make_full _ rfl (.tmp 15) (.tmp 15) 49 rfl w.heap.size 5 i0 (.int .u8 0) 1 Tryz.underlying49 HI.out.1 HI.out.2.1 HI.out.2.2.1 .i64 .i64 M M M rfl rfl rfl rfl (by rw[HI.out.2.2.2];omega) (by unfold maxLen;omega) (Nat.le_refl _) ?_);intro w3 hown hgr;have hb3:Below w.heap.size w w3:=(Below.refl _ _).grown hgr (Nat.le_refl _) (fun k hk=>by simp at hk);obtain⟨cur,hcur,hcl⟩:=xkq hown;have e0:cur=LK .u8 (nb 8 M (pk wd L%2 ^ (wd*0))):=by
  apply Array.ext';rw[hcl,Nat.mul_zero,Nat.pow_zero,Nat.mod_one,xtb];simp only[toList_madeCells_one];simp[LK]
 rw[e0]at hcur;have A3:Ω (At w.heap.size (LK .u8 (nb 8 M (pk wd L%2 ^ (wd*0)))) 5 w3 w3):=⟨At.refl hcur⟩;have HB3:=ω hb3;have h38:=xac hcur;clear hown hgr hb3 hcl e0 hcur fM fM2 fnw fnww;go_wp2_with fail;go_loopw [19] (fun v wr=>∃ i:Nat,i≤n∧v=.int .i64 (i:Int)∧Ω (At w.heap.size (LK .u8 (nb 8 M (pk wd L%2 ^ (wd*i)))) 5 w3 wr)) (fun v _=>n-(intOf v).toNat)
 case atStart=>exact⟨0,Nat.zero_le _,rfl,A3⟩
 case round=>
  clear A3;obtain⟨i,hi,rfl,A0⟩:=hrel;by_cases hlt:i<n
  ·have hiz:(i:Int)<(n:Int):=by omega
   have BW:Ω (Below w.heap.size w wr):=⟨HB3.out.trans (A0.out.below (by omega) (Nat.le_refl _))⟩;obtain⟨x,hx⟩:=zev (L.getD i 0);have hxl:x<2 ^ wd:=by
    rw[←hx,List.getD_eq_getElem?_getD,List.getElem?_eq_getElem (by rw[Hl.out];exact hlt)];exact HL.out _ (List.getElem_mem _)
   have hx23:x<8388608:=Nat.lt_of_lt_of_le hxl (Nat.pow_le_pow_right (by decide) hw);have cx:wr.cell? ⟨g,i,none⟩=some (.int .i64 (x:Int)):=by
    rw[←hx,BW.out.cell (p:=⟨g,i,none⟩) hg];exact Hcell.out i hlt
   have Hx:=ω hx;have hiw:wd*i≤23*256:=Nat.mul_le_mul hw (by omega);obtain⟨iw,hiw2⟩:=zev (wd*i);have fi:(i:Int)*(wd:Int)=(iw:Int):=by rw[←hiw2,Int.natCast_mul,Int.mul_comm]
   have fiw:IntKind.i64.wrap ((i:Int)*(wd:Int))=(iw:Int):=by rw[fi,IntKind.wrap_i64];omega
   have Hiw:=ω hiw2;have hiwM:iw+wd≤8*M:=by
    have h1:wd*(i+1)≤wd*n:=Nat.mul_le_mul_left _ hlt;rw[Nat.mul_succ,hiw2]at h1;have:=HnwM.out;omega
   rw[hiw2]at hiw;clear hx hxl hiw2;go_wp2_with fail;clear cx;go_loopw [25] (fun v wr=>∃ k:Nat,k≤wd∧v=.int .i64 (k:Int)∧Ω (At w.heap.size (LK .u8 (nb 8 M (pk wd L%2 ^ (wd*i+k)))) 5 w3 wr)) (fun v _=>wd-(intOf v).toNat)
   case atStart=>exact⟨0,Nat.zero_le _,rfl,A0⟩
   case round=>
    clear A0;obtain⟨k,hk,rfl,A0⟩:=hrel;by_cases hklt:k<wd
    ·have hkz:(k:Int)<(wd:Int):=by omega
     obtain⟨m,hm⟩:=zev (iw+k);obtain⟨j,hj⟩:=zev (m / 8);obtain⟨r,hr⟩:=zev (m%8);obtain⟨y,hy⟩:=zev (x / 2 ^ k);have hyx:y≤x:=by rw[←hy];exact Nat.div_le_self _ _
     obtain⟨b,hb⟩:=zev (y%2);obtain⟨β,hβ⟩:∃ β,pk wd L%2 ^ m / 2 ^ (8*j)%2 ^ 8 = β := ⟨_,rfl⟩;have hβ8 : β < 256:=by rw[←hβ];exact Nat.mod_lt _ (by decide)
     obtain⟨c,hc⟩:=zev (b*2 ^ r);have hr7:r≤7:=by omega
     have hc8:c<256:=by
      rw[←hc];have h1 : 2 ^ r≤2 ^ 7:=Nat.pow_le_pow_right (by decide) hr7;have h2:b*2 ^ r≤1*2 ^ r:=Nat.mul_le_mul_right _ (by omega);omega
     obtain⟨v,hv⟩:=zev (β ||| c);have V:=or_u8 β c hβ8 hc8;rw[hv]at V;have HS:Ω ((nb 8 M (pk wd L%2 ^ (wd*i+k))).set j v=nb 8 M (pk wd L%2 ^ (wd*i+(k+1)))):=⟨by
      have h9:=xst wd n M L Hl.out HL.out i k hlt hklt v (by rw[Hiw.out,hm,hj,hr,hβ,Hx.out,hy,hb,hc,hv]);rw[Hiw.out,hm,hj]at h9;rw[Hiw.out,hm];exact h9⟩
     have fk:(x:Int) / 2 ^ k=(y:Int):=by rw[←hy];simp
     have fm:(iw:Int)+(k:Int)=(m:Int):=by omega
     have fmw:IntKind.i64.wrap ((iw:Int)+(k:Int))=(m:Int):=by rw[fm,IntKind.wrap_i64];omega
     have fj:(m:Int).tdiv 8=(j:Int):=by rw[Int.tdiv_eq_ediv_of_nonneg (by omega)];omega
     have fj2:(m:Int) / 8=(j:Int):=by omega
     have fr:(m:Int).tmod 8=(r:Int):=by rw[Int.tmod_eq_emod_of_nonneg (by omega)];omega
     have fr2:(m:Int)%8=(r:Int):=by omega
     have fku:IntKind.u64.wrap (k:Int)=(k:Int):=by rw[IntKind.wrap_u64];omega
     have fru:IntKind.u64.wrap (r:Int)=(r:Int):=by rw[IntKind.wrap_u64];omega
     have fand:=and_one y (by omega);rw[hb]at fand;have fb8:IntKind.u8.wrap (b:Int)=(b:Int):=by rw[IntKind.wrap_u8];omega
     have fb82:(b:Int)%256=(b:Int):=by omega
     have fc:(b:Int)*2 ^ r=(c:Int):=by rw[←hc,Int.natCast_mul,Int.natCast_pow];rfl
     have fc2:(c:Int)%256=(c:Int):=by omega
     have fcw:IntKind.u8.wrap (c:Int)=(c:Int):=by rw[IntKind.wrap_u8];omega
     have hjM:j<M:=by omega
     have cb:wr.cell? ⟨w.heap.size,j,none⟩=some (.int .u8 (β : Int)):=by
      rw[A0.out.cell,xar .u8 _ j (by rw[xb6];exact hjM),List.getD_eq_getElem?_getD,xed 8 M _ j hjM,Hiw.out,hm,hβ];rfl
     have HjM:=ω hjM;have hk63:k<64:=by omega
     clear hm hj hr hy hb hβ hc hv;go_wp2_with ((with_reducible refine xaf A0 rfl _ _ _ rfl rfl ?_);refine⟨_,_,_,rfl,rfl,rfl,(by rw[xak,xb6];exact HjM.out),?_⟩;intro wn HR;rw[xcm,HS.out]at HR);go_roundw
     case rel=>exact⟨k+1,by omega,by go_num,HR⟩
     case measure=>simp[intOf];omega
    ·obtain rfl:k=wd:=by omega
     have A1:Ω (At w.heap.size (LK .u8 (nb 8 M (pk k L%2 ^ (k*(i+1))))) 5 w3 wr):=⟨by rw[Nat.mul_succ];exact A0.out⟩;clear A0;go_wp2_with fail;go_roundw
     case rel=>exact⟨i+1,by omega,by go_num,A1⟩
     case measure=>simp[intOf];omega
  ·obtain rfl:i=n:=by omega
   rw[HRn.out]at A0;have hcv:=xc6 (cap:=M) (xb6 8 M _) (fun x hx=>xgb 8 M _ x hx) A0.out.row;rw[HR.out]at hcv;have BW:Ω (Below w.heap.size w wr):=⟨HB3.out.trans (A0.out.below (by omega) (Nat.le_refl _))⟩;clear A0;go_wp2_with fail;go_ret;exact⟨rfl,BW.out⟩
end rbitb
namespace rbitd
open arr mem stil bitm polys rbita rbitb rbitc
theorem xds(f:Nat→Int)(most:Int)(w:World)(h1 : 1≤most)(h2:most<8380417):
 Calls Tryz.prog 134 #[.agg (FL .i64 256 f),.int .i64 most] w (zB w (if inb f most then .tuple #[.string (packed f most),.int .i64 0] else .tuple #[.string ⟨#[]⟩,.int .i64 6])):=by
 obtain⟨i0,hi,hz0,hz1,hz2⟩:=parts infoInt;have HI:=ω (And.intro hi (And.intro hz0 (And.intro hz1 hz2)));obtain⟨wd,hwd⟩:=zev (lb most.toNat);have hsp:=xc9 64 most.toNat (by omega);have hw23:wd≤23:=by
  have h3:most.toNat<2 ^ 23:=by omega
  have h4:lb most.toNat=lbf 23 most.toNat:=xj8 23 64 _ h3 (by decide);rw[←hwd,h4];exact(xc9 23 _ h3).2.2
 have hlt2:most.toNat<2 ^ wd:=by rw[←hwd];exact hsp.1
 have hpos : 0<wd:=by rw[←hwd];exact(hsp.2.1 (by omega)).1
 obtain⟨O,HO⟩:=xaa (packed f most);have HB:Ω (∀ (g cap:Nat) (w1:World),inb f most→g<w1.heap.size→(∀ i,i<256→w1.cell? ⟨g,i,none⟩=some (.int .i64 (f i)))→Calls Tryz.prog 171 #[.slice (some ⟨g,0,none⟩) 256 cap,.int .i64 (wd:Int)] w1 (zB w1 (.string O))):=⟨fun g cap w1 hin hg hc=>by
  rw[←HO.out,packed,hwd];have hM:(256*wd+7) / 8=32*wd:=by omega
  refine rbitb.xrk g cap 256 wd (32*wd) (ns f) w1 (by simp[ns]) (by decide) hw23 (by omega) hM (fun x hx=>?_) hg (fun i hi=>?_)
  ·obtain⟨i,hi,rfl⟩:=List.mem_map.1 hx;have:=hin i (List.mem_range.1 hi);omega
  ·have h9:=(hin i hi).1;have e:(ns f).getD i 0=(f i).toNat:=by
    unfold ns;rw[List.getD_eq_getElem?_getD,List.getElem?_map,List.getElem?_range hi];rfl
   rw[e,Int.toNat_of_nonneg h9];exact hc i hi⟩
 have HLg:Ω (∀ w1:World,Calls Tryz.prog 125 #[.int .i64 most] w1 (zE w1 (.int .i64 (wd:Int)))):=⟨fun w1=>by rw[←hwd];exact xcn most (by omega) w1⟩;rw[HO.out];have Hidx:Ω (∀ i:Nat,i<256→∀ w1,(Instr.index 109 (.agg (FL .i64 256 f)) (.int .i64 (i:Int))).run Tryz.prog w1=.ok (.int .i64 (f i)) w1):=⟨fun i hi w1=>xb5 (P:=Tryz.prog) zX (by kernel_rfl) (by kernel_rfl) (by kernel_rfl) _ _ i hi (xa9 .i64 256 f i hi) w1⟩;have Fi:Ω ((Tryz.prog.info? 109).map (·.size)=some (FL .i64 256 f).size):=⟨by rw[xad];exact sizeP⟩;obtain⟨F,HF⟩:=xaa (FL .i64 256 f);rw[HF.out]at Hidx Fi ⊢;obtain⟨W,hW⟩:=zev (w.alloc (.cells F 109));have HW:=ω hW;have BW:=zba hW;have hrow:=zhp hW;have h1':¬ most<1:=by omega
 have h2':¬ 8380417≤most:=by omega
 obtain⟨V,HV⟩:=xaa (if inb f most then Value.tuple #[.string O,.int .i64 0] else .tuple #[.string ⟨#[]⟩,.int .i64 6]);rw[HV.out];have H12:=ω (And.intro h1 h2);clear hW hi hz0 hz1 hz2 hwd hsp hlt2 HF HO h1 h2;go_enter Tryz.func134,Tryz.ntmps134;go_wp2_with (first
  | (rw[HW.out])
  | (refine wpList_load_row rfl 109 _ rfl w.heap.size rfl 109 F (0,0) _ hrow.out zX rfl Fi.out ?_))
 go_loopw [6,16] (fun v c wr=>∃ j:Nat,j≤256∧c=.int .i64 (j:Int)∧Ω (∀ i,i<j→0≤f i∧f i≤most)∧Ω (wr.ownsRow W.heap.size 3 1 v j (cs f j))∧Ω (Below W.heap.size W wr)) (fun _ c _=>256-(intOf c).toNat)
 case atStart=>exact⟨0,Nat.zero_le _,rfl,⟨fun i hi=>by omega⟩,⟨⟨rfl,Or.inl ⟨rfl,rfl⟩⟩⟩,⟨Below.refl _ _⟩⟩
 case round=>
  obtain⟨j,hj,rfl,Hin,Ho,Hb⟩:=hrel;by_cases hlt:j<256
  ·have hjz:(j:Int)<256:=by omega
   have hidx:=Hidx.out j hlt;obtain⟨x,hx⟩:=zev (f j);rw[hx]at hidx;by_cases hbad:x<0∨most<x
   ·have hV:Ω (V=.tuple #[.string ⟨#[]⟩,.int .i64 6]):=⟨by rw[←HV.out,if_neg];intro hall;have:=hall j hlt;rw[hx]at this;omega⟩;have BE:=zbt BW Hb.out;clear hx;rcases hbad with hb1 | hb1
    ·go_wp2_with fail;go_ret2;exact⟨by rw[hV.out];rfl,BE.out⟩
    ·by_cases hb0:x<0
     ·go_wp2_with fail;go_ret2;exact⟨by rw[hV.out];rfl,BE.out⟩
     ·go_wp2_with fail;go_ret2;exact⟨by rw[hV.out];rfl,BE.out⟩
   ·have hb0:¬ x<0:=by omega
    have hb1:¬ most<x:=by omega
    have Hin2:Ω (∀ i,i<j+1→0≤f i∧f i≤most):=⟨fun i hi=>by
     by_cases e:i=j
     ·subst e;rw[hx];omega
     ·exact Hin.out i (by omega)⟩
    have Hc:Ω (cs f (j+1)=cs f j ++ [.int .i64 x]):=⟨by rw[xrq,hx]⟩;have hwx:=Hb.out.size;clear hx hbad;go_wp2_with (at_builtin;refine wpList_append_own _ rfl _ _ 54 rfl W.heap.size 3 i0 (.int .i64 0) 1 8 Tryz.underlying54 HI.out.1 HI.out.2.1 HI.out.2.2.1 HI.out.2.2.2 rfl (by decide) _ _ _ rfl (Ho.out.alloc _) ⟨wr.heap.size,0,none⟩ 1 1 [.int .i64 x] rfl rfl xbc (fun u hu=>by simp at hu;subst hu;rfl) (by unfold maxLen;omega) (by omega) (by rw[size_alloc];omega) ?_);intro v' w4 hown' hgrow _;have hb4:Below W.heap.size wr w4:=((Below.refl W.heap.size wr).alloc hwx _).grown hgrow (by rw[size_alloc];omega) (fun k hk=>(Ho.out.lt k hk).1);have HB4:Ω (Below W.heap.size W w4):=⟨Hb.out.trans hb4⟩;have OY:Ω (w4.ownsRow W.heap.size 3 1 v' (j+1) (cs f (j+1))):=⟨by rw[Hc.out];exact hown'⟩;clear hown' hgrow hb4 hidx;go_wp2_with fail;go_roundw
    case rel=>exact⟨j+1,by omega,by go_num,Hin2,OY,HB4⟩
    case measure=>simp[intOf];omega
  ·obtain rfl:j=256:=by omega
   simp only[Int.cast_ofNat_Int];obtain⟨g',cap',rfl⟩:=xbh (by decide) Ho.out;have hall:inb f most:=Hin.out;have hV:Ω (V=.tuple #[.string O,.int .i64 0]):=⟨by rw[←HV.out,if_pos hall]⟩;have C1:=ω (HB.out g' cap' wr hall (Ho.out.lt g' rfl).2 (fun i hi=>by
    have h9:=Ho.out.cellAt i (by omega);rw[h9];unfold cs;rw[List.getElem?_map,List.getElem?_range hi];rfl))
   have BE:=zbt BW Hb.out;clear hall hj hlt;go_wp2_with fail;refine(HLg.out _).mono ?_;rintro e w5 ⟨rfl,rfl⟩;go_wp2_with fail;refine C1.out.mono ?_;rintro e w6 ⟨rfl,h6⟩;have BF:=zbt BE h6;clear h6;go_wp2_with fail;go_ret2;exact⟨by rw[hV.out];rfl,BF.out⟩
end rbitd
namespace kecf
open kstep (Z)
open kecm keca spgm rspd
def st{α : Type}(n:Nat)(k:Nat → α) : α := match n with
 | 0=>k 0
 | m+1=>k m.succ
theorem xa7{α : Type}(n:Nat)(k:Nat → α):st n k=k n:=by cases n<;>rfl
def sl{α : Type}:List Nat→(List Nat → α) → α
 | [],k=>k []
 | x :: r,k=>st x fun x=>sl r fun r=>k (x :: r)
theorem xfh{α : Type}(l:List Nat)(k:List Nat → α):sl l k=k l:=by
 induction l generalizing k with
 | nil=>rfl
 | cons x r ih=>rw[sl,xa7,ih]
def mixS{α : Type}(k:List Nat → α):List Nat → α
 | [a0,a1,a2,a3,a4,a5,a6,a7,a8,a9,a10,a11,a12,a13,a14,a15,a16,a17,a18,a19,a20,a21,a22,a23,a24]=>
  st (Nat.xor (Nat.xor (Nat.xor (Nat.xor a0 a5) a10) a15) a20) fun c0=>
  st (Nat.xor (Nat.xor (Nat.xor (Nat.xor a1 a6) a11) a16) a21) fun c1=>
  st (Nat.xor (Nat.xor (Nat.xor (Nat.xor a2 a7) a12) a17) a22) fun c2=>
  st (Nat.xor (Nat.xor (Nat.xor (Nat.xor a3 a8) a13) a18) a23) fun c3=>
  st (Nat.xor (Nat.xor (Nat.xor (Nat.xor a4 a9) a14) a19) a24) fun c4=>
  st (Nat.xor c4 (Nat.lor (Nat.mod (Nat.mul c1 2) 18446744073709551616) (Nat.div c1 9223372036854775808))) fun d0=>
  st (Nat.xor c0 (Nat.lor (Nat.mod (Nat.mul c2 2) 18446744073709551616) (Nat.div c2 9223372036854775808))) fun d1=>
  st (Nat.xor c1 (Nat.lor (Nat.mod (Nat.mul c3 2) 18446744073709551616) (Nat.div c3 9223372036854775808))) fun d2=>
  st (Nat.xor c2 (Nat.lor (Nat.mod (Nat.mul c4 2) 18446744073709551616) (Nat.div c4 9223372036854775808))) fun d3=>
  st (Nat.xor c3 (Nat.lor (Nat.mod (Nat.mul c0 2) 18446744073709551616) (Nat.div c0 9223372036854775808))) fun d4=>
  st (Nat.xor a0 d0) fun m0=>
  st (Nat.xor a1 d1) fun m1=>
  st (Nat.xor a2 d2) fun m2=>
  st (Nat.xor a3 d3) fun m3=>
  st (Nat.xor a4 d4) fun m4=>
  st (Nat.xor a5 d0) fun m5=>
  st (Nat.xor a6 d1) fun m6=>
  st (Nat.xor a7 d2) fun m7=>
  st (Nat.xor a8 d3) fun m8=>
  st (Nat.xor a9 d4) fun m9=>
  st (Nat.xor a10 d0) fun m10=>
  st (Nat.xor a11 d1) fun m11=>
  st (Nat.xor a12 d2) fun m12=>
  st (Nat.xor a13 d3) fun m13=>
  st (Nat.xor a14 d4) fun m14=>
  st (Nat.xor a15 d0) fun m15=>
  st (Nat.xor a16 d1) fun m16=>
  st (Nat.xor a17 d2) fun m17=>
  st (Nat.xor a18 d3) fun m18=>
  st (Nat.xor a19 d4) fun m19=>
  st (Nat.xor a20 d0) fun m20=>
  st (Nat.xor a21 d1) fun m21=>
  st (Nat.xor a22 d2) fun m22=>
  st (Nat.xor a23 d3) fun m23=>
  st (Nat.xor a24 d4) fun m24=>
  k [m0,m1,m2,m3,m4,m5,m6,m7,m8,m9,m10,m11,m12,m13,m14,m15,m16,m17,m18,m19,m20,m21,m22,m23,m24]
 | _=>k []
def turnS{α : Type}(k:List Nat → α):List Nat → α
 | [a0,a1,a2,a3,a4,a5,a6,a7,a8,a9,a10,a11,a12,a13,a14,a15,a16,a17,a18,a19,a20,a21,a22,a23,a24]=>
  st (Nat.lor (Nat.mod (Nat.mul a0 1) 18446744073709551616) (Nat.div a0 18446744073709551616)) fun b0=>
  st (Nat.lor (Nat.mod (Nat.mul a6 17592186044416) 18446744073709551616) (Nat.div a6 1048576)) fun b1=>
  st (Nat.lor (Nat.mod (Nat.mul a12 8796093022208) 18446744073709551616) (Nat.div a12 2097152)) fun b2=>
  st (Nat.lor (Nat.mod (Nat.mul a18 2097152) 18446744073709551616) (Nat.div a18 8796093022208)) fun b3=>
  st (Nat.lor (Nat.mod (Nat.mul a24 16384) 18446744073709551616) (Nat.div a24 1125899906842624)) fun b4=>
  st (Nat.lor (Nat.mod (Nat.mul a3 268435456) 18446744073709551616) (Nat.div a3 68719476736)) fun b5=>
  st (Nat.lor (Nat.mod (Nat.mul a9 1048576) 18446744073709551616) (Nat.div a9 17592186044416)) fun b6=>
  st (Nat.lor (Nat.mod (Nat.mul a10 8) 18446744073709551616) (Nat.div a10 2305843009213693952)) fun b7=>
  st (Nat.lor (Nat.mod (Nat.mul a16 35184372088832) 18446744073709551616) (Nat.div a16 524288)) fun b8=>
  st (Nat.lor (Nat.mod (Nat.mul a22 2305843009213693952) 18446744073709551616) (Nat.div a22 8)) fun b9=>
  st (Nat.lor (Nat.mod (Nat.mul a1 2) 18446744073709551616) (Nat.div a1 9223372036854775808)) fun b10=>
  st (Nat.lor (Nat.mod (Nat.mul a7 64) 18446744073709551616) (Nat.div a7 288230376151711744)) fun b11=>
  st (Nat.lor (Nat.mod (Nat.mul a13 33554432) 18446744073709551616) (Nat.div a13 549755813888)) fun b12=>
  st (Nat.lor (Nat.mod (Nat.mul a19 256) 18446744073709551616) (Nat.div a19 72057594037927936)) fun b13=>
  st (Nat.lor (Nat.mod (Nat.mul a20 262144) 18446744073709551616) (Nat.div a20 70368744177664)) fun b14=>
  st (Nat.lor (Nat.mod (Nat.mul a4 134217728) 18446744073709551616) (Nat.div a4 137438953472)) fun b15=>
  st (Nat.lor (Nat.mod (Nat.mul a5 68719476736) 18446744073709551616) (Nat.div a5 268435456)) fun b16=>
  st (Nat.lor (Nat.mod (Nat.mul a11 1024) 18446744073709551616) (Nat.div a11 18014398509481984)) fun b17=>
  st (Nat.lor (Nat.mod (Nat.mul a17 32768) 18446744073709551616) (Nat.div a17 562949953421312)) fun b18=>
  st (Nat.lor (Nat.mod (Nat.mul a23 72057594037927936) 18446744073709551616) (Nat.div a23 256)) fun b19=>
  st (Nat.lor (Nat.mod (Nat.mul a2 4611686018427387904) 18446744073709551616) (Nat.div a2 4)) fun b20=>
  st (Nat.lor (Nat.mod (Nat.mul a8 36028797018963968) 18446744073709551616) (Nat.div a8 512)) fun b21=>
  st (Nat.lor (Nat.mod (Nat.mul a14 549755813888) 18446744073709551616) (Nat.div a14 33554432)) fun b22=>
  st (Nat.lor (Nat.mod (Nat.mul a15 2199023255552) 18446744073709551616) (Nat.div a15 8388608)) fun b23=>
  st (Nat.lor (Nat.mod (Nat.mul a21 4) 18446744073709551616) (Nat.div a21 4611686018427387904)) fun b24=>
  k [b0,b1,b2,b3,b4,b5,b6,b7,b8,b9,b10,b11,b12,b13,b14,b15,b16,b17,b18,b19,b20,b21,b22,b23,b24]
 | _=>k []
def bendS{α : Type}(c:Nat)(k:List Nat → α):List Nat → α
 | [a0,a1,a2,a3,a4,a5,a6,a7,a8,a9,a10,a11,a12,a13,a14,a15,a16,a17,a18,a19,a20,a21,a22,a23,a24]=>
  st (Nat.xor (Nat.xor a0 (Nat.land (Nat.sub 18446744073709551615 a1) a2)) c) fun e0=>
  st (Nat.xor a1 (Nat.land (Nat.sub 18446744073709551615 a2) a3)) fun e1=>
  st (Nat.xor a2 (Nat.land (Nat.sub 18446744073709551615 a3) a4)) fun e2=>
  st (Nat.xor a3 (Nat.land (Nat.sub 18446744073709551615 a4) a0)) fun e3=>
  st (Nat.xor a4 (Nat.land (Nat.sub 18446744073709551615 a0) a1)) fun e4=>
  st (Nat.xor a5 (Nat.land (Nat.sub 18446744073709551615 a6) a7)) fun e5=>
  st (Nat.xor a6 (Nat.land (Nat.sub 18446744073709551615 a7) a8)) fun e6=>
  st (Nat.xor a7 (Nat.land (Nat.sub 18446744073709551615 a8) a9)) fun e7=>
  st (Nat.xor a8 (Nat.land (Nat.sub 18446744073709551615 a9) a5)) fun e8=>
  st (Nat.xor a9 (Nat.land (Nat.sub 18446744073709551615 a5) a6)) fun e9=>
  st (Nat.xor a10 (Nat.land (Nat.sub 18446744073709551615 a11) a12)) fun e10=>
  st (Nat.xor a11 (Nat.land (Nat.sub 18446744073709551615 a12) a13)) fun e11=>
  st (Nat.xor a12 (Nat.land (Nat.sub 18446744073709551615 a13) a14)) fun e12=>
  st (Nat.xor a13 (Nat.land (Nat.sub 18446744073709551615 a14) a10)) fun e13=>
  st (Nat.xor a14 (Nat.land (Nat.sub 18446744073709551615 a10) a11)) fun e14=>
  st (Nat.xor a15 (Nat.land (Nat.sub 18446744073709551615 a16) a17)) fun e15=>
  st (Nat.xor a16 (Nat.land (Nat.sub 18446744073709551615 a17) a18)) fun e16=>
  st (Nat.xor a17 (Nat.land (Nat.sub 18446744073709551615 a18) a19)) fun e17=>
  st (Nat.xor a18 (Nat.land (Nat.sub 18446744073709551615 a19) a15)) fun e18=>
  st (Nat.xor a19 (Nat.land (Nat.sub 18446744073709551615 a15) a16)) fun e19=>
  st (Nat.xor a20 (Nat.land (Nat.sub 18446744073709551615 a21) a22)) fun e20=>
  st (Nat.xor a21 (Nat.land (Nat.sub 18446744073709551615 a22) a23)) fun e21=>
  st (Nat.xor a22 (Nat.land (Nat.sub 18446744073709551615 a23) a24)) fun e22=>
  st (Nat.xor a23 (Nat.land (Nat.sub 18446744073709551615 a24) a20)) fun e23=>
  st (Nat.xor a24 (Nat.land (Nat.sub 18446744073709551615 a20) a21)) fun e24=>
  k [e0,e1,e2,e3,e4,e5,e6,e7,e8,e9,e10,e11,e12,e13,e14,e15,e16,e17,e18,e19,e20,e21,e22,e23,e24]
 | _=>k []
def permS{α : Type}(a:List Nat):List Nat→(List Nat → α) → α
 | [],k=>k a
 | c :: r,k=>mixS (turnS (bendS c fun a=>permS a r k)) a
theorem xs5{α : Type}(k:List Nat → α)(a0 a1 a2 a3 a4 a5 a6 a7 a8 a9 a10 a11 a12 a13 a14 a15 a16 a17 a18 a19 a20 a21 a22 a23 a24:Nat):mixS k [a0,a1,a2,a3,a4,a5,a6,a7,a8,a9,a10,a11,a12,a13,a14,a15,a16,a17,a18,a19,a20,a21,a22,a23,a24]=k (mixL [a0,a1,a2,a3,a4,a5,a6,a7,a8,a9,a10,a11,a12,a13,a14,a15,a16,a17,a18,a19,a20,a21,a22,a23,a24]):=by
 simp only[mixS,xa7];rfl
theorem xv5{α : Type}(k:List Nat → α)(a0 a1 a2 a3 a4 a5 a6 a7 a8 a9 a10 a11 a12 a13 a14 a15 a16 a17 a18 a19 a20 a21 a22 a23 a24:Nat):turnS k [a0,a1,a2,a3,a4,a5,a6,a7,a8,a9,a10,a11,a12,a13,a14,a15,a16,a17,a18,a19,a20,a21,a22,a23,a24]=k (turnL (fun i=>TL.getD i 0) [a0,a1,a2,a3,a4,a5,a6,a7,a8,a9,a10,a11,a12,a13,a14,a15,a16,a17,a18,a19,a20,a21,a22,a23,a24]):=by
 simp only[turnS,xa7];rfl
theorem xq7{α : Type}(c:Nat)(k:List Nat → α)(a0 a1 a2 a3 a4 a5 a6 a7 a8 a9 a10 a11 a12 a13 a14 a15 a16 a17 a18 a19 a20 a21 a22 a23 a24:Nat):bendS c k [a0,a1,a2,a3,a4,a5,a6,a7,a8,a9,a10,a11,a12,a13,a14,a15,a16,a17,a18,a19,a20,a21,a22,a23,a24]=k (iota c (bendL [a0,a1,a2,a3,a4,a5,a6,a7,a8,a9,a10,a11,a12,a13,a14,a15,a16,a17,a18,a19,a20,a21,a22,a23,a24])):=by
 simp only[bendS,xa7];rfl
theorem xs6{α : Type}(k:List Nat → α)(a:List Nat)(h:a.length=25):mixS k a=k (mixL a):=
 (congrArg (mixS k) (xco h).symm).trans ((xs5 k (g a 0) (g a 1) (g a 2) (g a 3) (g a 4) (g a 5) (g a 6) (g a 7) (g a 8) (g a 9) (g a 10) (g a 11) (g a 12) (g a 13) (g a 14) (g a 15) (g a 16) (g a 17) (g a 18) (g a 19) (g a 20) (g a 21) (g a 22) (g a 23) (g a 24)).trans (congrArg (fun x=>k (mixL x)) (xco h)))
theorem xv6{α : Type}(k:List Nat → α)(a:List Nat)(h:a.length=25):turnS k a=k (turnL (fun i=>TL.getD i 0) a):=
 (congrArg (turnS k) (xco h).symm).trans ((xv5 k (g a 0) (g a 1) (g a 2) (g a 3) (g a 4) (g a 5) (g a 6) (g a 7) (g a 8) (g a 9) (g a 10) (g a 11) (g a 12) (g a 13) (g a 14) (g a 15) (g a 16) (g a 17) (g a 18) (g a 19) (g a 20) (g a 21) (g a 22) (g a 23) (g a 24)).trans (congrArg (fun x=>k (turnL (fun i=>TL.getD i 0) x)) (xco h)))
theorem xq8{α : Type}(c:Nat)(k:List Nat → α)(a:List Nat)(h:a.length=25):bendS c k a=k (iota c (bendL a)):=
 (congrArg (bendS c k) (xco h).symm).trans ((xq7 c k (g a 0) (g a 1) (g a 2) (g a 3) (g a 4) (g a 5) (g a 6) (g a 7) (g a 8) (g a 9) (g a 10) (g a 11) (g a 12) (g a 13) (g a 14) (g a 15) (g a 16) (g a 17) (g a 18) (g a 19) (g a 20) (g a 21) (g a 22) (g a 23) (g a 24)).trans (congrArg (fun x=>k (iota c (bendL x))) (xco h)))
theorem xuv{α : Type}(c:Nat)(k:List Nat → α)(a:List Nat)(h:a.length=25):mixS (turnS (bendS c k)) a=k (roundL (fun i=>TL.getD i 0) c a):=by
 rw[xs6 _ a h,xv6 _ (mixL a) (xcb _),xq8 _ _ (turnL _ (mixL a)) (xcb _)];rfl
theorem xtt{α : Type}(cs:List Nat)(k:List Nat → α):∀ a:List Nat,a.length=25→permS a cs k=k (cs.foldl (fun a c=>roundL (fun i=>TL.getD i 0) c a) a):=by
 induction cs with
 | nil=>intro a _;rfl
 | cons c r ih=>
  intro a h;rw[permS,xuv c _ a h,ih (roundL (fun i=>TL.getD i 0) c a) (xcb _)];rfl
theorem xtu(a:List Nat):RL.foldl (fun a c=>roundL (fun i=>TL.getD i 0) c a) a=PP TL RL a:=rfl
theorem xoq{α : Type}(k:List Nat → α)(a:List Nat)(h:a.length=25):permS a RL k=k (PP TL RL a):=by rw[xtt RL k a h,xtu]
theorem xku(a:List Nat):(PP TL RL a).length=25:=xcb _
def absS{α : Type}(r:Nat)(k:List Nat→Nat → α):List Nat→List Nat→Nat → α
 | [],l,a=>k l a
 | b :: bs,l,a=>if Nat.succ a=r then sl (xb l a b) fun l=>permS l RL fun l=>absS r k bs l 0 else sl (xb l a b) fun l=>st (Nat.succ a) fun a=>absS r k bs l a
theorem xg5(l:List Nat)(i b:Nat):(xb l i b).length=l.length:=by unfold xb;rw[List.length_set]
theorem xqq{α : Type}(r:Nat)(k:List Nat→Nat → α)(bs:List Nat):∀ (l:List Nat) (a:Nat),l.length=25→absS r k bs l a=k (abs (PP TL RL) r ⟨l,a⟩ bs).l (abs (PP TL RL) r ⟨l,a⟩ bs).at':=by
 induction bs with
 | nil=>intro l a _;rfl
 | cons b bs ih=>
  intro l a h;rw[absS];show _=k (abs (PP TL RL) r (ab (PP TL RL) r ⟨l,a⟩ b) bs).l (abs (PP TL RL) r (ab (PP TL RL) r ⟨l,a⟩ b) bs).at';unfold ab;by_cases e:a+1=r
  ·rw[if_pos e,if_pos (show (⟨l,a⟩:Sp).at'+1=r from e),xfh,xoq _ _ ((xg5 _ _ _).trans h),ih _ _ (xku _)]
  ·rw[if_neg e,if_neg (show ¬ (⟨l,a⟩:Sp).at'+1=r from e),xfh,xa7,ih _ _ ((xg5 _ _ _).trans h)]
theorem xqr(r:Nat)(bs:List Nat):∀ s:Sp,s.l.length=25→(abs (PP TL RL) r s bs).l.length=25:=by
 induction bs with
 | nil=>intro s h;exact h
 | cons b bs ih=>
  intro s h;refine ih _ ?_;unfold ab;split
  ·exact xku _
  ·exact(xg5 _ _ _).trans h
def sqS{α : Type}(r:Nat)(k:List Nat → α):Nat→List Nat→Nat→List Nat → α
 | 0,_,_,acc=>k acc.reverse
 | n+1,l,a,acc=>if a=r then permS l RL fun l=>st (gb l 0) fun b=>sqS r k n l 1 (b :: acc) else st (gb l a) fun b=>st (Nat.succ a) fun a=>sqS r k n l a (b :: acc)
theorem sq_one(P:List Nat→List Nat)(r:Nat)(s:Sp)(n:Nat):sq P r s (n+1)=gb (tn P r s).l (tn P r s).at' :: sq P r (nx P r s) n:=by
 rw[Nat.add_comm n 1,xgv];rfl
theorem sqS_eq{α : Type}(r:Nat)(k:List Nat → α)(n:Nat):∀ (l:List Nat) (a:Nat) (acc:List Nat),l.length=25→sqS r k n l a acc=k (acc.reverse++sq (PP TL RL) r ⟨l,a⟩ n):=by
 induction n with
 | zero=>intro l a acc _;rw[sqS];simp[sq]
 | succ n ih=>
  intro l a acc h;rw[sqS,sq_one];unfold nx tn;by_cases e:a=r
  ·rw[if_pos e,if_pos (show (⟨l,a⟩:Sp).at'=r from e),xoq _ _ h,xa7,ih _ _ _ (xku _),List.reverse_cons,List.append_assoc];rfl
  ·rw[if_neg e,if_neg (show ¬ (⟨l,a⟩:Sp).at'=r from e),xa7,xa7,ih _ _ _ h,List.reverse_cons,List.append_assoc];rfl
def outS{α : Type}(r m:Nat)(bs:List Nat)(n:Nat)(k:List Nat → α) : α := absS r (fun l a=>sl (xb (xb l a m) (r-1) 128) fun l=>sqS r k n l r []) bs Z 0
theorem xtl{α : Type}(r m:Nat)(bs:List Nat)(n:Nat)(k:List Nat → α):outS r m bs n k=k (sq (PP TL RL) r (pad r m (abs (PP TL RL) r ⟨Z,0⟩ bs)) n):=by
 unfold outS;rw[xqq _ _ _ _ _ (by rfl),xfh,sqS_eq _ _ _ _ _ _ ((xg5 _ _ _).trans ((xg5 _ _ _).trans (xqr r bs ⟨Z,0⟩ rfl)))];rfl
end kecf
namespace tbf
open kecf tabt nttm nttl polys
abbrev ζ : Nat→Int:=fun k=>((zt k:Nat):Int)
def hor(h:Nat→Nat):Nat→Nat→Nat
 | 0,acc=>acc
 | n+1,acc=>hor h n (Nat.add (Nat.mul acc 4294967296) (h n))
def horS{α : Type}(h:Nat→Nat)(k:Nat → α):Nat→Nat → α
 | 0,acc=>k acc
 | n+1,acc=>st (Nat.add (Nat.mul acc 4294967296) (h n)) fun acc=>horS h k n acc
theorem xsg{α : Type}(h:Nat→Nat)(k:Nat → α)(n:Nat):∀ acc,horS h k n acc=k (hor h n acc):=by
 induction n with
 | zero=>intro acc;rfl
 | succ n ih=>intro acc;rw[horS,xa7,ih];rfl
def lk(N i:Nat):Nat:=Nat.mod (Nat.div N (Nat.pow 4294967296 i)) 4294967296
theorem xkc(N i:Nat):lk N i=N / 4294967296 ^ i%4294967296:=rfl
theorem hor_is(h:Nat→Nat)(hh:∀ i,h i<4294967296)(n:Nat):∀ acc,(∀ i,i<n→lk (hor h n acc) i=h i)∧hor h n acc / 4294967296 ^ n=acc:=by
 induction n with
 | zero=>intro acc;exact⟨fun i hi=>by omega,by rw[Nat.pow_zero,Nat.div_one];rfl⟩
 | succ n ih=>
  intro acc;obtain⟨h1,h2⟩:=ih (Nat.add (Nat.mul acc 4294967296) (h n));have h3:Nat.add (Nat.mul acc 4294967296) (h n)=acc*4294967296+h n:=rfl;have hn:=hh n;refine⟨fun i hi=>?_,?_⟩
  ·by_cases e:i=n
   ·subst e;show lk (hor h i _) i=_;rw[xkc,h2,h3];omega
   ·exact h1 i (by omega)
  ·show hor h n _ / _=_;rw[Nat.pow_succ,←Nat.div_div_eq_div_mul,h2,h3];omega
def tabS{α : Type}(h:Nat→Nat)(k:Nat → α) : α := horS h k 256 0
def Rep(N:Nat)(f:Nat→Int):Prop:=∀ i,i<256→lk N i<8380417∧f i=((lk N i:Nat):Int)
theorem xdc(h:Nat→Nat)(f:Nat→Int)(hh:∀ i,h i<4294967296)(hf:∀ i,i<256→h i<8380417∧f i=((h i:Nat):Int)):∃ M,Rep M f∧∀ (α : Type) (k:Nat → α),tabS h k=k M:=
 ⟨hor h 256 0,fun i hi=>by rw[(hor_is h hh 256 0).1 i hi];exact hf i hi,fun _ k=>xsg h k 256 0⟩
def ZN:Nat:=1942532590334862870138974211309491265782479578908875968865029424456053257258072682295166927120764341606327311584658853370499113175525762845358868055875449743865862120561507886266747906148109645887626569421358571458517131955923284862628124089112459955088367321758936870320868432697508840795368302553306576128045551607900627127501794114081202641910877226362801691822840898283887149403998842135480772271410685269676056079915871598662895342995024116405481364306244279332350098942854172493709708276187309139599590708792464483823760789356714193279404756677496017119634944934138036115747230462237986224255331592814367902736981458467519885665679479228037485495093630541964206931915163610275278937739714994470440583037739519371910840303218798742525392799033380093848832106984474065814597511152572022702855167409301633981844629425289715425513189029241545586899000780710272102105091605579804393400213043857482162467923932944277054752633280111701102829033262795617846970374521865188732741696600691505667686329522606287841560781862388665232359322879374208972336199642789727206476734881296178925179289536740450642981295725346851284164001847278084449190324311603069755178077421853116731460280747304127011680652201945786222691228488254713937177263227605494921064947865535581351518083331160300703806453118421938781384978085450686752087458948523818888842204236408802467616937683189706840942690780294699359315222743213794246885800990452437071553815427308310126173523992248163650132523991616829815627658787232798346920794291613469437445387711809729040183677108117453921834875903390132031359687416044245487457771017388506548364564559122569450939338118419555439921574145639048278533533660638873919347394974093323140006350021801255901322034596405010487698490495577798064332243826130425283098122871005726590391144741858660072963970671535934213421572075996539234047661212859541799506727893504164706978268104719884245023518336180989693307757423110033600879176964970190021698534844531069500303801840960678469133619677376783395108800320774455070008267090960784486339862562729884302758202270636416921073981755143887576621683020104146012655817041173986749065132246285408760256952748676034888636562920808961740887799517003060362711331429543967849102906437932290547874354911527571960210570964207077252592611795709619564762124335042772532003782349962352973367387722684668660569565761073551374745677636660694228889934682204568507453807362700949136754277475637722254486777653541592081819221941551105
theorem zn_all:(List.range 256).all (fun i=>Nat.beq (lk ZN i) (zt i))=true:=by decide +kernel
theorem zn_is(i:Nat)(h:i<256) : ζ i=((lk ZN i:Nat):Int):=by
 have:=List.all_eq_true.1 zn_all i (List.mem_range.2 h);show ((zt i:Nat):Int)=_;rw[Nat.eq_of_beq_eq_true this]
def md(x:Nat):Nat:=Nat.mod x 8380417
theorem md_eq(x:Nat):md x=x%8380417:=rfl
def lyN(N K s j:Nat):Nat:=cond (Nat.ble (Nat.succ (Nat.mod j (Nat.mul 2 s))) s) (md (Nat.add (lk N j) (Nat.mul (lk ZN (Nat.add K (Nat.div j (Nat.mul 2 s)))) (lk N (Nat.add j s))))) (md (Nat.add (lk N (Nat.sub j s)) (Nat.sub 8380417 (md (Nat.mul (lk ZN (Nat.add K (Nat.div j (Nat.mul 2 s)))) (lk N j))))))
def bkN(N K s j:Nat):Nat:=cond (Nat.ble (Nat.succ (Nat.mod j (Nat.mul 2 s))) s) (md (Nat.add (lk N j) (lk N (Nat.add j s)))) (md (Nat.mul (lk ZN (Nat.sub (Nat.sub (Nat.mul 2 K) 1) (Nat.div j (Nat.mul 2 s)))) (Nat.add (lk N j) (Nat.sub 8380417 (lk N (Nat.sub j s))))))
theorem xmy{α : Type}(a b:Nat)(x y : α):cond (Nat.ble (Nat.succ a) b) x y=if a<b then x else y:=by
 by_cases h:a<b
 ·rw[if_pos h,show Nat.ble (Nat.succ a) b=true from Nat.ble_eq_true_of_le h];rfl
 ·rw[if_neg h,show Nat.ble (Nat.succ a) b=false from Bool.eq_false_iff.2 fun e=>h (Nat.le_of_ble_eq_true e)];rfl
theorem xke(N K s j:Nat):lyN N K s j=if j%(2*s)<s then (lk N j+lk ZN (K+j / (2*s))*lk N (j+s))%8380417 else (lk N (j-s)+(8380417-(lk ZN (K+j / (2*s))*lk N j)%8380417))%8380417:=xmy _ _ _ _
theorem xjf(N K s j:Nat):bkN N K s j=if j%(2*s)<s then (lk N j+lk N (j+s))%8380417 else (lk ZN (2*K-1-j / (2*s))*(lk N j+(8380417-lk N (j-s))))%8380417:=xmy _ _ _ _
theorem near(K s j:Nat)(hK : 2*s*K=256)(hj:j<256):j / (2*s)<K∧(j%(2*s)<s→j+s<256):=by
 have h1:j / (2*s)<K:=Nat.div_lt_of_lt_mul (by omega);refine⟨h1,fun h=>?_⟩;have h2:=Nat.div_add_mod j (2*s);have h3 : 2*s*(j / (2*s)+1)≤2*s*K:=Nat.mul_le_mul_left _ h1;rw[Nat.mul_succ]at h3;omega
theorem xdq(K s:Nat)(hK : 2*s*K=256)(hs : 0<s)(h128:K≤128){N:Nat}{f:Nat→Int}(h:Rep N f):∃ M,Rep M (red (ly ζ K s f))∧∀ (α : Type) (k:Nat → α),tabS (lyN N K s) k=k M:=by
 refine xdc _ _ (fun i=>?_) (fun j hj=>⟨?_,?_⟩)
 ·rw[xke];split<;>omega
 ·rw[xke];split<;>omega
 ·obtain⟨h1,h2⟩:=near K s j hK hj;rw[xke];unfold red ly;rw[zn_is (K+j / (2*s)) (by omega),(h j hj).2];split
  ·rename_i hl
   rw[(h (j+s) (h2 hl)).2,←Int.natCast_mul,←Int.natCast_add];exact(Int.natCast_emod _ _).symm
  ·rw[(h (j-s) (by omega)).2,←Int.natCast_mul];generalize lk ZN (K+j / (2*s))*lk N j=x;omega
theorem xde(K s:Nat)(hK : 2*s*K=256)(hs : 0<s)(h128:K≤128){N:Nat}{f:Nat→Int}(h:Rep N f):∃ M,Rep M (red (bk ζ K s f))∧∀ (α : Type) (k:Nat → α),tabS (bkN N K s) k=k M:=by
 refine xdc _ _ (fun i=>?_) (fun j hj=>⟨?_,?_⟩)
 ·rw[xjf];split<;>omega
 ·rw[xjf];split<;>omega
 ·obtain⟨h1,h2⟩:=near K s j hK hj;rw[xjf];unfold red bk;rw[(h j hj).2];split
  ·rename_i hl
   rw[(h (j+s) (h2 hl)).2,←Int.natCast_add];exact(Int.natCast_emod _ _).symm
  ·have hz : 2*K-1-j / (2*s)<256:=by clear h2;generalize j / (2*s)=q at h1;omega
   rw[zn_is (2*K-1-j / (2*s)) hz,(h (j-s) (by omega)).2];have ha:=(h (j-s) (by omega)).1;generalize lk ZN (2*K-1-j / (2*s))=z;generalize lk N (j-s)=a at ha;generalize lk N j=b;have e:(((z*(b+(8380417-a)))%8380417:Nat):Int)=(((z:Int)*b+z*8380417)-z*a)%8380417:=by
    rw[Int.natCast_emod,Int.natCast_mul,Int.natCast_add,Int.natCast_sub (Nat.le_of_lt ha),Int.mul_add,Int.mul_sub,Int.add_sub_assoc];rfl
   rw[e,Int.neg_mul,Int.mul_sub];generalize (z:Int)*a=x;generalize (z:Int)*b=y;omega
theorem xpa{N:Nat}{f:Nat→Int}(h:Rep N f):Rep N (red f):=fun i hi=>⟨(h i hi).1,by unfold red;rw[(h i hi).2];have:=(h i hi).1;omega⟩
def thereS{α : Type}(N:Nat)(k:Nat → α) : α := tabS (lyN N 1 128) fun N=>tabS (lyN N 2 64) fun N=>tabS (lyN N 4 32) fun N=>tabS (lyN N 8 16) fun N=>tabS (lyN N 16 8) fun N=>tabS (lyN N 32 4) fun N=>tabS (lyN N 64 2) fun N=>tabS (lyN N 128 1) k
def backS{α : Type}(N:Nat)(k:Nat → α) : α := tabS (bkN N 128 1) fun N=>tabS (bkN N 64 2) fun N=>tabS (bkN N 32 4) fun N=>tabS (bkN N 16 8) fun N=>tabS (bkN N 8 16) fun N=>tabS (bkN N 4 32) fun N=>tabS (bkN N 2 64) fun N=>tabS (bkN N 1 128) k
theorem xfn{N:Nat}{f:Nat→Int}(h:Rep N f):∃ M,Rep M (thereR ζ 8 f)∧∀ (α : Type) (k:Nat → α),thereS N k=k M:=by
 have h0:Rep N (thereR ζ 0 f):=xpa h;obtain⟨M1,h1,e1⟩:=xdq 1 128 rfl (by decide) (by decide) h0;rw[show red (ly ζ 1 128 (thereR ζ 0 f))=thereR ζ 1 f from rfl]at h1;obtain⟨M2,h2,e2⟩:=xdq 2 64 rfl (by decide) (by decide) h1;rw[show red (ly ζ 2 64 (thereR ζ 1 f))=thereR ζ 2 f from rfl]at h2;obtain⟨M3,h3,e3⟩:=xdq 4 32 rfl (by decide) (by decide) h2;rw[show red (ly ζ 4 32 (thereR ζ 2 f))=thereR ζ 3 f from rfl]at h3;obtain⟨M4,h4,e4⟩:=xdq 8 16 rfl (by decide) (by decide) h3;rw[show red (ly ζ 8 16 (thereR ζ 3 f))=thereR ζ 4 f from rfl]at h4;obtain⟨M5,h5,e5⟩:=xdq 16 8 rfl (by decide) (by decide) h4;rw[show red (ly ζ 16 8 (thereR ζ 4 f))=thereR ζ 5 f from rfl]at h5;obtain⟨M6,h6,e6⟩:=xdq 32 4 rfl (by decide) (by decide) h5;rw[show red (ly ζ 32 4 (thereR ζ 5 f))=thereR ζ 6 f from rfl]at h6;obtain⟨M7,h7,e7⟩:=xdq 64 2 rfl (by decide) (by decide) h6;rw[show red (ly ζ 64 2 (thereR ζ 6 f))=thereR ζ 7 f from rfl]at h7;obtain⟨M8,h8,e8⟩:=xdq 128 1 rfl (by decide) (by decide) h7;rw[show red (ly ζ 128 1 (thereR ζ 7 f))=thereR ζ 8 f from rfl]at h8;exact⟨M8,h8,fun α k=>by unfold thereS;rw[e1,e2,e3,e4,e5,e6,e7,e8]⟩
theorem xq1{N:Nat}{f:Nat→Int}(h:Rep N f):∃ M,Rep M (backR ζ 8 f)∧∀ (α : Type) (k:Nat → α),backS N k=k M:=by
 have h0:Rep N (backR ζ 0 f):=xpa h;obtain⟨M1,h1,e1⟩:=xde 128 1 rfl (by decide) (by decide) h0;rw[show red (bk ζ 128 1 (backR ζ 0 f))=backR ζ 1 f from rfl]at h1;obtain⟨M2,h2,e2⟩:=xde 64 2 rfl (by decide) (by decide) h1;rw[show red (bk ζ 64 2 (backR ζ 1 f))=backR ζ 2 f from rfl]at h2;obtain⟨M3,h3,e3⟩:=xde 32 4 rfl (by decide) (by decide) h2;rw[show red (bk ζ 32 4 (backR ζ 2 f))=backR ζ 3 f from rfl]at h3;obtain⟨M4,h4,e4⟩:=xde 16 8 rfl (by decide) (by decide) h3;rw[show red (bk ζ 16 8 (backR ζ 3 f))=backR ζ 4 f from rfl]at h4;obtain⟨M5,h5,e5⟩:=xde 8 16 rfl (by decide) (by decide) h4;rw[show red (bk ζ 8 16 (backR ζ 4 f))=backR ζ 5 f from rfl]at h5;obtain⟨M6,h6,e6⟩:=xde 4 32 rfl (by decide) (by decide) h5;rw[show red (bk ζ 4 32 (backR ζ 5 f))=backR ζ 6 f from rfl]at h6;obtain⟨M7,h7,e7⟩:=xde 2 64 rfl (by decide) (by decide) h6;rw[show red (bk ζ 2 64 (backR ζ 6 f))=backR ζ 7 f from rfl]at h7;obtain⟨M8,h8,e8⟩:=xde 1 128 rfl (by decide) (by decide) h7;rw[show red (bk ζ 1 128 (backR ζ 7 f))=backR ζ 8 f from rfl]at h8;exact⟨M8,h8,fun α k=>by unfold backS;rw[e1,e2,e3,e4,e5,e6,e7,e8]⟩
end tbf
namespace sigf
open kecf tbf
def pkS{α : Type}(k:Nat → α):List Nat→Nat→Nat → α
 | [],acc,_=>k acc
 | x :: r,acc,p=>st (Nat.add acc (Nat.mul p x)) fun acc=>st (Nat.mul p 256) fun p=>pkS k r acc p
def byN(N i:Nat):Nat:=Nat.mod (Nat.div N (Nat.pow 256 i)) 256
def pickS{α : Type}(v:Nat→Nat)(o:Nat→Bool)(k:Nat→Nat → α):Nat→Nat→Nat→Nat → α
 | 0,_,c,a=>k c a
 | f+1,j,c,a=>cond (Nat.ble 256 c) (k c a) (cond (o j) (st (Nat.add a (Nat.mul (v j) (Nat.pow 4294967296 c))) fun a=>st (Nat.succ c) fun c=>st (Nat.succ j) fun j=>pickS v o k f j c a) (st (Nat.succ j) fun j=>pickS v o k f j c a))
def triN(N j:Nat):Nat:=Nat.add (Nat.add (byN N (Nat.mul 3 j)) (Nat.mul 256 (byN N (Nat.add (Nat.mul 3 j) 1)))) (Nat.mul 65536 (Nat.mod (byN N (Nat.add (Nat.mul 3 j) 2)) 128))
def hfN(N j:Nat):Nat:=cond (Nat.beq (Nat.mod j 2) 0) (Nat.mod (byN N (Nat.div j 2)) 16) (Nat.div (byN N (Nat.div j 2)) 16)
def full(k:Nat→Bool)(c a:Nat):Bool:=cond (Nat.beq c 256) (k a) false
def uniS(B:List Nat)(k:Nat→Bool):Bool:=pkS (fun N=>pickS (triN N) (fun j=>Nat.ble (Nat.succ (triN N j)) 8380417) (full k) 336 0 0 0) B 0 1
def smaS(B:List Nat)(k:Nat→Bool):Bool:=pkS (fun N=>pickS (fun j=>md (Nat.sub 8380419 (Nat.mod (hfN N j) 5))) (fun j=>Nat.ble (Nat.succ (hfN N j)) 15) (full k) 1632 0 0 0) B 0 1
def nxS{α : Type}(N i:Nat)(k:Nat → α):Nat→Nat → α
 | 0,a=>k a
 | f+1,a=>cond (Nat.ble (Nat.succ a) 544) (cond (Nat.ble (Nat.succ i) (byN N a)) (st (Nat.succ a) fun a=>nxS N i k f a) (k a)) (k a)
def sgnN(N t:Nat):Nat:=cond (Nat.beq (Nat.mod (Nat.div (byN N (Nat.div t 8)) (Nat.pow 2 (Nat.mod t 8))) 2) 1) 8380416 1
def blS(N tau:Nat)(k:Nat→Bool):Nat→Nat→Nat→Nat→Bool
 | 0,_,_,M=>k M
 | f+1,t,p,M=>st (Nat.add (Nat.sub 256 tau) t) fun i=>nxS N i (fun a=>cond (Nat.beq a 544) false (st (byN N a) fun b=>st (sgnN N t) fun s=>tabS (fun j=>cond (Nat.beq j b) s (cond (Nat.beq j i) (lk M b) (lk M j))) fun M=>st (Nat.succ t) fun t=>st (Nat.succ a) fun a=>blS N tau k f t a M)) 544 p
def ballS(B:List Nat)(tau:Nat)(k:Nat→Bool):Bool:=pkS (fun N=>blS N tau k tau 0 8 0) B 0 1
def horW{α : Type}(w:Nat)(h:Nat→Nat)(k:Nat → α):Nat→Nat → α
 | 0,acc=>k acc
 | n+1,acc=>st (Nat.add (Nat.mul acc (Nat.pow 2 w)) (h n)) fun acc=>horW w h k n acc
def nbS{α : Type}(k:List Nat → α):Nat→Nat→List Nat → α
 | 0,_,acc=>k acc.reverse
 | n+1,N,acc=>st (Nat.mod N 256) fun b=>st (Nat.div N 256) fun N=>nbS k n N (b :: acc)
def packS{α : Type}(w M:Nat)(k:List Nat → α) : α := horW w (lk M) (fun N=>nbS k (Nat.mul 32 w) N []) 256 0
def maskN(N i:Nat):Nat:=md (Nat.sub 8511489 (Nat.mod (Nat.div N (Nat.pow 262144 i)) 262144))
def mulN(M K i:Nat):Nat:=md (Nat.mul (lk M i) (lk K i))
def addN(M K i:Nat):Nat:=md (Nat.add (lk M i) (lk K i))
def subN(M K i:Nat):Nat:=md (Nat.add (lk M i) (Nat.sub 8380417 (lk K i)))
def prodS(M K:Nat)(k:Nat→Bool):Bool:=tabS (mulN M K) fun x=>backS x fun x=>tabS (fun i=>md (Nat.mul (lk x i) 8347681)) k
def shN(x:Nat):Nat:=Nat.div (Nat.add x 4095) 8192
def slN(x:Nat):Nat:=md (Nat.sub (Nat.add x 8380417) (Nat.mul 8192 (shN x)))
def hghN(x:Nat):Nat:=Nat.mod (Nat.div (Nat.add x 95231) 190464) 44
def allS(p:Nat→Bool)(k:Bool):Nat→Bool
 | 0=>k
 | n+1=>cond (p n) (allS p k n) false
def smallN(b x:Nat):Bool:=cond (Nat.ble (Nat.succ x) b) true (Nat.ble (Nat.sub 8380418 b) x)
def lowN(b x:Nat):Bool:=cond (Nat.ble (Nat.succ (Nat.mod x 190464)) b) true (Nat.ble (Nat.sub 190465 b) (Nat.mod x 190464))
def cntS(p:Nat→Bool)(k:Nat→Bool):Nat→Nat→Bool
 | 0,c=>k c
 | n+1,c=>cond (p n) (cntS p k n c) (st (Nat.succ c) fun c=>cntS p k n c)
def keyS(seed:List Nat)(k:List Nat→List Nat→List Nat→Nat→Nat→Nat→Nat→Bool):Bool:=
 outS 136 31 (seed ++ [1,1]) 128 fun S=>sl (S.take 32) fun rho=>sl ((S.drop 32).take 64) fun sg=>sl ((S.drop 96).take 32) fun key=>
 outS 168 31 (rho ++ [0,0]) 1008 fun u=>uniS u fun A=>outS 136 31 (sg ++ [0,0]) 816 fun u=>smaS u fun s1=>outS 136 31 (sg ++ [1,0]) 816 fun u=>smaS u fun s2=>
 thereS s1 fun h1=>prodS A h1 fun x=>tabS (addN x s2) fun T=>tabS (fun i=>shN (lk T i)) fun hi=>packS 10 hi fun pl=>outS 136 31 (rho++pl) 64 fun tr=>k rho key tr A s1 s2 T
def tryS(seed msg:List Nat):Bool:=
 keyS seed fun _ key tr A s1 s2 T=>outS 136 31 (tr++msg) 64 fun mu=>outS 136 31 (key++(List.replicate 32 0++mu)) 64 fun mask=>
 outS 136 31 (mask ++ [0,0]) 576 fun u=>pkS (fun N=>tabS (maskN N) fun y=>thereS y fun hy=>prodS A hy fun w=>tabS (fun i=>hghN (lk w i)) fun hi=>packS 6 hi fun hb=>
 outS 136 31 (mu++hb) 32 fun sum=>outS 136 31 sum 544 fun u=>ballS u 20 fun c=>thereS c fun hc=>thereS s1 fun ha=>prodS hc ha fun ca=>thereS s2 fun hb=>prodS hc hb fun cb=>tabS (fun i=>slN (lk T i)) fun lo=>thereS lo fun hl=>prodS hc hl fun cl=>
 tabS (addN y ca) fun z=>tabS (subN w cb) fun v=>tabS (addN v cl) fun x=>
 allS (fun i=>smallN 131032 (lk z i)) (allS (fun i=>lowN 95191 (lk v i)) (allS (fun i=>smallN 95232 (lk cl i)) (cntS (fun i=>Nat.beq (hghN (lk x i)) (hghN (lk v i))) (fun c=>Nat.ble c 60) 256 0) 256) 256) 256) u 0 1
def seed32:List Nat:=[48,49,50,51,52,53,54,55,56,57,48,49,50,51,52,53,54,55,56,57,48,49,50,51,52,53,54,55,56,57,48,49]
theorem try_is:tryS seed32 [0,1,99,97,98,99]=true:=by decide +kernel
end sigf
end Go.Proofs.YtgahcabgmfbhdaaGreatDoor
