/-
  What round.High returns. Conditions: none. What mlsign's pack and packHigh return. Conditions: as ea
-/
import Derived.Test.YtgahcabgmfbhdaaGreatDoorZt20
import Derived.Test.YtgahcabgmfbhdaaGreatDoorZt02
import Derived.Test.YtgahcabgmfbhdaaGreatDoorZt09
import Derived.Test.YtgahcabgmfbhdaaGreatDoorZt16
import Derived.Test.YtgahcabgmfbhdaaGreatDoorZt11
import Derived.Test.YtgahcabgmfbhdaaGreatDoorZt01
import Derived.Test.YtgahcabgmfbhdaaGreatDoorZt18
import Derived.Test.YtgahcabgmfbhdaaGreatDoorZt14
import Derived.Test.YtgahcabgmfbhdaaGreatDoorZt15
import Derived.Test.YtgahcabgmfbhdaaGreatDoorZt17
import Derived.Test.YtgahcabgmfbhdaaGreatDoorZt03
import Derived.Test.YtgahcabgmfbhdaaGreatDoorZt07
import Derived.Lib.QuietBelow
import Derived.StillTailTactics
set_option maxRecDepth 100000
set_option maxHeartbeats 16000000
set_option linter.unusedSimpArgs false
set_option linter.unusedVariables false
open Go Go.RowKit
namespace Go.Proofs.YtgahcabgmfbhdaaGreatDoor
namespace rhigh
open arr mem stil polys polt fldm fld1 rndm rpart
theorem xc7(f:Nat→Int)(g:Int)(w:World):
 Calls Tryz.prog 160 #[.agg (FL .i64 256 f),.int .i64 g] w (zB w (.agg (FL .i64 256 fun i=>hgh g (f i)))):=by
 obtain⟨hz,hsize⟩:=zero_of_info infoP;obtain⟨z,HZ⟩:=xaa (FL .i64 256 fun _=>0);rw[HZ.out]at hz;have Hzs:=zfs HZ;obtain⟨F,HF⟩:∃ F:Nat→Int,Ω (F=fun i=>hgh g (f i)):=⟨_,⟨rfl⟩⟩;have hFi:∀ i,F i=(fun i=>hgh g (f i)) i:=fun i=>by rw[HF.out]
 have HFi:=ω hFi;rw[←HF.out];clear HF hFi;obtain⟨R,HR⟩:=xaa (FL .i64 256 F);have Ri:=zri HR hsize;have Ro:=zro HR;have Rz:=zrz Hzs HR;obtain⟨I,HI⟩:=xaa (FL .i64 256 f);have Ii:=zri HI hsize;rw[HR.out,HI.out];clear hsize;have Hix:Ω (∀ (i:Nat),i<256→∀ w1:World,(Instr.index 109 (.agg I) (.int .i64 (i:Int))).run Tryz.prog w1=.ok (.int .i64 (f i)) w1):=⟨fun i hi w1=>by rw[←HI.out];exact xd7 f i hi w1⟩;go_enter Tryz.func160,Tryz.ntmps160;go_wp2_with fail;clear hz;obtain⟨W,hW⟩:=zev ((w.alloc (.cells I 109)).alloc (.cells z 109));obtain⟨b0,b1,hWs,hWb⟩:=two hW;rw[hW];clear hW;have B0:=ω b0;have B1:=ω b1;have HWs:Ω (w.heap.size+2≤W.heap.size):=⟨by omega⟩;have HWb:=ω hWb;clear hWs hWb b0 b1;refine wp_load_row 109 _ rfl w.heap.size rfl 109 I (0,0) _ B0.out zX rfl Ii.out ?_;go_wp2_with fail;go_loopw [8] (fun v wr=>∃ i:Nat,i≤256∧v=.int .i64 (i:Int)∧Ω (At w.heap.size (FL .i64 256 (pt F f i)) 109 W wr)) (fun v _=>256-(intOf v).toNat)
 case atStart=>exact⟨0,Nat.zero_le _,rfl,⟨by rw[xba,HI.out];exact At.refl B0.out⟩⟩
 case round=>
  obtain⟨i,hi,rfl,A0⟩:=hrel;by_cases hlt:i<256
  ·have hiz:(i:Int)<256:=by omega
   have hx0:=Hix.out i hlt wr;obtain⟨x,hx⟩:=zev (f i);rw[hx]at hx0;have HV:Ω (F i=hgh g x):=⟨by rw[HFi.out,hx]⟩;have Hp:=xgl x g;obtain⟨h0,hh0⟩:=xaa (hgh g x);obtain⟨l0,hl0⟩:=xaa (lw g x);rw[hh0.out,hl0.out]at Hp;have HU:Ω (upd (pt F f i) i h0=pt F f (i+1)):=⟨xa4 F f i h0 (by rw[HV.out,hh0.out])⟩;clear hx;go_wp2_with fail;refine(Hp _).mono ?_;rintro e w1 ⟨rfl,rfl⟩;go_wp2_with ((with_reducible refine xaf A0 rfl _ _ _ rfl rfl ?_);refine⟨_,_,_,rfl,rfl,rfl,by rw[xad];exact hlt,?_⟩;intro wn HR2;rw[xap,HU.out]at HR2);go_roundw
   case rel=>exact⟨i+1,by omega,by go_num,HR2⟩
   case measure=>simp[intOf];omega
  ·obtain rfl:i=256:=by omega
   simp only[Int.cast_ofNat_Int];rw[xa8,HR.out]at A0;have Hrow:=ω A0.out.row;have Hres:Ω (wr.heap[w.heap.size+1]? = some (.cells z 109 (0,0))):=⟨A0.out.other (by have:=HWs.out;omega) (by omega) B1.out⟩;have HB:Ω (Below w.heap.size w wr):=⟨HWb.out.trans (A0.out.below (by have:=HWs.out;omega) (Nat.le_refl _))⟩;clear A0;go_wp2_with (first
    | (refine wpList_load_row rfl 109 _ rfl w.heap.size rfl 109 R (0,0) _ Hrow.out zX rfl Ri.out ?_)
    | (refine wpList_store_row rfl 109 _ _ rfl (w.heap.size+1) R rfl rfl 109 _ Hres.out Ri.out Rz.out Ro.out ?_))
   refine bodyPost_ret_by (v:=.agg R) (results_cell_row rfl _ _ (w.heap.size+1) 109 _ (0,0) _ rfl (setRow_heap _ _ _ _ _ _ Hres.out) zX rfl Ri.out) rfl ?_;exact⟨rfl,HB.out.trans (below_setRow _ _ _ (by omega))⟩
end rhigh
namespace mgb
open arr mem stil polys polt pols nttl rndm saml spok rsdoc mlkm mlsm keca kstep kturn rkpb rkrw qrow mgd rbita rbitd rbite bitp
theorem xhb(X:Nat→ByteArray)(n:Nat):(cat ByteArray.empty X (n+1)).data.toList=(cat ByteArray.empty X n).data.toList++(X n).data.toList:=by
 rw[cat,ByteArray.data_append,Array.toList_append]
theorem xnv(x:ByteArray):(⟨x.data.toList.toArray⟩:ByteArray)=x:=rfl
theorem xds(gs n:Nat)(a:Int)(vz:Value)(B:Nat)(p:Nat→Nat→Int)(w:World)(ha:a=131072∨a=524288)(hc:w.cell? ⟨gs,5,none⟩=some (.int .i64 a))(ls:gs<w.heap.size)(hn : 1≤n∧n≤8)(HV:Holds w B vz n p)(hin:∀ i,i<n→ins (p i) (a-1) a):
 Calls Tryz.prog 65 #[.pointer (some ⟨gs,0,none⟩),vz] w (zB w (.string (laidS ByteArray.empty p (a-1) a n))):=by
 unfold laidS;have hw:IntKind.i64.wrap (a-1)=a-1:=zwi;obtain⟨X,hX⟩:=xaa (fun i=>packed (sg (p i) a) (a-1+a));have HX:Ω (∀ i,i<n→(X i).size≤1000):=⟨fun i _=>by rw[←hX.out,xcr];rcases ha with rfl | rfl<;>decide +kernel⟩;rw[hX.out];obtain⟨hz,hsize⟩:=zero_of_info polt.infoP;have Hsize:=ω hsize;obtain⟨g,c,hvs,hg⟩:=xan HV;subst hvs;have Hv:=ω HV;have Hg:=ω hg;have Hls:=ω ls;have Hc:=ω hc;have HCall:Ω (∀ i,i<n→∀ w1:World,Calls Tryz.prog 103 #[.agg (FL .i64 256 (p i)),.int .i64 (a-1),.int .i64 a] w1 (zB w1 (.tuple #[.string (X i),.int .i64 0]))):=⟨fun i hi w1=>by
  have h1:=psig.xit (p i) (a-1) a w1 (by omega) (by omega) (by omega) (by omega);rw[if_pos (hin i hi)]at h1;rw[←hX.out];exact h1⟩
 obtain⟨a1,ha1⟩:=zev (a-1);rw[ha1]at HCall hw;clear hX hin ha;rw[←ha1]at hw;have hw2:IntKind.i64.wrap (a-1)=a1:=by rw[hw,ha1]
 clear hw ha1;have Hcs:Ω (∀ r,r≤n→(cat ByteArray.empty X r).data.toList.length≤1000*r):=⟨fun r hr=>by
  induction r with
  | zero=>exact Nat.zero_le _
  | succ r ih=>
   have h1:=ih (by omega);have h2:=HX.out r (by omega);rw[xhb,List.length_append];have h3:(X r).data.toList.length=(X r).size:=rfl;omega⟩
 have hfb:=Lib.fresh_isBuilder 99 5 w;have Hfb:Ω (Lib.IsBuilder 99 5 w.heap.size w.heap.size (Lib.byteCells (cat ByteArray.empty X 0).data.toList) (w.alloc (.cells #[.pointer none,.slice none 0 0] 99))):=⟨hfb⟩;have hn8:=hn.2;obtain⟨Rz,HRz⟩:=xaa (cat ByteArray.empty X n);rw[HRz.out];clear HV hz hsize hg ls hfb hn;go_enter Tryz.func65,Tryz.ntmps65;go_wp2_with fail;clear hc;go_loopw [11] (fun i wr=>∃ r:Nat,r≤n∧i=.int .i64 (r:Int)∧Ω (Lib.IsBuilder 99 5 w.heap.size w.heap.size (Lib.byteCells (cat ByteArray.empty X r).data.toList) wr)∧Ω (Below w.heap.size w wr)) (fun i _=>n-(intOf i).toNat)
 case atStart=>exact⟨0,Nat.zero_le _,rfl,Hfb,⟨(Below.refl _ _).alloc (Nat.le_refl _) _⟩⟩
 case round=>
  clear Hfb;obtain⟨r,hr,rfl,Hbd,Hbe⟩:=hrel;by_cases hlt:r<n
  ·have hrz:(r:Int)<(n:Int):=by omega
   have hr8:r<8:=by omega
   have hrg:=xax (Hv.out.later Hbe.out) r hlt;have HCa:=ω (HCall.out r hlt);obtain⟨F,HF⟩:=xaa (FL .i64 256 (p r));obtain⟨o6,ho6⟩:=zev (r*256);rw[HF.out,ho6]at hrg;have Hrg:Ω (∀ w':World,Below wr.heap.size wr w'→w'.rangeAt g o6 F.toList):=⟨fun w' hb'=>xa3 hrg (Nat.lt_of_lt_of_le Hg.out Hbe.out.size) hb'⟩;have Fi:=zfi HF Hsize.out;have q5:∀ d os,(Go.Sort.grow (redrawn wr d) os).cell? ⟨gs,5,none⟩=some (.int .i64 a):=fun d os=>cell_regrown ((Hbe.out.cell (p:=⟨gs,5,none⟩) Hls.out).trans Hc.out) d os
   rw[HF.out]at HCa;have hXs:=HX.out r hlt;have hlen:=Hcs.out r (by omega);have hnext:=xhb X r;obtain⟨Y,HY⟩:=xaa (X r);rw[HY.out]at HCa hXs hnext;have Hlt:=ω hlt;have Hnext:=ω hnext;have HXs:=ω hXs;have Hlen:=ω hlen;clear hrg hlt HF hXs hlen hnext;go_wp2_with fail;refine wp_region_quiet_below (by kernel_rfl) (by kernel_rfl) ?_;iterate 3 (quiet_step (skip))
   refine xch rfl 109 _ rfl g o6 rfl F.toList _ (fun w' hC=>Hrg.out w' (krw.xa1 hC)) zX rfl Fi.out ?_;iterate 11 (quiet_step (skip))
   quiet_step (exact Calls.regrown_of (HCa.out _));iterate 5 (quiet_step (skip))
   refine wpQuiet_nil ?_;intro w3 hC;have hb3:Below wr.heap.size wr w3:=krw.xa1 hC;have Hb3:=ω hb3;have hz3:w.heap.size≤w3.heap.size:=Nat.le_trans Hbe.out.size hb3.size;have Hw:Ω (Calls Tryz.prog 53 #[.pointer (some ⟨w.heap.size,0,none⟩),.string Y] w3 fun e w'=>e=.returned (.tuple #[.int .i64 Y.size,.nilIface])∧(Lib.BuilderAt 99 5 w.heap.size w.heap.size (.pointer (some ⟨w.heap.size,0,none⟩)) (Lib.byteCells (cat ByteArray.empty X (r+1)).data.toList) w'∧Below w.heap.size w3 w')):=⟨by
    have hh:=shelfr.writeString w.heap.size w.heap.size (Lib.byteCells (cat ByteArray.empty X r).data.toList) Y w3 (shelfr.xmp Hbd.out hb3) (by
     rw[Lib.byteCells_length];have:=HXs.out;have:=Hlen.out;omega) hz3
    rw[show Lib.strCells Y=Lib.byteCells Y.data.toList from rfl,←Lib.byteCells_append,←Hnext.out]at hh;exact hh⟩
   clear hC hb3 q5;go_wp2_with fail;refine Hw.out.mono ?_;rintro e w4 ⟨rfl,hat,hb4⟩;have Hat:=ω hat;have D4:Ω (Below w.heap.size w w4):=⟨(Hbe.out.trans (Hb3.out.mono Hbe.out.size)).trans hb4⟩;clear hat hb4;go_wp2_with fail;go_roundw
   case rel=>exact⟨r+1,by have:=Hlt.out;omega,by go_num,⟨Or.inr Hat.out⟩,D4⟩
   case measure=>have:=Hlt.out;simp[intOf];omega
  ·obtain rfl:r=n:=by omega
   have Hst:Ω (Calls Tryz.prog 55 #[.pointer (some ⟨w.heap.size,0,none⟩)] wr fun e w'=>e=.returned (.string (cat ByteArray.empty X r))∧Below w.heap.size wr w'):=⟨by
    have hh:=shelfr.toText w.heap.size w.heap.size (cat ByteArray.empty X r).data.toList wr Hbd.out Hbe.out.size;rw[xnv]at hh;exact hh⟩
   rw[HRz.out]at Hst;clear hlt;go_wp2_with fail;refine Hst.out.mono ?_;rintro e w3 ⟨rfl,hb3⟩;have D3:Ω (Below w.heap.size w w3):=⟨Hbe.out.trans hb3⟩;clear hb3;go_wp2_with fail;go_ret;exact⟨rfl,D3.out⟩
theorem xtq(gs n:Nat)(b:Int)(vw:Value)(B:Nat)(p:Nat→Nat→Int)(w:World)(hb:b=95232∨b=261888)(hc:w.cell? ⟨gs,6,none⟩=some (.int .i64 b))(ls:gs<w.heap.size)(hn : 1≤n∧n≤8)(HV:Holds w B vw n p):
 Calls Tryz.prog 115 #[.pointer (some ⟨gs,0,none⟩),vw] w (zB w (.string (cat ByteArray.empty (fun i=>packed (fun k=>hgh b (p i k)) (8380416 / (2*b)-1)) n))):=by
 obtain⟨m,hm⟩:∃ m:Int,(8380416:Int) / (2*b)-1=m:=⟨_,rfl⟩;have hm2 : 1≤m∧m<8380417:=by rcases hb with rfl | rfl<;>omega
 obtain⟨X,hX⟩:=xaa (fun i=>packed (fun k=>hgh b (p i k)) m);have HX:Ω (∀ i,i<n→(X i).size≤1000):=⟨fun i _=>by rw[←hX.out,xcr,←hm];rcases hb with rfl | rfl<;>decide +kernel⟩;rw[hm,hX.out];obtain⟨hz,hsize⟩:=zero_of_info polt.infoP;have Hsize:=ω hsize;obtain⟨g,c,hvs,hg⟩:=xan HV;subst hvs;have Hv:=ω HV;have Hg:=ω hg;have Hls:=ω ls;have Hc:=ω hc;have HCall:Ω (∀ i,i<n→∀ w1:World,Calls Tryz.prog 101 #[.agg (FL .i64 256 fun k=>hgh b (p i k)),.int .i64 m] w1 (zB w1 (.tuple #[.string (X i),.int .i64 0]))):=⟨fun i hi w1=>by
  have h1:=ppack.xds (fun k=>hgh b (p i k)) m w1 hm2.1 hm2.2;rw[if_pos (show inb (fun k=>hgh b (p i k)) m from fun k _=>by rw[←hm];exact mlsb.xna b _ hb)]at h1;rw[←hX.out];exact h1⟩
 have HHi:Ω (∀ (f:Nat→Int) (w1:World),Calls Tryz.prog 160 #[.agg (FL .i64 256 f),.int .i64 b] w1 (zB w1 (.agg (FL .i64 256 fun i=>hgh b (f i))))):=⟨fun f w1=>rhigh.xc7 f b w1⟩;have hb1 : 95232≤b∧b≤261888:=by omega
 obtain⟨d,hd⟩:∃ d:Int,2*b=d:=⟨_,rfl⟩;have hd1 : 190464≤d:=by omega
 have hd2:d≤523776:=by omega
 have hdw:IntKind.i64.wrap (2*b)=d:=zwi;obtain⟨q,hq⟩:∃ q:Int,(8380416:Int) / d=q:=⟨_,rfl⟩;have hqt:Int.tdiv 8380416 d=q:=by rw[Int.tdiv_eq_ediv_of_nonneg (by decide)];exact hq
 have hqm:q-1=m:=by rw[←hm,←hq,←hd]
 have hqw:IntKind.i64.wrap (q-1)=m:=by rw[hqm,IntKind.wrap_i64];omega
 have hq2 : 1≤q∧q≤100:=by rw[←hq,←hd];rcases hb with rfl | rfl<;>decide
 clear hX hb hm hm2;have Hcs:Ω (∀ r,r≤n→(cat ByteArray.empty X r).data.toList.length≤1000*r):=⟨fun r hr=>by
  induction r with
  | zero=>exact Nat.zero_le _
  | succ r ih=>
   have h1:=ih (by omega);have h2:=HX.out r (by omega);rw[xhb,List.length_append];have h3:(X r).data.toList.length=(X r).size:=rfl;omega⟩
 have hfb:=Lib.fresh_isBuilder 99 5 w;have Hfb:Ω (Lib.IsBuilder 99 5 w.heap.size w.heap.size (Lib.byteCells (cat ByteArray.empty X 0).data.toList) (w.alloc (.cells #[.pointer none,.slice none 0 0] 99))):=⟨hfb⟩;have hn8:=hn.2;obtain⟨Rz,HRz⟩:=xaa (cat ByteArray.empty X n);rw[HRz.out];clear HV hz hsize hg ls hfb hn;go_enter Tryz.func115,Tryz.ntmps115;go_wp2_with fail;clear hc;go_loopw [20] (fun i wr=>∃ r:Nat,r≤n∧i=.int .i64 (r:Int)∧Ω (Lib.IsBuilder 99 5 w.heap.size w.heap.size (Lib.byteCells (cat ByteArray.empty X r).data.toList) wr)∧Ω (Below w.heap.size w wr)) (fun i _=>n-(intOf i).toNat)
 case atStart=>exact⟨0,Nat.zero_le _,rfl,Hfb,⟨(Below.refl _ _).alloc (Nat.le_refl _) _⟩⟩
 case round=>
  clear Hfb;obtain⟨r,hr,rfl,Hbd,Hbe⟩:=hrel;by_cases hlt:r<n
  ·have hrz:(r:Int)<(n:Int):=by omega
   have hr8:r<8:=by omega
   have hrg:=xax (Hv.out.later Hbe.out) r hlt;have HCa:=ω (HCall.out r hlt);have HHa:Ω (∀ w1:World,Calls Tryz.prog 160 #[.agg (FL .i64 256 (p r)),.int .i64 b] w1 (zB w1 (.agg (FL .i64 256 fun k=>hgh b (p r k))))):=⟨HHi.out (p r)⟩;obtain⟨H,HH⟩:=xaa (FL .i64 256 fun k=>hgh b (p r k));rw[HH.out]at HHa HCa;clear HH;obtain⟨F,HF⟩:=xaa (FL .i64 256 (p r));obtain⟨o6,ho6⟩:=zev (r*256);rw[HF.out,ho6]at hrg;have Hrg:Ω (∀ w':World,Below wr.heap.size wr w'→w'.rangeAt g o6 F.toList):=⟨fun w' hb'=>xa3 hrg (Nat.lt_of_lt_of_le Hg.out Hbe.out.size) hb'⟩;have Fi:=zfi HF Hsize.out;have q5:∀ d os,(Go.Sort.grow (redrawn wr d) os).cell? ⟨gs,6,none⟩=some (.int .i64 b):=fun d os=>cell_regrown ((Hbe.out.cell (p:=⟨gs,6,none⟩) Hls.out).trans Hc.out) d os
   rw[HF.out]at HHa;have hXs:=HX.out r hlt;have hlen:=Hcs.out r (by omega);have hnext:=xhb X r;obtain⟨Y,HY⟩:=xaa (X r);rw[HY.out]at HCa hXs hnext;have Hlt:=ω hlt;have Hnext:=ω hnext;have HXs:=ω hXs;have Hlen:=ω hlen;clear hrg hlt HF hXs hlen hnext;go_wp2_with fail;refine wp_region_quiet_below (by kernel_rfl) (by kernel_rfl) ?_;iterate 3 (quiet_step (skip))
   refine xch rfl 109 _ rfl g o6 rfl F.toList _ (fun w' hC=>Hrg.out w' (krw.xa1 hC)) zX rfl Fi.out ?_;iterate 5 (quiet_step (skip))
   quiet_step (exact Calls.regrown_of (HHa.out _));quiet_step (skip);quiet_step (exact Calls.regrown_of (HCa.out _));iterate 5 (quiet_step (skip))
   refine wpQuiet_nil ?_;intro w3 hC;have hb3:Below wr.heap.size wr w3:=krw.xa1 hC;have Hb3:=ω hb3;have hz3:w.heap.size≤w3.heap.size:=Nat.le_trans Hbe.out.size hb3.size;have Hw:Ω (Calls Tryz.prog 53 #[.pointer (some ⟨w.heap.size,0,none⟩),.string Y] w3 fun e w'=>e=.returned (.tuple #[.int .i64 Y.size,.nilIface])∧(Lib.BuilderAt 99 5 w.heap.size w.heap.size (.pointer (some ⟨w.heap.size,0,none⟩)) (Lib.byteCells (cat ByteArray.empty X (r+1)).data.toList) w'∧Below w.heap.size w3 w')):=⟨by
    have hh:=shelfr.writeString w.heap.size w.heap.size (Lib.byteCells (cat ByteArray.empty X r).data.toList) Y w3 (shelfr.xmp Hbd.out hb3) (by
     rw[Lib.byteCells_length];have:=HXs.out;have:=Hlen.out;omega) hz3
    rw[show Lib.strCells Y=Lib.byteCells Y.data.toList from rfl,←Lib.byteCells_append,←Hnext.out]at hh;exact hh⟩
   clear hC hb3 q5;go_wp2_with fail;refine Hw.out.mono ?_;rintro e w4 ⟨rfl,hat,hb4⟩;have Hat:=ω hat;have D4:Ω (Below w.heap.size w w4):=⟨(Hbe.out.trans (Hb3.out.mono Hbe.out.size)).trans hb4⟩;clear hat hb4;go_wp2_with fail;go_roundw
   case rel=>exact⟨r+1,by have:=Hlt.out;omega,by go_num,⟨Or.inr Hat.out⟩,D4⟩
   case measure=>have:=Hlt.out;simp[intOf];omega
  ·obtain rfl:r=n:=by omega
   have Hst:Ω (Calls Tryz.prog 55 #[.pointer (some ⟨w.heap.size,0,none⟩)] wr fun e w'=>e=.returned (.string (cat ByteArray.empty X r))∧Below w.heap.size wr w'):=⟨by
    have hh:=shelfr.toText w.heap.size w.heap.size (cat ByteArray.empty X r).data.toList wr Hbd.out Hbe.out.size;rw[xnv]at hh;exact hh⟩
   rw[HRz.out]at Hst;clear hlt;go_wp2_with fail;refine Hst.out.mono ?_;rintro e w3 ⟨rfl,hb3⟩;have D3:Ω (Below w.heap.size w w3):=⟨Hbe.out.trans hb3⟩;clear hb3;go_wp2_with fail;go_ret;exact⟨rfl,D3.out⟩
end mgb
namespace qbal
open arr mem stil polys polt rbitc samm rsuni
theorem xej(s:ByteArray)(t:Nat)(ht:t / 8<s.size)(hs:s.size≤544)(w:World):Calls Tryz.prog 177 #[.string s,.int .i64 (t:Int)] w (zE w (.int .i64 (sgn (bys s) t))):=by
 obtain⟨d,hd⟩:=zev (t / 8);obtain⟨r,hr⟩:=zev (t%8);have ht2:t<4352:=by omega
 have hid:∀ w1:World,(Instr.index 9 (.string s) (.int .i64 (d:Int))).run Tryz.prog w1=.ok (.int .u8 ((by' (bys s) d:Nat):Int)) w1:=fun w1=>byte_of s d _ (by omega) rfl w1
 obtain⟨γ,hγ⟩:∃ γ,by' (bys s) d = γ := ⟨_,rfl⟩
 have hγ8 : γ < 256:=by rw[←hγ];exact xb4 s _
 rw[hγ]at hid;obtain⟨y,hy⟩:=zev (γ / 2 ^ r);have hy8:y<256:=by rw[←hy];exact Nat.lt_of_le_of_lt (Nat.div_le_self _ _) hγ8
 have fy:(γ : Int) / 2 ^ r=(y:Int):=by rw[←hy];simp
 have fand:=xja y hy8;obtain⟨bb,hbb⟩:=zev (y%2);rw[hbb]at fand;have fd:(t:Int).tdiv 8=(d:Int):=by rw[Int.tdiv_eq_ediv_of_nonneg (by omega)];omega
 have fd2:(t:Int) / 8=(d:Int):=by omega
 have fdw:IntKind.i64.wrap ((t:Int).tdiv 8)=(d:Int):=by rw[fd,IntKind.wrap_i64];omega
 have fr:(t:Int).tmod 8=(r:Int):=by rw[Int.tmod_eq_emod_of_nonneg (by omega)];omega
 have fr2:(t:Int)%8=(r:Int):=by omega
 have fru:IntKind.u64.wrap (r:Int)=(r:Int):=by rw[IntKind.wrap_u64];omega
 have hr7:r≤7:=by omega
 have hsg:sgn (bys s) t=if bb=1 then 8380416 else 1:=by unfold sgn;rw[hd,hr,hγ,hy,hbb]
 have hds:(d:Int)<(s.size:Int):=by omega
 rw[hsg];clear hsg hd hr hγ hy;by_cases hb1:bb=1
 ·subst hb1;clear hbb;go_enter Tryz.func177,Tryz.ntmps177;go_wp2_with fail;go_ret;exact⟨rfl,rfl⟩
 ·obtain rfl:bb=0:=by omega
  clear hbb hb1;go_enter Tryz.func177,Tryz.ntmps177;go_wp2_with fail;go_ret;exact⟨rfl,rfl⟩
theorem xq2(s:ByteArray)(tau:Nat)(w:World)(ht1 : 1≤tau)(ht2:tau≤64)(hs:s.size=544):
 Calls Tryz.prog 161 #[.string s,.int .i64 (tau:Int)] w (zB w (.agg (FL .i64 256 (bl (bys s) tau tau).1))):=by
 obtain⟨hz,hsize⟩:=zero_of_info polt.infoP;obtain⟨z,HZ⟩:=xaa (FL .i64 256 fun _=>0);rw[HZ.out]at hz;have Hzs:=zfs HZ;obtain⟨R,HR⟩:=xaa (FL .i64 256 (bl (bys s) tau tau).1);have Ri:=zri HR hsize;have Ro:=zro HR;have Rz:=zrz Hzs HR;have HRd:Ω (FL .i64 256 (bl (bys s) tau tau).1=R):=HR;rw[HR.out];have Hix:Ω (∀ j:Nat,j<544→∀ w1:World,(Instr.index 9 (.string s) (.int .i64 (j:Int))).run Tryz.prog w1=.ok (.int .u8 ((by' (bys s) j:Nat):Int)) w1):=⟨fun j hj w1=>byte_of s j _ (by omega) rfl w1⟩;have Hsign:Ω (∀ t:Nat,t<64→∀ w1:World,Calls Tryz.prog 177 #[.string s,.int .i64 (t:Int)] w1 (zE w1 (.int .i64 (sgn (bys s) t)))):=⟨fun t ht w1=>xej s t (by omega) (by omega) w1⟩;obtain⟨W1,hW⟩:=zev ((w.alloc (.cells z 109)).alloc (.cells z 109));obtain⟨r0,r1,hWs,b0⟩:=two hW;have R1:Ω (W1.heap[w.heap.size]? = some (.cells z 109 (0,0))):=⟨r0⟩;have A0:Ω (At (w.heap.size+1) (FL .i64 256 (bl (bys s) tau 0).1) 109 W1 W1):=⟨by rw[bl,HZ.out];exact At.refl r1⟩;have B1:=ω b0;have HW:=ω hW;have hszi:(s.size:Int)=544:=by omega
 obtain⟨i0,hi0⟩:=zev (256-tau);have fi0:IntKind.i64.wrap (256-(tau:Int))=(i0:Int):=zwi;have fi0' : 256-(tau:Int)=(i0:Int):=by omega
 have Hi0:=ω hi0;clear hW r0 r1 b0 hWs hsize HR hi0 hs;go_enter Tryz.func161,Tryz.ntmps161;go_wp2_with (rw[HW.out]);clear hz fi0';go_loopw [7,8] (fun c v wr=>∃ t a f:Nat,t≤tau∧a≤544∧544≤a+f∧nx (bys s) (i0+t) f a=nx (bys s) (i0+t) 544 (bl (bys s) tau t).2∧c=.int .i64 ((i0+t:Nat):Int)∧v=.int .i64 (a:Int)∧Ω (At (w.heap.size+1) (FL .i64 256 (bl (bys s) tau t).1) 109 W1 wr)) (fun _ v _=>544-(intOf v).toNat)
 case atStart=>exact⟨0,8,544,Nat.zero_le _,by decide,by decide,by rw[bl],rfl,rfl,A0⟩
 case round=>
  clear A0;obtain⟨t,a,f,ht,ha,hf,hnx,rfl,rfl,A0⟩:=hrel;have BE:Ω (Below w.heap.size w wr):=⟨B1.out.trans (A0.out.below B1.out.size (by omega))⟩;obtain⟨o,hoo⟩:=zev ((bl (bys s) tau t).1);obtain⟨a0,ha0⟩:=zev ((bl (bys s) tau t).2);rw[ha0]at hnx;obtain⟨i,hi⟩:=zev (i0+t);rw[hi]at hnx ⊢;have Hi:Ω (256-tau+t=i):=⟨by rw[Hi0.out];exact hi⟩;have Hi':=ω hi;by_cases hgo:a<544∧t<tau
  ·obtain⟨hlt,htt⟩:=hgo;rw[hoo]at A0;have Ho:=ω hoo;have Ha0:=ω ha0;have hi256:i<256:=by have:=Hi0.out;omega
   have hiz:(i:Int)<256:=by omega
   have haz:(a:Int)<544:=by omega
   have hix:=Hix.out a hlt;obtain⟨β,hβ⟩:∃ β,by' (bys s) a = β := ⟨_,rfl⟩
   have hβ8 : β < 256:=by rw[←hβ];exact xb4 s _
   rw[hβ]at hix;have wβ : IntKind.i64.wrap (β : Int)=(β : Int):=by rw[IntKind.wrap_i64];omega
   clear hi hoo ha0;by_cases hbig:i < β
   ·have hbz:(i:Int)<(β : Int):=by omega
    obtain⟨f,rfl⟩:∃ f',f=f'+1:=⟨f-1,by omega⟩;rw[nx,if_pos ⟨hlt,by rw[hβ];exact hbig⟩]at hnx;have Hnx:=ω hnx;have A1:Ω (At (w.heap.size+1) (FL .i64 256 (bl (bys s) tau t).1) 109 W1 wr):=⟨by rw[Ho.out];exact A0.out⟩;clear hβ hbig hnx A0;go_wp2_with fail;go_roundw
    case rel=>exact⟨t,a+1,f,by omega,by omega,by omega,by rw[Hi'.out,Ha0.out];exact Hnx.out,by rw[Hi'.out],by go_num,A1⟩
    case measure=>simp[intOf];omega
   ·have hbz:¬ (i:Int)<(β : Int):=by omega
    rw[xgc (bys s) i f a (by rw[hβ];omega)]at hnx;obtain⟨v,hv⟩:∃ v,o β = v:=⟨_,rfl⟩;have co:wr.cell? ⟨w.heap.size+1,β,none⟩=some (.int .i64 v):=by rw[←hv];exact xaq A0.out.row β hβ8
    have fit:(i:Int)-(i0:Int)=(t:Int):=by have:=Hi'.out;omega
    have fitw:IntKind.i64.wrap ((i:Int)-(i0:Int))=(t:Int):=by rw[fit,IntKind.wrap_i64];omega
    obtain⟨g,hg⟩:=zev (sgn (bys s) t);have Hsg:=ω (Hsign.out t (by omega));rw[hg]at Hsg;have Hbl:Ω (bl (bys s) tau (t+1)=(upd (upd o i v) β g,a+1)):=⟨by
     rw[bl,Hi.out,Ha0.out,←hnx,Ho.out];show (if a=544 then _ else _)=_;rw[if_neg (by omega),hβ,hv,hg]⟩
    have Hs1:Ω (upd (upd o i v) β g=(bl (bys s) tau (t+1)).1):=⟨by rw[Hbl.out]⟩;have Ha1:Ω ((bl (bys s) tau (t+1)).2=a+1):=⟨by rw[Hbl.out]⟩;clear hβ hv hg hnx hbig fit;go_wp2_with ((with_reducible refine xaf (by assumption) rfl _ _ _ rfl rfl ?_);refine⟨_,_,_,rfl,rfl,rfl,(by rw[xad];omega),?_⟩;intro wn HRn;rw[xap]at HRn);refine(Hsg.out _).mono ?_;rintro x wn ⟨rfl,rfl⟩;go_wp2_with ((with_reducible refine xaf (by assumption) rfl _ _ _ rfl rfl ?_);refine⟨_,_,_,rfl,rfl,rfl,(by rw[xad];omega),?_⟩;intro wn HRm;rw[xap]at HRm);rw[Hs1.out]at HRm;go_roundw
    case rel=>exact⟨t+1,a+1,544,by omega,by omega,by omega,by rw[Ha1.out],by rw[show ((i0+(t+1):Nat):Int)=(i:Int)+1 by have:=Hi'.out;omega],by go_num,HRm⟩
    case measure=>simp[intOf];omega
  ·have e1:FL .i64 256 (bl (bys s) tau t).1=R:=by
    rw[←HRd.out];by_cases htt:t=tau
    ·rw[htt]
    ·have ha5:a=544:=by omega
     subst ha5;rw[xgc (bys s) i f 544 (by omega)]at hnx;have hbl:bl (bys s) tau (t+1)=(o,544):=by
      rw[bl,Hi.out,ha0,←hnx,hoo];exact if_pos rfl
     rw[xmm (bys s) tau (t+1) tau (by rw[hbl]) (by omega),hbl,hoo]
   rw[e1]at A0;have Hrow:=ω A0.out.row;have Hres:Ω (wr.heap[w.heap.size]? = some (.cells z 109 (0,0))):=⟨A0.out.other (xac R1.out) (by omega) R1.out⟩;have hi6:i≤256:=by have:=Hi0.out;omega
   by_cases hlt:a<544
   ·have haz:(a:Int)<544:=by omega
    obtain rfl:t=tau:=by omega
    have hii:i=256:=by have:=Hi0.out;omega
    subst hii;clear hgo A0 hoo ha0 hnx hi e1;simp only[Int.cast_ofNat_Int];go_wp2_with (first
     | (refine wpList_load_row rfl 109 _ rfl (w.heap.size+1) rfl 109 R (0,0) _ Hrow.out zX rfl Ri.out ?_)
     | (refine wpList_store_row rfl 109 _ _ rfl w.heap.size R rfl rfl 109 _ Hres.out Ri.out Rz.out Ro.out ?_))
    refine bodyPost_ret_by (v:=.agg R) (results_cell_row rfl _ _ w.heap.size 109 _ (0,0) _ rfl (setRow_heap _ _ _ _ _ _ Hres.out) zX rfl Ri.out) rfl ?_;exact⟨rfl,BE.out.trans (below_setRow _ _ _ (Nat.le_refl _))⟩
   ·obtain rfl:a=544:=by omega
    clear hgo A0 hoo ha0 hnx hi e1;simp only[Int.cast_ofNat_Int];go_wp2_with (first
     | (refine wpList_load_row rfl 109 _ rfl (w.heap.size+1) rfl 109 R (0,0) _ Hrow.out zX rfl Ri.out ?_)
     | (refine wpList_store_row rfl 109 _ _ rfl w.heap.size R rfl rfl 109 _ Hres.out Ri.out Rz.out Ro.out ?_))
    refine bodyPost_ret_by (v:=.agg R) (results_cell_row rfl _ _ w.heap.size 109 _ (0,0) _ rfl (setRow_heap _ _ _ _ _ _ Hres.out) zX rfl Ri.out) rfl ?_;exact⟨rfl,BE.out.trans (below_setRow _ _ _ (Nat.le_refl _))⟩
theorem xql{T:Array Value}(b:ByteArray)(tau:Int)(w:World)(h:¬ (1≤tau∧tau≤64)):
 Calls Tryz.prog 116 #[.agg T,.string b,.int .i64 tau] w (zB w (.agg (FL .i64 256 fun _=>0))):=by
 obtain⟨hz,hsize⟩:=zero_of_info polt.infoP;obtain⟨z,HZ⟩:=xaa (FL .i64 256 fun _=>0);rw[HZ.out]at hz ⊢;have Hzs:z.size=256:=by rw[←HZ.out];exact xad _ _ _
 have Zi:Ω ((Tryz.prog.info? 109).map (·.size)=some z.size):=⟨by rw[Hzs];exact hsize⟩;have Zo:=zro HZ;obtain⟨W,hW⟩:=zev ((w.alloc (.cells T 34)).alloc (.cells z 109));obtain⟨r0,r1,hWs,b0⟩:=two hW;have R0:Ω (W.heap[w.heap.size+1]? = some (.cells z 109 (0,0))):=⟨r1⟩;have BW:=ω b0;have HW:=ω hW;clear hW r0 r1 b0 hWs hsize HZ Hzs;have h:tau<1∨(¬ tau<1∧64<tau):=by omega
 rcases h with h1 | ⟨h1,h2⟩
 all_goals
  go_enter Tryz.func116,Tryz.ntmps116;go_wp2_with (first
   | (rw[HW.out])
   | (refine wpList_store_row rfl 109 _ _ rfl (w.heap.size+1) z rfl rfl 109 _ R0.out Zi.out rfl Zo.out ?_))
  refine bodyPost_ret_by (v:=.agg z) (results_cell_row rfl _ _ (w.heap.size+1) 109 _ (0,0) _ rfl (setRow_heap _ _ _ _ _ _ R0.out) zX rfl Zi.out) rfl ?_;exact⟨rfl,BW.out.trans (below_setRow _ _ _ (Nat.le_succ _))⟩
theorem xqm{T:Array Value}(b s:ByteArray)(tau:Nat)(w:World)(hT:(Tryz.prog.info? 34).map (·.size)=some T.size)(ht1 : 1≤tau)(ht2:tau≤64)(hs:s.size=544)
 (HS:∀ w1:World,Below w.heap.size w w1→Calls Tryz.prog 90 #[.agg T,.int .i64 2,.string b,.int .i64 544] w1 (zB w1 (.tuple #[.string s,.int .i64 0]))):
 Calls Tryz.prog 116 #[.agg T,.string b,.int .i64 (tau:Int)] w (zB w (.agg (FL .i64 256 (bl (bys s) tau tau).1))):=by
 obtain⟨hz,hsize⟩:=zero_of_info polt.infoP;obtain⟨z,HZ⟩:=xaa (FL .i64 256 fun _=>0);rw[HZ.out]at hz;have Hzs:=zfs HZ;have HU:Ω (∀ w1:World,Calls Tryz.prog 161 #[.string s,.int .i64 (tau:Int)] w1 (zB w1 (.agg (FL .i64 256 (bl (bys s) tau tau).1)))):=⟨fun w1=>xq2 s tau w1 ht1 ht2 hs⟩;obtain⟨R,HR⟩:=xaa (FL .i64 256 (bl (bys s) tau tau).1);have Ri:=zri HR hsize;have Ro:=zro HR;have Rz:=zrz Hzs HR;have HTz:=ω hT;rw[HR.out]at HU ⊢;obtain⟨W,hW⟩:=zev ((w.alloc (.cells T 34)).alloc (.cells z 109));obtain⟨r0,r1,hWs,b0⟩:=two hW;have T0:Ω (W.heap[w.heap.size]? = some (.cells T 34 (0,0))):=⟨r0⟩;have R0:Ω (W.heap[w.heap.size+1]? = some (.cells z 109 (0,0))):=⟨r1⟩;have BW:=ω b0;have HWs:=ω hWs;have HW:=ω hW;have HSh:=ω (HS W b0);have g1:¬ (tau:Int)<1:=by omega
 have g2:¬ (64:Int)<(tau:Int):=by omega
 clear hW r0 r1 b0 hWs hsize HS hT HR hs;go_enter Tryz.func116,Tryz.ntmps116;go_wp2_with (first
  | (rw[HW.out])
  | (refine wpList_load_row rfl 34 _ rfl w.heap.size rfl 34 T (0,0) _ T0.out zY rfl HTz.out ?_))
 refine HSh.out.mono ?_;rintro e u1 ⟨rfl,hb1⟩;have R1:Ω (u1.heap[w.heap.size+1]? = some (.cells z 109 (0,0))):=⟨(hb1.block _ (by rw[HWs.out];omega)).trans R0.out⟩;have B1:Ω (Below w.heap.size w u1):=⟨BW.out.trans (hb1.mono (by rw[HWs.out];omega))⟩;have Hlt:Ω (w.heap.size+1<u1.heap.size):=⟨xac R1.out⟩;clear hb1 hz;go_wp2_with fail;refine(HU.out _).mono ?_;rintro e u2 ⟨rfl,hb2⟩;have R2:Ω (u2.heap[w.heap.size+1]? = some (.cells z 109 (0,0))):=⟨(hb2.block _ Hlt.out).trans R1.out⟩;have B2:=zbt B1 hb2;clear hb2;go_wp2_with (refine wpList_store_row rfl 109 _ _ rfl (w.heap.size+1) R rfl rfl 109 _ R2.out Ri.out Rz.out Ro.out ?_);refine bodyPost_ret_by (v:=.agg R) (results_cell_row rfl _ _ (w.heap.size+1) 109 _ (0,0) _ rfl (setRow_heap _ _ _ _ _ _ R2.out) zX rfl Ri.out) rfl ?_;exact⟨rfl,B2.out.trans (below_setRow _ _ _ (Nat.le_succ _))⟩
end qbal
namespace qmsk
open arr mem stil polys polt rbitb rbitc rndm pols saml qpair qrow
theorem xki{T:Array Value}(ln fn m p:Nat)(k e t a b o s:Int)(sd:ByteArray)(sk:Nat→ByteArray)(q:Nat→Nat→Int)(w:World)(hT:(Tryz.prog.info? 34).map (·.size)=some T.size)(hl : 1≤ln∧ln≤8)(hf:fn≤65000)(hm:m≤64)(hp : 32*m=p)(ha : 1≤a∧a≤524288)(h:latt k (ln:Int) e t a b o s=true)(hsd:sd.size≤1125899906842624)
 (HL:∀ w1:World,Calls Tryz.prog 104 #[.int .i64 (2*a-1)] w1 (zE w1 (.int .i64 (m:Int))))
 (HS:∀ r:Nat,r<8→∀ w1:World,Below w.heap.size w w1→Calls Tryz.prog 90 #[.agg T,.int .i64 2,.string (tw sd ((fn+r)%256) ((fn+r) / 256)),.int .i64 (p:Int)] w1 (zB w1 (.tuple #[.string (sk r),.int .i64 0])))
 (HU:∀ r:Nat,r<8→∀ w1:World,Calls Tryz.prog 58 #[.string (sk r),.int .i64 (a-1),.int .i64 a] w1 (zB w1 (.tuple #[.agg (FL .i64 256 (q r)),.int .i64 0]))):
 Calls Tryz.prog 114 #[.agg T,.agg (zLt k (ln:Int) e t a b o s),.string sd,.int .i64 (fn:Int)] w fun x w'=>(∃ v1,x=.returned v1∧Holds w' w.heap.size v1 ln q)∧Below w.heap.size w w':=by
 have HR:Ω (∀ w1:World,Calls Tryz.prog 38 #[.agg (zLt k (ln:Int) e t a b o s)] w1 (zB w1 (.bool true))):=⟨fun w1=>by rw[←h];exact rright.xbn _ _ e t a b o s w1⟩;obtain⟨i0,hi,hz0,hz1,hz2⟩:=parts infoPoly;obtain⟨hz,hsize⟩:=zero_of_info polt.infoP;obtain⟨z,HZ⟩:=xaa (FL .i64 256 fun _=>0);rw[HZ.out]at hz hz0;have HI:=ω (And.intro hi (And.intro hz0 (And.intro hz1 hz2)));clear hi hz0 hz1 hz2 hsize;obtain⟨C,HC⟩:=xaa ((zLt k (ln:Int) e t a b o s):Array Value);rw[HC.out]at HR ⊢;have HCs:Ω ((Tryz.prog.info? 37).map (·.size)=some C.size):=⟨by rw[←HC.out];kernel_rfl⟩;obtain⟨W,hW⟩:=zev ((w.alloc (.cells T 34)).alloc (.cells C 37));obtain⟨r0,r1,hWs,b0⟩:=two hW;have T0:Ω (W.heap[w.heap.size]? = some (.cells T 34 (0,0))):=⟨r0⟩;have L0:Ω (W.heap[w.heap.size+1]? = some (.cells C 37 (0,0))):=⟨r1⟩;have BW:=ω b0;have HWs:=ω hWs;have HW:=ω hW;have HSm:=ω HS;have HUn:=ω HU;have HLo:=ω HL;have HTz:=ω hT;have Hl:=ω hl;have Hsd:=ω hsd;have Ha:=ω ha;have Hm:=ω (And.intro hm hp);have g1:¬ (fn:Int)<0:=by omega
 have g2:¬ (65000:Int)<(fn:Int):=by omega
 have Hf:=ω hf;clear hW r0 r1 b0 h HS HU HL hT hl hsd hWs ha hm hp hf;go_enter Tryz.func114,Tryz.ntmps114;go_wp2_with (first
  | (rw[HW.out])
  | (refine wpList_load_row rfl 37 _ rfl (w.heap.size+1) rfl 37 _ (0,0) _ L0.out zZ rfl HCs.out ?_))
 refine(HR.out _).mono ?_;rintro x u1 ⟨rfl,hb1⟩;have B1:Ω (Below w.heap.size w u1):=⟨BW.out.trans (hb1.mono (by rw[HWs.out];omega))⟩;have T1:Ω (u1.heap[w.heap.size]? = some (.cells T 34 (0,0))):=⟨(hb1.block _ (by rw[HWs.out];omega)).trans T0.out⟩;have L1:Ω (u1.heap[w.heap.size+1]? = some (.cells C 37 (0,0))):=⟨(hb1.block _ (by rw[HWs.out];omega)).trans L0.out⟩;have cL:∀ w1:World,Below u1.heap.size u1 w1→w1.cell? ⟨w.heap.size+1,1,none⟩=some (.int .i64 (ln:Int)):=fun w1 hb=>xab ((hb.block _ (xac L1.out)).trans L1.out) (by rw[←HC.out];rfl)
 have cA:∀ w1:World,Below u1.heap.size u1 w1→w1.cell? ⟨w.heap.size+1,4,none⟩=some (.int .i64 a):=fun w1 hb=>xab ((hb.block _ (xac L1.out)).trans L1.out) (by rw[←HC.out];rfl)
 have HcA:=ω cA;have cA1:=cA u1 (Below.refl _ _);have cL1:=cL u1 (Below.refl _ _);have fa2:IntKind.i64.wrap (2*a)=2*a:=by rw[IntKind.wrap_i64];have:=Ha.out;omega
 have fa21:IntKind.i64.wrap (2*a-1)=2*a-1:=by rw[IntKind.wrap_i64];have:=Ha.out;omega
 have fm6:IntKind.i64.wrap (256*(m:Int))=256*(m:Int):=by rw[IntKind.wrap_i64];have:=Hm.out;omega
 have fm8:(256*(m:Int)).tdiv 8=(p:Int):=by rw[Int.tdiv_eq_ediv_of_nonneg (by omega)];have:=Hm.out;omega
 have fm9:(256*(m:Int)) / 8=(p:Int):=by have:=Hm.out;omega
 have fmw:IntKind.i64.wrap ((256*(m:Int)).tdiv 8)=(p:Int):=by rw[fm8,IntKind.wrap_i64];have:=Hm.out;omega
 have fpw:IntKind.i64.wrap (p:Int)=(p:Int):=by rw[IntKind.wrap_i64];have:=Hm.out;omega
 clear hb1 cL cA;go_wp2_with fail;refine(HLo.out _).mono ?_;rintro x u1 ⟨rfl,rfl⟩;have hln8:ln≤8:=Hl.out.2;go_wp2_with (at_make;refine wpList_make_full _ rfl (.tmp 34) (.tmp 34) 67 rfl u1.heap.size 109 i0 (.agg z) 256 Tryz.underlying67 HI.out.1 HI.out.2.1 HI.out.2.2.1 .i64 .i64 ln ln ln rfl rfl rfl rfl (by rw[HI.out.2.2.2];omega) (by unfold maxLen;omega) (Nat.le_refl _) ?_);intro w3 hown hgr;obtain⟨hrow,hb3⟩:=xbm HZ.out hown hgr;have B3:Ω (Below u1.heap.size u1 w3):=⟨hb3⟩;have A3:Ω (At u1.heap.size (RW ln (fst q 0)) 109 w3 w3):=⟨by rw[xbl];exact At.refl hrow⟩;clear hown hgr hrow hb3 cA1 cL1 fa2 fa21 fm6 fm8 fm9 fmw;go_wp2_with fail;go_loopw [38] (fun v wr=>∃ r:Nat,r≤ln∧v=.int .i64 (r:Int)∧Ω (At u1.heap.size (RW ln (fst q r)) 109 w3 wr)) (fun v _=>ln-(intOf v).toNat)
 case atStart=>exact⟨0,Nat.zero_le _,rfl,A3⟩
 case round=>
  clear A3;obtain⟨r,hr,rfl,A0⟩:=hrel;have BU:Ω (Below u1.heap.size u1 wr):=⟨B3.out.trans (A0.out.below B3.out.size (Nat.le_refl _))⟩;have BE:=zbt B1 BU.out;by_cases hlt:r<ln
  ·have hltz:(r:Int)<(ln:Int):=by omega
   have hr8:r<8:=by omega
   obtain⟨N,hN⟩:=zev (fn+r);obtain⟨xx,hx⟩:=zev (N%256);obtain⟨yy,hy⟩:=zev (N / 256);have hN6:N≤65008:=by have:=Hf.out;omega
   have fnr:IntKind.i64.wrap ((fn:Int)+(r:Int))=(N:Int):=zwi;have f1:(N:Int).tmod 256=(xx:Int):=by rw[Int.tmod_eq_emod_of_nonneg (by omega)];omega
   have f2:(N:Int)%256=(xx:Int):=by omega
   have f3:(N:Int).tdiv 256=(yy:Int):=by rw[Int.tdiv_eq_ediv_of_nonneg (by omega)];omega
   have f4:(N:Int) / 256=(yy:Int):=by omega
   have f5:IntKind.i64.wrap ((N:Int).tdiv 256)=(yy:Int):=by rw[f3,IntKind.wrap_i64];omega
   have f6:IntKind.i64.wrap (yy:Int)=(yy:Int):=zwi;have T2:Ω (wr.heap[w.heap.size]? = some (.cells T 34 (0,0))):=⟨(BU.out.block _ (xac T1.out)).trans T1.out⟩;have HPr:Ω (∀ w1:World,Calls Tryz.prog 92 #[.int .i64 (xx:Int),.int .i64 (yy:Int)] w1 (zB w1 (.string (x2 xx yy)))):=⟨fun w1=>xdt xx yy (by omega) (by omega) w1⟩;have HSr:Ω (∀ w1:World,Below w.heap.size w w1→Calls Tryz.prog 90 #[.agg T,.int .i64 2,.string (sd++x2 xx yy),.int .i64 (p:Int)] w1 (zB w1 (.tuple #[.string (sk r),.int .i64 0]))):=⟨fun w1 hb=>by
    have:=HSm.out r hr8 w1 hb;rw[hN,hx,hy]at this;exact this⟩
   have HUr:=ω (HUn.out r hr8);obtain⟨X,HX⟩:=xaa (x2 xx yy);rw[HX.out]at HPr HSr;have hXs:X.size=2:=by rw[←HX.out];rfl
   have hsz:(9223372036854775807<sd.size+2)=False:=by have:=Hsd.out;simp;omega
   obtain⟨S,HSk⟩:=xaa (sk r);obtain⟨F,HF⟩:=xaa (FL .i64 256 (q r));rw[HSk.out]at HSr HUr;rw[HF.out]at HUr;have fa:IntKind.i64.wrap (a-1)=a-1:=by rw[IntKind.wrap_i64];have:=Ha.out;omega
   obtain⟨o6,ho6⟩:=zev (r*256);have Ho6:=ω ho6;have Hlt:=ω hlt;clear hN hx hy HX;go_wp2_with fail;refine wp_region_quiet_below (by kernel_rfl) (by kernel_rfl) ?_;refine xa2 rfl 34 _ rfl _ rfl 34 _ _ (fun w' hC=>xaw T2.out hC) zY rfl HTz.out ?_;iterate 5 (quiet_step (skip))
   quiet_step (exact Calls.regrown_of (HPr.out _));iterate 2 (quiet_step (skip))
   quiet_step (exact Calls.regrown_of (HSr.out _ (BE.out.trans ((below_regrown _ _ _).mono BE.out.size))));iterate 5 (quiet_step (skip))
   refine wpQuiet_nil ?_;intro wn hC;have hbn:Below wr.heap.size wr wn:=by
    obtain⟨pp,rfl⟩:=hC;exact below_regrown _ _ _
   have A5:Ω (At u1.heap.size (RW ln (fst q r)) 109 w3 wn):=⟨A0.out.later hbn⟩;have BN:=zbt BU hbn;have cA5:=HcA.out wn BN.out;clear hC hbn A0 f1 f2 f3 f4 f5 f6 fnr hXs hsz HPr HSr;go_wp2_with fail;refine(HUr.out _).mono ?_;rintro x w6 ⟨rfl,hb6⟩;have A6:Ω (At u1.heap.size (RW ln (fst q r)) 109 w3 w6):=⟨A5.out.later hb6⟩;clear hb6 cA5 A5;go_wp2_with ((with_reducible refine xcg A6 HF.out Hlt.out Ho6.out rfl _ _ rfl rfl ?hx ?hy ?_);(case hx=>exact rfl);(case hy=>exact rfl);intro w7 A7;rw[xbp]at A7);go_roundw
   case rel=>exact⟨r+1,by have:=Hlt.out;omega,by go_num,A7⟩
   case measure=>have:=Hlt.out;simp[intOf];omega
  ·obtain rfl:r=ln:=by omega
   have hH:Ω (Holds wr w.heap.size (.slice (some ⟨u1.heap.size,0,none⟩) r r) r q):=⟨xbo A0.out.row B1.out.size (fun i hi=>xbk q r i hi)⟩;clear A0;go_wp2_with fail;go_ret;exact⟨⟨_,rfl,hH.out⟩,BE.out⟩
end qmsk
namespace qdoc
open arr mem keca kstep kturn spok polys polt pols rbita rbitc rbitf rbitg rndm samm samb samc saml samr rsdoc
theorem ball{T:Array Value}(b:ByteArray)(tau:Int)(w:World)(hK:KT T TL RL)(hP:Gp w)(hb:b.size≤1125899906842624):
 Calls Tryz.prog 116 #[.agg T,.string b,.int .i64 tau] w (zB w (.agg (FL .i64 256 (dB b tau)))):=by
 unfold dB;by_cases h : 1≤tau∧tau≤64
 ·obtain⟨t,rfl⟩:=Int.eq_ofNat_of_zero_le (a:=tau) (by omega);rw[xjd _ t (by omega) (by omega)];exact qbal.xqm b _ t w (infoT T hK) (by omega) (by omega) (xbt 2 b 544) (shake 2 b 544 w hK hP (Or.inr rfl) (by decide) hb)
 ·rw[xmi _ _ h];exact qbal.xql b tau w h
theorem unsigned(s:ByteArray)(a:Int)(w:World)(ha:a=131072∨a=524288)(hs:s.size=32*mw a):
 Calls Tryz.prog 58 #[.string s,.int .i64 (a-1),.int .i64 a] w (zB w (.tuple #[.agg (FL .i64 256 (un (up s (mw a)) a)),.int .i64 0])):=by
 obtain⟨h1,h2,h3⟩:=xga a ha;have hin:∀ i,0≤up s (mw a) i∧up s (mw a) i≤a-1+a:=fun i=>by have:=up_lt s (mw a) i;rw[h3]at this;omega
 refine puns.xg0 s (a-1) a w (up s (mw a)) (by omega) (by omega) (by omega) (by omega) (fun i _=>hin i) fun w1=>?_
 have h:=punp.xgz s (a-1+a) w1 (by omega) (by omega) (by rw[h1];exact hs);rw[h1,if_pos (show rbitd.inb (up s (mw a)) (a-1+a) from fun i _=>hin i)]at h;exact h
theorem masks{T:Array Value}(ln fn:Nat)(k e t a b o s:Int)(sd:ByteArray)(w:World)(hK:KT T TL RL)(hP:Gp w)(hf:fn≤65000)(h:latt k (ln:Int) e t a b o s=true)(hsd:sd.size≤1000):
 Calls Tryz.prog 114 #[.agg T,.agg (zLt k (ln:Int) e t a b o s),.string sd,.int .i64 (fn:Int)] w fun x w'=>(∃ v1,x=.returned v1∧Holds w' w.heap.size v1 ln (qM sd a fn))∧Below w.heap.size w w':=by
 obtain⟨h1,h2,-,-,ha⟩:=xe1 h;obtain⟨m1,m2,m3⟩:=xga a ha;refine qmsk.xki ln fn (mw a) (32*mw a) k e t a b o s sd (fun r=>out TL RL 2 (tw sd ((fn+r)%256) ((fn+r) / 256)) (32*mw a)) (qM sd a fn) w (infoT T hK) (by omega) hf m2 rfl (by omega) h (by omega) (fun w1=>?_) (fun r _ w1 hb=>?_) (fun r _ w1=>?_)
 ·have h3:=plong.xcn (2*a-1) (by omega) w1;rw[show 2*a-1=a-1+a by omega,m1]at h3;rw[show 2*a-1=a-1+a by omega];exact h3
 ·exact shake 2 _ (32*mw a) w hK hP (Or.inr rfl) (by omega) (by rw[xfp];omega) w1 hb
 ·exact unsigned _ a w1 ha (xbt 2 _ _)
end qdoc
namespace mgc
open arr mem stil polys polt pols nttl rndm saml spok rsdoc mlkm mlsm keca kstep kturn rkpb rkrw qrow helda heldb mgd rbita rbitd rbite bitp
theorem xq6{T:Array Value}{S:Sg}(Z:Nat→Int)(n gs gt gm cm ga ca gb cb gl cl:Nat)(w:World)(hO:OKS T Z S)(hP:Gp w)(hn:n<814)(H:SGN T S gs gt gm cm ga ca gb cb gl cl w):
 Calls Tryz.prog 62 #[.pointer (some ⟨gs,0,none⟩),.int .i64 (n:Int)] w fun e w'=>(∃ gy cy gw cw,e=.returned (.agg (AT (.slice (some ⟨gy,0,none⟩) S.ln cy) (.slice (some ⟨gw,0,none⟩) S.kn cw) (tSum S n) (thereR S.ζ 8 (tC S n))))∧Holds w' 0 (.slice (some ⟨gy,0,none⟩) S.ln cy) S.ln (tY S n)∧Holds w' 0 (.slice (some ⟨gw,0,none⟩) S.kn cw) S.kn (tW S n))∧Below w.heap.size w w':=by
 obtain⟨hk,hl,-,-,ha,hbb,ho,hs⟩:=xgd hO;obtain⟨fn,hfn⟩:=zev (n*S.ln);have hf1:fn≤65000:=by
  have:n*S.ln≤813*8:=Nat.mul_le_mul (by omega) hl.2;omega
 have hmul:IntKind.i64.wrap ((S.ln:Int)*(n:Int))=(fn:Int):=by
  rw[show (S.ln:Int)*(n:Int)=((n*S.ln:Nat):Int) by rw[Int.natCast_mul,Int.mul_comm],hfn,IntKind.wrap_i64];omega
 obtain⟨lam,hlam⟩:=zev ((S.s / 4).toNat);have hl4:(S.s / 4:Int)=(lam:Int):=by omega
 have hl4t:Int.tdiv S.s 4=(lam:Int):=by rw[Int.tdiv_eq_ediv_of_nonneg (by omega)];exact hl4
 have hlam2:lam≤64:=by omega
 have hlw:IntKind.i64.wrap (lam:Int)=(lam:Int):=zwi;have HMk0:∀ w1:World,Gp w1→Calls Tryz.prog 114 #[.agg T,.agg #[.int .i64 S.kn,.int .i64 S.ln,.int .i64 S.e,.int .i64 S.t,.int .i64 S.a,.int .i64 S.b,.int .i64 S.o,.int .i64 S.s],.string S.ms,.int .i64 (fn:Int)] w1 fun x w'=>(∃ v1,x=.returned v1∧Holds w' w1.heap.size v1 S.ln (tY S n))∧Below w1.heap.size w1 w':=fun w1 hg=>by
  have h:=qdoc.masks S.ln fn S.kn S.e S.t S.a S.b S.o S.s S.ms w1 hO.kt hg hf1 hO.lat (by rw[hO.ms];decide);rw[←hfn]at h ⊢;exact h
 have HRw0:∀ (w1:World) (vv:Value) (B:Nat),MX w1 (.slice (some ⟨gm,0,none⟩) S.kn cm) S.kn (fun _=>S.ln) (qX S.rho)→Holds w1 B vv S.ln (tY S n)→Calls Tryz.prog 42 #[.agg T,.slice (some ⟨gm,0,none⟩) S.kn cm,vv] w1 fun e' w'=>(∃ v',e'=.returned v'∧Holds w' w1.heap.size v' S.kn (tW S n))∧Below w1.heap.size w1 w':=fun w1 vv B h1 h2=>by
  have h3:=krw.xin T Z S.kn S.ln (fun _=>S.ln) (qX S.rho) (tY S n) _ vv B w1 hO.zt.size hO.zt hk (fun _ _=>hl.2) hl h1 h2;simp only[Nat.min_self,←hO.ez]at h3;exact h3
 obtain⟨Hi,hHi⟩:=xaa (cat ByteArray.empty (fun i=>packed (tHi S n i) (8380416 / (2*S.b)-1)) S.kn);have HPh0:∀ (w1:World) (vv:Value) (B:Nat),SGN T S gs gt gm cm ga ca gb cb gl cl w1→Holds w1 B vv S.kn (tW S n)→Calls Tryz.prog 115 #[.pointer (some ⟨gs,0,none⟩),vv] w1 (zB w1 (.string Hi)):=fun w1 vv B h1 h2=>by
  rw[←hHi.out];exact mgb.xtq gs S.kn S.b vv B (tW S n) w1 hbb (h1.cell 6 _ rfl) h1.lts hk h2
 have hHs:Hi.size≤10000:=by
  rw[←hHi.out];have h1:∀ m,(cat ByteArray.empty (fun i=>packed (tHi S n i) (8380416 / (2*S.b)-1)) m).size=32*lb ((8380416:Int) / (2*S.b)-1).toNat*m:=fun m=>by
   rw[xf0 _ _ (32*lb ((8380416:Int) / (2*S.b)-1).toNat) m fun _ _=>xcr _ _];exact Nat.zero_add _
  rw[h1];have h2:lb ((8380416:Int) / (2*S.b)-1).toNat≤6:=by rcases hbb with h | h<;>rw[h]<;>decide +kernel
  have h3:=Nat.mul_le_mul (Nat.mul_le_mul (Nat.le_refl 32) h2) hk.2;omega
 have hsum:out TL RL 2 (S.mu++Hi) lam=tSum S n:=by
  unfold tSum;rw[←hlam,←hHi.out,xji]
 have HSh0:∀ w1:World,Gp w1→w1.heap[gt]? = some (.cells T 34 (0,0))→Calls Tryz.prog 60 #[.pointer (some ⟨gt,0,none⟩),.string (S.mu++Hi),.int .i64 (lam:Int)] w1 (zB w1 (.string (tSum S n))):=fun w1 hg hr=>by
  rw[←hsum];exact mga.xfe gt _ lam w1 hO.kt hg hr (by omega) (by rw[ByteArray.size_append,hO.mu];omega)
 have hss:(tSum S n).size≤64:=by rw[mlsb.xfk,hlam];exact hlam2
 have HBa0:∀ w1:World,Gp w1→Calls Tryz.prog 116 #[.agg T,.string (tSum S n),.int .i64 S.t] w1 (zB w1 (.agg (FL .i64 256 (tC S n)))):=fun w1 hg=>qdoc.ball (tSum S n) S.t w1 hO.kt hg (by omega)
 have HTh0:∀ w1:World,Calls Tryz.prog 95 #[.agg T,.agg (FL .i64 256 (tC S n))] w1 (zB w1 (.agg (FL .i64 256 (thereR S.ζ 8 (tC S n))))):=fun w1=>by rw[hO.ez];exact nthere.xfm T Z _ w1 hO.zt
 have hms:S.mu.size=64:=hO.mu;have HTz:Ω ((Tryz.prog.info? 34).map (·.size)=some T.size):=⟨by rw[hO.zt.size];kernel_rfl⟩;obtain⟨hz,hsize⟩:=zero_of_info infoAtz;obtain⟨z,HZ⟩:=xaa (AT (.slice none 0 0) (.slice none 0 0) ⟨#[]⟩ fun _=>0);rw[HZ.out]at hz;have Hzs:Ω (z.size=259):=⟨by rw[←HZ.out];exact xer _ _ _ _⟩;have Hsize:=ω hsize;obtain⟨W,hW⟩:=zev (w.alloc (.cells z 116));obtain⟨r0,hWs,b0⟩:=one hW;have HG:Ω (∀ w':World,Below W.heap.size W w'→SGN T S gs gt gm cm ga ca gb cb gl cl w'):=⟨fun w' hb=>H.later (b0.trans (hb.mono b0.size))⟩;have GP:Ω (∀ w':World,Below W.heap.size W w'→Gp w'):=⟨fun w' hb=>hP.later (b0.trans (hb.mono b0.size))⟩;have HP0:=ω hP;have HH:=ω H;have R0:=ω r0;have B0:=ω b0;have HWs:=ω hWs;have HW:=ω hW;have c0:∀ w':World,Below W.heap.size W w'→w'.cell? ⟨gs,0,none⟩=some (.pointer (some ⟨gt,0,none⟩)):=fun w' hb=>(HG.out w' hb).cell 0 _ rfl
 have c2:∀ w':World,Below W.heap.size W w'→w'.cell? ⟨gs,2,none⟩=some (.int .i64 S.ln):=fun w' hb=>(HG.out w' hb).cell 2 _ rfl
 have c4:∀ w':World,Below W.heap.size W w'→w'.cell? ⟨gs,4,none⟩=some (.int .i64 S.t):=fun w' hb=>(HG.out w' hb).cell 4 _ rfl
 have c8:∀ w':World,Below W.heap.size W w'→w'.cell? ⟨gs,8,none⟩=some (.int .i64 S.s):=fun w' hb=>(HG.out w' hb).cell 8 _ rfl
 have c9:∀ w':World,Below W.heap.size W w'→w'.cell? ⟨gs,9,none⟩=some (.slice (some ⟨gm,0,none⟩) S.kn cm):=fun w' hb=>(HG.out w' hb).cell 9 _ rfl
 have c13:∀ w':World,Below W.heap.size W w'→w'.cell? ⟨gs,13,none⟩=some (.string S.mu):=fun w' hb=>(HG.out w' hb).cell 13 _ rfl
 have c14:∀ w':World,Below W.heap.size W w'→w'.cell? ⟨gs,14,none⟩=some (.string S.ms):=fun w' hb=>(HG.out w' hb).cell 14 _ rfl
 obtain⟨C,hC⟩:=xaa (#[.int .i64 S.kn,.int .i64 S.ln,.int .i64 S.e,.int .i64 S.t,.int .i64 S.a,.int .i64 S.b,.int .i64 S.o,.int .i64 S.s]:Array Value);have CL:Ω (∀ w':World,Below W.heap.size W w'→w'.rangeAt gs 1 C.toList):=⟨fun w' hb=>by rw[←hC.out];exact(HG.out w' hb).lat⟩;have Ci:Ω ((Tryz.prog.info? 37).map (·.size)=some C.toList.length):=⟨by rw[←hC.out];kernel_rfl⟩;rw[hC.out]at HMk0;obtain⟨Y,hY⟩:=xaa (tY S n);obtain⟨Wv,hWv⟩:=xaa (tW S n);obtain⟨sum,hsm⟩:=xaa (tSum S n);obtain⟨c,hc⟩:=xaa (tC S n);obtain⟨tc,htc⟩:=xaa (thereR S.ζ 8 (tC S n));have htc2:thereR S.ζ 8 c=tc:=by rw[←hc.out];exact htc.out
 rw[htc.out];simp only[hY.out,hWv.out,hsm.out,hc.out,htc2]at HMk0 HRw0 HPh0 HSh0 HBa0 HTh0 ⊢;obtain⟨Fc,hFc⟩:=xaa (FL .i64 256 c);rw[hFc.out]at HBa0 HTh0;obtain⟨mu,hmu⟩:=zev S.mu;obtain⟨kn,hkn⟩:=zev S.kn;obtain⟨ln,hln⟩:=zev S.ln;obtain⟨sg,hsg⟩:=zev S.s;obtain⟨st,hst⟩:=zev S.t;obtain⟨ms,hmss⟩:=zev S.ms;rw[hmu]at HSh0 c13 hms;rw[hkn]at HRw0 HPh0 c9 ⊢;rw[hln]at HMk0 HRw0 c2 hmul ⊢;rw[hsg]at c8 hl4 hl4t;rw[hst]at HBa0 c4;rw[hmss]at HMk0 c14;have hcat:¬ 9223372036854775807<mu.size+Hi.size:=by omega
 clear hms;have HMk:=ω HMk0;have HRw:=ω HRw0;have HPh:=ω HPh0;have HSh:=ω HSh0;have HBa:=ω HBa0;have HTh:=ω HTh0;have hlnn : 1≤ln∧ln≤8:=by omega
 have hknn : 1≤kn∧kn≤8:=by omega
 have HMXf:Ω (∀ w':World,Below W.heap.size W w'→MX w' (.slice (some ⟨gm,0,none⟩) kn cm) kn (fun _=>ln) (qX S.rho)):=⟨fun w' hb=>by
  have:=(HG.out w' hb).mat;rw[hkn,hln]at this;exact this⟩
 clear hsize hW r0 b0 hWs HZ hP H hHi hsum hss hO ha ho hs hbb hk hl hlam hHs hfn hf1 hC hY hWv hsm hc htc htc2 hmu hkn hln hsg hst hmss HMk0 HRw0 HPh0 HSh0 HBa0 HTh0 hlam2;go_enter Tryz.func62,Tryz.ntmps62;go_wp2_with (rw[HW.out]);refine xbe (W.heap.size) 23 [0,1,2,3,4,5,6,7,8,9,10,11,12,13,14,15,16,17,18,19,20,21,22] (by kernel_rfl) rfl rfl (by decide) (fun hS ops HO=>?_);simp only[List.filterMap_cons,fa,List.getElem?_cons_succ,List.getElem?_cons_zero];iterate 3 (refine zU hS ?_)
 refine zD c0 hS ?_;refine zU hS ?_;refine hk_l (by rw[←HO.out];kernel_rfl) (fun _ _ _ _ h=>h) 34 _ rfl gt rfl 34 T _ (fun w1 h1=>(HG.out w1 h1).tab) zY rfl HTz.out hS ?_;simp only[Act.put,pa,pb,pc];iterate 3 (refine zU hS ?_)
 refine hk_m (by rw[←HO.out];kernel_rfl) (fun _ _ _ _ h=>h) 37 _ rfl gs 1 rfl C _ CL.out zZ rfl Ci.out hS ?_;simp only[Act.put,pa,pb,pc];iterate 3 (refine zU hS ?_)
 refine zD c14 hS ?_;iterate 4 (refine zU hS ?_)
 refine zD c2 hS ?_;iterate 2 (refine zU hS ?_)
 refine zS fun K hK=>?_
 go_simp
 refine(HMk.out _ (GP.out _ hS)).mono ?_;rintro x w2 ⟨⟨vy,rfl,hy⟩,hb2⟩;have h2:=hS.trans (hb2.mono hS.size);obtain⟨gy,cy,rfl,hgy⟩:=xan hy;refine hK _ _ h2 ?_;clear hK K;try simp only[Act.put,pa,pb,pc]
 refine zU h2 ?_;refine zN ?_;have E2:Ω (Below W.heap.size W w2):=⟨h2⟩;have HY:=ω hy;have L2:Ω (W.heap.size≤w2.heap.size):=⟨h2.size⟩;clear hS HO hb2 h2 hy hgy;go_wp2_with fail;have U0:∀ w':World,Below w2.heap.size w2 w'→Below W.heap.size W w':=fun w' hb=>E2.out.trans (hb.mono L2.out)
 refine xbe (w2.heap.size) 13 [0,1,2,3,4,5,6,7,8,9,10,11,12] (by kernel_rfl) rfl rfl (by decide) (fun hS ops HO=>?_);simp only[List.filterMap_cons,fa,List.getElem?_cons_succ,List.getElem?_cons_zero];iterate 3 (refine zU hS ?_)
 refine zD (fun w h=>c0 w (U0 w h)) hS ?_;refine zU hS ?_;refine hk_l (by rw[←HO.out];kernel_rfl) (fun _ _ _ _ h=>h) 34 _ rfl gt rfl 34 T _ (fun w1 h1=>(HG.out w1 (U0 w1 h1)).tab) zY rfl HTz.out hS ?_;simp only[Act.put,pa,pb,pc];iterate 3 (refine zU hS ?_)
 refine zD (fun w h=>c9 w (U0 w h)) hS ?_;refine zU hS ?_;refine zS fun K hK=>?_
 go_simp
 refine(HRw.out _ _ _ (HMXf.out _ (U0 _ hS)) (HY.out.later hS)).mono ?_;rintro x w3 ⟨⟨vw,rfl,hw⟩,hb3⟩;have h3:=hS.trans (hb3.mono hS.size);obtain⟨gw,cw,rfl,hgw⟩:=xan hw;refine hK _ _ h3 ?_;clear hK K;try simp only[Act.put,pa,pb,pc]
 refine zU h3 ?_;refine zN ?_;have E3:Ω (Below W.heap.size W w3):=⟨U0 _ h3⟩;have HYy:=ω (HY.out.later h3);have HWw:=ω hw;have L3:Ω (W.heap.size≤w3.heap.size):=⟨E3.out.size⟩;clear hS HO hb3 h3 hw hgw U0 HY;go_wp2_with fail;have U0:∀ w':World,Below w3.heap.size w3 w'→Below W.heap.size W w':=fun w' hb=>E3.out.trans (hb.mono L3.out)
 refine xbe (w3.heap.size) 20 [0,1,2,3,4,5,6,7,8,9,12,13,14,15,16,17,10,11,18,19] (by kernel_rfl) rfl rfl (by decide) (fun hS ops HO=>?_);simp only[List.filterMap_cons,fa,List.getElem?_cons_succ,List.getElem?_cons_zero];iterate 3 (refine zU hS ?_)
 refine zD (fun w h=>c0 w (U0 w h)) hS ?_;iterate 3 (refine zU hS ?_)
 refine zD (fun w h=>c13 w (U0 w h)) hS ?_;iterate 6 (refine zU hS ?_)
 refine zD (fun w h=>c8 w (U0 w h)) hS ?_;refine zU hS ?_;refine zS fun K hK=>?_
 go_simp
 refine(HPh.out _ _ _ (HG.out _ (U0 _ hS)) (HWw.out.later hS)).mono ?_;rintro x w4 ⟨rfl,hb4⟩;have h4:=hS.trans (hb4.mono hS.size);refine hK _ _ h4 ?_;clear hK K;try simp only[Act.put,pa,pb,pc]
 refine zU h4 ?_;refine zS fun K hK=>?_
 go_simp
 refine(HSh.out _ (GP.out _ (U0 _ h4)) (HG.out _ (U0 _ h4)).tab).mono ?_;rintro x w5 ⟨rfl,hb5⟩;have h5:=h4.trans (hb5.mono h4.size);refine hK _ _ h5 ?_;clear hK K;try simp only[Act.put,pa,pb,pc]
 refine zU h5 ?_;refine zN ?_;have E5:Ω (Below W.heap.size W w5):=⟨U0 _ h5⟩;have HY5:=ω (HYy.out.later h5);have HW5:=ω (HWw.out.later h5);have L5:Ω (W.heap.size≤w5.heap.size):=⟨E5.out.size⟩;clear hS HO hb4 h4 hb5 h5 U0 HYy HWw;go_wp2_with fail;have U0:∀ w':World,Below w5.heap.size w5 w'→Below W.heap.size W w':=fun w' hb=>E5.out.trans (hb.mono L5.out)
 refine xbe (w.heap.size) 25 [0,1,2,3,4,5,6,7,8,9,10,11,12,13,14,15,16,17,18,19,20,21,22,23,24] (by kernel_rfl) rfl rfl (by decide) (fun hS ops HO=>?_);simp only[List.filterMap_cons,fa,List.getElem?_cons_succ,List.getElem?_cons_zero];have V0:∀ w':World,Below w.heap.size w5 w'→w'.cell? ⟨gs,0,none⟩=some (.pointer (some ⟨gt,0,none⟩))∧w'.cell? ⟨gs,4,none⟩=some (.int .i64 st)∧w'.heap[gt]? = some (.cells T 34 (0,0)):=fun w' hb=>by
  have h5:=U0 w5 (Below.refl _ _);have l1:=HH.out.lts;have l2:=HH.out.ltt;exact⟨(hb.cell (p:=⟨gs,0,none⟩) l1).trans (c0 _ h5),(hb.cell (p:=⟨gs,4,none⟩) l1).trans (c4 _ h5),(hb.block _ l2).trans (HG.out _ h5).tab⟩
 iterate 6 (refine zU hS ?_)
 (refine hk_t (v:=?_) (by rw[←HO.out];kernel_rfl) (fun _ _ _ h=>h) ?_ hS ?_;rotate_left;focus (intro w9 h9;have hc:=(V0 w9 h9).1;go_simp;first | done | with_reducible rfl);all_goals skip)
 simp only[Act.put,pa,pb,pc];refine zU hS ?_;refine hk_l (by rw[←HO.out];kernel_rfl) (fun _ _ _ _ h=>h) 34 _ rfl gt rfl 34 T _ (fun w1 h1=>(V0 w1 h1).2.2) zY rfl HTz.out hS ?_;simp only[Act.put,pa,pb,pc];iterate 3 (refine zU hS ?_)
 (refine hk_t (v:=?_) (by rw[←HO.out];kernel_rfl) (fun _ _ _ h=>h) ?_ hS ?_;rotate_left;focus (intro w9 h9;have hc:=(V0 w9 h9).1;go_simp;first | done | with_reducible rfl);all_goals skip)
 simp only[Act.put,pa,pb,pc];refine zU hS ?_;refine hk_l (by rw[←HO.out];kernel_rfl) (fun _ _ _ _ h=>h) 34 _ rfl gt rfl 34 T _ (fun w1 h1=>(V0 w1 h1).2.2) zY rfl HTz.out hS ?_;simp only[Act.put,pa,pb,pc];iterate 5 (refine zU hS ?_)
 (refine hk_t (v:=?_) (by rw[←HO.out];kernel_rfl) (fun _ _ _ h=>h) ?_ hS ?_;rotate_left;focus (intro w9 h9;have hc:=(V0 w9 h9).2.1;go_simp;first | done | with_reducible rfl);all_goals skip)
 simp only[Act.put,pa,pb,pc];have hwl:w.heap.size≤w5.heap.size:=Nat.le_trans B0.out.size L5.out;have hd5:Below w5.heap.size w5 w5.drew:=(Below.refl _ _).drew;refine zS fun K hK=>?_
 go_simp
 refine(HBa.out _ (GP.out _ (U0 _ hd5))).mono ?_;rintro x w6 ⟨rfl,hb6⟩;have h6:=hS.trans (hb6.mono (Nat.le_trans hwl hS.size));have k6:=zbm hd5 hb6;refine hK _ _ h6 ?_;clear hK K;try simp only[Act.put,pa,pb,pc]
 refine zS fun K hK=>?_
 go_simp
 refine(HTh.out _).mono ?_;rintro x w7 ⟨rfl,hb7⟩;have h7:=h6.trans (hb7.mono (Nat.le_trans hwl h6.size));have k7:=zbm k6 hb7;refine hK _ _ h7 ?_;clear hK K;try simp only[Act.put,pa,pb,pc]
 refine hk_b (by rw[←HO.out];kernel_rfl) (fun _ _ _ _ h=>h) (.agg (AT (.slice (some ⟨gy,0,none⟩) ln cy) (.slice (some ⟨gw,0,none⟩) kn cw) sum tc)) (fun w1=>xr0 _ rfl rfl rfl rfl rfl _ (xrc _ _ _ _ _ _ _ _) w1) h7 ?_;simp only[Act.put,pa,pb,pc];have R7:w7.heap[w.heap.size]? = some (.cells z 116 (0,0)):=(k7.block _ (Nat.lt_of_lt_of_le (xac R0.out) L5.out)).trans ((E5.out.block _ (xac R0.out)).trans R0.out);obtain⟨R,HR⟩:=xaa (AT (.slice (some ⟨gy,0,none⟩) ln cy) (.slice (some ⟨gw,0,none⟩) kn cw) sum tc);have Ri:(Tryz.prog.info? 116).map (·.size)=some R.size:=by rw[←HR.out,xer];exact infoAt
 have Ro:R.all (·.oneCell')=true:=by rw[←HR.out];exact at_one _ _ _ _ _ _ _ _
 have Rz:z.size=R.size:=by rw[Hzs.out,←HR.out,xer]
 rw[HR.out];refine zS fun K hK=>?_
 refine wp_store_row 116 _ _ rfl w.heap.size R rfl rfl 116 _ R7 Ri Rz Ro ?_;have h8:=h7.trans (below_setRow (B:=w.heap.size) w7 w.heap.size R (Nat.le_refl _));refine hK _ _ h8 ?_;clear hK K;refine zN ?_;go_wp2_with fail;refine bodyPost_ret_by (v:=.agg R) (results_cell_row rfl _ _ w.heap.size 116 _ (0,0) _ rfl (setRow_heap _ _ _ _ _ _ R7) Tryz.underlying116 rfl Ri) rfl ?_;have q1:=rkse.xbx (xf7 (HY5.out.later k7) (show w.heap.size<W.heap.size by have:=HWs.out;omega) R);have q2:=rkse.xbx (xf7 (HW5.out.later k7) (Nat.lt_of_lt_of_le (show w.heap.size<W.heap.size by have:=HWs.out;omega) L2.out) R);exact⟨⟨gy,cy,gw,cw,by rw[HR.out],q1,q2⟩,(B0.out.trans (E5.out.mono B0.out.size)).trans h8⟩
end mgc
namespace mge
open arr mem stil polys polt pols nttl rndm saml spok rsdoc mlkm mlsm keca kstep kturn rkpb rkrw qrow helda heldb mgd
theorem xqx{T:Array Value}{S:Sg}(Z:Nat→Int)(n gs gt gm cm ga ca gb cb' gl cl gn gy cy gw cw:Nat)(w:World)(hO:OKS T Z S)(H:SGN T S gs gt gm cm ga ca gb cb' gl cl w)
 (hA:w.heap[gn]? = some (.cells (AT (.slice (some ⟨gy,0,none⟩) S.ln cy) (.slice (some ⟨gw,0,none⟩) S.kn cw) (tSum S n) (thereR S.ζ 8 (tC S n))) 116 (0,0))) (HYy:Holds w 0 (.slice (some ⟨gy,0,none⟩) S.ln cy) S.ln (tY S n)):
 Calls Tryz.prog 63 #[.pointer (some ⟨gs,0,none⟩),.pointer (some ⟨gn,0,none⟩)] w fun e w'=>(∃ v,e=.returned (.tuple #[v,.bool (decide (fldm.cbs (tZ S n) S.ln<S.a-S.t*S.e))])∧Holds w' w.heap.size v S.ln (tZ S n))∧Below w.heap.size w w':=by
 obtain⟨hk,hl,he,ht,ha,hbb,ho,hs⟩:=xgd hO;obtain⟨m,hm⟩:=zev (S.t*S.e);have hm2 : 0≤m∧m≤256:=by rw[←hm];rcases he with h | h<;>rw[h]<;>omega
 have hmw:IntKind.i64.wrap (S.t*S.e)=m:=by rw[hm,IntKind.wrap_i64];omega
 have hpol:=xmg hA;have c0n:w.cell? ⟨gn,0,none⟩=some (.slice (some ⟨gy,0,none⟩) S.ln cy):=xab hA rfl;have lgn:=xac hA;obtain⟨gA,cA,eA,hgA⟩:=xan H.ha;have HPr0:∀ r,r<S.ln→∀ w1:World,Below w.heap.size w w1→Calls Tryz.prog 117 #[.pointer (some ⟨gs,0,none⟩),.pointer (some ⟨gn,3,none⟩),.pointer (some ⟨ga,r*256,none⟩)] w1 (zB w1 (.agg (FL .i64 256 (one S.ζ (tC S n) (S.A r))))):=fun r hr w1 hb=>by
  have h1:=H.later hb;rw[←mul_one];have h2:=mga.xky (T:=T) Z gs gt gn 3 ga (r*256) (thereR S.ζ 8 (tC S n)) (thereR S.ζ 8 (S.A r)) w1 hO.zt (h1.cell 0 _ rfl) h1.tab (xa3 hpol lgn hb) (xax h1.ha r hr) h1.lts (Nat.lt_of_lt_of_le lgn hb.size) (by
   obtain⟨g9,c9,e9,-,h9,-⟩:=h1.ha;injection e9 with e9 _ _
   iterate 2 (injection e9 with e9)
   rw[e9];exact h9)
  rw[←hO.ez]at h2;exact h2
 have HAd0:∀ r,∀ w1:World,Calls Tryz.prog 94 #[.agg (FL .i64 256 (tY S n r)),.agg (FL .i64 256 (one S.ζ (tC S n) (S.A r)))] w1 (zB w1 (.agg (FL .i64 256 (tZ S n r)))):=fun r w1=>fadd.xcj _ _ w1
 have HMr0:∀ w1:World,Below w.heap.size w w1→Calls Tryz.prog 119 #[.pointer (some ⟨gs,0,none⟩)] w1 (zB w1 (.int .i64 m)):=fun w1 hb=>by
  have h1:=H.later hb;refine(mga.xno gs S.t S.e m w1 (h1.cell 4 _ rfl) (h1.cell 3 _ rfl) hmw).mono ?_;rintro e w' ⟨rfl,rfl⟩;exact⟨rfl,(Below.refl _ _).drew⟩
 obtain⟨i0,hi,hz0,hz1,hz2⟩:=tparts infoPoly;obtain⟨hz,hsize⟩:=zero_of_info polt.infoP;obtain⟨z,HZ⟩:=xaa (FL .i64 256 fun _=>0);rw[HZ.out]at hz hz0;have HI:=ω (And.intro hi (And.intro hz0 (And.intro hz1 hz2)));have Hsize:=ω hsize;have HG:=ω H;have HYv:=ω HYy;have hgy:gy<w.heap.size:=by
  obtain⟨g9,c9,e9,-,h9,-⟩:=HYy;injection e9 with e9 _ _
  iterate 2 (injection e9 with e9)
  rw[e9];exact h9
 have HGy:=ω hgy;have c10:w.cell? ⟨gs,10,none⟩=some (.slice (some ⟨ga,0,none⟩) S.ln ca):=H.cell 10 _ rfl;have c5:w.cell? ⟨gs,5,none⟩=some (.int .i64 S.a):=H.cell 5 _ rfl;have lgs:=H.lts;obtain⟨lim,hlim⟩:=zev (S.a-m);have hlimw:IntKind.i64.wrap (S.a-m)=lim:=by rw[hlim,IntKind.wrap_i64];omega
 rw[hm,hlim];obtain⟨al,hal⟩:=zev S.a;rw[hal]at c5 hlimw;obtain⟨ln,hln⟩:=zev S.ln;rw[hln]at HPr0 c0n c10 HYv hl ⊢;obtain⟨zz,hzz⟩:=xaa (tZ S n);obtain⟨yy,hyy⟩:=xaa (tY S n);obtain⟨pp,hpp⟩:=xaa (fun r=>one S.ζ (tC S n) (S.A r));have hpp2:∀ r,one S.ζ (tC S n) (S.A r)=pp r:=fun r=>by rw[←hpp.out]
 simp only[hpp2]at HPr0 HAd0;simp only[hzz.out,hyy.out]at HAd0 HYv ⊢;obtain⟨X,HX⟩:=xaa (fldm.cbs zz ln);rw[HX.out];have HPr:=ω HPr0;have HAd:=ω HAd0;have HMr:=ω HMr0;have C0n:=ω c0n;have C10:=ω c10;have C5:=ω c5;have Lgs:=ω lgs;have Lgn:=ω lgn;have hln8:=hl.2;clear hi hz0 hz1 hz2 hsize hk hl he ht ha hbb ho hs hm hm2 hmw hpol lgn eA hgA HPr0 HAd0 HMr0 HYy hgy c10 c5 lgs hlim hal hln hzz hyy hpp hpp2 hA H hO;go_enter Tryz.func63,Tryz.ntmps63;go_wp2_with (at_make;refine wpList_make_full _ rfl (.tmp 12) (.tmp 12) 67 rfl w.heap.size 109 i0 (.agg z) 256 Tryz.underlying67 HI.out.1 HI.out.2.1 HI.out.2.2.1 .i64 .i64 ln ln ln rfl rfl rfl rfl (by rw[HI.out.2.2.2];omega) (by unfold maxLen;omega) (Nat.le_refl _) ?_);clear c0n;intro w3 hown hgr;obtain⟨hrow,hb3⟩:=xbm HZ.out hown hgr;obtain⟨go,hgo⟩:=zev w.heap.size;rw[hgo]at hrow ⊢;have A3:Ω (At go (RW ln (fst zz 0)) 109 w3 w3):=⟨by rw[xbl];exact At.refl hrow⟩;have B3:Ω (Below w.heap.size w w3):=⟨hb3⟩;have Hgo:=ω hgo;clear hown hgr hrow hb3 hgo;go_wp2_with fail;go_loopw [16] (fun iv wr=>∃ r:Nat,r≤ln∧iv=.int .i64 (r:Int)∧Ω (At go (RW ln (fst zz r)) 109 w3 wr)) (fun iv _=>ln-(intOf iv).toNat)
 case atStart=>exact⟨0,Nat.zero_le _,rfl,A3⟩
 case round=>
  clear A3;obtain⟨r,hr,rfl,A0⟩:=hrel;have BU:Ω (Below w.heap.size w wr):=⟨B3.out.trans (A0.out.below B3.out.size (Nat.le_of_eq Hgo.out))⟩;by_cases hlt:r<ln
  ·have hrz:(r:Int)<(ln:Int):=by omega
   have hr8:r<8:=by omega
   have hrg:=xax (HYv.out.later BU.out) r hlt;have HPq:Ω (∀ w1:World,Below wr.heap.size wr w1→_):=⟨fun w1 hb=>HPr.out r hlt w1 (BU.out.trans (hb.mono BU.out.size))⟩;have HAq:=ω (HAd.out r);obtain⟨F,HF⟩:=xaa (FL .i64 256 (yy r));obtain⟨G,HGG⟩:=xaa (FL .i64 256 (pp r));obtain⟨E,HE⟩:=xaa (FL .i64 256 (zz r));obtain⟨o6,ho6⟩:=zev (r*256);rw[HF.out,ho6]at hrg;rw[ho6,HGG.out]at HPq;rw[HF.out,HGG.out,HE.out]at HAq;have Hrg:Ω (∀ w':World,Below wr.heap.size wr w'→w'.rangeAt gy o6 F.toList):=⟨fun w' hb'=>xa3 hrg (Nat.lt_of_lt_of_le HGy.out BU.out.size) hb'⟩;have Fi:=zfi HF Hsize.out;have q0:∀ d os,(Go.Sort.grow (redrawn wr d) os).cell? ⟨gn,0,none⟩=some (.slice (some ⟨gy,0,none⟩) ln cy):=fun d os=>cell_regrown ((BU.out.cell (p:=⟨gn,0,none⟩) Lgn.out).trans C0n.out) d os
   have q1:∀ d os,(Go.Sort.grow (redrawn wr d) os).cell? ⟨gs,10,none⟩=some (.slice (some ⟨ga,0,none⟩) ln ca):=fun d os=>cell_regrown ((BU.out.cell (p:=⟨gs,10,none⟩) Lgs.out).trans C10.out) d os
   have Hup:Ω (ups (fst zz r) r (zz r)=fst zz (r+1)):=⟨xbp zz r⟩;have Hlt:=ω hlt;have Ho6:=ω ho6;clear hrg hlt HF HGG;go_wp2_with fail;refine qtail.xb0 21 (by kernel_rfl) (by kernel_rfl) ?_;iterate 8 (quiet_step (skip))
   refine xch rfl 109 _ rfl gy o6 rfl F.toList _ (fun w' hC=>Hrg.out w' (krw.xa1 hC)) zX rfl Fi.out ?_;iterate 10 (quiet_step (skip))
   quiet_step (exact Calls.regrown_of (HPq.out _ (below_regrown _ _ _)));quiet_step (exact Calls.regrown_of (HAq.out _));refine wpQuiet_nil ?_;intro wn hC;have hbn:Below wr.heap.size wr wn:=krw.xa1 hC;have A6:Ω (At go (RW ln (fst zz r)) 109 w3 wn):=⟨A0.out.later hbn⟩;clear hC hbn A0 HPq HAq Hrg q0 q1;simp only[List.drop_succ_cons,List.drop_zero];go_wp2_with ((with_reducible refine xcg A6 HE.out Hlt.out Ho6.out rfl _ _ rfl rfl ?hx ?hy ?_);(case hx=>exact rfl);(case hy=>exact rfl);intro w7 A7;rw[Hup.out]at A7);go_roundw
   case rel=>exact⟨r+1,by have:=Hlt.out;omega,by go_num,A7⟩
   case measure=>have:=Hlt.out;simp[intOf];omega
  ·obtain rfl:r=ln:=by omega
   have HTt:Ω (Holds wr w.heap.size (.slice (some ⟨go,0,none⟩) r r) r zz):=⟨xbo A0.out.row (by have:=Hgo.out;omega) (fun i hi=>xbk zz r i hi)⟩;have HSz:Ω (∀ w1:World,Below wr.heap.size wr w1→Calls Tryz.prog 118 #[.slice (some ⟨go,0,none⟩) r r] w1 (zB w1 (.int .i64 (fldm.cbs zz r)))):=⟨fun w1 hb=>by
    refine(fsize.xb1 go r r zz w1 (by omega) fun j hj i hi=>?_).mono ?_
    ·obtain⟨g9,c9,e9,-,-,h9⟩:=HTt.out.later hb;injection e9 with e9 _ _
     iterate 2 (injection e9 with e9)
     rw[e9,Nat.mul_comm];exact h9 j hj i hi
    ·rintro e w' ⟨rfl,rfl⟩;exact⟨rfl,Below.refl _ _⟩⟩
   rw[HX.out]at HSz;have HMq:Ω (∀ w1:World,Below wr.heap.size wr w1→_):=⟨fun w1 hb=>HMr.out w1 (BU.out.trans (hb.mono BU.out.size))⟩;have q5:∀ d os,(Go.Sort.grow (redrawn wr d) os).cell? ⟨gs,5,none⟩=some (.int .i64 al):=fun d os=>cell_regrown ((BU.out.cell (p:=⟨gs,5,none⟩) Lgs.out).trans C5.out) d os
   clear A0 hlt;go_wp2_with fail;refine wp_region_quiet_below (by kernel_rfl) (by kernel_rfl) ?_;iterate 2 (quiet_step (skip))
   quiet_step (exact Calls.regrown_of (HSz.out _ (below_regrown _ _ _)));iterate 6 (quiet_step (skip))
   quiet_step (exact Calls.regrown_of (HMq.out _ (below_regrown _ _ _)));iterate 4 (quiet_step (skip))
   refine wpQuiet_nil ?_;intro wn hC;have hbn:Below wr.heap.size wr wn:=krw.xa1 hC;have HTn:=ω (HTt.out.later hbn);have D9:=zbt BU hbn;clear hC hbn q5 HTt;go_wp2_with fail;go_ret2;exact⟨⟨_,rfl,HTn.out⟩,D9.out⟩
end mge
namespace fsub
open arr mem stil polys polt fldm fld1
theorem xfj(f g:Nat→Int)(w:World):
 Calls Tryz.prog 120 #[.agg (FL .i64 256 f),.agg (FL .i64 256 g)] w (zB w (.agg (FL .i64 256 fun i=>(f i-g i)%8380417))):=by
 obtain⟨hz,hsize⟩:=zero_of_info infoP;obtain⟨z,HZ⟩:=xaa (FL .i64 256 fun _=>0);rw[HZ.out]at hz;have Hzs:=zfs HZ;obtain⟨F,HF⟩:∃ F:Nat→Int,Ω (F=fun i=>(f i-g i)%8380417):=⟨_,⟨rfl⟩⟩;have hFi:∀ i,F i=(fun i=>(f i-g i)%8380417) i:=fun i=>by rw[HF.out]
 have HFi:=ω hFi;rw[←HF.out];clear HF hFi;obtain⟨R,HR⟩:=xaa (FL .i64 256 F);have Ri:=zri HR hsize;have Ro:=zro HR;have Rz:=zrz Hzs HR;rw[HR.out];have Hred:=ω xai;clear hsize;go_enter Tryz.func120,Tryz.ntmps120;go_wp2_with fail;clear hz;obtain⟨W,hW⟩:=zev (((w.alloc (.cells (FL .i64 256 f) 109)).alloc (.cells (FL .i64 256 g) 109)).alloc (.cells z 109));obtain⟨b0,b1,b2,hWs,hWb⟩:=three hW;rw[hW];clear hW;have B0:=ω b0;have B1:=ω b1;have BR:=ω b2;have HWs:Ω (w.heap.size+3≤W.heap.size):=⟨by omega⟩;have HWb:=ω hWb;clear hWs hWb b0 b1 b2;go_loopw [6] (fun v wr=>∃ i:Nat,i≤256∧v=.int .i64 (i:Int)∧Ω (At w.heap.size (FL .i64 256 (pt F f i)) 109 W wr)) (fun v _=>256-(intOf v).toNat)
 case atStart=>exact⟨0,Nat.zero_le _,rfl,⟨by rw[xba];exact At.refl B0.out⟩⟩
 case round=>
  obtain⟨i,hi,rfl,A0⟩:=hrel;by_cases hlt:i<256
  ·have hiz:(i:Int)<256:=by omega
   obtain⟨x,hx⟩:=zev (f i);have ca:wr.cell? ⟨w.heap.size,i,none⟩=some (.int .i64 x):=by
    have h9:=xaq A0.out.row i hlt;rw[xc0,hx]at h9;exact h9
   obtain⟨y,hy⟩:=zev (g i);have cb:wr.cell? ⟨w.heap.size+1,i,none⟩=some (.int .i64 y):=by
    rw[←hy];exact xaq (A0.out.other (by have:=HWs.out;omega) (by omega) B1.out) i hlt
   have HV:Ω (F i=(x-y)%8380417):=⟨by rw[HFi.out,hx,hy]⟩;obtain⟨x1,hx1⟩:=xaa (x%8380417);obtain⟨y1,hy1⟩:=xaa (y%8380417);have hs:IntKind.i64.wrap (x1-y1)=x1-y1:=by rw[←hx1.out,←hy1.out,IntKind.wrap_i64];omega
   obtain⟨s,hs1⟩:=xaa (x1-y1);have hs2:s%8380417=F i:=by rw[HV.out,←hs1.out,←hx1.out,←hy1.out];omega
   obtain⟨v,hv⟩:=xaa (s%8380417);have Hx:∀ w1:World,Calls Tryz.prog 112 #[.int .i64 x] w1 (zE w1 (.int .i64 x1)):=fun w1=>by rw[←hx1.out];exact xai x w1
   have Hy:∀ w1:World,Calls Tryz.prog 112 #[.int .i64 y] w1 (zE w1 (.int .i64 y1)):=fun w1=>by rw[←hy1.out];exact xai y w1
   have Hs:∀ w1:World,Calls Tryz.prog 112 #[.int .i64 (x1-y1)] w1 (zE w1 (.int .i64 v)):=fun w1=>by rw[hs1.out,←hv.out];exact xai s w1
   have HU:Ω (upd (pt F f i) i v=pt F f (i+1)):=⟨xa4 F f i v (by rw[←hv.out,hs2])⟩;clear hy hs2;clear hx;go_wp2_with fail;refine xay 12 (by kernel_rfl) (by kernel_rfl) ?_;simp only[List.take_succ_cons,List.take_zero,List.drop_succ_cons,List.drop_zero];repeat still_step
   still_call (Hx _)
   repeat still_step
   still_call (Hy _)
   repeat still_step
   still_call (Hs _)
   repeat still_step
   refine wpStill_nil ?_;clear cb;clear ca;have A1:Ω (At w.heap.size (FL .i64 256 (pt F f i)) 109 W wr.drew):=⟨xag A0.out⟩;clear A0
   with_reducible refine xaf A1 rfl _ _ _ rfl rfl ?_
   refine⟨_,_,_,rfl,rfl,rfl,by rw[xad];exact hlt,?_⟩;intro wn HR;rw[xap,HU.out]at HR;go_wp2_with fail;go_roundw
   case rel=>exact⟨i+1,by omega,by go_num,HR⟩
   case measure=>simp[intOf];omega
  ·obtain rfl:i=256:=by omega
   simp only[Int.cast_ofNat_Int];rw[xa8,HR.out]at A0;have Hrow:=ω A0.out.row;have Hres:Ω (wr.heap[w.heap.size+2]? = some (.cells z 109 (0,0))):=⟨A0.out.other (by have:=HWs.out;omega) (by omega) BR.out⟩;have HB:Ω (Below w.heap.size w wr):=⟨HWb.out.trans (A0.out.below (by have:=HWs.out;omega) (Nat.le_refl _))⟩;clear A0;go_wp2_with (first
    | (refine wpList_load_row rfl 109 _ rfl w.heap.size rfl 109 R (0,0) _ Hrow.out zX rfl Ri.out ?_)
    | (refine wpList_store_row rfl 109 _ _ rfl (w.heap.size+2) R rfl rfl 109 _ Hres.out Ri.out Rz.out Ro.out ?_))
   refine bodyPost_ret_by (v:=.agg R) (results_cell_row rfl _ _ (w.heap.size+2) 109 _ (0,0) _ rfl (setRow_heap _ _ _ _ _ _ Hres.out) zX rfl Ri.out) rfl ?_;exact⟨rfl,HB.out.trans (below_setRow _ _ _ (by omega))⟩
end fsub
namespace rlow
open arr mem stil polys polt fldm fld1 rndm rpart
theorem xkd(f:Nat→Int)(g:Int)(w:World):
 Calls Tryz.prog 122 #[.agg (FL .i64 256 f),.int .i64 g] w (zB w (.agg (FL .i64 256 fun i=>lw g (f i)%8380417))):=by
 obtain⟨hz,hsize⟩:=zero_of_info infoP;obtain⟨z,HZ⟩:=xaa (FL .i64 256 fun _=>0);rw[HZ.out]at hz;have Hzs:=zfs HZ;obtain⟨F,HF⟩:∃ F:Nat→Int,Ω (F=fun i=>lw g (f i)%8380417):=⟨_,⟨rfl⟩⟩;have hFi:∀ i,F i=(fun i=>lw g (f i)%8380417) i:=fun i=>by rw[HF.out]
 have HFi:=ω hFi;rw[←HF.out];clear HF hFi;obtain⟨R,HR⟩:=xaa (FL .i64 256 F);have Ri:=zri HR hsize;have Ro:=zro HR;have Rz:=zrz Hzs HR;obtain⟨I,HI⟩:=xaa (FL .i64 256 f);have Ii:=zri HI hsize;rw[HR.out,HI.out];clear hsize;have Hix:Ω (∀ (i:Nat),i<256→∀ w1:World,(Instr.index 109 (.agg I) (.int .i64 (i:Int))).run Tryz.prog w1=.ok (.int .i64 (f i)) w1):=⟨fun i hi w1=>by rw[←HI.out];exact xd7 f i hi w1⟩;go_enter Tryz.func122,Tryz.ntmps122;go_wp2_with fail;clear hz;obtain⟨W,hW⟩:=zev ((w.alloc (.cells I 109)).alloc (.cells z 109));obtain⟨b0,b1,hWs,hWb⟩:=two hW;rw[hW];clear hW;have B0:=ω b0;have B1:=ω b1;have HWs:Ω (w.heap.size+2≤W.heap.size):=⟨by omega⟩;have HWb:=ω hWb;clear hWs hWb b0 b1;refine wp_load_row 109 _ rfl w.heap.size rfl 109 I (0,0) _ B0.out zX rfl Ii.out ?_;go_wp2_with fail;go_loopw [10] (fun v wr=>∃ i:Nat,i≤256∧v=.int .i64 (i:Int)∧Ω (At w.heap.size (FL .i64 256 (pt F f i)) 109 W wr)) (fun v _=>256-(intOf v).toNat)
 case atStart=>exact⟨0,Nat.zero_le _,rfl,⟨by rw[xba,HI.out];exact At.refl B0.out⟩⟩
 case round=>
  obtain⟨i,hi,rfl,A0⟩:=hrel;by_cases hlt:i<256
  ·have hiz:(i:Int)<256:=by omega
   have hx0:=Hix.out i hlt wr;obtain⟨x,hx⟩:=zev (f i);rw[hx]at hx0;have HV:Ω (F i=lw g x%8380417):=⟨by rw[HFi.out,hx]⟩;have Hp:=xgl x g;obtain⟨h0,hh0⟩:=xaa (hgh g x);obtain⟨l0,hl0⟩:=xaa (lw g x);rw[hh0.out,hl0.out]at Hp;rw[hl0.out]at HV;have Hr:=xai l0;obtain⟨v,hv⟩:=xaa (l0%8380417);rw[hv.out]at Hr;have HU:Ω (upd (pt F f i) i v=pt F f (i+1)):=⟨xa4 F f i v (by rw[HV.out,hv.out])⟩;clear hx;go_wp2_with fail;refine(Hp _).mono ?_;rintro e w1 ⟨rfl,rfl⟩;go_wp2_with fail;refine(Hr _).mono ?_;rintro e w1 ⟨rfl,rfl⟩;go_wp2_with ((with_reducible refine xaf A0 rfl _ _ _ rfl rfl ?_);refine⟨_,_,_,rfl,rfl,rfl,by rw[xad];exact hlt,?_⟩;intro wn HR2;rw[xap,HU.out]at HR2);go_roundw
   case rel=>exact⟨i+1,by omega,by go_num,HR2⟩
   case measure=>simp[intOf];omega
  ·obtain rfl:i=256:=by omega
   simp only[Int.cast_ofNat_Int];rw[xa8,HR.out]at A0;have Hrow:=ω A0.out.row;have Hres:Ω (wr.heap[w.heap.size+1]? = some (.cells z 109 (0,0))):=⟨A0.out.other (by have:=HWs.out;omega) (by omega) B1.out⟩;have HB:Ω (Below w.heap.size w wr):=⟨HWb.out.trans (A0.out.below (by have:=HWs.out;omega) (Nat.le_refl _))⟩;clear A0;go_wp2_with (first
    | (refine wpList_load_row rfl 109 _ rfl w.heap.size rfl 109 R (0,0) _ Hrow.out zX rfl Ri.out ?_)
    | (refine wpList_store_row rfl 109 _ _ rfl (w.heap.size+1) R rfl rfl 109 _ Hres.out Ri.out Rz.out Ro.out ?_))
   refine bodyPost_ret_by (v:=.agg R) (results_cell_row rfl _ _ (w.heap.size+1) 109 _ (0,0) _ rfl (setRow_heap _ _ _ _ _ _ Hres.out) zX rfl Ri.out) rfl ?_;exact⟨rfl,HB.out.trans (below_setRow _ _ _ (by omega))⟩
end rlow
end Go.Proofs.YtgahcabgmfbhdaaGreatDoor
