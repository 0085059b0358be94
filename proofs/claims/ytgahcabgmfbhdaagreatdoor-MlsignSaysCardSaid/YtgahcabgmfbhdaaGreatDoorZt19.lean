/-
  What mlsign's transforms returns. Conditions: as the theorem says. The contract of the library's Clo
-/
import Derived.Test.YtgahcabgmfbhdaaGreatDoorZt18
import Derived.Test.YtgahcabgmfbhdaaGreatDoorZt08
import Derived.Test.YtgahcabgmfbhdaaGreatDoorZt02
import Derived.Test.YtgahcabgmfbhdaaGreatDoorProg
import Derived.Test.YtgahcabgmfbhdaaGreatDoorZt01
import Derived.Test.YtgahcabgmfbhdaaGreatDoorZt16
import Derived.Test.YtgahcabgmfbhdaaGreatDoorZt07
import Derived.Test.YtgahcabgmfbhdaaGreatDoorZt03
import Derived.Test.YtgahcabgmfbhdaaGreatDoorZt05
import Derived.Test.YtgahcabgmfbhdaaGreatDoorZt11
import Derived.OwnWalk
import Derived.Shelf.LaysM
import Derived.Shelf.Strconv.Clone
import Derived.Lib.MinMax
import Derived.Maps.AppendAt
set_option maxRecDepth 100000
set_option maxHeartbeats 16000000
set_option linter.unusedSimpArgs false
set_option linter.unusedVariables false
open Go Go.RowKit
namespace Go.Proofs.YtgahcabgmfbhdaaGreatDoor
namespace mgt
open arr mem stil polys polt pols nttl rndm saml spok rsdoc mlkm mlsm keca kstep kturn rkpb rkrw qrow mgd
theorem xv3{T:Array Value}(Z:Nat→Int)(gt nv:Nat)(vv:Value)(B:Nat)(y:Nat→Nat→Int)(w:World)(hT:nthere.ZT T Z)(hr:w.heap[gt]? = some (.cells T 34 (0,0)))(hv : 1≤nv∧nv≤8)(HV:Holds w B vv nv y):
 Calls Tryz.prog 61 #[.pointer (some ⟨gt,0,none⟩),vv] w fun e w'=>(∃ v',e=.returned v'∧Holds w' w.heap.size v' nv (fun i=>thereR (fun k=>Z k%8380417) 8 (y i)))∧Below w.heap.size w w':=by
 have HTh:Ω (∀ (f:Nat→Int) (w1:World),Calls Tryz.prog 95 #[.agg T,.agg (FL .i64 256 f)] w1 (zB w1 (.agg (FL .i64 256 (thereR (fun k=>Z k%8380417) 8 f))))):=⟨fun f w1=>nthere.xfm T Z f w1 hT⟩;have HTz:Ω ((Tryz.prog.info? 34).map (·.size)=some T.size):=⟨by rw[hT.size];kernel_rfl⟩;obtain⟨i0,hi,hz0,hz1,hz2⟩:=tparts infoPoly;obtain⟨hz,hsize⟩:=zero_of_info polt.infoP;obtain⟨z,HZ⟩:=xaa (FL .i64 256 fun _=>0);rw[HZ.out]at hz hz0;have HI:=ω (And.intro hi (And.intro hz0 (And.intro hz1 hz2)));have Hsize:=ω hsize;obtain⟨gv,cv,rfl,hgv⟩:=xan HV;have HVv:=ω HV;have HGv:=ω hgv;obtain⟨th,hth⟩:=xaa (fun j=>thereR (fun k=>Z k%8380417) 8 (y j));have Hth:Ω (∀ j,thereR (fun k=>Z k%8380417) 8 (y j)=th j):=⟨fun j=>by rw[←hth.out]⟩;rw[hth.out];have T0:=ω hr;have hnv8:=hv.2;clear hi hz0 hz1 hz2 hsize HV hv hth hgv hT hr;go_enter Tryz.func61,Tryz.ntmps61;go_wp2_with (at_make;refine wpList_make_full _ rfl (.tmp 8) (.tmp 8) 67 rfl w.heap.size 109 i0 (.agg z) 256 Tryz.underlying67 HI.out.1 HI.out.2.1 HI.out.2.2.1 .i64 .i64 nv nv nv rfl rfl rfl rfl (by rw[HI.out.2.2.2];omega) (by unfold maxLen;omega) (Nat.le_refl _) ?_);intro w3 hown hgr;obtain⟨hrow,hb3⟩:=xbm HZ.out hown hgr;obtain⟨gt2,hgt⟩:=zev w.heap.size;rw[hgt]at hrow ⊢;have A3:Ω (At gt2 (RW nv (fst th 0)) 109 w3 w3):=⟨by rw[xbl];exact At.refl hrow⟩;have B3:Ω (Below w.heap.size w w3):=⟨hb3⟩;have Hgt:=ω hgt;clear hown hgr hrow hb3 hgt;go_wp2_with fail;go_loopw [12] (fun iv wr=>∃ r:Nat,r≤nv∧iv=.int .i64 (r:Int)∧Ω (At gt2 (RW nv (fst th r)) 109 w3 wr)) (fun iv _=>nv-(intOf iv).toNat)
 case atStart=>exact⟨0,Nat.zero_le _,rfl,A3⟩
 case round=>
  clear A3;obtain⟨r,hr,rfl,A0⟩:=hrel;have BU:Ω (Below w.heap.size w wr):=⟨B3.out.trans (A0.out.below B3.out.size (Nat.le_of_eq Hgt.out))⟩;by_cases hlt:r<nv
  ·have hrz:(r:Int)<(nv:Int):=by omega
   have hr8:r<8:=by omega
   have hrg:=xax (HVv.out.later BU.out) r hlt;obtain⟨F,HF⟩:=xaa (FL .i64 256 (y r));obtain⟨o6,ho6⟩:=zev (r*256);rw[HF.out,ho6]at hrg;have Hrg:Ω (∀ w':World,Below wr.heap.size wr w'→w'.rangeAt gv o6 F.toList):=⟨fun w' hb'=>xa3 hrg (Nat.lt_of_lt_of_le HGv.out BU.out.size) hb'⟩;have Fi:=zfi HF Hsize.out;have T1:Ω (wr.heap[gt]? = some (.cells T 34 (0,0))):=⟨(BU.out.block _ (xac T0.out)).trans T0.out⟩;have HTr:Ω (∀ w1:World,Calls Tryz.prog 95 #[.agg T,.agg F] w1 (zB w1 (.agg (FL .i64 256 (th r))))):=⟨fun w1=>by rw[←HF.out,←Hth.out];exact HTh.out (y r) w1⟩;obtain⟨E,HE⟩:=xaa (FL .i64 256 (th r));rw[HE.out]at HTr;have Hup:Ω (ups (fst th r) r (th r)=fst th (r+1)):=⟨xbp th r⟩;have Hlt:=ω hlt;have Ho6:=ω ho6;clear hrg hlt HF;go_wp2_with fail;refine qtail.xb0 10 (by kernel_rfl) (by kernel_rfl) ?_;iterate 4 (quiet_step (skip))
   refine xa2 rfl 34 _ rfl _ rfl 34 _ _ (fun w' hC=>xaw T1.out hC) zY rfl HTz.out ?_;iterate 3 (quiet_step (skip))
   refine xch rfl 109 _ rfl gv o6 rfl F.toList _ (fun w' hC=>Hrg.out w' (krw.xa1 hC)) zX rfl Fi.out ?_;quiet_step (exact Calls.regrown_of (HTr.out _));refine wpQuiet_nil ?_;intro wn hC;have hbn:Below wr.heap.size wr wn:=krw.xa1 hC;have A6:Ω (At gt2 (RW nv (fst th r)) 109 w3 wn):=⟨A0.out.later hbn⟩;clear hC hbn A0 HTr Hrg T1;simp only[List.drop_succ_cons,List.drop_zero];go_wp2_with ((with_reducible refine xcg A6 HE.out Hlt.out Ho6.out rfl _ _ rfl rfl ?hx ?hy ?_);(case hx=>exact rfl);(case hy=>exact rfl);intro w7 A7;rw[Hup.out]at A7);go_roundw
   case rel=>exact⟨r+1,by have:=Hlt.out;omega,by go_num,A7⟩
   case measure=>have:=Hlt.out;simp[intOf];omega
  ·obtain rfl:r=nv:=by omega
   have HTt:Ω (Holds wr w.heap.size (.slice (some ⟨gt2,0,none⟩) r r) r th):=⟨xbo A0.out.row (by have:=Hgt.out;omega) (fun i hi=>xbk th r i hi)⟩;clear A0 hlt;go_wp2_with fail;go_ret;exact⟨⟨_,rfl,HTt.out⟩,BU.out⟩
end mgt
namespace shelfc
open Go.Shelf
def xso:Go.Shelf.Ren:=⟨fun | 316=>159 | n=>n,fun | 0=>0 | 3=>3 | 4=>4 | 5=>5 | 9=>9 | 37=>49 | 127=>156 | n=>n,fun | n=>n⟩
theorem lays316:Go.Proofs.LaysM.n316 Tryz.prog xso:={
 mixed:=by kernel_rfl
 f316:=Tryz.func159.trans (congrArg some (by kernel_rfl))
 t0:=Tryz.underlying0
 a0:=Tryz.isAgg0
 z0:=Tryz.sizeOf0
 v0:=Tryz.zeroValue0
 t3:=Tryz.underlying3
 a3:=Tryz.isAgg3
 z3:=Tryz.sizeOf3
 v3:=Tryz.zeroValue3
 t4:=Tryz.underlying4
 a4:=Tryz.isAgg4
 z4:=Tryz.sizeOf4
 v4:=Tryz.zeroValue4
 t9:=Tryz.underlying9
 a9:=Tryz.isAgg9
 z9:=Tryz.sizeOf9
 v9:=Tryz.zeroValue9
 t37:=Tryz.underlying49
 a37:=Tryz.isAgg49
 z37:=Tryz.sizeOf49
 v37:=Tryz.zeroValue49
 t127:=Tryz.underlying156
 a127:=Tryz.isAgg156
 z127:=Tryz.sizeOf156
 v127:=Tryz.zeroValue156
 t5:=Tryz.underlying5
 a5:=Tryz.isAgg5
 z5:=Tryz.sizeOf5
 v5:=Tryz.zeroValue5
 i0:=by kernel_rfl
 i3:=by kernel_rfl
 i4:=by kernel_rfl
 i5:=by kernel_rfl
 i9:=by kernel_rfl
 i37:=by kernel_rfl
 i127:=by kernel_rfl }
open Go.RowKit in
theorem clone(s:ByteArray)(w:World)(hlim:s.size≤281474976710656):
 Calls Tryz.prog 159 #[.string s] w (zB w (.string s)):=Any.stringslite_Clone lays316 s w hlim
end shelfc
namespace pcut
open Go.RowKit
open oct arr
theorem xm0(s:ByteArray)(m n:Nat)(h:m=min n s.size):s.extract 0 m=⟨(s.data.toList.take n).toArray⟩:=by
 subst h;apply ByteArray.ext;apply Array.toList_inj.1;have hs:s.data.toList.length=s.size:=rfl;have h1:(s.extract 0 (min n s.size)).data.toList=s.data.toList.take (min n s.size):=by simp
 have h2:min n s.size=min n s.data.toList.length:=rfl;rw[h1,h2,←List.take_eq_take_min]
theorem sclone(x:ByteArray)(w:World)(h:x.size≤281474976710656):Calls Tryz.prog 113 #[.string x] w (zB w (.string x)):=by
 have H:=ω (fun w1:World=>shelfc.clone x w1 h);clear h;go_enter Tryz.func113,Tryz.ntmps113;go_wp2_with fail;refine(H.out _).mono ?_;rintro e w1 ⟨rfl,hb⟩;go_wp2_with fail;go_ret;exact⟨rfl,hb⟩
theorem xrr(s:ByteArray)(n:Int)(w:World)(hs:s.size≤140737488355328):
 Calls Tryz.prog 59 #[.string s,.int .i64 n] w (zB w (.string ⟨(s.data.toList.take n.toNat).toArray⟩)):=by
 have hc:=xm0 s _ n.toNat rfl;rw[←hc];clear hc;obtain⟨m,hm⟩:=zev (min n.toNat s.size);have h1:min (max n 0) (s.size:Int)=(m:Int):=by omega
 have h2:min (s.size:Int) (max n 0)=(m:Int):=by omega
 have h3:m≤s.size:=by omega
 rw[hm];have Hcl:=ω (fun w1:World=>sclone (s.extract 0 m) w1 (by rw[ByteArray.size_extract];omega));clear hm;go_enter Tryz.func59,Tryz.ntmps59;go_wp2_with fail;refine(Hcl.out _).mono ?_;rintro e w1 ⟨rfl,hb⟩;go_wp2_with fail;go_ret;exact⟨rfl,hb⟩
end pcut
namespace kpb
open arr mem stil polys polt pols rbita rbitb rbitd rbite rbitf rbitg bitp rndm saml lsl11 helda qrow mlkm mlkb rksz rkpb rksb rkse rkrw
theorem enc_pb(x:ByteArray)(m:Nat)(v:Value)(B:Nat)(q:Nat→Nat→Int)(w:World)(hm:m≤8)(hv:Holds w B v m q)(hx:x.size≤100000):
 Calls Tryz.prog 99 #[.string x,v,.func (.func 100) #[] #[]] w (zB w (resP x q 1023 m)):=by
 refine ken.xrx x m v B q (fun i=>packed (q i) 1023) (fun i=>inb (q i) 1023) _ w hm hv hx (fun i _=>by rw[xcr,xh0];decide) (fun h=>?_) (fun i hi h=>?_) (fun i _ h w1 _=>?_) (fun i _ h w1 _=>?_)
 ·unfold resP;rw[if_pos (show okP q 1023 m from h)]
 ·unfold resP;rw[if_neg (show ¬ okP q 1023 m from fun h2=>h (h2 i hi))]
 ·have h1:=ken.xmv (q i) w1;rw[if_pos h]at h1;exact h1
 ·have h1:=ken.xmv (q i) w1;rw[if_neg h]at h1;exact h1
theorem pb_any(kn:Nat)(l e t a b o s:Int)(rho:ByteArray)(v:Value)(B:Nat)(q:Nat→Nat→Int)(w:World)(h:latt (kn:Int) l e t a b o s=true)(hrho:rho.size=32)(hv:Holds w B v kn q):
 Calls Tryz.prog 44 #[.agg (zLt (kn:Int) l e t a b o s),.string rho,v] w (zB w (resP rho q 1023 kn)):=by
 have HR0:=fun w1=>rright.xbn (kn:Int) l e t a b o s w1
 simp only[h]at HR0;obtain⟨hk,-⟩:=xby h;have HE0:∀ w1:World,Below w.heap.size w w1→Calls Tryz.prog 99 #[.string rho,v,.func (.func 100) #[] #[]] w1 (zB w1 (resP rho q 1023 kn)):=fun w1 hb=>enc_pb rho kn v B q w1 (by omega) (hv.later hb) (by omega)
 obtain⟨V1,V2,HV⟩:∃ (V1:ByteArray) (V2:Int),Ω (resP rho q 1023 kn=.tuple #[.string V1,.int .i64 V2]):=by
  unfold resP;split
  ·exact⟨_,_,⟨rfl⟩⟩
  ·exact⟨_,_,⟨rfl⟩⟩
 rw[HV.out]at HE0 ⊢;obtain⟨g,c,hvs,-⟩:=xan hv;subst hvs;obtain⟨C,HC⟩:=xaa ((zLt (kn:Int) l e t a b o s):Array Value);simp only[HC.out]at HR0 ⊢;have HCs:Ω ((Tryz.prog.info? 37).map (·.size)=some C.size):=⟨by rw[←HC.out];kernel_rfl⟩;obtain⟨W,hW⟩:=zev (w.alloc (.cells C 37));obtain⟨r0,hWs,b0⟩:=one hW;have CB:=ztb r0;have BW:=ω b0;have HW:=ω hW;have cK:Ω (∀ w':World,Below W.heap.size W w'→w'.cell? ⟨w.heap.size,0,none⟩=some (.int .i64 (kn:Int))):=⟨fun w' hb=>xab (CB.out w' hb) (by rw[←HC.out];rfl)⟩;have HR:=ω HR0;have HE:=ω HE0;have hrz:(rho.size:Int)=32:=by omega
 have hnz:((kn:Int) != (kn:Int))=false:=by simp
 clear HR0 HE0 hW r0 hWs b0 hv h hk hrho HV;go_enter Tryz.func44,Tryz.ntmps44;go_wp2_with (first
  | (rw[HW.out])
  | (refine wpList_load_row rfl 37 _ rfl w.heap.size rfl 37 _ (0,0) _ (CB.out _ (Below.refl _ _)) zZ rfl HCs.out ?_))
 refine(HR.out _).mono ?_;rintro x u1 ⟨rfl,hb1⟩;have E1:=zbt BW hb1;have c0:=cK.out u1 hb1;clear hb1;go_wp2_with fail;refine(HE.out _ E1.out).mono ?_;rintro x u2 ⟨rfl,hb2⟩;have E2:=zbt E1 hb2;clear hb2;go_wp2_with fail;go_ret2;exact⟨rfl,E2.out⟩
end kpb
namespace kpu
open arr mem stil polys polt pols rbita rbitb rbitd rbite rbitf rbitg bitp rndm saml lsl11 helda qrow mlkm mlkb rksz rkpb rksb rkse rkrw
theorem xrs(x:ByteArray)(n:Nat)(w:World)(hn:n≤x.size)(hx:x.size≤100000):
 Calls Tryz.prog 59 #[.string x,.int .i64 (n:Int)] w (zB w (.string (x.extract 0 n))):=by
 have h1:=pcut.xrr x (n:Int) w (by omega);rw[show ((n:Int)).toNat=n by omega,←pcut.xm0 x n n (by omega)]at h1;exact h1
theorem xop(x:ByteArray)(p n m i:Nat)(hi:i<m)(hx:p+n*m≤x.size)(q:Nat)(hq:q=x.size∨q=p+n*m):(x.extract p q).extract (i*n) ((i+1)*n)=x.extract (p+n*i) (p+n*i+n):=by
 have h1:n*(i+1)≤n*m:=Nat.mul_le_mul_left _ hi;rw[Nat.mul_succ]at h1;rw[ByteArray.extract_extract,Nat.succ_mul,Nat.mul_comm i n];congr 1
 omega
end kpu
namespace ksb
open arr mem stil polys polt pols rbita rbitb rbitd rbite rbitf rbitg bitp saml lsl11 helda qrow mlkm mlkb rksz rkpb rksb rkse rkrw
open rndm (latt)
open ksz
theorem enc_sb(gc:Nat)(x:ByteArray)(m:Nat)(v:Value)(B:Nat)(q:Nat→Nat→Int)(low high:Int)(w:World)(hm:m≤8)(hv:Holds w B v m q)(hx:x.size≤100000)(h1 : 0≤low)(h2 : 1≤high)(h3:low<4190208)(h4:high<4190208)(hg:gc<w.heap.size)(hc1:w.cell? ⟨gc,1,none⟩=some (.int .i64 low))(hc2:w.cell? ⟨gc,2,none⟩=some (.int .i64 high)):
 Calls Tryz.prog 99 #[.string x,v,.func (.func 102) #[] #[.pointer (some ⟨gc,0,none⟩)]] w (zB w (resS x q low high m)):=by
 have hb:=rbitf.xe3 (low+high) (by omega);refine ken.xry gc x m v B q (fun i=>packed (sg (q i) high) (low+high)) (fun i=>ins (q i) low high) _ w hm hv hx (fun i _=>by rw[xcr];omega) (fun h=>?_) (fun i hi h=>?_) (fun i _ h w1 hb1=>?_) (fun i _ h w1 hb1=>?_)
 ·unfold resS;rw[if_pos (show okS q low high m from h)];rfl
 ·unfold resS;rw[if_neg (show ¬ okS q low high m from fun h2=>h (h2 i hi))]
 ·have h5:=ken.xmw (q i) gc low high w1 h1 h2 h3 h4 (Nat.lt_of_lt_of_le hg hb1.size) ((hb1.cell (p:=⟨gc,1,none⟩) hg).trans hc1) ((hb1.cell (p:=⟨gc,2,none⟩) hg).trans hc2);rw[if_pos h]at h5;exact h5
 ·have h5:=ken.xmw (q i) gc low high w1 h1 h2 h3 h4 (Nat.lt_of_lt_of_le hg hb1.size) ((hb1.cell (p:=⟨gc,1,none⟩) hg).trans hc1) ((hb1.cell (p:=⟨gc,2,none⟩) hg).trans hc2);rw[if_neg h]at h5;exact h5
def pq(p q l:Nat→Nat→Int)(r:Nat):Nat→Nat→Int:=if r=0 then p else if r=1 then q else l
def mm(kn ln r:Nat):Nat:=if r=0 then ln else kn
def st(kn ln:Nat)(e:Int)(h:ByteArray)(p q l:Nat→Nat→Int)(r:Nat):ByteArray:=
 if r=0 then h else if r=1 then laidS h p e e ln else if r=2 then laidS (laidS h p e e ln) q e e kn else skB kn ln e h p q l
theorem xvq(kn ln:Nat)(e:Int)(h:ByteArray)(p q l:Nat→Nat→Int)(r:Nat)(hr:r<3):laidS (st kn ln e h p q l r) (pq p q l r) (lw e r) (hg e r) (mm kn ln r)=st kn ln e h p q l (r+1):=by
 rcases (show r=0∨r=1∨r=2 by omega) with rfl | rfl | rfl<;>rfl
theorem xvr(kn ln:Nat)(e:Int)(h:ByteArray)(p q l:Nat→Nat→Int)(r:Nat)(he:e=2∨e=4)(hk:kn≤8)(hl:ln≤8)(hh:h.size=128):(st kn ln e h p q l r).size≤100000:=by
 obtain⟨-,-,b⟩:=xe2 e he;have a1 : 32*lb (e+e).toNat*ln≤128*8:=Nat.mul_le_mul (by omega) hl;have a2 : 32*lb (e+e).toNat*kn≤128*8:=Nat.mul_le_mul (by omega) hk;unfold st;split
 ·omega
 ·split
  ·rw[xbb];omega
  ·split
   ·rw[xbb,xbb];omega
   ·rw[xpx];omega
theorem sb_any(kn ln:Nat)(e t a b o s:Int)(hd:ByteArray)(va vb vl:Value)(Ba Bb Bl:Nat)(p q lo:Nat→Nat→Int)(w:World)(h:latt (kn:Int) (ln:Int) e t a b o s=true)(hhd:hd.size=128)(ha:Holds w Ba va ln p)(hb:Holds w Bb vb kn q)(hlo:Holds w Bl vl kn lo):
 Calls Tryz.prog 45 #[.agg (zLt (kn:Int) (ln:Int) e t a b o s),.string hd,va,vb,vl] w (zB w (resK kn ln e hd p q lo)):=by
 have HR0:=fun w1=>rright.xbn (kn:Int) (ln:Int) e t a b o s w1
 simp only[h]at HR0;have HL0:=fun w1=>xkb (kn:Int) (ln:Int) e t a b o s w1
 obtain⟨hk,hl,he,-⟩:=xby h;have hk : 1≤kn∧kn≤8:=by omega
 have hl : 1≤ln∧ln≤8:=by omega
 have HQ:Ω (∀ r,r<3→∃ B c g,Holds w B (.slice (some ⟨g,0,none⟩) (mm kn ln r) c) (mm kn ln r) (pq p q lo r)∧(#[va,vb,vl]:Array Value)[r]? = some (.slice (some ⟨g,0,none⟩) (mm kn ln r) c)):=⟨fun r hr=>by
  rcases (show r=0∨r=1∨r=2 by omega) with rfl | rfl | rfl
  ·obtain⟨g,c,e1,-⟩:=xan ha;subst e1;exact⟨Ba,c,g,ha,rfl⟩
  ·obtain⟨g,c,e1,-⟩:=xan hb;subst e1;exact⟨Bb,c,g,hb,rfl⟩
  ·obtain⟨g,c,e1,-⟩:=xan hlo;subst e1;exact⟨Bl,c,g,hlo,rfl⟩⟩
 obtain⟨ga,ca,e1,-⟩:=xan ha;obtain⟨gb,cb,e2,-⟩:=xan hb;obtain⟨gl,cl,e3,-⟩:=xan hlo;subst e1 e2 e3;have HEn:Ω (∀ (r gc:Nat) (v:Value) (B:Nat) (w1:World),r<3→Holds w1 B v (mm kn ln r) (pq p q lo r)→gc<w1.heap.size→w1.cell? ⟨gc,1,none⟩=some (.int .i64 (lw e r))→w1.cell? ⟨gc,2,none⟩=some (.int .i64 (hg e r)) →
  Calls Tryz.prog 99 #[.string (st kn ln e hd p q lo r),v,.func (.func 102) #[] #[.pointer (some ⟨gc,0,none⟩)]] w1 (zB w1 (if okS (pq p q lo r) (lw e r) (hg e r) (mm kn ln r) then .tuple #[.string (st kn ln e hd p q lo (r+1)),.int .i64 0] else .tuple #[.string ⟨#[]⟩,.int .i64 6]))):=⟨fun r gc v B w1 hr hv hg' hc1 hc2=>by
  have h5:=enc_sb gc (st kn ln e hd p q lo r) (mm kn ln r) v B (pq p q lo r) (lw e r) (hg e r) w1 (by unfold mm;split<;>omega) hv (xvr kn ln e hd p q lo r he hk.2 hl.2 hhd) (by unfold lw;split<;>omega) (by unfold hg;split<;>omega) (by unfold lw;split<;>omega) (by unfold hg;split<;>omega) hg' hc1 hc2;unfold resS at h5;rw[xvq kn ln e hd p q lo r hr]at h5;exact h5⟩
 have HNo:Ω (∀ r,r<3→¬ okS (pq p q lo r) (lw e r) (hg e r) (mm kn ln r)→resK kn ln e hd p q lo=.tuple #[.string ⟨#[]⟩,.int .i64 6]):=⟨fun r hr hno=>by
  unfold resK;rw[if_neg];rintro ⟨q1,q2,q3⟩;rcases (show r=0∨r=1∨r=2 by omega) with rfl | rfl | rfl
  ·exact hno q1
  ·exact hno q2
  ·exact hno q3⟩
 have HYes:Ω ((∀ r,r<3→okS (pq p q lo r) (lw e r) (hg e r) (mm kn ln r))→resK kn ln e hd p q lo=.tuple #[.string (st kn ln e hd p q lo 3),.int .i64 0]):=⟨fun h5=>by
  unfold resK;rw[if_pos ⟨h5 0 (by decide),h5 1 (by decide),h5 2 (by decide)⟩];rfl⟩
 have HIx:Ω (∀ (r:Nat),r<3→∀ w1:World,(Instr.index 89 (.agg (lst (kn:Int) (ln:Int) e)) (.int .i64 (r:Int))).run Tryz.prog w1=.ok (.agg #[.int .i64 (mn (kn:Int) (ln:Int) r),.int .i64 (lw e r),.int .i64 (hg e r)]) w1):=⟨fun r hr w1=>xj6 (kn:Int) (ln:Int) e r hr w1⟩;have Hst0:Ω (st kn ln e hd p q lo 0=hd):=⟨rfl⟩;obtain⟨V,HV⟩:=xaa (resK kn ln e hd p q lo);simp only[HV.out]at HNo HYes ⊢;obtain⟨S,HS⟩:=xaa (st kn ln e hd p q lo);simp only[HS.out]at HEn HYes Hst0;obtain⟨OK,HOK⟩:=xaa (fun r=>okS (pq p q lo r) (lw e r) (hg e r) (mm kn ln r));have HOK2:∀ r,okS (pq p q lo r) (lw e r) (hg e r) (mm kn ln r)=OK r:=fun r=>by rw[←HOK.out]
 have HEc:Ω (∀ (r gc:Nat) (v:Value) (B:Nat) (w1:World),r<3→Holds w1 B v (mm kn ln r) (pq p q lo r)→gc<w1.heap.size→w1.cell? ⟨gc,1,none⟩=some (.int .i64 (lw e r))→w1.cell? ⟨gc,2,none⟩=some (.int .i64 (hg e r)) →
  (OK r∧Calls Tryz.prog 99 #[.string (S r),v,.func (.func 102) #[] #[.pointer (some ⟨gc,0,none⟩)]] w1 (zB w1 (.tuple #[.string (S (r+1)),.int .i64 0])))∨(¬ OK r∧Calls Tryz.prog 99 #[.string (S r),v,.func (.func 102) #[] #[.pointer (some ⟨gc,0,none⟩)]] w1 (zB w1 (.tuple #[.string ⟨#[]⟩,.int .i64 6])))):=⟨fun r gc v B w1 q1 q2 q3 q4 q5=>by
  have h6:=HEn.out r gc v B w1 q1 q2 q3 q4 q5;by_cases h7:okS (pq p q lo r) (lw e r) (hg e r) (mm kn ln r)
  ·rw[if_pos h7]at h6;exact Or.inl ⟨by rw[←HOK2 r];exact h7,h6⟩
  ·rw[if_neg h7]at h6;exact Or.inr ⟨by rw[←HOK2 r];exact h7,h6⟩⟩
 simp only[HOK2]at HNo HYes;obtain⟨mf,hmf⟩:=xaa (mn (kn:Int) (ln:Int));obtain⟨lf,hlf⟩:=xaa (lw e);obtain⟨gf,hgf⟩:=xaa (hg e);obtain⟨Ls,hLs⟩:=xaa (lst (kn:Int) (ln:Int) e);obtain⟨mN,hmN⟩:=xaa (mm kn ln);obtain⟨pQ,hpQ⟩:=xaa (pq p q lo);simp only[hmf.out,hlf.out,hgf.out,hLs.out,hmN.out,hpQ.out]at HIx HEc HL0 HQ;obtain⟨Arr,HArr⟩:=xaa (#[.slice (some ⟨ga,0,none⟩) ln ca,.slice (some ⟨gb,0,none⟩) kn cb,.slice (some ⟨gl,0,none⟩) kn cl]:Array Value);simp only[HArr.out]at HQ;obtain⟨C,HC⟩:=xaa ((zLt (kn:Int) (ln:Int) e t a b o s):Array Value);simp only[HC.out]at HR0 HL0 ⊢;have HCs:Ω ((Tryz.prog.info? 37).map (·.size)=some C.size):=⟨by rw[←HC.out];kernel_rfl⟩;obtain⟨W,hW⟩:=zev (w.alloc (.cells C 37));obtain⟨r0,hWs,b0⟩:=one hW;have CB:=ztb r0;have BW:=ω b0;have HW:=ω hW;have cK:Ω (∀ w':World,Below W.heap.size W w'→w'.cell? ⟨w.heap.size,0,none⟩=some (.int .i64 (kn:Int))):=⟨fun w' hb=>xab (CB.out w' hb) (by rw[←HC.out];rfl)⟩;have cL:Ω (∀ w':World,Below W.heap.size W w'→w'.cell? ⟨w.heap.size,1,none⟩=some (.int .i64 (ln:Int))):=⟨fun w' hb=>xab (CB.out w' hb) (by rw[←HC.out];rfl)⟩;have HR:=ω HR0;have HL:=ω HL0;have hhz:((hd.size:Int) != 128)=false:=by rw[hhd];rfl
 have hhi:(hd.size:Int)=128:=by omega
 have hk2:((kn:Int) != (kn:Int))=false:=by simp
 have hl2:((ln:Int) != (ln:Int))=false:=by simp
 clear HR0 HL0 hW r0 hWs b0 h hk hl he hhd ha hb hlo HV HS HOK HOK2 HEn hmf hlf hgf hLs hmN hpQ;go_enter Tryz.func45,Tryz.ntmps45;go_wp2_with (first
  | (rw[HW.out])
  | (refine wpList_load_row rfl 37 _ rfl w.heap.size rfl 37 _ (0,0) _ (CB.out _ (Below.refl _ _)) zZ rfl HCs.out ?_))
 refine(HR.out _).mono ?_;rintro x u1 ⟨rfl,hb1⟩;have E1:Ω (Below W.heap.size W u1):=⟨hb1⟩;have c0:=cK.out u1 hb1;have c1:=cL.out u1 hb1;clear hb1;obtain⟨W3,hW3⟩:=zev (u1.alloc (.cells #[.slice (some ⟨ga,0,none⟩) ln ca,.slice (some ⟨gb,0,none⟩) kn cb,.slice (some ⟨gl,0,none⟩) kn cl] 151));obtain⟨r3,hs3,b3⟩:=one hW3;have E3:=zbt E1 b3;rw[HArr.out]at r3;have R3:=ω r3;have HW3:=ω hW3;clear r3 hs3 b3 hW3;go_wp2_with (first
  | (rw[HW3.out])
  | (refine wpList_load_row rfl 37 _ rfl w.heap.size rfl 37 _ (0,0) _ (CB.out _ E3.out) zZ rfl HCs.out ?_))
 refine(HL.out _).mono ?_;rintro x u2 ⟨rfl,hb2⟩;have R2:Ω (u2.heap[u1.heap.size]? = some (.cells Arr 151 (0,0))):=⟨(hb2.block _ (xac R3.out)).trans R3.out⟩;have E2:=zbt E3 hb2;clear hb2 c0 c1 R3;go_wp2_with fail;go_loopw [53,13,14] (fun iv sv ev wr=>∃ r:Nat,r≤3∧iv=.int .i64 (r:Int)∧sv=.string (S r)∧ev=.int .i64 0∧Ω (∀ i,i<r→OK i)∧Ω (Below u2.heap.size u2 wr)) (fun iv _ _ _=>3-(intOf iv).toNat)
 case atStart=>exact⟨0,by decide,rfl,by rw[Hst0.out],rfl,⟨fun i hi=>by omega⟩,⟨Below.refl _ _⟩⟩
 case round=>
  obtain⟨i,hi,rfl,rfl,rfl,Hok,Hb⟩:=hrel;have BE:=zbt E2 Hb.out;by_cases hlt:i<3
  ·have hiz:(i:Int)<3:=by omega
   have hix:=HIx.out i hlt;obtain⟨Bv,cv,gv,hv,hav⟩:=HQ.out i hlt;obtain⟨m,hm⟩:=xaa (mf i);obtain⟨lo',hlo'⟩:=xaa (lf i);obtain⟨hi',hhi'⟩:=xaa (gf i);rw[hm.out,hlo'.out,hhi'.out]at hix;obtain⟨W4,hW4⟩:=zev (wr.alloc (.cells #[.int .i64 m,.int .i64 lo',.int .i64 hi'] 88));obtain⟨r4,hs4,b4⟩:=one hW4;have d1:W4.cell? ⟨wr.heap.size,1,none⟩=some (.int .i64 (lf i)):=by rw[hlo'.out];exact xab r4 rfl
   have d2:W4.cell? ⟨wr.heap.size,2,none⟩=some (.int .i64 (gf i)):=by rw[hhi'.out];exact xab r4 rfl
   have B4:=zbt Hb b4;have R4:W4.heap[u1.heap.size]? = some (.cells Arr 151 (0,0)):=(B4.out.block _ (xac R2.out)).trans R2.out;have c4:W4.cell? ⟨u1.heap.size,i,none⟩=some (.slice (some ⟨gv,0,none⟩) (mN i) cv):=xab R4 hav;have hcase:=HEc.out i wr.heap.size (.slice (some ⟨gv,0,none⟩) (mN i) cv) Bv W4 hlt (hv.later (BW.out.trans ((E2.out.trans (B4.out.mono E2.out.size)).mono BW.out.size))) (xac r4) d1 d2;have HW4:=ω hW4;have Hlt:=ω hlt;obtain⟨nn,hnn⟩:=zev (mN i);rw[hnn]at c4 hcase;obtain⟨s0,hs0⟩:=xaa (S i);rw[hs0.out]at hcase ⊢;clear r4 hs4 b4 hW4 d1 d2 R4 hv hav hlt hnn;rcases hcase with ⟨hok,hcall⟩ | ⟨hok,hcall⟩
   ·have HCl:=ω hcall;have Hok2:Ω (∀ j,j<i+1→OK j):=⟨fun j hj=>by
     by_cases e:j=i
     ·rw[e];exact hok
     ·exact Hok.out j (by omega)⟩
    obtain⟨s1,hs1⟩:=xaa (S (i+1));rw[hs1.out]at HCl;clear hcall hok;go_wp2_with (rw[HW4.out]);refine HCl.out.mono ?_;rintro x w5 ⟨rfl,hb5⟩;have B5:=zbt B4 hb5;clear hb5 HCl;go_wp2_with fail;go_roundw
    case rel=>exact⟨i+1,by have:=Hlt.out;omega,by go_num,by rw[hs1.out],rfl,Hok2,B5⟩
    case measure=>have:=Hlt.out;simp[intOf];omega
   ·have HCl:=ω hcall;have hVe:Ω (V=.tuple #[.string ⟨#[]⟩,.int .i64 6]):=⟨HNo.out i Hlt.out hok⟩;clear hcall hok;go_wp2_with (rw[HW4.out]);refine HCl.out.mono ?_;rintro x w5 ⟨rfl,hb5⟩;have B5:=zbt B4 hb5;clear hb5 HCl;go_wp2_with fail;go_ret2;exact⟨by rw[hVe.out];rfl,BW.out.trans ((E2.out.trans (B5.out.mono E2.out.size)).mono BW.out.size)⟩
  ·obtain rfl:i=3:=by omega
   have hVe:Ω (V=.tuple #[.string (S 3),.int .i64 0]):=⟨HYes.out fun r hr=>Hok.out r hr⟩;obtain⟨s3,hs3⟩:=xaa (S 3);rw[hs3.out]at hVe ⊢;simp only[Int.cast_ofNat_Int];go_wp2_with fail;go_ret2;exact⟨by rw[hVe.out];rfl,BW.out.trans (BE.out.mono BW.out.size)⟩
end ksb
namespace kse
open arr mem stil polys polt pols rbita rbitb rbitd rbite rbitf rbitg bitp saml lsl11 helda qrow mlkm mlkb rksz rkpb rksb rkse rkrw
open rndm (latt)
open ksz ksb
def Rowm(w:World)(skip:Option Nat)(vs:List Value)(n:Nat→Nat)(p:Nat→Nat→Nat→Int):Prop:=
 ∀ i v,vs[i]? = some v→∃ g c,v=.slice (some ⟨g,0,none⟩) (n i) c∧g<w.heap.size∧some g≠skip∧∀ s,s<n i→∀ k,k<256→w.cell? ⟨g,256*s+k,none⟩=some (.int .i64 (p i s k))
theorem Rowm.grown{w w':World}{n:Nat→Nat}{skip skip':Option Nat}{vs:List Value}{p:Nat→Nat→Nat→Int}(h:Rowm w skip vs n p)(hg:w.grownBy w' skip)(hs:skip'=skip∨skip'=some w.heap.size):Rowm w' skip' vs n p:=fun i v hv=>by
 obtain⟨g,c,e,h2,h3,h4⟩:=h i v hv;refine⟨g,c,e,Nat.lt_of_lt_of_le h2 hg.size,?_,fun s hs k hk=>hg.cell (h4 s hs k hk) h3⟩;rcases hs with rfl | rfl
 ·exact h3
 ·intro e2;injection e2 with e2;omega
theorem Rowm.later{w w':World}{n:Nat→Nat}{skip:Option Nat}{vs:List Value}{p:Nat→Nat→Nat→Int}(h:Rowm w skip vs n p)(hb:Below w.heap.size w w'):Rowm w' skip vs n p:=fun i v hv=>by
 obtain⟨g,c,e,h2,h3,h4⟩:=h i v hv;exact⟨g,c,e,Nat.lt_of_lt_of_le h2 hb.size,h3,fun s hs k hk=>(hb.cell (p:=⟨g,256*s+k,none⟩) h2).trans (h4 s hs k hk)⟩
theorem Rowm.snoc{w:World}{B':Nat}{n:Nat→Nat}{x y:Value}{vs:List Value}{p:Nat→Nat→Nat→Int}(h:Rowm w x.ownBlock vs n p)(hy:Holds w B' y (n vs.length) (p vs.length))(hx:∀ k,x.ownBlock=some k→k<B'):Rowm w x.ownBlock (vs ++ [y]) n p:=fun i v hv=>by
 by_cases e:i<vs.length
 ·exact h i v (by rwa [List.getElem?_append_left e]at hv)
 ·have e2:i=vs.length:=by
   have:=(List.getElem?_eq_some_iff.1 hv).1;rw[List.length_append,List.length_singleton]at this;omega
  subst e2;rw[List.getElem?_append_right (Nat.le_refl _),Nat.sub_self]at hv;have e3:y=v:=by simpa using hv
  subst e3;obtain⟨g,c,e,h1,h2,h3⟩:=hy;exact⟨g,c,e,h2,fun e4=>by have:=hx g e4.symm;omega,h3⟩
theorem xub(w:World)(v:Value)(t:TypeId)(j:Nat)(u:Value)(hu:[v][j]? = some u):(w.alloc (.cells #[v] t)).cell? ((⟨w.heap.size,0,none⟩:Addr).add j)=some u:=xdi (by simpa using hu)
theorem dec_se(gc:Nat)(x:ByteArray)(p m W:Nat)(low high:Int)(w:World)(hm : 1≤m∧m≤8)(h1 : 0≤low)(h2 : 1≤high)(h3:low<4190208)(h4:high<4190208)(hW:lb (low+high).toNat=W)(hx:p+32*W*m≤x.size)(hg:gc<w.heap.size)(hc1:w.cell? ⟨gc,1,none⟩=some (.int .i64 low))(hc2:w.cell? ⟨gc,2,none⟩=some (.int .i64 high)):
 Calls Tryz.prog 56 #[.string (x.extract p (p+32*W*m)),.int .i64 (m:Int),.func (.func 57) #[] #[.pointer (some ⟨gc,0,none⟩)]] w fun r w'=>((okU x p W (low+high) m∧∃ v,r=.returned (.tuple #[v,.int .i64 0])∧Holds w' w.heap.size v m (rdS x p W high))∨(¬ okU x p W (low+high) m∧r=.returned (.tuple #[.slice none 0 0,.int .i64 3])))∧Below w.heap.size w w':=by
 have hb:=rbitf.xe3 (low+high) (by omega);have hsz:∀ i,i<m→(x.extract (p+32*W*i) (p+32*W*i+32*W)).size=32*W:=fun i hi=>xou x p W i m hi hx
 have hU:=fun i (hi:i<m) (w1:World)=>kde.xl4 (x.extract (p+32*W*i) (p+32*W*i+32*W)) low high w1 h1 h2 h3 h4 (by rw[hW];exact hsz i hi)
 rw[hW]at hb;simp only[hW]at hU;refine kde.xrt gc (x.extract p (p+32*W*m)) m (32*W) (rdS x p W high) (fun i=>inb (rdU x p W i) (low+high)) w hm (by omega) (by rw[size_extract _ _ _ (by omega) hx,Nat.mul_comm m];omega) (fun i hi ho w1 hb1=>?_) (fun i hi ho w1 hb1=>?_)
 ·rw[kpu.xop x p (32*W) m i hi hx _ (Or.inr rfl)];refine kde.xmx _ gc low high w1 _ 0 (xad _ _ _) (xbf _ _ _) (Nat.lt_of_lt_of_le hg hb1.size) ((hb1.cell (p:=⟨gc,1,none⟩) hg).trans hc1) ((hb1.cell (p:=⟨gc,2,none⟩) hg).trans hc2) fun w2=>?_
  have h5:=hU i hi w2;rw[if_pos (show inb (up (x.extract (p+32*W*i) (p+32*W*i+32*W)) W) (low+high) from ho)]at h5;exact h5
 ·rw[kpu.xop x p (32*W) m i hi hx _ (Or.inr rfl)];refine kde.xmx _ gc low high w1 _ 3 (xad _ _ _) (xbf _ _ _) (Nat.lt_of_lt_of_le hg hb1.size) ((hb1.cell (p:=⟨gc,1,none⟩) hg).trans hc1) ((hb1.cell (p:=⟨gc,2,none⟩) hg).trans hc2) fun w2=>?_
  have h5:=hU i hi w2;rw[if_neg (show ¬ inb (up (x.extract (p+32*W*i) (p+32*W*i+32*W)) W) (low+high) from ho)]at h5;exact h5
theorem mn_mm(kn ln r:Nat):mn (kn:Int) (ln:Int) r=((mm kn ln r:Nat):Int):=by unfold mn mm;split<;>rfl
def po(kn ln W r:Nat):Nat:=if r=0 then 128 else if r=1 then 128+32*W*ln else if r=2 then 128+32*W*ln+32*W*kn else 128+32*W*ln+32*W*kn+416*kn
def wf(W r:Nat):Nat:=if r=2 then 13 else W
theorem xoy(kn ln W r:Nat)(hr:r<3):po kn ln W (r+1)=po kn ln W r+32*wf W r*mm kn ln r:=by
 rcases (show r=0∨r=1∨r=2 by omega) with rfl | rfl | rfl<;>rfl
theorem xlf(k l e t a b o s:Int)(x:ByteArray)(w:World)(h:latt k l e t a b o s=true)(hx:(x.size:Int)≠sz2 k l e):
 Calls Tryz.prog 26 #[.agg (zLt k l e t a b o s),.string x] w (zB w (.tuple #[.string ⟨#[]⟩,.slice none 0 0,.int .i64 3])):=by
 have HR0:=fun w1=>rright.xbn k l e t a b o s w1
 simp only[h]at HR0;have HS0:∀ w1:World,Calls Tryz.prog 18 #[.agg (zLt k l e t a b o s)] w1 (zB w1 (.tuple #[.int .i64 (sz1 k),.int .i64 (sz2 k l e),.int .i64 (sz3 k l a o s)])):=fun w1=>by
  have h1:=ksz.xfg k l e t a b o s w1;unfold szs at h1;rw[if_pos h]at h1;exact h1
 obtain⟨n1,en1⟩:=zev (sz1 k);obtain⟨n2,en2⟩:=zev (sz2 k l e);obtain⟨n3,en3⟩:=zev (sz3 k l a o s);simp only[en1,en2,en3]at HS0 hx;have hn1:((x.size:Int) != n2)=true:=by simpa using hx
 obtain⟨C,HC⟩:=xaa ((zLt k l e t a b o s):Array Value);simp only[HC.out]at HR0 HS0 ⊢;have HCs:Ω ((Tryz.prog.info? 37).map (·.size)=some C.size):=⟨by rw[←HC.out];kernel_rfl⟩;obtain⟨W,hW⟩:=zev (w.alloc (.cells C 37));obtain⟨r0,hWs,b0⟩:=one hW;have CB:=ztb r0;have BW:=ω b0;have HW:=ω hW;have HR:=ω HR0;have HS:=ω HS0;clear HR0 HS0 hW r0 hWs b0 h hx en1 en2 en3;go_enter Tryz.func26,Tryz.ntmps26;go_wp2_with (first
  | (rw[HW.out])
  | (refine wpList_load_row rfl 37 _ rfl w.heap.size rfl 37 _ (0,0) _ (CB.out _ (Below.refl _ _)) zZ rfl HCs.out ?_))
 refine(HR.out _).mono ?_;rintro r u1 ⟨rfl,hb1⟩;have E1:Ω (Below W.heap.size W u1):=⟨hb1⟩;clear hb1;go_wp2_with (refine wpList_load_row rfl 37 _ rfl w.heap.size rfl 37 _ (0,0) _ (CB.out _ E1.out) zZ rfl HCs.out ?_);refine(HS.out _).mono ?_;rintro r u2 ⟨rfl,hb2⟩;have E2:=zbt E1 hb2;clear hb2;go_wp2_with fail;go_ret3
 exact⟨rfl,BW.out.trans (E2.out.mono BW.out.size)⟩
theorem xiq(kn ln:Nat)(e t a b o s:Int)(x:ByteArray)(w:World)(h:latt (kn:Int) (ln:Int) e t a b o s=true)(hx:(x.size:Int)=sz2 kn ln e):
 Calls Tryz.prog 26 #[.agg (zLt (kn:Int) (ln:Int) e t a b o s),.string x] w fun r w'=>((okK x kn ln e∧∃ v,r=.returned (.tuple #[.string (x.extract 0 128),v,.int .i64 0])∧rkse.three w' v x kn ln e)∨(¬ okK x kn ln e∧r=.returned (.tuple #[.string ⟨#[]⟩,.slice none 0 0,.int .i64 3])))∧Below w.heap.size w w':=by
 obtain⟨hk,hl,he,-⟩:=xby h;have hk : 1≤kn∧kn≤8:=by omega
 have hl : 1≤ln∧ln≤8:=by omega
 obtain⟨le1,le2,le3⟩:=xe2 e he;have HR0:=fun w1=>rright.xbn (kn:Int) (ln:Int) e t a b o s w1
 simp only[h]at HR0;have HL0:=fun w1=>xkb (kn:Int) (ln:Int) e t a b o s w1
 have HS0:∀ w1:World,Calls Tryz.prog 18 #[.agg (zLt (kn:Int) (ln:Int) e t a b o s)] w1 (zB w1 (.tuple #[.int .i64 (sz1 (kn:Int)),.int .i64 (sz2 (kn:Int) (ln:Int) e),.int .i64 (sz3 (kn:Int) (ln:Int) a o s)])):=fun w1=>by
  have h1:=ksz.xfg (kn:Int) (ln:Int) e t a b o s w1;unfold szs at h1;rw[if_pos h]at h1;exact h1
 have hn1:((x.size:Int) != sz2 (kn:Int) (ln:Int) e)=false:=by rw[hx];simp
 have hsz:x.size=128+32*lb (e+e).toNat*ln+32*lb (e+e).toNat*kn+416*kn:=by
  rw[sz2,←le1]at hx;have e1 : 32*((lb (e+e).toNat:Nat):Int)*((ln:Int)+(kn:Int))=((32*lb (e+e).toNat*ln+32*lb (e+e).toNat*kn:Nat):Int):=by push_cast;rw[Int.mul_add]
  omega
 have hbig:x.size≤100000:=by
  have a1 : 32*lb (e+e).toNat*ln≤128*8:=Nat.mul_le_mul (by omega) hl.2;have a2 : 32*lb (e+e).toNat*kn≤128*8:=Nat.mul_le_mul (by omega) hk.2;omega
 obtain⟨n1,en1⟩:=zev (sz1 (kn:Int));obtain⟨n2,en2⟩:=zev (sz2 (kn:Int) (ln:Int) e);obtain⟨n3,en3⟩:=zev (sz3 (kn:Int) (ln:Int) a o s);simp only[en1,en2,en3]at HS0 hn1;unfold okK rkse.three;obtain⟨Wd,hWd⟩:=zev (lb (e+e).toNat);simp only[hWd]at hsz ⊢;have hwl:∀ r,r<3→lb (lw e r+hg e r).toNat=wf Wd r:=fun r hr=>by
  rcases (show r=0∨r=1∨r=2 by omega) with rfl | rfl | rfl
  ·exact hWd
  ·exact hWd
  ·exact xea
 have hwb:∀ r,wf Wd r≤13:=fun r=>by unfold wf;split<;>omega
 have hmm:∀ r,1≤mm kn ln r∧mm kn ln r≤8:=fun r=>by unfold mm;split<;>omega
 have hP3:po kn ln Wd 3=x.size:=by rw[hsz];rfl
 have hPl:∀ r,r≤3→po kn ln Wd r≤x.size:=fun r hr=>by
  rw[hsz];unfold po;split
  ·omega
  ·split
   ·omega
   ·split<;>omega
 have HSz:Ω (∀ (r:Nat) (w1:World),r<3→Calls Tryz.prog 47 #[.int .i64 (lw e r+hg e r)] w1 (zE w1 (.int .i64 (32*(wf Wd r:Int))))):=⟨fun r w1 hr=>xb1 _ _ (by have:=xh1 e r he;omega) (hwl r hr) (by have:=hwb r;omega) w1⟩;have HD:Ω (∀ (r gc:Nat) (w1:World),r<3→gc<w1.heap.size→w1.cell? ⟨gc,1,none⟩=some (.int .i64 (lw e r))→w1.cell? ⟨gc,2,none⟩=some (.int .i64 (hg e r)) →
  Calls Tryz.prog 56 #[.string (x.extract (po kn ln Wd r) (po kn ln Wd (r+1))),.int .i64 ((mm kn ln r:Nat):Int),.func (.func 57) #[] #[.pointer (some ⟨gc,0,none⟩)]] w1 fun y w'=>((okU x (po kn ln Wd r) (wf Wd r) (lw e r+hg e r) (mm kn ln r)∧∃ v,y=.returned (.tuple #[v,.int .i64 0])∧Holds w' w1.heap.size v (mm kn ln r) (rdS x (po kn ln Wd r) (wf Wd r) (hg e r)))∨(¬ okU x (po kn ln Wd r) (wf Wd r) (lw e r+hg e r) (mm kn ln r)∧y=.returned (.tuple #[.slice none 0 0,.int .i64 3])))∧Below w1.heap.size w1 w'):=⟨fun r gc w1 hr hg' hc1 hc2=>by
  have h6:=xoy kn ln Wd r hr;have h7:=hPl (r+1) (by omega);rw[h6];exact dec_se gc x (po kn ln Wd r) (mm kn ln r) (wf Wd r) (lw e r) (hg e r) w1 (hmm r) (by unfold lw;split<;>omega) (by unfold hg;split<;>omega) (by unfold lw;split<;>omega) (by unfold hg;split<;>omega) (hwl r hr) (by omega) hg' hc1 hc2⟩
 have HStep:Ω (∀ r,r<3→po kn ln Wd (r+1)=po kn ln Wd r+mm kn ln r*(32*wf Wd r)):=⟨fun r hr=>by rw[xoy kn ln Wd r hr,Nat.mul_comm (mm kn ln r)]⟩;obtain⟨okr,hokr⟩:=xaa (fun r=>okU x (po kn ln Wd r) (wf Wd r) (lw e r+hg e r) (mm kn ln r));have hokr2:∀ r,okU x (po kn ln Wd r) (wf Wd r) (lw e r+hg e r) (mm kn ln r)=okr r:=fun r=>by rw[←hokr.out]
 obtain⟨qr,hqr⟩:=xaa (fun r=>rdS x (po kn ln Wd r) (wf Wd r) (hg e r));have hqr2:∀ r,rdS x (po kn ln Wd r) (wf Wd r) (hg e r)=qr r:=fun r=>by rw[←hqr.out]
 have q0:rdS x 128 Wd e=qr 0:=hqr2 0;have q1:rdS x (128+32*Wd*ln) Wd e=qr 1:=hqr2 1;have q2:rdS x (128+32*Wd*ln+32*Wd*kn) 13 4096=qr 2:=hqr2 2;have o0:okU x 128 Wd (e+e) ln=okr 0:=hokr2 0;have o1:okU x (128+32*Wd*ln) Wd (e+e) kn=okr 1:=hokr2 1;have o2:okU x (128+32*Wd*ln+32*Wd*kn) 13 8191 kn=okr 2:=hokr2 2;simp only[q0,q1,q2,o0,o1,o2];simp only[hokr2,hqr2]at HD;have HIx:Ω (∀ (r:Nat),r<3→∀ w1:World,(Instr.index 89 (.agg (lst (kn:Int) (ln:Int) e)) (.int .i64 (r:Int))).run Tryz.prog w1=.ok (.agg #[.int .i64 ((mm kn ln r:Nat):Int),.int .i64 (lw e r),.int .i64 (hg e r)]) w1):=⟨fun r hr w1=>by rw[←mn_mm];exact xj6 (kn:Int) (ln:Int) e r hr w1⟩;have Hlo:Ω (∀ r,IntKind.i64.wrap (lw e r+hg e r)=lw e r+hg e r):=⟨fun r=>by have:=xh1 e r he;rw[IntKind.wrap_i64];omega⟩;have Hm0:Ω (mm kn ln 0=ln∧mm kn ln 1=kn∧mm kn ln 2=kn):=⟨rfl,rfl,rfl⟩;have hP0:po kn ln Wd 0=128:=rfl;have HC0:=ω (fun w1=>kpu.xrs x 128 w1 (by omega) (by omega));obtain⟨P,hP⟩:=xaa (po kn ln Wd);obtain⟨wd,hwd⟩:=xaa (wf Wd);obtain⟨lf,hlf⟩:=xaa (lw e);obtain⟨gf,hgf⟩:=xaa (hg e);obtain⟨Ls,hLs⟩:=xaa (lst (kn:Int) (ln:Int) e);obtain⟨mN,hmN⟩:=xaa (mm kn ln);simp only[hP.out,hwd.out,hlf.out,hgf.out,hLs.out,hmN.out]at HIx HD HL0 HSz Hlo HStep Hm0 hwb hmm hP3 hPl hP0;have Hwb:=ω hwb;have Hmm:=ω hmm;have HPl:=ω hPl;have HP3:=ω hP3;have HP0:=ω hP0;have Hbig:=ω hbig;obtain⟨j0,hj,hy0,hy1,hy2⟩:=rbitb.parts qmat.infoSl;have HJ:=ω (And.intro hj (And.intro hy0 (And.intro hy1 hy2)));clear hj hy0 hy1 hy2;obtain⟨C,HC⟩:=xaa ((zLt (kn:Int) (ln:Int) e t a b o s):Array Value);simp only[HC.out]at HR0 HL0 HS0 ⊢
 have HCs:Ω ((Tryz.prog.info? 37).map (·.size)=some C.size):=⟨by rw[←HC.out];kernel_rfl⟩;obtain⟨W,hW⟩:=zev (w.alloc (.cells C 37));obtain⟨r0,hWs,b0⟩:=one hW;have CB:=ztb r0;have BW:=ω b0;have HW:=ω hW;have HR:=ω HR0;have HS:=ω HS0;have HL:=ω HL0;clear HR0 HS0 HL0 hW r0 hWs b0 h hx en1 en2 en3 hk hl he le1 le2 le3 hsz hbig hWd hwl hwb hmm hP3 hPl hP0 hokr hokr2 hqr hqr2 q0 q1 q2 o0 o1 o2 hP hwd hlf hgf hLs hmN;go_enter Tryz.func26,Tryz.ntmps26;go_wp2_with (first
  | (rw[HW.out])
  | (refine wpList_load_row rfl 37 _ rfl w.heap.size rfl 37 _ (0,0) _ (CB.out _ (Below.refl _ _)) zZ rfl HCs.out ?_))
 refine(HR.out _).mono ?_;rintro r u1 ⟨rfl,hb1⟩;have E1:Ω (Below W.heap.size W u1):=⟨hb1⟩;clear hb1;go_wp2_with (refine wpList_load_row rfl 37 _ rfl w.heap.size rfl 37 _ (0,0) _ (CB.out _ E1.out) zZ rfl HCs.out ?_);refine(HS.out _).mono ?_;rintro r u2 ⟨rfl,hb2⟩;have E2:=zbt E1 hb2;clear hb2;go_wp2_with (refine wpList_load_row rfl 37 _ rfl w.heap.size rfl 37 _ (0,0) _ (CB.out _ E2.out) zZ rfl HCs.out ?_);refine(HL.out _).mono ?_;rintro r u3 ⟨rfl,hb3⟩;have E3:=zbt E2 hb3;clear hb3;go_wp2_with fail;go_loopw [32,11,10] (fun iv av lv wr=>∃ r:Nat,r≤3∧iv=.int .i64 (r:Int)∧av=.int .i64 ((P r:Nat):Int)∧Ω (∀ i,i<r→okr i)∧Ω (∃ vs,wr.ownsRow u3.heap.size 67 1 lv r vs∧Rowm wr lv.ownBlock vs mN qr)∧Ω (Below u3.heap.size u3 wr)) (fun iv _ _ _=>3-(intOf iv).toNat)
 case atStart=>exact⟨0,by decide,rfl,by rw[HP0.out];rfl,⟨fun i hi=>by omega⟩,⟨[],⟨rfl,Or.inl ⟨rfl,rfl⟩⟩,fun i v h=>by simp at h⟩,⟨Below.refl _ _⟩⟩
 case round=>
  obtain⟨i,hi,rfl,rfl,Hok,HOv,Hb⟩:=hrel;have BE:=zbt E3 Hb.out;by_cases hlt:i<3
  ·have hiz:(i:Int)<3:=by omega
   have hix:=HIx.out i hlt;have f1:=Hlo.out i;have hst:=HStep.out i hlt;have hb1:=HPl.out (i+1) (by omega);have hb3:=Hmm.out i;have hb4:=Hwb.out i;have hbg:=Hbig.out;have HSz':=HSz.out i;have HDi:=HD.out i;obtain⟨m,hm⟩:=zev (mN i);obtain⟨lo,hlo⟩:=xaa (lf i);obtain⟨hi',hhi⟩:=xaa (gf i);rw[hm,hlo.out,hhi.out]at hix;rw[hlo.out,hhi.out]at f1 HSz' HDi;rw[hm]at hst hb3 HDi;have HSz2:=ω (fun w1=>HSz' w1 hlt);obtain⟨n,hn⟩:∃ n:Nat,32*wd i=n:=⟨_,rfl⟩;have hnz : 32*((wd i:Nat):Int)=(n:Int):=by omega
   rw[hnz]at HSz2;rw[hn]at hst;obtain⟨p,hp⟩:=zev (m*n);rw[hp]at hst;obtain⟨s0,hs0⟩:=zev (P i);obtain⟨s1,hs1⟩:=zev (P (i+1));rw[hs0,hs1]at HDi;rw[hs0,hs1]at hst;rw[hs1]at hb1;rw[hs0];have f2:IntKind.i64.wrap ((m:Int)*(n:Int))=(p:Int):=by rw[show (m:Int)*(n:Int)=((m*n:Nat):Int) by push_cast;rfl,hp,IntKind.wrap_i64];omega
   have f5:IntKind.i64.wrap ((s0:Int)+(p:Int))=(s1:Int):=zwi;have hs01:s0≤s1:=by omega
   have hs1x:s1≤x.size:=hb1;have hs1z:s1≤100000:=by omega
   obtain⟨X,hX⟩:=xaa (x.extract s0 s1);have hex:=hX.out;rw[hX.out]at HDi;have HDc:=ω (fun gc w1=>HDi gc w1 hlt);have Hlt:=ω hlt;have Hs1:=ω hs1;have Hm:=ω hm;clear HSz' HDi hst hb1 hb3 hb4 hbg hn hnz hp hs0 hs1 hm hlt hX;obtain⟨W4,hW4⟩:=zev (wr.alloc (.cells #[.int .i64 (m:Int),.int .i64 lo,.int .i64 hi'] 88));obtain⟨r4,hs4,b4⟩:=one hW4;have d0:W4.cell? ⟨wr.heap.size,0,none⟩=some (.int .i64 (m:Int)):=xab r4 rfl;have d1:W4.cell? ⟨wr.heap.size,1,none⟩=some (.int .i64 lo):=xab r4 rfl;have d2:W4.cell? ⟨wr.heap.size,2,none⟩=some (.int .i64 hi'):=xab r4 rfl;have B4:=zbt Hb b4;have D4:Ω (Below wr.heap.size wr W4):=⟨b4⟩;have R4:=ω r4;have HW4:=ω hW4;clear r4 hs4 b4 hW4;go_wp2_with (rw[HW4.out]);refine xav (by kernel_rfl) (by kernel_rfl) ?_;repeat still_step
   still_call (HSz2.out _)
   repeat still_step
   refine wpStill_nil ?_;clear d0 d1 d2;go_wp2_with fail;have KR:∀ w':World,Below W4.heap.size W4.drew w'→w'.heap[wr.heap.size]? = some (.cells #[.int .i64 (m:Int),.int .i64 lo,.int .i64 hi'] 88 (0,0)):=fun w' hb=>(hb.block _ (xac R4.out)).trans R4.out
   have KD:∀ w':World,Below W4.heap.size W4.drew w'→w'.cell? ⟨wr.heap.size,0,none⟩=some (.int .i64 (m:Int)):=fun w' hb=>xab (KR w' hb) rfl
   refine xbe (W4.heap.size) 13 [0,1,2,3,4,5,6,7,8,9,10,11,12] (by kernel_rfl) rfl rfl (by decide) (fun hS ops HO=>?_);simp only[List.filterMap_cons,List.filterMap_nil,List.getElem?_cons_succ,List.getElem?_cons_zero];iterate 5 (refine zV hS ?_)
   refine zW KD hS ?_;refine zV hS ?_;refine zS fun K hK=>?_
   go_simp
   have hr0:=KR _ hS;refine(HDc.out _ _ (xac hr0) (xab hr0 rfl) (xab hr0 rfl)).mono ?_;rintro r w9 ⟨hv,hb9⟩;have h9:Below W4.heap.size W4.drew w9:=hS.trans (hb9.mono hS.size);have hsz4:W4.heap.size≤W4.drew.drew.heap.size:=hS.size;clear hr0;rcases hv with ⟨hok,v,rfl,hv⟩ | ⟨hok,rfl⟩
   ·obtain⟨gi,ci,e1,hgi⟩:=xan hv;subst e1;refine hK _ _ h9 ?_;clear hK K;try simp only[Act.put,heldb.pa,heldb.pb,heldb.pc]
    iterate 5 (refine zV h9 ?_)
    refine zN ?_;have F9:Ω (Below W4.heap.size W4 w9):=⟨(xhn _ W4 1).trans h9⟩;have E9:=zbt B4 F9.out;have HH:Ω (Holds w9 W4.heap.size (.slice (some ⟨gi,0,none⟩) m ci) m (qr i)):=⟨by obtain⟨g2,c2,q1,q2,q3⟩:=hv;exact⟨g2,c2,q1,Nat.le_trans hsz4 q2,q3⟩⟩;have Hok2:Ω (∀ j,j<i+1→okr j):=⟨fun j hj=>by
     by_cases e:j=i
     ·rw[e];exact hok
     ·exact Hok.out j (by omega)⟩
    have G9:=zbt D4 F9.out;clear hS HO hb9 h9 hv hok hgi KR KD hsz4;obtain⟨vs,hov,hrv⟩:=HOv.out;have hvl:vs.length=i:=by have:=hov.1;omega
    have hov2:Ω (w9.ownsRow u3.heap.size 67 1 u10 i vs):=⟨xbu hov G9.out⟩;have hrows:Ω (Rowm w9 u10.ownBlock (vs ++ [.slice (some ⟨gi,0,none⟩) m ci]) mN qr):=⟨(hrv.later G9.out).snoc (by rw[hvl,Hm.out];exact HH.out) (fun k hk=>Nat.lt_of_lt_of_le (hov.lt k hk).2 D4.out.size)⟩;have hws:u3.heap.size≤w9.heap.size:=E9.out.size;have hio:=Hlt.out;clear hov hrv;go_wp2_with (at_builtin;refine wpList_append_own_at _ rfl _ _ 63 rfl u3.heap.size 67 j0 (.slice none 0 0) 1 24 Tryz.underlying63 HJ.out.1 HJ.out.2.1 HJ.out.2.2.1 HJ.out.2.2.2 rfl (by decide) _ _ _ rfl (hov2.out.alloc _) ⟨w9.heap.size,0,none⟩ 1 1 [.slice (some ⟨gi,0,none⟩) m ci] rfl rfl (fun j u hu=>xub _ _ _ j u hu) (fun u hu=>by rw[List.mem_singleton]at hu;subst hu;rfl) (by unfold maxLen;omega) (by omega) (by rw[size_alloc];omega) ?_);intro v' w8 hown' hgrow _ hblk;have hb8:Below u3.heap.size w9 w8:=((Below.refl u3.heap.size w9).alloc hws _).grown hgrow (by rw[size_alloc];omega) (fun k hk=>(hov2.out.lt k hk).1);have B8:Ω (Below u3.heap.size u3 w8):=⟨E9.out.trans hb8⟩;have O8:Ω (∃ vs,w8.ownsRow u3.heap.size 67 1 v' (i+1) vs∧Rowm w8 v'.ownBlock vs mN qr):=⟨_,hown',(hrows.out.later (xbg _ _)).grown hgrow (by rw[size_alloc];exact hblk)⟩;clear hown' hgrow hb8 hblk hio;go_wp2_with fail;go_roundw
    case rel=>exact⟨i+1,by have:=Hlt.out;omega,by go_num,by rw[Hs1.out],Hok2,O8,B8⟩
    case measure=>have:=Hlt.out;simp[intOf];omega
   ·refine hK _ _ h9 ?_;clear hK K;try simp only[Act.put,heldb.pa,heldb.pb,heldb.pc]
    iterate 5 (refine zV h9 ?_)
    refine zN ?_;have F9:Ω (Below W4.heap.size W4 w9):=⟨(xhn _ W4 1).trans h9⟩;have E9:Ω (Below W.heap.size W w9):=⟨E3.out.trans ((B4.out.trans (F9.out.mono B4.out.size)).mono E3.out.size)⟩;have Hno:Ω (¬ (okr 0∧okr 1∧okr 2)):=⟨fun q=>hok (by
     rcases (show i=0∨i=1∨i=2 by have:=Hlt.out;omega) with rfl | rfl | rfl
     ·exact q.1
     ·exact q.2.1
     ·exact q.2.2)⟩
    clear hS HO hb9 h9 hok KR KD hsz4;go_wp2_with fail;go_ret3
    exact⟨Or.inr ⟨Hno.out,rfl⟩,BW.out.trans (E9.out.mono BW.out.size)⟩
  ·obtain rfl:i=3:=by omega
   simp only[Int.cast_ofNat_Int];obtain⟨vs,hov,hrv⟩:=HOv.out;have hvl:vs.length=3:=by have:=hov.1;omega
   obtain⟨g,c,e1⟩:=rbitd.xbh (by decide) hov;subst e1;have HT:Ω (∀ w':World,Below wr.heap.size wr w'→∃ g1 c1 v1 v2 v3,Value.slice (some ⟨g,0,none⟩) 3 c=.slice (some ⟨g1,0,none⟩) 3 c1∧g1<w'.heap.size∧w'.cell? ⟨g1,0,none⟩=some v1∧w'.cell? ⟨g1,1,none⟩=some v2∧w'.cell? ⟨g1,2,none⟩=some v3∧Holds w' 0 v1 ln (qr 0)∧Holds w' 0 v2 kn (qr 1)∧Holds w' 0 v3 kn (qr 2)):=⟨fun w' hb=>by
    have hgl:=(hov.lt g rfl).2;have hh:∀ j,j<3→∃ v,w'.cell? ⟨g,j,none⟩=some v∧Holds w' 0 v (mN j) (qr j):=fun j hj=>by
     have hv:vs[j]? = some vs[j]:=List.getElem?_eq_getElem (by omega);obtain⟨g2,c2,e2,q1,-,q3⟩:=hrv j _ hv;refine⟨vs[j],(hb.cell (p:=⟨g,j,none⟩) hgl).trans ((hov.cellAt j (by omega)).trans hv),g2,c2,e2,Nat.zero_le _,Nat.lt_of_lt_of_le q1 hb.size,fun s hs k hk=>(hb.cell (p:=⟨g2,256*s+k,none⟩) q1).trans (q3 s hs k hk)⟩
    obtain⟨v1,c1,H1⟩:=hh 0 (by decide);obtain⟨v2,c2,H2⟩:=hh 1 (by decide);obtain⟨v3,c3,H3⟩:=hh 2 (by decide);obtain⟨m0,m1,m2⟩:=Hm0.out;rw[m0]at H1;rw[m1]at H2;rw[m2]at H3;exact⟨g,c,v1,v2,v3,rfl,Nat.lt_of_lt_of_le hgl hb.size,c1,c2,c3,H1,H2,H3⟩⟩
   clear hov hrv;go_wp2_with fail;refine(HC0.out _).mono ?_;rintro r w5 ⟨rfl,hb5⟩;have B5:Ω (Below wr.heap.size wr w5):=⟨hb5⟩;clear hb5;go_wp2_with fail;go_ret3
   exact⟨Or.inl ⟨⟨Hok.out 0 (by decide),Hok.out 1 (by decide),Hok.out 2 (by decide)⟩,_,rfl,HT.out _ B5.out⟩,BW.out.trans ((BE.out.trans (B5.out.mono BE.out.size)).mono BW.out.size)⟩
end kse
namespace kpr
open arr mem stil polys polt pols rbita rbitb rbitd rbite rbitf rbitg bitp saml lsl11 helda qrow mlkm mlkb rkpb rksb rkrw
open rndm (latt)
open samr samc rsdoc keca kstep kturn spok mlkd
theorem xdt{T:Array Value}(Z:Nat→Int)(kn ln:Nat)(e t a b o s:Int)(sd:ByteArray)(w:World)(hK:KT T TL RL)(hP:Gp w)(hT:nthere.ZT T Z)(h:latt (kn:Int) (ln:Int) e t a b o s=true)(hsd:sd.size=32):
 Calls Tryz.prog 17 #[.agg T,.agg (zLt (kn:Int) (ln:Int) e t a b o s),.string sd] w (zB w (.tuple #[.string (pPk (fun k=>Z k%8380417) sd kn ln e),.string (pSk (fun k=>Z k%8380417) sd kn ln e),.int .i64 0])):=by
 obtain⟨hk,hl,-,he,-⟩:=xe1 h;have hk : 1≤kn∧kn≤8:=by omega
 have hl : 1≤ln∧ln≤8:=by omega
 have HR0:∀ w1:World,Calls Tryz.prog 38 #[.agg (zLt (kn:Int) (ln:Int) e t a b o s)] w1 (zB w1 (.bool true)):=fun w1=>by rw[←h];exact rright.xbn _ _ e t a b o s w1
 have HSe0:∀ w1:World,Gp w1→Calls Tryz.prog 40 #[.agg T,.agg (zLt (kn:Int) (ln:Int) e t a b o s),.string (pSig sd kn ln)] w1 fun x w'=>(∃ v1 v2,x=.returned (.tuple #[v1,v2])∧Holds w' w1.heap.size v1 ln (qS (pSig sd kn ln) e)∧Holds w' w1.heap.size v2 kn (fun i=>qS (pSig sd kn ln) e (ln+i)))∧Below w1.heap.size w1 w':=fun w1 hg=>qdoc.secrets kn ln e t a b o s _ w1 hK hg h (by rw[xtp];decide)
 have HMa0:∀ w1:World,Gp w1→Calls Tryz.prog 43 #[.agg T,.agg (zLt (kn:Int) (ln:Int) e t a b o s),.string (pRho sd kn ln)] w1 fun x w'=>(∃ v,x=.returned v∧MX w' v kn (fun _=>ln) (qX (pRho sd kn ln)))∧Below w1.heap.size w1 w':=fun w1 hg=>by
  refine(qdoc.matrix kn ln e t a b o s _ w1 hK hg h (by rw[xbz];decide)).mono ?_;rintro x w' ⟨⟨v,vs,rfl,h1,h2⟩,hb⟩;exact⟨⟨v,rfl,mx_of hk.1 h1 h2⟩,hb⟩
 obtain⟨ζ,hζ⟩:=xaa (fun k=>Z k%8380417);have HRw0:∀ (w1:World) (v vv:Value) (B:Nat),MX w1 v kn (fun _=>ln) (qX (pRho sd kn ln))→Holds w1 B vv ln (qS (pSig sd kn ln) e)→Calls Tryz.prog 42 #[.agg T,v,vv] w1 fun e' w'=>(∃ v',e'=.returned v'∧Holds w' w1.heap.size v' kn (fun r=>rowv ζ (qX (pRho sd kn ln) r) (qS (pSig sd kn ln) e) ln))∧Below w1.heap.size w1 w':=fun w1 v vv B h1 h2=>by
  have h3:=krw.xin T Z kn ln (fun _=>ln) (qX (pRho sd kn ln)) (qS (pSig sd kn ln) e) v vv B w1 hK.size hT hk (fun _ _=>hl.2) hl h1 h2;simp only[Nat.min_self,hζ.out]at h3;exact h3
 have HSp0:∀ (w1:World) (v vb:Value) (B B':Nat),Holds w1 B v kn (fun r=>rowv ζ (qX (pRho sd kn ln) r) (qS (pSig sd kn ln) e) ln)→Holds w1 B' vb kn (fun i=>qS (pSig sd kn ln) e (ln+i))→Calls Tryz.prog 41 #[v,vb] w1 fun x w'=>(∃ v1 v2,x=.returned (.tuple #[v1,v2])∧Holds w' w1.heap.size v1 kn (pHi ζ sd kn ln e)∧Holds w' w1.heap.size v2 kn (pLo ζ sd kn ln e))∧Below w1.heap.size w1 w':=fun w1 v vb B B' h1 h2=>ksp.xfi kn v vb B B' _ _ w1 hk h1 h2
 have HPb0:∀ (w1:World) (v:Value) (B:Nat),Holds w1 B v kn (pHi ζ sd kn ln e)→Calls Tryz.prog 44 #[.agg (zLt (kn:Int) (ln:Int) e t a b o s),.string (pRho sd kn ln),v] w1 (zB w1 (.tuple #[.string (pPk ζ sd kn ln e),.int .i64 0])):=fun w1 v B hv=>by
  have h1:=kpb.pb_any kn ln e t a b o s (pRho sd kn ln) v B _ w1 h (xbz _ _ _) hv;unfold resP at h1;rw[if_pos (show okP (pHi ζ sd kn ln e) 1023 kn from fun i _=>pHi_in ζ sd kn ln e i)]at h1;exact h1
 have HSb0:∀ (w1:World) (va vb vl:Value) (Ba Bb Bl:Nat),Holds w1 Ba va ln (qS (pSig sd kn ln) e)→Holds w1 Bb vb kn (fun i=>qS (pSig sd kn ln) e (ln+i))→Holds w1 Bl vl kn (pLo ζ sd kn ln e)→Calls Tryz.prog 45 #[.agg (zLt (kn:Int) (ln:Int) e t a b o s),.string (pRho sd kn ln++pKey sd kn ln++pTr ζ sd kn ln e),va,vb,vl] w1 (zB w1 (.tuple #[.string (pSk ζ sd kn ln e),.int .i64 0])):=fun w1 va vb vl Ba Bb Bl h1 h2 h3=>by
  have h4:=ksb.sb_any kn ln e t a b o s (pHead ζ sd kn ln e) va vb vl Ba Bb Bl _ _ _ w1 h (xe5 _ _ _ _ _) h1 h2 h3;unfold resK at h4;rw[if_pos ⟨fun i _=>xfc _ e he i,fun i _=>xfc _ e he (ln+i),fun i _=>xkr ζ sd kn ln e i⟩]at h4;exact h4
 have HS10:∀ w1:World,Gp w1→w1.heap[w.heap.size]? = some (.cells T 34 (0,0))→Calls Tryz.prog 39 #[.pointer (some ⟨w.heap.size,0,none⟩),.string (tw sd kn ln),.int .i64 128] w1 (zB w1 (.string (pS sd kn ln))):=fun w1 hg hr=>ksh.xfe w.heap.size _ 128 w1 hK hg hr (by decide) (by rw[xfp];omega)
 have HS20:∀ w1:World,Gp w1→w1.heap[w.heap.size]? = some (.cells T 34 (0,0))→Calls Tryz.prog 39 #[.pointer (some ⟨w.heap.size,0,none⟩),.string (pPk ζ sd kn ln e),.int .i64 64] w1 (zB w1 (.string (pTr ζ sd kn ln e))):=fun w1 hg hr=>ksh.xfe w.heap.size _ 64 w1 hK hg hr (by decide) (by rw[xto];omega)
 rw[hζ.out];have HTz:Ω ((Tryz.prog.info? 34).map (·.size)=some T.size):=⟨infoT T hK⟩;have HP:=ω hP;obtain⟨ρS,hρS⟩:=xaa (pS sd kn ln);obtain⟨ρR,hρR⟩:=xaa (pRho sd kn ln);obtain⟨ρK,hρK⟩:=xaa (pKey sd kn ln);obtain⟨ρG,hρG⟩:=xaa (pSig sd kn ln);obtain⟨PK,hPK⟩:=xaa (pPk ζ sd kn ln e);obtain⟨SK,hSK⟩:=xaa (pSk ζ sd kn ln e);obtain⟨TR,hTR⟩:=xaa (pTr ζ sd kn ln e);obtain⟨A,hA⟩:=xaa (qS (pSig sd kn ln) e);obtain⟨Bq,hBq⟩:=xaa (fun i=>qS (pSig sd kn ln) e (ln+i));obtain⟨Y,hY⟩:=xaa (fun r=>rowv ζ (qX (pRho sd kn ln) r) (qS (pSig sd kn ln) e) ln);obtain⟨X,hX⟩:=xaa (qX (pRho sd kn ln));obtain⟨hi,hhi⟩:=xaa (pHi ζ sd kn ln e);obtain⟨lo,hlo⟩:=xaa (pLo ζ sd kn ln e);have sS : ρS.size=128:=by rw[←hρS.out];exact xh7 _ _ _
 have sR : ρR.size=32:=by rw[←hρR.out];exact xbz _ _ _
 have sK : ρK.size=32:=by rw[←hρK.out];exact xeg _ _ _
 have sT:TR.size=64:=by rw[←hTR.out];exact xks _ _ _ _ _
 have eR : ρS.extract 0 32 = ρR:=by rw[←hρS.out,←hρR.out];rfl
 have eG : ρS.extract 32 96 = ρG:=by rw[←hρS.out,←hρG.out];rfl
 have eK : ρS.extract 96 128 = ρK:=by rw[←hρS.out,←hρK.out];rfl
 simp only[hBq.out]at HSe0 HSb0 HSp0;simp only[hY.out]at HRw0 HSp0;simp only[hX.out]at HMa0 HRw0;simp only[hρS.out,hρR.out,hρK.out,hρG.out,hPK.out,hSK.out,hTR.out,hhi.out,hlo.out]at HS10 HS20 HSe0 HMa0 HRw0 HPb0 HSb0 HSp0 hA ⊢;simp only[hA.out]at HSe0 HRw0 HSb0;have HeR:=ω eR;have HeG:=ω eG;have HeK:=ω eK;have Hk:=ω hk;have Hl:=ω hl;clear hρS hρR hρK hρG hPK hSK hTR hA hBq hX hhi hlo hY hζ hT hK h he hk hl eR eG eK hP;obtain⟨C,HC⟩:=xaa ((zLt (kn:Int) (ln:Int) e t a b o s):Array Value);simp only[HC.out]at HR0 HSe0 HMa0 HPb0 HSb0 ⊢;have HCs:Ω ((Tryz.prog.info? 37).map (·.size)=some C.size):=⟨by rw[←HC.out];kernel_rfl⟩;obtain⟨W,hW⟩:=zev ((w.alloc (.cells T 34)).alloc (.cells C 37));obtain⟨r0,r1,hWs,b0⟩:=two hW;have TB:Ω (∀ w':World,Below W.heap.size W w'→w'.heap[w.heap.size]? = some (.cells T 34 (0,0))):=⟨fun w' hb=>(hb.block _ (by rw[hWs];omega)).trans r0⟩;have CB:Ω (∀ w':World,Below W.heap.size W w'→w'.heap[w.heap.size+1]? = some (.cells C 37 (0,0))):=⟨fun w' hb=>(hb.block _ (by rw[hWs];omega)).trans r1⟩;have BW:=ω b0;have HW:=ω hW;have HR:=ω HR0;have HS1:=ω HS10;have HS2:=ω HS20;have HSe:=ω HSe0;have HMa:=ω HMa0;have HRw:=ω HRw0;have HSp:=ω HSp0;have HPb:=ω HPb0;have HSb:=ω HSb0;have GP:Ω (∀ w':World,Below W.heap.size W w'→Gp w'):=⟨fun w' hb=>HP.out.later (BW.out.trans (hb.mono BW.out.size))⟩;have hsz:(sd.size:Int)=32:=by omega
 have hsR:(ρR.size:Int)=32:=by omega
 have hsdz:=hsd;clear HR0 HS10 HS20 HSe0 HMa0 HRw0 HSp0 HPb0 HSb0 hW r0 r1 hWs b0 hsd;go_enter Tryz.func17,Tryz.ntmps17;go_wp2_with (first
  | (rw[HW.out])
  | (refine wpList_load_row rfl 37 _ rfl (w.heap.size+1) rfl 37 _ (0,0) _ (CB.out _ (Below.refl _ _)) zZ rfl HCs.out ?_))
 refine(HR.out _).mono ?_;rintro x u1 ⟨rfl,hb1⟩;have E1:Ω (Below W.heap.size W u1):=⟨hb1⟩;have cK:u1.cell? ⟨w.heap.size+1,0,none⟩=some (.int .i64 (kn:Int)):=xab (CB.out _ hb1) (by rw[←HC.out];rfl);have cL:u1.cell? ⟨w.heap.size+1,1,none⟩=some (.int .i64 (ln:Int)):=xab (CB.out _ hb1) (by rw[←HC.out];rfl);have f8k:IntKind.u8.wrap (kn:Int)=(kn:Int):=by rw[IntKind.wrap_u8];have:=Hk.out;omega
 have f8l:IntKind.u8.wrap (ln:Int)=(ln:Int):=by rw[IntKind.wrap_u8];have:=Hl.out;omega
 obtain⟨W2,hW2⟩:=zev (u1.alloc (.cells #[.int .u8 (kn:Int),.int .u8 (ln:Int)] 5));obtain⟨r2,hs2,b2⟩:=one hW2;have hcv:=xc6 (t:=5) (l:=[kn,ln]) (cap:=2) (n:=2) rfl (by have:=Hk.out;have:=Hl.out;simp;omega) r2;obtain⟨XX,hXX⟩:∃ X:ByteArray,⟨(u8s [kn,ln]).toArray⟩=X:=⟨_,rfl⟩;have hXs:XX.size=2:=by rw[←hXX];rfl
 have hcat:sd++XX=tw sd kn ln:=by rw[←hXX];rfl
 rw[hXX]at hcv;have E2:Ω (Below W.heap.size W W2):=⟨hb1.trans (b2.mono hb1.size)⟩;have HW2:=ω hW2;have HS1a:=HS1.out W2 (GP.out _ E2.out) (TB.out _ E2.out);rw[←hcat]at HS1a;have HS1b:=ω HS1a;clear hXX hcat r2 hs2 b2 hW2 hb1 HS1a;go_wp2_with (rw[HW2.out]);refine HS1b.out.mono ?_;rintro x w3 ⟨rfl,hb3⟩;have E3:=zbt E2 hb3;clear HS1b hb3 hcv cK cL hXs;have hsSz:(ρS.size:Int)=128:=by omega
 have hsSn : ρS.size=128:=sS;have e0:=HeR.out;have e1:=HeG.out;have e2:=HeK.out;go_wp2_with fail;refine xav (by kernel_rfl) (by kernel_rfl) ?_;repeat still_step
 refine wpStill_nil ?_;clear e0 e1 e2;have E4:Ω (Below W.heap.size W w3.drew):=⟨E3.out.drew⟩;go_wp2_with (first
  | (refine wpList_load_row rfl 34 _ rfl w.heap.size rfl 34 T (0,0) _ (TB.out _ E4.out) zY rfl HTz.out ?_)
  | (refine wpList_load_row rfl 37 _ rfl (w.heap.size+1) rfl 37 _ (0,0) _ (CB.out _ E4.out) zZ rfl HCs.out ?_))
 refine(HSe.out _ (GP.out _ E4.out)).mono ?_;rintro x w5 ⟨⟨va,vb,rfl,ha,hb⟩,hb5⟩;have E5:=zbt E4 hb5;have Ba:=ω ha;have Bb:=ω hb;obtain⟨B1,hB1⟩:=zev w3.drew.heap.size;rw[hB1]at Ba Bb;clear hb5 ha hb hB1;go_wp2_with fail;have KT5:Ω (∀ w':World,Below w5.heap.size w5 w'→w'.heap[w.heap.size]? = some (.cells T 34 (0,0))):=⟨fun w' hb=>TB.out w' (E5.out.trans (hb.mono E5.out.size))⟩;have KC5:Ω (∀ w':World,Below w5.heap.size w5 w'→w'.heap[w.heap.size+1]? = some (.cells C 37 (0,0))):=⟨fun w' hb=>CB.out w' (E5.out.trans (hb.mono E5.out.size))⟩;refine xbe (w5.heap.size) 14 [0,1,2,3,5,7,4,6,8,9,10,11,12,13] (by kernel_rfl) rfl rfl (by decide) (fun hS ops HO=>?_);simp only[List.filterMap_cons,List.filterMap_nil,List.getElem?_cons_succ,List.getElem?_cons_zero];iterate 2 (refine heldb.hk_l (by rw[←HO.out];kernel_rfl) (fun _ _ _ _ h=>h) 34 _ rfl (w.heap.size) rfl 34 T _ KT5.out zY rfl HTz.out (hS) ?_;simp only[Act.put,heldb.pa,heldb.pb,heldb.pc])
 refine heldb.hk_l (by rw[←HO.out];kernel_rfl) (fun _ _ _ _ h=>h) 37 _ rfl (w.heap.size+1) rfl 37 C _ KC5.out zZ rfl HCs.out (hS) ?_;simp only[Act.put,heldb.pa,heldb.pb,heldb.pc];iterate 3 (refine zV hS ?_)
 refine zS fun K hK=>?_
 go_simp
 refine(HMa.out _ (GP.out _ (E5.out.trans (hS.mono E5.out.size)))).mono ?_;rintro x w6 ⟨⟨vm,rfl,hm⟩,hb6⟩;have h6:=zbm hS hb6;refine hK _ _ h6 ?_;clear hK K;try simp only[Act.put,heldb.pa,heldb.pb,heldb.pc]
 refine zS fun K hK=>?_
 go_simp
 refine(HRw.out _ _ _ _ hm (Ba.out.later h6)).mono ?_;rintro x w7 ⟨⟨vr,rfl,hr⟩,hb7⟩;have h7:=zbm h6 hb7;refine hK _ _ h7 ?_;clear hK K;try simp only[Act.put,heldb.pa,heldb.pb,heldb.pc]
 refine zS fun K hK=>?_
 go_simp
 refine(HSp.out _ _ _ _ _ hr (Bb.out.later h7)).mono ?_;rintro x w8 ⟨⟨vh,vl,rfl,hh,hl⟩,hb8⟩;have h8:=zbm h7 hb8;refine hK _ _ h8 ?_;clear hK K;try simp only[Act.put,heldb.pa,heldb.pb,heldb.pc]
 iterate 5 (refine zV h8 ?_)
 refine zN ?_;have E8:=zbt E5 h8;have Bh:=ω hh;have Bl:=ω hl;have Ba8:=ω (Ba.out.later h8);have Bb8:=ω (Bb.out.later h8);clear hS HO hb6 h6 hm hb7 h7 hr hb8 h8 hh hl KT5 KC5 Ba Bb;go_wp2_with (refine wpList_load_row rfl 37 _ rfl (w.heap.size+1) rfl 37 _ (0,0) _ (CB.out _ E8.out) zZ rfl HCs.out ?_);refine(HPb.out _ _ _ Bh.out).mono ?_;rintro x w9 ⟨rfl,hb9⟩;have E9:=zbt E8 hb9;have Ba9:=ω (Ba8.out.later hb9);have Bb9:=ω (Bb8.out.later hb9);have Bl9:=ω (Bl.out.later hb9);clear hb9 Bh Ba8 Bb8 Bl;go_wp2_with fail;have KC9:Ω (∀ w':World,Below w9.heap.size w9 w'→w'.heap[w.heap.size+1]? = some (.cells C 37 (0,0))):=⟨fun w' hb=>CB.out w' (E9.out.trans (hb.mono E9.out.size))⟩;have z1:¬ 9223372036854775807 < ρR.size + ρK.size:=by omega
 have z2:(ρR ++ ρK).size=64:=by rw[ByteArray.size_append];omega
 obtain⟨RK,hRK⟩:=zev (ρR ++ ρK);rw[hRK]at z2;have z3:¬ 9223372036854775807<RK.size+TR.size:=by omega
 have hRK2 : ρR ++ ρK++TR=RK++TR:=by rw[hRK]
 have HRK2:=ω hRK2;clear hRK2;refine xbe (w9.heap.size) 16 [0,1,2,3,4,7,8,9,5,6,10,11,12,13,14,15] (by kernel_rfl) rfl rfl (by decide) (fun hS ops HO=>?_);simp only[List.filterMap_cons,List.filterMap_nil,List.getElem?_cons_succ,List.getElem?_cons_zero];refine heldb.hk_l (by rw[←HO.out];kernel_rfl) (fun _ _ _ _ h=>h) 37 _ rfl (w.heap.size+1) rfl 37 C _ KC9.out zZ rfl HCs.out (hS) ?_;simp only[Act.put,heldb.pa,heldb.pb,heldb.pc];iterate 7 (refine zV hS ?_)
 refine zS fun K hK=>?_
 go_simp
 have b5:=E9.out.trans (hS.mono E9.out.size);refine(HS2.out _ (GP.out _ b5) (TB.out _ b5)).mono ?_;rintro x w10 ⟨rfl,hb10⟩;have h10:=zbm hS hb10;refine hK _ _ h10 ?_;clear hK K b5;try simp only[Act.put,heldb.pa,heldb.pb,heldb.pc]
 refine zV h10 ?_;refine zS fun K hK=>?_
 go_simp
 have hcl:=HSb.out _ _ _ _ _ _ _ (Ba9.out.later h10) (Bb9.out.later h10) (Bl9.out.later h10);rw[HRK2.out]at hcl;refine hcl.mono ?_;clear hcl;rintro x w11 ⟨rfl,hb11⟩;have h11:=zbm h10 hb11;refine hK _ _ h11 ?_;clear hK K;try simp only[Act.put,heldb.pa,heldb.pb,heldb.pc]
 iterate 5 (refine zV h11 ?_)
 refine zN ?_;have E11:=zbt E9 h11;clear hS HO hb10 h10 hb11 h11 KC9;go_wp2_with fail;go_ret3
 exact⟨rfl,BW.out.trans (E11.out.mono BW.out.size)⟩
end kpr
namespace kaw
open rbita mem arr tabv kturn rndm mlkm mlkd tabm tabt
theorem xeq:nthere.ZT TA (fun k=>((zt k:Nat):Int)):=⟨ht_doc,xdx,xfl⟩
end kaw
namespace kcon
open arr mem polys polt pols rbita rbite saml samr samc rsdoc kturn mlkm mlkb rksz rkpb rksb rkse rkrw mlkd kkey kaw tabm tabt tabv
open rndm (latt)
def ζd:Nat→Int:=fun k=>((zt k:Nat):Int)%8380417
structure TH (w:World) (g g1 c1 g2 c2 g3 c3 ln kn:Nat) (p q l:Nat→Nat→Int):Prop where
 lt:g<w.heap.size
 x0:w.cell? ⟨g,0,none⟩=some (.slice (some ⟨g1,0,none⟩) ln c1)
 x1:w.cell? ⟨g,1,none⟩=some (.slice (some ⟨g2,0,none⟩) kn c2)
 x2:w.cell? ⟨g,2,none⟩=some (.slice (some ⟨g3,0,none⟩) kn c3)
 h0:Holds w 0 (.slice (some ⟨g1,0,none⟩) ln c1) ln p
 h1:Holds w 0 (.slice (some ⟨g2,0,none⟩) kn c2) kn q
 h2:Holds w 0 (.slice (some ⟨g3,0,none⟩) kn c3) kn l
theorem TH.later{w w':World}{g g1 c1 g2 c2 g3 c3 ln kn:Nat}{p q l:Nat→Nat→Int}(h:TH w g g1 c1 g2 c2 g3 c3 ln kn p q l)(hb:Below w.heap.size w w'):TH w' g g1 c1 g2 c2 g3 c3 ln kn p q l:=
 ⟨Nat.lt_of_lt_of_le h.lt hb.size,(hb.cell (p:=⟨g,0,none⟩) h.lt).trans h.x0,(hb.cell (p:=⟨g,1,none⟩) h.lt).trans h.x1,(hb.cell (p:=⟨g,2,none⟩) h.lt).trans h.x2,h.h0.later hb,h.h1.later hb,h.h2.later hb⟩
theorem xlr{w:World}{v:Value}{x:ByteArray}{kn ln:Nat}{e:Int}(h:three w v x kn ln e):∃ g c g1 c1 g2 c2 g3 c3,v=.slice (some ⟨g,0,none⟩) 3 c∧TH w g g1 c1 g2 c2 g3 c3 ln kn (rdS x 128 (lb (e+e).toNat) e) (rdS x (128+32*lb (e+e).toNat*ln) (lb (e+e).toNat) e) (rdS x (128+32*lb (e+e).toNat*ln+32*lb (e+e).toNat*kn) 13 4096):=by
 obtain⟨g,c,v1,v2,v3,e0,hg,x0,x1,x2,h0,h1,h2⟩:=h;obtain⟨g1,c1,e1,-⟩:=xan h0;obtain⟨g2,c2,e2,-⟩:=xan h1;obtain⟨g3,c3,e3,-⟩:=xan h2;subst e1 e2 e3;exact⟨g,c,g1,c1,g2,c2,g3,c3,e0,hg,x0,x1,x2,h0,h1,h2⟩
theorem xlj(kn ln:Nat)(e:Int)(n:Nat):(n:Int)=sz2 kn ln e↔n=128+32*lb (2*e).toNat*ln+32*lb (2*e).toNat*kn+416*kn:=by
 have e1 : 32*((lb (2*e).toNat:Nat):Int)*((ln:Int)+(kn:Int))=((32*lb (2*e).toNat*ln+32*lb (2*e).toNat*kn:Nat):Int):=by push_cast;rw[Int.mul_add]
 rw[sz2,e1];omega
section
variable (kn ln:Nat) (e t a b o s:Int) (sd:ByteArray) (h:latt (kn:Int) (ln:Int) e t a b o s=true)
include h
theorem pair(w:World)(hP:Gp w)(hsd:sd.size=32):Calls Tryz.prog 17 #[.agg TA,.agg (zLt (kn:Int) (ln:Int) e t a b o s),.string sd] w (zB w (.tuple #[.string (pPk ζd sd kn ln e),.string (pSk ζd sd kn ln e),.int .i64 0])):=kpr.xdt _ kn ln e t a b o s sd w kecd.xdo hP xeq h hsd
theorem xvg:(pSk ζd sd kn ln e).size=128+32*lb (2*e).toNat*ln+32*lb (2*e).toNat*kn+416*kn∧okK (pSk ζd sd kn ln e) kn ln e:=by
 obtain⟨-,-,he,-⟩:=xby h;refine⟨?_,?_⟩
 ·unfold pSk;rw[xpx,xe5,(xe2 e he).1]
 ·exact xel kn ln e _ _ _ _ (xe5 _ _ _ _ _) he (fun i _=>xfc _ e he i) (fun i _=>xfc _ e he (ln+i)) (fun i _=>xkr ζd sd kn ln e i)
theorem sec(w:World):Calls Tryz.prog 26 #[.agg (zLt (kn:Int) (ln:Int) e t a b o s),.string (pSk ζd sd kn ln e)] w fun r w'=>(∃ g c g1 c1 g2 c2 g3 c3,r=.returned (.tuple #[.string (pHead ζd sd kn ln e),.slice (some ⟨g,0,none⟩) 3 c,.int .i64 0])∧TH w' g g1 c1 g2 c2 g3 c3 ln kn (qS (pSig sd kn ln) e) (fun i=>qS (pSig sd kn ln) e (ln+i)) (pLo ζd sd kn ln e))∧Below w.heap.size w w':=by
 obtain⟨-,-,he,-⟩:=xby h;obtain⟨f1,f2⟩:=xvg kn ln e t a b o s sd h;obtain⟨r1,r2,r3⟩:=xvi kn ln e (pHead ζd sd kn ln e) (qS (pSig sd kn ln) e) (fun i=>qS (pSig sd kn ln) e (ln+i)) (pLo ζd sd kn ln e) (xe5 _ _ _ _ _) he (fun i _=>xfc _ e he i) (fun i _=>xfc _ e he (ln+i)) (fun i _=>xkr ζd sd kn ln e i) (fun i k=>xo5 _ _ _ _) (fun i k=>xo5 _ _ _ _) (fun i k=>xtn _ _ _ _ _ _ _);have hhd:(pSk ζd sd kn ln e).extract 0 128=pHead ζd sd kn ln e:=xvh kn ln e _ _ _ _ (xe5 _ _ _ _ _);refine(kse.xiq kn ln e t a b o s (pSk ζd sd kn ln e) w h ((xlj kn ln e _).2 f1)).mono ?_;rintro r w' ⟨⟨hok,v,rfl,hv⟩ | ⟨hno,-⟩,hb⟩
 ·obtain⟨g,c,g1,c1,g2,c2,g3,c3,rfl,H⟩:=xlr hv;rw[hhd];exact⟨⟨g,c,g1,c1,g2,c2,g3,c3,rfl,H.lt,H.x0,H.x1,H.x2,xj5 H.h0 r1,xj5 H.h1 r2,xj5 H.h2 r3⟩,hb⟩
 ·exact absurd f2 hno
theorem mat(w:World)(hP:Gp w):Calls Tryz.prog 43 #[.agg TA,.agg (zLt (kn:Int) (ln:Int) e t a b o s),.string (pRho sd kn ln)] w fun x w'=>(∃ v,x=.returned v∧MX w' v kn (fun _=>ln) (qX (pRho sd kn ln)))∧Below w.heap.size w w':=by
 obtain⟨hk,-⟩:=xby h;refine(qdoc.matrix kn ln e t a b o s _ w kecd.xdo hP h (by rw[xbz];decide)).mono ?_;rintro x w' ⟨⟨v,vs,rfl,h1,h2⟩,hb⟩;exact⟨⟨v,rfl,mx_of (by omega) h1 h2⟩,hb⟩
end
end kcon
end Go.Proofs.YtgahcabgmfbhdaaGreatDoor
