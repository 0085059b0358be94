/-
  What mlsign's pack and packHigh return. Conditions: as each theorem says. A row of what a verifier h
-/
import Derived.Test.YtomphjajkkddkaaGreatDoorZt10
import Derived.Test.YtomphjajkkddkaaGreatDoorZt11
import Derived.Test.YtomphjajkkddkaaGreatDoorZt12
import Derived.Test.YtomphjajkkddkaaGreatDoorZt01
import Derived.Test.YtomphjajkkddkaaGreatDoorZt15
import Derived.Test.YtomphjajkkddkaaGreatDoorZt02
import Derived.Test.YtomphjajkkddkaaGreatDoorZt09
import Derived.Test.YtomphjajkkddkaaGreatDoorZt03
import Derived.Test.YtomphjajkkddkaaGreatDoorZt14
import Derived.WideShapes
import Derived.ScopeJumps
import Derived.WalkMore
set_option maxRecDepth 100000
set_option maxHeartbeats 16000000
namespace Go.Proofs.YtomphjajkkddkaaGreatDoor.mgb
set_option linter.unusedSimpArgs false
open Go Go.RowKit
open arr mem stil polys polt pols nttl rndm saml spok rsdoc mlkm mlsm keca kstep kturn rkpb rkrw qrow mgd rbita rbitd rbite bitp
theorem cat_list (X:Nat→ByteArray) (n:Nat):(cat ByteArray.empty X (n+1)).data.toList=(cat ByteArray.empty X n).data.toList++(X n).data.toList:=by
 rw[cat,ByteArray.data_append,Array.toList_append]
theorem mk_list (x:ByteArray):(⟨x.data.toList.toArray⟩:ByteArray)=x:=rfl
theorem pack_any (gs n:Nat) (a:Int) (vz:Value) (B:Nat) (p:Nat→Nat→Int) (w:World) (ha:a=131072∨a=524288) (hc:w.cell? ⟨gs,5,none⟩=some (.int .i64 a)) (ls:gs<w.heap.size) (hn : 1≤n∧n≤8) (HV:Holds w B vz n p) (hin:∀ i,i<n→ins (p i) (a-1) a):
 Calls Tryz.prog 168 #[.pointer (some ⟨gs,0,none⟩),vz] w fun e w'=>e=.returned (.string (laidS ByteArray.empty p (a-1) a n))∧Below w.heap.size w w':=by
 unfold laidS
 have hw:IntKind.i64.wrap (a-1)=a-1:=by rw[IntKind.wrap_i64];omega
 obtain⟨X,hX⟩:=ex_eq (fun i=>packed (sg (p i) a) (a-1+a))
 have HX:Away (∀ i,i<n→(X i).size≤1000):=⟨fun i _=>by rw[←hX.out,size_packed];rcases ha with rfl | rfl<;>decide +kernel⟩
 rw[hX.out]
 obtain⟨hz,hsize⟩:=zero_of_info polt.infoP
 have Hsize:=Away.mk hsize
 obtain⟨g,c,hvs,hg⟩:=hd_any HV
 subst hvs
 have Hv:=Away.mk HV
 have Hg:=Away.mk hg
 have Hls:=Away.mk ls
 have Hc:=Away.mk hc
 have HCall:Away (∀ i,i<n→∀ w1:World,Calls Tryz.prog 119 #[.agg (FL .i64 256 (p i)),.int .i64 (a-1),.int .i64 a] w1 fun e w'=>e=.returned (.tuple #[.string (X i),.int .i64 0])∧Below w1.heap.size w1 w'):=⟨fun i hi w1=>by
  have h1:=psig.signed_any (p i) (a-1) a w1 (by omega) (by omega) (by omega) (by omega)
  rw[if_pos (hin i hi)]at h1
  rw[←hX.out]
  exact h1⟩
 obtain⟨a1,ha1⟩:∃ x,a-1=x:=⟨_,rfl⟩
 rw[ha1]at HCall hw
 clear hX hin ha
 rw[←ha1]at hw
 have hw2:IntKind.i64.wrap (a-1)=a1:=by rw[hw,ha1]
 clear hw ha1
 have Hcs:Away (∀ r,r≤n→(cat ByteArray.empty X r).data.toList.length≤1000*r):=⟨fun r hr=>by
  induction r with
  | zero=>exact Nat.zero_le _
  | succ r ih=>
   have h1:=ih (by omega)
   have h2:=HX.out r (by omega)
   rw[cat_list,List.length_append]
   have h3:(X r).data.toList.length=(X r).size:=rfl
   omega⟩
 have hfb:=Lib.fresh_isBuilder 117 5 w
 have Hfb:Away (Lib.IsBuilder 117 5 w.heap.size w.heap.size (Lib.byteCells (cat ByteArray.empty X 0).data.toList) (w.alloc (.cells #[.pointer none,.slice none 0 0] 117))):=⟨hfb⟩
 have hn8:=hn.2
 obtain⟨Rz,HRz⟩:=ex_eq (cat ByteArray.empty X n)
 rw[HRz.out]
 clear HV hz hsize hg ls hfb hn
 go_enter Tryz.func168,Tryz.ntmps168
 go_wp2_with fail
 clear hc
 go_loopw [11] (fun i wr=>∃ r:Nat,r≤n∧i=.int .i64 (r:Int)∧Away (Lib.IsBuilder 117 5 w.heap.size w.heap.size (Lib.byteCells (cat ByteArray.empty X r).data.toList) wr)∧Away (Below w.heap.size w wr)) (fun i _=>n-(intOf i).toNat)
 case atStart=>exact⟨0,Nat.zero_le _,rfl,Hfb,⟨(Below.refl _ _).alloc (Nat.le_refl _) _⟩⟩
 case round=>
  clear Hfb
  obtain⟨r,hr,rfl,Hbd,Hbe⟩:=hrel
  by_cases hlt:r<n
  ·have hrz:(r:Int)<(n:Int):=by omega
   have hr8:r<8:=by omega
   have hrg:=hd_row (Hv.out.later Hbe.out) r hlt
   have HCa:=Away.mk (HCall.out r hlt)
   obtain⟨F,HF⟩:=ex_eq (FL .i64 256 (p r))
   obtain⟨o6,ho6⟩:∃ o6,r*256=o6:=⟨_,rfl⟩
   rw[HF.out,ho6]at hrg
   have Hrg:Away (∀ w':World,Below wr.heap.size wr w'→w'.rangeAt g o6 F.toList):=⟨fun w' hb'=>range_later hrg (Nat.lt_of_lt_of_le Hg.out Hbe.out.size) hb'⟩
   have Fi:Away ((Tryz.prog.info? 76).map (·.size)=some F.toList.length):=⟨by rw[Array.length_toList,←HF.out,fl_size];exact Hsize.out⟩
   have q5:∀ d os,(Go.Sort.grow (redrawn wr d) os).cell? ⟨gs,5,none⟩=some (.int .i64 a):=fun d os=>cell_regrown ((Hbe.out.cell (p:=⟨gs,5,none⟩) Hls.out).trans Hc.out) d os
   rw[HF.out]at HCa
   have hXs:=HX.out r hlt
   have hlen:=Hcs.out r (by omega)
   have hnext:=cat_list X r
   obtain⟨Y,HY⟩:=ex_eq (X r)
   rw[HY.out]at HCa hXs hnext
   have Hlt:=Away.mk hlt
   have Hnext:=Away.mk hnext
   have HXs:=Away.mk hXs
   have Hlen:=Away.mk hlen
   clear hrg hlt HF hXs hlen hnext
   go_wp2_with fail
   refine wp_region_quiet_below (by kernel_rfl) (by kernel_rfl) ?_
   iterate 3 (quiet_step (skip))
   refine wpQuiet_load_mid rfl 76 _ rfl g o6 rfl F.toList _ (fun w' hC=>Hrg.out w' (krw.reg_below hC)) Tryz.underlying76 rfl Fi.out ?_
   iterate 11 (quiet_step (skip))
   quiet_step (exact Calls.regrown_of (HCa.out _))
   iterate 5 (quiet_step (skip))
   refine wpQuiet_nil ?_
   intro w3 hC
   have hb3:Below wr.heap.size wr w3:=krw.reg_below hC
   have Hb3:=Away.mk hb3
   have hz3:w.heap.size≤w3.heap.size:=Nat.le_trans Hbe.out.size hb3.size
   have Hw:Away (Calls Tryz.prog 91 #[.pointer (some ⟨w.heap.size,0,none⟩),.string Y] w3 fun e w'=>e=.returned (.tuple #[.int .i64 Y.size,.nilIface])∧(Lib.BuilderAt 117 5 w.heap.size w.heap.size (.pointer (some ⟨w.heap.size,0,none⟩)) (Lib.byteCells (cat ByteArray.empty X (r+1)).data.toList) w'∧Below w.heap.size w3 w')):=⟨by
    have hh:=shelfr.writeString w.heap.size w.heap.size (Lib.byteCells (cat ByteArray.empty X r).data.toList) Y w3 (shelfr.builder_later Hbd.out hb3) (by
     rw[Lib.byteCells_length]
     have:=HXs.out
     have:=Hlen.out
     omega) hz3
    rw[show Lib.strCells Y=Lib.byteCells Y.data.toList from rfl,←Lib.byteCells_append,←Hnext.out]at hh
    exact hh⟩
   clear hC hb3 q5
   go_wp2_with fail
   refine Hw.out.mono ?_
   rintro e w4 ⟨rfl,hat,hb4⟩
   have Hat:=Away.mk hat
   have D4:Away (Below w.heap.size w w4):=⟨(Hbe.out.trans (Hb3.out.mono Hbe.out.size)).trans hb4⟩
   clear hat hb4
   go_wp2_with fail
   go_roundw
   case rel=>exact⟨r+1,by have:=Hlt.out;omega,by go_num,⟨Or.inr Hat.out⟩,D4⟩
   case measure=>have:=Hlt.out;simp[intOf];omega
  ·obtain rfl:r=n:=by omega
   have Hst:Away (Calls Tryz.prog 86 #[.pointer (some ⟨w.heap.size,0,none⟩)] wr fun e w'=>e=.returned (.string (cat ByteArray.empty X r))∧Below w.heap.size wr w'):=⟨by
    have hh:=shelfr.toText w.heap.size w.heap.size (cat ByteArray.empty X r).data.toList wr Hbd.out Hbe.out.size
    rw[mk_list]at hh
    exact hh⟩
   rw[HRz.out]at Hst
   clear hlt
   go_wp2_with fail
   refine Hst.out.mono ?_
   rintro e w3 ⟨rfl,hb3⟩
   have D3:Away (Below w.heap.size w w3):=⟨Hbe.out.trans hb3⟩
   clear hb3
   go_wp2_with fail
   go_ret
   exact⟨rfl,D3.out⟩
theorem packHigh_any (gs n:Nat) (b:Int) (vw:Value) (B:Nat) (p:Nat→Nat→Int) (w:World) (hb:b=95232∨b=261888) (hc:w.cell? ⟨gs,6,none⟩=some (.int .i64 b)) (ls:gs<w.heap.size) (hn : 1≤n∧n≤8) (HV:Holds w B vw n p):
 Calls Tryz.prog 185 #[.pointer (some ⟨gs,0,none⟩),vw] w fun e w'=>e=.returned (.string (cat ByteArray.empty (fun i=>packed (fun k=>hgh b (p i k)) (8380416 / (2*b)-1)) n))∧Below w.heap.size w w':=by
 obtain⟨m,hm⟩:∃ m:Int,(8380416:Int) / (2*b)-1=m:=⟨_,rfl⟩
 have hm2 : 1≤m∧m<8380417:=by rcases hb with rfl | rfl<;>omega
 obtain⟨X,hX⟩:=ex_eq (fun i=>packed (fun k=>hgh b (p i k)) m)
 have HX:Away (∀ i,i<n→(X i).size≤1000):=⟨fun i _=>by rw[←hX.out,size_packed,←hm];rcases hb with rfl | rfl<;>decide +kernel⟩
 rw[hm,hX.out]
 obtain⟨hz,hsize⟩:=zero_of_info polt.infoP
 have Hsize:=Away.mk hsize
 obtain⟨g,c,hvs,hg⟩:=hd_any HV
 subst hvs
 have Hv:=Away.mk HV
 have Hg:=Away.mk hg
 have Hls:=Away.mk ls
 have Hc:=Away.mk hc
 have HCall:Away (∀ i,i<n→∀ w1:World,Calls Tryz.prog 89 #[.agg (FL .i64 256 fun k=>hgh b (p i k)),.int .i64 m] w1 fun e w'=>e=.returned (.tuple #[.string (X i),.int .i64 0])∧Below w1.heap.size w1 w'):=⟨fun i hi w1=>by
  have h1:=ppack.pack_any (fun k=>hgh b (p i k)) m w1 hm2.1 hm2.2
  rw[if_pos (show inb (fun k=>hgh b (p i k)) m from fun k _=>by rw[←hm];exact mlsb.hgh_in b _ hb)]at h1
  rw[←hX.out]
  exact h1⟩
 have HHi:Away (∀ (f:Nat→Int) (w1:World),Calls Tryz.prog 202 #[.agg (FL .i64 256 f),.int .i64 b] w1 fun e w'=>e=.returned (.agg (FL .i64 256 fun i=>hgh b (f i)))∧Below w1.heap.size w1 w'):=⟨fun f w1=>rhigh.high_any f b w1⟩
 have hb1 : 95232≤b∧b≤261888:=by omega
 obtain⟨d,hd⟩:∃ d:Int,2*b=d:=⟨_,rfl⟩
 have hd1 : 190464≤d:=by omega
 have hd2:d≤523776:=by omega
 have hdw:IntKind.i64.wrap (2*b)=d:=by rw[IntKind.wrap_i64];omega
 obtain⟨q,hq⟩:∃ q:Int,(8380416:Int) / d=q:=⟨_,rfl⟩
 have hqt:Int.tdiv 8380416 d=q:=by rw[Int.tdiv_eq_ediv_of_nonneg (by decide)];exact hq
 have hqm:q-1=m:=by rw[←hm,←hq,←hd]
 have hqw:IntKind.i64.wrap (q-1)=m:=by rw[hqm,IntKind.wrap_i64];omega
 have hq2 : 1≤q∧q≤100:=by rw[←hq,←hd];rcases hb with rfl | rfl<;>decide
 clear hX hb hm hm2
 have Hcs:Away (∀ r,r≤n→(cat ByteArray.empty X r).data.toList.length≤1000*r):=⟨fun r hr=>by
  induction r with
  | zero=>exact Nat.zero_le _
  | succ r ih=>
   have h1:=ih (by omega)
   have h2:=HX.out r (by omega)
   rw[cat_list,List.length_append]
   have h3:(X r).data.toList.length=(X r).size:=rfl
   omega⟩
 have hfb:=Lib.fresh_isBuilder 117 5 w
 have Hfb:Away (Lib.IsBuilder 117 5 w.heap.size w.heap.size (Lib.byteCells (cat ByteArray.empty X 0).data.toList) (w.alloc (.cells #[.pointer none,.slice none 0 0] 117))):=⟨hfb⟩
 have hn8:=hn.2
 obtain⟨Rz,HRz⟩:=ex_eq (cat ByteArray.empty X n)
 rw[HRz.out]
 clear HV hz hsize hg ls hfb hn
 go_enter Tryz.func185,Tryz.ntmps185
 go_wp2_with fail
 clear hc
 go_loopw [20] (fun i wr=>∃ r:Nat,r≤n∧i=.int .i64 (r:Int)∧Away (Lib.IsBuilder 117 5 w.heap.size w.heap.size (Lib.byteCells (cat ByteArray.empty X r).data.toList) wr)∧Away (Below w.heap.size w wr)) (fun i _=>n-(intOf i).toNat)
 case atStart=>exact⟨0,Nat.zero_le _,rfl,Hfb,⟨(Below.refl _ _).alloc (Nat.le_refl _) _⟩⟩
 case round=>
  clear Hfb
  obtain⟨r,hr,rfl,Hbd,Hbe⟩:=hrel
  by_cases hlt:r<n
  ·have hrz:(r:Int)<(n:Int):=by omega
   have hr8:r<8:=by omega
   have hrg:=hd_row (Hv.out.later Hbe.out) r hlt
   have HCa:=Away.mk (HCall.out r hlt)
   have HHa:Away (∀ w1:World,Calls Tryz.prog 202 #[.agg (FL .i64 256 (p r)),.int .i64 b] w1 fun e w'=>e=.returned (.agg (FL .i64 256 fun k=>hgh b (p r k)))∧Below w1.heap.size w1 w'):=⟨HHi.out (p r)⟩
   obtain⟨H,HH⟩:=ex_eq (FL .i64 256 fun k=>hgh b (p r k))
   rw[HH.out]at HHa HCa
   clear HH
   obtain⟨F,HF⟩:=ex_eq (FL .i64 256 (p r))
   obtain⟨o6,ho6⟩:∃ o6,r*256=o6:=⟨_,rfl⟩
   rw[HF.out,ho6]at hrg
   have Hrg:Away (∀ w':World,Below wr.heap.size wr w'→w'.rangeAt g o6 F.toList):=⟨fun w' hb'=>range_later hrg (Nat.lt_of_lt_of_le Hg.out Hbe.out.size) hb'⟩
   have Fi:Away ((Tryz.prog.info? 76).map (·.size)=some F.toList.length):=⟨by rw[Array.length_toList,←HF.out,fl_size];exact Hsize.out⟩
   have q5:∀ d os,(Go.Sort.grow (redrawn wr d) os).cell? ⟨gs,6,none⟩=some (.int .i64 b):=fun d os=>cell_regrown ((Hbe.out.cell (p:=⟨gs,6,none⟩) Hls.out).trans Hc.out) d os
   rw[HF.out]at HHa
   have hXs:=HX.out r hlt
   have hlen:=Hcs.out r (by omega)
   have hnext:=cat_list X r
   obtain⟨Y,HY⟩:=ex_eq (X r)
   rw[HY.out]at HCa hXs hnext
   have Hlt:=Away.mk hlt
   have Hnext:=Away.mk hnext
   have HXs:=Away.mk hXs
   have Hlen:=Away.mk hlen
   clear hrg hlt HF hXs hlen hnext
   go_wp2_with fail
   refine wp_region_quiet_below (by kernel_rfl) (by kernel_rfl) ?_
   iterate 3 (quiet_step (skip))
   refine wpQuiet_load_mid rfl 76 _ rfl g o6 rfl F.toList _ (fun w' hC=>Hrg.out w' (krw.reg_below hC)) Tryz.underlying76 rfl Fi.out ?_
   iterate 5 (quiet_step (skip))
   quiet_step (exact Calls.regrown_of (HHa.out _))
   quiet_step (skip)
   quiet_step (exact Calls.regrown_of (HCa.out _))
   iterate 5 (quiet_step (skip))
   refine wpQuiet_nil ?_
   intro w3 hC
   have hb3:Below wr.heap.size wr w3:=krw.reg_below hC
   have Hb3:=Away.mk hb3
   have hz3:w.heap.size≤w3.heap.size:=Nat.le_trans Hbe.out.size hb3.size
   have Hw:Away (Calls Tryz.prog 91 #[.pointer (some ⟨w.heap.size,0,none⟩),.string Y] w3 fun e w'=>e=.returned (.tuple #[.int .i64 Y.size,.nilIface])∧(Lib.BuilderAt 117 5 w.heap.size w.heap.size (.pointer (some ⟨w.heap.size,0,none⟩)) (Lib.byteCells (cat ByteArray.empty X (r+1)).data.toList) w'∧Below w.heap.size w3 w')):=⟨by
    have hh:=shelfr.writeString w.heap.size w.heap.size (Lib.byteCells (cat ByteArray.empty X r).data.toList) Y w3 (shelfr.builder_later Hbd.out hb3) (by
     rw[Lib.byteCells_length]
     have:=HXs.out
     have:=Hlen.out
     omega) hz3
    rw[show Lib.strCells Y=Lib.byteCells Y.data.toList from rfl,←Lib.byteCells_append,←Hnext.out]at hh
    exact hh⟩
   clear hC hb3 q5
   go_wp2_with fail
   refine Hw.out.mono ?_
   rintro e w4 ⟨rfl,hat,hb4⟩
   have Hat:=Away.mk hat
   have D4:Away (Below w.heap.size w w4):=⟨(Hbe.out.trans (Hb3.out.mono Hbe.out.size)).trans hb4⟩
   clear hat hb4
   go_wp2_with fail
   go_roundw
   case rel=>exact⟨r+1,by have:=Hlt.out;omega,by go_num,⟨Or.inr Hat.out⟩,D4⟩
   case measure=>have:=Hlt.out;simp[intOf];omega
  ·obtain rfl:r=n:=by omega
   have Hst:Away (Calls Tryz.prog 86 #[.pointer (some ⟨w.heap.size,0,none⟩)] wr fun e w'=>e=.returned (.string (cat ByteArray.empty X r))∧Below w.heap.size wr w'):=⟨by
    have hh:=shelfr.toText w.heap.size w.heap.size (cat ByteArray.empty X r).data.toList wr Hbd.out Hbe.out.size
    rw[mk_list]at hh
    exact hh⟩
   rw[HRz.out]at Hst
   clear hlt
   go_wp2_with fail
   refine Hst.out.mono ?_
   rintro e w3 ⟨rfl,hb3⟩
   have D3:Away (Below w.heap.size w w3):=⟨Hbe.out.trans hb3⟩
   clear hb3
   go_wp2_with fail
   go_ret
   exact⟨rfl,D3.out⟩
end Go.Proofs.YtomphjajkkddkaaGreatDoor.mgb
namespace Go.Proofs.YtomphjajkkddkaaGreatDoor.vpd
open Go Go.RowKit
open rndm mlsm
theorem str_eq (x y:ByteArray):(x.toList==y.toList)=decide (y=x):=by
 by_cases h:y=x
 ·rw[decide_eq_true h,h];exact BEq.rfl
 ·rw[decide_eq_false h,beq_eq_false_iff_ne]
  exact fun h2=>h (WideShapes.bytes_inj (by rw[←ByteArray.toList_eq,←ByteArray.toList_eq];exact h2.symm))
theorem us_in (b y x:Int) (hb:b=95232∨b=261888) : 0≤us b y x∧us b y x≤8380416 / (2*b)-1:=by
 have h:=mlsb.hgh_in b x hb
 have hq : 1≤8380416 / (2*b):=by rcases hb with rfl | rfl<;>decide
 have h1:=Int.emod_nonneg (hgh b x+1) (show 8380416 / (2*b)≠0 by omega)
 have h2:=Int.emod_lt_of_pos (hgh b x+1) (show 0<8380416 / (2*b) by omega)
 have h3:=Int.emod_nonneg (hgh b x+8380416 / (2*b)-1) (show 8380416 / (2*b)≠0 by omega)
 have h4:=Int.emod_lt_of_pos (hgh b x+8380416 / (2*b)-1) (show 0<8380416 / (2*b) by omega)
 unfold us
 split
 ·split
  ·exact h
  ·split<;>omega
 ·omega
def row (ζ : Nat→Int) (b:Int) (c wf hf h:Nat→Int):Nat→Int:=fun k=>us b (h k) ((wf k-one ζ c (fun k=>(hf k*8192)%8380417) k)%8380417)
end Go.Proofs.YtomphjajkkddkaaGreatDoor.vpd
namespace Go.Proofs.YtomphjajkkddkaaGreatDoor
namespace ruse
open Go Go.RowKit
open arr mem stil polys polt rndm rpart
theorem us_bad {g:Int} (hg:okg g=false) (h x:Int):us g h x=0:=by unfold us;rw[if_neg (by rw[hg];decide)]
theorem built0:Tryz.prog.built 76 []=some (FL .i64 256 fun _=>0):=by kernel_rfl
theorem use_bad (hf f:Nat→Int) (g:Int) (hg:okg g=false) (w:World):
 Calls Tryz.prog 90 #[.agg (FL .i64 256 hf),.agg (FL .i64 256 f),.int .i64 g] w fun e w'=>e=.returned (.agg (FL .i64 256 fun i=>us g (hf i) (f i)))∧Below w.heap.size w w':=by
 have e0:FL .i64 256 (fun i=>us g (hf i) (f i))=FL .i64 256 fun _=>0:=fl_congr _ _ fun i _=>us_bad hg _ _
 rw[e0]
 clear e0
 obtain⟨hz,hsize⟩:=zero_of_info infoP
 have hb:=built0
 obtain⟨z,HZ⟩:=ex_eq (FL .i64 256 fun _=>0)
 rw[HZ.out]at hz hb
 have Zi:Away ((Tryz.prog.info? 76).map (·.size)=some z.size):=⟨by rw[←HZ.out,fl_size];exact hsize⟩
 have Zo:Away (z.all (·.oneCell')=true):=⟨by rw[←HZ.out];exact fl_one _ _ _⟩
 obtain⟨I,HI⟩:=ex_eq (FL .i64 256 f)
 obtain⟨J,HJ⟩:=ex_eq (FL .i64 256 hf)
 rw[HZ.out,HI.out,HJ.out]
 clear hsize
 have Hb:=Away.mk hb
 clear hb
 have Hg:=gamma_any g
 rw[hg]at Hg
 go_enter Tryz.func90,Tryz.ntmps90
 go_wp2_with fail
 refine(Hg _).mono ?_
 rintro e w1 ⟨rfl,rfl⟩
 obtain⟨W,hW⟩:∃ x,((w.alloc (.cells J 76)).alloc (.cells I 76)).alloc (.cells z 76)=x:=⟨_,rfl⟩
 obtain⟨b0,b1,b2,hWs,hWb⟩:=three hW
 rw[hW]
 clear hW
 go_wp2_with (first
  | (refine wpList_builtC rfl 76 _ rfl z Hb.out ?_)
  | (refine wpList_store_row rfl 76 _ _ rfl (w.heap.size+2) z rfl rfl 76 _ b2 Zi.out rfl Zo.out ?_))
 refine bodyPost_ret_by (v:=.agg z) (results_cell_row rfl _ _ (w.heap.size+2) 76 _ (0,0) _ rfl (setRow_heap _ _ _ _ _ _ b2) Tryz.underlying76 rfl Zi.out) rfl ?_
 exact⟨rfl,hWb.trans (below_setRow _ _ _ (by omega))⟩
theorem use_95232 (hf f:Nat→Int) (w:World):
 Calls Tryz.prog 90 #[.agg (FL .i64 256 hf),.agg (FL .i64 256 f),.int .i64 95232] w fun e w'=>e=.returned (.agg (FL .i64 256 fun i=>us 95232 (hf i) (f i)))∧Below w.heap.size w w':=by
 obtain⟨hz,hsize⟩:=zero_of_info infoP
 obtain⟨z,HZ⟩:=ex_eq (FL .i64 256 fun _=>0)
 rw[HZ.out]at hz
 have Hzs:Away (z.size=256):=⟨by rw[←HZ.out];exact fl_size _ _ _⟩
 obtain⟨F,HF⟩:∃ F:Nat→Int,Away (F=fun i=>us 95232 (hf i) (f i)):=⟨_,⟨rfl⟩⟩
 have HFi:Away (∀ i,F i=us 95232 (hf i) (f i)):=⟨fun i=>by rw[HF.out]⟩
 rw[←HF.out]
 clear HF
 have sz:∀ h:Nat→Int,(Tryz.prog.info? 76).map (·.size)=some (FL .i64 256 h).size:=fun h=>by rw[fl_size];exact hsize
 obtain⟨R,HR⟩:=ex_eq (FL .i64 256 F)
 have Ri:Away ((Tryz.prog.info? 76).map (·.size)=some R.size):=⟨by rw[←HR.out];exact sz _⟩
 have Ro:Away (R.all (·.oneCell')=true):=⟨by rw[←HR.out];exact fl_one _ _ _⟩
 have Rz:Away (z.size=R.size):=⟨by rw[Hzs.out,←HR.out,fl_size]⟩
 obtain⟨I,HI⟩:=ex_eq (FL .i64 256 f)
 have Ii:Away ((Tryz.prog.info? 76).map (·.size)=some I.size):=⟨by rw[←HI.out];exact sz _⟩
 obtain⟨J,HJ⟩:=ex_eq (FL .i64 256 hf)
 rw[HR.out,HI.out,HJ.out]
 clear hsize sz
 have Hg:∀ w1:World,Calls Tryz.prog 103 #[.int .i64 95232] w1 fun e w'=>e=.returned (.bool true)∧w'=w1:=fun w1=>by have h:=gamma_any 95232 w1;rw[okg_a]at h;exact h
 have Hix:Away (∀ (i:Nat),i<256→∀ w1:World,(Instr.index 76 (.agg I) (.int .i64 (i:Int))).run Tryz.prog w1=.ok (.int .i64 (f i)) w1):=⟨fun i hi w1=>by rw[←HI.out];exact index_poly f i hi w1⟩
 have Hpart:=Away.mk parts_any
 go_enter Tryz.func90,Tryz.ntmps90
 go_wp2_with fail
 refine(Hg _).mono ?_
 rintro e w1 ⟨rfl,rfl⟩
 go_wp2_with fail
 clear hz
 obtain⟨W,hW⟩:∃ x,((w.alloc (.cells J 76)).alloc (.cells I 76)).alloc (.cells z 76)=x:=⟨_,rfl⟩
 obtain⟨b0,b1,b2,hWs,hWb⟩:=three hW
 rw[hW]
 clear hW
 have B0:Away (W.heap[w.heap.size]? = some (.cells (FL .i64 256 hf) 76 (0,0))):=⟨by rw[HJ.out];exact b0⟩
 have B1:=Away.mk b1
 have B2:=Away.mk b2
 have HWs:Away (w.heap.size+3≤W.heap.size):=⟨by omega⟩
 have HWb:=Away.mk hWb
 clear hWs hWb b0 b1 b2
 refine wp_load_row 76 _ rfl (w.heap.size+1) rfl 76 I (0,0) _ B1.out Tryz.underlying76 rfl Ii.out ?_
 go_wp2_with fail
 go_loopw [20] (fun v wr=>∃ i:Nat,i≤256∧v=.int .i64 (i:Int)∧Away (At (w.heap.size+1) (FL .i64 256 (pt F f i)) 76 W wr)) (fun v _=>256-(intOf v).toNat)
 case atStart=>exact⟨0,Nat.zero_le _,rfl,⟨by rw[pt_zero,HI.out];exact At.refl B1.out⟩⟩
 case round=>
  obtain⟨i,hi,rfl,A0⟩:=hrel
  by_cases hlt:i<256
  ·have hiz:(i:Int)<256:=by omega
   have hx0:=Hix.out i hlt wr
   obtain⟨x,hx⟩:∃ x,f i=x:=⟨_,rfl⟩
   rw[hx]at hx0
   obtain⟨y,hy⟩:∃ y,hf i=y:=⟨_,rfl⟩
   have cy:wr.cell? ⟨w.heap.size,i,none⟩=some (.int .i64 y):=by rw[←hy];exact fl_at (A0.out.other (by have:=HWs.out;omega) (by omega) B0.out) i hlt
   have HV:Away (F i=us 95232 y x):=⟨by rw[HFi.out,hx,hy]⟩
   have Hp:=Hpart.out x 95232
   have hb:=rndm.parts_95232 x
   have HU0:Away (us 95232 y x=if y=0 then hgh 95232 x else if 0<lw 95232 x then (hgh 95232 x+1)%44 else (hgh 95232 x+44-1)%44):=⟨by unfold us;rw[if_pos okg_a];rfl⟩
   obtain⟨h0,hh0⟩:=ex_eq (hgh 95232 x)
   obtain⟨l0,hl0⟩:=ex_eq (lw 95232 x)
   rw[hh0.out,hl0.out]at Hp HU0 hb
   have hbb:=hb.1
   have hbc:=hb.2.1
   clear hx hy hb hh0 hl0
   by_cases h1:y=0
   ·have h1b:(y==0)=true:=by rw[h1];rfl
    have HU:Away (polys.upd (pt F f i) i h0=pt F f (i+1)):=⟨pt_upd F f i h0 (by rw[HV.out,HU0.out,if_pos h1])⟩
    clear h1 HV HU0 hbb hbc
    go_wp2_with fail
    refine(Hp _).mono ?_
    rintro e wx ⟨rfl,rfl⟩
    go_wp2_with ((with_reducible refine wpList_put2 A0 rfl _ _ _ rfl rfl ?_);refine⟨_,_,_,rfl,rfl,rfl,by rw[fl_size];exact hlt,?_⟩;intro wn A2;rw[fl_set,HU.out]at A2)
    go_roundw
    case rel=>exact⟨i+1,by omega,by go_num,A2⟩
    case measure=>simp[intOf];omega
   ·have h1b:(y==0)=false:=beq_eq_false_iff_ne.2 h1
    by_cases h2 : 0<l0
    ·obtain⟨n,hn⟩:∃ n,h0+1=n:=⟨_,rfl⟩
     have f1:IntKind.i64.wrap (h0+1)=n:=by rw[IntKind.wrap_i64];omega
     obtain⟨v,hv⟩:∃ v,n%44=v:=⟨_,rfl⟩
     have f2:n.tmod 44=v:=by rw[Int.tmod_eq_emod_of_nonneg (by omega)];exact hv
     have f4:n%44=v:=hv
     have f3:IntKind.i64.wrap v=v:=by rw[IntKind.wrap_i64];omega
     have HU:Away (polys.upd (pt F f i) i v=pt F f (i+1)):=⟨pt_upd F f i v (by rw[HV.out,HU0.out,if_neg h1,if_pos h2,hn,hv])⟩
     have hn0 : 0≤n:=by omega
     clear h1 HV HU0 hbb hbc hn hv
     go_wp2_with fail
     refine(Hp _).mono ?_
     rintro e wx ⟨rfl,rfl⟩
     go_wp2_with ((with_reducible refine wpList_put2 A0 rfl _ _ _ rfl rfl ?_);refine⟨_,_,_,rfl,rfl,rfl,by rw[fl_size];exact hlt,?_⟩;intro wn A2;rw[fl_set,HU.out]at A2)
     go_roundw
     case rel=>exact⟨i+1,by omega,by go_num,A2⟩
     case measure=>simp[intOf];omega
    ·obtain⟨m,hm⟩:∃ m,h0+44=m:=⟨_,rfl⟩
     have f0:IntKind.i64.wrap (h0+44)=m:=by rw[IntKind.wrap_i64];omega
     obtain⟨n,hn⟩:∃ n,m-1=n:=⟨_,rfl⟩
     have f1:IntKind.i64.wrap (m-1)=n:=by rw[IntKind.wrap_i64];omega
     obtain⟨v,hv⟩:∃ v,n%44=v:=⟨_,rfl⟩
     have f2:n.tmod 44=v:=by rw[Int.tmod_eq_emod_of_nonneg (by omega)];exact hv
     have f4:n%44=v:=hv
     have f3:IntKind.i64.wrap v=v:=by rw[IntKind.wrap_i64];omega
     have HU:Away (polys.upd (pt F f i) i v=pt F f (i+1)):=⟨pt_upd F f i v (by rw[HV.out,HU0.out,if_neg h1,if_neg h2,hm,hn,hv])⟩
     have hn0 : 0≤n:=by omega
     clear h1 HV HU0 hbb hbc hn hv hm
     go_wp2_with fail
     refine(Hp _).mono ?_
     rintro e wx ⟨rfl,rfl⟩
     go_wp2_with ((with_reducible refine wpList_put2 A0 rfl _ _ _ rfl rfl ?_);refine⟨_,_,_,rfl,rfl,rfl,by rw[fl_size];exact hlt,?_⟩;intro wn A2;rw[fl_set,HU.out]at A2)
     go_roundw
     case rel=>exact⟨i+1,by omega,by go_num,A2⟩
     case measure=>simp[intOf];omega
  ·obtain rfl:i=256:=by omega
   simp only[Int.cast_ofNat_Int]
   rw[fl_all,HR.out]at A0
   have Hrow:=Away.mk A0.out.row
   have Hres:Away (wr.heap[w.heap.size+2]? = some (.cells z 76 (0,0))):=⟨A0.out.other (by have:=HWs.out;omega) (by omega) B2.out⟩
   have HB:Away (Below w.heap.size w wr):=⟨HWb.out.trans (A0.out.below (by have:=HWs.out;omega) (by omega))⟩
   clear A0
   go_wp2_with (first
    | (refine wpList_load_row rfl 76 _ rfl (w.heap.size+1) rfl 76 R (0,0) _ Hrow.out Tryz.underlying76 rfl Ri.out ?_)
    | (refine wpList_store_row rfl 76 _ _ rfl (w.heap.size+2) R rfl rfl 76 _ Hres.out Ri.out Rz.out Ro.out ?_))
   refine bodyPost_ret_by (v:=.agg R) (results_cell_row rfl _ _ (w.heap.size+2) 76 _ (0,0) _ rfl (setRow_heap _ _ _ _ _ _ Hres.out) Tryz.underlying76 rfl Ri.out) rfl ?_
   exact⟨rfl,HB.out.trans (below_setRow _ _ _ (by omega))⟩
theorem use_261888 (hf f:Nat→Int) (w:World):
 Calls Tryz.prog 90 #[.agg (FL .i64 256 hf),.agg (FL .i64 256 f),.int .i64 261888] w fun e w'=>e=.returned (.agg (FL .i64 256 fun i=>us 261888 (hf i) (f i)))∧Below w.heap.size w w':=by
 obtain⟨hz,hsize⟩:=zero_of_info infoP
 obtain⟨z,HZ⟩:=ex_eq (FL .i64 256 fun _=>0)
 rw[HZ.out]at hz
 have Hzs:Away (z.size=256):=⟨by rw[←HZ.out];exact fl_size _ _ _⟩
 obtain⟨F,HF⟩:∃ F:Nat→Int,Away (F=fun i=>us 261888 (hf i) (f i)):=⟨_,⟨rfl⟩⟩
 have HFi:Away (∀ i,F i=us 261888 (hf i) (f i)):=⟨fun i=>by rw[HF.out]⟩
 rw[←HF.out]
 clear HF
 have sz:∀ h:Nat→Int,(Tryz.prog.info? 76).map (·.size)=some (FL .i64 256 h).size:=fun h=>by rw[fl_size];exact hsize
 obtain⟨R,HR⟩:=ex_eq (FL .i64 256 F)
 have Ri:Away ((Tryz.prog.info? 76).map (·.size)=some R.size):=⟨by rw[←HR.out];exact sz _⟩
 have Ro:Away (R.all (·.oneCell')=true):=⟨by rw[←HR.out];exact fl_one _ _ _⟩
 have Rz:Away (z.size=R.size):=⟨by rw[Hzs.out,←HR.out,fl_size]⟩
 obtain⟨I,HI⟩:=ex_eq (FL .i64 256 f)
 have Ii:Away ((Tryz.prog.info? 76).map (·.size)=some I.size):=⟨by rw[←HI.out];exact sz _⟩
 obtain⟨J,HJ⟩:=ex_eq (FL .i64 256 hf)
 rw[HR.out,HI.out,HJ.out]
 clear hsize sz
 have Hg:∀ w1:World,Calls Tryz.prog 103 #[.int .i64 261888] w1 fun e w'=>e=.returned (.bool true)∧w'=w1:=fun w1=>by have h:=gamma_any 261888 w1;rw[okg_b]at h;exact h
 have Hix:Away (∀ (i:Nat),i<256→∀ w1:World,(Instr.index 76 (.agg I) (.int .i64 (i:Int))).run Tryz.prog w1=.ok (.int .i64 (f i)) w1):=⟨fun i hi w1=>by rw[←HI.out];exact index_poly f i hi w1⟩
 have Hpart:=Away.mk parts_any
 go_enter Tryz.func90,Tryz.ntmps90
 go_wp2_with fail
 refine(Hg _).mono ?_
 rintro e w1 ⟨rfl,rfl⟩
 go_wp2_with fail
 clear hz
 obtain⟨W,hW⟩:∃ x,((w.alloc (.cells J 76)).alloc (.cells I 76)).alloc (.cells z 76)=x:=⟨_,rfl⟩
 obtain⟨b0,b1,b2,hWs,hWb⟩:=three hW
 rw[hW]
 clear hW
 have B0:Away (W.heap[w.heap.size]? = some (.cells (FL .i64 256 hf) 76 (0,0))):=⟨by rw[HJ.out];exact b0⟩
 have B1:=Away.mk b1
 have B2:=Away.mk b2
 have HWs:Away (w.heap.size+3≤W.heap.size):=⟨by omega⟩
 have HWb:=Away.mk hWb
 clear hWs hWb b0 b1 b2
 refine wp_load_row 76 _ rfl (w.heap.size+1) rfl 76 I (0,0) _ B1.out Tryz.underlying76 rfl Ii.out ?_
 go_wp2_with fail
 go_loopw [20] (fun v wr=>∃ i:Nat,i≤256∧v=.int .i64 (i:Int)∧Away (At (w.heap.size+1) (FL .i64 256 (pt F f i)) 76 W wr)) (fun v _=>256-(intOf v).toNat)
 case atStart=>exact⟨0,Nat.zero_le _,rfl,⟨by rw[pt_zero,HI.out];exact At.refl B1.out⟩⟩
 case round=>
  obtain⟨i,hi,rfl,A0⟩:=hrel
  by_cases hlt:i<256
  ·have hiz:(i:Int)<256:=by omega
   have hx0:=Hix.out i hlt wr
   obtain⟨x,hx⟩:∃ x,f i=x:=⟨_,rfl⟩
   rw[hx]at hx0
   obtain⟨y,hy⟩:∃ y,hf i=y:=⟨_,rfl⟩
   have cy:wr.cell? ⟨w.heap.size,i,none⟩=some (.int .i64 y):=by rw[←hy];exact fl_at (A0.out.other (by have:=HWs.out;omega) (by omega) B0.out) i hlt
   have HV:Away (F i=us 261888 y x):=⟨by rw[HFi.out,hx,hy]⟩
   have Hp:=Hpart.out x 261888
   have hb:=rndm.parts_261888 x
   have HU0:Away (us 261888 y x=if y=0 then hgh 261888 x else if 0<lw 261888 x then (hgh 261888 x+1)%16 else (hgh 261888 x+16-1)%16):=⟨by unfold us;rw[if_pos okg_b];rfl⟩
   obtain⟨h0,hh0⟩:=ex_eq (hgh 261888 x)
   obtain⟨l0,hl0⟩:=ex_eq (lw 261888 x)
   rw[hh0.out,hl0.out]at Hp HU0 hb
   have hbb:=hb.1
   have hbc:=hb.2.1
   clear hx hy hb hh0 hl0
   by_cases h1:y=0
   ·have h1b:(y==0)=true:=by rw[h1];rfl
    have HU:Away (polys.upd (pt F f i) i h0=pt F f (i+1)):=⟨pt_upd F f i h0 (by rw[HV.out,HU0.out,if_pos h1])⟩
    clear h1 HV HU0 hbb hbc
    go_wp2_with fail
    refine(Hp _).mono ?_
    rintro e wx ⟨rfl,rfl⟩
    go_wp2_with ((with_reducible refine wpList_put2 A0 rfl _ _ _ rfl rfl ?_);refine⟨_,_,_,rfl,rfl,rfl,by rw[fl_size];exact hlt,?_⟩;intro wn A2;rw[fl_set,HU.out]at A2)
    go_roundw
    case rel=>exact⟨i+1,by omega,by go_num,A2⟩
    case measure=>simp[intOf];omega
   ·have h1b:(y==0)=false:=beq_eq_false_iff_ne.2 h1
    by_cases h2 : 0<l0
    ·obtain⟨n,hn⟩:∃ n,h0+1=n:=⟨_,rfl⟩
     have f1:IntKind.i64.wrap (h0+1)=n:=by rw[IntKind.wrap_i64];omega
     obtain⟨v,hv⟩:∃ v,n%16=v:=⟨_,rfl⟩
     have f2:n.tmod 16=v:=by rw[Int.tmod_eq_emod_of_nonneg (by omega)];exact hv
     have f4:n%16=v:=hv
     have f3:IntKind.i64.wrap v=v:=by rw[IntKind.wrap_i64];omega
     have HU:Away (polys.upd (pt F f i) i v=pt F f (i+1)):=⟨pt_upd F f i v (by rw[HV.out,HU0.out,if_neg h1,if_pos h2,hn,hv])⟩
     have hn0 : 0≤n:=by omega
     clear h1 HV HU0 hbb hbc hn hv
     go_wp2_with fail
     refine(Hp _).mono ?_
     rintro e wx ⟨rfl,rfl⟩
     go_wp2_with ((with_reducible refine wpList_put2 A0 rfl _ _ _ rfl rfl ?_);refine⟨_,_,_,rfl,rfl,rfl,by rw[fl_size];exact hlt,?_⟩;intro wn A2;rw[fl_set,HU.out]at A2)
     go_roundw
     case rel=>exact⟨i+1,by omega,by go_num,A2⟩
     case measure=>simp[intOf];omega
    ·obtain⟨m,hm⟩:∃ m,h0+16=m:=⟨_,rfl⟩
     have f0:IntKind.i64.wrap (h0+16)=m:=by rw[IntKind.wrap_i64];omega
     obtain⟨n,hn⟩:∃ n,m-1=n:=⟨_,rfl⟩
     have f1:IntKind.i64.wrap (m-1)=n:=by rw[IntKind.wrap_i64];omega
     obtain⟨v,hv⟩:∃ v,n%16=v:=⟨_,rfl⟩
     have f2:n.tmod 16=v:=by rw[Int.tmod_eq_emod_of_nonneg (by omega)];exact hv
     have f4:n%16=v:=hv
     have f3:IntKind.i64.wrap v=v:=by rw[IntKind.wrap_i64];omega
     have HU:Away (polys.upd (pt F f i) i v=pt F f (i+1)):=⟨pt_upd F f i v (by rw[HV.out,HU0.out,if_neg h1,if_neg h2,hm,hn,hv])⟩
     have hn0 : 0≤n:=by omega
     clear h1 HV HU0 hbb hbc hn hv hm
     go_wp2_with fail
     refine(Hp _).mono ?_
     rintro e wx ⟨rfl,rfl⟩
     go_wp2_with ((with_reducible refine wpList_put2 A0 rfl _ _ _ rfl rfl ?_);refine⟨_,_,_,rfl,rfl,rfl,by rw[fl_size];exact hlt,?_⟩;intro wn A2;rw[fl_set,HU.out]at A2)
     go_roundw
     case rel=>exact⟨i+1,by omega,by go_num,A2⟩
     case measure=>simp[intOf];omega
  ·obtain rfl:i=256:=by omega
   simp only[Int.cast_ofNat_Int]
   rw[fl_all,HR.out]at A0
   have Hrow:=Away.mk A0.out.row
   have Hres:Away (wr.heap[w.heap.size+2]? = some (.cells z 76 (0,0))):=⟨A0.out.other (by have:=HWs.out;omega) (by omega) B2.out⟩
   have HB:Away (Below w.heap.size w wr):=⟨HWb.out.trans (A0.out.below (by have:=HWs.out;omega) (by omega))⟩
   clear A0
   go_wp2_with (first
    | (refine wpList_load_row rfl 76 _ rfl (w.heap.size+1) rfl 76 R (0,0) _ Hrow.out Tryz.underlying76 rfl Ri.out ?_)
    | (refine wpList_store_row rfl 76 _ _ rfl (w.heap.size+2) R rfl rfl 76 _ Hres.out Ri.out Rz.out Ro.out ?_))
   refine bodyPost_ret_by (v:=.agg R) (results_cell_row rfl _ _ (w.heap.size+2) 76 _ (0,0) _ rfl (setRow_heap _ _ _ _ _ _ Hres.out) Tryz.underlying76 rfl Ri.out) rfl ?_
   exact⟨rfl,HB.out.trans (below_setRow _ _ _ (by omega))⟩
theorem use_any (hf f:Nat→Int) (g:Int) (w:World):
 Calls Tryz.prog 90 #[.agg (FL .i64 256 hf),.agg (FL .i64 256 f),.int .i64 g] w fun e w'=>e=.returned (.agg (FL .i64 256 fun i=>us g (hf i) (f i)))∧Below w.heap.size w w':=by
 cases h:okg g
 ·exact use_bad hf f g h w
 ·rcases okg_of h with rfl | rfl
  ·exact use_95232 hf f w
  ·exact use_261888 hf f w
end ruse
end Go.Proofs.YtomphjajkkddkaaGreatDoor
namespace Go.Proofs.YtomphjajkkddkaaGreatDoor
namespace fsub
open Go Go.RowKit
open arr mem stil polys polt fldm fld1
theorem sub_any (f g:Nat→Int) (w:World):
 Calls Tryz.prog 88 #[.agg (FL .i64 256 f),.agg (FL .i64 256 g)] w fun e w'=>e=.returned (.agg (FL .i64 256 fun i=>(f i-g i)%8380417))∧Below w.heap.size w w':=by
 obtain⟨hz,hsize⟩:=zero_of_info infoP
 obtain⟨z,HZ⟩:=ex_eq (FL .i64 256 fun _=>0)
 rw[HZ.out]at hz
 have Hzs:Away (z.size=256):=⟨by rw[←HZ.out];exact fl_size _ _ _⟩
 obtain⟨F,HF⟩:∃ F:Nat→Int,Away (F=fun i=>(f i-g i)%8380417):=⟨_,⟨rfl⟩⟩
 have hFi:∀ i,F i=(fun i=>(f i-g i)%8380417) i:=fun i=>by rw[HF.out]
 have HFi:=Away.mk hFi
 rw[←HF.out]
 clear HF hFi
 obtain⟨R,HR⟩:=ex_eq (FL .i64 256 F)
 have Ri:Away ((Tryz.prog.info? 76).map (·.size)=some R.size):=⟨by rw[←HR.out,fl_size];exact hsize⟩
 have Ro:Away (R.all (·.oneCell')=true):=⟨by rw[←HR.out];exact fl_one _ _ _⟩
 have Rz:Away (z.size=R.size):=⟨by rw[Hzs.out,←HR.out,fl_size]⟩
 rw[HR.out]
 have Hred:=Away.mk reduce_any
 clear hsize
 go_enter Tryz.func88,Tryz.ntmps88
 go_wp2_with fail
 clear hz
 obtain⟨W,hW⟩:∃ x,((w.alloc (.cells (FL .i64 256 f) 76)).alloc (.cells (FL .i64 256 g) 76)).alloc (.cells z 76)=x:=⟨_,rfl⟩
 obtain⟨b0,b1,b2,hWs,hWb⟩:=three hW
 rw[hW]
 clear hW
 have B0:=Away.mk b0
 have B1:=Away.mk b1
 have BR:=Away.mk b2
 have HWs:Away (w.heap.size+3≤W.heap.size):=⟨by omega⟩
 have HWb:=Away.mk hWb
 clear hWs hWb b0 b1 b2
 go_loopw [6] (fun v wr=>∃ i:Nat,i≤256∧v=.int .i64 (i:Int)∧Away (At w.heap.size (FL .i64 256 (pt F f i)) 76 W wr)) (fun v _=>256-(intOf v).toNat)
 case atStart=>exact⟨0,Nat.zero_le _,rfl,⟨by rw[pt_zero];exact At.refl B0.out⟩⟩
 case round=>
  obtain⟨i,hi,rfl,A0⟩:=hrel
  by_cases hlt:i<256
  ·have hiz:(i:Int)<256:=by omega
   obtain⟨x,hx⟩:∃ x,f i=x:=⟨_,rfl⟩
   have ca:wr.cell? ⟨w.heap.size,i,none⟩=some (.int .i64 x):=by
    have h9:=fl_at A0.out.row i hlt
    rw[pt_at,hx]at h9
    exact h9
   obtain⟨y,hy⟩:∃ y,g i=y:=⟨_,rfl⟩
   have cb:wr.cell? ⟨w.heap.size+1,i,none⟩=some (.int .i64 y):=by
    rw[←hy]
    exact fl_at (A0.out.other (by have:=HWs.out;omega) (by omega) B1.out) i hlt
   have HV:Away (F i=(x-y)%8380417):=⟨by rw[HFi.out,hx,hy]⟩
   obtain⟨x1,hx1⟩:=ex_eq (x%8380417)
   obtain⟨y1,hy1⟩:=ex_eq (y%8380417)
   have hs:IntKind.i64.wrap (x1-y1)=x1-y1:=by rw[←hx1.out,←hy1.out,IntKind.wrap_i64];omega
   obtain⟨s,hs1⟩:=ex_eq (x1-y1)
   have hs2:s%8380417=F i:=by rw[HV.out,←hs1.out,←hx1.out,←hy1.out];omega
   obtain⟨v,hv⟩:=ex_eq (s%8380417)
   have Hx:∀ w1:World,Calls Tryz.prog 137 #[.int .i64 x] w1 fun e w'=>e=.returned (.int .i64 x1)∧w'=w1:=fun w1=>by rw[←hx1.out];exact reduce_any x w1
   have Hy:∀ w1:World,Calls Tryz.prog 137 #[.int .i64 y] w1 fun e w'=>e=.returned (.int .i64 y1)∧w'=w1:=fun w1=>by rw[←hy1.out];exact reduce_any y w1
   have Hs:∀ w1:World,Calls Tryz.prog 137 #[.int .i64 (x1-y1)] w1 fun e w'=>e=.returned (.int .i64 v)∧w'=w1:=fun w1=>by rw[hs1.out,←hv.out];exact reduce_any s w1
   have HU:Away (upd (pt F f i) i v=pt F f (i+1)):=⟨pt_upd F f i v (by rw[←hv.out,hs2])⟩
   clear hy hs2
   clear hx
   go_wp2_with fail
   refine still_tail 12 (by kernel_rfl) (by kernel_rfl) ?_
   simp only[List.take_succ_cons,List.take_zero,List.drop_succ_cons,List.drop_zero]
   repeat still_step
   still_call (Hx _)
   repeat still_step
   still_call (Hy _)
   repeat still_step
   still_call (Hs _)
   repeat still_step
   refine wpStill_nil ?_
   clear cb
   clear ca
   have A1:Away (At w.heap.size (FL .i64 256 (pt F f i)) 76 W wr.drew):=⟨at_drew A0.out⟩
   clear A0
   with_reducible refine wpList_put2 A1 rfl _ _ _ rfl rfl ?_
   refine⟨_,_,_,rfl,rfl,rfl,by rw[fl_size];exact hlt,?_⟩
   intro wn HR
   rw[fl_set,HU.out]at HR
   go_wp2_with fail
   go_roundw
   case rel=>exact⟨i+1,by omega,by go_num,HR⟩
   case measure=>simp[intOf];omega
  ·obtain rfl:i=256:=by omega
   simp only[Int.cast_ofNat_Int]
   rw[fl_all,HR.out]at A0
   have Hrow:=Away.mk A0.out.row
   have Hres:Away (wr.heap[w.heap.size+2]? = some (.cells z 76 (0,0))):=⟨A0.out.other (by have:=HWs.out;omega) (by omega) BR.out⟩
   have HB:Away (Below w.heap.size w wr):=⟨HWb.out.trans (A0.out.below (by have:=HWs.out;omega) (Nat.le_refl _))⟩
   clear A0
   go_wp2_with (first
    | (refine wpList_load_row rfl 76 _ rfl w.heap.size rfl 76 R (0,0) _ Hrow.out Tryz.underlying76 rfl Ri.out ?_)
    | (refine wpList_store_row rfl 76 _ _ rfl (w.heap.size+2) R rfl rfl 76 _ Hres.out Ri.out Rz.out Ro.out ?_))
   refine bodyPost_ret_by (v:=.agg R) (results_cell_row rfl _ _ (w.heap.size+2) 76 _ (0,0) _ rfl (setRow_heap _ _ _ _ _ _ Hres.out) Tryz.underlying76 rfl Ri.out) rfl ?_
   exact⟨rfl,HB.out.trans (below_setRow _ _ _ (by omega))⟩
end fsub
end Go.Proofs.YtomphjajkkddkaaGreatDoor
namespace Go.Proofs.YtomphjajkkddkaaGreatDoor
namespace pvar
open Go Go.RowKit
open arr mem polys polt vary varyn
theorem allocP (ρ : Operand→Value) (o:Oper) (w1:World) (ho:o.op=.alloc 76):(execOp ρ o).run Tryz.prog w1=.ok (.value (ptr w1.heap.size)) (w1.alloc (.cells (FL .i64 256 fun _=>0) 76)):=by
 obtain⟨hz,-⟩:=zero_of_info infoP
 generalize (FL .i64 256 fun _=>0)=z at hz ⊢
 unfold execOp
 simp only[ho]
 go_simp
 rfl
def vrP (m s ke d e:Nat):Vr:=⟨m,s,ke,d,e,76,FL .i64 256 fun _=>0⟩
theorem fitsP (f:Nat→Int):Fits Tryz.prog 76 (FL .i64 256 fun _=>0) (FL .i64 256 f):=⟨by rw[fl_size];exact(zero_of_info infoP).2,by rw[fl_size,fl_size],fl_one _ _ _⟩
theorem built0:Tryz.prog.built 76 []=some (FL .i64 256 fun _=>0):=by kernel_rfl
end pvar
end Go.Proofs.YtomphjajkkddkaaGreatDoor
namespace Go.Proofs.YtomphjajkkddkaaGreatDoor.vpb
set_option linter.unusedSimpArgs false
open Go Go.RowKit
open arr mem stil polys polt pols nttl rndm saml spok rsdoc mlkm mlkb mlsm keca kstep kturn rkpb rkrw qrow rbita rbitb rbitd rbite rbitf rbitg bitp vary varyn varye pvar qops mgb vpd
theorem scope_jumps1 {P:Program} {a:Act} {w:World} {Q:Exit→Act→World→Prop} {c y:Code} (l:Nat) (J:Act→World→Prop) (μ : Act→World→Nat) (hf:findLabel c l=some (.seq .skip y))
 (first:(∀ a w,J a w→y.wp P (Exit.jump l J Q) a w)→c.wp P (Exit.jump l J Q) a w)
 (pass:∀ a w,J a w→y.wp P (Exit.jump l (fun a' w'=>J a' w' ∧ μ a' w' < μ a w) Q) a w):(Code.scope c).wp P Q a w:=
 wp_scope_jumps l J μ hf (first fun a w h=>wp_mono (pass a w h) fun e a' w' hq=>by
  cases e with
  | goto l'=>exact⟨hq.1,hq.2.1⟩
  | _=>exact hq) fun a w h=>wp_seq (wp_skip (pass a w h))
theorem corrected_any {T:Array Value} (Z:Nat→Int) (gt n:Nat) (b:Int) (vw vk vh:Value) (Bw Bk Bh:Nat) (wf kf hf:Nat→Nat→Int) (c:Nat→Int) (w:World) (hT:nthere.ZT T Z) (hb:b=95232∨b=261888) (hn : 1≤n∧n≤8) (hrow:w.heap[gt]? = some (.cells T 34 (0,0))) (HWv:Holds w Bw vw n wf) (HKv:Holds w Bk vk n kf) (HHv:Holds w Bh vh n hf):
 Calls Tryz.prog 35 #[.pointer (some ⟨gt,0,none⟩),.int .i64 b,vw,vk,vh,.agg (FL .i64 256 c)] w fun e w'=>e=.returned (.string (cat ByteArray.empty (fun i=>packed (row (fun k=>Z k%8380417) b c (wf i) (kf i) (hf i)) (8380416 / (2*b)-1)) n))∧Below w.heap.size w w':=by
 obtain⟨m,hm⟩:∃ m:Int,(8380416:Int) / (2*b)-1=m:=⟨_,rfl⟩
 have hm2 : 1≤m∧m<8380417:=by rcases hb with rfl | rfl<;>omega
 obtain⟨ζ,hζ⟩:∃ ζ : Nat→Int,(fun k=>Z k%8380417) = ζ := ⟨_,rfl⟩
 rw[hζ]
 obtain⟨X,hX⟩:=ex_eq (fun i=>packed (row ζ b c (wf i) (kf i) (hf i)) m)
 have HX:Away (∀ i,i<n→(X i).size≤1000):=⟨fun i _=>by rw[←hX.out,size_packed,←hm];rcases hb with rfl | rfl<;>decide +kernel⟩
 rw[hm,hX.out]
 obtain⟨hz,hsize⟩:=zero_of_info polt.infoP
 have Hsize:=Away.mk hsize
 have HTz:Away ((Tryz.prog.info? 34).map (·.size)=some T.size):=⟨by rw[hT.size];kernel_rfl⟩
 obtain⟨gw,cw,hv1,hgw⟩:=hd_any HWv
 subst hv1
 obtain⟨gk,ck,hv2,hgk⟩:=hd_any HKv
 subst hv2
 obtain⟨gh,ch,hv3,hgh'⟩:=hd_any HHv
 subst hv3
 have HTc:Away (∀ w1:World,Calls Tryz.prog 79 #[.agg T,.agg (FL .i64 256 c)] w1 fun e w'=>e=.returned (.agg (FL .i64 256 (thereR ζ 8 c)))∧Below w1.heap.size w1 w'):=⟨fun w1=>by rw[←hζ];exact nthere.there_any T Z c w1 hT⟩
 have HSc:Away (∀ i,∀ w1:World,Calls Tryz.prog 87 #[.agg (FL .i64 256 (kf i)),.int .i64 8192] w1 fun e w'=>e=.returned (.agg (FL .i64 256 fun k=>(kf i k*8192)%8380417))∧Below w1.heap.size w1 w'):=⟨fun i w1=>fscale.scale_any _ _ w1⟩
 have HTr:Away (∀ i,∀ w1:World,Calls Tryz.prog 79 #[.agg T,.agg (FL .i64 256 fun k=>(kf i k*8192)%8380417)] w1 fun e w'=>e=.returned (.agg (FL .i64 256 (thereR ζ 8 fun k=>(kf i k*8192)%8380417)))∧Below w1.heap.size w1 w'):=⟨fun i w1=>by rw[←hζ];exact nthere.there_any T Z _ w1 hT⟩
 have HTm:Away (∀ i,∀ w1:World,Calls Tryz.prog 81 #[.agg (FL .i64 256 (thereR ζ 8 c)),.agg (FL .i64 256 (thereR ζ 8 fun k=>(kf i k*8192)%8380417))] w1 fun e w'=>e=.returned (.agg (FL .i64 256 fun k=>(thereR ζ 8 c k*thereR ζ 8 (fun k=>(kf i k*8192)%8380417) k)%8380417))∧Below w1.heap.size w1 w'):=⟨fun i w1=>ntimes.times_any _ _ w1⟩
 have HBk:Away (∀ i,∀ w1:World,Calls Tryz.prog 82 #[.agg T,.agg (FL .i64 256 fun k=>(thereR ζ 8 c k*thereR ζ 8 (fun k=>(kf i k*8192)%8380417) k)%8380417)] w1 fun e w'=>e=.returned (.agg (FL .i64 256 (one ζ c fun k=>(kf i k*8192)%8380417)))∧Below w1.heap.size w1 w'):=⟨fun i w1=>by have h1:=nback.back_any T Z (fun k=>(thereR ζ 8 c k*thereR ζ 8 (fun k=>(kf i k*8192)%8380417) k)%8380417) w1 hT;rw[hζ]at h1;exact h1⟩
 have HSu:Away (∀ i,∀ w1:World,Calls Tryz.prog 88 #[.agg (FL .i64 256 (wf i)),.agg (FL .i64 256 (one ζ c fun k=>(kf i k*8192)%8380417))] w1 fun e w'=>e=.returned (.agg (FL .i64 256 fun k=>(wf i k-one ζ c (fun k=>(kf i k*8192)%8380417) k)%8380417))∧Below w1.heap.size w1 w'):=⟨fun i w1=>fsub.sub_any _ _ w1⟩
 have HUs:Away (∀ i,∀ w1:World,Calls Tryz.prog 90 #[.agg (FL .i64 256 (hf i)),.agg (FL .i64 256 fun k=>(wf i k-one ζ c (fun k=>(kf i k*8192)%8380417) k)%8380417),.int .i64 b] w1 fun e w'=>e=.returned (.agg (FL .i64 256 (row ζ b c (wf i) (kf i) (hf i))))∧Below w1.heap.size w1 w'):=⟨fun i w1=>ruse.use_any _ _ b w1⟩
 have HPk:Away (∀ i,∀ w1:World,Calls Tryz.prog 89 #[.agg (FL .i64 256 (row ζ b c (wf i) (kf i) (hf i))),.int .i64 m] w1 fun e w'=>e=.returned (.tuple #[.string (X i),.int .i64 0])∧Below w1.heap.size w1 w'):=⟨fun i w1=>by
  have h1:=ppack.pack_any (row ζ b c (wf i) (kf i) (hf i)) m w1 hm2.1 hm2.2
  rw[if_pos (show inb (row ζ b c (wf i) (kf i) (hf i)) m from fun k _=>by rw[←hm];exact us_in b _ _ hb)]at h1
  rw[←hX.out]
  exact h1⟩
 have Hcs:Away (∀ r,r≤n→(cat ByteArray.empty X r).data.toList.length≤1000*r):=⟨fun r hr=>by
  induction r with
  | zero=>exact Nat.zero_le _
  | succ r ih=>
   have h1:=ih (by omega)
   have h2:=HX.out r (by omega)
   rw[cat_list,List.length_append]
   have h3:(X r).data.toList.length=(X r).size:=rfl
   omega⟩
 have hb1 : 95232≤b∧b≤261888:=by omega
 obtain⟨d,hd⟩:∃ d:Int,2*b=d:=⟨_,rfl⟩
 have hd1 : 190464≤d:=by omega
 have hd2:d≤523776:=by omega
 have hdw:IntKind.i64.wrap (2*b)=d:=by rw[IntKind.wrap_i64];omega
 obtain⟨q,hq⟩:∃ q:Int,(8380416:Int) / d=q:=⟨_,rfl⟩
 have hqt:Int.tdiv 8380416 d=q:=by rw[Int.tdiv_eq_ediv_of_nonneg (by decide)];exact hq
 have hqm:q-1=m:=by rw[←hm,←hq,←hd]
 have hqw:IntKind.i64.wrap (q-1)=m:=by rw[hqm,IntKind.wrap_i64];omega
 have hq2 : 1≤q∧q≤100:=by rw[←hq,←hd];rcases hb with rfl | rfl<;>decide
 clear hX hb hm hm2
 obtain⟨Rz,HRz⟩:=ex_eq (cat ByteArray.empty X n)
 rw[HRz.out]
 obtain⟨C0,HC0⟩:=ex_eq (FL .i64 256 c)
 obtain⟨C8,HC8⟩:=ex_eq (FL .i64 256 (thereR ζ 8 c))
 rw[HC0.out,HC8.out]at HTc
 rw[HC8.out]at HTm
 have C0i:Away ((Tryz.prog.info? 76).map (·.size)=some C0.size):=⟨by rw[←HC0.out,fl_size];exact hsize⟩
 have C8i:Away ((Tryz.prog.info? 76).map (·.size)=some C8.size):=⟨by rw[←HC8.out,fl_size];exact hsize⟩
 have C8o:Away (C8.all (·.oneCell')=true):=⟨by rw[←HC8.out];exact fl_one _ _ _⟩
 have C08:Away (C0.size=C8.size):=⟨by rw[←HC0.out,←HC8.out,fl_size,fl_size]⟩
 rw[HC0.out]
 obtain⟨W,hW⟩:∃ x,w.alloc (.cells C0 76)=x:=⟨_,rfl⟩
 obtain⟨r0,hWs,b0⟩:=one hW
 have TW:Away (W.heap[gt]? = some (.cells T 34 (0,0))):=⟨(b0.block _ (lt_of_row hrow)).trans hrow⟩
 have R0:=Away.mk r0
 have B0:=Away.mk b0
 have HWs:=Away.mk hWs
 have HW:=Away.mk hW
 have Hrow:=Away.mk hrow
 have HWv:=Away.mk HWv
 have HKv:=Away.mk HKv
 have HHv:=Away.mk HHv
 have Hgw:=Away.mk hgw
 have Hgk:=Away.mk hgk
 have Hgh:=Away.mk hgh'
 have hn8:=hn.2
 obtain⟨J,HJ⟩:∃ J:Act→World→Prop,Away (J=fun a' w'=>∃ (r gb:Nat) (W3:World) (u5 u6 u7 u8 u9 u10 u12 u16 u17 u18 u19 u20 u21 u22 u23 u24 u25 u26 u27 u28 u29 u30 u31 u32 u33 u34 u35 u36 u37 u38 u39 u40 u41 u42 u43 u44 u45 u46 u47 u48 u49 u50 u51 u52 u53 u54 u55 u56 u57 u58 u59 u60 u61 u62 u63 u64 u65 u66 u67 u68 u69 u70:Value),a' = { tmps:=#[.pointer (some ⟨gt,0,none⟩),.int .i64 b,.slice (some ⟨gw,0,none⟩) n cw,.slice (some ⟨gk,0,none⟩) n ck,.slice (some ⟨gh,0,none⟩) n ch,u5,u6,u7,u8,u9,u10,.pointer (some ⟨w.heap.size,0,none⟩),u12,.int .i64 m,.pointer (some ⟨gb,0,none⟩),.int .i64 (r:Int),u16,u17,u18,u19,u20,u21,u22,u23,u24,u25,u26,u27,u28,u29,u30,u31,u32,u33,u34,u35,u36,u37,u38,u39,u40,u41,u42,u43,u44,u45,u46,u47,u48,u49,u50,u51,u52,u53,u54,u55,u56,u57,u58,u59,u60,u61,u62,u63,u64,u65,u66,u67,u68,u69,u70],defers:=[] }∧r≤n∧Away (Lib.IsBuilder 117 5 gb gb (Lib.byteCells (cat ByteArray.empty X r).data.toList) w')∧Away (gb=W3.heap.size∧Below gb W3 w'∧Below w.heap.size w W3∧W3.heap[w.heap.size]? = some (.cells C8 76 (0,0)))):=⟨_,⟨rfl⟩⟩
 clear hsize hζ hgw hgk hgh' hn hT hrow r0 hWs b0 hW hd hq hqm
 go_enter Tryz.func35,Tryz.ntmps35
 go_wp2_with fail
 refine scope_jumps1 0 J (fun a' _=>n-(intOf (a'.tmps.getD 15 undef)).toNat) rfl ?_ ?_
 ·intro hp
  have Hp:=Away.mk hp
  clear hp
  go_wp2_with (rw[HW.out])
  refine qtail.region_below_tail 5 (by kernel_rfl) (by kernel_rfl) ?_
  iterate 2 (quiet_step (skip))
  refine wpQuiet_load rfl 34 _ rfl gt rfl 34 T _ (fun w9 hC=>heap_regrown TW.out hC) Tryz.underlying34 rfl HTz.out ?_
  refine wpQuiet_load rfl 76 _ rfl w.heap.size rfl 76 C0 _ (fun w9 hC=>heap_regrown R0.out hC) Tryz.underlying76 rfl C0i.out ?_
  quiet_step (exact Calls.regrown_of (HTc.out _))
  refine wpQuiet_nil ?_
  intro wn hC
  have hbn:Below W.heap.size W wn:=krw.reg_below hC
  have Rn:Away (wn.heap[w.heap.size]? = some (.cells C0 76 (0,0))):=⟨heap_regrown R0.out hC⟩
  obtain⟨W3,hW3⟩:∃ x,wn.setRow w.heap.size C8=x:=⟨_,rfl⟩
  have hB3:Below w.heap.size w W3:=by
   rw[←hW3]
   exact(B0.out.trans (hbn.mono B0.out.size)).trans (below_setRow _ _ _ (Nat.le_refl _))
  have r3:W3.heap[w.heap.size]? = some (.cells C8 76 (0,0)):=by
   rw[←hW3]
   exact setRow_heap _ _ _ _ _ _ Rn.out
  have hfb:=Lib.fresh_isBuilder 117 5 W3
  obtain⟨gb,hgb⟩:∃ x,W3.heap.size=x:=⟨_,rfl⟩
  have hB4:Below gb W3 (W3.alloc (.cells #[.pointer none,.slice none 0 0] 117)):=by rw[←hgb];exact(Below.refl _ _).alloc (Nat.le_refl _) _
  rw[hgb]at hfb
  have HF1:=Away.mk hfb
  have HF2:=Away.mk (And.intro hgb.symm (And.intro hB4 (And.intro hB3 r3)))
  have Hgb:=Away.mk hgb
  have HW3:=Away.mk hW3
  clear hC hbn hW3 hB3 r3 hfb hgb hB4
  simp only[List.drop_succ_cons,List.drop_zero]
  go_wp2_with (first
   | (refine wpList_store_row rfl 76 _ _ rfl w.heap.size C8 rfl rfl 76 _ Rn.out C8i.out C08.out C8o.out ?_)
   | (rw[HW3.out])
   | (rw[Hgb.out]))
  go_step3
  simp only[Exit.then]
  apply_assumption
  refine Hp.out _ _ ?_
  rw[HJ.out]
  exact⟨0,gb,W3,_,_,_,_,_,_,_,_,_,_,_,_,_,_,_,_,_,_,_,_,_,_,_,_,_,_,_,_,_,_,_,_,_,_,_,_,_,_,_,_,_,_,_,_,_,_,_,_,_,_,_,_,_,_,_,_,_,_,_,_,_,_,rfl,Nat.zero_le _,HF1,HF2⟩
 ·intro a' wr hJ
  rw[HJ.out]at hJ
  obtain⟨r,gb,W3,u5,u6,u7,u8,u9,u10,u12,u16,u17,u18,u19,u20,u21,u22,u23,u24,u25,u26,u27,u28,u29,u30,u31,u32,u33,u34,u35,u36,u37,u38,u39,u40,u41,u42,u43,u44,u45,u46,u47,u48,u49,u50,u51,u52,u53,u54,u55,u56,u57,u58,u59,u60,u61,u62,u63,u64,u65,u66,u67,u68,u69,u70,rfl,hr,Hbd,Hin⟩:=hJ
  have HJi:Away (∀ a' w',(∃ (r gb:Nat) (W3:World) (u5 u6 u7 u8 u9 u10 u12 u16 u17 u18 u19 u20 u21 u22 u23 u24 u25 u26 u27 u28 u29 u30 u31 u32 u33 u34 u35 u36 u37 u38 u39 u40 u41 u42 u43 u44 u45 u46 u47 u48 u49 u50 u51 u52 u53 u54 u55 u56 u57 u58 u59 u60 u61 u62 u63 u64 u65 u66 u67 u68 u69 u70:Value),a' = { tmps:=#[.pointer (some ⟨gt,0,none⟩),.int .i64 b,.slice (some ⟨gw,0,none⟩) n cw,.slice (some ⟨gk,0,none⟩) n ck,.slice (some ⟨gh,0,none⟩) n ch,u5,u6,u7,u8,u9,u10,.pointer (some ⟨w.heap.size,0,none⟩),u12,.int .i64 m,.pointer (some ⟨gb,0,none⟩),.int .i64 (r:Int),u16,u17,u18,u19,u20,u21,u22,u23,u24,u25,u26,u27,u28,u29,u30,u31,u32,u33,u34,u35,u36,u37,u38,u39,u40,u41,u42,u43,u44,u45,u46,u47,u48,u49,u50,u51,u52,u53,u54,u55,u56,u57,u58,u59,u60,u61,u62,u63,u64,u65,u66,u67,u68,u69,u70],defers:=[] }∧r≤n∧Away (Lib.IsBuilder 117 5 gb gb (Lib.byteCells (cat ByteArray.empty X r).data.toList) w')∧Away (gb=W3.heap.size∧Below gb W3 w'∧Below w.heap.size w W3∧W3.heap[w.heap.size]? = some (.cells C8 76 (0,0))))→J a' w'):=⟨fun a' w' h=>by rw[HJ.out];exact h⟩
  have BU:Away (Below w.heap.size w wr):=⟨Hin.out.2.2.1.trans (Hin.out.2.1.mono (by rw[Hin.out.1];exact Hin.out.2.2.1.size))⟩
  have Lc:Away (w.heap.size<gb):=⟨by rw[Hin.out.1];exact lt_of_row Hin.out.2.2.2⟩
  have Rc:Away (wr.heap[w.heap.size]? = some (.cells C8 76 (0,0))):=⟨(Hin.out.2.1.block _ Lc.out).trans Hin.out.2.2.2⟩
  have Lb:Away (gb≤wr.heap.size):=⟨by have h1:=Hin.out.2.1.size;have h2:=Hin.out.1;omega⟩
  clear HJ
  by_cases hlt:r<n
  ·have hne:((r:Int)==(n:Int))=false:=by simp;omega
   have hne2:¬ (r:Int)=(n:Int):=by omega
   have hrz:(r:Int)<(n:Int):=by omega
   have hr8:r<8:=by omega
   have hrgw:=hd_row (HWv.out.later BU.out) r hlt
   have hrgk:=hd_row (HKv.out.later BU.out) r hlt
   have hrgh:=hd_row (HHv.out.later BU.out) r hlt
   obtain⟨o6,ho6⟩:∃ o6,r*256=o6:=⟨_,rfl⟩
   rw[ho6]at hrgw hrgk hrgh
   have Trow:Away (∀ w':World,Below wr.heap.size wr w'→w'.heap[gt]? = some (.cells T 34 (0,0))):=⟨fun w' hb=>by
    have h:=BU.out.trans (hb.mono BU.out.size)
    exact(h.block _ (lt_of_row Hrow.out)).trans Hrow.out⟩
   have Crow:Away (∀ w':World,Below wr.heap.size wr w'→w'.heap[w.heap.size]? = some (.cells C8 76 (0,0))):=⟨fun w' hb=>(hb.block _ (lt_of_row Rc.out)).trans Rc.out⟩
   have HScr:=Away.mk (HSc.out r)
   have HTrr:=Away.mk (HTr.out r)
   have HTmr:=Away.mk (HTm.out r)
   have HBkr:=Away.mk (HBk.out r)
   have HSur:=Away.mk (HSu.out r)
   have HUsr:=Away.mk (HUs.out r)
   have HPkr:=Away.mk (HPk.out r)
   obtain⟨Fk,HFk⟩:=ex_eq (FL .i64 256 (kf r))
   obtain⟨Fw,HFw⟩:=ex_eq (FL .i64 256 (wf r))
   obtain⟨Fh,HFh⟩:=ex_eq (FL .i64 256 (hf r))
   obtain⟨Ak,HAk⟩:=ex_eq (FL .i64 256 fun k=>(kf r k*8192)%8380417)
   obtain⟨Bk',HBk'⟩:=ex_eq (FL .i64 256 (thereR ζ 8 fun k=>(kf r k*8192)%8380417))
   have Ft1:Away (Fits Tryz.prog 76 (FL .i64 256 fun _=>0) (FL .i64 256 fun k=>(thereR ζ 8 c k*thereR ζ 8 (fun k=>(kf r k*8192)%8380417) k)%8380417)):=⟨fitsP _⟩
   have Ft2:Away (Fits Tryz.prog 76 (FL .i64 256 fun _=>0) (FL .i64 256 fun k=>(wf r k-one ζ c (fun k=>(kf r k*8192)%8380417) k)%8380417)):=⟨fitsP _⟩
   obtain⟨V1,HV1⟩:=ex_eq (FL .i64 256 fun k=>(thereR ζ 8 c k*thereR ζ 8 (fun k=>(kf r k*8192)%8380417) k)%8380417)
   obtain⟨V2,HV2⟩:=ex_eq (FL .i64 256 fun k=>(wf r k-one ζ c (fun k=>(kf r k*8192)%8380417) k)%8380417)
   obtain⟨Ok,HOk⟩:=ex_eq (FL .i64 256 (one ζ c fun k=>(kf r k*8192)%8380417))
   obtain⟨Ux,HUx⟩:=ex_eq (FL .i64 256 (row ζ b c (wf r) (kf r) (hf r)))
   have V1i:Away ((Tryz.prog.info? 76).map (·.size)=some V1.size):=⟨by rw[←HV1.out,fl_size];exact Hsize.out⟩
   have V2i:Away ((Tryz.prog.info? 76).map (·.size)=some V2.size):=⟨by rw[←HV2.out,fl_size];exact Hsize.out⟩
   rw[HFk.out,HAk.out]at HScr
   rw[HAk.out,HBk'.out]at HTrr
   rw[HBk'.out,HV1.out]at HTmr
   rw[HV1.out,HOk.out]at HBkr
   rw[HFw.out,HOk.out,HV2.out]at HSur
   rw[HFh.out,HV2.out,HUx.out]at HUsr
   rw[HUx.out]at HPkr
   rw[HV1.out]at Ft1
   rw[HV2.out]at Ft2
   rw[HFw.out]at hrgw
   rw[HFk.out]at hrgk
   rw[HFh.out]at hrgh
   have Krw:Away (∀ w':World,Below wr.heap.size wr w'→w'.rangeAt gw o6 Fw.toList):=⟨fun w' hb'=>range_later hrgw (Nat.lt_of_lt_of_le Hgw.out BU.out.size) hb'⟩
   have Krk:Away (∀ w':World,Below wr.heap.size wr w'→w'.rangeAt gk o6 Fk.toList):=⟨fun w' hb'=>range_later hrgk (Nat.lt_of_lt_of_le Hgk.out BU.out.size) hb'⟩
   have Krh:Away (∀ w':World,Below wr.heap.size wr w'→w'.rangeAt gh o6 Fh.toList):=⟨fun w' hb'=>range_later hrgh (Nat.lt_of_lt_of_le Hgh.out BU.out.size) hb'⟩
   have Fwi:Away ((Tryz.prog.info? 76).map (·.size)=some Fw.toList.length):=⟨by rw[Array.length_toList,←HFw.out,fl_size];exact Hsize.out⟩
   have Fki:Away ((Tryz.prog.info? 76).map (·.size)=some Fk.toList.length):=⟨by rw[Array.length_toList,←HFk.out,fl_size];exact Hsize.out⟩
   have Fhi:Away ((Tryz.prog.info? 76).map (·.size)=some Fh.toList.length):=⟨by rw[Array.length_toList,←HFh.out,fl_size];exact Hsize.out⟩
   have hXs:=HX.out r hlt
   have hlen:=Hcs.out r (by omega)
   have hnext:=cat_list X r
   obtain⟨Y,HY⟩:=ex_eq (X r)
   rw[HY.out]at HPkr hXs hnext
   have Hlt:=Away.mk hlt
   have Hnext:=Away.mk hnext
   have HXs:=Away.mk hXs
   have Hlen:=Away.mk hlen
   have Ho6:=Away.mk ho6
   clear hrgw hrgk hrgh hlt HFk HFw HFh HAk HBk' HV1 HV2 HOk HUx hXs hlen hnext
   go_wp2_with fail
   refine region_vary_take [vrP 11 12 10 16 44] 11 (by kernel_rfl) (by kernel_rfl) (by kernel_rfl) (by kernel_rfl) (by decide) (fun v hv ρ o w1 ho=>by
    simp only[List.mem_cons,List.not_mem_nil,or_false]at hv
    subst hv
    exact allocP ρ o w1 ho) (by simp[vrP]) (fun ops HO=>?_)
   simp only[List.take_succ_cons,List.take_zero]
   refine wpMild_load rfl 76 _ rfl w.heap.size rfl 76 C8 _ (fun w9 hw9=>Crow.out w9 hw9) Tryz.underlying76 rfl C8i.out ?_
   refine wpMild_step rfl (fun K hK=>?_)
   go_simp
   apply Exists.intro
   refine⟨fun w9 hw9=>?_,hK _ ?_⟩
   rfl
   clear hK K
   refine wpMild_step rfl (fun K hK=>?_)
   go_simp
   apply Exists.intro
   refine⟨fun w9 hw9=>?_,hK _ ?_⟩
   rfl
   clear hK K
   refine wpMild_load rfl 34 _ rfl gt rfl 34 T _ (fun w9 hw9=>Trow.out w9 hw9) Tryz.underlying34 rfl HTz.out ?_
   refine wpMild_step rfl (fun K hK=>?_)
   go_simp
   apply Exists.intro
   refine⟨fun w9 hw9=>?_,hK _ ?_⟩
   rfl
   clear hK K
   refine wpMild_step rfl (fun K hK=>?_)
   go_simp
   apply Exists.intro
   refine⟨fun w9 hw9=>?_,hK _ ?_⟩
   rfl
   clear hK K
   refine wpMild_step rfl (fun K hK=>?_)
   go_simp
   apply Exists.intro
   refine⟨fun w9 hw9=>?_,hK _ ?_⟩
   rfl
   clear hK K
   refine mgd.wpMild_load_mid rfl 76 _ rfl gk o6 rfl Fk.toList _ (fun w9 hw9=>Krk.out w9 hw9) Tryz.underlying76 rfl Fki.out ?_
   refine wpMild_step rfl (fun K hK=>?_)
   go_simp
   apply Exists.intro
   refine⟨fun w9 hw9=>?_,hK _ ?_⟩
   exact HScr.out w9
   clear hK K
   refine wpMild_step rfl (fun K hK=>?_)
   go_simp
   apply Exists.intro
   refine⟨fun w9 hw9=>?_,hK _ ?_⟩
   exact HTrr.out w9
   clear hK K
   refine wpMild_step rfl (fun K hK=>?_)
   go_simp
   apply Exists.intro
   refine⟨fun w9 hw9=>?_,hK _ ?_⟩
   exact HTmr.out w9
   clear hK K
   refine mgd.ends1 V1 rfl Ft1.out (fun p1 w6 l1 hb6 r1=>?_)
   simp only[vrP,Act.put,heldb.pa,heldb.pb,heldb.pc]at r1 ⊢
   have E6:Away (Below wr.heap.size wr w6):=⟨hb6⟩
   have R1:=Away.mk r1
   have T6:Away (∀ w':World,Below w6.heap.size w6 w'→Below wr.heap.size wr w'∧w'.heap[p1]? = some (.cells V1 76 (0,0))):=⟨fun w' hb=>⟨E6.out.trans (hb.mono E6.out.size),(hb.block _ (lt_of_row R1.out)).trans R1.out⟩⟩
   clear HO hb6 r1 l1
   go_wp2_with fail
   refine region_vary_take [vrP 10 11 9 17 54] 10 (by kernel_rfl) (by kernel_rfl) (by kernel_rfl) (by kernel_rfl) (by decide) (fun v hv ρ o w1 ho=>by
    simp only[List.mem_cons,List.not_mem_nil,or_false]at hv
    subst hv
    exact allocP ρ o w1 ho) (by simp[vrP]) (fun ops HO=>?_)
   simp only[List.take_succ_cons,List.take_zero]
   refine wpMild_step rfl (fun K hK=>?_)
   go_simp
   apply Exists.intro
   refine⟨fun w9 hw9=>?_,hK _ ?_⟩
   rfl
   clear hK K
   refine wpMild_step rfl (fun K hK=>?_)
   go_simp
   apply Exists.intro
   refine⟨fun w9 hw9=>?_,hK _ ?_⟩
   rfl
   clear hK K
   refine wpMild_step rfl (fun K hK=>?_)
   go_simp
   apply Exists.intro
   refine⟨fun w9 hw9=>?_,hK _ ?_⟩
   rfl
   clear hK K
   refine mgd.wpMild_load_mid rfl 76 _ rfl gw o6 rfl Fw.toList _ (fun w9 hw9=>(fun w9 hw9=>Krw.out w9 (T6.out w9 hw9).1) w9 hw9) Tryz.underlying76 rfl Fwi.out ?_
   refine wpMild_step rfl (fun K hK=>?_)
   go_simp
   apply Exists.intro
   refine⟨fun w9 hw9=>?_,hK _ ?_⟩
   rfl
   clear hK K
   refine wpMild_step rfl (fun K hK=>?_)
   go_simp
   apply Exists.intro
   refine⟨fun w9 hw9=>?_,hK _ ?_⟩
   rfl
   clear hK K
   refine wpMild_load rfl 34 _ rfl gt rfl 34 T _ (fun w9 hw9=>Trow.out w9 (T6.out w9 hw9).1) Tryz.underlying34 rfl HTz.out ?_
   refine wpMild_load rfl 76 _ rfl p1 rfl 76 V1 _ (fun w9 hw9=>(T6.out w9 hw9).2) Tryz.underlying76 rfl V1i.out ?_
   refine wpMild_step rfl (fun K hK=>?_)
   go_simp
   apply Exists.intro
   refine⟨fun w9 hw9=>?_,hK _ ?_⟩
   exact HBkr.out w9
   clear hK K
   refine wpMild_step rfl (fun K hK=>?_)
   go_simp
   apply Exists.intro
   refine⟨fun w9 hw9=>?_,hK _ ?_⟩
   exact HSur.out w9
   clear hK K
   refine mgd.ends1 V2 rfl Ft2.out (fun p2 w7 l2 hb7 r2=>?_)
   simp only[vrP,Act.put,heldb.pa,heldb.pb,heldb.pc]at r2 ⊢
   have E7:Away (Below wr.heap.size wr w7):=⟨(T6.out w7 hb7).1⟩
   have R2:=Away.mk r2
   clear HO hb7 r2 l2
   go_wp2_with fail
   refine wp_region_quiet_below (by kernel_rfl) (by kernel_rfl) ?_
   iterate 3 (quiet_step (skip))
   refine wpQuiet_load_mid rfl 76 _ rfl gh o6 rfl Fh.toList _ (fun w' hC=>Krh.out w' (E7.out.trans ((krw.reg_below hC).mono E7.out.size))) Tryz.underlying76 rfl Fhi.out ?_
   refine wpQuiet_load rfl 76 _ rfl p2 rfl 76 V2 _ (fun w9 hC=>heap_regrown R2.out hC) Tryz.underlying76 rfl V2i.out ?_
   quiet_step (skip)
   quiet_step (exact Calls.regrown_of (HUsr.out _))
   quiet_step (skip)
   quiet_step (exact Calls.regrown_of (HPkr.out _))
   iterate 5 (quiet_step (skip))
   refine wpQuiet_nil ?_
   intro w8 hC
   have E8:Below wr.heap.size wr w8:=E7.out.trans ((krw.reg_below hC).mono E7.out.size)
   have Hz8:gb≤w8.heap.size:=Nat.le_trans Lb.out E8.size
   have E8':=Away.mk E8
   have Hw:Away (Calls Tryz.prog 91 #[.pointer (some ⟨gb,0,none⟩),.string Y] w8 fun e w'=>e=.returned (.tuple #[.int .i64 Y.size,.nilIface])∧(Lib.BuilderAt 117 5 gb gb (.pointer (some ⟨gb,0,none⟩)) (Lib.byteCells (cat ByteArray.empty X (r+1)).data.toList) w'∧Below gb w8 w')):=⟨by
    have hh:=shelfr.writeString gb gb (Lib.byteCells (cat ByteArray.empty X r).data.toList) Y w8 (shelfr.builder_later Hbd.out E8) (by
     rw[Lib.byteCells_length]
     have:=HXs.out
     have:=Hlen.out
     omega) Hz8
    rw[show Lib.strCells Y=Lib.byteCells Y.data.toList from rfl,←Lib.byteCells_append,←Hnext.out]at hh
    exact hh⟩
   clear hC E8 Hz8
   go_wp2_with fail
   refine Hw.out.mono ?_
   rintro e w4 ⟨rfl,hat,hb4⟩
   have Hat:=Away.mk hat
   have Hin4:Away (gb=W3.heap.size∧Below gb W3 w4∧Below w.heap.size w W3∧W3.heap[w.heap.size]? = some (.cells C8 76 (0,0))):=⟨Hin.out.1,(Hin.out.2.1.trans (E8'.out.mono Lb.out)).trans hb4,Hin.out.2.2.1,Hin.out.2.2.2⟩
   clear hat hb4
   go_wp2_with fail
   go_step3
   refine⟨rfl,HJi.out _ _ ⟨r+1,gb,W3,_,_,_,_,_,_,_,_,_,_,_,_,_,_,_,_,_,_,_,_,_,_,_,_,_,_,_,_,_,_,_,_,_,_,_,_,_,_,_,_,_,_,_,_,_,_,_,_,_,_,_,_,_,_,_,_,_,_,_,_,_,_,by go_num,by have:=Hlt.out;omega,⟨Or.inr Hat.out⟩,Hin4⟩,?_⟩
   have:=Hlt.out
   simp[intOf]
   omega
  ·obtain rfl:r=n:=by omega
   have heq:((r:Int)==(r:Int))=true:=by simp
   have Hst:Away (Calls Tryz.prog 86 #[.pointer (some ⟨gb,0,none⟩)] wr fun e w'=>e=.returned (.string (cat ByteArray.empty X r))∧Below gb wr w'):=⟨by
    have hh:=shelfr.toText gb gb (cat ByteArray.empty X r).data.toList wr Hbd.out Lb.out
    rw[mk_list]at hh
    exact hh⟩
   rw[HRz.out]at Hst
   clear hlt HJi
   go_wp2_with fail
   refine Hst.out.mono ?_
   rintro e w3 ⟨rfl,hb3⟩
   have D3:Away (Below w.heap.size w w3):=⟨BU.out.trans (hb3.mono (by have:=Lc.out;omega))⟩
   clear hb3
   go_wp2_with fail
   simp only[Exit.jump]
   go_ret
   exact⟨rfl,D3.out⟩
end Go.Proofs.YtomphjajkkddkaaGreatDoor.vpb
namespace Go.Proofs.YtomphjajkkddkaaGreatDoor.vpa
set_option linter.unusedSimpArgs false
open Go Go.RowKit
open arr mem stil polys polt pols nttl rndm saml spok rsdoc mlkm mlkb keca kstep kturn rkpb rkrw qrow helda heldb rbita rbitb rbitd
theorem shake_any {T:Array Value} (gt:Nat) (x:ByteArray) (n:Nat) (w:World) (hK:KT T TL RL) (hP:Gp w) (hrow:w.heap[gt]? = some (.cells T 34 (0,0))) (hn:n≤50000) (hx:x.size≤1125899906842624):
 Calls Tryz.prog 31 #[.pointer (some ⟨gt,0,none⟩),.string x,.int .i64 (n:Int)] w fun e w'=>e=.returned (.string (out TL RL 2 x n))∧Below w.heap.size w w':=by
 have HS:=Away.mk (fun w1 hb=>qdoc.shake 2 x n w hK hP (Or.inr rfl) hn hx w1 hb)
 have HTz:Away ((Tryz.prog.info? 34).map (·.size)=some T.size):=⟨infoT T hK⟩
 have HR:=Away.mk hrow
 obtain⟨Y,HY⟩:=ex_eq (out TL RL 2 x n)
 rw[HY.out]at HS ⊢
 clear hK hP hrow hn hx HY
 go_enter Tryz.func31,Tryz.ntmps31
 go_wp2_with (refine wpList_load_row rfl 34 _ rfl gt rfl 34 T (0,0) _ HR.out Tryz.underlying34 rfl HTz.out ?_)
 refine(HS.out _ (Below.refl _ _)).mono ?_
 rintro e w5 ⟨rfl,hb5⟩
 go_wp2_with fail
 go_ret
 exact⟨rfl,hb5⟩
theorem answers_of (k:Int) (ln wd:Nat) (e t a b o s:Int) (x:ByteArray) (q:Nat→Nat→Int) (w:World) (hl : 1≤ln∧ln≤8) (ha:a=131072∨a=524288) (hs:x.size=ln*wd) (hn:wd≤2048)
 (HU:∀ i,i<ln→∀ w1:World,Calls Tryz.prog 108 #[.string (x.extract (i*wd) ((i+1)*wd)),.int .i64 (a-1),.int .i64 a] w1 fun e w'=>e=.returned (.tuple #[.agg (FL .i64 256 (q i)),.int .i64 0])∧Below w1.heap.size w1 w'):
 Calls Tryz.prog 52 #[.agg #[.int .i64 k,.int .i64 (ln:Int),.int .i64 e,.int .i64 t,.int .i64 a,.int .i64 b,.int .i64 o,.int .i64 s],.string x] w fun r w'=>(∃ v,r=.returned v∧Holds w' w.heap.size v ln q)∧Below w.heap.size w w':=by
 obtain⟨i0,hi,hz0,hz1,hz2⟩:=tparts infoPoly
 obtain⟨hz,hsize⟩:=zero_of_info polt.infoP
 obtain⟨z,HZ⟩:=ex_eq (FL .i64 256 fun _=>0)
 rw[HZ.out]at hz hz0
 have HI:=Away.mk (And.intro hi (And.intro hz0 (And.intro hz1 hz2)))
 have hm1:=hl.1
 have hm8:=hl.2
 have hmz:((ln:Int)==0)=false:=by simp;omega
 have hmz2:¬ (ln:Int)=0:=by omega
 have hmn:ln*wd≤16384:=Nat.le_trans (Nat.mul_le_mul hl.2 hn) (by decide)
 have hdiv:(x.size:Int).tdiv (ln:Int)=(wd:Int):=by
  rw[hs,Int.tdiv_eq_ediv_of_nonneg (by omega)]
  push_cast
  exact Int.mul_ediv_cancel_left _ hmz2
 have hde:(x.size:Int) / (ln:Int)=(wd:Int):=by
  rw[←hdiv,Int.tdiv_eq_ediv_of_nonneg (by omega)]
 have hdw:IntKind.i64.wrap ((x.size:Int) / (ln:Int))=(wd:Int):=by rw[hde,IntKind.wrap_i64];omega
 obtain⟨a1,ha1⟩:∃ y,a-1=y:=⟨_,rfl⟩
 have haw:IntKind.i64.wrap (a-1)=a1:=by rw[IntKind.wrap_i64];omega
 rw[ha1]at HU
 have HU:=Away.mk HU
 have Hs:=Away.mk hs
 have Hmn:=Away.mk hmn
 obtain⟨L,HL⟩:=ex_eq (#[.int .i64 k,.int .i64 (ln:Int),.int .i64 e,.int .i64 t,.int .i64 a,.int .i64 b,.int .i64 o,.int .i64 s]:Array Value)
 rw[HL.out]
 obtain⟨W,hW⟩:∃ y,w.alloc (.cells L 37)=y:=⟨_,rfl⟩
 obtain⟨r0,hWs,b0⟩:=one hW
 have c1:W.cell? ⟨w.heap.size,1,none⟩=some (.int .i64 (ln:Int)):=cell_at r0 (by rw[←HL.out];rfl)
 have C1:=Away.mk c1
 have HL4:Away (L[4]? = some (.int .i64 a)):=⟨by rw[←HL.out];rfl⟩
 have R0:=Away.mk r0
 have L0:Away (w.heap.size<W.heap.size):=⟨lt_of_row r0⟩
 have B0:=Away.mk b0
 have HW:=Away.mk hW
 have hn0 : 0≤(wd:Int):=by omega
 clear hi hz0 hz1 hz2 hsize hs hmn hl hdiv hde ha ha1 hW r0 hWs b0
 go_enter Tryz.func52,Tryz.ntmps52
 go_wp2_with (first
  | (rw[HW.out])
  | (at_make;refine wpList_make_full _ rfl (.tmp 9) (.tmp 9) 44 rfl W.heap.size 76 i0 (.agg z) 256 Tryz.underlying44 HI.out.1 HI.out.2.1 HI.out.2.2.1 .i64 .i64 ln ln ln rfl rfl rfl rfl (by rw[HI.out.2.2.2];omega) (by unfold maxLen;omega) (Nat.le_refl _) ?_))
 intro w5 hown hgr
 obtain⟨hrow,hb5⟩:=made_row HZ.out hown hgr
 obtain⟨g,hg⟩:∃ y,W.heap.size=y:=⟨_,rfl⟩
 have B5:Away (Below w.heap.size w w5):=⟨B0.out.trans (hb5.mono B0.out.size)⟩
 clear c1
 have c1:w5.cell? ⟨w.heap.size,1,none⟩=some (.int .i64 (ln:Int)):=(hb5.cell (p:=⟨w.heap.size,1,none⟩) L0.out).trans C1.out
 rw[hg]at hrow ⊢
 have A5:Away (w5.heap[g]? = some (.cells (RW ln (fst q 0)) 76 (0,0))):=⟨by rw[fst_zero];exact hrow⟩
 have Hg:Away (W.heap.size≤g):=⟨Nat.le_of_eq hg⟩
 have HB5:Away (Below W.heap.size W w5):=⟨hb5⟩
 clear hown hgr hrow hb5 hg
 go_wp2_with fail
 clear c1
 go_loopw [18] (fun v wr=>∃ r:Nat,r≤ln∧v=.int .i64 (r:Int)∧Away (wr.heap[g]? = some (.cells (RW ln (fst q r)) 76 (0,0)))∧Away (Below W.heap.size W wr)) (fun v _=>ln-(intOf v).toNat)
 case atStart=>exact⟨0,Nat.zero_le _,rfl,A5,HB5⟩
 case round=>
  clear A5
  obtain⟨r,hr,rfl,Rr,Hb⟩:=hrel
  have BU:Away (Below w.heap.size w wr):=⟨B0.out.trans (Hb.out.mono B0.out.size)⟩
  by_cases hlt:r<ln
  ·have hrz:(r:Int)<(ln:Int):=by omega
   have hr8:r<8:=by omega
   have hmul:(r+1)*wd≤ln*wd:=Nat.mul_le_mul_right wd hlt
   have hsplit:(r+1)*wd=r*wd+wd:=Nat.succ_mul r wd
   have HCa:=HU.out r hlt
   obtain⟨p,hp⟩:∃ p,r*wd=p:=⟨_,rfl⟩
   obtain⟨p2,hp2⟩:∃ p2,(r+1)*wd=p2:=⟨_,rfl⟩
   rw[hp,hp2]at HCa
   have hps:p2≤x.size:=by have:=Hs.out;omega
   have hpp:p≤p2:=by omega
   have hpz:p2≤16384:=by have:=Hmn.out;omega
   have f1:IntKind.i64.wrap ((r:Int)*(wd:Int))=(p:Int):=by rw[show (r:Int)*(wd:Int)=((r*wd:Nat):Int) by push_cast;rfl,hp,IntKind.wrap_i64];omega
   obtain⟨rn,hrn⟩:∃ rn,r+1=rn:=⟨_,rfl⟩
   have f0:IntKind.i64.wrap ((r:Int)+1)=(rn:Int):=by rw[IntKind.wrap_i64];omega
   have f2:IntKind.i64.wrap ((rn:Int)*(wd:Int))=(p2:Int):=by rw[←hrn,show ((r+1:Nat):Int)*(wd:Int)=(((r+1)*wd:Nat):Int) by push_cast;rfl,hp2,IntKind.wrap_i64];omega
   obtain⟨X,HX⟩:=ex_eq (x.extract p p2)
   have hex:=HX.out
   rw[HX.out]at HCa
   obtain⟨F,HF⟩:=ex_eq (FL .i64 256 (q r))
   rw[HF.out]at HCa
   have HCr:=Away.mk HCa
   have Hup:Away (ups (fst q r) r (q r)=fst q rn):=⟨by rw[←hrn];exact ups_fst q r⟩
   have Hrn:=Away.mk hrn
   obtain⟨o6,ho6⟩:∃ o6,r*256=o6:=⟨_,rfl⟩
   have Ho6:=Away.mk ho6
   have C4:∀ w':World,Below W.heap.size wr w'→w'.cell? ⟨w.heap.size,4,none⟩=some (.int .i64 a):=fun w' hb=>(hb.cell (p:=⟨w.heap.size,4,none⟩) L0.out).trans (cell_at ((Hb.out.block _ L0.out).trans R0.out) HL4.out)
   have Hlt:=Away.mk hlt
   have Lr:Away (W.heap.size≤wr.heap.size):=⟨Hb.out.size⟩
   clear hmul hsplit hp hp2 HCa hrn
   go_wp2_with fail
   refine hk_begin (W.heap.size) 22 [0,1,2,3,4,5,6,7,8,9,10,11,12,13,14,15,16,17,18,19,20,21] (by kernel_rfl) rfl rfl (by decide) (fun hS ops HO=>?_)
   simp only[List.filterMap_cons,fa,List.getElem?_cons_succ,List.getElem?_cons_zero]
   iterate 12 ((refine hk_t (v:=?_) (by rw[←HO.out];kernel_rfl) (fun _ _ _ h=>h) ?_ hS ?_;rotate_left;focus (intro w9 h9;go_simp;first | done | with_reducible rfl);all_goals skip);simp only[Act.put,pa,pb,pc])
   (refine hk_t (v:=?_) (by rw[←HO.out];kernel_rfl) (fun _ _ _ h=>h) ?_ hS ?_;rotate_left;focus (intro w9 h9;have hc:=C4 w9 h9;go_simp;first | done | with_reducible rfl);all_goals skip)
   iterate 2 (simp only[Act.put,pa,pb,pc];(refine hk_t (v:=?_) (by rw[←HO.out];kernel_rfl) (fun _ _ _ h=>h) ?_ hS ?_;rotate_left;focus (intro w9 h9;go_simp;first | done | with_reducible rfl);all_goals skip))
   simp only[Act.put,pa,pb,pc]
   (refine hk_t (v:=?_) (by rw[←HO.out];kernel_rfl) (fun _ _ _ h=>h) ?_ hS ?_;rotate_left;focus (intro w9 h9;have hc:=C4 w9 h9;go_simp;first | done | with_reducible rfl);all_goals skip)
   simp only[Act.put,pa,pb,pc]
   refine hk_s (by rw[←HO.out];kernel_rfl) (fun K hK=>?_)
   go_simp
   refine(HCr.out _).mono ?_
   rintro x w2 ⟨rfl,hb2⟩
   have h2:=hS.trans (hb2.mono (Nat.le_trans Lr.out hS.size))
   have hbn:Below wr.heap.size wr w2:=(Below.refl _ _).drew.trans hb2
   refine hK _ _ h2 ?_
   clear hK K
   try simp only[Act.put,pa,pb,pc]
   iterate 4 ((refine hk_t (v:=?_) (by rw[←HO.out];kernel_rfl) (fun _ _ _ h=>h) ?_ h2 ?_;rotate_left;focus (intro w9 h9;go_simp;first | done | with_reducible rfl);all_goals skip);simp only[Act.put,pa,pb,pc])
   have A6:Away (At g (RW ln (fst q r)) 76 w2 w2):=⟨At.refl ((hbn.block _ (lt_of_row Rr.out)).trans Rr.out)⟩
   refine hk_s (by rw[←HO.out];kernel_rfl) (fun K hK=>?_)
   refine ksp.wp_putp A6 HF.out Hlt.out Ho6.out _ _ rfl rfl rfl rfl (fun w7 A7=>?_)
   rw[Hup.out]at A7
   have h7:Below W.heap.size wr w7:=h2.trans (A7.out.below (Nat.le_trans Lr.out hbn.size) Hg.out)
   refine hK _ _ h7 ?_
   clear hK K
   refine hk_nil (by rw[←HO.out];kernel_rfl) ?_
   have R8:Away (w7.heap[g]? = some (.cells (RW ln (fst q rn)) 76 (0,0))):=⟨A7.out.row⟩
   have D8:Away (Below W.heap.size W w7):=⟨Hb.out.trans h7⟩
   clear hS HO hb2 h2 hbn A6 A7 h7 Rr C4
   go_wp2_with fail
   go_roundw
   case rel=>exact⟨rn,by have:=Hlt.out;have:=Hrn.out;omega,by go_num,R8,D8⟩
   case measure=>have:=Hlt.out;have:=Hrn.out;simp[intOf];omega
  ·obtain rfl:r=ln:=by omega
   have HH:Away (Holds wr w.heap.size (.slice (some ⟨g,0,none⟩) r r) r q):=⟨row_holds Rr.out (Nat.le_trans B0.out.size Hg.out) (fun i hi=>fst_lt q r i hi)⟩
   clear Rr
   go_wp2_with fail
   go_ret
   exact⟨⟨_,rfl,HH.out⟩,BU.out⟩
end Go.Proofs.YtomphjajkkddkaaGreatDoor.vpa
namespace Go.Proofs.YtomphjajkkddkaaGreatDoor.mlva
open fldm rndm
theorem pl_a (x:Int):pl 95232 x=if 95232<(x%8380417)%190464 then (x%8380417)%190464-190464 else (x%8380417)%190464:=ce_is 190464 _ (by decide) (by decide)
theorem pl_b (x:Int):pl 261888 x=if 261888<(x%8380417)%523776 then (x%8380417)%523776-523776 else (x%8380417)%523776:=ce_is 523776 _ (by decide) (by decide)
theorem hgh_a (x:Int) (h : 0≤x∧x<8380417):hgh 95232 x=((x+95231) / 190464)%44∧lw 95232 x=x-190464*((x+95231) / 190464)-(if (x+95231) / 190464=44 then 1 else 0):=by
 unfold hgh lw
 rw[if_pos okg_a,if_pos okg_a,pl_a]
 constructor
 ·split<;>split<;>omega
 ·split<;>split<;>split<;>omega
theorem hgh_b (x:Int) (h : 0≤x∧x<8380417):hgh 261888 x=((x+261887) / 523776)%16∧lw 261888 x=x-523776*((x+261887) / 523776)-(if (x+261887) / 523776=16 then 1 else 0):=by
 unfold hgh lw
 rw[if_pos okg_b,if_pos okg_b,pl_b]
 constructor
 ·split<;>split<;>omega
 ·split<;>split<;>split<;>omega
theorem ext_a (y:Int) (h : -95231≤y∧y≤8380417+95231):hgh 95232 (y%8380417)=((y+95231) / 190464)%44:=by
 rw[(hgh_a _ (by omega)).1]
 by_cases h1:y<0
 ·rw[show y%8380417=y+8380417 by omega];omega
 ·by_cases h2:y<8380417
  ·rw[show y%8380417=y by omega]
  ·rw[show y%8380417=y-8380417 by omega];omega
theorem stay_a (v s b:Int) (hv : 0≤v∧v<8380417) (h1 : -(95232-b)<lw 95232 v) (h2:lw 95232 v<95232-b) (hs : -b≤s∧s≤b):hgh 95232 ((v+s)%8380417)=hgh 95232 v:=by
 rw[(hgh_a v hv).2]at h1 h2
 rw[(hgh_a v hv).1,ext_a _ (by omega)]
 have hy1 : 190464*((v+95231) / 190464)-95231≤v+s∧v+s≤190464*((v+95231) / 190464)+95231:=by
  generalize (v+95231) / 190464=q at h1 h2
  split at h1
  ·omega
  ·omega
 have:(v+s+95231) / 190464=(v+95231) / 190464:=by
  generalize v+s=y at hy1
  generalize (v+95231) / 190464=q at hy1
  omega
 rw[this]
theorem ext_b (y:Int) (h : -261887≤y∧y≤8380417+261887):hgh 261888 (y%8380417)=((y+261887) / 523776)%16:=by
 rw[(hgh_b _ (by omega)).1]
 by_cases h1:y<0
 ·rw[show y%8380417=y+8380417 by omega];omega
 ·by_cases h2:y<8380417
  ·rw[show y%8380417=y by omega]
  ·rw[show y%8380417=y-8380417 by omega];omega
theorem stay_b (v s b:Int) (hv : 0≤v∧v<8380417) (h1 : -(261888-b)<lw 261888 v) (h2:lw 261888 v<261888-b) (hs : -b≤s∧s≤b):hgh 261888 ((v+s)%8380417)=hgh 261888 v:=by
 rw[(hgh_b v hv).2]at h1 h2
 rw[(hgh_b v hv).1,ext_b _ (by omega)]
 have hy1 : 523776*((v+261887) / 523776)-261887≤v+s∧v+s≤523776*((v+261887) / 523776)+261887:=by
  generalize (v+261887) / 523776=q at h1 h2
  split at h1
  ·omega
  ·omega
 have:(v+s+261887) / 523776=(v+261887) / 523776:=by
  generalize v+s=y at hy1
  generalize (v+261887) / 523776=q at hy1
  omega
 rw[this]
theorem stay (g v s b:Int) (hg:g=95232∨g=261888) (hv : 0≤v∧v<8380417) (h1 : -(g-b)<lw g v) (h2:lw g v<g-b) (hs : -b≤s∧s≤b):hgh g ((v+s)%8380417)=hgh g v:=by
 rcases hg with rfl | rfl
 ·exact stay_a v s b hv h1 h2 hs
 ·exact stay_b v s b hv h1 h2 hs
theorem use_a (x z:Int) (hx : 0≤x∧x<8380417) (hz : -95232<z∧z<95232):us 95232 (if hgh 95232 x=hgh 95232 ((x+z)%8380417) then 0 else 1) x=hgh 95232 ((x+z)%8380417):=by
 unfold us
 rw[if_pos okg_a,show (8380416:Int) / (2*95232)=44 from rfl]
 by_cases e:hgh 95232 x=hgh 95232 ((x+z)%8380417)
 ·rw[if_pos e,if_pos rfl];exact e
 ·rw[if_neg e,if_neg (by decide)]
  rw[(hgh_a x hx).1,ext_a (x+z) (by omega)]at e ⊢
  rw[(hgh_a x hx).2]
  have hq : 0≤(x+95231) / 190464∧(x+95231) / 190464≤44∧190464*((x+95231) / 190464)-95231≤x∧x≤190464*((x+95231) / 190464)+95232:=by omega
  generalize (x+95231) / 190464=q at hq e ⊢
  have hr : 190464*((x+z+95231) / 190464)-95231≤x+z∧x+z≤190464*((x+z+95231) / 190464)+95232:=by omega
  generalize (x+z+95231) / 190464=r at hr e ⊢
  by_cases h0 : 0<x-190464*q-(if q=44 then 1 else 0)
  ·rw[if_pos h0]
   have:r=q+1:=by
    have h3:r≠q:=fun y=>e (by rw[y])
    split at h0<;>omega
   rw[this]
   omega
  ·rw[if_neg h0]
   have:r=q-1:=by
    have h3:r≠q:=fun y=>e (by rw[y])
    split at h0<;>omega
   rw[this]
   omega
theorem use_b (x z:Int) (hx : 0≤x∧x<8380417) (hz : -261888<z∧z<261888):us 261888 (if hgh 261888 x=hgh 261888 ((x+z)%8380417) then 0 else 1) x=hgh 261888 ((x+z)%8380417):=by
 unfold us
 rw[if_pos okg_b,show (8380416:Int) / (2*261888)=16 from rfl]
 by_cases e:hgh 261888 x=hgh 261888 ((x+z)%8380417)
 ·rw[if_pos e,if_pos rfl];exact e
 ·rw[if_neg e,if_neg (by decide)]
  rw[(hgh_b x hx).1,ext_b (x+z) (by omega)]at e ⊢
  rw[(hgh_b x hx).2]
  have hq : 0≤(x+261887) / 523776∧(x+261887) / 523776≤16∧523776*((x+261887) / 523776)-261887≤x∧x≤523776*((x+261887) / 523776)+261888:=by omega
  generalize (x+261887) / 523776=q at hq e ⊢
  have hr : 523776*((x+z+261887) / 523776)-261887≤x+z∧x+z≤523776*((x+z+261887) / 523776)+261888:=by omega
  generalize (x+z+261887) / 523776=r at hr e ⊢
  by_cases h0 : 0<x-523776*q-(if q=16 then 1 else 0)
  ·rw[if_pos h0]
   have:r=q+1:=by
    have h3:r≠q:=fun y=>e (by rw[y])
    split at h0<;>omega
   rw[this]
   omega
  ·rw[if_neg h0]
   have:r=q-1:=by
    have h3:r≠q:=fun y=>e (by rw[y])
    split at h0<;>omega
   rw[this]
   omega
theorem use_hint (g x z:Int) (hg:g=95232∨g=261888) (hx : 0≤x∧x<8380417) (hz : -g<ce 8380417 z∧ce 8380417 z<g):us g (hn g z x) x=hgh g ((x+z)%8380417):=by
 have e:(x+z)%8380417=(x+ce 8380417 z)%8380417:=by
  rw[ce_is 8380417 z (by decide) (by decide)]
  split<;>omega
 unfold hn
 rw[e]
 rcases hg with rfl | rfl
 ·exact use_a x _ hx hz
 ·exact use_b x _ hx hz
end Go.Proofs.YtomphjajkkddkaaGreatDoor.mlva
