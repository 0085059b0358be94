/-
  What package sample's Matrix returns. Conditions: the tables have their size; what Uniform returns is handed in. What package sample's Secrets returns. Conditions: the tables have their size; what Small returns is handed in. What package sample's functions return, in the sponge's bytes. Conditions: 
-/
import Derived.Test.YtgahcabgmfbhdaaGreatDoorZm10
import Derived.Test.YtgahcabgmfbhdaaGreatDoorZm02
import Derived.Test.YtgahcabgmfbhdaaGreatDoorZm07
import Derived.Test.YtgahcabgmfbhdaaGreatDoorProg
import Derived.Lib.QuietBelow
import Derived.StillTailTactics
import Derived.Great.BuildSlice
import Derived.Shelf.Strconv.Itoa0
set_option maxRecDepth 100000
set_option maxHeartbeats 16000000
namespace Go.Proofs.YtgahcabgmfbhdaaGreatDoor
namespace qmat
open Go Go.RowKit
open arr mem stil polys polt rbitb rbitc rndm pols saml samr qpair qrow
theorem infoSl:(Tryz.prog.info? 67).map (fun i=>(i.zero,i.size,i.bytes))=some (some (.slice none 0 0),1,24):=by kernel_rfl
def OU (vs:List Value) (n:Nat):Array Value:=(vs++List.replicate n (Value.slice none 0 0)).toArray
theorem ou_size (vs:List Value) (n:Nat):(OU vs n).size=vs.length+n:=by unfold OU;simp
theorem ou_set (vs:List Value) (n:Nat) (v:Value):(OU vs (n+1)).setIfInBounds vs.length v=OU (vs ++ [v]) n:=by
 unfold OU
 rw[List.setIfInBounds_toArray,List.set_append_right _ _ (Nat.le_refl _),Nat.sub_self,List.replicate_succ,List.set_cons_zero,List.append_assoc]
 rfl
theorem ou_get (vs:List Value) (n i:Nat) (h:i<vs.length):(OU vs n)[i]? = vs[i]? := by
 unfold OU
 rw[List.getElem?_toArray,List.getElem?_append_left h]
theorem ou_last (vs:List Value) (n:Nat) (v:Value):(OU (vs ++ [v]) n)[vs.length]? = some v:=by
 rw[ou_get _ _ _ (by rw[List.length_append];exact Nat.lt_succ_self _),List.getElem?_append_right (Nat.le_refl _),Nat.sub_self]
 rfl
theorem made_ou {w w':World} {B:Nat} {e:TypeId} {n:Nat} (h:w'.ownsRow B e 1 (.slice (some ⟨w.heap.size,0,none⟩) n n) n (madeCells #[Value.slice none 0 0] n).toList) (hg:w.grownBy w' none):
 w'.heap[w.heap.size]? = some (.cells (OU [] n) e (0,0))∧Below w.heap.size w w':=by
 obtain⟨cur,h1,h2⟩:=own_rowP h
 have e0:cur=OU [] n:=by
  apply Array.ext'
  rw[h2,toList_madeCells_one]
  unfold OU
  simp
 rw[e0]at h1
 exact⟨h1,(Below.refl _ _).grown hg (Nat.le_refl _) (fun k hk=>by simp at hk)⟩
theorem rowl_blocks {w w':World} {B gm ln:Nat} {vs:List Value} {p:Nat→Nat→Nat→Int} (h:Rowl w B (some gm) vs ln p) (hs:w.heap.size≤w'.heap.size) (hb:∀ g,g<w.heap.size→g≠gm→w'.heap[g]? = w.heap[g]?):Rowl w' B (some gm) vs ln p:=fun i v hv=>by
 obtain⟨g,c,e,h1,h2,h3,h4⟩:=h i v hv
 refine⟨g,c,e,h1,Nat.lt_of_lt_of_le h2 hs,h3,fun s hs k hk=>?_⟩
 rw[←h4 s hs k hk]
 have e2:=hb g h2 (fun e2=>h3 (by rw[e2]))
 simp only[World.cell?,e2]
theorem matrix_yes {T:Array Value} (kn ln:Nat) (e t a b o s:Int) (sd:ByteArray) (q:Nat→Nat→Nat→Int) (w:World) (hT:(Tryz.prog.info? 34).map (·.size)=some T.size) (hk : 1≤kn∧kn≤8) (hl : 1≤ln∧ln≤8) (h:latt (kn:Int) (ln:Int) e t a b o s=true) (hsd:sd.size≤1125899906842624)
 (HS:∀ r c:Nat,r<8→c<8→∀ w1:World,Below w.heap.size w w1→Calls Tryz.prog 98 #[.agg T,.string (tw sd c r)] w1 fun x w'=>x=.returned (.agg (FL .i64 256 (q r c)))∧Below w1.heap.size w1 w'):
 Calls Tryz.prog 43 #[.agg T,.agg #[.int .i64 (kn:Int),.int .i64 (ln:Int),.int .i64 e,.int .i64 t,.int .i64 a,.int .i64 b,.int .i64 o,.int .i64 s],.string sd] w fun x w'=>(∃ v vs,x=.returned v∧w'.ownsRow w.heap.size 67 1 v kn vs∧Rowl w' w.heap.size v.ownBlock vs ln q)∧Below w.heap.size w w':=by
 have HR:Away (∀ w1:World,Calls Tryz.prog 38 #[.agg #[.int .i64 (kn:Int),.int .i64 (ln:Int),.int .i64 e,.int .i64 t,.int .i64 a,.int .i64 b,.int .i64 o,.int .i64 s]] w1 fun e0 w'=>e0=.returned (.bool true)∧Below w1.heap.size w1 w'):=⟨fun w1=>by rw[←h];exact rright.right_any _ _ e t a b o s w1⟩
 obtain⟨i0,hi,hz0,hz1,hz2⟩:=parts infoPoly
 obtain⟨hz,hsize⟩:=zero_of_info polt.infoP
 obtain⟨z,HZ⟩:=ex_eq (FL .i64 256 fun _=>0)
 rw[HZ.out]at hz hz0
 have HI:=Away.mk (And.intro hi (And.intro hz0 (And.intro hz1 hz2)))
 obtain⟨j0,hj,hy0,hy1,hy2⟩:=parts infoSl
 have HJ:=Away.mk (And.intro hj (And.intro hy0 (And.intro hy1 hy2)))
 clear hj hy0 hy1 hy2
 clear hi hz0 hz1 hz2 hsize
 obtain⟨C,HC⟩:=ex_eq (#[.int .i64 (kn:Int),.int .i64 (ln:Int),.int .i64 e,.int .i64 t,.int .i64 a,.int .i64 b,.int .i64 o,.int .i64 s]:Array Value)
 rw[HC.out]at HR ⊢
 have HCs:Away ((Tryz.prog.info? 37).map (·.size)=some C.size):=⟨by rw[←HC.out];kernel_rfl⟩
 obtain⟨W,hW⟩:∃ x,(w.alloc (.cells T 34)).alloc (.cells C 37)=x:=⟨_,rfl⟩
 obtain⟨r0,r1,hWs,b0⟩:=two hW
 have T0:Away (W.heap[w.heap.size]? = some (.cells T 34 (0,0))):=⟨r0⟩
 have L0:Away (W.heap[w.heap.size+1]? = some (.cells C 37 (0,0))):=⟨r1⟩
 have BW:=Away.mk b0
 have HWs:=Away.mk hWs
 have HW:=Away.mk hW
 have HSm:=Away.mk HS
 have HTz:=Away.mk hT
 have Hk:=Away.mk hk
 have Hl:=Away.mk hl
 have Hsd:=Away.mk hsd
 clear hW r0 r1 b0 h HS hT hk hl hsd hWs
 go_enter Tryz.func43,Tryz.ntmps43
 go_wp2_with (first
  | (rw[HW.out])
  | (refine wpList_load_row rfl 37 _ rfl (w.heap.size+1) rfl 37 _ (0,0) _ L0.out Tryz.underlying37 rfl HCs.out ?_))
 refine(HR.out _).mono ?_
 rintro x u1 ⟨rfl,hb1⟩
 have B1:Away (Below w.heap.size w u1):=⟨BW.out.trans (hb1.mono (by rw[HWs.out];omega))⟩
 have T1:Away (u1.heap[w.heap.size]? = some (.cells T 34 (0,0))):=⟨(hb1.block _ (by rw[HWs.out];omega)).trans T0.out⟩
 have L1:Away (u1.heap[w.heap.size+1]? = some (.cells C 37 (0,0))):=⟨(hb1.block _ (by rw[HWs.out];omega)).trans L0.out⟩
 have HcK:Away (∀ w1:World,Below u1.heap.size u1 w1→w1.cell? ⟨w.heap.size+1,0,none⟩=some (.int .i64 (kn:Int))):=⟨fun w1 hb=>cell_at ((hb.block _ (lt_of_row L1.out)).trans L1.out) (by rw[←HC.out];rfl)⟩
 have HcL:Away (∀ w1:World,Below u1.heap.size u1 w1→w1.cell? ⟨w.heap.size+1,1,none⟩=some (.int .i64 (ln:Int))):=⟨fun w1 hb=>cell_at ((hb.block _ (lt_of_row L1.out)).trans L1.out) (by rw[←HC.out];rfl)⟩
 have hln8:ln≤8:=Hl.out.2
 have hkn8:kn≤8:=Hk.out.2
 have cK1:=HcK.out u1 (Below.refl _ _)
 clear hb1
 go_wp2_with (at_make;refine wpList_make_full _ rfl (.tmp 14) (.tmp 14) 63 rfl u1.heap.size 67 j0 (.slice none 0 0) 1 Tryz.underlying63 HJ.out.1 HJ.out.2.1 HJ.out.2.2.1 .i64 .i64 kn kn kn rfl rfl rfl rfl (by rw[HJ.out.2.2.2];omega) (by unfold maxLen;omega) (Nat.le_refl _) ?_)
 intro w3 hown hgr
 obtain⟨hrow,hb3⟩:=made_ou hown hgr
 obtain⟨gm,hgm⟩:∃ x,u1.heap.size=x:=⟨_,rfl⟩
 rw[hgm]at hrow
 have B3:Away (Below u1.heap.size u1 w3):=⟨hb3⟩
 have Hgm:Away (u1.heap.size=gm):=⟨hgm⟩
 have O3:Away (∃ vs,vs.length=0∧w3.heap[gm]? = some (.cells (OU vs (kn-0)) 67 (0,0))∧Rowl w3 gm (some gm) vs ln q):=⟨[],rfl,hrow,rows_nil _ _ _ _ _⟩
 rw[hgm]
 clear hown hgr hrow hb3 cK1 hgm
 go_wp2_with fail
 go_loopw [18] (fun v wr=>∃ r:Nat,r≤kn∧v=.int .i64 (r:Int)∧Away (∃ vs,vs.length=r∧wr.heap[gm]? = some (.cells (OU vs (kn-r)) 67 (0,0))∧Rowl wr gm (some gm) vs ln q)∧Away (Below u1.heap.size u1 wr)) (fun v _=>kn-(intOf v).toNat)
 case atStart=>exact⟨0,Nat.zero_le _,rfl,O3,B3⟩
 case round=>
  clear O3
  obtain⟨r,hr,rfl,HO,Hb⟩:=hrel
  rename World=>wo
  by_cases hlt:r<kn
  ·have hltz:(r:Int)<(kn:Int):=by omega
   have hr8:r<8:=by omega
   obtain⟨vs,hvl,hov,hrv⟩:=HO.out
   have hgl:gm<wo.heap.size:=lt_of_row hov
   have cL1:=HcL.out wo Hb.out
   have Hov:=Away.mk hov
   have Hrv:=Away.mk hrv
   have Hvl:=Away.mk hvl
   clear hov hrv hvl HO
   go_wp2_with (at_make;refine wpList_make_full _ rfl (.tmp 24) (.tmp 24) 67 rfl wo.heap.size 109 i0 (.agg z) 256 Tryz.underlying67 HI.out.1 HI.out.2.1 HI.out.2.2.1 .i64 .i64 ln ln ln rfl rfl rfl rfl (by rw[HI.out.2.2.2];omega) (by unfold maxLen;omega) (Nat.le_refl _) ?_)
   intro w5 hown hgr
   obtain⟨hrow,hb5⟩:=made_row HZ.out hown hgr
   obtain⟨gr,hgr2⟩:∃ x,wo.heap.size=x:=⟨_,rfl⟩
   rw[hgr2]at hrow hgl ⊢
   have Hgr:Away (wo.heap.size=gr):=⟨hgr2⟩
   have A5:Away (At gm (OU vs (kn-r)) 67 w5 w5):=⟨At.refl ((hb5.block _ (by rw[hgr2];exact hgl)).trans Hov.out)⟩
   have R5:Away (w5.heap[gr]? = some (.cells (RW ln fun _ _=>0) 109 (0,0))):=⟨hrow⟩
   have HB5:Away (Below wo.heap.size wo w5):=⟨hb5⟩
   have Hset:Away ((OU vs (kn-r)).setIfInBounds r (.slice (some ⟨gr,0,none⟩) ln ln)=OU (vs ++ [.slice (some ⟨gr,0,none⟩) ln ln]) (kn-(r+1))):=⟨by
    have:=ou_set vs (kn-(r+1)) (.slice (some ⟨gr,0,none⟩) ln ln)
    rw[Hvl.out,show kn-(r+1)+1=kn-r by omega]at this
    exact this⟩
   have Hin:Away (r<(OU vs (kn-r)).size):=⟨by rw[ou_size,Hvl.out];omega⟩
   clear hown hgr hrow hb5 hgr2 cL1
   go_wp2_with ((with_reducible refine wpList_put A5 rfl _ _ _ rfl r (.slice (some ⟨gr,0,none⟩) ln ln) rfl rfl ?hz rfl Hin.out rfl ?_);(case hz=>kernel_rfl);intro wn A6;rw[Hset.out]at A6;have hcr:wn.cell? ⟨gm,r,none⟩=some (.slice (some ⟨gr,0,none⟩) ln ln):=by rw[A6.out.cell,←Hvl.out];exact ou_last _ _ _)
   have R6:Away (wn.heap[gr]? = some (.cells (RW ln fun _ _=>0) 109 (0,0))):=⟨A6.out.other (lt_of_row R5.out) (by omega) R5.out⟩
   have Hbl:Away (∀ g,g<wo.heap.size→g≠gm→wn.heap[g]? = wo.heap[g]?):=⟨fun g h1 h2=>(A6.out.block g (Nat.lt_of_lt_of_le h1 HB5.out.size) h2).trans (HB5.out.block g h1)⟩
   have BN:Away (Below u1.heap.size u1 wn):=⟨Hb.out.trans ((HB5.out.mono Hb.out.size).trans (A6.out.below (Nat.le_trans Hb.out.size HB5.out.size) (Nat.le_of_eq Hgm.out)))⟩
   have Rm:Away (wn.heap[gm]? = some (.cells (OU (vs ++ [.slice (some ⟨gr,0,none⟩) ln ln]) (kn-(r+1))) 67 (0,0))):=⟨A6.out.row⟩
   have Hws:Away (wo.heap.size≤wn.heap.size):=⟨Nat.le_trans HB5.out.size A6.out.size⟩
   have A7:Away (At gr (RW ln (fst (q r) 0)) 109 wn wn):=⟨by rw[fst_zero];exact At.refl R6.out⟩
   have Hgu:Away (u1.heap.size≤gr):=⟨by have:=Hb.out.size;rw[Hgr.out]at this;exact this⟩
   clear A5 A6 R5 R6 Hset Hin HB5 hcr
   go_loopw [32] (fun v wr=>∃ c:Nat,c≤ln∧v=.int .i64 (c:Int)∧Away (At gr (RW ln (fst (q r) c)) 109 wn wr)) (fun v _=>ln-(intOf v).toNat)
   case atStart=>exact⟨0,Nat.zero_le _,rfl,A7⟩
   case round=>
    clear A7
    obtain⟨c,hc,rfl,A0⟩:=hrel
    have BU:Away (Below u1.heap.size u1 wr):=⟨BN.out.trans (A0.out.below BN.out.size Hgu.out)⟩
    have BE:Away (Below w.heap.size w wr):=⟨B1.out.trans (BU.out.mono B1.out.size)⟩
    by_cases hclt:c<ln
    ·have hcz:(c:Int)<(ln:Int):=by omega
     have hc8:c<8:=by omega
     have T2:Away (wr.heap[w.heap.size]? = some (.cells T 34 (0,0))):=⟨(BU.out.block _ (lt_of_row T1.out)).trans T1.out⟩
     have HPr:Away (∀ w1:World,Calls Tryz.prog 92 #[.int .i64 (c:Int),.int .i64 (r:Int)] w1 fun e w'=>e=.returned (.string (x2 c r))∧Below w1.heap.size w1 w'):=⟨fun w1=>pair_any c r (by omega) (by omega) w1⟩
     have HSr:Away (∀ w1:World,Below w.heap.size w w1→Calls Tryz.prog 98 #[.agg T,.string (sd++x2 c r)] w1 fun x w'=>x=.returned (.agg (FL .i64 256 (q r c)))∧Below w1.heap.size w1 w'):=⟨fun w1 hb=>HSm.out r c hr8 hc8 w1 hb⟩
     have Rw:Away (wr.heap[gm]? = some (.cells (OU (vs ++ [.slice (some ⟨gr,0,none⟩) ln ln]) (kn-(r+1))) 67 (0,0))):=⟨A0.out.other (lt_of_row Rm.out) (by omega) Rm.out⟩
     have cr2:∀ d os,(Go.Sort.grow (redrawn wr d) os).cell? ⟨gm,r,none⟩=some (.slice (some ⟨gr,0,none⟩) ln ln):=fun d os=>cell_at (((below_regrown wr d os).block _ (lt_of_row Rw.out)).trans Rw.out) (by rw[←Hvl.out];exact ou_last _ _ _)
     obtain⟨X,HX⟩:=ex_eq (x2 c r)
     rw[HX.out]at HPr HSr
     have hXs:X.size=2:=by rw[←HX.out];rfl
     have hsz:(9223372036854775807<sd.size+2)=False:=by have:=Hsd.out;simp;omega
     obtain⟨F,HF⟩:=ex_eq (FL .i64 256 (q r c))
     rw[HF.out]at HSr
     obtain⟨o6,ho6⟩:∃ o6,c*256=o6:=⟨_,rfl⟩
     have Ho6:=Away.mk ho6
     have Hclt:=Away.mk hclt
     have Hup:Away (ups (fst (q r) c) c (q r c)=fst (q r) (c+1)):=⟨ups_fst (q r) c⟩
     clear HX
     go_wp2_with fail
     refine qtail.region_below_tail 12 (by kernel_rfl) (by kernel_rfl) ?_
     iterate 5 (quiet_step (skip))
     refine wpQuiet_load rfl 34 _ rfl _ rfl 34 _ _ (fun w' hC=>heap_regrown T2.out hC) Tryz.underlying34 rfl HTz.out ?_
     iterate 3 (quiet_step (skip))
     quiet_step (exact Calls.regrown_of (HPr.out _))
     quiet_step (skip)
     quiet_step (exact Calls.regrown_of (HSr.out _ (BE.out.trans ((below_regrown _ _ _).mono BE.out.size))))
     refine wpQuiet_nil ?_
     intro w8 hC
     have hbn:Below wr.heap.size wr w8:=by
      obtain⟨pp,rfl⟩:=hC
      exact below_regrown _ _ _
     have A8:Away (At gr (RW ln (fst (q r) c)) 109 wn w8):=⟨A0.out.later hbn⟩
     clear hC hbn A0 hXs hsz HPr HSr cr2
     simp only[List.drop_succ_cons,List.drop_zero]
     go_wp2_with ((with_reducible refine wpList_putp A8 HF.out Hclt.out Ho6.out rfl _ _ rfl rfl ?hx ?hy ?_);(case hx=>exact rfl);(case hy=>exact rfl);intro w9 A9;rw[Hup.out]at A9)
     go_roundw
     case rel=>exact⟨c+1,by have:=Hclt.out;omega,by go_num,A9⟩
     case measure=>have:=Hclt.out;simp[intOf];omega
    ·obtain rfl:c=ln:=by omega
     have hbl2:∀ g,g<wo.heap.size→g≠gm→wr.heap[g]? = wo.heap[g]? := fun g h1 h2=>(A0.out.block g (Nat.lt_of_lt_of_le h1 Hws.out) (by have:=Hgr.out;omega)).trans (Hbl.out g h1 h2)
     have Rw:wr.heap[gm]? = some (.cells (OU (vs ++ [.slice (some ⟨gr,0,none⟩) c c]) (kn-(r+1))) 67 (0,0)):=A0.out.other (lt_of_row Rm.out) (by omega) Rm.out
     have hH:Holds wr wo.heap.size (.slice (some ⟨gr,0,none⟩) c c) c (q r):=row_holds A0.out.row (Nat.le_of_eq Hgr.out) (fun i hi=>fst_lt (q r) c i hi)
     have hR1:=rowl_blocks Hrv.out (Nat.le_trans Hws.out A0.out.size) hbl2
     have hR2:=Rowl.snoc (x:=.slice (some ⟨gm,0,none⟩) kn kn) (y:=.slice (some ⟨gr,0,none⟩) c c) hR1 (by rw[Hvl.out];exact hH) (Nat.le_of_lt (by have:=Hgr.out;omega)) (fun k hk=>by
      have e:gm=k:=by injection hk
      have:=Hgr.out
      omega)
     have O8:Away (∃ vs,vs.length=r+1∧wr.heap[gm]? = some (.cells (OU vs (kn-(r+1))) 67 (0,0))∧Rowl wr gm (some gm) vs c q):=⟨_,by rw[List.length_append,Hvl.out];rfl,Rw,hR2⟩
     clear hbl2 Rw hH hR1 hR2 A0
     go_wp2_with fail
     go_roundw
     case rel=>exact⟨r+1,by omega,by go_num,O8,BU⟩
     case measure=>simp[intOf];omega
  ·obtain rfl:r=kn:=by omega
   obtain⟨vs,hvl,hov,hrv⟩:=HO.out
   rw[Nat.sub_self]at hov
   have Fx:Away (wo.ownsRow w.heap.size 67 1 (.slice (some ⟨gm,0,none⟩) r r) r vs):=⟨by omega,Or.inr ⟨gm,r,_,rfl,Nat.le_trans B1.out.size (Nat.le_of_eq Hgm.out),hov,Nat.le_refl _,by unfold maxLen;omega,by rw[ou_size];omega,by unfold OU;rw[List.replicate_zero,List.append_nil];show vs.take (r*1)=vs;exact List.take_of_length_le (by omega)⟩⟩
   have Gx:Away (Rowl wo w.heap.size (some gm) vs ln q):=⟨hrv.base (Nat.le_trans B1.out.size (Nat.le_of_eq Hgm.out))⟩
   clear hov hrv hvl HO
   go_wp2_with fail
   go_ret
   exact⟨⟨_,vs,rfl,Fx.out,Gx.out⟩,B1.out.trans (Hb.out.mono B1.out.size)⟩
end qmat
namespace qsec
open Go Go.RowKit
open arr mem stil polys polt rbitb rbitc rndm pols saml qpair qrow helda
section
variable {P:Program} {ops:Array Oper} {Q:Exit→Act→World→Prop} {S:World→Prop}
theorem hk_two {b:Array Bool} {k1 k2:Nat} {ks:List Nat} {o1 o2:Oper} {rest:List Oper} {a:Act} {w:World} (hw1:Region.wanted o1 (yielded ops a.tmps)=true) (hw2:Region.wanted o2 (yielded ops a.tmps)=true) (hr:Region.ready .any ops b=[k1,k2])
 (h1:∀ K:Act→World→Prop,(∀ a' w',S w'→HK P ops Q S (b.setIfInBounds k1 true) (o2 :: rest) (k2 :: ks) a' w'→K a' w')→o1.wp P a w K Q)
 (h2:∀ K:Act→World→Prop,(∀ a' w',S w'→HK P ops Q S (b.setIfInBounds k2 true) (o1 :: rest) (k1 :: ks) a' w'→K a' w')→o2.wp P a w K Q):HK P ops Q S b (o1 :: o2 :: rest) (k1 :: k2 :: ks) a w:=fun hl=>by
 simp only[List.map_cons,List.cons.injEq]at hl
 obtain⟨e1,e2,e3⟩:=hl
 refine wpAnyH_all hr (by simp) fun j hj=>?_
 simp only[List.mem_cons,List.not_mem_nil,or_false]at hj
 rcases hj with rfl | rfl
 ·unfold Go.wpOp
  simp only[e1,hw1,if_true]
  exact Or.inl (h1 _ fun a' w' hs hh=>⟨hs,hh (by simp only[List.map_cons,e2,e3])⟩)
 ·unfold Go.wpOp
  simp only[e2,hw2,if_true]
  exact Or.inl (h2 _ fun a' w' hs hh=>⟨hs,hh (by simp only[List.map_cons,e1,e3])⟩)
theorem hk_swap {b:Array Bool} {k1 k2:Nat} {ks:List Nat} {o1 o2:Oper} {rest:List Oper} {a:Act} {w:World} (h:HK P ops Q S b (o2 :: o1 :: rest) (k2 :: k1 :: ks) a w):HK P ops Q S b (o1 :: o2 :: rest) (k1 :: k2 :: ks) a w:=fun hl=>by
 simp only[List.map_cons,List.cons.injEq]at hl
 exact h (by simp only[List.map_cons,hl.1,hl.2.1,hl.2.2])
end
theorem secrets_yes {T:Array Value} (kn ln:Nat) (e t a b o s:Int) (sd:ByteArray) (q:Nat→Nat→Int) (w:World) (hT:(Tryz.prog.info? 34).map (·.size)=some T.size) (hk : 1≤kn∧kn≤8) (hl : 1≤ln∧ln≤8) (h:latt (kn:Int) (ln:Int) e t a b o s=true) (hsd:sd.size≤1125899906842624)
 (HS:∀ r:Nat,r<16→∀ w1:World,Below w.heap.size w w1→Calls Tryz.prog 91 #[.agg T,.string (tw sd r 0),.int .i64 e] w1 fun x w'=>x=.returned (.agg (FL .i64 256 (q r)))∧Below w1.heap.size w1 w'):
 Calls Tryz.prog 40 #[.agg T,.agg #[.int .i64 (kn:Int),.int .i64 (ln:Int),.int .i64 e,.int .i64 t,.int .i64 a,.int .i64 b,.int .i64 o,.int .i64 s],.string sd] w fun x w'=>(∃ v1 v2,x=.returned (.tuple #[v1,v2])∧Holds w' w.heap.size v1 ln q∧Holds w' w.heap.size v2 kn (fun i=>q (ln+i)))∧Below w.heap.size w w':=by
 have HR:Away (∀ w1:World,Calls Tryz.prog 38 #[.agg #[.int .i64 (kn:Int),.int .i64 (ln:Int),.int .i64 e,.int .i64 t,.int .i64 a,.int .i64 b,.int .i64 o,.int .i64 s]] w1 fun e0 w'=>e0=.returned (.bool true)∧Below w1.heap.size w1 w'):=⟨fun w1=>by rw[←h];exact rright.right_any _ _ e t a b o s w1⟩
 obtain⟨i0,hi,hz0,hz1,hz2⟩:=parts infoPoly
 obtain⟨hz,hsize⟩:=zero_of_info polt.infoP
 obtain⟨z,HZ⟩:=ex_eq (FL .i64 256 fun _=>0)
 rw[HZ.out]at hz hz0
 have HI:=Away.mk (And.intro hi (And.intro hz0 (And.intro hz1 hz2)))
 have hbytes:i0.bytes=2048:=hz2
 clear hi hz0 hz1 hz2 hsize
 obtain⟨C,HC⟩:=ex_eq (#[.int .i64 (kn:Int),.int .i64 (ln:Int),.int .i64 e,.int .i64 t,.int .i64 a,.int .i64 b,.int .i64 o,.int .i64 s]:Array Value)
 rw[HC.out]at HR ⊢
 have HCs:Away ((Tryz.prog.info? 37).map (·.size)=some C.size):=⟨by rw[←HC.out];kernel_rfl⟩
 obtain⟨W,hW⟩:∃ x,(w.alloc (.cells T 34)).alloc (.cells C 37)=x:=⟨_,rfl⟩
 obtain⟨r0,r1,hWs,b0⟩:=two hW
 have T0:Away (W.heap[w.heap.size]? = some (.cells T 34 (0,0))):=⟨r0⟩
 have L0:Away (W.heap[w.heap.size+1]? = some (.cells C 37 (0,0))):=⟨r1⟩
 have BW:=Away.mk b0
 have HWs:=Away.mk hWs
 have HW:=Away.mk hW
 have HSm:=Away.mk HS
 have HTz:=Away.mk hT
 have Hk:=Away.mk hk
 have Hl:=Away.mk hl
 have Hsd:=Away.mk hsd
 clear hW r0 r1 b0 h HS hT hk hl hsd hWs
 go_enter Tryz.func40,Tryz.ntmps40
 go_wp2_with (first
  | (rw[HW.out])
  | (refine wpList_load_row rfl 37 _ rfl (w.heap.size+1) rfl 37 _ (0,0) _ L0.out Tryz.underlying37 rfl HCs.out ?_))
 refine(HR.out _).mono ?_
 rintro x u1 ⟨rfl,hb1⟩
 have B1:Away (Below w.heap.size w u1):=⟨BW.out.trans (hb1.mono (by rw[HWs.out];omega))⟩
 have T1:Away (u1.heap[w.heap.size]? = some (.cells T 34 (0,0))):=⟨(hb1.block _ (by rw[HWs.out];omega)).trans T0.out⟩
 have L1:Away (u1.heap[w.heap.size+1]? = some (.cells C 37 (0,0))):=⟨(hb1.block _ (by rw[HWs.out];omega)).trans L0.out⟩
 have HcK:Away (∀ w1:World,Below u1.heap.size u1 w1→w1.cell? ⟨w.heap.size+1,0,none⟩=some (.int .i64 (kn:Int))):=⟨fun w1 hb=>cell_at ((hb.block _ (lt_of_row L1.out)).trans L1.out) (by rw[←HC.out];rfl)⟩
 have HcL:Away (∀ w1:World,Below u1.heap.size u1 w1→w1.cell? ⟨w.heap.size+1,1,none⟩=some (.int .i64 (ln:Int))):=⟨fun w1 hb=>cell_at ((hb.block _ (lt_of_row L1.out)).trans L1.out) (by rw[←HC.out];rfl)⟩
 have HcE:Away (∀ w1:World,Below u1.heap.size u1 w1→w1.cell? ⟨w.heap.size+1,2,none⟩=some (.int .i64 e)):=⟨fun w1 hb=>cell_at ((hb.block _ (lt_of_row L1.out)).trans L1.out) (by rw[←HC.out];rfl)⟩
 have hln8:ln≤8:=Hl.out.2
 have hkn8:kn≤8:=Hk.out.2
 clear hb1
 go_wp2_with fail
 obtain⟨B0,hB0⟩:∃ x,u1.heap.size=x:=⟨_,rfl⟩
 refine hk_begin B0 8 [0,1,3,4,2,5,6,7] (by kernel_rfl) rfl rfl (by decide) (fun hS ops HO=>?_)
 simp only[List.filterMap_cons,List.filterMap_nil,List.getElem?_cons_succ,List.getElem?_cons_zero]
 (focus (refine heldb.hk_t (v:=?_) (by rw[←HO.out];kernel_rfl) (fun _ _ _ h=>h) ?_ hS ?_;rotate_left;focus (intro w9 h9;go_simp;first | done | with_reducible rfl);all_goals skip))
 simp only[Act.put,heldb.pa,heldb.pb,heldb.pc]
 (focus (refine heldb.hk_t (v:=?_) (by rw[←HO.out];kernel_rfl) (fun _ _ _ h=>h) ?_ hS ?_;rotate_left;focus (intro w9 h9;have hc:=HcL.out w9 (by rw[hB0];exact h9);go_simp;first | done | with_reducible rfl);all_goals skip))
 simp only[Act.put,heldb.pa,heldb.pb,heldb.pc]
 (focus (refine heldb.hk_t (v:=?_) (by rw[←HO.out];kernel_rfl) (fun _ _ _ h=>h) ?_ hS ?_;rotate_left;focus (intro w9 h9;go_simp;first | done | with_reducible rfl);all_goals skip))
 simp only[Act.put,heldb.pa,heldb.pb,heldb.pc]
 (focus (refine heldb.hk_t (v:=?_) (by rw[←HO.out];kernel_rfl) (fun _ _ _ h=>h) ?_ hS ?_;rotate_left;focus (intro w9 h9;have hc:=HcK.out w9 (by rw[hB0];exact h9);go_simp;first | done | with_reducible rfl);all_goals skip))
 simp only[Act.put,heldb.pa,heldb.pb,heldb.pc]
 refine hk_two (by rw[←HO.out];kernel_rfl) (by rw[←HO.out];kernel_rfl) (by rw[←HO.out];kernel_rfl) (fun K hK=>?_) (fun K hK=>?_)
 ·refine wp_make_full (.tmp 16) (.tmp 16) 67 rfl 109 i0 (.agg z) 256 Tryz.underlying67 HI.out.1 HI.out.2.1 HI.out.2.2.1 .i64 .i64 ln rfl rfl (by rw[HI.out.2.2.2];omega) (by unfold maxLen;omega) ?_
  intro w3 hown hgr
  obtain⟨hrow,hb3⟩:=made_row HZ.out hown hgr
  have h3:Below u1.heap.size u1 w3:=(Below.refl _ _).drew.trans hb3
  refine hK _ _ (by rw[←hB0];exact h3) ?_
  clear hK K
  obtain⟨ga,hga⟩:∃ x,u1.heap.size=x:=⟨_,rfl⟩
  have R1:w3.heap[ga]? = some (.cells (RW ln fun _ _=>0) 109 (0,0)):=by rw[←hga];exact hrow
  have l1:ga<w3.heap.size:=lt_of_row R1
  show HK _ _ _ _ _ _ _ (Act.put _ _ (.slice (some ⟨u1.heap.size,0,none⟩) ln ln)) _
  rw[hga]
  simp only[Act.put,heldb.pa,heldb.pb,heldb.pc]
  refine hk_swap ?_
  (focus (refine heldb.hk_t (v:=?_) (by rw[←HO.out];kernel_rfl) (fun _ _ _ h=>h) ?_ (by rw[←hB0];exact h3) ?_;rotate_left;focus (intro w9 h9;go_simp;first | done | with_reducible rfl);all_goals skip))
  simp only[Act.put,heldb.pa,heldb.pb,heldb.pc]
  refine heldb.hk_s (by rw[←HO.out];kernel_rfl) (fun K hK=>?_)
  refine wp_make_full (.tmp 19) (.tmp 19) 67 rfl 109 i0 (.agg z) 256 Tryz.underlying67 HI.out.1 HI.out.2.1 HI.out.2.2.1 .i64 .i64 kn rfl rfl (by rw[HI.out.2.2.2];omega) (by unfold maxLen;omega) ?_
  intro w4 hown2 hgr2
  obtain⟨hrow2,hb4⟩:=made_row HZ.out hown2 hgr2
  have h4:Below u1.heap.size u1 w4:=h3.trans (hb4.mono h3.size)
  have h5:Below B0 u1 w4:=by rw[←hB0];exact h4
  refine hK _ _ h5 ?_
  clear hK K
  obtain⟨gb,hgb⟩:∃ x,w3.heap.size=x:=⟨_,rfl⟩
  have R2:w4.heap[gb]? = some (.cells (RW kn fun _ _=>0) 109 (0,0)):=by rw[←hgb];exact hrow2
  have R3:w4.heap[ga]? = some (.cells (RW ln fun _ _=>0) 109 (0,0)):=(hb4.block _ l1).trans R1
  rw[hgb]
  simp only[Act.put,heldb.pa,heldb.pb,heldb.pc]
  (focus (refine heldb.hk_t (v:=?_) (by rw[←HO.out];kernel_rfl) (fun _ _ _ h=>h) ?_ h5 ?_;rotate_left;focus (intro w9 h9;go_simp;first | done | with_reducible rfl);all_goals skip))
  simp only[Act.put,heldb.pa,heldb.pb,heldb.pc]
  refine hk_nil (by rw[←HO.out];kernel_rfl) ?_
  have G1:Away (w4.heap[ga]? = some (.cells (RW ln fun _ _=>0) 109 (0,0))):=⟨R3⟩
  have G2:Away (w4.heap[gb]? = some (.cells (RW kn fun _ _=>0) 109 (0,0))):=⟨R2⟩
  have Hg:Away (ga≠gb∧u1.heap.size≤ga∧u1.heap.size≤gb):=⟨by have:=h3.size;refine⟨?_,?_,?_⟩<;>omega⟩
  have B4:=Away.mk h4
  clear hown hgr hrow hb3 h3 hown2 hgr2 hrow2 hb4 h4 R1 R2 R3 l1 HO hS h5 hB0 hga hgb
  go_wp2_with fail
  have Aga:Away (At ga (RW ln (fst q 0)) 109 w4 w4):=⟨by rw[fst_zero];exact At.refl G1.out⟩
  have BXga:=B4
  go_loopw [23] (fun v wr=>∃ r:Nat,r≤ln∧v=.int .i64 (r:Int)∧Away (At ga (RW ln (fst q r)) 109 w4 wr)) (fun v _=>ln-(intOf v).toNat)
  case atStart=>exact⟨0,Nat.zero_le _,rfl,Aga⟩
  case round=>
   clear Aga
   obtain⟨r,hr,rfl,A0⟩:=hrel
   have BU:Away (Below u1.heap.size u1 wr):=⟨BXga.out.trans (A0.out.below BXga.out.size Hg.out.2.1)⟩
   have BE:Away (Below w.heap.size w wr):=⟨B1.out.trans (BU.out.mono B1.out.size)⟩
   by_cases hlt:r<ln
   ·have hltz:(r:Int)<(ln:Int):=by omega
    have hr16:r<16:=by have:=Hk.out;have:=Hl.out;omega
    have T2:Away (wr.heap[w.heap.size]? = some (.cells T 34 (0,0))):=⟨(BU.out.block _ (lt_of_row T1.out)).trans T1.out⟩
    have HPr:Away (∀ w1:World,Calls Tryz.prog 92 #[.int .i64 (r:Int),.int .i64 0] w1 fun e w'=>e=.returned (.string (x2 r 0))∧Below w1.heap.size w1 w'):=⟨fun w1=>pair_any r 0 (by omega) (by omega) w1⟩
    have HSr:Away (∀ w1:World,Below w.heap.size w w1→Calls Tryz.prog 91 #[.agg T,.string (sd++x2 r 0),.int .i64 e] w1 fun x w'=>x=.returned (.agg (FL .i64 256 (q r)))∧Below w1.heap.size w1 w'):=⟨fun w1 hb=>by
     have:=HSm.out r hr16 w1 hb
     first | exact this | (rw[hM];exact this)⟩
    have cE2:∀ d os,(Go.Sort.grow (redrawn wr d) os).cell? ⟨w.heap.size+1,2,none⟩=some (.int .i64 e):=fun d os=>HcE.out _ (BU.out.trans ((below_regrown _ _ _).mono BU.out.size))
    obtain⟨X,HX⟩:=ex_eq (x2 r 0)
    rw[HX.out]at HPr HSr
    have hXs:X.size=2:=by rw[←HX.out];rfl
    have hsz:(9223372036854775807<sd.size+2)=False:=by have:=Hsd.out;simp;omega
    obtain⟨F,HF⟩:=ex_eq (FL .i64 256 (q r))
    rw[HF.out]at HSr
    obtain⟨o6,ho6⟩:∃ o6,r*256=o6:=⟨_,rfl⟩
    have Ho6:=Away.mk ho6
    have Hlt:=Away.mk hlt
    have Hup:Away (ups (fst q r) r (q r)=fst q (r+1)):=⟨ups_fst q r⟩
    clear HX
    go_wp2_with fail
    refine qtail.region_below_tail 10 (by kernel_rfl) (by kernel_rfl) ?_
    iterate 2 (quiet_step (skip))
    refine wpQuiet_load rfl 34 _ rfl _ rfl 34 _ _ (fun w' hC=>heap_regrown T2.out hC) Tryz.underlying34 rfl HTz.out ?_
    iterate 2 (quiet_step (skip))
    quiet_step (exact Calls.regrown_of (HPr.out _))
    iterate 3 (quiet_step (skip))
    quiet_step (exact Calls.regrown_of (HSr.out _ (BE.out.trans ((below_regrown _ _ _).mono BE.out.size))))
    refine wpQuiet_nil ?_
    intro wn hC
    have hbn:Below wr.heap.size wr wn:=by
     obtain⟨pp,rfl⟩:=hC
     exact below_regrown _ _ _
    have A6:Away (At ga (RW ln (fst q r)) 109 w4 wn):=⟨A0.out.later hbn⟩
    clear hC hbn A0 hXs hsz HPr HSr cE2
    simp only[List.drop_succ_cons,List.drop_zero]
    go_wp2_with ((with_reducible refine wpList_putp A6 HF.out Hlt.out Ho6.out rfl _ _ rfl rfl ?hx ?hy ?_);(case hx=>exact rfl);(case hy=>exact rfl);intro w7 A7;rw[Hup.out]at A7)
    go_roundw
    case rel=>exact⟨r+1,by have:=Hlt.out;omega,by go_num,A7⟩
    case measure=>have:=Hlt.out;simp[intOf];omega
   ·obtain rfl:r=ln:=by omega
    rename World=>wo
    have F1:Away (wo.heap[ga]? = some (.cells (RW r (fst q r)) 109 (0,0))):=⟨A0.out.row⟩
    have Agb:Away (At gb (RW kn (fst (fun i=>q (r+i)) 0)) 109 wo wo):=⟨by rw[fst_zero];exact At.refl (A0.out.other (lt_of_row G2.out) (Ne.symm Hg.out.1) G2.out)⟩
    have BXgb:=BU
    clear A0 G1 G2
    go_wp2_with fail
    go_loopw [40] (fun v wr=>∃ r2:Nat,r2≤kn∧v=.int .i64 (r2:Int)∧Away (At gb (RW kn (fst (fun i=>q (r+i)) r2)) 109 wo wr)) (fun v _=>kn-(intOf v).toNat)
    case atStart=>exact⟨0,Nat.zero_le _,rfl,Agb⟩
    case round=>
     clear Agb
     obtain⟨r2,hr,rfl,A0⟩:=hrel
     have BU:Away (Below u1.heap.size u1 wr):=⟨BXgb.out.trans (A0.out.below BXgb.out.size Hg.out.2.2)⟩
     have BE:Away (Below w.heap.size w wr):=⟨B1.out.trans (BU.out.mono B1.out.size)⟩
     by_cases hlt:r2<kn
     ·have hltz:(r2:Int)<(kn:Int):=by omega
      have hr16:(r+r2)<16:=by have:=Hk.out;have:=Hl.out;omega
      obtain⟨M,hM⟩:∃ M,r+r2=M:=⟨_,rfl⟩
      have fM:IntKind.i64.wrap ((r:Int)+(r2:Int))=(M:Int):=by rw[IntKind.wrap_i64];omega
      have cL2:∀ d os,(Go.Sort.grow (redrawn wr d) os).cell? ⟨w.heap.size+1,1,none⟩=some (.int .i64 (r:Int)):=fun d os=>HcL.out _ (BU.out.trans ((below_regrown _ _ _).mono BU.out.size))
      have T2:Away (wr.heap[w.heap.size]? = some (.cells T 34 (0,0))):=⟨(BU.out.block _ (lt_of_row T1.out)).trans T1.out⟩
      have HPr:Away (∀ w1:World,Calls Tryz.prog 92 #[.int .i64 (M:Int),.int .i64 0] w1 fun e w'=>e=.returned (.string (x2 M 0))∧Below w1.heap.size w1 w'):=⟨fun w1=>pair_any M 0 (by omega) (by omega) w1⟩
      have HSr:Away (∀ w1:World,Below w.heap.size w w1→Calls Tryz.prog 91 #[.agg T,.string (sd++x2 M 0),.int .i64 e] w1 fun x w'=>x=.returned (.agg (FL .i64 256 (q (r+r2))))∧Below w1.heap.size w1 w'):=⟨fun w1 hb=>by
       have:=HSm.out (r+r2) hr16 w1 hb
       rw[hM]at this
       first | exact this | (rw[hM];exact this)⟩
      have cE2:∀ d os,(Go.Sort.grow (redrawn wr d) os).cell? ⟨w.heap.size+1,2,none⟩=some (.int .i64 e):=fun d os=>HcE.out _ (BU.out.trans ((below_regrown _ _ _).mono BU.out.size))
      obtain⟨X,HX⟩:=ex_eq (x2 M 0)
      rw[HX.out]at HPr HSr
      have hXs:X.size=2:=by rw[←HX.out];rfl
      have hsz:(9223372036854775807<sd.size+2)=False:=by have:=Hsd.out;simp;omega
      obtain⟨F,HF⟩:=ex_eq (FL .i64 256 (q (r+r2)))
      rw[HF.out]at HSr
      obtain⟨o6,ho6⟩:∃ o6,r2*256=o6:=⟨_,rfl⟩
      have Ho6:=Away.mk ho6
      have Hlt:=Away.mk hlt
      have Hup:Away (ups (fst (fun i=>q (r+i)) r2) r2 (q (r+r2))=fst (fun i=>q (r+i)) (r2+1)):=⟨ups_fst (fun i=>q (r+i)) r2⟩
      clear HX
      go_wp2_with fail
      refine qtail.region_below_tail 13 (by kernel_rfl) (by kernel_rfl) ?_
      iterate 2 (quiet_step (skip))
      refine wpQuiet_load rfl 34 _ rfl _ rfl 34 _ _ (fun w' hC=>heap_regrown T2.out hC) Tryz.underlying34 rfl HTz.out ?_
      iterate 5 (quiet_step (skip))
      quiet_step (exact Calls.regrown_of (HPr.out _))
      iterate 3 (quiet_step (skip))
      quiet_step (exact Calls.regrown_of (HSr.out _ (BE.out.trans ((below_regrown _ _ _).mono BE.out.size))))
      refine wpQuiet_nil ?_
      intro wn hC
      have hbn:Below wr.heap.size wr wn:=by
       obtain⟨pp,rfl⟩:=hC
       exact below_regrown _ _ _
      have A6:Away (At gb (RW kn (fst (fun i=>q (r+i)) r2)) 109 wo wn):=⟨A0.out.later hbn⟩
      clear hC hbn A0 hXs hsz HPr HSr cE2 fM cL2 hM
      simp only[List.drop_succ_cons,List.drop_zero]
      go_wp2_with ((with_reducible refine wpList_putp A6 HF.out Hlt.out Ho6.out rfl _ _ rfl rfl ?hx ?hy ?_);(case hx=>exact rfl);(case hy=>exact rfl);intro w7 A7;rw[Hup.out]at A7)
      go_roundw
      case rel=>exact⟨r2+1,by have:=Hlt.out;omega,by go_num,A7⟩
      case measure=>have:=Hlt.out;simp[intOf];omega
     ·obtain rfl:r2=kn:=by omega
      have H1:Away (Holds wr w.heap.size (.slice (some ⟨ga,0,none⟩) r r) r q):=⟨row_holds (A0.out.other (lt_of_row F1.out) Hg.out.1 F1.out) (Nat.le_trans B1.out.size Hg.out.2.1) (fun i hi=>fst_lt q r i hi)⟩
      have H2:Away (Holds wr w.heap.size (.slice (some ⟨gb,0,none⟩) r2 r2) r2 (fun i=>q (r+i))):=⟨row_holds A0.out.row (Nat.le_trans B1.out.size Hg.out.2.2) (fun i hi=>fst_lt (fun i=>q (r+i)) r2 i hi)⟩
      clear A0 F1
      go_wp2_with fail
      go_ret2
      exact⟨⟨_,_,rfl,H1.out,H2.out⟩,BE.out⟩
 ·refine wp_make_full (.tmp 19) (.tmp 19) 67 rfl 109 i0 (.agg z) 256 Tryz.underlying67 HI.out.1 HI.out.2.1 HI.out.2.2.1 .i64 .i64 kn rfl rfl (by rw[HI.out.2.2.2];omega) (by unfold maxLen;omega) ?_
  intro w3 hown hgr
  obtain⟨hrow,hb3⟩:=made_row HZ.out hown hgr
  have h3:Below u1.heap.size u1 w3:=(Below.refl _ _).drew.trans hb3
  refine hK _ _ (by rw[←hB0];exact h3) ?_
  clear hK K
  obtain⟨gb,hgb⟩:∃ x,u1.heap.size=x:=⟨_,rfl⟩
  have R1:w3.heap[gb]? = some (.cells (RW kn fun _ _=>0) 109 (0,0)):=by rw[←hgb];exact hrow
  have l1:gb<w3.heap.size:=lt_of_row R1
  show HK _ _ _ _ _ _ _ (Act.put _ _ (.slice (some ⟨u1.heap.size,0,none⟩) kn kn)) _
  rw[hgb]
  simp only[Act.put,heldb.pa,heldb.pb,heldb.pc]
  refine heldb.hk_s (by rw[←HO.out];kernel_rfl) (fun K hK=>?_)
  refine wp_make_full (.tmp 16) (.tmp 16) 67 rfl 109 i0 (.agg z) 256 Tryz.underlying67 HI.out.1 HI.out.2.1 HI.out.2.2.1 .i64 .i64 ln rfl rfl (by rw[HI.out.2.2.2];omega) (by unfold maxLen;omega) ?_
  intro w4 hown2 hgr2
  obtain⟨hrow2,hb4⟩:=made_row HZ.out hown2 hgr2
  have h4:Below u1.heap.size u1 w4:=h3.trans (hb4.mono h3.size)
  have h5:Below B0 u1 w4:=by rw[←hB0];exact h4
  refine hK _ _ h5 ?_
  clear hK K
  obtain⟨ga,hga⟩:∃ x,w3.heap.size=x:=⟨_,rfl⟩
  have R2:w4.heap[ga]? = some (.cells (RW ln fun _ _=>0) 109 (0,0)):=by rw[←hga];exact hrow2
  have R3:w4.heap[gb]? = some (.cells (RW kn fun _ _=>0) 109 (0,0)):=(hb4.block _ l1).trans R1
  rw[hga]
  iterate 2 (simp only[Act.put,heldb.pa,heldb.pb,heldb.pc];(focus (refine heldb.hk_t (v:=?_) (by rw[←HO.out];kernel_rfl) (fun _ _ _ h=>h) ?_ h5 ?_;rotate_left;focus (intro w9 h9;go_simp;first | done | with_reducible rfl);all_goals skip)))
  simp only[Act.put,heldb.pa,heldb.pb,heldb.pc]
  refine hk_nil (by rw[←HO.out];kernel_rfl) ?_
  have G1:Away (w4.heap[ga]? = some (.cells (RW ln fun _ _=>0) 109 (0,0))):=⟨R2⟩
  have G2:Away (w4.heap[gb]? = some (.cells (RW kn fun _ _=>0) 109 (0,0))):=⟨R3⟩
  have Hg:Away (ga≠gb∧u1.heap.size≤ga∧u1.heap.size≤gb):=⟨by have:=h3.size;refine⟨?_,?_,?_⟩<;>omega⟩
  have B4:=Away.mk h4
  clear hown hgr hrow hb3 h3 hown2 hgr2 hrow2 hb4 h4 R1 R2 R3 l1 HO hS h5 hB0 hgb hga
  go_wp2_with fail
  have Aga:Away (At ga (RW ln (fst q 0)) 109 w4 w4):=⟨by rw[fst_zero];exact At.refl G1.out⟩
  have BXga:=B4
  go_loopw [23] (fun v wr=>∃ r:Nat,r≤ln∧v=.int .i64 (r:Int)∧Away (At ga (RW ln (fst q r)) 109 w4 wr)) (fun v _=>ln-(intOf v).toNat)
  case atStart=>exact⟨0,Nat.zero_le _,rfl,Aga⟩
  case round=>
   clear Aga
   obtain⟨r,hr,rfl,A0⟩:=hrel
   have BU:Away (Below u1.heap.size u1 wr):=⟨BXga.out.trans (A0.out.below BXga.out.size Hg.out.2.1)⟩
   have BE:Away (Below w.heap.size w wr):=⟨B1.out.trans (BU.out.mono B1.out.size)⟩
   by_cases hlt:r<ln
   ·have hltz:(r:Int)<(ln:Int):=by omega
    have hr16:r<16:=by have:=Hk.out;have:=Hl.out;omega
    have T2:Away (wr.heap[w.heap.size]? = some (.cells T 34 (0,0))):=⟨(BU.out.block _ (lt_of_row T1.out)).trans T1.out⟩
    have HPr:Away (∀ w1:World,Calls Tryz.prog 92 #[.int .i64 (r:Int),.int .i64 0] w1 fun e w'=>e=.returned (.string (x2 r 0))∧Below w1.heap.size w1 w'):=⟨fun w1=>pair_any r 0 (by omega) (by omega) w1⟩
    have HSr:Away (∀ w1:World,Below w.heap.size w w1→Calls Tryz.prog 91 #[.agg T,.string (sd++x2 r 0),.int .i64 e] w1 fun x w'=>x=.returned (.agg (FL .i64 256 (q r)))∧Below w1.heap.size w1 w'):=⟨fun w1 hb=>by
     have:=HSm.out r hr16 w1 hb
     first | exact this | (rw[hM];exact this)⟩
    have cE2:∀ d os,(Go.Sort.grow (redrawn wr d) os).cell? ⟨w.heap.size+1,2,none⟩=some (.int .i64 e):=fun d os=>HcE.out _ (BU.out.trans ((below_regrown _ _ _).mono BU.out.size))
    obtain⟨X,HX⟩:=ex_eq (x2 r 0)
    rw[HX.out]at HPr HSr
    have hXs:X.size=2:=by rw[←HX.out];rfl
    have hsz:(9223372036854775807<sd.size+2)=False:=by have:=Hsd.out;simp;omega
    obtain⟨F,HF⟩:=ex_eq (FL .i64 256 (q r))
    rw[HF.out]at HSr
    obtain⟨o6,ho6⟩:∃ o6,r*256=o6:=⟨_,rfl⟩
    have Ho6:=Away.mk ho6
    have Hlt:=Away.mk hlt
    have Hup:Away (ups (fst q r) r (q r)=fst q (r+1)):=⟨ups_fst q r⟩
    clear HX
    go_wp2_with fail
    refine qtail.region_below_tail 10 (by kernel_rfl) (by kernel_rfl) ?_
    iterate 2 (quiet_step (skip))
    refine wpQuiet_load rfl 34 _ rfl _ rfl 34 _ _ (fun w' hC=>heap_regrown T2.out hC) Tryz.underlying34 rfl HTz.out ?_
    iterate 2 (quiet_step (skip))
    quiet_step (exact Calls.regrown_of (HPr.out _))
    iterate 3 (quiet_step (skip))
    quiet_step (exact Calls.regrown_of (HSr.out _ (BE.out.trans ((below_regrown _ _ _).mono BE.out.size))))
    refine wpQuiet_nil ?_
    intro wn hC
    have hbn:Below wr.heap.size wr wn:=by
     obtain⟨pp,rfl⟩:=hC
     exact below_regrown _ _ _
    have A6:Away (At ga (RW ln (fst q r)) 109 w4 wn):=⟨A0.out.later hbn⟩
    clear hC hbn A0 hXs hsz HPr HSr cE2
    simp only[List.drop_succ_cons,List.drop_zero]
    go_wp2_with ((with_reducible refine wpList_putp A6 HF.out Hlt.out Ho6.out rfl _ _ rfl rfl ?hx ?hy ?_);(case hx=>exact rfl);(case hy=>exact rfl);intro w7 A7;rw[Hup.out]at A7)
    go_roundw
    case rel=>exact⟨r+1,by have:=Hlt.out;omega,by go_num,A7⟩
    case measure=>have:=Hlt.out;simp[intOf];omega
   ·obtain rfl:r=ln:=by omega
    rename World=>wo
    have F1:Away (wo.heap[ga]? = some (.cells (RW r (fst q r)) 109 (0,0))):=⟨A0.out.row⟩
    have Agb:Away (At gb (RW kn (fst (fun i=>q (r+i)) 0)) 109 wo wo):=⟨by rw[fst_zero];exact At.refl (A0.out.other (lt_of_row G2.out) (Ne.symm Hg.out.1) G2.out)⟩
    have BXgb:=BU
    clear A0 G1 G2
    go_wp2_with fail
    go_loopw [40] (fun v wr=>∃ r2:Nat,r2≤kn∧v=.int .i64 (r2:Int)∧Away (At gb (RW kn (fst (fun i=>q (r+i)) r2)) 109 wo wr)) (fun v _=>kn-(intOf v).toNat)
    case atStart=>exact⟨0,Nat.zero_le _,rfl,Agb⟩
    case round=>
     clear Agb
     obtain⟨r2,hr,rfl,A0⟩:=hrel
     have BU:Away (Below u1.heap.size u1 wr):=⟨BXgb.out.trans (A0.out.below BXgb.out.size Hg.out.2.2)⟩
     have BE:Away (Below w.heap.size w wr):=⟨B1.out.trans (BU.out.mono B1.out.size)⟩
     by_cases hlt:r2<kn
     ·have hltz:(r2:Int)<(kn:Int):=by omega
      have hr16:(r+r2)<16:=by have:=Hk.out;have:=Hl.out;omega
      obtain⟨M,hM⟩:∃ M,r+r2=M:=⟨_,rfl⟩
      have fM:IntKind.i64.wrap ((r:Int)+(r2:Int))=(M:Int):=by rw[IntKind.wrap_i64];omega
      have cL2:∀ d os,(Go.Sort.grow (redrawn wr d) os).cell? ⟨w.heap.size+1,1,none⟩=some (.int .i64 (r:Int)):=fun d os=>HcL.out _ (BU.out.trans ((below_regrown _ _ _).mono BU.out.size))
      have T2:Away (wr.heap[w.heap.size]? = some (.cells T 34 (0,0))):=⟨(BU.out.block _ (lt_of_row T1.out)).trans T1.out⟩
      have HPr:Away (∀ w1:World,Calls Tryz.prog 92 #[.int .i64 (M:Int),.int .i64 0] w1 fun e w'=>e=.returned (.string (x2 M 0))∧Below w1.heap.size w1 w'):=⟨fun w1=>pair_any M 0 (by omega) (by omega) w1⟩
      have HSr:Away (∀ w1:World,Below w.heap.size w w1→Calls Tryz.prog 91 #[.agg T,.string (sd++x2 M 0),.int .i64 e] w1 fun x w'=>x=.returned (.agg (FL .i64 256 (q (r+r2))))∧Below w1.heap.size w1 w'):=⟨fun w1 hb=>by
       have:=HSm.out (r+r2) hr16 w1 hb
       rw[hM]at this
       first | exact this | (rw[hM];exact this)⟩
      have cE2:∀ d os,(Go.Sort.grow (redrawn wr d) os).cell? ⟨w.heap.size+1,2,none⟩=some (.int .i64 e):=fun d os=>HcE.out _ (BU.out.trans ((below_regrown _ _ _).mono BU.out.size))
      obtain⟨X,HX⟩:=ex_eq (x2 M 0)
      rw[HX.out]at HPr HSr
      have hXs:X.size=2:=by rw[←HX.out];rfl
      have hsz:(9223372036854775807<sd.size+2)=False:=by have:=Hsd.out;simp;omega
      obtain⟨F,HF⟩:=ex_eq (FL .i64 256 (q (r+r2)))
      rw[HF.out]at HSr
      obtain⟨o6,ho6⟩:∃ o6,r2*256=o6:=⟨_,rfl⟩
      have Ho6:=Away.mk ho6
      have Hlt:=Away.mk hlt
      have Hup:Away (ups (fst (fun i=>q (r+i)) r2) r2 (q (r+r2))=fst (fun i=>q (r+i)) (r2+1)):=⟨ups_fst (fun i=>q (r+i)) r2⟩
      clear HX
      go_wp2_with fail
      refine qtail.region_below_tail 13 (by kernel_rfl) (by kernel_rfl) ?_
      iterate 2 (quiet_step (skip))
      refine wpQuiet_load rfl 34 _ rfl _ rfl 34 _ _ (fun w' hC=>heap_regrown T2.out hC) Tryz.underlying34 rfl HTz.out ?_
      iterate 5 (quiet_step (skip))
      quiet_step (exact Calls.regrown_of (HPr.out _))
      iterate 3 (quiet_step (skip))
      quiet_step (exact Calls.regrown_of (HSr.out _ (BE.out.trans ((below_regrown _ _ _).mono BE.out.size))))
      refine wpQuiet_nil ?_
      intro wn hC
      have hbn:Below wr.heap.size wr wn:=by
       obtain⟨pp,rfl⟩:=hC
       exact below_regrown _ _ _
      have A6:Away (At gb (RW kn (fst (fun i=>q (r+i)) r2)) 109 wo wn):=⟨A0.out.later hbn⟩
      clear hC hbn A0 hXs hsz HPr HSr cE2 fM cL2 hM
      simp only[List.drop_succ_cons,List.drop_zero]
      go_wp2_with ((with_reducible refine wpList_putp A6 HF.out Hlt.out Ho6.out rfl _ _ rfl rfl ?hx ?hy ?_);(case hx=>exact rfl);(case hy=>exact rfl);intro w7 A7;rw[Hup.out]at A7)
      go_roundw
      case rel=>exact⟨r2+1,by have:=Hlt.out;omega,by go_num,A7⟩
      case measure=>have:=Hlt.out;simp[intOf];omega
     ·obtain rfl:r2=kn:=by omega
      have H1:Away (Holds wr w.heap.size (.slice (some ⟨ga,0,none⟩) r r) r q):=⟨row_holds (A0.out.other (lt_of_row F1.out) Hg.out.1 F1.out) (Nat.le_trans B1.out.size Hg.out.2.1) (fun i hi=>fst_lt q r i hi)⟩
      have H2:Away (Holds wr w.heap.size (.slice (some ⟨gb,0,none⟩) r2 r2) r2 (fun i=>q (r+i))):=⟨row_holds A0.out.row (Nat.le_trans B1.out.size Hg.out.2.2) (fun i hi=>fst_lt (fun i=>q (r+i)) r2 i hi)⟩
      clear A0 F1
      go_wp2_with fail
      go_ret2
      exact⟨⟨_,_,rfl,H1.out,H2.out⟩,BE.out⟩
end qsec
end Go.Proofs.YtgahcabgmfbhdaaGreatDoor
namespace Go.Proofs.YtgahcabgmfbhdaaGreatDoor
namespace qdoc
open Go Go.RowKit
open arr mem keca kstep kturn spok polys polt pols rbita rbitc rbitf rbitg rndm samm samb samc saml samr rsdoc
theorem shake {T:Array Value} (k:Int) (b:ByteArray) (n:Nat) (w:World) (hK:KT T TL RL) (hP:Gp w) (hk:k=1∨k=2) (hn:n≤50000) (hb:b.size≤1125899906842624):
 ∀ w1:World,Below w.heap.size w w1→Calls Tryz.prog 90 #[.agg T,.int .i64 k,.string b,.int .i64 (n:Int)] w1 fun e w'=>e=.returned (.tuple #[.string (out TL RL k b n),.int .i64 0])∧Below w1.heap.size w1 w':=fun w1 h1=>by
 rcases hk with rfl | rfl
 ·exact shake_go 1 b n w1 hK (hP.later h1) (by decide) rfl hn hb
 ·exact shake_go 2 b n w1 hK (hP.later h1) (by decide) rfl hn hb
theorem uniform {T:Array Value} (b:ByteArray) (w:World) (hK:KT T TL RL) (hP:Gp w) (hb:b.size≤1125899906842624):
 Calls Tryz.prog 98 #[.agg T,.string b] w fun e w'=>e=.returned (.agg (FL .i64 256 (dU b)))∧Below w.heap.size w w':=
 quni.Uniform_any b _ w (infoT T hK) (out_size 1 b 1008) (shake 1 b 1008 w hK hP (Or.inl rfl) (by decide) hb)
theorem small {T:Array Value} (b:ByteArray) (e:Int) (w:World) (hK:KT T TL RL) (hP:Gp w) (hb:b.size≤1125899906842624):
 Calls Tryz.prog 91 #[.agg T,.string b,.int .i64 e] w fun x w'=>x=.returned (.agg (FL .i64 256 (dS b e)))∧Below w.heap.size w w':=
 qsma.Small_any b _ e w (infoT T hK) (out_size 2 b 816) (shake 2 b 816 w hK hP (Or.inr rfl) (by decide) hb)
theorem secrets {T:Array Value} (kn ln:Nat) (e t a b o s:Int) (sd:ByteArray) (w:World) (hK:KT T TL RL) (hP:Gp w) (h:latt (kn:Int) (ln:Int) e t a b o s=true) (hsd:sd.size≤1000):
 Calls Tryz.prog 40 #[.agg T,.agg #[.int .i64 (kn:Int),.int .i64 (ln:Int),.int .i64 e,.int .i64 t,.int .i64 a,.int .i64 b,.int .i64 o,.int .i64 s],.string sd] w fun x w'=>(∃ v1 v2,x=.returned (.tuple #[v1,v2])∧Holds w' w.heap.size v1 ln (qS sd e)∧Holds w' w.heap.size v2 kn (fun i=>qS sd e (ln+i)))∧Below w.heap.size w w':=by
 obtain⟨h1,h2,-⟩:=latt_of h
 exact qsec.secrets_yes kn ln e t a b o s sd (qS sd e) w (infoT T hK) (by omega) (by omega) h (by omega) fun r _ w1 hb=>small (tw sd r 0) e w1 hK (hP.later hb) (by rw[tw_size];omega)
theorem matrix {T:Array Value} (kn ln:Nat) (e t a b o s:Int) (sd:ByteArray) (w:World) (hK:KT T TL RL) (hP:Gp w) (h:latt (kn:Int) (ln:Int) e t a b o s=true) (hsd:sd.size≤1000):
 Calls Tryz.prog 43 #[.agg T,.agg #[.int .i64 (kn:Int),.int .i64 (ln:Int),.int .i64 e,.int .i64 t,.int .i64 a,.int .i64 b,.int .i64 o,.int .i64 s],.string sd] w fun x w'=>(∃ v vs,x=.returned v∧w'.ownsRow w.heap.size 67 1 v kn vs∧Rowl w' w.heap.size v.ownBlock vs ln (qX sd))∧Below w.heap.size w w':=by
 obtain⟨h1,h2,-⟩:=latt_of h
 exact qmat.matrix_yes kn ln e t a b o s sd (qX sd) w (infoT T hK) (by omega) (by omega) h (by omega) fun r c _ _ w1 hb=>uniform (tw sd c r) w1 hK (hP.later hb) (by rw[tw_size];omega)
end qdoc
end Go.Proofs.YtgahcabgmfbhdaaGreatDoor
namespace Go.Proofs.YtgahcabgmfbhdaaGreatDoor
namespace fork
set_option linter.unusedVariables false
open Go Go.RowKit
open arr mem polys polt pols polb helda
section
variable {P:Program} {ops:Array Oper} {Q:Exit→Act→World→Prop} {S:World→Prop}
end
theorem hk_mid {P:Program} {ops:Array Oper} {Q:Exit→Act→World→Prop} {S:World→Prop} {b:Array Bool} {k:Nat} {ks:List Nat} {o:Oper} {rest:List Oper} {a:Act} {w:World} (hw:Region.wanted o (yielded ops a.tmps)=true) (hs:Region.noSelect ops=true) (hf:Region.free .any ops b k=true) (hr:(Region.ready .any ops b).contains k=true)
 (hQ:∀ v c a w,Q (.panic c) (a.put o.dst v) w→Q (.panic c) a w) (ty:TypeId) (x:Operand) (ho:o.op=.load ty x)
 (g n:Nat) (hx:a.eval x=.pointer (some ⟨g,n,none⟩)) (cs:List Value) (d:TypeDesc) (hC:∀ w,S w→w.rangeAt g n cs)
 (hu:P.underlying ty=some d) (hd:d.isRow=true) (hz:(P.info? ty).map (·.size)=some cs.length) (hS:S w)
 (h:HK P ops Q S (b.setIfInBounds k true) rest ks (a.put o.dst (.agg cs.toArray)) w):HK P ops Q S b (o :: rest) (k :: ks) a w:=
 hk_take hw hs hf hr (hQ _) (fun w hw2=>by
  unfold execOp
  simp only[ho,hx,Instr.loadAt,Instr.sureAddr,Sem.run_bind,Sem.run_pure,Result.andThen_ok,run_loadVar_mid w g n ty cs d (hC w hw2) hu hd hz]) hS h
theorem wpList_buildOne {P:Program} {ops:Array Oper} {rest:List Oper} {o:Oper} {a:Act} {w:World} {Q:Exit→Act→World→Prop} (hg:o.guard=none) (t e:TypeId) (x:Operand) (ho:o.op=.buildSlice t 1 #[(0,x)])
 (F:Array Value) (hF:F.size=256) (ie:TypeInfo) (z:Array Value)
 (hu:P.underlying t=some (.slice e)) (hie:P.info? e=some ie) (hz:ie.zero=some (.agg z)) (hsz:ie.size=256) (hx:a.eval x=.agg F)
 (h:wpList P ops Q rest (a.put o.dst (.slice (some ⟨w.heap.size,0,none⟩) 1 1)) (w.alloc (.cells F e))):wpList P ops Q (o :: rest) a w:=by
 refine wpList_buildSlice hg t e 1 _ ho F ie (.agg z) hu hie hz (by rw[hsz];decide) (by rw[hsz];decide) ?_ h
 have hc:((#[(0,x)]:Array (Nat × Operand)).map fun (i,x)=>(i,a.eval x)).toList=[(0,Value.agg F)]:=by simp[hx]
 rw[hc,hsz]
 exact fill_one F _ hF (by rw[Array.size_map,Array.size_range])
end fork
end Go.Proofs.YtgahcabgmfbhdaaGreatDoor
namespace Go.Proofs.YtgahcabgmfbhdaaGreatDoor
namespace fsize
open Go Go.RowKit
open arr mem stil polys polt fldm fld1
theorem one_any (g o:Nat) (h:Nat→Int) (w:World) (hc:∀ i,i<256→w.cell? ⟨g,o+i,none⟩=some (.int .i64 (h i))):
 Calls Tryz.prog 162 #[.pointer (some ⟨g,o,none⟩)] w fun e w'=>e=.returned (.int .i64 (cb h 256))∧w'=w:=by
 have Hc:=Away.mk hc
 clear hc
 go_enter Tryz.func162,Tryz.ntmps162
 go_wp2_with fail
 go_loopw [7,3] (fun v m wr=>∃ i:Nat,i≤256∧v=.int .i64 (i:Int)∧m=.int .i64 (cb h i)∧w=wr) (fun v _ _=>256-(intOf v).toNat)
 case atStart=>exact⟨0,Nat.zero_le _,rfl,rfl,rfl⟩
 case round=>
  obtain⟨i,hi,rfl,rfl,rfl⟩:=hrel
  by_cases hlt:i<256
  ·have hiz:(i:Int)<256:=by omega
   have cc:=Hc.out i hlt
   obtain⟨x,hx⟩:∃ x,h i=x:=⟨_,rfl⟩
   rw[hx]at cc
   obtain⟨m,hm⟩:∃ m,cb h i=m:=⟨_,rfl⟩
   have hmb:=cb_bound h i
   rw[hm]at hmb ⊢
   obtain⟨c,hcc⟩:=ex_eq (ce 8380417 x)
   have hcb:=ce_bound x
   rw[hcc.out]at hcb
   obtain⟨k,hk⟩:=ex_eq (-c)
   have Hs:Away (cb h (i+1)=max m (max c k)):=⟨by rw[cb,hm,hx,hcc.out,hk.out]⟩
   have Hx:∀ w1:World,Calls Tryz.prog 145 #[.int .i64 x,.int .i64 8380417] w1 fun e w'=>e=.returned (.int .i64 c)∧w'=w1:=fun w1=>by rw[←hcc.out];exact centre_any x 8380417 w1
   have hw:IntKind.i64.wrap (-c)=k:=by rw[IntKind.wrap_i64];have:=hk.out;omega
   clear hx hm
   go_wp2_with fail
   refine(Hx _).mono ?_
   rintro e w3 ⟨rfl,hw3⟩
   subst hw3
   go_wp2_with fail
   all_goals go_roundw
   case rel=>exact⟨i+1,by omega,by go_num,by rw[Hs.out];try congr 1<;>omega,by first | trivial | rfl⟩
   case measure=>simp[intOf];omega
  ·obtain rfl:i=256:=by omega
   simp only[Int.cast_ofNat_Int]
   go_wp2_with fail
   go_ret
   exact⟨rfl,rfl⟩
theorem size_any (g n c:Nat) (p:Nat→Nat→Int) (w:World) (hn:n≤1000000000000) (hc:∀ j,j<n→∀ i,i<256→w.cell? ⟨g,j*256+i,none⟩=some (.int .i64 (p j i))):
 Calls Tryz.prog 118 #[.slice (some ⟨g,0,none⟩) n c] w fun e w'=>e=.returned (.int .i64 (cbs p n))∧w'=w:=by
 have Hc:Away (∀ j,j<n→∀ w1:World,w=w1→Calls Tryz.prog 162 #[.pointer (some ⟨g,j*256,none⟩)] w1 fun e w'=>e=.returned (.int .i64 (cb (p j) 256))∧w1=w'):=⟨fun j hj w1 hw=>by subst hw;exact(one_any g (j*256) (p j) w (hc j hj)).mono fun _ _ h=>⟨h.1,h.2.symm⟩⟩
 clear hc
 go_enter Tryz.func118,Tryz.ntmps118
 go_wp2_with fail
 go_loopw [7,3] (fun v m wr=>∃ i:Nat,i≤n∧v=.int .i64 (i:Int)∧m=.int .i64 (cbs p i)∧w=wr) (fun v _ _=>n-(intOf v).toNat)
 case atStart=>exact⟨0,Nat.zero_le _,rfl,rfl,rfl⟩
 case round=>
  obtain⟨i,hi,rfl,rfl,rfl⟩:=hrel
  by_cases hlt:i<n
  ·have hiz:(i:Int)<(n:Int):=by omega
   have hcall:=Hc.out i hlt
   obtain⟨m,hm⟩:∃ m,cbs p i=m:=⟨_,rfl⟩
   have hmb:=cbs_bound p i
   rw[hm]at hmb ⊢
   obtain⟨b,hb⟩:∃ b,cb (p i) 256=b:=⟨_,rfl⟩
   have Hs:Away (cbs p (i+1)=max m b):=⟨by rw[cbs,hm,hb]⟩
   rw[hb]at hcall
   clear hm hb
   go_wp2_with fail
   refine(hcall _ rfl).mono ?_
   rintro e w3 ⟨rfl,hw3⟩
   subst hw3
   go_wp2_with fail
   all_goals go_roundw
   case rel=>exact⟨i+1,by omega,by go_num,by rw[Hs.out];try congr 1<;>omega,by first | trivial | rfl⟩
   case measure=>simp[intOf];omega
  ·obtain rfl:i=n:=by omega
   go_wp2_with fail
   go_ret
   exact⟨rfl,rfl⟩
end fsize
end Go.Proofs.YtgahcabgmfbhdaaGreatDoor
namespace Go.Proofs.YtgahcabgmfbhdaaGreatDoor
namespace shelf
open Go.Shelf
def lays129_ren:Go.Shelf.Ren:=⟨fun | 129=>176 | n=>n,fun | 3=>3 | 4=>4 | 5=>5 | 9=>9 | 46=>57 | 53=>27 | n=>n,fun | n=>n⟩
theorem lays129:Go.Proofs.Lays.n129 Tryz.prog lays129_ren:={
 mixed:=by kernel_rfl
 f129:=Tryz.func176.trans (congrArg some (by kernel_rfl))
 t3:=Tryz.underlying3
 a3:=Tryz.isAgg3
 z3:=Tryz.sizeOf3
 v3:=Tryz.zeroValue3
 t4:=Tryz.underlying4
 a4:=Tryz.isAgg4
 z4:=Tryz.sizeOf4
 v4:=Tryz.zeroValue4
 t5:=Tryz.underlying5
 a5:=Tryz.isAgg5
 z5:=Tryz.sizeOf5
 v5:=Tryz.zeroValue5
 t9:=Tryz.underlying9
 a9:=Tryz.isAgg9
 z9:=Tryz.sizeOf9
 v9:=Tryz.zeroValue9
 t46:=Tryz.underlying57
 a46:=Tryz.isAgg57
 z46:=Tryz.sizeOf57
 v46:=Tryz.zeroValue57
 t53:=Tryz.underlying27
 a53:=Tryz.isAgg27
 z53:=Tryz.sizeOf27
 v53:=Tryz.zeroValue27 }
open Go.RowKit in
theorem len64 (x:Int) (w:World) (h0 : 0≤x) (h1:x≤18446744073709551615):
 Calls Tryz.prog 176 #[.int .u64 x] w fun e w'=>e=.returned (.int .i64 (Lib.bitLen x.toNat))∧w'=w:=Any.bits_Len64 lays129 x w h0 h1
end shelf
namespace plong
open Go Go.RowKit
open arr mem rbita
theorem lbf_len (f:Nat):∀ n,Lib.bitLenAux f n=lbf f n:=by
 induction f with
 | zero=>intro n;rfl
 | succ f ih=>
  intro n
  rw[Lib.bitLenAux,lbf,ih]
  by_cases h:n=0
  ·rw[if_pos h,if_pos h]
  ·rw[if_neg h,if_neg h];omega
theorem len_any (x:Int) (h0 : 0≤x) (h1:x≤18446744073709551615) (w:World):Calls Tryz.prog 153 #[.int .u64 x] w fun e w'=>e=.returned (.int .i64 ((lb x.toNat:Nat):Int))∧w'=w:=by
 have H:∀ w1:World,Calls Tryz.prog 176 #[.int .u64 x] w1 fun e w'=>e=.returned (.int .i64 ((lb x.toNat:Nat):Int))∧w'=w1:=fun w1=>by
  have h:=shelf.len64 x w1 h0 h1
  rw[show Lib.bitLen x.toNat=lb x.toNat from lbf_len 64 _]at h
  exact h
 go_enter Tryz.func153,Tryz.ntmps153
 go_wp2_with fail
 refine(H _).mono ?_
 rintro e w1 ⟨rfl,rfl⟩
 go_wp2_with fail
 go_ret
 exact⟨rfl,rfl⟩
theorem long_any (n:Int) (hn:n<9223372036854775808) (w:World):Calls Tryz.prog 104 #[.int .i64 n] w fun e w'=>e=.returned (.int .i64 ((lb n.toNat:Nat):Int))∧w'=w:=by
 by_cases h0 : 0≤n
 ·have H:=fun w1=>len_any n h0 (by omega) w1
  have hmx:max n 0=n:=by omega
  have fu:IntKind.u64.wrap n=n:=by rw[IntKind.wrap_u64];omega
  go_enter Tryz.func104,Tryz.ntmps104
  go_wp2_with fail
  refine(H _).mono ?_
  rintro e w1 ⟨rfl,rfl⟩
  go_wp2_with fail
  go_ret
  exact⟨rfl,rfl⟩
 ·have H:=fun w1=>len_any 0 (by decide) (by decide) w1
  have hz:n.toNat=(0:Int).toNat:=by omega
  rw[hz]
  have hmx:max n 0=0:=by omega
  have fu:IntKind.u64.wrap 0=0:=by decide
  go_enter Tryz.func104,Tryz.ntmps104
  go_wp2_with fail
  refine(H _).mono ?_
  rintro e w1 ⟨rfl,rfl⟩
  go_wp2_with fail
  go_ret
  exact⟨rfl,rfl⟩
end plong
namespace psmall
open Go Go.RowKit
open arr mem
theorem most_any (m:Int) (w:World):Calls Tryz.prog 151 #[.int .i64 m] w fun e w'=>e=.returned (.bool (decide (1≤m∧m<8380417)))∧w'=w:=by
 by_cases c0 : 1≤m
 rotate_left
 ·rw[decide_eq_false (fun h=>c0 h.1)]
  go_enter Tryz.func151,Tryz.ntmps151
  go_wp2_with fail
  go_ret
  exact⟨rfl,rfl⟩
 by_cases c1:m<8380417
 rotate_left
 ·rw[decide_eq_false (fun h=>c1 h.2)]
  go_enter Tryz.func151,Tryz.ntmps151
  go_wp2_with fail
  go_ret
  exact⟨rfl,rfl⟩
 rw[decide_eq_true ⟨c0,c1⟩]
 go_enter Tryz.func151,Tryz.ntmps151
 go_wp2_with fail
 go_ret
 exact⟨rfl,rfl⟩
theorem size_any (wd:Nat) (h:wd≤64) (w:World):Calls Tryz.prog 156 #[.int .i64 (wd:Int)] w fun e w'=>e=.returned (.int .i64 ((32*wd:Nat):Int))∧w'=w:=by
 obtain⟨M,hM⟩:=ex_eq (32*wd)
 have f1:IntKind.i64.wrap (256*(wd:Int))=256*(wd:Int):=by rw[IntKind.wrap_i64];omega
 have f2:(256*(wd:Int)).tdiv 8=(M:Int):=by rw[Int.tdiv_eq_ediv_of_nonneg (by omega)];have:=hM.out;omega
 have f3 : 256*(wd:Int) / 8=(M:Int):=by have:=hM.out;omega
 rw[hM.out]
 go_enter Tryz.func156,Tryz.ntmps156
 go_wp2_with fail
 go_ret
 exact⟨by first | rfl | (congr 2;have:=hM.out;omega),rfl⟩
end psmall
namespace psmall
open Go Go.RowKit
open arr mem
theorem ends_any (l h:Int) (w:World):Calls Tryz.prog 110 #[.int .i64 l,.int .i64 h] w fun e w'=>e=.returned (.bool (decide (0≤l∧l<4190208∧1≤h∧h<4190208)))∧w'=w:=by
 by_cases c0 : 0≤l
 rotate_left
 ·rw[decide_eq_false (fun k=>c0 k.1)]
  go_enter Tryz.func110,Tryz.ntmps110
  go_wp2_with fail
  go_ret
  exact⟨rfl,rfl⟩
 by_cases c1:l<4190208
 rotate_left
 ·rw[decide_eq_false (fun k=>c1 k.2.1)]
  go_enter Tryz.func110,Tryz.ntmps110
  go_wp2_with fail
  go_ret
  exact⟨rfl,rfl⟩
 by_cases c2 : 1≤h
 rotate_left
 ·rw[decide_eq_false (fun k=>c2 k.2.2.1)]
  go_enter Tryz.func110,Tryz.ntmps110
  go_wp2_with fail
  go_ret
  exact⟨rfl,rfl⟩
 by_cases c3:h<4190208
 rotate_left
 ·rw[decide_eq_false (fun k=>c3 k.2.2.2)]
  go_enter Tryz.func110,Tryz.ntmps110
  go_wp2_with fail
  go_ret
  exact⟨rfl,rfl⟩
 rw[decide_eq_true ⟨c0,c1,c2,c3⟩]
 go_enter Tryz.func110,Tryz.ntmps110
 go_wp2_with fail
 go_ret
 exact⟨rfl,rfl⟩
end psmall
end Go.Proofs.YtgahcabgmfbhdaaGreatDoor
namespace Go.Proofs.YtgahcabgmfbhdaaGreatDoor
namespace pstore
open Go Go.RowKit
open arr mem stil bitm bitn polys rbitb rbitc rbitd
def us (l:List Nat):List Value:=l.map fun (x:Nat)=>Value.int .u8 (x:Int)
theorem us_snoc (l:List Nat) (x:Nat):us (l ++ [x])=us l ++ [.int .u8 (x:Int)]:=by simp[us]
theorem conv_own {w:World} {base g cap n:Nat} {l:List Nat} (hn:l.length=n) (hl:∀ x∈l,x<256) (h:w.ownsRow base 5 1 (.slice (some ⟨g,0,none⟩) n cap) n (us l)):
 (convert 49 9 (.slice (some ⟨g,0,none⟩) n cap)).run Tryz.prog w=.ok (.string ⟨(u8s l).toArray⟩) w:=by
 subst hn
 have hz:(u8s l).length=l.length:=by simp[u8s]
 have:=run_convert_bytes_back (P:=Tryz.prog) w 49 9 5 ⟨g,0,none⟩ cap (u8s l) Tryz.underlying49 Tryz.underlying5 Tryz.underlying9 (fun j hj=>by
  rw[hz]at hj
  rw[Addr.add_mid,Nat.zero_add,h.cellAt j (by rw[Nat.mul_one];exact hj)]
  have hx:=hl l[j] (List.getElem_mem hj)
  simp[us,u8s,List.getElem?_eq_getElem hj,Nat.mod_eq_of_lt hx])
 rw[hz]at this
 exact this
theorem store_any (g wd:Nat) (L:List Nat) (w:World) (hl:L.length=256) (hw0 : 1≤wd) (hw:wd≤23) (hL:∀ x∈L,x<2 ^ wd) (hg:g<w.heap.size) (hcell:∀ i,i<256→w.cell? ⟨g,i,none⟩=some (.int .i64 ((L.getD i 0:Nat):Int))):
 Calls Tryz.prog 152 #[.pointer (some ⟨g,0,none⟩),.int .i64 (wd:Int)] w fun e w'=>e=.returned (.string ⟨(u8s (nb 8 (32*wd) (pk wd L))).toArray⟩)∧Below w.heap.size w w':=by
 obtain⟨i0,hi,hz0,hz1,hz2⟩:=parts infoByte
 have HI:=Away.mk (And.intro hi (And.intro hz0 (And.intro hz1 hz2)))
 obtain⟨M,hM⟩:=ex_eq (32*wd)
 have HS:∀ w1:World,Calls Tryz.prog 156 #[.int .i64 (wd:Int)] w1 fun e w'=>e=.returned (.int .i64 (M:Int))∧w'=w1:=fun w1=>by rw[←hM.out];exact psmall.size_any wd (by omega) w1
 have hMb:M≤736:=by rw[←hM.out];omega
 obtain⟨N,hN⟩:=ex_eq (pk wd L)
 have HNi:Away (∀ i,i<256→L.getD i 0=N / 2 ^ (wd*i)%2 ^ wd):=⟨fun i hi=>by
  rw[←hN.out,pk_at wd L hL i (by rw[hl];exact hi),List.getD_eq_getElem?_getD,List.getElem?_eq_getElem (by rw[hl];exact hi)];rfl⟩
 have Hcell:=Away.mk hcell
 obtain⟨R,HR⟩:=ex_eq (u8s (nb 8 M N))
 rw[hM.out,hN.out,HR.out]
 clear hi hz0 hz1 hz2 hcell hL hl
 go_enter Tryz.func152,Tryz.ntmps152
 go_wp2_with fail
 refine(HS _).mono ?_
 rintro e w ⟨rfl,rfl⟩
 go_wp2_with (at_make;refine wpList_make_own _ rfl _ _ 49 rfl w.heap.size 5 i0 (.int .u8 0) 1 Tryz.underlying49 HI.out.1 HI.out.2.1 HI.out.2.2.1 .i64 .i64 _ M rfl rfl rfl (by rw[HI.out.2.2.2];omega) (by unfold maxLen;omega) (Nat.le_refl _) ?_)
 intro w3 hown hgr
 have B3:Away (Below w.heap.size w w3):=⟨(Below.refl _ _).grown hgr (Nat.le_refl _) (fun k hk=>by simp at hk)⟩
 have O3:Away (w3.ownsRow w.heap.size 5 1 (.slice (some ⟨w.heap.size,0,none⟩) 0 M) 0 (us (nb 8 0 N))):=⟨hown⟩
 clear hown hgr
 go_wp2_with fail
 go_loopw [5,6,7,14] (fun v a k c wr=>∃ i b h j:Nat,i≤256∧8*b≤wd*i∧wd*i<8*b+8∧N%2 ^ (wd*i) / 2 ^ (8*b)=h∧j+8*b=wd*i∧v=.slice (some ⟨w.heap.size,0,none⟩) b M∧a=.int .i64 (h:Int)∧k=.int .i64 (j:Int)∧c=.int .i64 (i:Int)∧Away (wr.ownsRow w.heap.size 5 1 (.slice (some ⟨w.heap.size,0,none⟩) b M) b (us (nb 8 b N)))∧Away (Below w.heap.size w wr)) (fun _ _ _ c _=>256-(intOf c).toNat)
 case atStart=>exact⟨0,0,0,0,Nat.zero_le _,by omega,by omega,by simp[Nat.mod_one],by omega,rfl,rfl,rfl,rfl,O3,B3⟩
 case round=>
  clear O3 B3
  obtain⟨i,b,h,j,hi,hb1,hb2,hh,hj,rfl,rfl,rfl,rfl,Ow,Bw⟩:=hrel
  by_cases hlt:i<256
  ·have hiz:(i:Int)<256:=by omega
   have cx:=(Bw.out.cell (p:=⟨g,i,none⟩) hg).trans (Hcell.out i hlt)
   obtain⟨x,hx⟩:∃ x,L.getD i 0=x:=⟨_,rfl⟩
   have hxN:=HNi.out i hlt
   rw[hx]at hxN cx
   have hxl:x<2 ^ wd:=by rw[hxN];exact Nat.mod_lt _ (Nat.two_pow_pos _)
   obtain⟨m,hm⟩:∃ m,wd*i=m:=⟨_,rfl⟩
   have hm2:wd*(i+1)=m+wd:=by rw[Nat.mul_succ,hm]
   have hmM:m+wd≤8*M:=by
    have h1:wd*(i+1)≤wd*256:=Nat.mul_le_mul_left _ hlt
    have:=hM.out
    omega
   rw[hm]at hb1 hb2 hh hj hxN
   obtain⟨d,hd⟩:∃ d,x*2 ^ j=d:=⟨_,rfl⟩
   have hj7:j≤7:=by omega
   have hor:=or_next N m (8*b) wd hb1
   rw[hh,←hxN,show m-8*b=j by omega,hd]at hor
   obtain⟨h',hh'⟩:∃ h',N%2 ^ (m+wd) / 2 ^ (8*b)=h':=⟨_,rfl⟩
   rw[hh']at hor
   have hhl:h<2 ^ j:=by rw[←hh,show j=m-8*b by omega];exact held_lt N m (8*b) hb1
   have hj30:j+wd≤30:=by omega
   have hh'l:h'<2 ^ (j+wd):=by rw[←hh',show j+wd=m+wd-8*b by omega];exact held_lt N (m+wd) (8*b) (by omega)
   have p7:=pow_small j 7 hj7
   have p23:=pow_small wd 23 hw
   have p30:=pow_small (j+wd) 30 hj30
   have hd30:d<2 ^ 30:=by
    rw[←hd]
    have h1:x*2 ^ j<2 ^ wd*2 ^ j:=Nat.mul_lt_mul_of_lt_of_le hxl (Nat.le_refl _) (Nat.two_pow_pos _)
    rw[←Nat.pow_add,Nat.add_comm wd]at h1
    omega
   have hh30:h'<2 ^ 30:=by omega
   have hh7:h<2 ^ 30:=by omega
   have fd:(x:Int)*2 ^ j=(d:Int):=by rw[←hd,Int.natCast_mul,Int.natCast_pow];rfl
   have fdw:IntKind.i64.wrap ((x:Int)*2 ^ j)=(d:Int):=by rw[fd,IntKind.wrap_i64];omega
   have V:=or_i64 h d (by omega) (by omega)
   rw[hor]at V
   have fjw:IntKind.i64.wrap ((j:Int)+(wd:Int))=((j+wd:Nat):Int):=by rw[IntKind.wrap_i64];omega
   have hxi:x<8388608:=by omega
   have Hh:=Away.mk hh'
   have Hm:=Away.mk (And.intro hm2 hmM)
   clear hx hxN hxl hm hm2 hb2 hh hd hor hh' hhl hh'l p7 p23 p30 hmM fd
   have hb8 : 8*b≤m+wd:=by omega
   have hj64:j<64:=by omega
   clear hb1 hj30 hd30 hxi
   go_wp2_with fail
   clear V fdw fjw cx hj7 hj64
   obtain⟨m',hm'⟩:∃ m',m+wd=m':=⟨_,rfl⟩
   rw[hm']at hb8 Hh Hm
   go_loopw [5,6,7] (fun v a k wr=>∃ b h j:Nat,8*b≤m'∧h<2 ^ 30∧N%2 ^ m' / 2 ^ (8*b)=h∧j+8*b=m'∧v=.slice (some ⟨w.heap.size,0,none⟩) b M∧a=.int .i64 (h:Int)∧k=.int .i64 (j:Int)∧Away (wr.ownsRow w.heap.size 5 1 (.slice (some ⟨w.heap.size,0,none⟩) b M) b (us (nb 8 b N)))∧Away (Below w.heap.size w wr)) (fun _ _ k _=>(intOf k).toNat)
   case atStart=>exact⟨b,h',j+wd,hb8,hh30,Hh.out,by omega,rfl,rfl,by go_num,Ow,Bw⟩
   case round=>
    clear Ow Bw Hh hb8 hh30 hh7 hj hm'
    obtain⟨b,h,j,hb8,hh30,hh,hj,rfl,rfl,rfl,Ow,Bw⟩:=hrel
    by_cases h8 : 8≤j
    ·have hj8:(8:Int)≤(j:Int):=by omega
     obtain⟨β,hβ⟩:∃ β,h%256 = β := ⟨_,rfl⟩
     obtain⟨h2,hh2⟩:∃ h2,h / 256=h2:=⟨_,rfl⟩
     have Hn:Away (us (nb 8 (b+1) N)=us (nb 8 b N) ++ [.int .u8 (β : Int)]):=⟨by
      have e:=mod_div_mod N m' (8*b) 8 (by omega)
      rw[hh]at e
      rw[nb_snoc,us_snoc,←e,←hβ]⟩
     have Hh2:Away (N%2 ^ m' / 2 ^ (8*(b+1))=h2):=⟨by rw[←hh2,←hh,Nat.mul_succ,Nat.pow_add,Nat.div_div_eq_div_mul]⟩
     have fβ : (h:Int)%256=(β : Int):=by omega
     have fβw:IntKind.u8.wrap (h:Int)=(β : Int):=by rw[IntKind.wrap_u8];omega
     have fh2:(h:Int) / 256=(h2:Int):=by omega
     have hh23:h2<2 ^ 30:=by omega
     have fj8:IntKind.i64.wrap ((j:Int)-8)=((j-8:Nat):Int):=by have:=Hm.out.2;rw[IntKind.wrap_i64];omega
     have hbM:b+1≤M:=by have:=Hm.out.2;omega
     have hbM':b≤M:=by omega
     have hwx:=Bw.out.size
     clear hβ hh2 hh
     go_wp2_with (at_builtin;refine wpList_append_fits _ rfl _ _ 49 rfl w.heap.size 5 i0 1 Tryz.underlying49 HI.out.1 HI.out.2.2.1 w.heap.size b M _ rfl (Ow.out.alloc _) ⟨wr.heap.size,0,none⟩ 1 1 [.int .u8 (β : Int)] rfl rfl news_at (fun u hu=>by simp at hu;subst hu;rfl) hbM ?_)
     intro w4 hown' hgrow
     have hb4:Below w.heap.size wr w4:=((Below.refl w.heap.size wr).alloc hwx _).grown hgrow (by rw[size_alloc];omega) (fun k hk=>by simp at hk;omega)
     have HB4:Away (Below w.heap.size w w4):=⟨Bw.out.trans hb4⟩
     have OY:Away (w4.ownsRow w.heap.size 5 1 (.slice (some ⟨w.heap.size,0,none⟩) (b+1) M) (b+1) (us (nb 8 (b+1) N))):=⟨by rw[Hn.out];exact hown'⟩
     clear hown' hgrow hb4 Ow Bw
     go_wp2_with fail
     go_roundw
     case rel=>exact⟨b+1,h2,j-8,by omega,hh23,Hh2.out,by omega,rfl,by go_num,by go_num,OY,HB4⟩
     case measure=>simp[intOf];omega
    ·have hj8:¬ (8:Int)≤(j:Int):=by omega
     go_wp2_with fail
     go_roundw
     case rel=>exact⟨i+1,b,h,j,by omega,by rw[Hm.out.1];exact hb8,by rw[Hm.out.1];omega,by rw[Hm.out.1];exact hh,by rw[Hm.out.1];exact hj,rfl,rfl,rfl,by go_num,Ow,Bw⟩
     case measure=>simp[intOf];omega
  ·obtain rfl:i=256:=by omega
   simp only[Int.cast_ofNat_Int]
   obtain rfl:b=M:=by have:=hM.out;omega
   have hcv:=conv_own (nb_length 8 b N) (fun x hx=>nb_lt 8 b N x hx) Ow.out
   rw[HR.out]at hcv
   clear hh
   go_wp2_with fail
   go_ret
   exact⟨rfl,Bw.out⟩
end pstore
end Go.Proofs.YtgahcabgmfbhdaaGreatDoor
namespace Go.Proofs.YtgahcabgmfbhdaaGreatDoor
namespace ppack
open Go Go.RowKit
open arr mem stil bitm bitn polys rbita rbitb rbitc rbitd rbitf
theorem ns_get (f:Nat→Int) (h:∀ i,i<256→0≤f i) (i:Nat) (hi:i<256):(((ns f).getD i 0:Nat):Int)=f i:=by
 unfold ns
 rw[List.getD_eq_getElem?_getD,List.getElem?_map,List.getElem?_range hi]
 exact Int.toNat_of_nonneg (h i hi)
theorem ns_length (f:Nat→Int):(ns f).length=256:=by simp[ns]
theorem lb_pos (most:Int) (h1 : 1≤most) (h2:most<8380417) : 1≤lb most.toNat:=
 ((lbf_spec 64 most.toNat (by omega)).2.1 (by omega)).1
theorem ns_lt (f:Nat→Int) (most:Int) (h1 : 1≤most) (h2:most<8380417) (h:inb f most):∀ x∈ns f,x<2 ^ lb most.toNat:=by
 intro x hx
 obtain⟨i,hi,rfl⟩:=List.mem_map.1 hx
 have h3:=h i (List.mem_range.1 hi)
 have h4:=(lbf_spec 64 most.toNat (by omega)).1
 exact Nat.lt_of_le_of_lt (by omega) h4
theorem pack_any (f:Nat→Int) (most:Int) (w:World) (h1 : 1≤most) (h2:most<8380417):
 Calls Tryz.prog 101 #[.agg (FL .i64 256 f),.int .i64 most] w fun e w'=>e=.returned (if inb f most then .tuple #[.string (packed f most),.int .i64 0] else .tuple #[.string ⟨#[]⟩,.int .i64 6])∧Below w.heap.size w w':=by
 have HM:∀ w1:World,Calls Tryz.prog 151 #[.int .i64 most] w1 fun e w'=>e=.returned (.bool true)∧w'=w1:=fun w1=>by
  have h:=psmall.most_any most w1
  rw[decide_eq_true ⟨h1,h2⟩]at h
  exact h
 have HLg:Away (∀ w1:World,Calls Tryz.prog 104 #[.int .i64 most] w1 fun e w'=>e=.returned (.int .i64 ((lb most.toNat:Nat):Int))∧w'=w1):=⟨fun w1=>plong.long_any most (by omega) w1⟩
 have HSt:Away (∀ (g:Nat) (w1:World),inb f most→g<w1.heap.size→(∀ i,i<256→w1.cell? ⟨g,i,none⟩=some (.int .i64 (f i)))→Calls Tryz.prog 152 #[.pointer (some ⟨g,0,none⟩),.int .i64 ((lb most.toNat:Nat):Int)] w1 fun e w'=>e=.returned (.string (packed f most))∧Below w1.heap.size w1 w'):=⟨fun g w1 hin hg hc=>by
  unfold packed
  exact pstore.store_any g (lb most.toNat) (ns f) w1 (ns_length f) (lb_pos most h1 h2) (lb_small most h2) (ns_lt f most h1 h2 hin) hg (fun i hi=>by rw[ns_get f (fun k hk=>(hin k hk).1) i hi];exact hc i hi)⟩
 obtain⟨O,HO⟩:=ex_eq (packed f most)
 obtain⟨wd,hwd⟩:=ex_eq (lb most.toNat)
 rw[HO.out,hwd.out]at HSt
 rw[hwd.out]at HLg
 rw[HO.out]
 have Hidx:Away (∀ i:Nat,i<256→∀ w1,(Instr.index 109 (.agg (FL .i64 256 f)) (.int .i64 (i:Int))).run Tryz.prog w1=.ok (.int .i64 (f i)) w1):=⟨fun i hi w1=>index_row (P:=Tryz.prog) Tryz.underlying109 (by kernel_rfl) (by kernel_rfl) (by kernel_rfl) _ _ i hi (fl_get .i64 256 f i hi) w1⟩
 have Fi:Away ((Tryz.prog.info? 109).map (·.size)=some (FL .i64 256 f).size):=⟨by rw[fl_size];exact sizeP⟩
 obtain⟨V,HV⟩:=ex_eq (if inb f most then Value.tuple #[.string O,.int .i64 0] else .tuple #[.string ⟨#[]⟩,.int .i64 6])
 rw[HV.out]
 have Hcells:Away (∀ (w1:World) (g:Nat),w1.heap[g]? = some (.cells (FL .i64 256 f) 109 (0,0))→∀ i,i<256→w1.cell? ⟨g,i,none⟩=some (.int .i64 (f i))):=⟨fun w1 g h i hi=>fl_at h i hi⟩
 obtain⟨F,HF⟩:=ex_eq (FL .i64 256 f)
 rw[HF.out]at Hidx Fi Hcells ⊢
 obtain⟨W,hW⟩:∃ x,w.alloc (.cells F 109)=x:=⟨_,rfl⟩
 have HW:=Away.mk hW
 have BW:Away (Below w.heap.size w W):=⟨by rw[←hW];exact below_alloc _ _⟩
 have hrow:Away (W.heap[w.heap.size]? = some (.cells F 109 (0,0))):=⟨by rw[←hW];exact heap_at _ _ _ rfl⟩
 have H12:=Away.mk (And.intro h1 h2)
 clear hW HF HO h1 h2
 go_enter Tryz.func101,Tryz.ntmps101
 go_wp2_with (rw[HW.out])
 refine(HM _).mono ?_
 rintro e W ⟨rfl,rfl⟩
 go_wp2_with (refine wpList_load_row rfl 109 _ rfl w.heap.size rfl 109 F (0,0) _ hrow.out Tryz.underlying109 rfl Fi.out ?_)
 go_loopw [12] (fun c wr=>∃ j:Nat,j≤256∧c=.int .i64 (j:Int)∧Away (∀ i,i<j→0≤f i∧f i≤most)∧W=wr) (fun c _=>256-(intOf c).toNat)
 case atStart=>exact⟨0,Nat.zero_le _,rfl,⟨fun i hi=>by omega⟩,rfl⟩
 case round=>
  obtain⟨j,hj,rfl,Hin,rfl⟩:=hrel
  by_cases hlt:j<256
  ·have hjz:(j:Int)<256:=by omega
   have hidx:=Hidx.out j hlt
   obtain⟨x,hx⟩:∃ x,f j=x:=⟨_,rfl⟩
   rw[hx]at hidx
   by_cases hbad:x<0∨most<x
   ·have hV:Away (V=.tuple #[.string ⟨#[]⟩,.int .i64 6]):=⟨by rw[←HV.out,if_neg];intro hall;have:=hall j hlt;rw[hx]at this;omega⟩
    clear hx
    rcases hbad with hb1 | hb1
    ·go_wp2_with fail
     go_ret2
     exact⟨by rw[hV.out];rfl,BW.out⟩
    ·by_cases hb0:x<0
     ·go_wp2_with fail
      go_ret2
      exact⟨by rw[hV.out];rfl,BW.out⟩
     ·go_wp2_with fail
      go_ret2
      exact⟨by rw[hV.out];rfl,BW.out⟩
   ·have hb0:¬ x<0:=by omega
    have hb1:¬ most<x:=by omega
    have Hin2:Away (∀ i,i<j+1→0≤f i∧f i≤most):=⟨fun i hi=>by
     by_cases e:i=j
     ·subst e;rw[hx];omega
     ·exact Hin.out i (by omega)⟩
    clear hx hbad
    go_wp2_with fail
    go_roundw
    case rel=>exact⟨j+1,by omega,by go_num,Hin2,trivial⟩
    case measure=>simp[intOf];omega
  ·obtain rfl:j=256:=by omega
   simp only[Int.cast_ofNat_Int]
   have hall:inb f most:=Hin.out
   have hV:Away (V=.tuple #[.string O,.int .i64 0]):=⟨by rw[←HV.out,if_pos hall]⟩
   have C1:=Away.mk (HSt.out w.heap.size W hall (lt_of_row hrow.out) (Hcells.out W w.heap.size hrow.out))
   clear hall hj hlt
   go_wp2_with fail
   refine(HLg.out _).mono ?_
   rintro e w5 ⟨rfl,rfl⟩
   go_wp2_with fail
   refine C1.out.mono ?_
   rintro e w6 ⟨rfl,h6⟩
   have BF:Away (Below w.heap.size w w6):=⟨BW.out.trans (h6.mono BW.out.size)⟩
   clear h6
   go_wp2_with fail
   go_ret2
   exact⟨by rw[hV.out];rfl,BF.out⟩
end ppack
end Go.Proofs.YtgahcabgmfbhdaaGreatDoor
namespace Go.Proofs.YtgahcabgmfbhdaaGreatDoor
namespace psig
open Go Go.RowKit
open arr mem stil bitm bitn polys fldm fld1 rbita rbitb rbitc rbitd rbite
theorem ins_inb (f:Nat→Int) (low high:Int):inb (sg f high) (low+high)↔ins f low high:=by
 unfold inb ins sg
 constructor
 ·intro h i hi;have:=h i hi;omega
 ·intro h i hi;have:=h i hi;omega
theorem signed_any (f:Nat→Int) (low high:Int) (w:World) (h1 : 0≤low) (h3:low<4190208) (h2 : 1≤high) (h4:high<4190208):
 Calls Tryz.prog 103 #[.agg (FL .i64 256 f),.int .i64 low,.int .i64 high] w fun e w'=>e=.returned (if ins f low high then .tuple #[.string (packed (sg f high) (low+high)),.int .i64 0] else .tuple #[.string ⟨#[]⟩,.int .i64 6])∧Below w.heap.size w w':=by
 have HM:∀ w1:World,Calls Tryz.prog 110 #[.int .i64 low,.int .i64 high] w1 fun e w'=>e=.returned (.bool true)∧w'=w1:=fun w1=>by
  have h:=psmall.ends_any low high w1
  rw[decide_eq_true ⟨h1,h3,h2,h4⟩]at h
  exact h
 obtain⟨V,HV⟩:=ex_eq (if ins f low high then Value.tuple #[.string (packed (sg f high) (low+high)),.int .i64 0] else .tuple #[.string ⟨#[]⟩,.int .i64 6])
 obtain⟨v0,v1,hv⟩:∃ v0 v1,V=.tuple #[v0,v1]:=by
  rw[←HV.out]
  by_cases h:ins f low high
  ·rw[if_pos h];exact⟨_,_,rfl⟩
  ·rw[if_neg h];exact⟨_,_,rfl⟩
 have HPk:Away (∀ w1:World,Calls Tryz.prog 101 #[.agg (FL .i64 256 (sg f high)),.int .i64 (low+high)] w1 fun e w'=>e=.returned (.tuple #[v0,v1])∧Below w1.heap.size w1 w'):=⟨fun w1=>by
  have h9:=ppack.pack_any (sg f high) (low+high) w1 (by omega) (by omega)
  rw[show (if inb (sg f high) (low+high) then Value.tuple #[.string (packed (sg f high) (low+high)),.int .i64 0] else .tuple #[.string ⟨#[]⟩,.int .i64 6])=V by
   rw[←HV.out]
   by_cases h:ins f low high
   ·rw[if_pos h,if_pos ((ins_inb f low high).2 h)]
   ·rw[if_neg h,if_neg (fun k=>h ((ins_inb f low high).1 k))],hv]at h9
  exact h9⟩
 rw[HV.out,hv]
 clear HV hv
 obtain⟨G,HG⟩:=ex_eq (FL .i64 256 (sg f high))
 rw[HG.out]at HPk
 have Hidx:Away (∀ i:Nat,i<256→∀ w1,(Instr.index 109 (.agg (FL .i64 256 f)) (.int .i64 (i:Int))).run Tryz.prog w1=.ok (.int .i64 (f i)) w1):=⟨fun i hi w1=>index_row (P:=Tryz.prog) Tryz.underlying109 (by kernel_rfl) (by kernel_rfl) (by kernel_rfl) _ _ i hi (fl_get .i64 256 f i hi) w1⟩
 have Fi:Away ((Tryz.prog.info? 109).map (·.size)=some (FL .i64 256 f).size):=⟨by rw[fl_size];exact sizeP⟩
 have Gi:Away ((Tryz.prog.info? 109).map (·.size)=some G.size):=⟨by rw[←HG.out,fl_size];exact sizeP⟩
 obtain⟨F,HF⟩:=ex_eq (FL .i64 256 f)
 rw[HF.out]at Hidx Fi ⊢
 obtain⟨W,hW⟩:∃ x,w.alloc (.cells F 109)=x:=⟨_,rfl⟩
 have HW:=Away.mk hW
 have BW:Away (Below w.heap.size w W):=⟨by rw[←hW];exact below_alloc _ _⟩
 have hrow:Away (W.heap[w.heap.size]? = some (.cells F 109 (0,0))):=⟨by rw[←hW];exact heap_at _ _ _ rfl⟩
 have A0:Away (At w.heap.size (FL .i64 256 (pt (sg f high) f 0)) 109 W W):=⟨by rw[pt_zero,HF.out];exact At.refl hrow.out⟩
 have fl2:IntKind.i64.wrap (low+high)=low+high:=by rw[IntKind.wrap_i64];omega
 have HL:=Away.mk (And.intro h1 (And.intro h2 (And.intro h3 h4)))
 clear hW HF h1 h2 h3 h4
 go_enter Tryz.func103,Tryz.ntmps103
 go_wp2_with (rw[HW.out])
 refine(HM _).mono ?_
 rintro e W ⟨rfl,rfl⟩
 go_wp2_with (refine wpList_load_row rfl 109 _ rfl w.heap.size rfl 109 F (0,0) _ hrow.out Tryz.underlying109 rfl Fi.out ?_)
 go_loopw [15] (fun c wr=>∃ j:Nat,j≤256∧c=.int .i64 (j:Int)∧Away (At w.heap.size (FL .i64 256 (pt (sg f high) f j)) 109 W wr)) (fun c _=>256-(intOf c).toNat)
 case atStart=>exact⟨0,Nat.zero_le _,rfl,A0⟩
 case round=>
  clear A0
  obtain⟨j,hj,rfl,A0⟩:=hrel
  have BE:Away (Below w.heap.size w wr):=⟨BW.out.trans (A0.out.below (by have:=BW.out.size;omega) (Nat.le_refl _))⟩
  by_cases hlt:j<256
  ·have hjz:(j:Int)<256:=by omega
   have hidx:=Hidx.out j hlt
   have Hce:=Away.mk (fun w1=>centre_any (f j) 8380417 w1)
   obtain⟨c,hc⟩:∃ c,ce 8380417 (f j)=c:=⟨_,rfl⟩
   have hcs:=ce_small (f j)
   rw[hc]at Hce hcs
   have fs:IntKind.i64.wrap (high-c)=high-c:=by rw[IntKind.wrap_i64];have:=HL.out;omega
   have hsg:Away (high-c=sg f high j):=⟨by unfold sg;rw[hc]⟩
   clear hc hcs
   go_wp2_with fail
   refine(Hce.out _).mono ?_
   rintro e w2 ⟨rfl,rfl⟩
   clear hidx
   go_wp2_with ((with_reducible refine wpList_put2 A0 rfl _ _ _ rfl rfl ?_);refine⟨_,_,_,rfl,rfl,rfl,(by rw[fl_size];exact hlt),?_⟩;intro wn HR;rw[fl_set,pt_upd _ _ _ _ hsg.out]at HR)
   go_roundw
   case rel=>exact⟨j+1,by omega,by go_num,HR⟩
   case measure=>simp[intOf];omega
  ·obtain rfl:j=256:=by omega
   simp only[Int.cast_ofNat_Int]
   rw[fl_all,HG.out]at A0
   have Hrow:=Away.mk A0.out.row
   clear A0
   go_wp2_with (refine wpList_load_row rfl 109 _ rfl w.heap.size rfl 109 G (0,0) _ Hrow.out Tryz.underlying109 rfl Gi.out ?_)
   refine(HPk.out _).mono ?_
   rintro e w6 ⟨rfl,h6⟩
   have BF:Away (Below w.heap.size w w6):=⟨BE.out.trans (h6.mono BE.out.size)⟩
   clear h6
   go_wp2_with fail
   go_ret2
   exact⟨rfl,BF.out⟩
end psig
end Go.Proofs.YtgahcabgmfbhdaaGreatDoor
