/-
  What round's rightGamma2 and upTo return. Conditions: none. What round's Right return. Conditions: n
-/
import Derived.Test.YtgahcabgmfbhdaaGreatDoorZt02
import Derived.Test.YtgahcabgmfbhdaaGreatDoorProg
import Derived.Test.YtgahcabgmfbhdaaGreatDoorZt15
import Derived.Test.YtgahcabgmfbhdaaGreatDoorZt03
import Derived.Test.YtgahcabgmfbhdaaGreatDoorZt07
import Derived.Lib.QuietBelow
import Derived.StillTailTactics
import Derived.Shelf.Strconv.Itoa0
set_option maxRecDepth 100000
set_option maxHeartbeats 16000000
set_option linter.unusedSimpArgs false
set_option linter.unusedVariables false
open Go Go.RowKit
namespace Go.Proofs.YtgahcabgmfbhdaaGreatDoor
namespace rpart
open arr mem fldm rndm
theorem xhr(g:Int)(w:World):Calls Tryz.prog 89 #[.int .i64 g] w (zE w (.bool (okg g))):=by
 unfold okg;cases h1:g==95232
 ·cases h2:g==261888
  ·go_enter Tryz.func89,Tryz.ntmps89;go_wp2_with fail;go_ret;exact⟨rfl,rfl⟩
  ·go_enter Tryz.func89,Tryz.ntmps89;go_wp2_with fail;go_ret;exact⟨rfl,rfl⟩
 ·go_enter Tryz.func89,Tryz.ntmps89;go_wp2_with fail;go_ret;exact⟨rfl,rfl⟩
theorem xiy(n m:Int)(w:World):Calls Tryz.prog 88 #[.int .i64 n,.int .i64 m] w (zE w (.bool (upto n m))):=by
 unfold upto;by_cases h1 : 1≤n
 ·rw[decide_eq_true h1];by_cases h2:n≤m
  ·rw[decide_eq_true h2];go_enter Tryz.func88,Tryz.ntmps88;go_wp2_with fail;go_ret;exact⟨rfl,rfl⟩
  ·rw[decide_eq_false h2];go_enter Tryz.func88,Tryz.ntmps88;go_wp2_with fail;go_ret;exact⟨rfl,rfl⟩
 ·rw[decide_eq_false h1];go_enter Tryz.func88,Tryz.ntmps88;go_wp2_with fail;go_ret;exact⟨rfl,rfl⟩
end rpart
namespace rright
open arr mem polt rndm rpart
theorem bt(x:Bool):x=false∨x=true∧True:=by cases x<;>simp
theorem bo(x y:Bool):x=true∧True∨(x=false∧y=true∧True)∨x=false∧y=false:=by cases x<;>cases y<;>simp
theorem b3(x y z:Bool):x=true∨(x=false∧y=true)∨(x=false∧y=false∧z=true)∨x=false∧y=false∧z=false:=by cases x<;>cases y<;>cases z<;>simp
theorem bd(p:Prop):p∧True∨¬ p:=by by_cases h:p<;>simp[h]
theorem xbn(k l e t a b o s:Int)(w:World):Calls Tryz.prog 38 #[.agg (zLt k l e t a b o s)] w (zB w (.bool (latt k l e t a b o s))):=by
 obtain⟨W,hW⟩:=zev (w.alloc (.cells (zLt k l e t a b o s) 37));have HW:=ω hW;have HB:=zba hW;have hrow:W.heap[w.heap.size]? = some (.cells (zLt k l e t a b o s) 37 (0,0)):=by rw[←hW];exact xae _ _ _ rfl
 have c0:W.cell? ⟨w.heap.size,0,none⟩=some (.int .i64 k):=xab hrow rfl;have c1:W.cell? ⟨w.heap.size,1,none⟩=some (.int .i64 l):=xab hrow rfl;have c2:W.cell? ⟨w.heap.size,2,none⟩=some (.int .i64 e):=xab hrow rfl;have c3:W.cell? ⟨w.heap.size,3,none⟩=some (.int .i64 t):=xab hrow rfl;have c4:W.cell? ⟨w.heap.size,4,none⟩=some (.int .i64 a):=xab hrow rfl;have c5:W.cell? ⟨w.heap.size,5,none⟩=some (.int .i64 b):=xab hrow rfl;have c6:W.cell? ⟨w.heap.size,6,none⟩=some (.int .i64 o):=xab hrow rfl;have c7:W.cell? ⟨w.heap.size,7,none⟩=some (.int .i64 s):=xab hrow rfl;clear hrow hW;obtain⟨V,HV⟩:=xaa (latt k l e t a b o s);rw[HV.out];have Ch1:=xiy k 8;have Ch2:=xiy l 8;have Ch3:=xiy t 64;have Ch4:=xiy o 100;have Ch9:=xhr b;rcases bt (upto k 8) with h0 | ⟨h0,g0⟩
 all_goals try (have z:=g0;clear g0;rcases bt (upto l 8) with h1 | ⟨h1,g1⟩)
 all_goals try (have z:=g1;clear g1;rcases bt (upto t 64) with h2 | ⟨h2,g2⟩)
 all_goals try (have z:=g2;clear g2;rcases bt (upto o 100) with h3 | ⟨h3,g3⟩)
 all_goals try (have z:=g3;clear g3;rcases bo (e==2) (e==4) with ⟨h4,g4⟩ | ⟨h4,h4y,g4⟩ | ⟨h4,h4y⟩)
 all_goals try (have z:=g4;clear g4;rcases bo (a==131072) (a==524288) with ⟨h5,g5⟩ | ⟨h5,h5y,g5⟩ | ⟨h5,h5y⟩)
 all_goals try (have z:=g5;clear g5;rcases bt (okg b) with h6 | ⟨h6,g6⟩)
 all_goals try (have z:=g6;clear g6;rcases b3 (s==128) (s==192) (s==256) with h7 | ⟨h7,h7y⟩ | ⟨h7,h7y,h7z⟩ | ⟨h7,h7y,h7z⟩)
 all_goals
  try rw[h0]at Ch1
  try rw[h1]at Ch2
  try rw[h2]at Ch3
  try rw[h3]at Ch4
  try rw[h6]at Ch9
  have HE:=HV.out;clear HV;simp[latt, *]at HE;subst HE;go_enter Tryz.func38,Tryz.ntmps38;go_wp2_with (rw[HW.out]);repeat ((first | with_reducible refine(Ch1 _).mono ?_ | with_reducible refine(Ch2 _).mono ?_ | with_reducible refine(Ch3 _).mono ?_ | with_reducible refine(Ch4 _).mono ?_ | with_reducible refine(Ch9 _).mono ?_);rintro e0 w0 ⟨rfl,rfl⟩;go_wp2_with fail)
  go_ret;exact⟨rfl,HB.out⟩
end rright
section
open Go Go.RowKit helda heldb
variable {P:Program} {ops:Array Oper} {Q:Exit→Act→World→Prop} {S:World→Prop} {b b':Array Bool} {k:Nat} {ks:List Nat} {o:Oper} {rest:List Oper} {a a':Act} {w:World} {v:Value}
theorem zV(hS:S w)(h:HK P ops Q S b' rest ks a' w)(hc:tk ops b k o a=true:=by rw[←HO.out];kernel_rfl)(hQ:∀ c a w,Q (.panic c) (a.put o.dst v) w→Q (.panic c) a w:=by exact fun _ _ _ h=>h)(hy:∀ w,S w→(execOp a.eval o).run P w=.ok (.value v) w:=by intro w9 h9;go_simp;first | done | with_reducible rfl)(hb:b.setIfInBounds k true=b':=by first | (simp only[heldb.pa,heldb.pb,heldb.pc];first | done | rfl) | rfl)(ha:a.put o.dst v=a':=by simp only[Act.put,heldb.pa,heldb.pb,heldb.pc];first | done | rfl):HK P ops Q S b (o::rest) (k::ks) a w:=by
 subst hb ha;exact hk_t hc hQ hy hS h
theorem zW{p:World→Prop}(C:∀ w,S w→p w)(hS:S w)(h:HK P ops Q S b' rest ks a' w)(hc:tk ops b k o a=true:=by rw[←HO.out];kernel_rfl)(hQ:∀ c a w,Q (.panic c) (a.put o.dst v) w→Q (.panic c) a w:=by exact fun _ _ _ h=>h)(hy:∀ w,p w→(execOp a.eval o).run P w=.ok (.value v) w:=by intro w9 hc;go_simp;first | done | with_reducible rfl)(hb:b.setIfInBounds k true=b':=by first | (simp only[heldb.pa,heldb.pb,heldb.pc];first | done | rfl) | rfl)(ha:a.put o.dst v=a':=by simp only[Act.put,heldb.pa,heldb.pb,heldb.pc];first | done | rfl):HK P ops Q S b (o::rest) (k::ks) a w:=by
 subst hb ha;exact hk_t hc hQ (fun w h=>hy w (C w h)) hS h
end
namespace qmat
open arr mem stil polys polt rbitb rbitc rndm pols saml samr qpair qrow
theorem infoSl:(Tryz.prog.info? 67).map (fun i=>(i.zero,i.size,i.bytes))=some (some (.slice none 0 0),1,24):=by kernel_rfl
def OU(vs:List Value)(n:Nat):Array Value:=(vs++List.replicate n (Value.slice none 0 0)).toArray
theorem xok(vs:List Value)(n:Nat):(OU vs n).size=vs.length+n:=by unfold OU;simp
theorem ou_set(vs:List Value)(n:Nat)(v:Value):(OU vs (n+1)).setIfInBounds vs.length v=OU (vs ++ [v]) n:=by
 unfold OU;rw[List.setIfInBounds_toArray,List.set_append_right _ _ (Nat.le_refl _),Nat.sub_self,List.replicate_succ,List.set_cons_zero,List.append_assoc];rfl
theorem ou_get(vs:List Value)(n i:Nat)(h:i<vs.length):(OU vs n)[i]? = vs[i]? := by
 unfold OU;rw[List.getElem?_toArray,List.getElem?_append_left h]
theorem xoj(vs:List Value)(n:Nat)(v:Value):(OU (vs ++ [v]) n)[vs.length]? = some v:=by
 rw[ou_get _ _ _ (by rw[List.length_append];exact Nat.lt_succ_self _),List.getElem?_append_right (Nat.le_refl _),Nat.sub_self];rfl
theorem xsy{w w':World}{B:Nat}{e:TypeId}{n:Nat}(h:w'.ownsRow B e 1 (.slice (some ⟨w.heap.size,0,none⟩) n n) n (madeCells #[Value.slice none 0 0] n).toList)(hg:w.grownBy w' none):
 w'.heap[w.heap.size]? = some (.cells (OU [] n) e (0,0))∧Below w.heap.size w w':=by
 obtain⟨cur,h1,h2⟩:=xom h;have e0:cur=OU [] n:=by
  apply Array.ext';rw[h2,toList_madeCells_one];unfold OU;simp
 rw[e0]at h1;exact⟨h1,(Below.refl _ _).grown hg (Nat.le_refl _) (fun k hk=>by simp at hk)⟩
theorem xux{w w':World}{B gm ln:Nat}{vs:List Value}{p:Nat→Nat→Nat→Int}(h:Rowl w B (some gm) vs ln p)(hs:w.heap.size≤w'.heap.size)(hb:∀ g,g<w.heap.size→g≠gm→w'.heap[g]? = w.heap[g]?):Rowl w' B (some gm) vs ln p:=fun i v hv=>by
 obtain⟨g,c,e,h1,h2,h3,h4⟩:=h i v hv;refine⟨g,c,e,h1,Nat.lt_of_lt_of_le h2 hs,h3,fun s hs k hk=>?_⟩;rw[←h4 s hs k hk];have e2:=hb g h2 (fun e2=>h3 (by rw[e2]));simp only[World.cell?,e2]
theorem xkj{T:Array Value}(kn ln:Nat)(e t a b o s:Int)(sd:ByteArray)(q:Nat→Nat→Nat→Int)(w:World)(hT:(Tryz.prog.info? 34).map (·.size)=some T.size)(hk : 1≤kn∧kn≤8)(hl : 1≤ln∧ln≤8)(h:latt (kn:Int) (ln:Int) e t a b o s=true)(hsd:sd.size≤1125899906842624)
 (HS:∀ r c:Nat,r<8→c<8→∀ w1:World,Below w.heap.size w w1→Calls Tryz.prog 98 #[.agg T,.string (tw sd c r)] w1 (zB w1 (.agg (FL .i64 256 (q r c))))):
 Calls Tryz.prog 43 #[.agg T,.agg (zLt (kn:Int) (ln:Int) e t a b o s),.string sd] w fun x w'=>(∃ v vs,x=.returned v∧w'.ownsRow w.heap.size 67 1 v kn vs∧Rowl w' w.heap.size v.ownBlock vs ln q)∧Below w.heap.size w w':=by
 have HR:Ω (∀ w1:World,Calls Tryz.prog 38 #[.agg (zLt (kn:Int) (ln:Int) e t a b o s)] w1 (zB w1 (.bool true))):=⟨fun w1=>by rw[←h];exact rright.xbn _ _ e t a b o s w1⟩;obtain⟨i0,hi,hz0,hz1,hz2⟩:=parts infoPoly;obtain⟨hz,hsize⟩:=zero_of_info polt.infoP;obtain⟨z,HZ⟩:=xaa (FL .i64 256 fun _=>0);rw[HZ.out]at hz hz0;have HI:=ω (And.intro hi (And.intro hz0 (And.intro hz1 hz2)));obtain⟨j0,hj,hy0,hy1,hy2⟩:=parts infoSl;have HJ:=ω (And.intro hj (And.intro hy0 (And.intro hy1 hy2)));clear hj hy0 hy1 hy2;clear hi hz0 hz1 hz2 hsize;obtain⟨C,HC⟩:=xaa ((zLt (kn:Int) (ln:Int) e t a b o s):Array Value);rw[HC.out]at HR ⊢;have HCs:Ω ((Tryz.prog.info? 37).map (·.size)=some C.size):=⟨by rw[←HC.out];kernel_rfl⟩;obtain⟨W,hW⟩:=zev ((w.alloc (.cells T 34)).alloc (.cells C 37));obtain⟨r0,r1,hWs,b0⟩:=two hW;have T0:Ω (W.heap[w.heap.size]? = some (.cells T 34 (0,0))):=⟨r0⟩;have L0:Ω (W.heap[w.heap.size+1]? = some (.cells C 37 (0,0))):=⟨r1⟩;have BW:=ω b0;have HWs:=ω hWs;have HW:=ω hW;have HSm:=ω HS;have HTz:=ω hT;have Hk:=ω hk;have Hl:=ω hl;have Hsd:=ω hsd;clear hW r0 r1 b0 h HS hT hk hl hsd hWs;go_enter Tryz.func43,Tryz.ntmps43;go_wp2_with (first
  | (rw[HW.out])
  | (refine wpList_load_row rfl 37 _ rfl (w.heap.size+1) rfl 37 _ (0,0) _ L0.out zZ rfl HCs.out ?_))
 refine(HR.out _).mono ?_;rintro x u1 ⟨rfl,hb1⟩;have B1:Ω (Below w.heap.size w u1):=⟨BW.out.trans (hb1.mono (by rw[HWs.out];omega))⟩;have T1:Ω (u1.heap[w.heap.size]? = some (.cells T 34 (0,0))):=⟨(hb1.block _ (by rw[HWs.out];omega)).trans T0.out⟩;have L1:Ω (u1.heap[w.heap.size+1]? = some (.cells C 37 (0,0))):=⟨(hb1.block _ (by rw[HWs.out];omega)).trans L0.out⟩;have HcK:Ω (∀ w1:World,Below u1.heap.size u1 w1→w1.cell? ⟨w.heap.size+1,0,none⟩=some (.int .i64 (kn:Int))):=⟨fun w1 hb=>xab ((hb.block _ (xac L1.out)).trans L1.out) (by rw[←HC.out];rfl)⟩;have HcL:Ω (∀ w1:World,Below u1.heap.size u1 w1→w1.cell? ⟨w.heap.size+1,1,none⟩=some (.int .i64 (ln:Int))):=⟨fun w1 hb=>xab ((hb.block _ (xac L1.out)).trans L1.out) (by rw[←HC.out];rfl)⟩;have hln8:ln≤8:=Hl.out.2;have hkn8:kn≤8:=Hk.out.2;have cK1:=HcK.out u1 (Below.refl _ _);clear hb1;go_wp2_with (at_make;refine wpList_make_full _ rfl (.tmp 14) (.tmp 14) 63 rfl u1.heap.size 67 j0 (.slice none 0 0) 1 Tryz.underlying63 HJ.out.1 HJ.out.2.1 HJ.out.2.2.1 .i64 .i64 kn kn kn rfl rfl rfl rfl (by rw[HJ.out.2.2.2];omega) (by unfold maxLen;omega) (Nat.le_refl _) ?_);intro w3 hown hgr;obtain⟨hrow,hb3⟩:=xsy hown hgr;obtain⟨gm,hgm⟩:=zev u1.heap.size;rw[hgm]at hrow;have B3:Ω (Below u1.heap.size u1 w3):=⟨hb3⟩;have Hgm:Ω (u1.heap.size=gm):=⟨hgm⟩;have O3:Ω (∃ vs,vs.length=0∧w3.heap[gm]? = some (.cells (OU vs (kn-0)) 67 (0,0))∧Rowl w3 gm (some gm) vs ln q):=⟨[],rfl,hrow,xpl _ _ _ _ _⟩;rw[hgm];clear hown hgr hrow hb3 cK1 hgm;go_wp2_with fail;go_loopw [18] (fun v wr=>∃ r:Nat,r≤kn∧v=.int .i64 (r:Int)∧Ω (∃ vs,vs.length=r∧wr.heap[gm]? = some (.cells (OU vs (kn-r)) 67 (0,0))∧Rowl wr gm (some gm) vs ln q)∧Ω (Below u1.heap.size u1 wr)) (fun v _=>kn-(intOf v).toNat)
 case atStart=>exact⟨0,Nat.zero_le _,rfl,O3,B3⟩
 case round=>
  clear O3;obtain⟨r,hr,rfl,HO,Hb⟩:=hrel;rename World=>wo
  by_cases hlt:r<kn
  ·have hltz:(r:Int)<(kn:Int):=by omega
   have hr8:r<8:=by omega
   obtain⟨vs,hvl,hov,hrv⟩:=HO.out;have hgl:gm<wo.heap.size:=xac hov;have cL1:=HcL.out wo Hb.out;have Hov:=ω hov;have Hrv:=ω hrv;have Hvl:=ω hvl;clear hov hrv hvl HO;go_wp2_with (at_make;refine wpList_make_full _ rfl (.tmp 24) (.tmp 24) 67 rfl wo.heap.size 109 i0 (.agg z) 256 Tryz.underlying67 HI.out.1 HI.out.2.1 HI.out.2.2.1 .i64 .i64 ln ln ln rfl rfl rfl rfl (by rw[HI.out.2.2.2];omega) (by unfold maxLen;omega) (Nat.le_refl _) ?_);intro w5 hown hgr;obtain⟨hrow,hb5⟩:=xbm HZ.out hown hgr;obtain⟨gr,hgr2⟩:=zev wo.heap.size;rw[hgr2]at hrow hgl ⊢;have Hgr:Ω (wo.heap.size=gr):=⟨hgr2⟩;have A5:Ω (At gm (OU vs (kn-r)) 67 w5 w5):=⟨At.refl ((hb5.block _ (by rw[hgr2];exact hgl)).trans Hov.out)⟩;have R5:Ω (w5.heap[gr]? = some (.cells (RW ln fun _ _=>0) 109 (0,0))):=⟨hrow⟩;have HB5:Ω (Below wo.heap.size wo w5):=⟨hb5⟩;have Hset:Ω ((OU vs (kn-r)).setIfInBounds r (.slice (some ⟨gr,0,none⟩) ln ln)=OU (vs ++ [.slice (some ⟨gr,0,none⟩) ln ln]) (kn-(r+1))):=⟨by
    have:=ou_set vs (kn-(r+1)) (.slice (some ⟨gr,0,none⟩) ln ln);rw[Hvl.out,show kn-(r+1)+1=kn-r by omega]at this;exact this⟩
   have Hin:Ω (r<(OU vs (kn-r)).size):=⟨by rw[xok,Hvl.out];omega⟩;clear hown hgr hrow hb5 hgr2 cL1;go_wp2_with ((with_reducible refine xg3 A5 rfl _ _ _ rfl r (.slice (some ⟨gr,0,none⟩) ln ln) rfl rfl ?hz rfl Hin.out rfl ?_);(case hz=>kernel_rfl);intro wn A6;rw[Hset.out]at A6;have hcr:wn.cell? ⟨gm,r,none⟩=some (.slice (some ⟨gr,0,none⟩) ln ln):=by rw[A6.out.cell,←Hvl.out];exact xoj _ _ _);have R6:Ω (wn.heap[gr]? = some (.cells (RW ln fun _ _=>0) 109 (0,0))):=⟨A6.out.other (xac R5.out) (by omega) R5.out⟩;have Hbl:Ω (∀ g,g<wo.heap.size→g≠gm→wn.heap[g]? = wo.heap[g]?):=⟨fun g h1 h2=>(A6.out.block g (Nat.lt_of_lt_of_le h1 HB5.out.size) h2).trans (HB5.out.block g h1)⟩;have BN:Ω (Below u1.heap.size u1 wn):=⟨Hb.out.trans ((HB5.out.mono Hb.out.size).trans (A6.out.below (Nat.le_trans Hb.out.size HB5.out.size) (Nat.le_of_eq Hgm.out)))⟩;have Rm:Ω (wn.heap[gm]? = some (.cells (OU (vs ++ [.slice (some ⟨gr,0,none⟩) ln ln]) (kn-(r+1))) 67 (0,0))):=⟨A6.out.row⟩;have Hws:Ω (wo.heap.size≤wn.heap.size):=⟨Nat.le_trans HB5.out.size A6.out.size⟩;have A7:Ω (At gr (RW ln (fst (q r) 0)) 109 wn wn):=⟨by rw[xbl];exact At.refl R6.out⟩;have Hgu:Ω (u1.heap.size≤gr):=⟨by have:=Hb.out.size;rw[Hgr.out]at this;exact this⟩;clear A5 A6 R5 R6 Hset Hin HB5 hcr;go_loopw [32] (fun v wr=>∃ c:Nat,c≤ln∧v=.int .i64 (c:Int)∧Ω (At gr (RW ln (fst (q r) c)) 109 wn wr)) (fun v _=>ln-(intOf v).toNat)
   case atStart=>exact⟨0,Nat.zero_le _,rfl,A7⟩
   case round=>
    clear A7;obtain⟨c,hc,rfl,A0⟩:=hrel;have BU:Ω (Below u1.heap.size u1 wr):=⟨BN.out.trans (A0.out.below BN.out.size Hgu.out)⟩;have BE:=zbt B1 BU.out;by_cases hclt:c<ln
    ·have hcz:(c:Int)<(ln:Int):=by omega
     have hc8:c<8:=by omega
     have T2:Ω (wr.heap[w.heap.size]? = some (.cells T 34 (0,0))):=⟨(BU.out.block _ (xac T1.out)).trans T1.out⟩;have HPr:Ω (∀ w1:World,Calls Tryz.prog 92 #[.int .i64 (c:Int),.int .i64 (r:Int)] w1 (zB w1 (.string (x2 c r)))):=⟨fun w1=>xdt c r (by omega) (by omega) w1⟩;have HSr:Ω (∀ w1:World,Below w.heap.size w w1→Calls Tryz.prog 98 #[.agg T,.string (sd++x2 c r)] w1 (zB w1 (.agg (FL .i64 256 (q r c))))):=⟨fun w1 hb=>HSm.out r c hr8 hc8 w1 hb⟩;have Rw:Ω (wr.heap[gm]? = some (.cells (OU (vs ++ [.slice (some ⟨gr,0,none⟩) ln ln]) (kn-(r+1))) 67 (0,0))):=⟨A0.out.other (xac Rm.out) (by omega) Rm.out⟩;have cr2:∀ d os,(Go.Sort.grow (redrawn wr d) os).cell? ⟨gm,r,none⟩=some (.slice (some ⟨gr,0,none⟩) ln ln):=fun d os=>xab (((below_regrown wr d os).block _ (xac Rw.out)).trans Rw.out) (by rw[←Hvl.out];exact xoj _ _ _)
     obtain⟨X,HX⟩:=xaa (x2 c r);rw[HX.out]at HPr HSr;have hXs:X.size=2:=by rw[←HX.out];rfl
     have hsz:(9223372036854775807<sd.size+2)=False:=by have:=Hsd.out;simp;omega
     obtain⟨F,HF⟩:=xaa (FL .i64 256 (q r c));rw[HF.out]at HSr;obtain⟨o6,ho6⟩:=zev (c*256);have Ho6:=ω ho6;have Hclt:=ω hclt;have Hup:Ω (ups (fst (q r) c) c (q r c)=fst (q r) (c+1)):=⟨xbp (q r) c⟩;clear HX;go_wp2_with fail;refine qtail.xb0 12 (by kernel_rfl) (by kernel_rfl) ?_;iterate 5 (quiet_step (skip))
     refine xa2 rfl 34 _ rfl _ rfl 34 _ _ (fun w' hC=>xaw T2.out hC) zY rfl HTz.out ?_;iterate 3 (quiet_step (skip))
     quiet_step (exact Calls.regrown_of (HPr.out _));quiet_step (skip);quiet_step (exact Calls.regrown_of (HSr.out _ (BE.out.trans ((below_regrown _ _ _).mono BE.out.size))));refine wpQuiet_nil ?_;intro w8 hC;have hbn:Below wr.heap.size wr w8:=by
      obtain⟨pp,rfl⟩:=hC;exact below_regrown _ _ _
     have A8:Ω (At gr (RW ln (fst (q r) c)) 109 wn w8):=⟨A0.out.later hbn⟩;clear hC hbn A0 hXs hsz HPr HSr cr2;simp only[List.drop_succ_cons,List.drop_zero];go_wp2_with ((with_reducible refine xcg A8 HF.out Hclt.out Ho6.out rfl _ _ rfl rfl ?hx ?hy ?_);(case hx=>exact rfl);(case hy=>exact rfl);intro w9 A9;rw[Hup.out]at A9);go_roundw
     case rel=>exact⟨c+1,by have:=Hclt.out;omega,by go_num,A9⟩
     case measure=>have:=Hclt.out;simp[intOf];omega
    ·obtain rfl:c=ln:=by omega
     have hbl2:∀ g,g<wo.heap.size→g≠gm→wr.heap[g]? = wo.heap[g]? := fun g h1 h2=>(A0.out.block g (Nat.lt_of_lt_of_le h1 Hws.out) (by have:=Hgr.out;omega)).trans (Hbl.out g h1 h2)
     have Rw:wr.heap[gm]? = some (.cells (OU (vs ++ [.slice (some ⟨gr,0,none⟩) c c]) (kn-(r+1))) 67 (0,0)):=A0.out.other (xac Rm.out) (by omega) Rm.out;have hH:Holds wr wo.heap.size (.slice (some ⟨gr,0,none⟩) c c) c (q r):=xbo A0.out.row (Nat.le_of_eq Hgr.out) (fun i hi=>xbk (q r) c i hi);have hR1:=xux Hrv.out (Nat.le_trans Hws.out A0.out.size) hbl2;have hR2:=Rowl.snoc (x:=.slice (some ⟨gm,0,none⟩) kn kn) (y:=.slice (some ⟨gr,0,none⟩) c c) hR1 (by rw[Hvl.out];exact hH) (Nat.le_of_lt (by have:=Hgr.out;omega)) (fun k hk=>by
      have e:gm=k:=by injection hk
      have:=Hgr.out;omega)
     have O8:Ω (∃ vs,vs.length=r+1∧wr.heap[gm]? = some (.cells (OU vs (kn-(r+1))) 67 (0,0))∧Rowl wr gm (some gm) vs c q):=⟨_,by rw[List.length_append,Hvl.out];rfl,Rw,hR2⟩;clear hbl2 Rw hH hR1 hR2 A0;go_wp2_with fail;go_roundw
     case rel=>exact⟨r+1,by omega,by go_num,O8,BU⟩
     case measure=>simp[intOf];omega
  ·obtain rfl:r=kn:=by omega
   obtain⟨vs,hvl,hov,hrv⟩:=HO.out;rw[Nat.sub_self]at hov;have Fx:Ω (wo.ownsRow w.heap.size 67 1 (.slice (some ⟨gm,0,none⟩) r r) r vs):=⟨by omega,Or.inr ⟨gm,r,_,rfl,Nat.le_trans B1.out.size (Nat.le_of_eq Hgm.out),hov,Nat.le_refl _,by unfold maxLen;omega,by rw[xok];omega,by unfold OU;rw[List.replicate_zero,List.append_nil];show vs.take (r*1)=vs;exact List.take_of_length_le (by omega)⟩⟩;have Gx:Ω (Rowl wo w.heap.size (some gm) vs ln q):=⟨hrv.base (Nat.le_trans B1.out.size (Nat.le_of_eq Hgm.out))⟩;clear hov hrv hvl HO;go_wp2_with fail;go_ret;exact⟨⟨_,vs,rfl,Fx.out,Gx.out⟩,B1.out.trans (Hb.out.mono B1.out.size)⟩
end qmat
namespace qsec
open arr mem stil polys polt rbitb rbitc rndm pols saml qpair qrow helda
section
variable {P:Program} {ops:Array Oper} {Q:Exit→Act→World→Prop} {S:World→Prop}
theorem xj4{b:Array Bool}{k1 k2:Nat}{ks:List Nat}{o1 o2:Oper}{rest:List Oper}{a:Act}{w:World}(hw1:Region.wanted o1 (yielded ops a.tmps)=true)(hw2:Region.wanted o2 (yielded ops a.tmps)=true)(hr:Region.ready .any ops b=[k1,k2])
 (h1:∀ K:Act→World→Prop,(∀ a' w',S w'→HK P ops Q S (b.setIfInBounds k1 true) (o2 :: rest) (k2 :: ks) a' w'→K a' w')→o1.wp P a w K Q)
 (h2:∀ K:Act→World→Prop,(∀ a' w',S w'→HK P ops Q S (b.setIfInBounds k2 true) (o1 :: rest) (k1 :: ks) a' w'→K a' w')→o2.wp P a w K Q):HK P ops Q S b (o1 :: o2 :: rest) (k1 :: k2 :: ks) a w:=fun hl=>by
 simp only[List.map_cons,List.cons.injEq]at hl;obtain⟨e1,e2,e3⟩:=hl;refine wpAnyH_all hr (by simp) fun j hj=>?_
 simp only[List.mem_cons,List.not_mem_nil,or_false]at hj;rcases hj with rfl | rfl
 ·unfold Go.wpOp;simp only[e1,hw1,if_true];exact Or.inl (h1 _ fun a' w' hs hh=>⟨hs,hh (by simp only[List.map_cons,e2,e3])⟩)
 ·unfold Go.wpOp;simp only[e2,hw2,if_true];exact Or.inl (h2 _ fun a' w' hs hh=>⟨hs,hh (by simp only[List.map_cons,e1,e3])⟩)
theorem xj2{b:Array Bool}{k1 k2:Nat}{ks:List Nat}{o1 o2:Oper}{rest:List Oper}{a:Act}{w:World}(h:HK P ops Q S b (o2 :: o1 :: rest) (k2 :: k1 :: ks) a w):HK P ops Q S b (o1 :: o2 :: rest) (k1 :: k2 :: ks) a w:=fun hl=>by
 simp only[List.map_cons,List.cons.injEq]at hl;exact h (by simp only[List.map_cons,hl.1,hl.2.1,hl.2.2])
end
theorem xvb{T:Array Value}(kn ln:Nat)(e t a b o s:Int)(sd:ByteArray)(q:Nat→Nat→Int)(w:World)(hT:(Tryz.prog.info? 34).map (·.size)=some T.size)(hk : 1≤kn∧kn≤8)(hl : 1≤ln∧ln≤8)(h:latt (kn:Int) (ln:Int) e t a b o s=true)(hsd:sd.size≤1125899906842624)
 (HS:∀ r:Nat,r<16→∀ w1:World,Below w.heap.size w w1→Calls Tryz.prog 91 #[.agg T,.string (tw sd r 0),.int .i64 e] w1 (zB w1 (.agg (FL .i64 256 (q r))))):
 Calls Tryz.prog 40 #[.agg T,.agg (zLt (kn:Int) (ln:Int) e t a b o s),.string sd] w fun x w'=>(∃ v1 v2,x=.returned (.tuple #[v1,v2])∧Holds w' w.heap.size v1 ln q∧Holds w' w.heap.size v2 kn (fun i=>q (ln+i)))∧Below w.heap.size w w':=by
 have HR:Ω (∀ w1:World,Calls Tryz.prog 38 #[.agg (zLt (kn:Int) (ln:Int) e t a b o s)] w1 (zB w1 (.bool true))):=⟨fun w1=>by rw[←h];exact rright.xbn _ _ e t a b o s w1⟩;obtain⟨i0,hi,hz0,hz1,hz2⟩:=parts infoPoly;obtain⟨hz,hsize⟩:=zero_of_info polt.infoP;obtain⟨z,HZ⟩:=xaa (FL .i64 256 fun _=>0);rw[HZ.out]at hz hz0;have HI:=ω (And.intro hi (And.intro hz0 (And.intro hz1 hz2)));have hbytes:i0.bytes=2048:=hz2;clear hi hz0 hz1 hz2 hsize;obtain⟨C,HC⟩:=xaa ((zLt (kn:Int) (ln:Int) e t a b o s):Array Value);rw[HC.out]at HR ⊢;have HCs:Ω ((Tryz.prog.info? 37).map (·.size)=some C.size):=⟨by rw[←HC.out];kernel_rfl⟩;obtain⟨W,hW⟩:=zev ((w.alloc (.cells T 34)).alloc (.cells C 37));obtain⟨r0,r1,hWs,b0⟩:=two hW;have T0:Ω (W.heap[w.heap.size]? = some (.cells T 34 (0,0))):=⟨r0⟩;have L0:Ω (W.heap[w.heap.size+1]? = some (.cells C 37 (0,0))):=⟨r1⟩;have BW:=ω b0;have HWs:=ω hWs;have HW:=ω hW;have HSm:=ω HS;have HTz:=ω hT;have Hk:=ω hk;have Hl:=ω hl;have Hsd:=ω hsd;clear hW r0 r1 b0 h HS hT hk hl hsd hWs;go_enter Tryz.func40,Tryz.ntmps40;go_wp2_with (first
  | (rw[HW.out])
  | (refine wpList_load_row rfl 37 _ rfl (w.heap.size+1) rfl 37 _ (0,0) _ L0.out zZ rfl HCs.out ?_))
 refine(HR.out _).mono ?_;rintro x u1 ⟨rfl,hb1⟩;have B1:Ω (Below w.heap.size w u1):=⟨BW.out.trans (hb1.mono (by rw[HWs.out];omega))⟩;have T1:Ω (u1.heap[w.heap.size]? = some (.cells T 34 (0,0))):=⟨(hb1.block _ (by rw[HWs.out];omega)).trans T0.out⟩;have L1:Ω (u1.heap[w.heap.size+1]? = some (.cells C 37 (0,0))):=⟨(hb1.block _ (by rw[HWs.out];omega)).trans L0.out⟩;have HcK:Ω (∀ w1:World,Below u1.heap.size u1 w1→w1.cell? ⟨w.heap.size+1,0,none⟩=some (.int .i64 (kn:Int))):=⟨fun w1 hb=>xab ((hb.block _ (xac L1.out)).trans L1.out) (by rw[←HC.out];rfl)⟩;have HcL:Ω (∀ w1:World,Below u1.heap.size u1 w1→w1.cell? ⟨w.heap.size+1,1,none⟩=some (.int .i64 (ln:Int))):=⟨fun w1 hb=>xab ((hb.block _ (xac L1.out)).trans L1.out) (by rw[←HC.out];rfl)⟩;have HcE:Ω (∀ w1:World,Below u1.heap.size u1 w1→w1.cell? ⟨w.heap.size+1,2,none⟩=some (.int .i64 e)):=⟨fun w1 hb=>xab ((hb.block _ (xac L1.out)).trans L1.out) (by rw[←HC.out];rfl)⟩;have hln8:ln≤8:=Hl.out.2;have hkn8:kn≤8:=Hk.out.2;clear hb1;go_wp2_with fail;obtain⟨B0,hB0⟩:=zev u1.heap.size;refine xbe B0 8 [0,1,3,4,2,5,6,7] (by kernel_rfl) rfl rfl (by decide) (fun hS ops HO=>?_);simp only[List.filterMap_cons,List.filterMap_nil,List.getElem?_cons_succ,List.getElem?_cons_zero];refine zV hS ?_;(focus (refine heldb.hk_t (v:=?_) (by rw[←HO.out];kernel_rfl) (fun _ _ _ h=>h) ?_ hS ?_;rotate_left;focus (intro w9 h9;have hc:=HcL.out w9 (by rw[hB0];exact h9);go_simp;first | done | with_reducible rfl);all_goals skip))
 simp only[Act.put,heldb.pa,heldb.pb,heldb.pc];refine zV hS ?_;(focus (refine heldb.hk_t (v:=?_) (by rw[←HO.out];kernel_rfl) (fun _ _ _ h=>h) ?_ hS ?_;rotate_left;focus (intro w9 h9;have hc:=HcK.out w9 (by rw[hB0];exact h9);go_simp;first | done | with_reducible rfl);all_goals skip))
 simp only[Act.put,heldb.pa,heldb.pb,heldb.pc];refine xj4 (by rw[←HO.out];kernel_rfl) (by rw[←HO.out];kernel_rfl) (by rw[←HO.out];kernel_rfl) (fun K hK=>?_) (fun K hK=>?_)
 ·refine xdz (.tmp 16) (.tmp 16) 67 rfl 109 i0 (.agg z) 256 Tryz.underlying67 HI.out.1 HI.out.2.1 HI.out.2.2.1 .i64 .i64 ln rfl rfl (by rw[HI.out.2.2.2];omega) (by unfold maxLen;omega) ?_;intro w3 hown hgr;obtain⟨hrow,hb3⟩:=xbm HZ.out hown hgr;have h3:Below u1.heap.size u1 w3:=(Below.refl _ _).drew.trans hb3;refine hK _ _ (by rw[←hB0];exact h3) ?_;clear hK K;obtain⟨ga,hga⟩:=zev u1.heap.size;have R1:w3.heap[ga]? = some (.cells (RW ln fun _ _=>0) 109 (0,0)):=by rw[←hga];exact hrow
  have l1:ga<w3.heap.size:=xac R1;show HK _ _ _ _ _ _ _ (Act.put _ _ (.slice (some ⟨u1.heap.size,0,none⟩) ln ln)) _;rw[hga];simp only[Act.put,heldb.pa,heldb.pb,heldb.pc];refine xj2 ?_;(focus (refine heldb.hk_t (v:=?_) (by rw[←HO.out];kernel_rfl) (fun _ _ _ h=>h) ?_ (by rw[←hB0];exact h3) ?_;rotate_left;focus (intro w9 h9;go_simp;first | done | with_reducible rfl);all_goals skip))
  simp only[Act.put,heldb.pa,heldb.pb,heldb.pc];refine zS fun K hK=>?_
  refine xdz (.tmp 19) (.tmp 19) 67 rfl 109 i0 (.agg z) 256 Tryz.underlying67 HI.out.1 HI.out.2.1 HI.out.2.2.1 .i64 .i64 kn rfl rfl (by rw[HI.out.2.2.2];omega) (by unfold maxLen;omega) ?_;intro w4 hown2 hgr2;obtain⟨hrow2,hb4⟩:=xbm HZ.out hown2 hgr2;have h4:=zbm h3 hb4;have h5:Below B0 u1 w4:=by rw[←hB0];exact h4
  refine hK _ _ h5 ?_;clear hK K;obtain⟨gb,hgb⟩:=zev w3.heap.size;have R2:w4.heap[gb]? = some (.cells (RW kn fun _ _=>0) 109 (0,0)):=by rw[←hgb];exact hrow2
  have R3:w4.heap[ga]? = some (.cells (RW ln fun _ _=>0) 109 (0,0)):=(hb4.block _ l1).trans R1;rw[hgb];simp only[Act.put,heldb.pa,heldb.pb,heldb.pc];refine zV h5 ?_;refine zN ?_;have G1:Ω (w4.heap[ga]? = some (.cells (RW ln fun _ _=>0) 109 (0,0))):=⟨R3⟩;have G2:Ω (w4.heap[gb]? = some (.cells (RW kn fun _ _=>0) 109 (0,0))):=⟨R2⟩;have Hg:Ω (ga≠gb∧u1.heap.size≤ga∧u1.heap.size≤gb):=⟨by have:=h3.size;refine⟨?_,?_,?_⟩<;>omega⟩;have B4:=ω h4;clear hown hgr hrow hb3 h3 hown2 hgr2 hrow2 hb4 h4 R1 R2 R3 l1 HO hS h5 hB0 hga hgb;go_wp2_with fail;have Aga:Ω (At ga (RW ln (fst q 0)) 109 w4 w4):=⟨by rw[xbl];exact At.refl G1.out⟩;have BXga:=B4;go_loopw [23] (fun v wr=>∃ r:Nat,r≤ln∧v=.int .i64 (r:Int)∧Ω (At ga (RW ln (fst q r)) 109 w4 wr)) (fun v _=>ln-(intOf v).toNat)
  case atStart=>exact⟨0,Nat.zero_le _,rfl,Aga⟩
  case round=>
   clear Aga;obtain⟨r,hr,rfl,A0⟩:=hrel;have BU:Ω (Below u1.heap.size u1 wr):=⟨BXga.out.trans (A0.out.below BXga.out.size Hg.out.2.1)⟩;have BE:=zbt B1 BU.out;by_cases hlt:r<ln
   ·have hltz:(r:Int)<(ln:Int):=by omega
    have hr16:r<16:=by have:=Hk.out;have:=Hl.out;omega
    have T2:Ω (wr.heap[w.heap.size]? = some (.cells T 34 (0,0))):=⟨(BU.out.block _ (xac T1.out)).trans T1.out⟩;have HPr:Ω (∀ w1:World,Calls Tryz.prog 92 #[.int .i64 (r:Int),.int .i64 0] w1 (zB w1 (.string (x2 r 0)))):=⟨fun w1=>xdt r 0 (by omega) (by omega) w1⟩;have HSr:Ω (∀ w1:World,Below w.heap.size w w1→Calls Tryz.prog 91 #[.agg T,.string (sd++x2 r 0),.int .i64 e] w1 (zB w1 (.agg (FL .i64 256 (q r))))):=⟨fun w1 hb=>by
     have:=HSm.out r hr16 w1 hb;first | exact this | (rw[hM];exact this)⟩
    have cE2:∀ d os,(Go.Sort.grow (redrawn wr d) os).cell? ⟨w.heap.size+1,2,none⟩=some (.int .i64 e):=fun d os=>HcE.out _ (BU.out.trans ((below_regrown _ _ _).mono BU.out.size))
    obtain⟨X,HX⟩:=xaa (x2 r 0);rw[HX.out]at HPr HSr;have hXs:X.size=2:=by rw[←HX.out];rfl
    have hsz:(9223372036854775807<sd.size+2)=False:=by have:=Hsd.out;simp;omega
    obtain⟨F,HF⟩:=xaa (FL .i64 256 (q r));rw[HF.out]at HSr;obtain⟨o6,ho6⟩:=zev (r*256);have Ho6:=ω ho6;have Hlt:=ω hlt;have Hup:Ω (ups (fst q r) r (q r)=fst q (r+1)):=⟨xbp q r⟩;clear HX;go_wp2_with fail;refine qtail.xb0 10 (by kernel_rfl) (by kernel_rfl) ?_;iterate 2 (quiet_step (skip))
    refine xa2 rfl 34 _ rfl _ rfl 34 _ _ (fun w' hC=>xaw T2.out hC) zY rfl HTz.out ?_;iterate 2 (quiet_step (skip))
    quiet_step (exact Calls.regrown_of (HPr.out _));iterate 3 (quiet_step (skip))
    quiet_step (exact Calls.regrown_of (HSr.out _ (BE.out.trans ((below_regrown _ _ _).mono BE.out.size))));refine wpQuiet_nil ?_;intro wn hC;have hbn:Below wr.heap.size wr wn:=by
     obtain⟨pp,rfl⟩:=hC;exact below_regrown _ _ _
    have A6:Ω (At ga (RW ln (fst q r)) 109 w4 wn):=⟨A0.out.later hbn⟩;clear hC hbn A0 hXs hsz HPr HSr cE2;simp only[List.drop_succ_cons,List.drop_zero];go_wp2_with ((with_reducible refine xcg A6 HF.out Hlt.out Ho6.out rfl _ _ rfl rfl ?hx ?hy ?_);(case hx=>exact rfl);(case hy=>exact rfl);intro w7 A7;rw[Hup.out]at A7);go_roundw
    case rel=>exact⟨r+1,by have:=Hlt.out;omega,by go_num,A7⟩
    case measure=>have:=Hlt.out;simp[intOf];omega
   ·obtain rfl:r=ln:=by omega
    rename World=>wo
    have F1:Ω (wo.heap[ga]? = some (.cells (RW r (fst q r)) 109 (0,0))):=⟨A0.out.row⟩;have Agb:Ω (At gb (RW kn (fst (fun i=>q (r+i)) 0)) 109 wo wo):=⟨by rw[xbl];exact At.refl (A0.out.other (xac G2.out) (Ne.symm Hg.out.1) G2.out)⟩;have BXgb:=BU;clear A0 G1 G2;go_wp2_with fail;go_loopw [40] (fun v wr=>∃ r2:Nat,r2≤kn∧v=.int .i64 (r2:Int)∧Ω (At gb (RW kn (fst (fun i=>q (r+i)) r2)) 109 wo wr)) (fun v _=>kn-(intOf v).toNat)
    case atStart=>exact⟨0,Nat.zero_le _,rfl,Agb⟩
    case round=>
     clear Agb;obtain⟨r2,hr,rfl,A0⟩:=hrel;have BU:Ω (Below u1.heap.size u1 wr):=⟨BXgb.out.trans (A0.out.below BXgb.out.size Hg.out.2.2)⟩;have BE:=zbt B1 BU.out;by_cases hlt:r2<kn
     ·have hltz:(r2:Int)<(kn:Int):=by omega
      have hr16:(r+r2)<16:=by have:=Hk.out;have:=Hl.out;omega
      obtain⟨M,hM⟩:=zev (r+r2);have fM:IntKind.i64.wrap ((r:Int)+(r2:Int))=(M:Int):=zwi;have cL2:∀ d os,(Go.Sort.grow (redrawn wr d) os).cell? ⟨w.heap.size+1,1,none⟩=some (.int .i64 (r:Int)):=fun d os=>HcL.out _ (BU.out.trans ((below_regrown _ _ _).mono BU.out.size))
      have T2:Ω (wr.heap[w.heap.size]? = some (.cells T 34 (0,0))):=⟨(BU.out.block _ (xac T1.out)).trans T1.out⟩;have HPr:Ω (∀ w1:World,Calls Tryz.prog 92 #[.int .i64 (M:Int),.int .i64 0] w1 (zB w1 (.string (x2 M 0)))):=⟨fun w1=>xdt M 0 (by omega) (by omega) w1⟩;have HSr:Ω (∀ w1:World,Below w.heap.size w w1→Calls Tryz.prog 91 #[.agg T,.string (sd++x2 M 0),.int .i64 e] w1 (zB w1 (.agg (FL .i64 256 (q (r+r2)))))):=⟨fun w1 hb=>by
       have:=HSm.out (r+r2) hr16 w1 hb;rw[hM]at this;first | exact this | (rw[hM];exact this)⟩
      have cE2:∀ d os,(Go.Sort.grow (redrawn wr d) os).cell? ⟨w.heap.size+1,2,none⟩=some (.int .i64 e):=fun d os=>HcE.out _ (BU.out.trans ((below_regrown _ _ _).mono BU.out.size))
      obtain⟨X,HX⟩:=xaa (x2 M 0);rw[HX.out]at HPr HSr;have hXs:X.size=2:=by rw[←HX.out];rfl
      have hsz:(9223372036854775807<sd.size+2)=False:=by have:=Hsd.out;simp;omega
      obtain⟨F,HF⟩:=xaa (FL .i64 256 (q (r+r2)));rw[HF.out]at HSr;obtain⟨o6,ho6⟩:=zev (r2*256);have Ho6:=ω ho6;have Hlt:=ω hlt;have Hup:Ω (ups (fst (fun i=>q (r+i)) r2) r2 (q (r+r2))=fst (fun i=>q (r+i)) (r2+1)):=⟨xbp (fun i=>q (r+i)) r2⟩;clear HX;go_wp2_with fail;refine qtail.xb0 13 (by kernel_rfl) (by kernel_rfl) ?_;iterate 2 (quiet_step (skip))
      refine xa2 rfl 34 _ rfl _ rfl 34 _ _ (fun w' hC=>xaw T2.out hC) zY rfl HTz.out ?_;iterate 5 (quiet_step (skip))
      quiet_step (exact Calls.regrown_of (HPr.out _));iterate 3 (quiet_step (skip))
      quiet_step (exact Calls.regrown_of (HSr.out _ (BE.out.trans ((below_regrown _ _ _).mono BE.out.size))));refine wpQuiet_nil ?_;intro wn hC;have hbn:Below wr.heap.size wr wn:=by
       obtain⟨pp,rfl⟩:=hC;exact below_regrown _ _ _
      have A6:Ω (At gb (RW kn (fst (fun i=>q (r+i)) r2)) 109 wo wn):=⟨A0.out.later hbn⟩;clear hC hbn A0 hXs hsz HPr HSr cE2 fM cL2 hM;simp only[List.drop_succ_cons,List.drop_zero];go_wp2_with ((with_reducible refine xcg A6 HF.out Hlt.out Ho6.out rfl _ _ rfl rfl ?hx ?hy ?_);(case hx=>exact rfl);(case hy=>exact rfl);intro w7 A7;rw[Hup.out]at A7);go_roundw
      case rel=>exact⟨r2+1,by have:=Hlt.out;omega,by go_num,A7⟩
      case measure=>have:=Hlt.out;simp[intOf];omega
     ·obtain rfl:r2=kn:=by omega
      have H1:Ω (Holds wr w.heap.size (.slice (some ⟨ga,0,none⟩) r r) r q):=⟨xbo (A0.out.other (xac F1.out) Hg.out.1 F1.out) (Nat.le_trans B1.out.size Hg.out.2.1) (fun i hi=>xbk q r i hi)⟩;have H2:Ω (Holds wr w.heap.size (.slice (some ⟨gb,0,none⟩) r2 r2) r2 (fun i=>q (r+i))):=⟨xbo A0.out.row (Nat.le_trans B1.out.size Hg.out.2.2) (fun i hi=>xbk (fun i=>q (r+i)) r2 i hi)⟩;clear A0 F1;go_wp2_with fail;go_ret2;exact⟨⟨_,_,rfl,H1.out,H2.out⟩,BE.out⟩
 ·refine xdz (.tmp 19) (.tmp 19) 67 rfl 109 i0 (.agg z) 256 Tryz.underlying67 HI.out.1 HI.out.2.1 HI.out.2.2.1 .i64 .i64 kn rfl rfl (by rw[HI.out.2.2.2];omega) (by unfold maxLen;omega) ?_;intro w3 hown hgr;obtain⟨hrow,hb3⟩:=xbm HZ.out hown hgr;have h3:Below u1.heap.size u1 w3:=(Below.refl _ _).drew.trans hb3;refine hK _ _ (by rw[←hB0];exact h3) ?_;clear hK K;obtain⟨gb,hgb⟩:=zev u1.heap.size;have R1:w3.heap[gb]? = some (.cells (RW kn fun _ _=>0) 109 (0,0)):=by rw[←hgb];exact hrow
  have l1:gb<w3.heap.size:=xac R1;show HK _ _ _ _ _ _ _ (Act.put _ _ (.slice (some ⟨u1.heap.size,0,none⟩) kn kn)) _;rw[hgb];simp only[Act.put,heldb.pa,heldb.pb,heldb.pc];refine zS fun K hK=>?_
  refine xdz (.tmp 16) (.tmp 16) 67 rfl 109 i0 (.agg z) 256 Tryz.underlying67 HI.out.1 HI.out.2.1 HI.out.2.2.1 .i64 .i64 ln rfl rfl (by rw[HI.out.2.2.2];omega) (by unfold maxLen;omega) ?_;intro w4 hown2 hgr2;obtain⟨hrow2,hb4⟩:=xbm HZ.out hown2 hgr2;have h4:=zbm h3 hb4;have h5:Below B0 u1 w4:=by rw[←hB0];exact h4
  refine hK _ _ h5 ?_;clear hK K;obtain⟨ga,hga⟩:=zev w3.heap.size;have R2:w4.heap[ga]? = some (.cells (RW ln fun _ _=>0) 109 (0,0)):=by rw[←hga];exact hrow2
  have R3:w4.heap[gb]? = some (.cells (RW kn fun _ _=>0) 109 (0,0)):=(hb4.block _ l1).trans R1;rw[hga];simp only[Act.put,heldb.pa,heldb.pb,heldb.pc];iterate 2 (refine zV h5 ?_)
  refine zN ?_;have G1:Ω (w4.heap[ga]? = some (.cells (RW ln fun _ _=>0) 109 (0,0))):=⟨R2⟩;have G2:Ω (w4.heap[gb]? = some (.cells (RW kn fun _ _=>0) 109 (0,0))):=⟨R3⟩;have Hg:Ω (ga≠gb∧u1.heap.size≤ga∧u1.heap.size≤gb):=⟨by have:=h3.size;refine⟨?_,?_,?_⟩<;>omega⟩;have B4:=ω h4;clear hown hgr hrow hb3 h3 hown2 hgr2 hrow2 hb4 h4 R1 R2 R3 l1 HO hS h5 hB0 hgb hga;go_wp2_with fail;have Aga:Ω (At ga (RW ln (fst q 0)) 109 w4 w4):=⟨by rw[xbl];exact At.refl G1.out⟩;have BXga:=B4;go_loopw [23] (fun v wr=>∃ r:Nat,r≤ln∧v=.int .i64 (r:Int)∧Ω (At ga (RW ln (fst q r)) 109 w4 wr)) (fun v _=>ln-(intOf v).toNat)
  case atStart=>exact⟨0,Nat.zero_le _,rfl,Aga⟩
  case round=>
   clear Aga;obtain⟨r,hr,rfl,A0⟩:=hrel;have BU:Ω (Below u1.heap.size u1 wr):=⟨BXga.out.trans (A0.out.below BXga.out.size Hg.out.2.1)⟩;have BE:=zbt B1 BU.out;by_cases hlt:r<ln
   ·have hltz:(r:Int)<(ln:Int):=by omega
    have hr16:r<16:=by have:=Hk.out;have:=Hl.out;omega
    have T2:Ω (wr.heap[w.heap.size]? = some (.cells T 34 (0,0))):=⟨(BU.out.block _ (xac T1.out)).trans T1.out⟩;have HPr:Ω (∀ w1:World,Calls Tryz.prog 92 #[.int .i64 (r:Int),.int .i64 0] w1 (zB w1 (.string (x2 r 0)))):=⟨fun w1=>xdt r 0 (by omega) (by omega) w1⟩;have HSr:Ω (∀ w1:World,Below w.heap.size w w1→Calls Tryz.prog 91 #[.agg T,.string (sd++x2 r 0),.int .i64 e] w1 (zB w1 (.agg (FL .i64 256 (q r))))):=⟨fun w1 hb=>by
     have:=HSm.out r hr16 w1 hb;first | exact this | (rw[hM];exact this)⟩
    have cE2:∀ d os,(Go.Sort.grow (redrawn wr d) os).cell? ⟨w.heap.size+1,2,none⟩=some (.int .i64 e):=fun d os=>HcE.out _ (BU.out.trans ((below_regrown _ _ _).mono BU.out.size))
    obtain⟨X,HX⟩:=xaa (x2 r 0);rw[HX.out]at HPr HSr;have hXs:X.size=2:=by rw[←HX.out];rfl
    have hsz:(9223372036854775807<sd.size+2)=False:=by have:=Hsd.out;simp;omega
    obtain⟨F,HF⟩:=xaa (FL .i64 256 (q r));rw[HF.out]at HSr;obtain⟨o6,ho6⟩:=zev (r*256);have Ho6:=ω ho6;have Hlt:=ω hlt;have Hup:Ω (ups (fst q r) r (q r)=fst q (r+1)):=⟨xbp q r⟩;clear HX;go_wp2_with fail;refine qtail.xb0 10 (by kernel_rfl) (by kernel_rfl) ?_;iterate 2 (quiet_step (skip))
    refine xa2 rfl 34 _ rfl _ rfl 34 _ _ (fun w' hC=>xaw T2.out hC) zY rfl HTz.out ?_;iterate 2 (quiet_step (skip))
    quiet_step (exact Calls.regrown_of (HPr.out _));iterate 3 (quiet_step (skip))
    quiet_step (exact Calls.regrown_of (HSr.out _ (BE.out.trans ((below_regrown _ _ _).mono BE.out.size))));refine wpQuiet_nil ?_;intro wn hC;have hbn:Below wr.heap.size wr wn:=by
     obtain⟨pp,rfl⟩:=hC;exact below_regrown _ _ _
    have A6:Ω (At ga (RW ln (fst q r)) 109 w4 wn):=⟨A0.out.later hbn⟩;clear hC hbn A0 hXs hsz HPr HSr cE2;simp only[List.drop_succ_cons,List.drop_zero];go_wp2_with ((with_reducible refine xcg A6 HF.out Hlt.out Ho6.out rfl _ _ rfl rfl ?hx ?hy ?_);(case hx=>exact rfl);(case hy=>exact rfl);intro w7 A7;rw[Hup.out]at A7);go_roundw
    case rel=>exact⟨r+1,by have:=Hlt.out;omega,by go_num,A7⟩
    case measure=>have:=Hlt.out;simp[intOf];omega
   ·obtain rfl:r=ln:=by omega
    rename World=>wo
    have F1:Ω (wo.heap[ga]? = some (.cells (RW r (fst q r)) 109 (0,0))):=⟨A0.out.row⟩;have Agb:Ω (At gb (RW kn (fst (fun i=>q (r+i)) 0)) 109 wo wo):=⟨by rw[xbl];exact At.refl (A0.out.other (xac G2.out) (Ne.symm Hg.out.1) G2.out)⟩;have BXgb:=BU;clear A0 G1 G2;go_wp2_with fail;go_loopw [40] (fun v wr=>∃ r2:Nat,r2≤kn∧v=.int .i64 (r2:Int)∧Ω (At gb (RW kn (fst (fun i=>q (r+i)) r2)) 109 wo wr)) (fun v _=>kn-(intOf v).toNat)
    case atStart=>exact⟨0,Nat.zero_le _,rfl,Agb⟩
    case round=>
     clear Agb;obtain⟨r2,hr,rfl,A0⟩:=hrel;have BU:Ω (Below u1.heap.size u1 wr):=⟨BXgb.out.trans (A0.out.below BXgb.out.size Hg.out.2.2)⟩;have BE:=zbt B1 BU.out;by_cases hlt:r2<kn
     ·have hltz:(r2:Int)<(kn:Int):=by omega
      have hr16:(r+r2)<16:=by have:=Hk.out;have:=Hl.out;omega
      obtain⟨M,hM⟩:=zev (r+r2);have fM:IntKind.i64.wrap ((r:Int)+(r2:Int))=(M:Int):=zwi;have cL2:∀ d os,(Go.Sort.grow (redrawn wr d) os).cell? ⟨w.heap.size+1,1,none⟩=some (.int .i64 (r:Int)):=fun d os=>HcL.out _ (BU.out.trans ((below_regrown _ _ _).mono BU.out.size))
      have T2:Ω (wr.heap[w.heap.size]? = some (.cells T 34 (0,0))):=⟨(BU.out.block _ (xac T1.out)).trans T1.out⟩;have HPr:Ω (∀ w1:World,Calls Tryz.prog 92 #[.int .i64 (M:Int),.int .i64 0] w1 (zB w1 (.string (x2 M 0)))):=⟨fun w1=>xdt M 0 (by omega) (by omega) w1⟩;have HSr:Ω (∀ w1:World,Below w.heap.size w w1→Calls Tryz.prog 91 #[.agg T,.string (sd++x2 M 0),.int .i64 e] w1 (zB w1 (.agg (FL .i64 256 (q (r+r2)))))):=⟨fun w1 hb=>by
       have:=HSm.out (r+r2) hr16 w1 hb;rw[hM]at this;first | exact this | (rw[hM];exact this)⟩
      have cE2:∀ d os,(Go.Sort.grow (redrawn wr d) os).cell? ⟨w.heap.size+1,2,none⟩=some (.int .i64 e):=fun d os=>HcE.out _ (BU.out.trans ((below_regrown _ _ _).mono BU.out.size))
      obtain⟨X,HX⟩:=xaa (x2 M 0);rw[HX.out]at HPr HSr;have hXs:X.size=2:=by rw[←HX.out];rfl
      have hsz:(9223372036854775807<sd.size+2)=False:=by have:=Hsd.out;simp;omega
      obtain⟨F,HF⟩:=xaa (FL .i64 256 (q (r+r2)));rw[HF.out]at HSr;obtain⟨o6,ho6⟩:=zev (r2*256);have Ho6:=ω ho6;have Hlt:=ω hlt;have Hup:Ω (ups (fst (fun i=>q (r+i)) r2) r2 (q (r+r2))=fst (fun i=>q (r+i)) (r2+1)):=⟨xbp (fun i=>q (r+i)) r2⟩;clear HX;go_wp2_with fail;refine qtail.xb0 13 (by kernel_rfl) (by kernel_rfl) ?_;iterate 2 (quiet_step (skip))
      refine xa2 rfl 34 _ rfl _ rfl 34 _ _ (fun w' hC=>xaw T2.out hC) zY rfl HTz.out ?_;iterate 5 (quiet_step (skip))
      quiet_step (exact Calls.regrown_of (HPr.out _));iterate 3 (quiet_step (skip))
      quiet_step (exact Calls.regrown_of (HSr.out _ (BE.out.trans ((below_regrown _ _ _).mono BE.out.size))));refine wpQuiet_nil ?_;intro wn hC;have hbn:Below wr.heap.size wr wn:=by
       obtain⟨pp,rfl⟩:=hC;exact below_regrown _ _ _
      have A6:Ω (At gb (RW kn (fst (fun i=>q (r+i)) r2)) 109 wo wn):=⟨A0.out.later hbn⟩;clear hC hbn A0 hXs hsz HPr HSr cE2 fM cL2 hM;simp only[List.drop_succ_cons,List.drop_zero];go_wp2_with ((with_reducible refine xcg A6 HF.out Hlt.out Ho6.out rfl _ _ rfl rfl ?hx ?hy ?_);(case hx=>exact rfl);(case hy=>exact rfl);intro w7 A7;rw[Hup.out]at A7);go_roundw
      case rel=>exact⟨r2+1,by have:=Hlt.out;omega,by go_num,A7⟩
      case measure=>have:=Hlt.out;simp[intOf];omega
     ·obtain rfl:r2=kn:=by omega
      have H1:Ω (Holds wr w.heap.size (.slice (some ⟨ga,0,none⟩) r r) r q):=⟨xbo (A0.out.other (xac F1.out) Hg.out.1 F1.out) (Nat.le_trans B1.out.size Hg.out.2.1) (fun i hi=>xbk q r i hi)⟩;have H2:Ω (Holds wr w.heap.size (.slice (some ⟨gb,0,none⟩) r2 r2) r2 (fun i=>q (r+i))):=⟨xbo A0.out.row (Nat.le_trans B1.out.size Hg.out.2.2) (fun i hi=>xbk (fun i=>q (r+i)) r2 i hi)⟩;clear A0 F1;go_wp2_with fail;go_ret2;exact⟨⟨_,_,rfl,H1.out,H2.out⟩,BE.out⟩
end qsec
namespace qdoc
open arr mem keca kstep kturn spok polys polt pols rbita rbitc rbitf rbitg rndm samm samb samc saml samr rsdoc
theorem shake{T:Array Value}(k:Int)(b:ByteArray)(n:Nat)(w:World)(hK:KT T TL RL)(hP:Gp w)(hk:k=1∨k=2)(hn:n≤50000)(hb:b.size≤1125899906842624):
 ∀ w1:World,Below w.heap.size w w1→Calls Tryz.prog 90 #[.agg T,.int .i64 k,.string b,.int .i64 (n:Int)] w1 (zB w1 (.tuple #[.string (out TL RL k b n),.int .i64 0])):=fun w1 h1=>by
 rcases hk with rfl | rfl
 ·exact xpv 1 b n w1 hK (hP.later h1) (by decide) rfl hn hb
 ·exact xpv 2 b n w1 hK (hP.later h1) (by decide) rfl hn hb
theorem uniform{T:Array Value}(b:ByteArray)(w:World)(hK:KT T TL RL)(hP:Gp w)(hb:b.size≤1125899906842624):
 Calls Tryz.prog 98 #[.agg T,.string b] w (zB w (.agg (FL .i64 256 (dU b)))):=
 quni.xqo b _ w (infoT T hK) (xbt 1 b 1008) (shake 1 b 1008 w hK hP (Or.inl rfl) (by decide) hb)
theorem small{T:Array Value}(b:ByteArray)(e:Int)(w:World)(hK:KT T TL RL)(hP:Gp w)(hb:b.size≤1125899906842624):
 Calls Tryz.prog 91 #[.agg T,.string b,.int .i64 e] w (zB w (.agg (FL .i64 256 (dS b e)))):=
 qsma.xqn b _ e w (infoT T hK) (xbt 2 b 816) (shake 2 b 816 w hK hP (Or.inr rfl) (by decide) hb)
theorem secrets{T:Array Value}(kn ln:Nat)(e t a b o s:Int)(sd:ByteArray)(w:World)(hK:KT T TL RL)(hP:Gp w)(h:latt (kn:Int) (ln:Int) e t a b o s=true)(hsd:sd.size≤1000):
 Calls Tryz.prog 40 #[.agg T,.agg (zLt (kn:Int) (ln:Int) e t a b o s),.string sd] w fun x w'=>(∃ v1 v2,x=.returned (.tuple #[v1,v2])∧Holds w' w.heap.size v1 ln (qS sd e)∧Holds w' w.heap.size v2 kn (fun i=>qS sd e (ln+i)))∧Below w.heap.size w w':=by
 obtain⟨h1,h2,-⟩:=xe1 h;exact qsec.xvb kn ln e t a b o s sd (qS sd e) w (infoT T hK) (by omega) (by omega) h (by omega) fun r _ w1 hb=>small (tw sd r 0) e w1 hK (hP.later hb) (by rw[xfp];omega)
theorem matrix{T:Array Value}(kn ln:Nat)(e t a b o s:Int)(sd:ByteArray)(w:World)(hK:KT T TL RL)(hP:Gp w)(h:latt (kn:Int) (ln:Int) e t a b o s=true)(hsd:sd.size≤1000):
 Calls Tryz.prog 43 #[.agg T,.agg (zLt (kn:Int) (ln:Int) e t a b o s),.string sd] w fun x w'=>(∃ v vs,x=.returned v∧w'.ownsRow w.heap.size 67 1 v kn vs∧Rowl w' w.heap.size v.ownBlock vs ln (qX sd))∧Below w.heap.size w w':=by
 obtain⟨h1,h2,-⟩:=xe1 h;exact qmat.xkj kn ln e t a b o s sd (qX sd) w (infoT T hK) (by omega) (by omega) h (by omega) fun r c _ _ w1 hb=>uniform (tw sd c r) w1 hK (hP.later hb) (by rw[xfp];omega)
end qdoc
namespace fsize
open arr mem stil polys polt fldm fld1
theorem xko(g o:Nat)(h:Nat→Int)(w:World)(hc:∀ i,i<256→w.cell? ⟨g,o+i,none⟩=some (.int .i64 (h i))):
 Calls Tryz.prog 162 #[.pointer (some ⟨g,o,none⟩)] w (zE w (.int .i64 (cb h 256))):=by
 have Hc:=ω hc;clear hc;go_enter Tryz.func162,Tryz.ntmps162;go_wp2_with fail;go_loopw [7,3] (fun v m wr=>∃ i:Nat,i≤256∧v=.int .i64 (i:Int)∧m=.int .i64 (cb h i)∧w=wr) (fun v _ _=>256-(intOf v).toNat)
 case atStart=>exact⟨0,Nat.zero_le _,rfl,rfl,rfl⟩
 case round=>
  obtain⟨i,hi,rfl,rfl,rfl⟩:=hrel;by_cases hlt:i<256
  ·have hiz:(i:Int)<256:=by omega
   have cc:=Hc.out i hlt;obtain⟨x,hx⟩:=zev (h i);rw[hx]at cc;obtain⟨m,hm⟩:=zev (cb h i);have hmb:=xhc h i;rw[hm]at hmb ⊢;obtain⟨c,hcc⟩:=xaa (ce 8380417 x);have hcb:=xjk x;rw[hcc.out]at hcb;obtain⟨k,hk⟩:=xaa (-c);have Hs:Ω (cb h (i+1)=max m (max c k)):=⟨by rw[cb,hm,hx,hcc.out,hk.out]⟩;have Hx:∀ w1:World,Calls Tryz.prog 145 #[.int .i64 x,.int .i64 8380417] w1 (zE w1 (.int .i64 c)):=fun w1=>by rw[←hcc.out];exact xcv x 8380417 w1
   have hw:IntKind.i64.wrap (-c)=k:=by rw[IntKind.wrap_i64];have:=hk.out;omega
   clear hx hm;go_wp2_with fail;refine(Hx _).mono ?_;rintro e w3 ⟨rfl,hw3⟩;subst hw3;go_wp2_with fail;all_goals go_roundw
   case rel=>exact⟨i+1,by omega,by go_num,by rw[Hs.out];try congr 1<;>omega,by first | trivial | rfl⟩
   case measure=>simp[intOf];omega
  ·obtain rfl:i=256:=by omega
   simp only[Int.cast_ofNat_Int];go_wp2_with fail;go_ret;exact⟨rfl,rfl⟩
theorem xb1(g n c:Nat)(p:Nat→Nat→Int)(w:World)(hn:n≤1000000000000)(hc:∀ j,j<n→∀ i,i<256→w.cell? ⟨g,j*256+i,none⟩=some (.int .i64 (p j i))):
 Calls Tryz.prog 118 #[.slice (some ⟨g,0,none⟩) n c] w (zE w (.int .i64 (cbs p n))):=by
 have Hc:Ω (∀ j,j<n→∀ w1:World,w=w1→Calls Tryz.prog 162 #[.pointer (some ⟨g,j*256,none⟩)] w1 fun e w'=>e=.returned (.int .i64 (cb (p j) 256))∧w1=w'):=⟨fun j hj w1 hw=>by subst hw;exact(xko g (j*256) (p j) w (hc j hj)).mono fun _ _ h=>⟨h.1,h.2.symm⟩⟩;clear hc;go_enter Tryz.func118,Tryz.ntmps118;go_wp2_with fail;go_loopw [7,3] (fun v m wr=>∃ i:Nat,i≤n∧v=.int .i64 (i:Int)∧m=.int .i64 (cbs p i)∧w=wr) (fun v _ _=>n-(intOf v).toNat)
 case atStart=>exact⟨0,Nat.zero_le _,rfl,rfl,rfl⟩
 case round=>
  obtain⟨i,hi,rfl,rfl,rfl⟩:=hrel;by_cases hlt:i<n
  ·have hiz:(i:Int)<(n:Int):=by omega
   have hcall:=Hc.out i hlt;obtain⟨m,hm⟩:=zev (cbs p i);have hmb:=xf1 p i;rw[hm]at hmb ⊢;obtain⟨b,hb⟩:=zev (cb (p i) 256);have Hs:Ω (cbs p (i+1)=max m b):=⟨by rw[cbs,hm,hb]⟩;rw[hb]at hcall;clear hm hb;go_wp2_with fail;refine(hcall _ rfl).mono ?_;rintro e w3 ⟨rfl,hw3⟩;subst hw3;go_wp2_with fail;all_goals go_roundw
   case rel=>exact⟨i+1,by omega,by go_num,by rw[Hs.out];try congr 1<;>omega,by first | trivial | rfl⟩
   case measure=>simp[intOf];omega
  ·obtain rfl:i=n:=by omega
   go_wp2_with fail;go_ret;exact⟨rfl,rfl⟩
end fsize
namespace shelf
open Go.Shelf
def xsn:Go.Shelf.Ren:=⟨fun | 129=>176 | n=>n,fun | 3=>3 | 4=>4 | 5=>5 | 9=>9 | 46=>57 | 53=>27 | n=>n,fun | n=>n⟩
theorem lays129:Go.Proofs.Lays.n129 Tryz.prog xsn:={
 mixed:=by kernel_rfl
 f129:=Tryz.func176.trans (congrArg some (by kernel_rfl))
 t3:=Tryz.underlying3
 a3:=Tryz.isAgg3
 z3:=Tryz.sizeOf3
 v3:=Tryz.zeroValue3
 t4:=Tryz.underlying4
 a4:=Tryz.isAgg4
 z4:=Tryz.sizeOf4
 v4:=Tryz.zeroValue4
 t5:=Tryz.underlying5
 a5:=Tryz.isAgg5
 z5:=Tryz.sizeOf5
 v5:=Tryz.zeroValue5
 t9:=Tryz.underlying9
 a9:=Tryz.isAgg9
 z9:=Tryz.sizeOf9
 v9:=Tryz.zeroValue9
 t46:=Tryz.underlying57
 a46:=Tryz.isAgg57
 z46:=Tryz.sizeOf57
 v46:=Tryz.zeroValue57
 t53:=Tryz.underlying27
 a53:=Tryz.isAgg27
 z53:=Tryz.sizeOf27
 v53:=Tryz.zeroValue27 }
open Go.RowKit in
theorem len64(x:Int)(w:World)(h0 : 0≤x)(h1:x≤18446744073709551615):
 Calls Tryz.prog 176 #[.int .u64 x] w (zE w (.int .i64 (Lib.bitLen x.toNat))):=Any.bits_Len64 lays129 x w h0 h1
end shelf
namespace plong
open arr mem rbita
theorem xsq(f:Nat):∀ n,Lib.bitLenAux f n=lbf f n:=by
 induction f with
 | zero=>intro n;rfl
 | succ f ih=>
  intro n;rw[Lib.bitLenAux,lbf,ih];by_cases h:n=0
  ·rw[if_pos h,if_pos h]
  ·rw[if_neg h,if_neg h];omega
theorem xnh(x:Int)(h0 : 0≤x)(h1:x≤18446744073709551615)(w:World):Calls Tryz.prog 153 #[.int .u64 x] w (zE w (.int .i64 ((lb x.toNat:Nat):Int))):=by
 have H:∀ w1:World,Calls Tryz.prog 176 #[.int .u64 x] w1 (zE w1 (.int .i64 ((lb x.toNat:Nat):Int))):=fun w1=>by
  have h:=shelf.len64 x w1 h0 h1;rw[show Lib.bitLen x.toNat=lb x.toNat from xsq 64 _]at h;exact h
 go_enter Tryz.func153,Tryz.ntmps153;go_wp2_with fail;refine(H _).mono ?_;rintro e w1 ⟨rfl,rfl⟩;go_wp2_with fail;go_ret;exact⟨rfl,rfl⟩
theorem xcn(n:Int)(hn:n<9223372036854775808)(w:World):Calls Tryz.prog 104 #[.int .i64 n] w (zE w (.int .i64 ((lb n.toNat:Nat):Int))):=by
 by_cases h0 : 0≤n
 ·have H:=fun w1=>xnh n h0 (by omega) w1
  have hmx:max n 0=n:=by omega
  have fu:IntKind.u64.wrap n=n:=by rw[IntKind.wrap_u64];omega
  go_enter Tryz.func104,Tryz.ntmps104;go_wp2_with fail;refine(H _).mono ?_;rintro e w1 ⟨rfl,rfl⟩;go_wp2_with fail;go_ret;exact⟨rfl,rfl⟩
 ·have H:=fun w1=>xnh 0 (by decide) (by decide) w1
  have hz:n.toNat=(0:Int).toNat:=by omega
  rw[hz];have hmx:max n 0=0:=by omega
  have fu:IntKind.u64.wrap 0=0:=by decide
  go_enter Tryz.func104,Tryz.ntmps104;go_wp2_with fail;refine(H _).mono ?_;rintro e w1 ⟨rfl,rfl⟩;go_wp2_with fail;go_ret;exact⟨rfl,rfl⟩
end plong
namespace psmall
open arr mem
theorem xnz(m:Int)(w:World):Calls Tryz.prog 151 #[.int .i64 m] w (zE w (.bool (decide (1≤m∧m<8380417)))):=by
 by_cases c0 : 1≤m
 rotate_left
 ·rw[decide_eq_false (fun h=>c0 h.1)];go_enter Tryz.func151,Tryz.ntmps151;go_wp2_with fail;go_ret;exact⟨rfl,rfl⟩
 by_cases c1:m<8380417
 rotate_left
 ·rw[decide_eq_false (fun h=>c1 h.2)];go_enter Tryz.func151,Tryz.ntmps151;go_wp2_with fail;go_ret;exact⟨rfl,rfl⟩
 rw[decide_eq_true ⟨c0,c1⟩];go_enter Tryz.func151,Tryz.ntmps151;go_wp2_with fail;go_ret;exact⟨rfl,rfl⟩
theorem xb1(wd:Nat)(h:wd≤64)(w:World):Calls Tryz.prog 156 #[.int .i64 (wd:Int)] w (zE w (.int .i64 ((32*wd:Nat):Int))):=by
 obtain⟨M,hM⟩:=xaa (32*wd);have f1:IntKind.i64.wrap (256*(wd:Int))=256*(wd:Int):=zwi;have f2:(256*(wd:Int)).tdiv 8=(M:Int):=by rw[Int.tdiv_eq_ediv_of_nonneg (by omega)];have:=hM.out;omega
 have f3 : 256*(wd:Int) / 8=(M:Int):=by have:=hM.out;omega
 rw[hM.out];go_enter Tryz.func156,Tryz.ntmps156;go_wp2_with fail;go_ret;exact⟨by first | rfl | (congr 2;have:=hM.out;omega),rfl⟩
end psmall
namespace psmall
open arr mem
theorem xjq(l h:Int)(w:World):Calls Tryz.prog 110 #[.int .i64 l,.int .i64 h] w (zE w (.bool (decide (0≤l∧l<4190208∧1≤h∧h<4190208)))):=by
 by_cases c0 : 0≤l
 rotate_left
 ·rw[decide_eq_false (fun k=>c0 k.1)];go_enter Tryz.func110,Tryz.ntmps110;go_wp2_with fail;go_ret;exact⟨rfl,rfl⟩
 by_cases c1:l<4190208
 rotate_left
 ·rw[decide_eq_false (fun k=>c1 k.2.1)];go_enter Tryz.func110,Tryz.ntmps110;go_wp2_with fail;go_ret;exact⟨rfl,rfl⟩
 by_cases c2 : 1≤h
 rotate_left
 ·rw[decide_eq_false (fun k=>c2 k.2.2.1)];go_enter Tryz.func110,Tryz.ntmps110;go_wp2_with fail;go_ret;exact⟨rfl,rfl⟩
 by_cases c3:h<4190208
 rotate_left
 ·rw[decide_eq_false (fun k=>c3 k.2.2.2)];go_enter Tryz.func110,Tryz.ntmps110;go_wp2_with fail;go_ret;exact⟨rfl,rfl⟩
 rw[decide_eq_true ⟨c0,c1,c2,c3⟩];go_enter Tryz.func110,Tryz.ntmps110;go_wp2_with fail;go_ret;exact⟨rfl,rfl⟩
end psmall
namespace rset
open arr mem polt rndm
theorem infoL:(Tryz.prog.info? 37).map (fun i=>(i.zero,i.size))=some (some (.agg set0),8):=by kernel_rfl
theorem built1:Tryz.prog.built 37 [(0,.int .i64 4),(1,.int .i64 4),(2,.int .i64 2),(3,.int .i64 39),(4,.int .i64 131072),(5,.int .i64 95232),(6,.int .i64 80),(7,.int .i64 128)]=some set1:=by kernel_rfl
theorem built2:Tryz.prog.built 37 [(0,.int .i64 6),(1,.int .i64 5),(2,.int .i64 4),(3,.int .i64 49),(4,.int .i64 524288),(5,.int .i64 261888),(6,.int .i64 55),(7,.int .i64 192)]=some set2:=by kernel_rfl
theorem built3:Tryz.prog.built 37 [(0,.int .i64 8),(1,.int .i64 7),(2,.int .i64 2),(3,.int .i64 60),(4,.int .i64 524288),(5,.int .i64 261888),(6,.int .i64 75),(7,.int .i64 256)]=some set3:=by kernel_rfl
theorem built4:Tryz.prog.built 37 [(0,.int .i64 1),(1,.int .i64 1),(2,.int .i64 2),(3,.int .i64 20),(4,.int .i64 131072),(5,.int .i64 95232),(6,.int .i64 60),(7,.int .i64 128)]=some set4:=by kernel_rfl
theorem xc4{P:Program}{ops:Array Oper}{rest:List Oper}{o:Oper}{a:Act}{w:World}{Q:Exit→Act→World→Prop}(hg:o.guard=none)(t:TypeId)(l:List (Nat × Operand))(ho:o.op=.build t l.toArray)
 (C:Array Value) (hC:P.built t (l.map fun x=>(x.1,a.eval x.2))=some C) (h:wpList P ops Q rest (a.put o.dst (.agg C)) w):wpList P ops Q (o :: rest) a w:=
 xwg hg t _ ho C (by simpa using hC) h
theorem built0:Tryz.prog.built 37 []=some set0:=by kernel_rfl
theorem results_cell_tmp{P:Program}{fn:Func}{p u:Tmp}{ty:TypeId}(h:fn.results=#[.cell p ty,.tmp u])(tmps:Array Value)(w:World)(g:Nat)(t:TypeId)(cs:Array Value)(fr:Nat × Nat)(d:TypeDesc)
 (hp:tmps.getD p undef=.pointer (some ⟨g,0,none⟩)) (hg:w.heap[g]? = some (.cells cs t fr))
 (hu:P.underlying ty=some d) (hd:(match d with | .struct _ | .array _ _=>true | _=>false)=true) (hi:(P.info? ty).map (·.size)=some cs.size) (v:Value) (hv:tmps.getD u undef=v):
 (results fn tmps).run P w=.ok (.tuple #[.agg cs,v]) w:=by
 have hp':tmps[p]?.getD undef=.pointer (some ⟨g,0,none⟩):=by simpa using hp
 have hv':tmps[u]?.getD undef=v:=by simpa using hv
 simp[results,h,hp',hv',asAddr,run_loadVar_row w g t ty cs fr d hg hu hd hi]
theorem set_1(w:World):Calls Tryz.prog 16 #[.int .i64 1] w (zB w (.tuple #[.agg set1,.int .i64 0])):=by
 obtain⟨hz,hsize⟩:=zero_of_info infoL;have hb:=built1;obtain⟨z,HZ⟩:=xaa set0;rw[HZ.out]at hz;have Zs:Ω (z.size=8):=⟨by rw[←HZ.out];rfl⟩;obtain⟨V,HV⟩:=xaa set1;have Vi:Ω ((Tryz.prog.info? 37).map (·.size)=some V.size):=⟨by rw[←HV.out];exact hsize⟩;have Vz:Ω (z.size=V.size):=⟨by rw[Zs.out,←HV.out];rfl⟩;have Vo:Ω (V.all (·.oneCell')=true):=⟨by rw[←HV.out];simp[set1,Value.oneCell']⟩;rw[HV.out]at hb;rw[HV.out];have Hb:=ω hb;obtain⟨W,hW⟩:=zev (w.alloc (.cells z 37));have HW:=ω hW;have Hres:Ω (W.heap[w.heap.size]? = some (.cells z 37 (0,0))):=⟨by rw[←hW];exact xae w _ _ rfl⟩;have HB:=zba hW;clear hb hsize hW;go_enter Tryz.func16,Tryz.ntmps16;go_wp2_with (first
  | (rw[HW.out])
  | (refine xc4 rfl 37 _ rfl V Hb.out ?_)
  | (refine wpList_store_row rfl 37 _ _ rfl w.heap.size V rfl rfl 37 _ Hres.out Vi.out Vz.out Vo.out ?_))
 refine bodyPost_ret_by (v:=.tuple #[.agg V,.int .i64 0]) (results_cell_tmp rfl _ _ w.heap.size 37 _ (0,0) _ rfl (setRow_heap _ _ _ _ _ _ Hres.out) zZ rfl Vi.out _ rfl) rfl ?_;exact⟨rfl,HB.out.trans (below_setRow _ _ _ (Nat.le_refl _))⟩
theorem set_2(w:World):Calls Tryz.prog 16 #[.int .i64 2] w (zB w (.tuple #[.agg set2,.int .i64 0])):=by
 obtain⟨hz,hsize⟩:=zero_of_info infoL;have hb:=built2;obtain⟨z,HZ⟩:=xaa set0;rw[HZ.out]at hz;have Zs:Ω (z.size=8):=⟨by rw[←HZ.out];rfl⟩;obtain⟨V,HV⟩:=xaa set2;have Vi:Ω ((Tryz.prog.info? 37).map (·.size)=some V.size):=⟨by rw[←HV.out];exact hsize⟩;have Vz:Ω (z.size=V.size):=⟨by rw[Zs.out,←HV.out];rfl⟩;have Vo:Ω (V.all (·.oneCell')=true):=⟨by rw[←HV.out];simp[set2,Value.oneCell']⟩;rw[HV.out]at hb;rw[HV.out];have Hb:=ω hb;obtain⟨W,hW⟩:=zev (w.alloc (.cells z 37));have HW:=ω hW;have Hres:Ω (W.heap[w.heap.size]? = some (.cells z 37 (0,0))):=⟨by rw[←hW];exact xae w _ _ rfl⟩;have HB:=zba hW;clear hb hsize hW;go_enter Tryz.func16,Tryz.ntmps16;go_wp2_with (first
  | (rw[HW.out])
  | (refine xc4 rfl 37 _ rfl V Hb.out ?_)
  | (refine wpList_store_row rfl 37 _ _ rfl w.heap.size V rfl rfl 37 _ Hres.out Vi.out Vz.out Vo.out ?_))
 refine bodyPost_ret_by (v:=.tuple #[.agg V,.int .i64 0]) (results_cell_tmp rfl _ _ w.heap.size 37 _ (0,0) _ rfl (setRow_heap _ _ _ _ _ _ Hres.out) zZ rfl Vi.out _ rfl) rfl ?_;exact⟨rfl,HB.out.trans (below_setRow _ _ _ (Nat.le_refl _))⟩
theorem set_3(w:World):Calls Tryz.prog 16 #[.int .i64 3] w (zB w (.tuple #[.agg set3,.int .i64 0])):=by
 obtain⟨hz,hsize⟩:=zero_of_info infoL;have hb:=built3;obtain⟨z,HZ⟩:=xaa set0;rw[HZ.out]at hz;have Zs:Ω (z.size=8):=⟨by rw[←HZ.out];rfl⟩;obtain⟨V,HV⟩:=xaa set3;have Vi:Ω ((Tryz.prog.info? 37).map (·.size)=some V.size):=⟨by rw[←HV.out];exact hsize⟩;have Vz:Ω (z.size=V.size):=⟨by rw[Zs.out,←HV.out];rfl⟩;have Vo:Ω (V.all (·.oneCell')=true):=⟨by rw[←HV.out];simp[set3,Value.oneCell']⟩;rw[HV.out]at hb;rw[HV.out];have Hb:=ω hb;obtain⟨W,hW⟩:=zev (w.alloc (.cells z 37));have HW:=ω hW;have Hres:Ω (W.heap[w.heap.size]? = some (.cells z 37 (0,0))):=⟨by rw[←hW];exact xae w _ _ rfl⟩;have HB:=zba hW;clear hb hsize hW;go_enter Tryz.func16,Tryz.ntmps16;go_wp2_with (first
  | (rw[HW.out])
  | (refine xc4 rfl 37 _ rfl V Hb.out ?_)
  | (refine wpList_store_row rfl 37 _ _ rfl w.heap.size V rfl rfl 37 _ Hres.out Vi.out Vz.out Vo.out ?_))
 refine bodyPost_ret_by (v:=.tuple #[.agg V,.int .i64 0]) (results_cell_tmp rfl _ _ w.heap.size 37 _ (0,0) _ rfl (setRow_heap _ _ _ _ _ _ Hres.out) zZ rfl Vi.out _ rfl) rfl ?_;exact⟨rfl,HB.out.trans (below_setRow _ _ _ (Nat.le_refl _))⟩
theorem xlg(w:World):Calls Tryz.prog 16 #[.int .i64 4] w (zB w (.tuple #[.agg set4,.int .i64 0])):=by
 obtain⟨hz,hsize⟩:=zero_of_info infoL;have hb:=built4;obtain⟨z,HZ⟩:=xaa set0;rw[HZ.out]at hz;have Zs:Ω (z.size=8):=⟨by rw[←HZ.out];rfl⟩;obtain⟨V,HV⟩:=xaa set4;have Vi:Ω ((Tryz.prog.info? 37).map (·.size)=some V.size):=⟨by rw[←HV.out];exact hsize⟩;have Vz:Ω (z.size=V.size):=⟨by rw[Zs.out,←HV.out];rfl⟩;have Vo:Ω (V.all (·.oneCell')=true):=⟨by rw[←HV.out];simp[set4,Value.oneCell']⟩;rw[HV.out]at hb;rw[HV.out];have Hb:=ω hb;obtain⟨W,hW⟩:=zev (w.alloc (.cells z 37));have HW:=ω hW;have Hres:Ω (W.heap[w.heap.size]? = some (.cells z 37 (0,0))):=⟨by rw[←hW];exact xae w _ _ rfl⟩;have HB:=zba hW;clear hb hsize hW;go_enter Tryz.func16,Tryz.ntmps16;go_wp2_with (first
  | (rw[HW.out])
  | (refine xc4 rfl 37 _ rfl V Hb.out ?_)
  | (refine wpList_store_row rfl 37 _ _ rfl w.heap.size V rfl rfl 37 _ Hres.out Vi.out Vz.out Vo.out ?_))
 refine bodyPost_ret_by (v:=.tuple #[.agg V,.int .i64 0]) (results_cell_tmp rfl _ _ w.heap.size 37 _ (0,0) _ rfl (setRow_heap _ _ _ _ _ _ Hres.out) zZ rfl Vi.out _ rfl) rfl ?_;exact⟨rfl,HB.out.trans (below_setRow _ _ _ (Nat.le_refl _))⟩
end rset
namespace pstore
open arr mem stil bitm bitn polys rbitb rbitc rbitd
def us(l:List Nat):List Value:=l.map fun (x:Nat)=>Value.int .u8 (x:Int)
theorem xwb(l:List Nat)(x:Nat):us (l ++ [x])=us l ++ [.int .u8 (x:Int)]:=by simp[us]
theorem xd3{w:World}{base g cap n:Nat}{l:List Nat}(hn:l.length=n)(hl:∀ x∈l,x<256)(h:w.ownsRow base 5 1 (.slice (some ⟨g,0,none⟩) n cap) n (us l)):
 (convert 49 9 (.slice (some ⟨g,0,none⟩) n cap)).run Tryz.prog w=.ok (.string ⟨(u8s l).toArray⟩) w:=by
 subst hn;have hz:(u8s l).length=l.length:=by simp[u8s]
 have:=run_convert_bytes_back (P:=Tryz.prog) w 49 9 5 ⟨g,0,none⟩ cap (u8s l) Tryz.underlying49 Tryz.underlying5 Tryz.underlying9 (fun j hj=>by
  rw[hz]at hj;rw[Addr.add_mid,Nat.zero_add,h.cellAt j (by rw[Nat.mul_one];exact hj)];have hx:=hl l[j] (List.getElem_mem hj);simp[us,u8s,List.getElem?_eq_getElem hj,Nat.mod_eq_of_lt hx])
 rw[hz]at this;exact this
theorem xvw(g wd:Nat)(L:List Nat)(w:World)(hl:L.length=256)(hw0 : 1≤wd)(hw:wd≤23)(hL:∀ x∈L,x<2 ^ wd)(hg:g<w.heap.size)(hcell:∀ i,i<256→w.cell? ⟨g,i,none⟩=some (.int .i64 ((L.getD i 0:Nat):Int))):
 Calls Tryz.prog 152 #[.pointer (some ⟨g,0,none⟩),.int .i64 (wd:Int)] w (zB w (.string ⟨(u8s (nb 8 (32*wd) (pk wd L))).toArray⟩)):=by
 obtain⟨i0,hi,hz0,hz1,hz2⟩:=parts infoByte;have HI:=ω (And.intro hi (And.intro hz0 (And.intro hz1 hz2)));obtain⟨M,hM⟩:=xaa (32*wd);have HS:∀ w1:World,Calls Tryz.prog 156 #[.int .i64 (wd:Int)] w1 (zE w1 (.int .i64 (M:Int))):=fun w1=>by rw[←hM.out];exact psmall.xb1 wd (by omega) w1
 have hMb:M≤736:=by rw[←hM.out];omega
 obtain⟨N,hN⟩:=xaa (pk wd L);have HNi:Ω (∀ i,i<256→L.getD i 0=N / 2 ^ (wd*i)%2 ^ wd):=⟨fun i hi=>by
  rw[←hN.out,xe8 wd L hL i (by rw[hl];exact hi),List.getD_eq_getElem?_getD,List.getElem?_eq_getElem (by rw[hl];exact hi)];rfl⟩
 have Hcell:=ω hcell;obtain⟨R,HR⟩:=xaa (u8s (nb 8 M N));rw[hM.out,hN.out,HR.out];clear hi hz0 hz1 hz2 hcell hL hl;go_enter Tryz.func152,Tryz.ntmps152;go_wp2_with fail;refine(HS _).mono ?_;rintro e w ⟨rfl,rfl⟩;go_wp2_with (at_make;refine wpList_make_own _ rfl _ _ 49 rfl w.heap.size 5 i0 (.int .u8 0) 1 Tryz.underlying49 HI.out.1 HI.out.2.1 HI.out.2.2.1 .i64 .i64 _ M rfl rfl rfl (by rw[HI.out.2.2.2];omega) (by unfold maxLen;omega) (Nat.le_refl _) ?_);intro w3 hown hgr;have B3:Ω (Below w.heap.size w w3):=⟨(Below.refl _ _).grown hgr (Nat.le_refl _) (fun k hk=>by simp at hk)⟩;have O3:Ω (w3.ownsRow w.heap.size 5 1 (.slice (some ⟨w.heap.size,0,none⟩) 0 M) 0 (us (nb 8 0 N))):=⟨hown⟩;clear hown hgr;go_wp2_with fail;go_loopw [5,6,7,14] (fun v a k c wr=>∃ i b h j:Nat,i≤256∧8*b≤wd*i∧wd*i<8*b+8∧N%2 ^ (wd*i) / 2 ^ (8*b)=h∧j+8*b=wd*i∧v=.slice (some ⟨w.heap.size,0,none⟩) b M∧a=.int .i64 (h:Int)∧k=.int .i64 (j:Int)∧c=.int .i64 (i:Int)∧Ω (wr.ownsRow w.heap.size 5 1 (.slice (some ⟨w.heap.size,0,none⟩) b M) b (us (nb 8 b N)))∧Ω (Below w.heap.size w wr)) (fun _ _ _ c _=>256-(intOf c).toNat)
 case atStart=>exact⟨0,0,0,0,Nat.zero_le _,by omega,by omega,by simp[Nat.mod_one],by omega,rfl,rfl,rfl,rfl,O3,B3⟩
 case round=>
  clear O3 B3;obtain⟨i,b,h,j,hi,hb1,hb2,hh,hj,rfl,rfl,rfl,rfl,Ow,Bw⟩:=hrel;by_cases hlt:i<256
  ·have hiz:(i:Int)<256:=by omega
   have cx:=(Bw.out.cell (p:=⟨g,i,none⟩) hg).trans (Hcell.out i hlt);obtain⟨x,hx⟩:=zev (L.getD i 0);have hxN:=HNi.out i hlt;rw[hx]at hxN cx;have hxl:x<2 ^ wd:=by rw[hxN];exact Nat.mod_lt _ (Nat.two_pow_pos _)
   obtain⟨m,hm⟩:=zev (wd*i);have hm2:wd*(i+1)=m+wd:=by rw[Nat.mul_succ,hm]
   have hmM:m+wd≤8*M:=by
    have h1:wd*(i+1)≤wd*256:=Nat.mul_le_mul_left _ hlt;have:=hM.out;omega
   rw[hm]at hb1 hb2 hh hj hxN;obtain⟨d,hd⟩:=zev (x*2 ^ j);have hj7:j≤7:=by omega
   have hor:=xof N m (8*b) wd hb1;rw[hh,←hxN,show m-8*b=j by omega,hd]at hor;obtain⟨h',hh'⟩:∃ h',N%2 ^ (m+wd) / 2 ^ (8*b)=h':=⟨_,rfl⟩;rw[hh']at hor;have hhl:h<2 ^ j:=by rw[←hh,show j=m-8*b by omega];exact xht N m (8*b) hb1
   have hj30:j+wd≤30:=by omega
   have hh'l:h'<2 ^ (j+wd):=by rw[←hh',show j+wd=m+wd-8*b by omega];exact xht N (m+wd) (8*b) (by omega)
   have p7:=xfb j 7 hj7;have p23:=xfb wd 23 hw;have p30:=xfb (j+wd) 30 hj30;have hd30:d<2 ^ 30:=by
    rw[←hd];have h1:x*2 ^ j<2 ^ wd*2 ^ j:=Nat.mul_lt_mul_of_lt_of_le hxl (Nat.le_refl _) (Nat.two_pow_pos _);rw[←Nat.pow_add,Nat.add_comm wd]at h1;omega
   have hh30:h'<2 ^ 30:=by omega
   have hh7:h<2 ^ 30:=by omega
   have fd:(x:Int)*2 ^ j=(d:Int):=by rw[←hd,Int.natCast_mul,Int.natCast_pow];rfl
   have fdw:IntKind.i64.wrap ((x:Int)*2 ^ j)=(d:Int):=by rw[fd,IntKind.wrap_i64];omega
   have V:=xge h d (by omega) (by omega);rw[hor]at V;have fjw:IntKind.i64.wrap ((j:Int)+(wd:Int))=((j+wd:Nat):Int):=zwi;have hxi:x<8388608:=by omega
   have Hh:=ω hh';have Hm:=ω (And.intro hm2 hmM);clear hx hxN hxl hm hm2 hb2 hh hd hor hh' hhl hh'l p7 p23 p30 hmM fd;have hb8 : 8*b≤m+wd:=by omega
   have hj64:j<64:=by omega
   clear hb1 hj30 hd30 hxi;go_wp2_with fail;clear V fdw fjw cx hj7 hj64;obtain⟨m',hm'⟩:∃ m',m+wd=m':=⟨_,rfl⟩;rw[hm']at hb8 Hh Hm;go_loopw [5,6,7] (fun v a k wr=>∃ b h j:Nat,8*b≤m'∧h<2 ^ 30∧N%2 ^ m' / 2 ^ (8*b)=h∧j+8*b=m'∧v=.slice (some ⟨w.heap.size,0,none⟩) b M∧a=.int .i64 (h:Int)∧k=.int .i64 (j:Int)∧Ω (wr.ownsRow w.heap.size 5 1 (.slice (some ⟨w.heap.size,0,none⟩) b M) b (us (nb 8 b N)))∧Ω (Below w.heap.size w wr)) (fun _ _ k _=>(intOf k).toNat)
   case atStart=>exact⟨b,h',j+wd,hb8,hh30,Hh.out,by omega,rfl,rfl,by go_num,Ow,Bw⟩
   case round=>
    clear Ow Bw Hh hb8 hh30 hh7 hj hm';obtain⟨b,h,j,hb8,hh30,hh,hj,rfl,rfl,rfl,Ow,Bw⟩:=hrel;by_cases h8 : 8≤j
    ·have hj8:(8:Int)≤(j:Int):=by omega
     obtain⟨β,hβ⟩:∃ β,h%256 = β := ⟨_,rfl⟩;obtain⟨h2,hh2⟩:=zev (h / 256);have Hn:Ω (us (nb 8 (b+1) N)=us (nb 8 b N) ++ [.int .u8 (β : Int)]):=⟨by
      have e:=xnw N m' (8*b) 8 (by omega);rw[hh]at e;rw[xta,xwb,←e,←hβ]⟩
     have Hh2:Ω (N%2 ^ m' / 2 ^ (8*(b+1))=h2):=⟨by rw[←hh2,←hh,Nat.mul_succ,Nat.pow_add,Nat.div_div_eq_div_mul]⟩;have fβ : (h:Int)%256=(β : Int):=by omega
     have fβw:IntKind.u8.wrap (h:Int)=(β : Int):=by rw[IntKind.wrap_u8];omega
     have fh2:(h:Int) / 256=(h2:Int):=by omega
     have hh23:h2<2 ^ 30:=by omega
     have fj8:IntKind.i64.wrap ((j:Int)-8)=((j-8:Nat):Int):=by have:=Hm.out.2;rw[IntKind.wrap_i64];omega
     have hbM:b+1≤M:=by have:=Hm.out.2;omega
     have hbM':b≤M:=by omega
     have hwx:=Bw.out.size;clear hβ hh2 hh;go_wp2_with (at_builtin;refine wpList_append_fits _ rfl _ _ 49 rfl w.heap.size 5 i0 1 Tryz.underlying49 HI.out.1 HI.out.2.2.1 w.heap.size b M _ rfl (Ow.out.alloc _) ⟨wr.heap.size,0,none⟩ 1 1 [.int .u8 (β : Int)] rfl rfl xbc (fun u hu=>by simp at hu;subst hu;rfl) hbM ?_);intro w4 hown' hgrow;have hb4:Below w.heap.size wr w4:=((Below.refl w.heap.size wr).alloc hwx _).grown hgrow (by rw[size_alloc];omega) (fun k hk=>by simp at hk;omega);have HB4:Ω (Below w.heap.size w w4):=⟨Bw.out.trans hb4⟩;have OY:Ω (w4.ownsRow w.heap.size 5 1 (.slice (some ⟨w.heap.size,0,none⟩) (b+1) M) (b+1) (us (nb 8 (b+1) N))):=⟨by rw[Hn.out];exact hown'⟩;clear hown' hgrow hb4 Ow Bw;go_wp2_with fail;go_roundw
     case rel=>exact⟨b+1,h2,j-8,by omega,hh23,Hh2.out,by omega,rfl,by go_num,by go_num,OY,HB4⟩
     case measure=>simp[intOf];omega
    ·have hj8:¬ (8:Int)≤(j:Int):=by omega
     go_wp2_with fail;go_roundw
     case rel=>exact⟨i+1,b,h,j,by omega,by rw[Hm.out.1];exact hb8,by rw[Hm.out.1];omega,by rw[Hm.out.1];exact hh,by rw[Hm.out.1];exact hj,rfl,rfl,rfl,by go_num,Ow,Bw⟩
     case measure=>simp[intOf];omega
  ·obtain rfl:i=256:=by omega
   simp only[Int.cast_ofNat_Int];obtain rfl:b=M:=by have:=hM.out;omega
   have hcv:=xd3 (xb6 8 b N) (fun x hx=>xgb 8 b N x hx) Ow.out;rw[HR.out]at hcv;clear hh;go_wp2_with fail;go_ret;exact⟨rfl,Bw.out⟩
end pstore
namespace ppack
open arr mem stil bitm bitn polys rbita rbitb rbitc rbitd rbitf
theorem ns_get(f:Nat→Int)(h:∀ i,i<256→0≤f i)(i:Nat)(hi:i<256):(((ns f).getD i 0:Nat):Int)=f i:=by
 unfold ns;rw[List.getD_eq_getElem?_getD,List.getElem?_map,List.getElem?_range hi];exact Int.toNat_of_nonneg (h i hi)
theorem xte(f:Nat→Int):(ns f).length=256:=by simp[ns]
theorem xj7(most:Int)(h1 : 1≤most)(h2:most<8380417) : 1≤lb most.toNat:=
 ((xc9 64 most.toNat (by omega)).2.1 (by omega)).1
theorem ns_lt(f:Nat→Int)(most:Int)(h1 : 1≤most)(h2:most<8380417)(h:inb f most):∀ x∈ns f,x<2 ^ lb most.toNat:=by
 intro x hx;obtain⟨i,hi,rfl⟩:=List.mem_map.1 hx;have h3:=h i (List.mem_range.1 hi);have h4:=(xc9 64 most.toNat (by omega)).1;exact Nat.lt_of_le_of_lt (by omega) h4
theorem xds(f:Nat→Int)(most:Int)(w:World)(h1 : 1≤most)(h2:most<8380417):
 Calls Tryz.prog 101 #[.agg (FL .i64 256 f),.int .i64 most] w (zB w (if inb f most then .tuple #[.string (packed f most),.int .i64 0] else .tuple #[.string ⟨#[]⟩,.int .i64 6])):=by
 have HM:∀ w1:World,Calls Tryz.prog 151 #[.int .i64 most] w1 (zE w1 (.bool true)):=fun w1=>by
  have h:=psmall.xnz most w1;rw[decide_eq_true ⟨h1,h2⟩]at h;exact h
 have HLg:Ω (∀ w1:World,Calls Tryz.prog 104 #[.int .i64 most] w1 (zE w1 (.int .i64 ((lb most.toNat:Nat):Int)))):=⟨fun w1=>plong.xcn most (by omega) w1⟩;have HSt:Ω (∀ (g:Nat) (w1:World),inb f most→g<w1.heap.size→(∀ i,i<256→w1.cell? ⟨g,i,none⟩=some (.int .i64 (f i)))→Calls Tryz.prog 152 #[.pointer (some ⟨g,0,none⟩),.int .i64 ((lb most.toNat:Nat):Int)] w1 (zB w1 (.string (packed f most)))):=⟨fun g w1 hin hg hc=>by
  unfold packed;exact pstore.xvw g (lb most.toNat) (ns f) w1 (xte f) (xj7 most h1 h2) (xe3 most h2) (ns_lt f most h1 h2 hin) hg (fun i hi=>by rw[ns_get f (fun k hk=>(hin k hk).1) i hi];exact hc i hi)⟩
 obtain⟨O,HO⟩:=xaa (packed f most);obtain⟨wd,hwd⟩:=xaa (lb most.toNat);rw[HO.out,hwd.out]at HSt;rw[hwd.out]at HLg;rw[HO.out];have Hidx:Ω (∀ i:Nat,i<256→∀ w1,(Instr.index 109 (.agg (FL .i64 256 f)) (.int .i64 (i:Int))).run Tryz.prog w1=.ok (.int .i64 (f i)) w1):=⟨fun i hi w1=>xb5 (P:=Tryz.prog) zX (by kernel_rfl) (by kernel_rfl) (by kernel_rfl) _ _ i hi (xa9 .i64 256 f i hi) w1⟩;have Fi:Ω ((Tryz.prog.info? 109).map (·.size)=some (FL .i64 256 f).size):=⟨by rw[xad];exact sizeP⟩;obtain⟨V,HV⟩:=xaa (if inb f most then Value.tuple #[.string O,.int .i64 0] else .tuple #[.string ⟨#[]⟩,.int .i64 6]);rw[HV.out];have Hcells:Ω (∀ (w1:World) (g:Nat),w1.heap[g]? = some (.cells (FL .i64 256 f) 109 (0,0))→∀ i,i<256→w1.cell? ⟨g,i,none⟩=some (.int .i64 (f i))):=⟨fun w1 g h i hi=>xaq h i hi⟩;obtain⟨F,HF⟩:=xaa (FL .i64 256 f);rw[HF.out]at Hidx Fi Hcells ⊢;obtain⟨W,hW⟩:=zev (w.alloc (.cells F 109));have HW:=ω hW;have BW:=zba hW;have hrow:=zhp hW;have H12:=ω (And.intro h1 h2);clear hW HF HO h1 h2;go_enter Tryz.func101,Tryz.ntmps101;go_wp2_with (rw[HW.out]);refine(HM _).mono ?_;rintro e W ⟨rfl,rfl⟩;go_wp2_with (refine wpList_load_row rfl 109 _ rfl w.heap.size rfl 109 F (0,0) _ hrow.out zX rfl Fi.out ?_);go_loopw [12] (fun c wr=>∃ j:Nat,j≤256∧c=.int .i64 (j:Int)∧Ω (∀ i,i<j→0≤f i∧f i≤most)∧W=wr) (fun c _=>256-(intOf c).toNat)
 case atStart=>exact⟨0,Nat.zero_le _,rfl,⟨fun i hi=>by omega⟩,rfl⟩
 case round=>
  obtain⟨j,hj,rfl,Hin,rfl⟩:=hrel;by_cases hlt:j<256
  ·have hjz:(j:Int)<256:=by omega
   have hidx:=Hidx.out j hlt;obtain⟨x,hx⟩:=zev (f j);rw[hx]at hidx;by_cases hbad:x<0∨most<x
   ·have hV:Ω (V=.tuple #[.string ⟨#[]⟩,.int .i64 6]):=⟨by rw[←HV.out,if_neg];intro hall;have:=hall j hlt;rw[hx]at this;omega⟩;clear hx;rcases hbad with hb1 | hb1
    ·go_wp2_with fail;go_ret2;exact⟨by rw[hV.out];rfl,BW.out⟩
    ·by_cases hb0:x<0
     ·go_wp2_with fail;go_ret2;exact⟨by rw[hV.out];rfl,BW.out⟩
     ·go_wp2_with fail;go_ret2;exact⟨by rw[hV.out];rfl,BW.out⟩
   ·have hb0:¬ x<0:=by omega
    have hb1:¬ most<x:=by omega
    have Hin2:Ω (∀ i,i<j+1→0≤f i∧f i≤most):=⟨fun i hi=>by
     by_cases e:i=j
     ·subst e;rw[hx];omega
     ·exact Hin.out i (by omega)⟩
    clear hx hbad;go_wp2_with fail;go_roundw
    case rel=>exact⟨j+1,by omega,by go_num,Hin2,trivial⟩
    case measure=>simp[intOf];omega
  ·obtain rfl:j=256:=by omega
   simp only[Int.cast_ofNat_Int];have hall:inb f most:=Hin.out;have hV:Ω (V=.tuple #[.string O,.int .i64 0]):=⟨by rw[←HV.out,if_pos hall]⟩;have C1:=ω (HSt.out w.heap.size W hall (xac hrow.out) (Hcells.out W w.heap.size hrow.out));clear hall hj hlt;go_wp2_with fail;refine(HLg.out _).mono ?_;rintro e w5 ⟨rfl,rfl⟩;go_wp2_with fail;refine C1.out.mono ?_;rintro e w6 ⟨rfl,h6⟩;have BF:=zbt BW h6;clear h6;go_wp2_with fail;go_ret2;exact⟨by rw[hV.out];rfl,BF.out⟩
end ppack
namespace psig
open arr mem stil bitm bitn polys fldm fld1 rbita rbitb rbitc rbitd rbite
theorem xnc(f:Nat→Int)(low high:Int):inb (sg f high) (low+high)↔ins f low high:=by
 unfold inb ins sg;constructor
 ·intro h i hi;have:=h i hi;omega
 ·intro h i hi;have:=h i hi;omega
theorem xit(f:Nat→Int)(low high:Int)(w:World)(h1 : 0≤low)(h3:low<4190208)(h2 : 1≤high)(h4:high<4190208):
 Calls Tryz.prog 103 #[.agg (FL .i64 256 f),.int .i64 low,.int .i64 high] w (zB w (if ins f low high then .tuple #[.string (packed (sg f high) (low+high)),.int .i64 0] else .tuple #[.string ⟨#[]⟩,.int .i64 6])):=by
 have HM:∀ w1:World,Calls Tryz.prog 110 #[.int .i64 low,.int .i64 high] w1 (zE w1 (.bool true)):=fun w1=>by
  have h:=psmall.xjq low high w1;rw[decide_eq_true ⟨h1,h3,h2,h4⟩]at h;exact h
 obtain⟨V,HV⟩:=xaa (if ins f low high then Value.tuple #[.string (packed (sg f high) (low+high)),.int .i64 0] else .tuple #[.string ⟨#[]⟩,.int .i64 6]);obtain⟨v0,v1,hv⟩:∃ v0 v1,V=.tuple #[v0,v1]:=by
  rw[←HV.out];by_cases h:ins f low high
  ·rw[if_pos h];exact⟨_,_,rfl⟩
  ·rw[if_neg h];exact⟨_,_,rfl⟩
 have HPk:Ω (∀ w1:World,Calls Tryz.prog 101 #[.agg (FL .i64 256 (sg f high)),.int .i64 (low+high)] w1 (zB w1 (.tuple #[v0,v1]))):=⟨fun w1=>by
  have h9:=ppack.xds (sg f high) (low+high) w1 (by omega) (by omega);rw[show (if inb (sg f high) (low+high) then Value.tuple #[.string (packed (sg f high) (low+high)),.int .i64 0] else .tuple #[.string ⟨#[]⟩,.int .i64 6])=V by
   rw[←HV.out];by_cases h:ins f low high
   ·rw[if_pos h,if_pos ((xnc f low high).2 h)]
   ·rw[if_neg h,if_neg (fun k=>h ((xnc f low high).1 k))],hv]at h9
  exact h9⟩
 rw[HV.out,hv];clear HV hv;obtain⟨G,HG⟩:=xaa (FL .i64 256 (sg f high));rw[HG.out]at HPk;have Hidx:Ω (∀ i:Nat,i<256→∀ w1,(Instr.index 109 (.agg (FL .i64 256 f)) (.int .i64 (i:Int))).run Tryz.prog w1=.ok (.int .i64 (f i)) w1):=⟨fun i hi w1=>xb5 (P:=Tryz.prog) zX (by kernel_rfl) (by kernel_rfl) (by kernel_rfl) _ _ i hi (xa9 .i64 256 f i hi) w1⟩;have Fi:Ω ((Tryz.prog.info? 109).map (·.size)=some (FL .i64 256 f).size):=⟨by rw[xad];exact sizeP⟩;have Gi:=zri HG sizeP;obtain⟨F,HF⟩:=xaa (FL .i64 256 f);rw[HF.out]at Hidx Fi ⊢;obtain⟨W,hW⟩:=zev (w.alloc (.cells F 109));have HW:=ω hW;have BW:=zba hW;have hrow:=zhp hW;have A0:Ω (At w.heap.size (FL .i64 256 (pt (sg f high) f 0)) 109 W W):=⟨by rw[xba,HF.out];exact At.refl hrow.out⟩;have fl2:IntKind.i64.wrap (low+high)=low+high:=zwi;have HL:=ω (And.intro h1 (And.intro h2 (And.intro h3 h4)));clear hW HF h1 h2 h3 h4;go_enter Tryz.func103,Tryz.ntmps103;go_wp2_with (rw[HW.out]);refine(HM _).mono ?_;rintro e W ⟨rfl,rfl⟩;go_wp2_with (refine wpList_load_row rfl 109 _ rfl w.heap.size rfl 109 F (0,0) _ hrow.out zX rfl Fi.out ?_);go_loopw [15] (fun c wr=>∃ j:Nat,j≤256∧c=.int .i64 (j:Int)∧Ω (At w.heap.size (FL .i64 256 (pt (sg f high) f j)) 109 W wr)) (fun c _=>256-(intOf c).toNat)
 case atStart=>exact⟨0,Nat.zero_le _,rfl,A0⟩
 case round=>
  clear A0;obtain⟨j,hj,rfl,A0⟩:=hrel;have BE:Ω (Below w.heap.size w wr):=⟨BW.out.trans (A0.out.below (by have:=BW.out.size;omega) (Nat.le_refl _))⟩;by_cases hlt:j<256
  ·have hjz:(j:Int)<256:=by omega
   have hidx:=Hidx.out j hlt;have Hce:=ω (fun w1=>xcv (f j) 8380417 w1);obtain⟨c,hc⟩:=zev (ce 8380417 (f j));have hcs:=xmu (f j);rw[hc]at Hce hcs;have fs:IntKind.i64.wrap (high-c)=high-c:=by rw[IntKind.wrap_i64];have:=HL.out;omega
   have hsg:Ω (high-c=sg f high j):=⟨by unfold sg;rw[hc]⟩;clear hc hcs;go_wp2_with fail;refine(Hce.out _).mono ?_;rintro e w2 ⟨rfl,rfl⟩;clear hidx;go_wp2_with ((with_reducible refine xaf A0 rfl _ _ _ rfl rfl ?_);refine⟨_,_,_,rfl,rfl,rfl,(by rw[xad];exact hlt),?_⟩;intro wn HR;rw[xap,xa4 _ _ _ _ hsg.out]at HR);go_roundw
   case rel=>exact⟨j+1,by omega,by go_num,HR⟩
   case measure=>simp[intOf];omega
  ·obtain rfl:j=256:=by omega
   simp only[Int.cast_ofNat_Int];rw[xa8,HG.out]at A0;have Hrow:=ω A0.out.row;clear A0;go_wp2_with (refine wpList_load_row rfl 109 _ rfl w.heap.size rfl 109 G (0,0) _ Hrow.out zX rfl Gi.out ?_);refine(HPk.out _).mono ?_;rintro e w6 ⟨rfl,h6⟩;have BF:=zbt BE h6;clear h6;go_wp2_with fail;go_ret2;exact⟨rfl,BF.out⟩
end psig
end Go.Proofs.YtgahcabgmfbhdaaGreatDoor
