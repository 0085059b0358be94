/-
  What mlsign's prepare returns: a signer. Conditions: the tables hold the constants of the text and t
-/
import Derived.Test.YtgahcabgmfbhdaaGreatDoorZt19
import Derived.Test.YtgahcabgmfbhdaaGreatDoorZt11
import Derived.Test.YtgahcabgmfbhdaaGreatDoorZt03
import Derived.Test.YtgahcabgmfbhdaaGreatDoorZt02
import Derived.Test.YtgahcabgmfbhdaaGreatDoorZt07
import Derived.Test.YtgahcabgmfbhdaaGreatDoorZt10
import Derived.Test.YtgahcabgmfbhdaaGreatDoorZt14
import Derived.Test.YtgahcabgmfbhdaaGreatDoorZt15
import Derived.Test.YtgahcabgmfbhdaaGreatDoorZt16
import Derived.Test.YtgahcabgmfbhdaaGreatDoorZt13
import Derived.Test.YtgahcabgmfbhdaaGreatDoorProg
import Derived.Test.YtgahcabgmfbhdaaGreatDoorZt01
import Derived.OwnWalk
import Derived.Great.BuildSlice
import Derived.Shelf.Strings.Repeat
import Derived.Shelf.Strings.Builder1
import Derived.Shelf.Strings.Builder2
set_option maxRecDepth 100000
set_option maxHeartbeats 16000000
set_option linter.unusedSimpArgs false
set_option linter.unusedVariables false
open Go Go.RowKit
namespace Go.Proofs.YtgahcabgmfbhdaaGreatDoor
namespace mgh
open arr mem stil polys polt pols nttl rndm saml samr spok rsdoc mlkm mlkb mlsm keca kstep kturn rkpb rkrw rkse qrow helda heldb mgd mgr
open kcon (TH)
def MXB(w:World)(B:Nat)(v:Value)(R ln:Nat)(x:Nat→Nat→Nat→Int):Prop:=
 ∃ G C,v=.slice (some ⟨G,0,none⟩) R C∧B≤G∧G<w.heap.size∧∀ r,r<R→∃ g c,w.cell? ⟨G,r,none⟩=some (.slice (some ⟨g,0,none⟩) ln c)∧B≤g∧g<w.heap.size∧∀ j,j<ln→∀ k,k<256→w.cell? ⟨g,256*j+k,none⟩=some (.int .i64 (x r j k))
theorem MXB.mx{w:World}{B:Nat}{v:Value}{R ln:Nat}{x:Nat→Nat→Nat→Int}(h:MXB w B v R ln x):MX w v R (fun _=>ln) x:=by
 obtain⟨G,C,e,-,h1,h2⟩:=h;refine⟨G,C,e,h1,fun r hr=>?_⟩;obtain⟨g,c,h3,-,h4,h5⟩:=h2 r hr;exact⟨g,c,h3,h4,h5⟩
theorem MXB.later{w w':World}{B:Nat}{v:Value}{R ln:Nat}{x:Nat→Nat→Nat→Int}(h:MXB w B v R ln x)(hb:Below w.heap.size w w'):MXB w' B v R ln x:=by
 obtain⟨G,C,e,h0,h1,h2⟩:=h;refine⟨G,C,e,h0,Nat.lt_of_lt_of_le h1 hb.size,fun r hr=>?_⟩;obtain⟨g,c,h3,h4,h5,h6⟩:=h2 r hr;exact⟨g,c,(hb.cell (p:=⟨G,r,none⟩) h1).trans h3,h4,Nat.lt_of_lt_of_le h5 hb.size,fun j hj k hk=>(hb.cell (p:=⟨g,256*j+k,none⟩) h5).trans (h6 j hj k hk)⟩
theorem xhe{w:World}{k:Nat}(R:Array Value)(p:Addr)(h:p.block≠k):(w.setRow k R).cell? p=w.cell? p:=by
 have hb:(w.setRow k R).heap[p.block]? = w.heap[p.block]? := setRow_other _ _ _ _ h;unfold World.cell?;simp only[hb]
theorem MXB.set{w:World}{B k:Nat}{v:Value}{R ln:Nat}{x:Nat→Nat→Nat→Int}(h:MXB w B v R ln x)(hk:k<B)(Q:Array Value):MXB (w.setRow k Q) B v R ln x:=by
 obtain⟨G,C,e,h0,h1,h2⟩:=h;refine⟨G,C,e,h0,by simpa [World.setRow] using h1,fun r hr=>?_⟩;obtain⟨g,c,h3,h4,h5,h6⟩:=h2 r hr;exact⟨g,c,(xhe Q ⟨G,r,none⟩ (by show G≠k;omega)).trans h3,h4,by simpa [World.setRow] using h5,fun j hj i hi=>(xhe Q ⟨g,256*j+i,none⟩ (by show g≠k;omega)).trans (h6 j hj i hi)⟩
theorem xn4{w:World}{B e kn ln:Nat}{v:Value}{vs:List Value}{sk:Option Nat}{p:Nat→Nat→Nat→Int}(hk : 1≤kn)(h:w.ownsRow B e 1 v kn vs)(hr:Rowl w B sk vs ln p):MXB w B v kn ln p:=by
 obtain⟨g,cap,rfl⟩:=rbitd.xbh (by omega) h;refine⟨g,cap,rfl,(h.lt g rfl).1,(h.lt g rfl).2,fun r hr'=>?_⟩;have hl:vs.length=kn:=by have:=h.1;omega
 have hv:vs[r]? = some vs[r]:=List.getElem?_eq_getElem (by omega);obtain⟨g2,c2,e2,h1,h2,-,h4⟩:=hr r _ hv;refine⟨g2,c2,?_,h1,h2,h4⟩;rw[h.cellAt r (by omega),hv,e2]
theorem xtz{T:Array Value}(Z:Nat→Int)(kn ln:Nat)(e t a b o s:Int)(gt g c g1 c1 g2 c2 g3 c3:Nat)(A B C:Nat→Nat→Int)(hd m r:ByteArray)(w:World)(S:Sg)(hS:S=sgn (fun k=>Z k%8380417) kn ln e t a b o s hd A B C m r)(hK:KT T TL RL)(hT:nthere.ZT T Z)(hP:Gp w)(h:latt (kn:Int) (ln:Int) e t a b o s=true)(hh:hd.size=128)(hm:m.size≤100000)(hr:r.size=32)
 (htab:w.heap[gt]? = some (.cells T 34 (0,0))) (HTH:TH w g g1 c1 g2 c2 g3 c3 ln kn A B C):
 Calls Tryz.prog 27 #[.pointer (some ⟨gt,0,none⟩),.agg (zLt (kn:Int) (ln:Int) e t a b o s),.string hd,.slice (some ⟨g,0,none⟩) 3 c,.string m,.string r] w fun x w'=>(∃ gm cm ga ca gb cb gl cl,x=.returned (.agg (SG gt kn ln e t a b o s (.slice (some ⟨gm,0,none⟩) kn cm) (.slice (some ⟨ga,0,none⟩) ln ca) (.slice (some ⟨gb,0,none⟩) kn cb) (.slice (some ⟨gl,0,none⟩) kn cl) S.mu S.ms))∧MX w' (.slice (some ⟨gm,0,none⟩) kn cm) kn (fun _=>ln) (qX S.rho)∧Holds w' 0 (.slice (some ⟨ga,0,none⟩) ln ca) ln (fun i=>thereR S.ζ 8 (A i))∧Holds w' 0 (.slice (some ⟨gb,0,none⟩) kn cb) kn (fun i=>thereR S.ζ 8 (B i))∧Holds w' 0 (.slice (some ⟨gl,0,none⟩) kn cl) kn (fun i=>thereR S.ζ 8 (C i)))∧Below w.heap.size w w':=by
 obtain⟨hk,hl,-⟩:=rksz.xby h;have hk : 1≤kn∧kn≤8:=by omega
 have hl : 1≤ln∧ln≤8:=by omega
 have eζ : S.ζ = fun k=>Z k%8380417:=by rw[hS];rfl
 have erho:hd.extract 0 32=S.rho:=by rw[hS];rfl
 have emu:out TL RL 2 (hd.extract 64 128++m) 64=S.mu:=by rw[hS];rfl
 have ems:out TL RL 2 (hd.extract 32 64++r++S.mu) 64=S.ms:=by rw[hS];rfl
 have srho:S.rho.size=32:=by rw[←erho,size_extract _ _ _ (by omega) (by omega)]
 have smu:S.mu.size=64:=by rw[←emu];exact samc.xbt _ _ _
 obtain⟨Tr,hTr⟩:=zev (hd.extract 64 128);obtain⟨Ky,hKy⟩:=zev (hd.extract 32 64);have sTr:Tr.size=64:=by rw[←hTr,size_extract _ _ _ (by omega) (by omega)]
 have sKy:Ky.size=32:=by rw[←hKy,size_extract _ _ _ (by omega) (by omega)]
 rw[hTr]at emu;rw[hKy]at ems;have HS10:∀ w1:World,Gp w1→w1.heap[gt]? = some (.cells T 34 (0,0))→Calls Tryz.prog 60 #[.pointer (some ⟨gt,0,none⟩),.string (Tr++m),.int .i64 64] w1 (zB w1 (.string S.mu)):=fun w1 hg hr=>by
  rw[←emu];exact mga.xfe gt _ 64 w1 hK hg hr (by decide) (by rw[ByteArray.size_append];omega)
 have HS20:∀ w1:World,Gp w1→w1.heap[gt]? = some (.cells T 34 (0,0))→Calls Tryz.prog 60 #[.pointer (some ⟨gt,0,none⟩),.string (Ky++r++S.mu),.int .i64 64] w1 (zB w1 (.string S.ms)):=fun w1 hg hr2=>by
  rw[←ems];exact mga.xfe gt _ 64 w1 hK hg hr2 (by decide) (by rw[ByteArray.size_append,ByteArray.size_append];omega)
 have HMa0:∀ w1:World,Gp w1→Calls Tryz.prog 43 #[.agg T,.agg (zLt (kn:Int) (ln:Int) e t a b o s),.string S.rho] w1 fun x w'=>(∃ v,x=.returned v∧MXB w' w1.heap.size v kn ln (qX S.rho))∧Below w1.heap.size w1 w':=fun w1 hg=>by
  refine(qdoc.matrix kn ln e t a b o s _ w1 hK hg h (by omega)).mono ?_;rintro x w' ⟨⟨v,vs,rfl,h1,h2⟩,hb⟩;exact⟨⟨v,rfl,xn4 hk.1 h1 h2⟩,hb⟩
 have HTf0:∀ (n:Nat) (vv:Value) (B':Nat) (y:Nat→Nat→Int) (w1:World),w1.heap[gt]? = some (.cells T 34 (0,0))→1≤n∧n≤8→Holds w1 B' vv n y→Calls Tryz.prog 61 #[.pointer (some ⟨gt,0,none⟩),vv] w1 fun e w'=>(∃ v',e=.returned v'∧Holds w' w1.heap.size v' n (fun i=>thereR S.ζ 8 (y i)))∧Below w1.heap.size w1 w':=fun n vv B' y w1 h1 h2 h3=>by
  rw[eζ];exact mgt.xv3 Z gt n vv B' y w1 hT h1 h2 h3
 have HTz:Ω ((Tryz.prog.info? 34).map (·.size)=some T.size):=⟨by rw[hT.size];kernel_rfl⟩;obtain⟨hz,-⟩:=zero_of_info infoSgz;obtain⟨z,HZ⟩:=xaa (#[.pointer none,.int .i64 0,.int .i64 0,.int .i64 0,.int .i64 0,.int .i64 0,.int .i64 0,.int .i64 0,.int .i64 0,.slice none 0 0,.slice none 0 0,.slice none 0 0,.slice none 0 0,.string ⟨#[]⟩,.string ⟨#[]⟩]:Array Value);rw[HZ.out]at hz;have Hzs:Ω (z.size=15):=⟨by rw[←HZ.out];rfl⟩;obtain⟨L,HL⟩:=xaa ((zLt (kn:Int) (ln:Int) e t a b o s):Array Value);rw[HL.out]at HMa0 ⊢;have HLs:Ω ((Tryz.prog.info? 37).map (·.size)=some L.size):=⟨by rw[←HL.out];kernel_rfl⟩;obtain⟨W,hW⟩:=zev ((w.alloc (.cells L 37)).alloc (.cells z 69));obtain⟨r0,r1,hWs,b0⟩:=two hW;have HG:Ω (∀ w':World,Below W.heap.size W w'→Gp w'∧w'.heap[gt]? = some (.cells T 34 (0,0))∧TH w' g g1 c1 g2 c2 g3 c3 ln kn A B C∧w'.heap[w.heap.size]? = some (.cells L 37 (0,0))∧w'.heap[w.heap.size+1]? = some (.cells z 69 (0,0))):=⟨fun w' hb=>by
  have k:=b0.trans (hb.mono b0.size);exact⟨hP.later k,(k.block _ (xac htab)).trans htab,HTH.later k,(hb.block _ (xac r0)).trans r0,(hb.block _ (xac r1)).trans r1⟩⟩
 obtain⟨mu,hmu⟩:=zev S.mu;obtain⟨ms,hms⟩:=zev S.ms;obtain⟨rho,hrho⟩:=zev S.rho;obtain⟨ζ,hζ⟩:∃ x,S.ζ = x:=⟨_,rfl⟩;rw[hmu,hms,hrho,hζ];rw[hmu]at HS10 HS20 smu;rw[hms]at HS20;rw[hrho]at HMa0 erho;rw[hζ]at HTf0;have ltt:gt<w.heap.size:=xac htab;have ltg:g<w.heap.size:=HTH.lt;have HS1:=ω HS10;have HS2:=ω HS20;have HMa:=ω HMa0;have HTf:=ω HTf0;have B0:=ω b0;have HWs:=ω hWs;have HW:=ω hW;have HTH0:=ω HTH;have Ltt:=ω ltt;have Ltg:=ω ltg;have Hk:=ω hk;have Hl:=ω hl;have hhz:(hd.size:Int)=128:=by omega
 have x1:¬ 9223372036854775807<Tr.size+m.size:=by omega
 have x2:¬ 9223372036854775807<Ky.size+r.size:=by omega
 obtain⟨Q,hQ⟩:=zev (Ky++r);have hQs:Q.size=64:=by rw[←hQ,ByteArray.size_append];omega
 have x3:¬ 9223372036854775807<Q.size+mu.size:=by omega
 rw[hQ]at HS2;clear HS10 HS20 HMa0 HTf0 r0 r1 hWs b0 hW htab HTH hK hT hP h hS eζ emu ems srho smu sTr sKy hm hr hmu hms hrho hζ hQs ltt ltg hk hl HZ;go_enter Tryz.func27,Tryz.ntmps27;go_wp2_with (rw[HW.out]);refine xav (by kernel_rfl) (by kernel_rfl) ?_;repeat still_step
 refine wpStill_nil ?_;clear erho hTr hKy hhz hh;have D1:Ω (Below W.heap.size W W.drew):=⟨(Below.refl _ _).drew⟩;go_wp2_with fail;refine(HS1.out _ (HG.out _ D1.out).1 (HG.out _ D1.out).2.1).mono ?_;rintro x w2 ⟨rfl,hb2⟩;have E2:=zbt D1 hb2;clear hb2 x1;go_wp2_with fail;have F2:=HG.out _ E2.out;have hw2:w.heap.size+2≤w2.heap.size:=by have h1:=E2.out.size;have h2:=HWs.out;omega
 have U0:∀ w':World,Below w2.heap.size w2 w'→Below W.heap.size W w':=fun w' hb=>E2.out.trans (hb.mono E2.out.size)
 refine xbe (w.heap.size+1) 33 [0,1,2,3,4,5,6,8,9,10,11,13,14,15,16,18,19,20,21,23,24,25,26,27,28,29,7,12,17,22,30,31,32] (by kernel_rfl) rfl rfl (by decide) (fun hS ops HO=>?_);simp only[List.filterMap_cons,fa,List.getElem?_cons_succ,List.getElem?_cons_zero];have V0:∀ w':World,Below (w.heap.size+1) w2 w'→w'.heap[w.heap.size]? = some (.cells L 37 (0,0))∧w'.heap[gt]? = some (.cells T 34 (0,0))∧w'.cell? ⟨g,0,none⟩=some (.slice (some ⟨g1,0,none⟩) ln c1)∧w'.cell? ⟨g,1,none⟩=some (.slice (some ⟨g2,0,none⟩) kn c2)∧w'.cell? ⟨g,2,none⟩=some (.slice (some ⟨g3,0,none⟩) kn c3):=fun w' hb=>by
  have l1:=Ltg.out;have l2:=Ltt.out;exact⟨(hb.block _ (by omega)).trans F2.2.2.2.1,(hb.block _ (by omega)).trans F2.2.1,(hb.cell (p:=⟨g,0,none⟩) (Nat.lt_succ_of_lt l1)).trans F2.2.2.1.x0,(hb.cell (p:=⟨g,1,none⟩) (Nat.lt_succ_of_lt l1)).trans F2.2.2.1.x1,(hb.cell (p:=⟨g,2,none⟩) (Nat.lt_succ_of_lt l1)).trans F2.2.2.1.x2⟩
 refine zU hS ?_;refine hk_l (by rw[←HO.out];kernel_rfl) (fun _ _ _ _ h=>h) 37 _ rfl w.heap.size rfl 37 L _ (fun w1 h1=>(V0 w1 h1).1) zZ rfl HLs.out hS ?_;simp only[Act.put,pa,pb,pc];iterate 2 (refine zU hS ?_)
 refine hk_l (by rw[←HO.out];kernel_rfl) (fun _ _ _ _ h=>h) 34 _ rfl gt rfl 34 T _ (fun w1 h1=>(V0 w1 h1).2.1) zY rfl HTz.out hS ?_;simp only[Act.put,pa,pb,pc];refine hk_l (by rw[←HO.out];kernel_rfl) (fun _ _ _ _ h=>h) 37 _ rfl w.heap.size rfl 37 L _ (fun w1 h1=>(V0 w1 h1).1) zZ rfl HLs.out hS ?_;simp only[Act.put,pa,pb,pc];iterate 4 (refine zU hS ?_)
 (refine hk_t (v:=?_) (by rw[←HO.out];kernel_rfl) (fun _ _ _ h=>h) ?_ hS ?_;rotate_left;focus (intro w9 h9;have hc:=(V0 w9 h9).2.2.1;go_simp;first | done | with_reducible rfl);all_goals skip)
 simp only[Act.put,pa,pb,pc];iterate 3 (refine zU hS ?_)
 (refine hk_t (v:=?_) (by rw[←HO.out];kernel_rfl) (fun _ _ _ h=>h) ?_ hS ?_;rotate_left;focus (intro w9 h9;have hc:=(V0 w9 h9).2.2.2.1;go_simp;first | done | with_reducible rfl);all_goals skip)
 simp only[Act.put,pa,pb,pc];iterate 3 (refine zU hS ?_)
 (refine hk_t (v:=?_) (by rw[←HO.out];kernel_rfl) (fun _ _ _ h=>h) ?_ hS ?_;rotate_left;focus (intro w9 h9;have hc:=(V0 w9 h9).2.2.2.2;go_simp;first | done | with_reducible rfl);all_goals skip)
 simp only[Act.put,pa,pb,pc];iterate 7 (refine zU hS ?_)
 have hd2:Below w2.heap.size w2 w2.drew:=(Below.refl _ _).drew;refine zS fun K hK=>?_
 go_simp
 refine(HMa.out _ (HG.out _ (U0 _ hd2)).1).mono ?_;rintro x w3 ⟨⟨vm,rfl,hm⟩,hb3⟩;have h3:=hS.trans (hb3.mono (Nat.le_trans (Nat.le_of_succ_le hw2) hd2.size));have k3:=zbm hd2 hb3;obtain⟨gm,cm,rfl,hgm⟩:∃ gm cm,vm=.slice (some ⟨gm,0,none⟩) kn cm∧True:=by obtain⟨G,C,e,-⟩:=hm;exact⟨G,C,e,trivial⟩
 refine hK _ _ h3 ?_;clear hK K;try simp only[Act.put,pa,pb,pc]
 refine zS fun K hK=>?_
 go_simp
 refine(HTf.out ln _ _ _ _ (HG.out _ (U0 _ k3)).2.1 Hl.out (F2.2.2.1.h0.later k3)).mono ?_;rintro x w4 ⟨⟨va,rfl,ha⟩,hb4⟩;have h4:=h3.trans (hb4.mono (Nat.le_trans (Nat.le_of_succ_le hw2) k3.size));have k4:=zbm k3 hb4;obtain⟨ga,ca,rfl,-⟩:=xan ha;refine hK _ _ h4 ?_;clear hK K;try simp only[Act.put,pa,pb,pc]
 refine zS fun K hK=>?_
 go_simp
 refine(HTf.out kn _ _ _ _ (HG.out _ (U0 _ k4)).2.1 Hk.out (F2.2.2.1.h1.later k4)).mono ?_;rintro x w5 ⟨⟨vb,rfl,hb⟩,hb5⟩;have h5:=h4.trans (hb5.mono (Nat.le_trans (Nat.le_of_succ_le hw2) k4.size));have k5:=zbm k4 hb5;obtain⟨gb,cb,rfl,-⟩:=xan hb;refine hK _ _ h5 ?_;clear hK K;try simp only[Act.put,pa,pb,pc]
 refine zS fun K hK=>?_
 go_simp
 refine(HTf.out kn _ _ _ _ (HG.out _ (U0 _ k5)).2.1 Hk.out (F2.2.2.1.h2.later k5)).mono ?_;rintro x w6 ⟨⟨vl,rfl,hl⟩,hb6⟩;have h6:=h5.trans (hb6.mono (Nat.le_trans (Nat.le_of_succ_le hw2) k5.size));have k6:=zbm k5 hb6;obtain⟨gl,cl,rfl,-⟩:=xan hl;refine hK _ _ h6 ?_;clear hK K;try simp only[Act.put,pa,pb,pc]
 refine zS fun K hK=>?_
 go_simp
 refine(HS2.out _ (HG.out _ (U0 _ k6)).1 (HG.out _ (U0 _ k6)).2.1).mono ?_;rintro x w7 ⟨rfl,hb7⟩;have h7:=h6.trans (hb7.mono (Nat.le_trans (Nat.le_of_succ_le hw2) k6.size));have k7:=zbm k6 hb7;refine hK _ _ h7 ?_;clear hK K;try simp only[Act.put,pa,pb,pc]
 refine hk_b (by rw[←HO.out];kernel_rfl) (fun _ _ _ _ h=>h) (.agg (SG gt kn ln e t a b o s (.slice (some ⟨gm,0,none⟩) kn cm) (.slice (some ⟨ga,0,none⟩) ln ca) (.slice (some ⟨gb,0,none⟩) kn cb) (.slice (some ⟨gl,0,none⟩) kn cl) mu ms)) (fun w1=>xr2 rfl rfl (by rw[HL.out];rfl) rfl rfl rfl rfl rfl rfl w1) h7 ?_;simp only[Act.put,pa,pb,pc];have R7:=(HG.out _ (U0 _ k7)).2.2.2.2;obtain⟨R,HR⟩:=xaa (SG gt kn ln e t a b o s (.slice (some ⟨gm,0,none⟩) kn cm) (.slice (some ⟨ga,0,none⟩) ln ca) (.slice (some ⟨gb,0,none⟩) kn cb) (.slice (some ⟨gl,0,none⟩) kn cl) mu ms);have Ri:(Tryz.prog.info? 69).map (·.size)=some R.size:=by rw[←HR.out];exact infoSg
 have Ro:R.all (·.oneCell')=true:=by rw[←HR.out];exact xpt _ _ _ _ _ _ _ _ _ _ _ _ _ _ _ _ _ _ _ _ _ _ _
 have Rz:z.size=R.size:=by rw[Hzs.out,←HR.out];rfl
 rw[HR.out];refine zS fun K hK=>?_
 refine wp_store_row 69 _ _ rfl (w.heap.size+1) R rfl rfl 69 _ R7 Ri Rz Ro ?_;have h8:=h7.trans (below_setRow (B:=w.heap.size+1) w7 (w.heap.size+1) R (Nat.le_refl _));refine hK _ _ h8 ?_;clear hK K;refine zN ?_;have s0:w.heap.size+1<w2.drew.heap.size:=hw2;have kk:∀ {x:World},Below w2.heap.size w2 x→w.heap.size+1<x.heap.size:=fun hb=>Nat.lt_of_lt_of_le hw2 hb.size
 have q1:=(MXB.set (hm.later (hb4.trans ((hb5.trans ((hb6.trans (hb7.mono hb6.size)).mono hb5.size)).mono hb4.size))) s0 R).mx;have q2:=rkse.xbx (xf7 (ha.later (hb5.trans ((hb6.trans (hb7.mono hb6.size)).mono hb5.size))) (kk k3) R);have q3:=rkse.xbx (xf7 (hb.later (hb6.trans (hb7.mono hb6.size))) (kk k4) R);have q4:=rkse.xbx (xf7 (hl.later hb7) (kk k5) R);have bw2:Below w.heap.size w w2:=B0.out.trans (E2.out.mono B0.out.size);go_wp2_with fail;refine bodyPost_ret_by (v:=.agg R) (results_cell_row rfl _ _ (w.heap.size+1) 69 _ (0,0) _ rfl (setRow_heap _ _ _ _ _ _ R7) Tryz.underlying69 rfl Ri) rfl ?_;exact⟨⟨gm,cm,ga,ca,gb,cb,gl,cl,by rw[HR.out],q1,q2,q3,q4⟩,bw2.trans (h8.mono (Nat.le_succ _))⟩
end mgh
namespace rksz
open arr mem stil polys polt rbita rndm mlkm
theorem xfg(k l e t a b o s:Int)(w:World):
 Calls Tryz.prog 66 #[.agg (zLt k l e t a b o s)] w (zB w (szs k l e t a b o s)):=by
 have HR0:=fun w1=>rfright.xbn k l e t a b o s w1
 obtain⟨V,HV⟩:=xaa (szs k l e t a b o s);rw[HV.out];obtain⟨C,HC⟩:=xaa ((zLt k l e t a b o s):Array Value);rw[HC.out]at HR0 ⊢;have HCs:Ω ((Tryz.prog.info? 37).map (·.size)=some C.size):=⟨by rw[←HC.out];kernel_rfl⟩;obtain⟨W,hW⟩:=zev (w.alloc (.cells C 37));obtain⟨r0,hWs,b0⟩:=one hW;have L0:Ω (W.heap[w.heap.size]? = some (.cells C 37 (0,0))):=⟨r0⟩;have BW:=ω b0;have HWs:=ω hWs;have HW:=ω hW;clear hW r0 b0 hWs;by_cases h:latt k l e t a b o s=true
 rotate_left
 ·have h:latt k l e t a b o s=false:=by simpa using h
  have hVe:Ω (V=.tuple #[.int .i64 0,.int .i64 0,.int .i64 0]):=⟨by rw[←HV.out];unfold szs;rw[h];rfl⟩;rw[h]at HR0;have HR:=ω HR0;clear HR0 h;go_enter Tryz.func66,Tryz.ntmps66;go_wp2_with (first
   | (rw[HW.out])
   | (refine wpList_load_row rfl 37 _ rfl w.heap.size rfl 37 _ (0,0) _ L0.out zZ rfl HCs.out ?_))
  refine(HR.out _).mono ?_;rintro x u1 ⟨rfl,hb1⟩;have B1:Ω (Below w.heap.size w u1):=⟨BW.out.trans (hb1.mono (by rw[HWs.out];omega))⟩;clear hb1;go_wp2_with fail;go_ret3
  exact⟨by rw[hVe.out];rfl,B1.out⟩
 rw[h]at HR0;have HR:=ω HR0;obtain⟨⟨k1,k8⟩,⟨l1,l8⟩,he,ha,⟨o1,o8⟩,hs⟩:=xby h;obtain⟨E,hE⟩:∃ E:Nat,lb (2*e).toNat=E:=⟨_,rfl⟩;obtain⟨A,hA⟩:∃ A:Nat,lb (a-1).toNat=A:=⟨_,rfl⟩;have hE3:E=3∨E=4:=by rcases he with rfl | rfl<;>(rw[←hE];decide +kernel)
 have hA3:A=17∨A=19:=by rcases ha with rfl | rfl<;>(rw[←hA];decide +kernel)
 have HE:Ω (∀ w1:World,Calls Tryz.prog 125 #[.int .i64 (2*e)] w1 (zE w1 (.int .i64 (E:Int)))):=⟨fun w1=>by have h:=rbita.xcn (2*e) (by omega) w1;rw[hE]at h;exact h⟩;have HA:Ω (∀ w1:World,Calls Tryz.prog 125 #[.int .i64 (a-1)] w1 (zE w1 (.int .i64 (A:Int)))):=⟨fun w1=>by have h:=rbita.xcn (a-1) (by omega) w1;rw[hA]at h;exact h⟩;obtain⟨M,hM⟩:∃ M:Int,32*(E:Int)=M:=⟨_,rfl⟩;obtain⟨q,hq⟩:∃ q:Int,l+k=q:=⟨_,rfl⟩;obtain⟨p,hp⟩:∃ p:Int,M*q=p:=⟨_,rfl⟩;obtain⟨N,hN⟩:∃ N:Int,32*((A:Int)+1)=N:=⟨_,rfl⟩;obtain⟨r,hr⟩:∃ r:Int,N*l=r:=⟨_,rfl⟩;obtain⟨d,hd⟩:∃ d:Int,s / 4=d:=⟨_,rfl⟩;have hpb : 0≤p∧p≤2048:=by rcases hE3 with rfl | rfl<;>(rw[←hp,←hM];omega)
 have hrb : 0≤r∧r≤5120:=by rcases hA3 with rfl | rfl<;>(rw[←hr,←hN];omega)
 have f1:IntKind.i64.wrap (2*e)=2*e:=zwi;have f2:IntKind.i64.wrap (32*(E:Int))=M:=by rw[hM,IntKind.wrap_i64];omega
 have f3:IntKind.i64.wrap (320*k)=320*k:=zwi;have f4:IntKind.i64.wrap (32+320*k)=32+320*k:=zwi;have f5:IntKind.i64.wrap (l+k)=q:=by rw[hq,IntKind.wrap_i64];omega
 have f6:IntKind.i64.wrap (M*q)=p:=by rw[hp,IntKind.wrap_i64];omega
 have f7:IntKind.i64.wrap (128+p)=128+p:=zwi;have f8:IntKind.i64.wrap (416*k)=416*k:=zwi;have f9:IntKind.i64.wrap (128+p+416*k)=128+p+416*k:=zwi;have g1:s.tdiv 4=d:=by rw[Int.tdiv_eq_ediv_of_nonneg (by omega)];exact hd
 have g1':IntKind.i64.wrap (s.tdiv 4)=d:=by rw[g1,IntKind.wrap_i64];omega
 have g1'':IntKind.i64.wrap d=d:=zwi;have g2:IntKind.i64.wrap (a-1)=a-1:=zwi;have g3:IntKind.i64.wrap ((A:Int)+1)=(A:Int)+1:=zwi;have g4:IntKind.i64.wrap (32*((A:Int)+1))=N:=by rw[hN,IntKind.wrap_i64];omega
 have g5:IntKind.i64.wrap (N*l)=r:=by rw[hr,IntKind.wrap_i64];omega
 have g6:IntKind.i64.wrap (d+r)=d+r:=zwi;have g7:IntKind.i64.wrap (d+r+o)=d+r+o:=zwi;have g8:IntKind.i64.wrap (d+r+o+k)=d+r+o+k:=zwi;have hVe:Ω (V=.tuple #[.int .i64 (32+320*k),.int .i64 (128+p+416*k),.int .i64 (d+r+o+k)]):=⟨by
  rw[←HV.out];unfold szs sz1 sz2 sz3;rw[if_pos h,hE,hA,hM,hN,hq,hp,hr,hd]⟩
 clear HR0 h he ha hs hE hA hE3 hA3 hM hq hp hN hr hd hpb hrb k1 k8 l1 l8 o1 o8;go_enter Tryz.func66,Tryz.ntmps66;go_wp2_with (first
  | (rw[HW.out])
  | (refine wpList_load_row rfl 37 _ rfl w.heap.size rfl 37 _ (0,0) _ L0.out zZ rfl HCs.out ?_))
 refine(HR.out _).mono ?_;rintro x u1 ⟨rfl,hb1⟩;have B1:Ω (Below w.heap.size w u1):=⟨BW.out.trans (hb1.mono (by rw[HWs.out];omega))⟩;have L1:u1.heap[w.heap.size]? = some (.cells C 37 (0,0)):=(hb1.block _ (by rw[HWs.out];omega)).trans L0.out;have c0:u1.cell? ⟨w.heap.size,0,none⟩=some (.int .i64 k):=xab L1 (by rw[←HC.out];rfl);have c1:u1.cell? ⟨w.heap.size,1,none⟩=some (.int .i64 l):=xab L1 (by rw[←HC.out];rfl);have c2:u1.cell? ⟨w.heap.size,2,none⟩=some (.int .i64 e):=xab L1 (by rw[←HC.out];rfl);have c4:u1.cell? ⟨w.heap.size,4,none⟩=some (.int .i64 a):=xab L1 (by rw[←HC.out];rfl);have c6:u1.cell? ⟨w.heap.size,6,none⟩=some (.int .i64 o):=xab L1 (by rw[←HC.out];rfl);have c7:u1.cell? ⟨w.heap.size,7,none⟩=some (.int .i64 s):=xab L1 (by rw[←HC.out];rfl);clear hb1 L1;go_wp2_with fail;refine(HE.out _).mono ?_;rintro x u1 ⟨rfl,rfl⟩;go_wp2_with fail;refine xav (by kernel_rfl) (by kernel_rfl) ?_;repeat still_step
 still_call (HA.out _)
 repeat still_step
 refine wpStill_nil ?_;clear c0 c1 c2 c4 c6 c7;go_wp2_with fail;go_ret3
 exact⟨by rw[hVe.out];rfl,B1.out.drew⟩
end rksz
namespace rktk
open arr mem stil polys polt pols rbita rbitb rbitd rbite rbitf rbitg bitp rndm saml mlkm mlkb
theorem xl4(s:ByteArray)(low high:Int)(w:World)(h1 : 0≤low)(h2 : 1≤high)(h3:low<4190208)(h4:high<4190208)(hs:s.size=32*lb (low+high).toNat):
 Calls Tryz.prog 126 #[.string s,.int .i64 low,.int .i64 high] w (zB w (if inb (up s (lb (low+high).toNat)) (low+high) then .tuple #[.agg (FL .i64 256 (un (up s (lb (low+high).toNat)) high)),.int .i64 0] else .tuple #[.agg (FL .i64 256 fun _=>0),.int .i64 3])):=by
 have hu:=fun w1=>rbitf.xgz s (low+high) w1 (by omega) (by omega) hs
 by_cases hin:inb (up s (lb (low+high).toNat)) (low+high)
 ·simp only[if_pos hin]at hu ⊢;exact rbitg.xg0 s low high w _ h1 h2 h3 h4 hin hu
 ·simp only[if_neg hin]at hu ⊢;exact rbitg.xl5 s low high w 3 h1 h2 h3 h4 (by decide) hu
def TK(w:World)(B:Nat)(s:ByteArray)(p m:Nat)(low high:Int)(x:Value):Prop:=
 (okU s p (lb (low+high).toNat) (low+high) m∧∃ v,x=.tuple #[v,.int .i64 ((p+32*lb (low+high).toNat*m:Nat):Int),.bool true]∧w.ownsRow B 109 256 v m (cq (rdS s p (lb (low+high).toNat) high) m))
 ∨ (¬ okU s p (lb (low+high).toNat) (low+high) m∧∃ z:Int,x=.tuple #[.slice none 0 0,.int .i64 z,.bool false])
theorem xlq(s:ByteArray)(p m:Nat)(low high:Int)(w:World)(hm:m≤8)(h1 : 0≤low)(h2 : 1≤high)(h3:low<4190208)(h4:high<4190208)(hs:p+32*lb (low+high).toNat*m≤s.size)(hs2:s.size≤100000):
 Calls Tryz.prog 67 #[.string s,.int .i64 (p:Int),.int .i64 (m:Int),.int .i64 low,.int .i64 high] w fun x w'=>(∃ v,x=.returned v∧TK w' w.heap.size s p m low high v)∧Below w.heap.size w w':=by
 obtain⟨i0,hi,hz0,hz1,hz2⟩:=rbitb.parts infoPoly;obtain⟨hz,hsize⟩:=zero_of_info polt.infoP;obtain⟨z,HZ⟩:=xaa (FL .i64 256 fun _=>0);rw[HZ.out]at hz hz0;have HI:=ω (And.intro hi (And.intro hz0 (And.intro hz1 hz2)));have Hzs:=zfs HZ;have Hzc:Ω ((Value.agg z).cells.size=256):=⟨Hzs.out⟩;have Hsize:=ω hsize;have hb:=rbitf.xe3 (low+high) (by omega);have HL:Ω (∀ w1:World,Calls Tryz.prog 125 #[.int .i64 (low+high)] w1 (zE w1 (.int .i64 (lb (low+high).toNat:Nat)))):=⟨fun w1=>rbita.xcn (low+high) (by omega) w1⟩;have HU:Ω (∀ (i:Nat),i<m→∀ w1:World,Calls Tryz.prog 126 #[.string (s.extract (p+32*lb (low+high).toNat*i) (p+32*lb (low+high).toNat*i+32*lb (low+high).toNat)),.int .i64 low,.int .i64 high] w1 (zB w1 (if inb (rdU s p (lb (low+high).toNat) i) (low+high) then .tuple #[.agg (FL .i64 256 (rdS s p (lb (low+high).toNat) high i)),.int .i64 0] else .tuple #[.agg (FL .i64 256 fun _=>0),.int .i64 3]))):=⟨fun i hi w1=>xl4 _ low high w1 h1 h2 h3 h4 (xou s p _ i m hi hs)⟩;have fs:IntKind.i64.wrap (low+high)=low+high:=zwi;unfold TK;obtain⟨W,hW⟩:=zev (lb (low+high).toNat);rw[hW]at HL HU hs hb ⊢;have fw:IntKind.i64.wrap (32*(W:Int))=((32*W:Nat):Int):=zwi;obtain⟨S,hS⟩:=zev (32*W);obtain⟨R,HR⟩:=xaa (rdS s p W high);obtain⟨U,HUU⟩:=xaa (rdU s p W);rw[hS]at HU hs fw ⊢;simp only[HR.out,HUU.out]at HU;have okE:Ω (okU s p W (low+high) m↔∀ i,i<m→inb (U i) (low+high)):=⟨by unfold okU;rw[HUU.out]⟩;rw[HR.out];rw[okE.out];have Hs:=ω hs;have Hs2:=ω hs2;have Hm:=ω hm;have hS8:S≤800:=by omega
 clear hi hz0 hz1 hz2 hsize h1 h2 h3 h4 hs hs2 hW hb HR HUU okE;go_enter Tryz.func67,Tryz.ntmps67;go_wp2_with fail;refine(HL.out _).mono ?_;rintro e w1 ⟨rfl,hw⟩;rw[hw];clear hw w1;go_wp2_with fail;go_loopw [1,14,23] (fun av lv iv wr=>∃ r:Nat,r≤m∧iv=.int .i64 (r:Int)∧av=.int .i64 ((p+S*r:Nat):Int)∧Ω (∀ i,i<r→inb (U i) (low+high))∧Ω (wr.ownsRow w.heap.size 109 256 lv r (cq R r))∧Ω (Below w.heap.size w wr)) (fun _ _ iv _=>m-(intOf iv).toNat)
 case atStart=>exact⟨0,Nat.zero_le _,rfl,by rw[Nat.mul_zero,Nat.add_zero],⟨fun i hi=>by omega⟩,⟨⟨rfl,Or.inl ⟨rfl,rfl⟩⟩⟩,⟨Below.refl _ _⟩⟩
 case round=>
  obtain⟨r,hr,rfl,rfl,Hin,Oy,Hb⟩:=hrel;by_cases hlt:r<m
  ·have hrz:(r:Int)<(m:Int):=by omega
   have hr8:r<8:=by have:=Hm.out;omega
   have hmul:S*(r+1)≤S*m:=Nat.mul_le_mul_left _ hlt;rw[Nat.mul_succ]at hmul;obtain⟨q,hq⟩:=zev (p+S*r);have hqs:q+S≤s.size:=by have:=Hs.out;omega
   have hqz:q+S≤100000:=by have:=Hs2.out;omega
   have fq:IntKind.i64.wrap ((q:Int)+(S:Int))=((q+S:Nat):Int):=zwi;have hnext:Ω (q+S=p+S*(r+1)):=⟨by rw[Nat.mul_succ];omega⟩;have HUr:=HU.out r hlt;rw[hq]at HUr ⊢;obtain⟨X,HX⟩:=xaa (s.extract q (q+S));have hex:=HX.out;rw[HX.out]at HUr;have Hlt:=ω hlt;have Hmul:=ω hmul;clear hmul;by_cases hok:inb (U r) (low+high)
   ·rw[if_pos hok]at HUr;have Hin2:Ω (∀ i,i<r+1→inb (U i) (low+high)):=⟨fun i hi=>by
     by_cases e:i=r
     ·rw[e];exact hok
     ·exact Hin.out i (by omega)⟩
    obtain⟨F,HF⟩:=xaa (FL .i64 256 (R r));rw[HF.out]at HUr;have HUr:=ω HUr;have Fs:=zfs HF;have Fo:=zro HF;have Fi:=zsz Fs Hsize.out;have Fz:Ω (z.size=F.size):=⟨by rw[Hzs.out,Fs.out]⟩;clear hok;go_wp2_with fail;refine(HUr.out _).mono ?_;rintro e w3 ⟨rfl,hb3⟩;obtain⟨W4,hW4⟩:=zev (w3.alloc (.cells F 109));obtain⟨r4,hs4,b4⟩:=one hW4;have R4:=ω r4;have D4:Ω (Below wr.heap.size wr W4):=⟨hb3.trans (b4.mono hb3.size)⟩;have B4:=zbt Hb D4.out;have O4:Ω (W4.ownsRow w.heap.size 109 256 u14 r (cq R r)):=⟨xbu Oy.out D4.out⟩;have hws:w.heap.size≤W4.heap.size:=B4.out.size;have HW4:=ω hW4;clear hb3 hW4 r4 hs4 b4;go_wp2_with (first
     | (refine xam rfl 109 _ _ rfl F rfl rfl Fi.out (by exact Fz.out) Fo.out rfl ?_)
     | (rw[HW4.out])
     | (refine wpList_load_row rfl 109 _ rfl w3.heap.size rfl 109 F (0,0) _ R4.out zX rfl Fi.out ?_))
    refine wp_buildSlice 67 109 1 _ rfl F i0 (.agg z) Tryz.underlying67 HI.out.1 HI.out.2.1 (by rw[HI.out.2.2.1];decide) (by rw[HI.out.2.2.1];decide) ?hf ?_
    case hf=>
     go_simp
     exact⟨⟨decide_eq_false (fun h=>h (Fs.out.trans HI.out.2.2.1.symm)),by rw[Fs.out,HI.out.2.2.1];exact Nat.le_refl _⟩,xev F _ Fs.out (by simp[HI.out.2.2.1])⟩
    go_wp2_with (at_builtin;refine wpList_append_own _ rfl _ _ 67 rfl w.heap.size 109 i0 (.agg z) 256 2048 Tryz.underlying67 HI.out.1 HI.out.2.1 HI.out.2.2.1 HI.out.2.2.2 Hzc.out (by decide) _ _ _ rfl (O4.out.alloc _) ⟨W4.heap.size,0,none⟩ 1 1 F.toList rfl (by rw[Array.length_toList,Fs.out]) (fun j u hu=>xdi hu) (fun u hu=>xd1 Fo.out u hu) (by unfold maxLen;omega) (by omega) (by rw[size_alloc];omega) ?_);intro v' w8 hown' hgrow _;have hb8:Below w.heap.size W4 w8:=((Below.refl w.heap.size W4).alloc hws _).grown hgrow (by rw[size_alloc];omega) (fun k hk=>(O4.out.lt k hk).1);have B8:Ω (Below w.heap.size w w8):=⟨B4.out.trans hb8⟩;have O8:Ω (w8.ownsRow w.heap.size 109 256 v' (r+1) (cq R (r+1))):=⟨by rw[cq,HF.out];exact hown'⟩;clear hown' hgrow hb8;go_wp2_with fail;go_roundw
    case rel=>exact⟨r+1,by have:=Hlt.out;omega,by go_num,by rw[←hnext.out,Int.natCast_add],Hin2,O8,B8⟩
    case measure=>have:=Hlt.out;simp[intOf];omega
   ·rw[if_neg hok,HZ.out]at HUr;have HUr:=ω HUr;have Zi:=zsz Hzs Hsize.out;have Zo:=zro HZ;have Hno:Ω (¬ ∀ i,i<m→inb (U i) (low+high)):=⟨fun h=>hok (h r Hlt.out)⟩;clear hok;go_wp2_with fail;refine(HUr.out _).mono ?_;rintro e w3 ⟨rfl,hb3⟩;obtain⟨W4,hW4⟩:=zev (w3.alloc (.cells z 109));obtain⟨r4,hs4,b4⟩:=one hW4;have B4:Ω (Below w.heap.size w W4):=⟨Hb.out.trans ((hb3.trans (b4.mono hb3.size)).mono Hb.out.size)⟩;have HW4:=ω hW4;clear hb3 hW4 r4 hs4 b4;go_wp2_with (first
     | (refine xam rfl 109 _ _ rfl z rfl rfl Zi.out rfl Zo.out rfl ?_)
     | (rw[HW4.out]))
    go_ret3
    exact⟨⟨_,rfl,Or.inr ⟨Hno.out,_,rfl⟩⟩,B4.out⟩
  ·obtain rfl:r=m:=by omega
   go_wp2_with fail;go_ret3
   exact⟨⟨_,rfl,Or.inl ⟨Hin.out,_,rfl,Oy.out⟩⟩,Hb.out⟩
end rktk
namespace rkse
open arr mem stil polys polt pols rbita rbitb rbitd rbitf rndm saml mlkm mlkb rksz rktk
theorem xlf(k l e t a b o s:Int)(x:ByteArray)(w:World)(h:latt k l e t a b o s=true)(hx:(x.size:Int)≠sz2 k l e):
 Calls Tryz.prog 29 #[.agg (zLt k l e t a b o s),.string x] w (zB w (.tuple #[.string ⟨#[]⟩,.slice none 0 0,.int .i64 3])):=by
 obtain⟨n1,n2,n3,HN,HS⟩:∃ n1 n2 n3:Int,Ω (n2=sz2 k l e)∧Ω (∀ w1:World,Calls Tryz.prog 66 #[.agg (zLt k l e t a b o s)] w1 (zB w1 (.tuple #[.int .i64 n1,.int .i64 n2,.int .i64 n3]))):=⟨_,_,_,⟨rfl⟩,⟨fun w1=>by
  have h1:=xfg k l e t a b o s w1;unfold szs at h1;rw[if_pos h]at h1;exact h1⟩⟩
 have hn0:(n2==0)=false:=by
  rw[HN.out,sz2];obtain⟨q1,q2,-⟩:=xby h;have : 0≤32*((lb (2*e).toNat:Nat):Int)*(l+k):=Int.mul_nonneg (by omega) (by omega);simp;omega
 have hn1:((x.size:Int) != n2)=true:=by rw[HN.out];simpa using hx
 obtain⟨C,HC⟩:=xaa ((zLt k l e t a b o s):Array Value);rw[HC.out]at HS ⊢;have HCs:Ω ((Tryz.prog.info? 37).map (·.size)=some C.size):=⟨by rw[←HC.out];kernel_rfl⟩;obtain⟨W,hW⟩:=zev (w.alloc (.cells C 37));obtain⟨r0,hWs,b0⟩:=one hW;have L0:Ω (W.heap[w.heap.size]? = some (.cells C 37 (0,0))):=⟨r0⟩;have BW:=ω b0;have HW:=ω hW;clear hW r0 hWs b0 h HN;go_enter Tryz.func29,Tryz.ntmps29;go_wp2_with (first
  | (rw[HW.out])
  | (refine wpList_load_row rfl 37 _ rfl w.heap.size rfl 37 _ (0,0) _ L0.out zZ rfl HCs.out ?_))
 refine(HS.out _).mono ?_;rintro x u1 ⟨rfl,hb1⟩;have B1:=zbt BW hb1;clear hb1;go_wp2_with fail;go_ret3
 exact⟨rfl,B1.out⟩
theorem xiq(kn ln:Nat)(e t a b o s:Int)(x:ByteArray)(w:World)(h:latt (kn:Int) (ln:Int) e t a b o s=true)(hx:(x.size:Int)=sz2 kn ln e):
 Calls Tryz.prog 29 #[.agg (zLt (kn:Int) (ln:Int) e t a b o s),.string x] w fun r w'=>((okK x kn ln e∧∃ v,r=.returned (.tuple #[.string (x.extract 0 128),v,.int .i64 0])∧three w' v x kn ln e)∨(¬ okK x kn ln e∧r=.returned (.tuple #[.string ⟨#[]⟩,.slice none 0 0,.int .i64 3])))∧Below w.heap.size w w':=by
 obtain⟨hk,hl,he,-⟩:=xby h;have hk : 1≤kn∧kn≤8:=by omega
 have hl : 1≤ln∧ln≤8:=by omega
 obtain⟨le1,le2,le3⟩:=xe2 e he;obtain⟨n1,n2,n3,HN,HS⟩:∃ n1 n2 n3:Int,Ω (n2=sz2 kn ln e)∧Ω (∀ w1:World,Calls Tryz.prog 66 #[.agg (zLt (kn:Int) (ln:Int) e t a b o s)] w1 (zB w1 (.tuple #[.int .i64 n1,.int .i64 n2,.int .i64 n3]))):=⟨_,_,_,⟨rfl⟩,⟨fun w1=>by
  have h1:=xfg kn ln e t a b o s w1;unfold szs at h1;rw[if_pos h]at h1;exact h1⟩⟩
 have hsz:x.size=128+32*lb (e+e).toNat*ln+32*lb (e+e).toNat*kn+416*kn:=by
  rw[sz2,←le1]at hx;have e1 : 32*((lb (e+e).toNat:Nat):Int)*((ln:Int)+(kn:Int))=((32*lb (e+e).toNat*ln+32*lb (e+e).toNat*kn:Nat):Int):=by push_cast;rw[Int.mul_add]
  omega
 have hn0:(n2==0)=false:=by
  rw[HN.out,←hx];exact beq_eq_false_iff_ne.2 (by omega)
 have hn1:((x.size:Int) != n2)=false:=by rw[HN.out,hx];simp
 have hbig:x.size≤100000:=by
  have a1 : 32*lb (e+e).toNat*ln≤128*8:=Nat.mul_le_mul (by omega) hl.2;have a2 : 32*lb (e+e).toNat*kn≤128*8:=Nat.mul_le_mul (by omega) hk.2;omega
 unfold okK three;obtain⟨Wd,hWd⟩:=zev (lb (e+e).toNat);obtain⟨p2,hp2⟩:=zev (128+32*Wd*ln);obtain⟨p3,hp3⟩:=zev (p2+32*Wd*kn);rw[hWd,hp2,hp3]at hsz;have HT1:Ω (∀ w1:World,Calls Tryz.prog 67 #[.string x,.int .i64 128,.int .i64 (ln:Int),.int .i64 e,.int .i64 e] w1 fun r w'=>(∃ v,r=.returned v∧((okU x 128 Wd (e+e) ln∧∃ v1,v=.tuple #[v1,.int .i64 (p2:Int),.bool true]∧w'.ownsRow w1.heap.size 109 256 v1 ln (cq (rdS x 128 Wd e) ln))∨(¬ okU x 128 Wd (e+e) ln∧∃ zz:Int,v=.tuple #[.slice none 0 0,.int .i64 zz,.bool false])))∧Below w1.heap.size w1 w'):=⟨fun w1=>by
  have h1:=xlq x 128 ln e e w1 hl.2 (by omega) (by omega) (by omega) (by omega) (by rw[hWd,hp2];omega) hbig;unfold TK at h1;rw[hWd,hp2]at h1;exact h1⟩
 have HT2:Ω (∀ w1:World,Calls Tryz.prog 67 #[.string x,.int .i64 (p2:Int),.int .i64 (kn:Int),.int .i64 e,.int .i64 e] w1 fun r w'=>(∃ v,r=.returned v∧((okU x p2 Wd (e+e) kn∧∃ v1,v=.tuple #[v1,.int .i64 (p3:Int),.bool true]∧w'.ownsRow w1.heap.size 109 256 v1 kn (cq (rdS x p2 Wd e) kn))∨(¬ okU x p2 Wd (e+e) kn∧∃ zz:Int,v=.tuple #[.slice none 0 0,.int .i64 zz,.bool false])))∧Below w1.heap.size w1 w'):=⟨fun w1=>by
  have h1:=xlq x p2 kn e e w1 hk.2 (by omega) (by omega) (by omega) (by omega) (by rw[hWd,hp3];omega) hbig;unfold TK at h1;rw[hWd,hp3]at h1;exact h1⟩
 have HT3:Ω (∀ w1:World,Calls Tryz.prog 67 #[.string x,.int .i64 (p3:Int),.int .i64 (kn:Int),.int .i64 4095,.int .i64 4096] w1 fun r w'=>(∃ v,r=.returned v∧((okU x p3 13 8191 kn∧∃ (v1:Value) (zz:Int),v=.tuple #[v1,.int .i64 zz,.bool true]∧w'.ownsRow w1.heap.size 109 256 v1 kn (cq (rdS x p3 13 4096) kn))∨(¬ okU x p3 13 8191 kn∧∃ zz:Int,v=.tuple #[.slice none 0 0,.int .i64 zz,.bool false])))∧Below w1.heap.size w1 w'):=⟨fun w1=>by
  refine(xlq x p3 kn 4095 4096 w1 hk.2 (by decide) (by decide) (by decide) (by decide) (by rw[xea];omega) hbig).mono ?_;rintro r w' ⟨⟨v,rfl,hv⟩,hb⟩;unfold TK at hv;rw[xea]at hv;refine⟨⟨v,rfl,?_⟩,hb⟩;rcases hv with ⟨q1,v1,q2,q3⟩ | q
  ·exact Or.inl ⟨q1,v1,_,q2,q3⟩
  ·exact Or.inr q⟩
 have h128 : 128≤x.size:=by omega
 have h128z:(128:Int)≤(x.size:Int):=by omega
 simp only[hWd,hp2,hp3];obtain⟨R1,HR1⟩:=xaa (rdS x 128 Wd e);obtain⟨R2,HR2⟩:=xaa (rdS x p2 Wd e);obtain⟨R3,HR3⟩:=xaa (rdS x p3 13 4096);obtain⟨O1,HO1⟩:∃ P:Prop,Ω (okU x 128 Wd (e+e) ln=P):=⟨_,⟨rfl⟩⟩;obtain⟨O2,HO2⟩:∃ P:Prop,Ω (okU x p2 Wd (e+e) kn=P):=⟨_,⟨rfl⟩⟩;obtain⟨O3,HO3⟩:∃ P:Prop,Ω (okU x p3 13 8191 kn=P):=⟨_,⟨rfl⟩⟩;simp only[HR1.out,HO1.out]at HT1 ⊢;simp only[HR2.out,HO2.out]at HT2 ⊢;simp only[HR3.out,HO3.out]at HT3 ⊢;obtain⟨C,HC⟩:=xaa ((zLt (kn:Int) (ln:Int) e t a b o s):Array Value);rw[HC.out]at HS ⊢;have HCs:Ω ((Tryz.prog.info? 37).map (·.size)=some C.size):=⟨by rw[←HC.out];kernel_rfl⟩;obtain⟨W,hW⟩:=zev (w.alloc (.cells C 37));obtain⟨r0,hWs,b0⟩:=one hW;have CB:=ztb r0;have cK:Ω (∀ w':World,Below W.heap.size W w'→w'.cell? ⟨w.heap.size,0,none⟩=some (.int .i64 (kn:Int))):=⟨fun w' hb=>xab (CB.out w' hb) (by rw[←HC.out];rfl)⟩;have cL:Ω (∀ w':World,Below W.heap.size W w'→w'.cell? ⟨w.heap.size,1,none⟩=some (.int .i64 (ln:Int))):=⟨fun w' hb=>xab (CB.out w' hb) (by rw[←HC.out];rfl)⟩;have cE:Ω (∀ w':World,Below W.heap.size W w'→w'.cell? ⟨w.heap.size,2,none⟩=some (.int .i64 e)):=⟨fun w' hb=>xab (CB.out w' hb) (by rw[←HC.out];rfl)⟩;have BW:=ω b0;have HW:=ω hW;have Hk:=ω hk;have Hl:=ω hl;clear hW r0 hWs b0 h HN hx hk hl he le1 le2 le3 hsz hbig hWd hp2 hp3 HR1 HR2 HR3 HO1 HO2 HO3;go_enter Tryz.func29,Tryz.ntmps29;go_wp2_with (first
  | (rw[HW.out])
  | (refine wpList_load_row rfl 37 _ rfl w.heap.size rfl 37 _ (0,0) _ (CB.out _ (Below.refl _ _)) zZ rfl HCs.out ?_))
 refine(HS.out _).mono ?_;rintro r u1 ⟨rfl,hb1⟩;have E1:Ω (Below W.heap.size W u1):=⟨hb1⟩;have c1:=cL.out u1 hb1;have c2:=cE.out u1 hb1;clear hb1;go_wp2_with fail;refine(HT1.out _).mono ?_;rintro r u2 ⟨⟨v,rfl,hv⟩,hb2⟩;have E2:=zbt E1 hb2;clear hb2 c1 c2;rcases hv with ⟨o1,v1,rfl,q1⟩ | ⟨o1,z1,rfl⟩
 ·have Q1x:=xbx (xcc Hl.out.1 q1);obtain⟨g1,c1',rfl⟩:∃ g c,v1=.slice (some ⟨g,0,none⟩) ln c:=by obtain⟨g,c,e,-⟩:=Q1x;exact⟨g,c,e⟩
  have Q1:=ω Q1x;clear q1 Q1x;have c1:=cK.out u2 E2.out;have c2:=cE.out u2 E2.out;go_wp2_with fail;refine(HT2.out _).mono ?_;rintro r u3 ⟨⟨v,rfl,hv⟩,hb3⟩;have E3:=zbt E2 hb3;have Q1b:=ω (Q1.out.later hb3);clear hb3 c1 c2;rcases hv with ⟨o2,v2,rfl,q2⟩ | ⟨o2,z2,rfl⟩
  ·have Q2x:=xbx (xcc Hk.out.1 q2);obtain⟨g2,c2',rfl⟩:∃ g c,v2=.slice (some ⟨g,0,none⟩) kn c:=by obtain⟨g,c,e,-⟩:=Q2x;exact⟨g,c,e⟩
   have Q2:=ω Q2x;clear q2 Q2x;have c1:=cK.out u3 E3.out;go_wp2_with fail;refine(HT3.out _).mono ?_;rintro r u4 ⟨⟨v,rfl,hv⟩,hb4⟩;have E4:=zbt E3 hb4;have Q1c:=ω (Q1b.out.later hb4);have Q2c:=ω (Q2.out.later hb4);clear hb4 c1;rcases hv with ⟨o3,v3,z3,rfl,q3⟩ | ⟨o3,z3,rfl⟩
   ·have Q3x:=xbx (xcc Hk.out.1 q3);obtain⟨g3,c3',rfl⟩:∃ g c,v3=.slice (some ⟨g,0,none⟩) kn c:=by obtain⟨g,c,e,-⟩:=Q3x;exact⟨g,c,e⟩
    have Q3:=ω Q3x;clear q3 Q3x;obtain⟨W9,hW9⟩:=zev (u4.alloc (.cells #[.slice (some ⟨g1,0,none⟩) ln c1',.slice (some ⟨g2,0,none⟩) kn c2',.slice (some ⟨g3,0,none⟩) kn c3'] 67));obtain⟨r9,hs9,b9⟩:=one hW9;have R9:=ω r9;have B9:=ω b9;have HW9:=ω hW9;clear r9 hs9 b9 hW9;go_wp2_with (rw[HW9.out]);go_ret3
    exact⟨Or.inl ⟨⟨o1,o2,o3⟩,_,rfl,_,_,_,_,_,rfl,xac R9.out,xab R9.out rfl,xab R9.out rfl,xab R9.out rfl,Q1c.out.later B9.out,Q2c.out.later B9.out,Q3.out.later B9.out⟩,BW.out.trans ((E4.out.trans (B9.out.mono E4.out.size)).mono BW.out.size)⟩
   ·go_wp2_with fail;go_ret3
    exact⟨Or.inr ⟨fun q=>o3 q.2.2,rfl⟩,BW.out.trans (E4.out.mono BW.out.size)⟩
  ·go_wp2_with fail;go_ret3
   exact⟨Or.inr ⟨fun q=>o2 q.2.1,rfl⟩,BW.out.trans (E3.out.mono BW.out.size)⟩
 ·go_wp2_with fail;go_ret3
  exact⟨Or.inr ⟨fun q=>o1 q.1,rfl⟩,BW.out.trans (E2.out.mono BW.out.size)⟩
end rkse
namespace rgi
open arr mem stil polys polt pols nttl rndm saml spok rsdoc mlkm mlkb mlkd mlsm keca kstep rkpb rkrw rkse qsec helda heldb mgd mgr mgh rgd rgc bitp
open kcon (TH)
open rbitb rbitc
theorem join{G:Prop}(FACT F:Nat→Nat→Nat→World→Prop)(h:(∀ gs gm cm w9,FACT gs gm cm w9→F gs gm cm w9)→G)(h2:∀ gs gm cm w9,FACT gs gm cm w9→F gs gm cm w9):G:=h h2
theorem hk_eq{P:Program}{ops:Array Oper}{Q:Exit→Act→World→Prop}{S:World→Prop}{b b':Array Bool}{rest:List Oper}{ks:List Nat}{a:Act}{w:World}(e:b=b')(h:HK P ops Q S b rest ks a w):HK P ops Q S b' rest ks a w:=e ▸ h
def MXN(w:World)(gs:Nat)(v:Value)(R ln:Nat)(x:Nat→Nat→Nat→Int):Prop:=
 ∃ G C,v=.slice (some ⟨G,0,none⟩) R C∧G≠gs∧G<w.heap.size∧∀ r,r<R→∃ g c,w.cell? ⟨G,r,none⟩=some (.slice (some ⟨g,0,none⟩) ln c)∧g≠gs∧g<w.heap.size∧∀ j,j<ln→∀ k,k<256→w.cell? ⟨g,256*j+k,none⟩=some (.int .i64 (x r j k))
theorem MXN.mx{w:World}{gs:Nat}{v:Value}{R ln:Nat}{x:Nat→Nat→Nat→Int}(h:MXN w gs v R ln x):MX w v R (fun _=>ln) x:=by
 obtain⟨G,C,e,-,h1,h2⟩:=h;refine⟨G,C,e,h1,fun r hr=>?_⟩;obtain⟨g,c,h3,-,h4,h5⟩:=h2 r hr;exact⟨g,c,h3,h4,h5⟩
theorem MXN.of_b{w:World}{B gs:Nat}{v:Value}{R ln:Nat}{x:Nat→Nat→Nat→Int}(h:MXB w B v R ln x)(hg:gs<B∨w.heap.size≤gs):MXN w gs v R ln x:=by
 obtain⟨G,C,e,h0,h1,h2⟩:=h;refine⟨G,C,e,by omega,h1,fun r hr=>?_⟩;obtain⟨g,c,h3,h4,h5,h6⟩:=h2 r hr;exact⟨g,c,h3,by omega,h5,h6⟩
theorem MXN.later{w w':World}{gs:Nat}{v:Value}{R ln:Nat}{x:Nat→Nat→Nat→Int}(h:MXN w gs v R ln x)(hb:Below w.heap.size w w'):MXN w' gs v R ln x:=by
 obtain⟨G,C,e,h0,h1,h2⟩:=h;refine⟨G,C,e,h0,Nat.lt_of_lt_of_le h1 hb.size,fun r hr=>?_⟩;obtain⟨g,c,h3,h4,h5,h6⟩:=h2 r hr;exact⟨g,c,(hb.cell (p:=⟨G,r,none⟩) h1).trans h3,h4,Nat.lt_of_lt_of_le h5 hb.size,fun j hj k hk=>(hb.cell (p:=⟨g,256*j+k,none⟩) h5).trans (h6 j hj k hk)⟩
theorem MXN.set{w:World}{gs:Nat}{v:Value}{R ln:Nat}{x:Nat→Nat→Nat→Int}(h:MXN w gs v R ln x)(Q:Array Value):MXN (w.setRow gs Q) gs v R ln x:=by
 obtain⟨G,C,e,h0,h1,h2⟩:=h;refine⟨G,C,e,h0,by simpa [World.setRow] using h1,fun r hr=>?_⟩;obtain⟨g,c,h3,h4,h5,h6⟩:=h2 r hr;exact⟨g,c,(xhe Q ⟨G,r,none⟩ h0).trans h3,h4,by simpa [World.setRow] using h5,fun j hj i hi=>(xhe Q ⟨g,256*j+i,none⟩ h4).trans (h6 j hj i hi)⟩
theorem xhx{T:Array Value}(Z:Nat→Int)(kn ln:Nat)(e t a b o s:Int)(sk hd m r:ByteArray)(SA SB SC:Nat→Nat→Int)(w:World)(hK:KT T TL RL)(hT:nthere.ZT T Z)(h:latt (kn:Int) (ln:Int) e t a b o s=true)(hm:m.size≤100000)(hr:r.size=32)(hhd:hd.size=128)
 (HSe0:∀ w1:World,Calls Tryz.prog 29 #[.agg (zLt (kn:Int) (ln:Int) e t a b o s),.string sk] w1 fun x w'=>(∃ g c g1 c1 g2 c2 g3 c3,x=.returned (.tuple #[.string hd,.slice (some ⟨g,0,none⟩) 3 c,.int .i64 0])∧TH w' g g1 c1 g2 c2 g3 c3 ln kn SA SB SC)∧Below w1.heap.size w1 w'):
 Calls Tryz.prog 12 #[.agg T,.agg (zLt (kn:Int) (ln:Int) e t a b o s),.string sk,.string m,.string r] w (zB w (fin (tTry (sgn (fun k=>Z k%8380417) kn ln e t a b o s hd SA SB SC m r) 814 0))):=by
 obtain⟨hk,hl,-⟩:=rksz.xby h;have hk : 1≤kn∧kn≤8:=by omega
 have hl : 1≤ln∧ln≤8:=by omega
 obtain⟨S,hS⟩:∃ S,S=sgn (fun k=>Z k%8380417) kn ln e t a b o s hd SA SB SC m r:=⟨_,rfl⟩;rw[←hS];have HTz:Ω ((Tryz.prog.info? 34).map (·.size)=some T.size):=⟨by rw[hT.size];kernel_rfl⟩;obtain⟨L,HL⟩:=xaa ((zLt (kn:Int) (ln:Int) e t a b o s):Array Value);have HLs:Ω ((Tryz.prog.info? 37).map (·.size)=some L.size):=⟨by rw[←HL.out];kernel_rfl⟩;have HL1:Ω (L[1]? = some (.int .i64 (ln:Int))):=⟨by rw[←HL.out];rfl⟩;obtain⟨W,hW⟩:=zev ((w.alloc (.cells T 34)).alloc (.cells L 37));obtain⟨r0,r1,hWs,b0⟩:=two hW;have TB:Ω (∀ w':World,Below W.heap.size W w'→w'.heap[w.heap.size]? = some (.cells T 34 (0,0))∧w'.heap[w.heap.size+1]? = some (.cells L 37 (0,0))∧w'.cell? ⟨w.heap.size+1,1,none⟩=some (.int .i64 (ln:Int))):=⟨fun w' hb=>by
  have h1:=(hb.block _ (xac r1)).trans r1;exact⟨(hb.block _ (xac r0)).trans r0,h1,xab h1 HL1.out⟩⟩
 have BW:=ω b0;have HWs:=ω hWs;have HW:=ω hW;clear hW r0 r1 hWs b0;have hrz:((r.size:Int) != 32)=false:=by rw[hr];rfl
 have ekn:S.kn=kn:=by rw[hS];rfl
 have eln:S.ln=ln:=by rw[hS];rfl
 have ee:S.e=e:=by rw[hS];rfl
 have et:S.t=t:=by rw[hS];rfl
 have ea:S.a=a:=by rw[hS];rfl
 have eb:S.b=b:=by rw[hS];rfl
 have eo:S.o=o:=by rw[hS];rfl
 have es:S.s=s:=by rw[hS];rfl
 have eA:S.A=SA:=by rw[hS];rfl
 have eB:S.B=SB:=by rw[hS];rfl
 have eC:S.C=SC:=by rw[hS];rfl
 have erho:hd.extract 0 32=S.rho:=by rw[hS];rfl
 have emu:out TL RL 2 (hd.extract 64 128++m) 64=S.mu:=by rw[hS];rfl
 have ems:out TL RL 2 (hd.extract 32 64++r++S.mu) 64=S.ms:=by rw[hS];rfl
 have srho:S.rho.size=32:=by rw[←erho,size_extract _ _ _ (by omega) (by omega)]
 have smu:S.mu.size=64:=by rw[←emu];exact samc.xbt _ _ _
 have hO:OKS T Z S:=⟨by rw[ekn,eln,ee,et,ea,eb,eo,es];exact h,hT,hK,by rw[hS];rfl,smu,by rw[←ems];exact samc.xbt _ _ _,srho⟩;obtain⟨Tr,hTr⟩:=zev (hd.extract 64 128);obtain⟨Ky,hKy⟩:=zev (hd.extract 32 64);have sTr:Tr.size=64:=by rw[←hTr,size_extract _ _ _ (by omega) (by omega)]
 have sKy:Ky.size=32:=by rw[←hKy,size_extract _ _ _ (by omega) (by omega)]
 rw[hTr]at emu;rw[hKy]at ems;have HS10:∀ w1:World,Calls Tryz.prog 31 #[.agg T,.int .i64 2,.string (Tr++m),.int .i64 64] w1 (zB w1 (.tuple #[.string S.mu,.int .i64 0])):=fun w1=>by
  rw[←emu];exact rsph.xff 2 _ 64 w1 hK rfl (by decide) (by rw[ByteArray.size_append];omega)
 have HS20:∀ w1:World,Calls Tryz.prog 31 #[.agg T,.int .i64 2,.string (Ky++r++S.mu),.int .i64 64] w1 (zB w1 (.tuple #[.string S.ms,.int .i64 0])):=fun w1=>by
  rw[←ems];exact rsph.xff 2 _ 64 w1 hK rfl (by decide) (by rw[ByteArray.size_append,ByteArray.size_append];omega)
 have HMa0:∀ w1:World,Calls Tryz.prog 30 #[.agg T,.agg L,.string S.rho] w1 fun x w'=>(∃ gm cm,x=.returned (.slice (some ⟨gm,0,none⟩) kn cm)∧MXB w' w1.heap.size (.slice (some ⟨gm,0,none⟩) kn cm) kn ln (qX S.rho))∧Below w1.heap.size w1 w':=fun w1=>by
  rw[←HL.out];refine(rsdoc.matrix kn ln e t a b o s _ w1 hK h (by omega)).mono ?_;rintro x w' ⟨⟨v,vs,rfl,h1,h2⟩,hb⟩;have h3:=xn4 hk.1 h1 h2;obtain⟨gm,cm,rfl,-⟩:=id h3;exact⟨⟨gm,cm,rfl,h3⟩,hb⟩
 have HTr:Ω (∀ n:Nat,n<814→∀ (gm cm g1 c1 g2 c2 g3 c3:Nat) (w1:World),MX w1 (.slice (some ⟨gm,0,none⟩) kn cm) kn (fun _=>ln) (qX S.rho)→Holds w1 0 (.slice (some ⟨g1,0,none⟩) ln c1) ln SA→Holds w1 0 (.slice (some ⟨g2,0,none⟩) kn c2) kn SB→Holds w1 0 (.slice (some ⟨g3,0,none⟩) kn c3) kn SC→Calls Tryz.prog 32 #[.agg T,.agg (RG kn ln e t a b o s (.slice (some ⟨gm,0,none⟩) kn cm) (.slice (some ⟨g1,0,none⟩) ln c1) (.slice (some ⟨g2,0,none⟩) kn c2) (.slice (some ⟨g3,0,none⟩) kn c3) S.mu S.ms),.int .i64 ((n*ln:Nat):Int)] w1 (zB w1 (resT S n))):=⟨fun n hn gm cm g1 c1 g2 c2 g3 c3 w1 q1 q2 q3 q4=>by
  have h9:=rgc.xv4 Z n (n*S.ln) gm cm g1 c1 g2 c2 g3 c3 w1 hO hn rfl (by rw[ekn,eln];exact q1) (by rw[eln,eA];exact q2) (by rw[ekn,eB];exact q3) (by rw[ekn,eC];exact q4);rw[ekn,eln,ee,et,ea,eb,eo,es]at h9;exact h9⟩
 have HSe:Ω (∀ w1:World,Calls Tryz.prog 29 #[.agg L,.string sk] w1 fun x w'=>(∃ g c g1 c1 g2 c2 g3 c3,x=.returned (.tuple #[.string hd,.slice (some ⟨g,0,none⟩) 3 c,.int .i64 0])∧TH w' g g1 c1 g2 c2 g3 c3 ln kn SA SB SC)∧Below w1.heap.size w1 w'):=⟨fun w1=>by
  rw[←HL.out];exact HSe0 w1⟩
 have HV1:Ω (∀ n:Nat,n<814→(∀ k,k<n→tOk S k=false)→tOk S n=true→fin (tTry S 814 0)=.tuple #[.string (tSig S n),.int .i64 0]):=⟨fun n h1 h2 h3=>fin_at S n h1 h2 h3⟩;have HV2:Ω ((∀ k,k<814→tOk S k=false)→fin (tTry S 814 0)=.tuple #[.string ⟨#[]⟩,.int .i64 17]):=⟨xm6 S⟩;obtain⟨V,hV⟩:=xaa (fin (tTry S 814 0));rw[hV.out]at HV1 HV2 ⊢;obtain⟨mu,hmu⟩:=zev S.mu;obtain⟨ms,hms⟩:=zev S.ms;obtain⟨rho,hrho⟩:=zev S.rho;rw[hmu,hms,hrho]at HTr;rw[hmu]at HS10 HS20 smu;rw[hms]at HS20;rw[hrho]at HMa0 erho;have HS1:=ω HS10;have HS2:=ω HS20;have HMa:=ω HMa0;obtain⟨hz,-⟩:=zero_of_info infoRg;obtain⟨z,HZ⟩:=xaa (#[.int .i64 0,.int .i64 0,.int .i64 0,.int .i64 0,.int .i64 0,.int .i64 0,.int .i64 0,.int .i64 0,.slice none 0 0,.slice none 0 0,.slice none 0 0,.slice none 0 0,.string ⟨#[]⟩,.string ⟨#[]⟩]:Array Value);rw[HZ.out]at hz;have Hzs:Ω (z.size=14):=⟨by rw[←HZ.out];rfl⟩;have hhz:(hd.size:Int)=128:=by omega
 have x1:¬ 9223372036854775807<Tr.size+m.size:=by omega
 have x2:¬ 9223372036854775807<Ky.size+r.size:=by omega
 obtain⟨Q,hQ⟩:=zev (Ky++r);have hQs:Q.size=64:=by rw[←hQ,ByteArray.size_append];omega
 have x3:¬ 9223372036854775807<Q.size+mu.size:=by omega
 rw[hQ]at HS2;have Hl:=ω hl;rw[HL.out];clear hS ekn eln ee et ea eb eo es eA eB eC hO HSe0 hhd hr hmu hms hrho HZ hK hT h hm emu ems srho smu sTr sKy hQs HS10 HS20 HMa0 hV hk hl;go_enter Tryz.func12,Tryz.ntmps12;go_wp2_with (first
  | (rw[HW.out])
  | (refine wpList_load_row rfl 37 _ rfl (w.heap.size+1) rfl 37 _ (0,0) _ (TB.out _ (Below.refl _ _)).2.1 zZ rfl HLs.out ?_))
 refine(HSe.out _).mono ?_;rintro x u1 ⟨⟨g,c,g1,c1,g2,c2,g3,c3,rfl,hth⟩,hb1⟩;have E1:Ω (Below W.heap.size W u1):=⟨hb1⟩;have HTH:=ω hth;clear hb1 hth;go_wp2_with fail;have hu:w.heap.size+2≤u1.heap.size:=by have h1:=E1.out.size;have h2:=HWs.out;omega
 have V0:∀ w':World,Below u1.heap.size u1 w'→(w'.heap[w.heap.size]? = some (.cells T 34 (0,0))∧w'.heap[w.heap.size+1]? = some (.cells L 37 (0,0))∧w'.cell? ⟨w.heap.size+1,1,none⟩=some (.int .i64 (ln:Int)))∧TH w' g g1 c1 g2 c2 g3 c3 ln kn SA SB SC:=fun w' hb=>⟨TB.out _ (E1.out.trans (hb.mono E1.out.size)),HTH.out.later hb⟩
 refine xbe (u1.heap.size) 18 [0,1,2,3,4,6,7,8,9,10,11,12,13,14,5,16,15,17] (by kernel_rfl) rfl rfl (by decide) (fun hS ops HO=>?_);simp only[List.filterMap_cons,fa,List.getElem?_cons_succ,List.getElem?_cons_zero];refine hk_l (by rw[←HO.out];kernel_rfl) (fun _ _ _ _ h=>h) 37 _ rfl (w.heap.size+1) rfl 37 L _ (fun w1 h1=>(V0 w1 h1).1.2.1) zZ rfl HLs.out hS ?_;simp only[Act.put,pa,pb,pc];refine hk_l (by rw[←HO.out];kernel_rfl) (fun _ _ _ _ h=>h) 34 _ rfl w.heap.size rfl 34 T _ (fun w1 h1=>(V0 w1 h1).1.1) zY rfl HTz.out hS ?_;simp only[Act.put,pa,pb,pc];refine hk_l (by rw[←HO.out];kernel_rfl) (fun _ _ _ _ h=>h) 37 _ rfl (w.heap.size+1) rfl 37 L _ (fun w1 h1=>(V0 w1 h1).1.2.1) zZ rfl HLs.out hS ?_;simp only[Act.put,pa,pb,pc];iterate 4 (refine zU hS ?_)
 (refine hk_t (v:=?_) (by rw[←HO.out];kernel_rfl) (fun _ _ _ h=>h) ?_ hS ?_;rotate_left;focus (intro w9 h9;have hc:=(V0 w9 h9).2.x0;go_simp;first | done | with_reducible rfl);all_goals skip)
 simp only[Act.put,pa,pb,pc];iterate 2 (refine zU hS ?_)
 (refine hk_t (v:=?_) (by rw[←HO.out];kernel_rfl) (fun _ _ _ h=>h) ?_ hS ?_;rotate_left;focus (intro w9 h9;have hc:=(V0 w9 h9).2.x1;go_simp;first | done | with_reducible rfl);all_goals skip)
 simp only[Act.put,pa,pb,pc];iterate 2 (refine zU hS ?_)
 (refine hk_t (v:=?_) (by rw[←HO.out];kernel_rfl) (fun _ _ _ h=>h) ?_ hS ?_;rotate_left;focus (intro w9 h9;have hc:=(V0 w9 h9).2.x2;go_simp;first | done | with_reducible rfl);all_goals skip)
 simp only[Act.put,pa,pb,pc];apply join (fun gs gm cm w9=>Below u1.heap.size u1 w9∧MXN w9 gs (.slice (some ⟨gm,0,none⟩) kn cm) kn ln (qX rho)∧u1.heap.size≤gs∧w9.heap[gs]? = some (.cells z 74 (0,0)))
 ·intro HF;refine xj4 (by rw[←HO.out];kernel_rfl) (by rw[←HO.out];kernel_rfl) (by rw[←HO.out];kernel_rfl) (fun K hK=>?_) (fun K hK=>?_)
  ·go_simp
   refine(HMa.out _).mono ?_;rintro x w8 ⟨⟨gm,cm,rfl,hmx⟩,hb9⟩;have h8:=hS.trans (hb9.mono hS.size);refine hK _ _ h8 ?_;clear hK K;try simp only[Act.put,pa,pb,pc]
   refine xj2 ?_;refine hk_b (by rw[←HO.out];kernel_rfl) (fun _ _ _ _ h=>h) (.agg (RG kn ln e t a b o s (.slice (some ⟨gm,0,none⟩) kn cm) (.slice (some ⟨g1,0,none⟩) ln c1) (.slice (some ⟨g2,0,none⟩) kn c2) (.slice (some ⟨g3,0,none⟩) kn c3) ⟨#[]⟩ ⟨#[]⟩)) (fun w1=>xm3 rfl (by rw[←HL.out];rfl) rfl rfl rfl rfl w1) h8 ?_;simp only[Act.put,pa,pb,pc];refine zS fun K hK=>?_
   go_simp
   obtain⟨w9,hw9⟩:=zev (w8.alloc (.cells z 74));obtain⟨rA,sA,bA⟩:=one hw9;have h9:=zbm h8 bA;have hX:=(MXN.of_b (gs:=w8.heap.size) hmx (Or.inr (Nat.le_refl _))).later bA;have hgs:=h8.size;rw[hw9];obtain⟨gs,hgs2⟩:=zev w8.heap.size;rw[hgs2]at rA hX hgs ⊢;refine hK _ _ h9 ?_;clear hK K;try simp only[Act.put,pa,pb,pc]
   exact HF gs gm cm w9 ⟨h9,hX,hgs,rA⟩
  ·go_simp
   obtain⟨w7,hw7⟩:=zev ((u1.alloc (.cells z 74)).drew);obtain⟨rA,sA,bA⟩:=one (show u1.drew.alloc (.cells z 74)=w7 from hw7);have hA:=zbm hS bA;have lA:=xac rA;have hgs:=hS.size;rw[hw7];obtain⟨gs,hgs2⟩:=zev u1.heap.size;have hgd:u1.drew.heap.size=gs:=hgs2;rw[hgd]at rA lA;first | rw[hgd] | rw[hgs2]
   refine hK _ _ (by first | exact hA | (rw[←hgs2];exact hA)) ?_;clear hK K;try simp only[Act.put,pa,pb,pc]
   refine zS fun K hK=>?_
   go_simp
   refine(HMa.out _).mono ?_;rintro x w9 ⟨⟨gm,cm,rfl,hmx⟩,hb9⟩;have h9:=hA.trans (hb9.mono hA.size);refine hK _ _ h9 ?_;clear hK K;try simp only[Act.put,pa,pb,pc]
   refine hk_b (by rw[←HO.out];kernel_rfl) (fun _ _ _ _ h=>h) (.agg (RG kn ln e t a b o s (.slice (some ⟨gm,0,none⟩) kn cm) (.slice (some ⟨g1,0,none⟩) ln c1) (.slice (some ⟨g2,0,none⟩) kn c2) (.slice (some ⟨g3,0,none⟩) kn c3) ⟨#[]⟩ ⟨#[]⟩)) (fun w1=>xm3 rfl (by rw[←HL.out];rfl) rfl rfl rfl rfl w1) h9 ?_;simp only[Act.put,pa,pb,pc];exact hk_eq (by kernel_rfl) (HF gs gm cm w9 ⟨h9,MXN.of_b hmx (Or.inl lA),by omega,(hb9.block _ lA).trans rA⟩)
 rintro gs gm cm w9 ⟨h9,hmx,hgs,hrow⟩;clear hS;obtain⟨R,HR⟩:=xaa (RG kn ln e t a b o s (.slice (some ⟨gm,0,none⟩) kn cm) (.slice (some ⟨g1,0,none⟩) ln c1) (.slice (some ⟨g2,0,none⟩) kn c2) (.slice (some ⟨g3,0,none⟩) kn c3) ⟨#[]⟩ ⟨#[]⟩);have Ri:(Tryz.prog.info? 74).map (·.size)=some R.size:=by rw[←HR.out];kernel_rfl
 have Ro:R.all (·.oneCell')=true:=by rw[←HR.out];exact rg_one _ _ _ _ _ _ _ _ _ _ _ _ _ _ _ _ _ _ _ _ _ _
 have Rz:z.size=R.size:=by rw[Hzs.out,←HR.out];rfl
 rw[HR.out];refine zS fun K hK=>?_
 refine wp_store_row 74 _ _ rfl gs R rfl rfl 74 _ hrow Ri Rz Ro ?_;have h8:=h9.trans (below_setRow (B:=u1.heap.size) w9 gs R hgs);refine hK _ _ h8 ?_;clear hK K;refine zN ?_;obtain⟨w6,hw6⟩:=zev (w9.setRow gs R);have R6:=setRow_heap w9 gs _ R _ _ hrow;have X6:=MXN.set hmx R;rw[hw6]at R6 X6 h8 ⊢;have l6:u1.heap.size≤w6.heap.size:=h8.size;clear hmx hrow Ri Ro Rz HO h9 hw6;go_wp2_with fail;have V6:∀ w':World,Below u1.heap.size w6 w'→(w'.heap[w.heap.size]? = some (.cells T 34 (0,0))∧w'.heap[w.heap.size+1]? = some (.cells L 37 (0,0))∧w'.cell? ⟨w.heap.size+1,1,none⟩=some (.int .i64 (ln:Int)))∧TH w' g g1 c1 g2 c2 g3 c3 ln kn SA SB SC:=fun w' hb=>V0 _ (h8.trans hb)
 have l7:u1.heap.size≤w6.drew.heap.size:=l6;refine xbe (u1.heap.size) 11 [0,1,2,3,4,5,6,7,8,9,10] (by kernel_rfl) rfl rfl (by decide) (fun hS ops HO=>?_);simp only[List.filterMap_cons,fa,List.getElem?_cons_succ,List.getElem?_cons_zero];refine hk_l (by rw[←HO.out];kernel_rfl) (fun _ _ _ _ h=>h) 34 _ rfl w.heap.size rfl 34 T _ (fun w1 h1=>(V6 w1 h1).1.1) zY rfl HTz.out hS ?_;simp only[Act.put,pa,pb,pc];iterate 4 (refine zU hS ?_)
 refine zS fun K hK=>?_
 go_simp
 refine(HS1.out _).mono ?_;rintro x w9 ⟨rfl,hb9⟩;have h9:=hS.trans (hb9.mono l7);have hbq:Below w6.heap.size w6 w9:=(Below.refl _ _).drew.trans hb9;have c9:=xab ((hbq.block _ (xac R6)).trans R6) (i:=12) (v:=.string ⟨#[]⟩) (by rw[←HR.out];rfl);have X9:=X6.later hbq;have R9:=(hbq.block _ (xac R6)).trans R6;refine hK _ _ h9 ?_;clear hK K;try simp only[Act.put,pa,pb,pc]
 iterate 4 (refine zU h9 ?_)
 have fz:=frozen_of_row w9 gs 12 _ _ R9;refine zS fun K hK=>?_
 go_simp
 have eS:=setCell_eq_setRow w9 gs 12 _ _ _ (.string mu) R9;rw[eS];obtain⟨R1,HR1⟩:=xaa (RG kn ln e t a b o s (.slice (some ⟨gm,0,none⟩) kn cm) (.slice (some ⟨g1,0,none⟩) ln c1) (.slice (some ⟨g2,0,none⟩) kn c2) (.slice (some ⟨g3,0,none⟩) kn c3) mu ⟨#[]⟩);have eR1:R.setIfInBounds 12 (.string mu)=R1:=by rw[←HR.out,←HR1.out];rfl
 rw[eR1];have h10:=h9.trans (below_setRow (B:=u1.heap.size) w9 gs R1 hgs);refine hK _ _ h10 ?_;clear hK K;refine zN ?_;have R7:=setRow_heap w9 gs _ R1 _ _ R9;have X7:=MXN.set X9 R1;obtain⟨w7,hw7⟩:=zev (w9.setRow gs R1);rw[hw7]at R7 X7 h10 ⊢;have D7:Below u1.heap.size u1 w7:=h8.trans h10;have c7:=xab R7 (i:=12) (v:=.string mu) (by rw[←HR1.out];rfl);have l8:u1.heap.size≤w7.drew.heap.size:=D7.size;clear HO hS h9 hb9 hbq c9 X9 R9 fz eS eR1 hw7 h10 V6 R6 X6 l6 l7 h8;go_wp2_with fail;refine xnb (fun w'=>Below u1.heap.size u1 w'∧w'.cell? ⟨gs,12,none⟩=some (.string mu)) 14 [0,1,2,3,4,5,6,7,8,9,10,11,12,13] (by kernel_rfl) rfl rfl (by decide) (fun ops HO=>?_);simp only[List.filterMap_cons,fa,List.getElem?_cons_succ,List.getElem?_cons_zero];have hS:Below u1.heap.size u1 w7.drew∧w7.drew.cell? ⟨gs,12,none⟩=some (.string mu):=⟨D7.trans (Below.refl _ _).drew,c7⟩;refine hk_l (by rw[←HO.out];kernel_rfl) (fun _ _ _ _ h=>h) 34 _ rfl w.heap.size rfl 34 T _ (fun w1 h1=>(V0 w1 h1.1).1.1) zY rfl HTz.out hS ?_;simp only[Act.put,pa,pb,pc];iterate 5 (refine zU hS ?_)
 (refine hk_t (v:=?_) (by rw[←HO.out];kernel_rfl) (fun _ _ _ h=>h) ?_ hS ?_;rotate_left;focus (intro w9 h9;have hc:=h9.2;go_simp;first | done | with_reducible rfl);all_goals skip)
 simp only[Act.put,pa,pb,pc];refine zU hS ?_;refine zS fun K hK=>?_
 go_simp
 refine(HS2.out _).mono ?_;rintro x w9 ⟨rfl,hb9⟩;have h9:=(⟨hS.1.trans (hb9.mono l8),((hb9.cell (p:=⟨gs,12,none⟩) (xac R7)).trans c7)⟩:Below u1.heap.size u1 w9∧w9.cell? ⟨gs,12,none⟩=some (.string mu));have hbq:Below w7.heap.size w7 w9:=(Below.refl _ _).drew.trans hb9;have X9:=X7.later hbq;have R9:=(hbq.block _ (xac R7)).trans R7;have c9:=xab R9 (i:=13) (v:=.string ⟨#[]⟩) (by rw[←HR1.out];rfl);refine hK _ _ h9 ?_;clear hK K;try simp only[Act.put,pa,pb,pc]
 iterate 4 (refine zU h9 ?_)
 have fz:=frozen_of_row w9 gs 13 _ _ R9;refine zS fun K hK=>?_
 go_simp
 have eS:=setCell_eq_setRow w9 gs 13 _ _ _ (.string ms) R9;rw[eS];obtain⟨R2,HR2⟩:=xaa (RG kn ln e t a b o s (.slice (some ⟨gm,0,none⟩) kn cm) (.slice (some ⟨g1,0,none⟩) ln c1) (.slice (some ⟨g2,0,none⟩) kn c2) (.slice (some ⟨g3,0,none⟩) kn c3) mu ms);have eR2:R1.setIfInBounds 13 (.string ms)=R2:=by rw[←HR1.out,←HR2.out];rfl
 rw[eR2];have R8:=setRow_heap w9 gs _ R2 _ _ R9;have h10:Below u1.heap.size u1 (w9.setRow gs R2)∧(w9.setRow gs R2).cell? ⟨gs,12,none⟩=some (.string mu):=⟨h9.1.trans (below_setRow (B:=u1.heap.size) w9 gs R2 hgs),xab R8 (by rw[←HR2.out];rfl)⟩;refine hK _ _ h10 ?_;clear hK K;refine zN ?_;have X8:=MXN.set X9 R2;obtain⟨w8,hw8⟩:=zev (w9.setRow gs R2);rw[hw8]at R8 X8 h10 ⊢;have E8:=zbt E1 h10.1;have HR8:=ω R8;have HX8:=ω X8;have HH8:=ω (HTH.out.later h10.1);have R2i:Ω ((Tryz.prog.info? 74).map (·.size)=some R2.size):=⟨by rw[←HR2.out];kernel_rfl⟩;clear HO hS h9 hb9 hbq c9 X9 R9 fz eS eR2 hw8 h10 R8 X8 V0 R7 X7 D7 c7 l8 hz x1 x2 x3 hhz erho hTr hKy hQ;go_wp2_with fail;go_loopw [71,10,11] (fun iv s4 s5 wr=>∃ n:Nat,n≤814∧iv=.int .i64 (n:Int)∧s4=.string ⟨#[]⟩∧s5=.int .i64 0∧Ω (∀ k,k<n→tOk S k=false)∧Ω (Below w8.heap.size w8 wr)) (fun iv _ _ _=>814-(intOf iv).toNat)
 case atStart=>exact⟨0,Nat.zero_le _,rfl,rfl,rfl,⟨fun k hk=>by omega⟩,⟨Below.refl _ _⟩⟩
 case round=>
  obtain⟨n,hn,rfl,rfl,rfl,Hno,Hb⟩:=hrel;have E9:=zbt E8 Hb.out;by_cases hlt:n<814
  ·have hnz:(n:Int)<814:=by omega
   have hc:=(TB.out _ E9.out).2.2;have hRr:=ω ((Hb.out.block _ (xac HR8.out)).trans HR8.out);have hwm:IntKind.i64.wrap ((n:Int)*(ln:Int))=((n*ln:Nat):Int):=by
    have:=Nat.mul_le_mul (show n≤813 by omega) Hl.out.2;rw[←Int.natCast_mul,IntKind.wrap_i64];omega
   have HTn:=HTr.out n hlt gm cm g1 c1 g2 c2 g3 c3 wr (HX8.out.later Hb.out).mx (HH8.out.h0.later Hb.out) (HH8.out.h1.later Hb.out) (HH8.out.h2.later Hb.out);rw[HR2.out]at HTn;have Hlt:=ω hlt;by_cases hok:tOk S n=true
   ·have hVe:=ω (HV1.out n hlt Hno.out hok);have hre:resT S n=.tuple #[.string (tSig S n),.bool true]:=if_pos hok;rw[hre]at HTn;have HTn:=ω HTn;obtain⟨sg,hsg⟩:=zev (tSig S n);rw[hsg]at HTn hVe;clear hlt hok hre;go_wp2_with (first
     | (refine wpList_load_row rfl 34 _ rfl w.heap.size rfl 34 T (0,0) _ (TB.out _ E9.out).1 zY rfl HTz.out ?_)
     | (refine wpList_load_row rfl 74 _ rfl gs rfl 74 R2 (0,0) _ hRr.out Tryz.underlying74 rfl R2i.out ?_))
    refine HTn.out.mono ?_;rintro x w9 ⟨rfl,hb9⟩;have D9:Ω (Below w.heap.size w w9):=⟨BW.out.trans ((E9.out.trans (hb9.mono E9.out.size)).mono BW.out.size)⟩;clear hb9;go_wp2_with fail;try rw[Exit.noGoto_ret]
    go_ret2;exact⟨by rw[hVe.out];rfl,D9.out⟩
   ·have hre:resT S n=.tuple #[.string ⟨#[]⟩,.bool false]:=if_neg hok;rw[hre]at HTn;have HTn:=ω HTn;have Hno2:Ω (∀ k,k<n+1→tOk S k=false):=⟨fun k hk=>by
     by_cases e:k=n
     ·rw[e];exact Bool.eq_false_iff.2 hok
     ·exact Hno.out k (by omega)⟩
    clear hlt hok hre;go_wp2_with (first
     | (refine wpList_load_row rfl 34 _ rfl w.heap.size rfl 34 T (0,0) _ (TB.out _ E9.out).1 zY rfl HTz.out ?_)
     | (refine wpList_load_row rfl 74 _ rfl gs rfl 74 R2 (0,0) _ hRr.out Tryz.underlying74 rfl R2i.out ?_))
    refine HTn.out.mono ?_;rintro x w9 ⟨rfl,hb9⟩;have D9:=zbt Hb hb9;clear hb9;go_wp2_with fail;go_roundw
    case rel=>exact⟨n+1,by have:=Hlt.out;omega,by go_num,rfl,rfl,Hno2,D9⟩
    case measure=>have:=Hlt.out;simp[intOf];omega
  ·obtain rfl:n=814:=by omega
   have hVe:=ω (HV2.out Hno.out);go_wp2_with fail;try rw[Exit.noGoto_ret]
   go_ret2;exact⟨by rw[hVe.out];rfl,BW.out.trans (E9.out.mono BW.out.size)⟩
theorem xey{T:Array Value}(Z:Nat→Int)(kn ln:Nat)(e t a b o s:Int)(sk m r:ByteArray)(w:World)(hK:KT T TL RL)(hT:nthere.ZT T Z)(h:latt (kn:Int) (ln:Int) e t a b o s=true)(hm:m.size≤100000):
 Calls Tryz.prog 12 #[.agg T,.agg (zLt (kn:Int) (ln:Int) e t a b o s),.string sk,.string m,.string r] w (zB w (resI (fun k=>Z k%8380417) kn ln e t a b o s sk m r)):=by
 obtain⟨hk,hl,-⟩:=rksz.xby h;obtain⟨V,hV⟩:=xaa (resI (fun k=>Z k%8380417) kn ln e t a b o s sk m r);have HV:=hV;unfold resI at HV;rw[hV.out];have HTz:Ω ((Tryz.prog.info? 34).map (·.size)=some T.size):=⟨by rw[hT.size];kernel_rfl⟩;obtain⟨L,HL⟩:=xaa ((zLt (kn:Int) (ln:Int) e t a b o s):Array Value);have HLs:Ω ((Tryz.prog.info? 37).map (·.size)=some L.size):=⟨by rw[←HL.out];kernel_rfl⟩;obtain⟨W,hW⟩:=zev ((w.alloc (.cells T 34)).alloc (.cells L 37));obtain⟨r0,r1,hWs,b0⟩:=two hW;have TB:=ztb r0;have LB:=ztb r1;have BW:=ω b0;have HW:=ω hW;clear hW r0 r1 hWs b0 hV;by_cases hr:r.size=32
 ·rw[if_pos hr]at HV;have hrz:((r.size:Int) != 32)=false:=by rw[hr];rfl
  by_cases hsz:(sk.size:Int)=sz2 kn ln e
  ·have hhd:(sk.extract 0 128).size=128:=by
    rw[size_extract _ _ _ (by omega) ?_];have:=(kcon.xlj kn ln e sk.size).1 hsz;generalize 32*rbita.lb (2*e).toNat*ln=x at this;generalize 32*rbita.lb (2*e).toNat*kn=y at this;omega
   have HSe0:=fun w1=>rkse.xiq kn ln e t a b o s sk w1 h hsz
   by_cases hok:okK sk kn ln e
   ·rw[if_pos ⟨hsz,hok⟩]at HV;have HSe1:∀ w1:World,Calls Tryz.prog 29 #[.agg (zLt (kn:Int) (ln:Int) e t a b o s),.string sk] w1 fun x w'=>(∃ g c g1 c1 g2 c2 g3 c3,x=.returned (.tuple #[.string (sk.extract 0 128),.slice (some ⟨g,0,none⟩) 3 c,.int .i64 0])∧TH w' g g1 c1 g2 c2 g3 c3 ln kn (rdS sk 128 (rbita.lb (e+e).toNat) e) (rdS sk (128+32*rbita.lb (e+e).toNat*ln) (rbita.lb (e+e).toNat) e) (rdS sk (128+32*rbita.lb (e+e).toNat*ln+32*rbita.lb (e+e).toNat*kn) 13 4096))∧Below w1.heap.size w1 w':=fun w1=>by
     refine(HSe0 w1).mono ?_;rintro x w' ⟨⟨-,v,rfl,hv⟩ | ⟨hno,-⟩,hb⟩
     ·obtain⟨g,c,g1,c1,g2,c2,g3,c3,rfl,H⟩:=kcon.xlr hv;exact⟨⟨g,c,g1,c1,g2,c2,g3,c3,rfl,H⟩,hb⟩
     ·exact absurd hok hno
    have h9:=xhx Z kn ln e t a b o s sk (sk.extract 0 128) m r _ _ _ w hK hT h hm hr hhd HSe1;rw[←HV.out];exact h9
   ·rw[if_neg (fun hh=>hok hh.2)]at HV;have HSe:Ω (∀ w1:World,Calls Tryz.prog 29 #[.agg L,.string sk] w1 (zB w1 (.tuple #[.string ⟨#[]⟩,.slice none 0 0,.int .i64 3]))):=⟨fun w1=>by
     rw[←HL.out];refine(HSe0 w1).mono ?_;rintro x w' ⟨⟨hyes,-⟩ | ⟨-,rfl⟩,hb⟩
     ·exact absurd hyes hok
     ·exact⟨rfl,hb⟩⟩
    rw[HL.out];clear HSe0 hhd hok hsz hr hK hT h hm hk hl;go_enter Tryz.func12,Tryz.ntmps12;go_wp2_with (first
     | (rw[HW.out])
     | (refine wpList_load_row rfl 37 _ rfl (w.heap.size+1) rfl 37 _ (0,0) _ (LB.out _ (Below.refl _ _)) zZ rfl HLs.out ?_))
    refine(HSe.out _).mono ?_;rintro x u1 ⟨rfl,hb1⟩;have E1:=zbt BW hb1;clear hb1;go_wp2_with fail;go_ret2;exact⟨by rw[←HV.out];rfl,E1.out⟩
  ·rw[if_neg (fun hh=>hsz hh.1)]at HV;have HSe:Ω (∀ w1:World,Calls Tryz.prog 29 #[.agg L,.string sk] w1 (zB w1 (.tuple #[.string ⟨#[]⟩,.slice none 0 0,.int .i64 3]))):=⟨fun w1=>by
    rw[←HL.out];exact rkse.xlf (kn:Int) (ln:Int) e t a b o s sk w1 h hsz⟩
   rw[HL.out];clear hsz hr hK hT h hm hk hl;go_enter Tryz.func12,Tryz.ntmps12;go_wp2_with (first
    | (rw[HW.out])
    | (refine wpList_load_row rfl 37 _ rfl (w.heap.size+1) rfl 37 _ (0,0) _ (LB.out _ (Below.refl _ _)) zZ rfl HLs.out ?_))
   refine(HSe.out _).mono ?_;rintro x u1 ⟨rfl,hb1⟩;have E1:=zbt BW hb1;clear hb1;go_wp2_with fail;go_ret2;exact⟨by rw[←HV.out];rfl,E1.out⟩
 ·rw[if_neg hr]at HV;have hrz:((r.size:Int) != 32)=true:=by simp;omega
  rw[HL.out];clear hr hK hT h hm hk hl;go_enter Tryz.func12,Tryz.ntmps12;go_wp2_with (rw[HW.out]);go_ret2;exact⟨by rw[←HV.out];rfl,BW.out⟩
end rgi
namespace r13m
open arr mem stil rbitb rbitc
theorem xf9(c x:ByteArray)(w:World)(h : 255<c.size∨60000<x.size):
 Calls Tryz.prog 14 #[.string c,.string x] w (zE w (.tuple #[.string ⟨#[]⟩,.int .i64 5])):=by
 have h:(255:Int)<(c.size:Int)∨(¬ (255:Int)<(c.size:Int)∧(60000:Int)<(x.size:Int)):=by omega
 rcases h with h | ⟨h1,h⟩
 ·go_enter Tryz.func14,Tryz.ntmps14;go_wp2_with fail;go_ret2;exact⟨rfl,rfl⟩
 ·go_enter Tryz.func14,Tryz.ntmps14;go_wp2_with fail;go_ret2;exact⟨rfl,rfl⟩
theorem xe4(c x:ByteArray)(w:World)(h1:c.size≤255)(h2:x.size≤60000):
 Calls Tryz.prog 14 #[.string c,.string x] w (zB w (.tuple #[.string ((⟨#[0,UInt8.ofNat c.size]⟩:ByteArray)++c++x),.int .i64 0])):=by
 have n1:¬ (255:Int)<(c.size:Int):=by omega
 have n2:¬ (60000:Int)<(x.size:Int):=by omega
 obtain⟨n,hn⟩:=zev c.size;have hw:IntKind.u8.wrap (n:Int)=(n:Int):=by rw[IntKind.wrap_u8];omega
 obtain⟨W,hW⟩:=zev (w.alloc (.cells #[.int .u8 0,.int .u8 (n:Int)] 5));have r0:W.heap[w.heap.size]? = some (.cells #[.int .u8 0,.int .u8 (n:Int)] 5 (0,0)):=by rw[←hW];exact xae _ _ _ rfl
 have hb:Below w.heap.size w W:=by rw[←hW];exact xbg _ _
 have hcv:=xc6 (t:=5) (l:=[0,n]) (cap:=2) (n:=2) rfl (by simp;omega) r0;obtain⟨X,hX⟩:∃ X:ByteArray,⟨(u8s [0,n]).toArray⟩=X:=⟨_,rfl⟩;have hX2:(⟨#[0,UInt8.ofNat n]⟩:ByteArray)=X:=by rw[←hX];rfl
 have hXs:X.size=2:=by rw[←hX];rfl
 rw[hX]at hcv;rw[hn,hX2];rw[hn]at n1;have HW:=ω hW;have HB:=ω hb;clear hX hX2 r0 hb hW;go_enter Tryz.func14,Tryz.ntmps14;go_wp2_with (first | (rw[HW.out]) | fail);go_ret2;exact⟨rfl,HB.out⟩
end r13m
namespace shelfr
open Go.Shelf
def xhz:Go.Shelf.Ren:=⟨fun | 99=>51 | 105=>25 | 165=>52 | 166=>53 | 169=>55 | 170=>54 | 206=>107 | 212=>50 | 240=>108 | 241=>109 | 263=>105 | 264=>106 | 276=>154 | 277=>155 | n=>n,fun | 0=>0 | 3=>3 | 4=>4 | 5=>5 | 9=>9 | 20=>20 | 37=>49 | 46=>57 | 51=>24 | 53=>27 | 70=>97 | 72=>99 | 75=>102 | 76=>103 | 80=>106 | 109=>94 | 127=>156 | 146=>152 | 148=>154 | 164=>184 | n=>n,fun | n=>n⟩
theorem lays105:Go.Proofs.Lays.n105 Tryz.prog xhz:={
 mixed:=by kernel_rfl
 f99:=Tryz.func51.trans (congrArg some (by kernel_rfl))
 f105:=Tryz.func25.trans (congrArg some (by kernel_rfl))
 f165:=Tryz.func52.trans (congrArg some (by kernel_rfl))
 f166:=Tryz.func53.trans (congrArg some (by kernel_rfl))
 f169:=Tryz.func55.trans (congrArg some (by kernel_rfl))
 f170:=Tryz.func54.trans (congrArg some (by kernel_rfl))
 f206:=Tryz.func107.trans (congrArg some (by kernel_rfl))
 f212:=Tryz.func50.trans (congrArg some (by kernel_rfl))
 f240:=Tryz.func108.trans (congrArg some (by kernel_rfl))
 f241:=Tryz.func109.trans (congrArg some (by kernel_rfl))
 f263:=Tryz.func105.trans (congrArg some (by kernel_rfl))
 f264:=Tryz.func106.trans (congrArg some (by kernel_rfl))
 f276:=Tryz.func154.trans (congrArg some (by kernel_rfl))
 f277:=Tryz.func155.trans (congrArg some (by kernel_rfl))
 t0:=Tryz.underlying0
 a0:=Tryz.isAgg0
 z0:=Tryz.sizeOf0
 v0:=Tryz.zeroValue0
 t3:=Tryz.underlying3
 a3:=Tryz.isAgg3
 z3:=Tryz.sizeOf3
 v3:=Tryz.zeroValue3
 t4:=Tryz.underlying4
 a4:=Tryz.isAgg4
 z4:=Tryz.sizeOf4
 v4:=Tryz.zeroValue4
 t5:=Tryz.underlying5
 a5:=Tryz.isAgg5
 z5:=Tryz.sizeOf5
 v5:=Tryz.zeroValue5
 t9:=Tryz.underlying9
 a9:=Tryz.isAgg9
 z9:=Tryz.sizeOf9
 v9:=Tryz.zeroValue9
 t20:=Tryz.underlying20
 a20:=Tryz.isAgg20
 z20:=Tryz.sizeOf20
 v20:=Tryz.zeroValue20
 t37:=Tryz.underlying49
 a37:=Tryz.isAgg49
 z37:=Tryz.sizeOf49
 v37:=Tryz.zeroValue49
 t46:=Tryz.underlying57
 a46:=Tryz.isAgg57
 z46:=Tryz.sizeOf57
 v46:=Tryz.zeroValue57
 t51:=Tryz.underlying24
 a51:=Tryz.isAgg24
 z51:=Tryz.sizeOf24
 v51:=Tryz.zeroValue24
 t53:=Tryz.underlying27
 a53:=Tryz.isAgg27
 z53:=Tryz.sizeOf27
 v53:=Tryz.zeroValue27
 t70:=Tryz.underlying97
 a70:=Tryz.isAgg97
 z70:=Tryz.sizeOf97
 v70:=Tryz.zeroValue97
 t72:=Tryz.underlying99
 a72:=Tryz.isAgg99
 z72:=Tryz.sizeOf99
 v72:=Tryz.zeroValue99
 t75:=Tryz.underlying102
 a75:=Tryz.isAgg102
 z75:=Tryz.sizeOf102
 v75:=Tryz.zeroValue102
 t76:=Tryz.underlying103
 a76:=Tryz.isAgg103
 z76:=Tryz.sizeOf103
 v76:=Tryz.zeroValue103
 t109:=Tryz.underlying94
 a109:=Tryz.isAgg94
 z109:=Tryz.sizeOf94
 v109:=Tryz.zeroValue94
 t127:=Tryz.underlying156
 a127:=Tryz.isAgg156
 z127:=Tryz.sizeOf156
 v127:=Tryz.zeroValue156
 t146:=Tryz.underlying152
 a146:=Tryz.isAgg152
 z146:=Tryz.sizeOf152
 v146:=Tryz.zeroValue152
 t148:=Tryz.underlying154
 a148:=Tryz.isAgg154
 z148:=Tryz.sizeOf154
 v148:=Tryz.zeroValue154
 t164:=Tryz.underlying184
 a164:=Tryz.isAgg184
 z164:=Tryz.sizeOf184
 v164:=Tryz.zeroValue184 }
theorem extra105:Builder.Extra Tryz.prog xhz:={
 sizeBuilder:=by kernel_rfl
 liesBuilder:=by kernel_rfl
 t5:=Tryz.underlying5
 a5:=Tryz.isAgg5
 z5:=Tryz.sizeOf5
 v5:=Tryz.zeroValue5
 infoByte:=by kernel_rfl
 cellsByte:=by kernel_rfl
 sizeByte:=by kernel_rfl
 neB5:=by decide }
open Go.RowKit in
theorem repeated(s:ByteArray)(c:Nat)(w:World)(hc:c≤9223372036854775807)(hlen:s.size*c≤140737488355328):
 Calls Tryz.prog 25 #[.string s,.int .i64 c] w (zB w (.string ⟨(Lib.repeatL s.data.toList c).toArray⟩)):=Any.strings_Repeat lays105 extra105 s c w hc hlen
open Go.RowKit in
theorem writeString(B b:Nat)(bs:List Value)(s:ByteArray)(w:World)(h:Lib.IsBuilder 99 5 B b bs w)(hlen:bs.length+s.size≤140737488355328)(hBw:B≤w.heap.size):
 Calls Tryz.prog 53 #[.pointer (some ⟨b,0,none⟩),.string s] w fun e w'=>e=.returned (.tuple #[.int .i64 s.size,.nilIface])∧(Lib.BuilderAt 99 5 B b (.pointer (some ⟨b,0,none⟩)) (bs++Lib.strCells s) w'∧Below B w w'):=Any.Builder_WriteString (ρ := xhz) { lays105 with } extra105 B b bs s w h hlen hBw
open Go.RowKit in
theorem toText(B b:Nat)(l:List UInt8)(w:World)(h:Lib.IsBuilder 99 5 B b (Lib.byteCells l) w)(hBw:B≤w.heap.size):
 Calls Tryz.prog 55 #[.pointer (some ⟨b,0,none⟩)] w fun e w'=>e=.returned (.string ⟨l.toArray⟩)∧Below B w w':=Any.Builder_String_any (ρ := xhz) { lays105 with } extra105 B b l w h hBw
open Go.RowKit
open mem
theorem xmp{T e:TypeId}{B b:Nat}{bs:List Value}{w w':World}(h:Lib.IsBuilder T e B b bs w)(k:Below w.heap.size w w'):Lib.IsBuilder T e B b bs w':=by
 have key:∀ p,Lib.BuilderAt T e B b p bs w→Lib.BuilderAt T e B b p bs w':=by
  intro p h;have hl:=h.lt;obtain⟨hB,v,hbk,hown,hne⟩:=h;refine⟨hB,v,(k.block b hl).trans hbk,⟨hown.1,?_⟩,hne⟩;rcases hown.2 with h0 | ⟨g,cap,cur,h1,h2,hg,h3⟩
  ·exact Or.inl h0
  ·exact Or.inr ⟨g,cap,cur,h1,h2,(k.block g (xac hg)).trans hg,h3⟩
 rcases h with h | h
 ·exact Or.inl (key _ h)
 ·exact Or.inr (key _ h)
end shelfr
namespace rpart
open arr mem fldm fld1 rndm
theorem xkt(x g:Int)(w:World)(h:okg g=false):Calls Tryz.prog 163 #[.int .i64 x,.int .i64 g] w (zE w (.tuple #[.int .i64 0,.int .i64 0])):=by
 have Hg:=xhr g;rw[h]at Hg;go_enter Tryz.func163,Tryz.ntmps163;go_wp2_with fail;refine(Hg _).mono ?_;rintro e w1 ⟨rfl,rfl⟩;go_wp2_with fail;go_ret2;exact⟨rfl,rfl⟩
theorem xgk(x:Int)(w:World):Calls Tryz.prog 163 #[.int .i64 x,.int .i64 95232] w (zE w (.tuple #[.int .i64 (hgh 95232 x),.int .i64 (lw 95232 x)])):=by
 have hb:=xkx x;have HH:Ω (hgh 95232 x=if x%8380417-pl 95232 x=8380416 then 0 else (x%8380417-pl 95232 x) / (2*95232)):=⟨by unfold hgh;rw[if_pos xcy]⟩;have HL:Ω (lw 95232 x=if x%8380417-pl 95232 x=8380416 then pl 95232 x-1 else pl 95232 x):=⟨by unfold lw;rw[if_pos xcy]⟩;obtain⟨hv,Hhv⟩:=xaa (hgh 95232 x);obtain⟨lv,Hlv⟩:=xaa (lw 95232 x);rw[Hhv.out]at HH ⊢;rw[Hlv.out]at HL ⊢;have Hg:∀ w1:World,Calls Tryz.prog 89 #[.int .i64 95232] w1 (zE w1 (.bool true)):=fun w1=>by have h:=xhr 95232 w1;rw[xcy]at h;exact h
 have Hr:=xai x;have Hc:=xcv (x%8380417) 190464;rw[show ce 190464 (x%8380417)=pl 95232 x from rfl]at Hc;obtain⟨l,hl⟩:=xaa (pl 95232 x);rw[hl.out]at HH HL Hc hb;have hrb : 0≤x%8380417∧x%8380417<8380417:=by omega
 obtain⟨r,hr⟩:=xaa (x%8380417);rw[hr.out]at HH HL Hc hb Hr hrb;obtain⟨d,hd⟩:=zev (r-l);have f1:IntKind.i64.wrap (r-l)=d:=by rw[hd,IntKind.wrap_i64];omega
 have f2:IntKind.i64.wrap (l-1)=l-1:=zwi;rw[hd]at HH HL hb;have hdb : 0≤d∧d<8480417+95232:=by omega
 clear hd;by_cases h1:d=8380416
 ·obtain rfl:hv=0:=by rw[HH.out,if_pos h1]
  obtain rfl:lv=l-1:=by rw[HL.out,if_pos h1]
  subst h1;clear HH HL hb hr hl;go_enter Tryz.func163,Tryz.ntmps163;go_wp2_with fail;refine(Hg _).mono ?_;rintro e w1 ⟨rfl,rfl⟩;go_wp2_with fail;refine(Hr _).mono ?_;rintro e w1 ⟨rfl,rfl⟩;go_wp2_with fail;refine(Hc _).mono ?_;rintro e w1 ⟨rfl,rfl⟩;go_wp2_with fail;go_ret2;exact⟨rfl,rfl⟩
 ·have hq:d.tdiv 190464=hv:=by rw[HH.out,if_neg h1,Int.tdiv_eq_ediv_of_nonneg hdb.1];rfl
  have hq2:d / 190464=hv:=by rw[HH.out,if_neg h1];rfl
  have hw:IntKind.i64.wrap hv=hv:=by rw[←hq2,IntKind.wrap_i64];omega
  obtain rfl:lv=l:=by rw[HL.out,if_neg h1]
  have h2:(d==8380416)=false:=beq_eq_false_iff_ne.2 h1;clear HH HL hb hr hl h1;go_enter Tryz.func163,Tryz.ntmps163;go_wp2_with fail;refine(Hg _).mono ?_;rintro e w1 ⟨rfl,rfl⟩;go_wp2_with fail;refine(Hr _).mono ?_;rintro e w1 ⟨rfl,rfl⟩;go_wp2_with fail;refine(Hc _).mono ?_;rintro e w1 ⟨rfl,rfl⟩;go_wp2_with fail;go_ret2;exact⟨rfl,rfl⟩
theorem xgj(x:Int)(w:World):Calls Tryz.prog 163 #[.int .i64 x,.int .i64 261888] w (zE w (.tuple #[.int .i64 (hgh 261888 x),.int .i64 (lw 261888 x)])):=by
 have hb:=xkw x;have HH:Ω (hgh 261888 x=if x%8380417-pl 261888 x=8380416 then 0 else (x%8380417-pl 261888 x) / (2*261888)):=⟨by unfold hgh;rw[if_pos xdr]⟩;have HL:Ω (lw 261888 x=if x%8380417-pl 261888 x=8380416 then pl 261888 x-1 else pl 261888 x):=⟨by unfold lw;rw[if_pos xdr]⟩;obtain⟨hv,Hhv⟩:=xaa (hgh 261888 x);obtain⟨lv,Hlv⟩:=xaa (lw 261888 x);rw[Hhv.out]at HH ⊢;rw[Hlv.out]at HL ⊢;have Hg:∀ w1:World,Calls Tryz.prog 89 #[.int .i64 261888] w1 (zE w1 (.bool true)):=fun w1=>by have h:=xhr 261888 w1;rw[xdr]at h;exact h
 have Hr:=xai x;have Hc:=xcv (x%8380417) 523776;rw[show ce 523776 (x%8380417)=pl 261888 x from rfl]at Hc;obtain⟨l,hl⟩:=xaa (pl 261888 x);rw[hl.out]at HH HL Hc hb;have hrb : 0≤x%8380417∧x%8380417<8380417:=by omega
 obtain⟨r,hr⟩:=xaa (x%8380417);rw[hr.out]at HH HL Hc hb Hr hrb;obtain⟨d,hd⟩:=zev (r-l);have f1:IntKind.i64.wrap (r-l)=d:=by rw[hd,IntKind.wrap_i64];omega
 have f2:IntKind.i64.wrap (l-1)=l-1:=zwi;rw[hd]at HH HL hb;have hdb : 0≤d∧d<8480417+261888:=by omega
 clear hd;by_cases h1:d=8380416
 ·obtain rfl:hv=0:=by rw[HH.out,if_pos h1]
  obtain rfl:lv=l-1:=by rw[HL.out,if_pos h1]
  subst h1;clear HH HL hb hr hl;go_enter Tryz.func163,Tryz.ntmps163;go_wp2_with fail;refine(Hg _).mono ?_;rintro e w1 ⟨rfl,rfl⟩;go_wp2_with fail;refine(Hr _).mono ?_;rintro e w1 ⟨rfl,rfl⟩;go_wp2_with fail;refine(Hc _).mono ?_;rintro e w1 ⟨rfl,rfl⟩;go_wp2_with fail;go_ret2;exact⟨rfl,rfl⟩
 ·have hq:d.tdiv 523776=hv:=by rw[HH.out,if_neg h1,Int.tdiv_eq_ediv_of_nonneg hdb.1];rfl
  have hq2:d / 523776=hv:=by rw[HH.out,if_neg h1];rfl
  have hw:IntKind.i64.wrap hv=hv:=by rw[←hq2,IntKind.wrap_i64];omega
  obtain rfl:lv=l:=by rw[HL.out,if_neg h1]
  have h2:(d==8380416)=false:=beq_eq_false_iff_ne.2 h1;clear HH HL hb hr hl h1;go_enter Tryz.func163,Tryz.ntmps163;go_wp2_with fail;refine(Hg _).mono ?_;rintro e w1 ⟨rfl,rfl⟩;go_wp2_with fail;refine(Hr _).mono ?_;rintro e w1 ⟨rfl,rfl⟩;go_wp2_with fail;refine(Hc _).mono ?_;rintro e w1 ⟨rfl,rfl⟩;go_wp2_with fail;go_ret2;exact⟨rfl,rfl⟩
theorem xgl(x g:Int)(w:World):Calls Tryz.prog 163 #[.int .i64 x,.int .i64 g] w (zE w (.tuple #[.int .i64 (hgh g x),.int .i64 (lw g x)])):=by
 cases h:okg g
 ·rw[xm9 h,xnm h];exact xkt x g w h
 ·rcases xoa h with rfl | rfl
  ·exact xgk x w
  ·exact xgj x w
end rpart
end Go.Proofs.YtgahcabgmfbhdaaGreatDoor
