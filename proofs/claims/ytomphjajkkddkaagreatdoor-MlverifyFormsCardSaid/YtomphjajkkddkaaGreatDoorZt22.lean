/-
  What mlsign's prepare returns: a signer. Conditions: the tables hold the constants of the text and t
-/
import Derived.Test.YtomphjajkkddkaaGreatDoorZt21
import Derived.Test.YtomphjajkkddkaaGreatDoorZt10
import Derived.Test.YtomphjajkkddkaaGreatDoorZt16
import Derived.Test.YtomphjajkkddkaaGreatDoorZt19
import Derived.Test.YtomphjajkkddkaaGreatDoorZt15
import Derived.Test.YtomphjajkkddkaaGreatDoorZt20
import Derived.Test.YtomphjajkkddkaaGreatDoorZt08
import Derived.Test.YtomphjajkkddkaaGreatDoorZt01
set_option maxRecDepth 100000
set_option maxHeartbeats 16000000
namespace Go.Proofs.YtomphjajkkddkaaGreatDoor.mgh
set_option linter.unusedSimpArgs false
open Go Go.RowKit
open arr mem stil polys polt pols nttl rndm saml samr spok rsdoc mlkm mlkb mlsm keca kstep kturn rkpb rkrw rkse qrow helda heldb mgd mgr
open kcon (TH)
def MXB (w:World) (B:Nat) (v:Value) (R ln:Nat) (x:Nat→Nat→Nat→Int):Prop:=
 ∃ G C,v=.slice (some ⟨G,0,none⟩) R C∧B≤G∧G<w.heap.size∧∀ r,r<R→∃ g c,w.cell? ⟨G,r,none⟩=some (.slice (some ⟨g,0,none⟩) ln c)∧B≤g∧g<w.heap.size∧∀ j,j<ln→∀ k,k<256→w.cell? ⟨g,256*j+k,none⟩=some (.int .i64 (x r j k))
theorem MXB.mx {w:World} {B:Nat} {v:Value} {R ln:Nat} {x:Nat→Nat→Nat→Int} (h:MXB w B v R ln x):MX w v R (fun _=>ln) x:=by
 obtain⟨G,C,e,-,h1,h2⟩:=h
 refine⟨G,C,e,h1,fun r hr=>?_⟩
 obtain⟨g,c,h3,-,h4,h5⟩:=h2 r hr
 exact⟨g,c,h3,h4,h5⟩
theorem MXB.later {w w':World} {B:Nat} {v:Value} {R ln:Nat} {x:Nat→Nat→Nat→Int} (h:MXB w B v R ln x) (hb:Below w.heap.size w w'):MXB w' B v R ln x:=by
 obtain⟨G,C,e,h0,h1,h2⟩:=h
 refine⟨G,C,e,h0,Nat.lt_of_lt_of_le h1 hb.size,fun r hr=>?_⟩
 obtain⟨g,c,h3,h4,h5,h6⟩:=h2 r hr
 exact⟨g,c,(hb.cell (p:=⟨G,r,none⟩) h1).trans h3,h4,Nat.lt_of_lt_of_le h5 hb.size,fun j hj k hk=>(hb.cell (p:=⟨g,256*j+k,none⟩) h5).trans (h6 j hj k hk)⟩
theorem cell_set {w:World} {k:Nat} (R:Array Value) (p:Addr) (h:p.block≠k):(w.setRow k R).cell? p=w.cell? p:=by
 have hb:(w.setRow k R).heap[p.block]? = w.heap[p.block]? := setRow_other _ _ _ _ h
 unfold World.cell?
 simp only[hb]
theorem MXB.set {w:World} {B k:Nat} {v:Value} {R ln:Nat} {x:Nat→Nat→Nat→Int} (h:MXB w B v R ln x) (hk:k<B) (Q:Array Value):MXB (w.setRow k Q) B v R ln x:=by
 obtain⟨G,C,e,h0,h1,h2⟩:=h
 refine⟨G,C,e,h0,by simpa [World.setRow] using h1,fun r hr=>?_⟩
 obtain⟨g,c,h3,h4,h5,h6⟩:=h2 r hr
 exact⟨g,c,(cell_set Q ⟨G,r,none⟩ (by show G≠k;omega)).trans h3,h4,by simpa [World.setRow] using h5,fun j hj i hi=>(cell_set Q ⟨g,256*j+i,none⟩ (by show g≠k;omega)).trans (h6 j hj i hi)⟩
theorem mxb_of {w:World} {B e kn ln:Nat} {v:Value} {vs:List Value} {sk:Option Nat} {p:Nat→Nat→Nat→Int} (hk : 1≤kn) (h:w.ownsRow B e 1 v kn vs) (hr:Rowl w B sk vs ln p):MXB w B v kn ln p:=by
 obtain⟨g,cap,rfl⟩:=rbitd.owns_some (by omega) h
 refine⟨g,cap,rfl,(h.lt g rfl).1,(h.lt g rfl).2,fun r hr'=>?_⟩
 have hl:vs.length=kn:=by have:=h.1;omega
 have hv:vs[r]? = some vs[r]:=List.getElem?_eq_getElem (by omega)
 obtain⟨g2,c2,e2,h1,h2,-,h4⟩:=hr r _ hv
 refine⟨g2,c2,?_,h1,h2,h4⟩
 rw[h.cellAt r (by omega),hv,e2]
theorem prepare_any {T:Array Value} (Z:Nat→Int) (kn ln:Nat) (e t a b o s:Int) (gt g c g1 c1 g2 c2 g3 c3:Nat) (A B C:Nat→Nat→Int) (hd m r:ByteArray) (w:World) (S:Sg) (hS:S=sgn (fun k=>Z k%8380417) kn ln e t a b o s hd A B C m r) (hK:KT T TL RL) (hT:nthere.ZT T Z) (hP:Gp w) (h:latt (kn:Int) (ln:Int) e t a b o s=true) (hh:hd.size=128) (hm:m.size≤100000) (hr:r.size=32)
 (htab:w.heap[gt]? = some (.cells T 34 (0,0))) (HTH:TH w g g1 c1 g2 c2 g3 c3 ln kn A B C):
 Calls Tryz.prog 125 #[.pointer (some ⟨gt,0,none⟩),.agg #[.int .i64 (kn:Int),.int .i64 (ln:Int),.int .i64 e,.int .i64 t,.int .i64 a,.int .i64 b,.int .i64 o,.int .i64 s],.string hd,.slice (some ⟨g,0,none⟩) 3 c,.string m,.string r] w fun x w'=>(∃ gm cm ga ca gb cb gl cl,x=.returned (.agg (SG gt kn ln e t a b o s (.slice (some ⟨gm,0,none⟩) kn cm) (.slice (some ⟨ga,0,none⟩) ln ca) (.slice (some ⟨gb,0,none⟩) kn cb) (.slice (some ⟨gl,0,none⟩) kn cl) S.mu S.ms))∧MX w' (.slice (some ⟨gm,0,none⟩) kn cm) kn (fun _=>ln) (qX S.rho)∧Holds w' 0 (.slice (some ⟨ga,0,none⟩) ln ca) ln (fun i=>thereR S.ζ 8 (A i))∧Holds w' 0 (.slice (some ⟨gb,0,none⟩) kn cb) kn (fun i=>thereR S.ζ 8 (B i))∧Holds w' 0 (.slice (some ⟨gl,0,none⟩) kn cl) kn (fun i=>thereR S.ζ 8 (C i)))∧Below w.heap.size w w':=by
 obtain⟨hk,hl,-⟩:=rksz.latt_all h
 have hk : 1≤kn∧kn≤8:=by omega
 have hl : 1≤ln∧ln≤8:=by omega
 have eζ : S.ζ = fun k=>Z k%8380417:=by rw[hS];rfl
 have erho:hd.extract 0 32=S.rho:=by rw[hS];rfl
 have emu:out TL RL 2 (hd.extract 64 128++m) 64=S.mu:=by rw[hS];rfl
 have ems:out TL RL 2 (hd.extract 32 64++r++S.mu) 64=S.ms:=by rw[hS];rfl
 have srho:S.rho.size=32:=by rw[←erho,size_extract _ _ _ (by omega) (by omega)]
 have smu:S.mu.size=64:=by rw[←emu];exact samc.out_size _ _ _
 obtain⟨Tr,hTr⟩:∃ x,hd.extract 64 128=x:=⟨_,rfl⟩
 obtain⟨Ky,hKy⟩:∃ x,hd.extract 32 64=x:=⟨_,rfl⟩
 have sTr:Tr.size=64:=by rw[←hTr,size_extract _ _ _ (by omega) (by omega)]
 have sKy:Ky.size=32:=by rw[←hKy,size_extract _ _ _ (by omega) (by omega)]
 rw[hTr]at emu
 rw[hKy]at ems
 have HS10:∀ w1:World,Gp w1→w1.heap[gt]? = some (.cells T 34 (0,0))→Calls Tryz.prog 163 #[.pointer (some ⟨gt,0,none⟩),.string (Tr++m),.int .i64 64] w1 fun x w'=>x=.returned (.string S.mu)∧Below w1.heap.size w1 w':=fun w1 hg hr=>by
  rw[←emu]
  exact mga.shake_any gt _ 64 w1 hK hg hr (by decide) (by rw[ByteArray.size_append];omega)
 have HS20:∀ w1:World,Gp w1→w1.heap[gt]? = some (.cells T 34 (0,0))→Calls Tryz.prog 163 #[.pointer (some ⟨gt,0,none⟩),.string (Ky++r++S.mu),.int .i64 64] w1 fun x w'=>x=.returned (.string S.ms)∧Below w1.heap.size w1 w':=fun w1 hg hr2=>by
  rw[←ems]
  exact mga.shake_any gt _ 64 w1 hK hg hr2 (by decide) (by rw[ByteArray.size_append,ByteArray.size_append];omega)
 have HMa0:∀ w1:World,Gp w1→Calls Tryz.prog 33 #[.agg T,.agg #[.int .i64 (kn:Int),.int .i64 (ln:Int),.int .i64 e,.int .i64 t,.int .i64 a,.int .i64 b,.int .i64 o,.int .i64 s],.string S.rho] w1 fun x w'=>(∃ v,x=.returned v∧MXB w' w1.heap.size v kn ln (qX S.rho))∧Below w1.heap.size w1 w':=fun w1 hg=>by
  refine(qdoc.matrix kn ln e t a b o s _ w1 hK hg h (by omega)).mono ?_
  rintro x w' ⟨⟨v,vs,rfl,h1,h2⟩,hb⟩
  exact⟨⟨v,rfl,mxb_of hk.1 h1 h2⟩,hb⟩
 have HTf0:∀ (n:Nat) (vv:Value) (B':Nat) (y:Nat→Nat→Int) (w1:World),w1.heap[gt]? = some (.cells T 34 (0,0))→1≤n∧n≤8→Holds w1 B' vv n y→Calls Tryz.prog 164 #[.pointer (some ⟨gt,0,none⟩),vv] w1 fun e w'=>(∃ v',e=.returned v'∧Holds w' w1.heap.size v' n (fun i=>thereR S.ζ 8 (y i)))∧Below w1.heap.size w1 w':=fun n vv B' y w1 h1 h2 h3=>by
  rw[eζ]
  exact mgt.transforms_any Z gt n vv B' y w1 hT h1 h2 h3
 have HTz:Away ((Tryz.prog.info? 34).map (·.size)=some T.size):=⟨by rw[hT.size];kernel_rfl⟩
 obtain⟨hz,-⟩:=zero_of_info infoSgz
 obtain⟨z,HZ⟩:=ex_eq (#[.pointer none,.int .i64 0,.int .i64 0,.int .i64 0,.int .i64 0,.int .i64 0,.int .i64 0,.int .i64 0,.int .i64 0,.slice none 0 0,.slice none 0 0,.slice none 0 0,.slice none 0 0,.string ⟨#[]⟩,.string ⟨#[]⟩]:Array Value)
 rw[HZ.out]at hz
 have Hzs:Away (z.size=15):=⟨by rw[←HZ.out];rfl⟩
 obtain⟨L,HL⟩:=ex_eq (#[.int .i64 (kn:Int),.int .i64 (ln:Int),.int .i64 e,.int .i64 t,.int .i64 a,.int .i64 b,.int .i64 o,.int .i64 s]:Array Value)
 rw[HL.out]at HMa0 ⊢
 have HLs:Away ((Tryz.prog.info? 37).map (·.size)=some L.size):=⟨by rw[←HL.out];kernel_rfl⟩
 obtain⟨W,hW⟩:∃ x,(w.alloc (.cells L 37)).alloc (.cells z 149)=x:=⟨_,rfl⟩
 obtain⟨r0,r1,hWs,b0⟩:=two hW
 have HG:Away (∀ w':World,Below W.heap.size W w'→Gp w'∧w'.heap[gt]? = some (.cells T 34 (0,0))∧TH w' g g1 c1 g2 c2 g3 c3 ln kn A B C∧w'.heap[w.heap.size]? = some (.cells L 37 (0,0))∧w'.heap[w.heap.size+1]? = some (.cells z 149 (0,0))):=⟨fun w' hb=>by
  have k:=b0.trans (hb.mono b0.size)
  exact⟨hP.later k,(k.block _ (lt_of_row htab)).trans htab,HTH.later k,(hb.block _ (lt_of_row r0)).trans r0,(hb.block _ (lt_of_row r1)).trans r1⟩⟩
 obtain⟨mu,hmu⟩:∃ x,S.mu=x:=⟨_,rfl⟩
 obtain⟨ms,hms⟩:∃ x,S.ms=x:=⟨_,rfl⟩
 obtain⟨rho,hrho⟩:∃ x,S.rho=x:=⟨_,rfl⟩
 obtain⟨ζ,hζ⟩:∃ x,S.ζ = x:=⟨_,rfl⟩
 rw[hmu,hms,hrho,hζ]
 rw[hmu]at HS10 HS20 smu
 rw[hms]at HS20
 rw[hrho]at HMa0 erho
 rw[hζ]at HTf0
 have ltt:gt<w.heap.size:=lt_of_row htab
 have ltg:g<w.heap.size:=HTH.lt
 have HS1:=Away.mk HS10
 have HS2:=Away.mk HS20
 have HMa:=Away.mk HMa0
 have HTf:=Away.mk HTf0
 have B0:=Away.mk b0
 have HWs:=Away.mk hWs
 have HW:=Away.mk hW
 have HTH0:=Away.mk HTH
 have Ltt:=Away.mk ltt
 have Ltg:=Away.mk ltg
 have Hk:=Away.mk hk
 have Hl:=Away.mk hl
 have hhz:(hd.size:Int)=128:=by omega
 have x1:¬ 9223372036854775807<Tr.size+m.size:=by omega
 have x2:¬ 9223372036854775807<Ky.size+r.size:=by omega
 obtain⟨Q,hQ⟩:∃ x,Ky++r=x:=⟨_,rfl⟩
 have hQs:Q.size=64:=by rw[←hQ,ByteArray.size_append];omega
 have x3:¬ 9223372036854775807<Q.size+mu.size:=by omega
 rw[hQ]at HS2
 clear HS10 HS20 HMa0 HTf0 r0 r1 hWs b0 hW htab HTH hK hT hP h hS eζ emu ems srho smu sTr sKy hm hr hmu hms hrho hζ hQs ltt ltg hk hl HZ
 go_enter Tryz.func125,Tryz.ntmps125
 go_wp2_with (rw[HW.out])
 refine still_all (by kernel_rfl) (by kernel_rfl) ?_
 repeat still_step
 refine wpStill_nil ?_
 clear erho hTr hKy hhz hh
 have D1:Away (Below W.heap.size W W.drew):=⟨(Below.refl _ _).drew⟩
 go_wp2_with fail
 refine(HS1.out _ (HG.out _ D1.out).1 (HG.out _ D1.out).2.1).mono ?_
 rintro x w2 ⟨rfl,hb2⟩
 have E2:Away (Below W.heap.size W w2):=⟨D1.out.trans (hb2.mono D1.out.size)⟩
 clear hb2 x1
 go_wp2_with fail
 have F2:=HG.out _ E2.out
 have hw2:w.heap.size+2≤w2.heap.size:=by have h1:=E2.out.size;have h2:=HWs.out;omega
 have U0:∀ w':World,Below w2.heap.size w2 w'→Below W.heap.size W w':=fun w' hb=>E2.out.trans (hb.mono E2.out.size)
 refine hk_begin (w.heap.size+1) 33 [0,1,2,3,4,5,6,8,9,10,11,13,14,15,16,18,19,20,21,23,24,25,26,27,28,29,7,12,17,22,30,31,32] (by kernel_rfl) rfl rfl (by decide) (fun hS ops HO=>?_)
 simp only[List.filterMap_cons,fa,List.getElem?_cons_succ,List.getElem?_cons_zero]
 have V0:∀ w':World,Below (w.heap.size+1) w2 w'→w'.heap[w.heap.size]? = some (.cells L 37 (0,0))∧w'.heap[gt]? = some (.cells T 34 (0,0))∧w'.cell? ⟨g,0,none⟩=some (.slice (some ⟨g1,0,none⟩) ln c1)∧w'.cell? ⟨g,1,none⟩=some (.slice (some ⟨g2,0,none⟩) kn c2)∧w'.cell? ⟨g,2,none⟩=some (.slice (some ⟨g3,0,none⟩) kn c3):=fun w' hb=>by
  have l1:=Ltg.out
  have l2:=Ltt.out
  exact⟨(hb.block _ (by omega)).trans F2.2.2.2.1,(hb.block _ (by omega)).trans F2.2.1,(hb.cell (p:=⟨g,0,none⟩) (Nat.lt_succ_of_lt l1)).trans F2.2.2.1.x0,(hb.cell (p:=⟨g,1,none⟩) (Nat.lt_succ_of_lt l1)).trans F2.2.2.1.x1,(hb.cell (p:=⟨g,2,none⟩) (Nat.lt_succ_of_lt l1)).trans F2.2.2.1.x2⟩
 (refine hk_t (v:=?_) (by rw[←HO.out];kernel_rfl) (fun _ _ _ h=>h) ?_ hS ?_;rotate_left;focus (intro w9 h9;go_simp;first | done | with_reducible rfl);all_goals skip)
 simp only[Act.put,pa,pb,pc]
 refine hk_l (by rw[←HO.out];kernel_rfl) (fun _ _ _ _ h=>h) 37 _ rfl w.heap.size rfl 37 L _ (fun w1 h1=>(V0 w1 h1).1) Tryz.underlying37 rfl HLs.out hS ?_
 iterate 2 (simp only[Act.put,pa,pb,pc];(refine hk_t (v:=?_) (by rw[←HO.out];kernel_rfl) (fun _ _ _ h=>h) ?_ hS ?_;rotate_left;focus (intro w9 h9;go_simp;first | done | with_reducible rfl);all_goals skip))
 simp only[Act.put,pa,pb,pc]
 refine hk_l (by rw[←HO.out];kernel_rfl) (fun _ _ _ _ h=>h) 34 _ rfl gt rfl 34 T _ (fun w1 h1=>(V0 w1 h1).2.1) Tryz.underlying34 rfl HTz.out hS ?_
 simp only[Act.put,pa,pb,pc]
 refine hk_l (by rw[←HO.out];kernel_rfl) (fun _ _ _ _ h=>h) 37 _ rfl w.heap.size rfl 37 L _ (fun w1 h1=>(V0 w1 h1).1) Tryz.underlying37 rfl HLs.out hS ?_
 iterate 4 (simp only[Act.put,pa,pb,pc];(refine hk_t (v:=?_) (by rw[←HO.out];kernel_rfl) (fun _ _ _ h=>h) ?_ hS ?_;rotate_left;focus (intro w9 h9;go_simp;first | done | with_reducible rfl);all_goals skip))
 simp only[Act.put,pa,pb,pc]
 (refine hk_t (v:=?_) (by rw[←HO.out];kernel_rfl) (fun _ _ _ h=>h) ?_ hS ?_;rotate_left;focus (intro w9 h9;have hc:=(V0 w9 h9).2.2.1;go_simp;first | done | with_reducible rfl);all_goals skip)
 iterate 3 (simp only[Act.put,pa,pb,pc];(refine hk_t (v:=?_) (by rw[←HO.out];kernel_rfl) (fun _ _ _ h=>h) ?_ hS ?_;rotate_left;focus (intro w9 h9;go_simp;first | done | with_reducible rfl);all_goals skip))
 simp only[Act.put,pa,pb,pc]
 (refine hk_t (v:=?_) (by rw[←HO.out];kernel_rfl) (fun _ _ _ h=>h) ?_ hS ?_;rotate_left;focus (intro w9 h9;have hc:=(V0 w9 h9).2.2.2.1;go_simp;first | done | with_reducible rfl);all_goals skip)
 iterate 3 (simp only[Act.put,pa,pb,pc];(refine hk_t (v:=?_) (by rw[←HO.out];kernel_rfl) (fun _ _ _ h=>h) ?_ hS ?_;rotate_left;focus (intro w9 h9;go_simp;first | done | with_reducible rfl);all_goals skip))
 simp only[Act.put,pa,pb,pc]
 (refine hk_t (v:=?_) (by rw[←HO.out];kernel_rfl) (fun _ _ _ h=>h) ?_ hS ?_;rotate_left;focus (intro w9 h9;have hc:=(V0 w9 h9).2.2.2.2;go_simp;first | done | with_reducible rfl);all_goals skip)
 iterate 7 (simp only[Act.put,pa,pb,pc];(refine hk_t (v:=?_) (by rw[←HO.out];kernel_rfl) (fun _ _ _ h=>h) ?_ hS ?_;rotate_left;focus (intro w9 h9;go_simp;first | done | with_reducible rfl);all_goals skip))
 simp only[Act.put,pa,pb,pc]
 have hd2:Below w2.heap.size w2 w2.drew:=(Below.refl _ _).drew
 refine hk_s (by rw[←HO.out];kernel_rfl) (fun K hK=>?_)
 go_simp
 refine(HMa.out _ (HG.out _ (U0 _ hd2)).1).mono ?_
 rintro x w3 ⟨⟨vm,rfl,hm⟩,hb3⟩
 have h3:=hS.trans (hb3.mono (Nat.le_trans (Nat.le_of_succ_le hw2) hd2.size))
 have k3:Below w2.heap.size w2 w3:=hd2.trans (hb3.mono hd2.size)
 obtain⟨gm,cm,rfl,hgm⟩:∃ gm cm,vm=.slice (some ⟨gm,0,none⟩) kn cm∧True:=by obtain⟨G,C,e,-⟩:=hm;exact⟨G,C,e,trivial⟩
 refine hK _ _ h3 ?_
 clear hK K
 try simp only[Act.put,pa,pb,pc]
 refine hk_s (by rw[←HO.out];kernel_rfl) (fun K hK=>?_)
 go_simp
 refine(HTf.out ln _ _ _ _ (HG.out _ (U0 _ k3)).2.1 Hl.out (F2.2.2.1.h0.later k3)).mono ?_
 rintro x w4 ⟨⟨va,rfl,ha⟩,hb4⟩
 have h4:=h3.trans (hb4.mono (Nat.le_trans (Nat.le_of_succ_le hw2) k3.size))
 have k4:Below w2.heap.size w2 w4:=k3.trans (hb4.mono k3.size)
 obtain⟨ga,ca,rfl,-⟩:=hd_any ha
 refine hK _ _ h4 ?_
 clear hK K
 try simp only[Act.put,pa,pb,pc]
 refine hk_s (by rw[←HO.out];kernel_rfl) (fun K hK=>?_)
 go_simp
 refine(HTf.out kn _ _ _ _ (HG.out _ (U0 _ k4)).2.1 Hk.out (F2.2.2.1.h1.later k4)).mono ?_
 rintro x w5 ⟨⟨vb,rfl,hb⟩,hb5⟩
 have h5:=h4.trans (hb5.mono (Nat.le_trans (Nat.le_of_succ_le hw2) k4.size))
 have k5:Below w2.heap.size w2 w5:=k4.trans (hb5.mono k4.size)
 obtain⟨gb,cb,rfl,-⟩:=hd_any hb
 refine hK _ _ h5 ?_
 clear hK K
 try simp only[Act.put,pa,pb,pc]
 refine hk_s (by rw[←HO.out];kernel_rfl) (fun K hK=>?_)
 go_simp
 refine(HTf.out kn _ _ _ _ (HG.out _ (U0 _ k5)).2.1 Hk.out (F2.2.2.1.h2.later k5)).mono ?_
 rintro x w6 ⟨⟨vl,rfl,hl⟩,hb6⟩
 have h6:=h5.trans (hb6.mono (Nat.le_trans (Nat.le_of_succ_le hw2) k5.size))
 have k6:Below w2.heap.size w2 w6:=k5.trans (hb6.mono k5.size)
 obtain⟨gl,cl,rfl,-⟩:=hd_any hl
 refine hK _ _ h6 ?_
 clear hK K
 try simp only[Act.put,pa,pb,pc]
 refine hk_s (by rw[←HO.out];kernel_rfl) (fun K hK=>?_)
 go_simp
 refine(HS2.out _ (HG.out _ (U0 _ k6)).1 (HG.out _ (U0 _ k6)).2.1).mono ?_
 rintro x w7 ⟨rfl,hb7⟩
 have h7:=h6.trans (hb7.mono (Nat.le_trans (Nat.le_of_succ_le hw2) k6.size))
 have k7:Below w2.heap.size w2 w7:=k6.trans (hb7.mono k6.size)
 refine hK _ _ h7 ?_
 clear hK K
 try simp only[Act.put,pa,pb,pc]
 refine hk_b (by rw[←HO.out];kernel_rfl) (fun _ _ _ _ h=>h) (.agg (SG gt kn ln e t a b o s (.slice (some ⟨gm,0,none⟩) kn cm) (.slice (some ⟨ga,0,none⟩) ln ca) (.slice (some ⟨gb,0,none⟩) kn cb) (.slice (some ⟨gl,0,none⟩) kn cl) mu ms)) (fun w1=>exec_sg rfl rfl (by rw[HL.out];rfl) rfl rfl rfl rfl rfl rfl w1) h7 ?_
 simp only[Act.put,pa,pb,pc]
 have R7:=(HG.out _ (U0 _ k7)).2.2.2.2
 obtain⟨R,HR⟩:=ex_eq (SG gt kn ln e t a b o s (.slice (some ⟨gm,0,none⟩) kn cm) (.slice (some ⟨ga,0,none⟩) ln ca) (.slice (some ⟨gb,0,none⟩) kn cb) (.slice (some ⟨gl,0,none⟩) kn cl) mu ms)
 have Ri:(Tryz.prog.info? 149).map (·.size)=some R.size:=by rw[←HR.out];exact infoSg
 have Ro:R.all (·.oneCell')=true:=by rw[←HR.out];exact sg_one _ _ _ _ _ _ _ _ _ _ _ _ _ _ _ _ _ _ _ _ _ _ _
 have Rz:z.size=R.size:=by rw[Hzs.out,←HR.out];rfl
 rw[HR.out]
 refine hk_s (by rw[←HO.out];kernel_rfl) (fun K hK=>?_)
 refine wp_store_row 149 _ _ rfl (w.heap.size+1) R rfl rfl 149 _ R7 Ri Rz Ro ?_
 have h8:=h7.trans (below_setRow (B:=w.heap.size+1) w7 (w.heap.size+1) R (Nat.le_refl _))
 refine hK _ _ h8 ?_
 clear hK K
 refine hk_nil (by rw[←HO.out];kernel_rfl) ?_
 have s0:w.heap.size+1<w2.drew.heap.size:=hw2
 have kk:∀ {x:World},Below w2.heap.size w2 x→w.heap.size+1<x.heap.size:=fun hb=>Nat.lt_of_lt_of_le hw2 hb.size
 have q1:=(MXB.set (hm.later (hb4.trans ((hb5.trans ((hb6.trans (hb7.mono hb6.size)).mono hb5.size)).mono hb4.size))) s0 R).mx
 have q2:=rkse.holds_base (holds_set (ha.later (hb5.trans ((hb6.trans (hb7.mono hb6.size)).mono hb5.size))) (kk k3) R)
 have q3:=rkse.holds_base (holds_set (hb.later (hb6.trans (hb7.mono hb6.size))) (kk k4) R)
 have q4:=rkse.holds_base (holds_set (hl.later hb7) (kk k5) R)
 have bw2:Below w.heap.size w w2:=B0.out.trans (E2.out.mono B0.out.size)
 go_wp2_with fail
 refine bodyPost_ret_by (v:=.agg R) (results_cell_row rfl _ _ (w.heap.size+1) 149 _ (0,0) _ rfl (setRow_heap _ _ _ _ _ _ R7) Tryz.underlying149 rfl Ri) rfl ?_
 exact⟨⟨gm,cm,ga,ca,gb,cb,gl,cl,by rw[HR.out],q1,q2,q3,q4⟩,bw2.trans (h8.mono (Nat.le_succ _))⟩
end Go.Proofs.YtomphjajkkddkaaGreatDoor.mgh
namespace Go.Proofs.YtomphjajkkddkaaGreatDoor.mgi
set_option linter.unusedSimpArgs false
open Go Go.RowKit
open arr mem stil polys polt pols nttl rndm saml samr spok rsdoc mlkm mlkb mlsm keca kstep kturn rkpb rkrw rkse rbitb rbitc qrow mgd mgr
open kcon (TH)
theorem loop_len (bs:ByteArray):∀ (k i:Nat) (r:List UInt8),bs.size-i=k→(ByteArray.toList.loop bs i r).length=k+r.length
 | 0,i,r,h=>by rw[ByteArray.toList.loop,if_neg (by omega)];simp
 | k+1,i,r,h=>by rw[ByteArray.toList.loop,if_pos (by omega),loop_len bs k (i+1) _ (by omega),List.length_cons];omega
theorem not_empty (r:ByteArray) (h : 0<r.size):r.toList.isEmpty=false:=by
 have h1:r.toList.length=r.size:=by rw[ByteArray.toList,loop_len r r.size 0 [] rfl];simp
 cases e:r.toList with
 | nil=>rw[e]at h1;simp at h1;omega
 | cons a l=>rfl
theorem message_bad (c x:ByteArray) (w:World) (h : 255<c.size∨60000<x.size):
 Calls Tryz.prog 27 #[.string c,.string x] w fun e w'=>e=.returned (.tuple #[.string ⟨#[]⟩,.int .i64 5])∧w'=w:=by
 have h:(255:Int)<(c.size:Int)∨(¬ (255:Int)<(c.size:Int)∧(60000:Int)<(x.size:Int)):=by omega
 rcases h with h | ⟨h1,h⟩
 ·go_enter Tryz.func27,Tryz.ntmps27
  go_wp2_with fail
  go_ret2
  exact⟨rfl,rfl⟩
 ·go_enter Tryz.func27,Tryz.ntmps27
  go_wp2_with fail
  go_ret2
  exact⟨rfl,rfl⟩
theorem message_good (c x:ByteArray) (w:World) (h1:c.size≤255) (h2:x.size≤60000):
 Calls Tryz.prog 27 #[.string c,.string x] w fun e w'=>e=.returned (.tuple #[.string ((⟨#[0,UInt8.ofNat c.size]⟩:ByteArray)++c++x),.int .i64 0])∧Below w.heap.size w w':=by
 have n1:¬ (255:Int)<(c.size:Int):=by omega
 have n2:¬ (60000:Int)<(x.size:Int):=by omega
 obtain⟨n,hn⟩:∃ n,c.size=n:=⟨_,rfl⟩
 have hw:IntKind.u8.wrap (n:Int)=(n:Int):=by rw[IntKind.wrap_u8];omega
 obtain⟨W,hW⟩:∃ y,w.alloc (.cells #[.int .u8 0,.int .u8 (n:Int)] 5)=y:=⟨_,rfl⟩
 have r0:W.heap[w.heap.size]? = some (.cells #[.int .u8 0,.int .u8 (n:Int)] 5 (0,0)):=by rw[←hW];exact heap_at _ _ _ rfl
 have hb:Below w.heap.size w W:=by rw[←hW];exact below_alloc _ _
 have hcv:=conv_lk (t:=5) (l:=[0,n]) (cap:=2) (n:=2) rfl (by simp;omega) r0
 obtain⟨X,hX⟩:∃ X:ByteArray,⟨(u8s [0,n]).toArray⟩=X:=⟨_,rfl⟩
 have hX2:(⟨#[0,UInt8.ofNat n]⟩:ByteArray)=X:=by rw[←hX];rfl
 have hXs:X.size=2:=by rw[←hX];rfl
 rw[hX]at hcv
 rw[hn,hX2]
 rw[hn]at n1
 have HW:=Away.mk hW
 have HB:=Away.mk hb
 clear hX hX2 r0 hb hW
 go_enter Tryz.func27,Tryz.ntmps27
 go_wp2_with (first | (rw[HW.out]) | fail)
 go_ret2
 exact⟨rfl,HB.out⟩
theorem inner_of {T:Array Value} (Z:Nat→Int) (kn ln:Nat) (e t a b o s:Int) (sk hd m r:ByteArray) (SA SB SC:Nat→Nat→Int) (w:World) (hK:KT T TL RL) (hT:nthere.ZT T Z) (hP:Gp w) (h:latt (kn:Int) (ln:Int) e t a b o s=true) (hm:m.size≤100000) (hr:r.size=32) (hhd:hd.size=128)
 (HSe0:∀ w1:World,Calls Tryz.prog 124 #[.agg #[.int .i64 (kn:Int),.int .i64 (ln:Int),.int .i64 e,.int .i64 t,.int .i64 a,.int .i64 b,.int .i64 o,.int .i64 s],.string sk] w1 fun x w'=>(∃ g c g1 c1 g2 c2 g3 c3,x=.returned (.tuple #[.string hd,.slice (some ⟨g,0,none⟩) 3 c,.int .i64 0])∧TH w' g g1 c1 g2 c2 g3 c3 ln kn SA SB SC)∧Below w1.heap.size w1 w'):
 Calls Tryz.prog 68 #[.agg T,.agg #[.int .i64 (kn:Int),.int .i64 (ln:Int),.int .i64 e,.int .i64 t,.int .i64 a,.int .i64 b,.int .i64 o,.int .i64 s],.string sk,.string m,.string r] w fun x w'=>x=.returned (fin (tTry (sgn (fun k=>Z k%8380417) kn ln e t a b o s hd SA SB SC m r) 814 0))∧Below w.heap.size w w':=by
 obtain⟨S,hS⟩:∃ S,S=sgn (fun k=>Z k%8380417) kn ln e t a b o s hd SA SB SC m r:=⟨_,rfl⟩
 rw[←hS]
 have HTz:Away ((Tryz.prog.info? 34).map (·.size)=some T.size):=⟨by rw[hT.size];kernel_rfl⟩
 obtain⟨L,HL⟩:=ex_eq (#[.int .i64 (kn:Int),.int .i64 (ln:Int),.int .i64 e,.int .i64 t,.int .i64 a,.int .i64 b,.int .i64 o,.int .i64 s]:Array Value)
 have HLs:Away ((Tryz.prog.info? 37).map (·.size)=some L.size):=⟨by rw[←HL.out];kernel_rfl⟩
 obtain⟨W,hW⟩:∃ x,(w.alloc (.cells T 34)).alloc (.cells L 37)=x:=⟨_,rfl⟩
 obtain⟨r0,r1,hWs,b0⟩:=two hW
 have TB:Away (∀ w':World,Below W.heap.size W w'→w'.heap[w.heap.size]? = some (.cells T 34 (0,0))):=⟨fun w' hb=>(hb.block _ (lt_of_row r0)).trans r0⟩
 have LB:Away (∀ w':World,Below W.heap.size W w'→w'.heap[w.heap.size+1]? = some (.cells L 37 (0,0))):=⟨fun w' hb=>(hb.block _ (lt_of_row r1)).trans r1⟩
 have GP:Away (∀ w':World,Below W.heap.size W w'→Gp w'):=⟨fun w' hb=>hP.later (b0.trans (hb.mono b0.size))⟩
 have BW:=Away.mk b0
 have HW:=Away.mk hW
 clear hW r0 r1 hWs b0 hP
 have hrz:((r.size:Int) != 32)=false:=by rw[hr];rfl
 obtain⟨V,hV⟩:=ex_eq (fin (tTry S 814 0))
 have HV:=hV
 rw[hV.out]
 have ekn:S.kn=kn:=by rw[hS];rfl
 have eln:S.ln=ln:=by rw[hS];rfl
 have ee:S.e=e:=by rw[hS];rfl
 have et:S.t=t:=by rw[hS];rfl
 have ea:S.a=a:=by rw[hS];rfl
 have eb:S.b=b:=by rw[hS];rfl
 have eo:S.o=o:=by rw[hS];rfl
 have es:S.s=s:=by rw[hS];rfl
 have eA:S.A=SA:=by rw[hS];rfl
 have eB:S.B=SB:=by rw[hS];rfl
 have eC:S.C=SC:=by rw[hS];rfl
 have hO:OKS T Z S:=⟨by rw[ekn,eln,ee,et,ea,eb,eo,es];exact h,hT,hK,by rw[hS];rfl,by rw[hS];exact samc.out_size _ _ _,by rw[hS];exact samc.out_size _ _ _,by
  rw[show S.rho=hd.extract 0 32 by rw[hS];rfl,size_extract _ _ _ (by omega) (by omega)]⟩
 have HSe:Away (∀ w1:World,Calls Tryz.prog 124 #[.agg L,.string sk] w1 fun x w'=>(∃ g c g1 c1 g2 c2 g3 c3,x=.returned (.tuple #[.string hd,.slice (some ⟨g,0,none⟩) 3 c,.int .i64 0])∧TH w' g g1 c1 g2 c2 g3 c3 ln kn S.A S.B S.C)∧Below w1.heap.size w1 w'):=⟨fun w1=>by
  rw[←HL.out,eA,eB,eC]
  exact HSe0 w1⟩
 have HPr:Away (∀ (gt g c g1 c1 g2 c2 g3 c3:Nat) (w1:World),Gp w1→w1.heap[gt]? = some (.cells T 34 (0,0))→TH w1 g g1 c1 g2 c2 g3 c3 ln kn S.A S.B S.C→Calls Tryz.prog 125 #[.pointer (some ⟨gt,0,none⟩),.agg L,.string hd,.slice (some ⟨g,0,none⟩) 3 c,.string m,.string r] w1 fun x w'=>(∃ gm cm ga ca gb cb gl cl,x=.returned (.agg (SG gt kn ln e t a b o s (.slice (some ⟨gm,0,none⟩) kn cm) (.slice (some ⟨ga,0,none⟩) ln ca) (.slice (some ⟨gb,0,none⟩) kn cb) (.slice (some ⟨gl,0,none⟩) kn cl) S.mu S.ms))∧MX w' (.slice (some ⟨gm,0,none⟩) kn cm) kn (fun _=>ln) (qX S.rho)∧Holds w' 0 (.slice (some ⟨ga,0,none⟩) ln ca) ln (fun i=>thereR S.ζ 8 (S.A i))∧Holds w' 0 (.slice (some ⟨gb,0,none⟩) kn cb) kn (fun i=>thereR S.ζ 8 (S.B i))∧Holds w' 0 (.slice (some ⟨gl,0,none⟩) kn cl) kn (fun i=>thereR S.ζ 8 (S.C i)))∧Below w1.heap.size w1 w'):=⟨fun gt g c g1 c1 g2 c2 g3 c3 w1 q1 q2 q3=>by
  rw[←HL.out]
  exact mgh.prepare_any Z kn ln e t a b o s gt g c g1 c1 g2 c2 g3 c3 S.A S.B S.C hd m r w1 S (by rw[eA,eB,eC];exact hS) hK hT q1 h hhd hm hr q2 q3⟩
 have HSi:Away (∀ (gs gt gm cm ga ca gb cb gl cl:Nat) (w1:World),Gp w1→SGN T S gs gt gm cm ga ca gb cb gl cl w1→Calls Tryz.prog 126 #[.pointer (some ⟨gs,0,none⟩)] w1 fun e w'=>e=.returned V∧Below w1.heap.size w1 w'):=⟨fun gs gt gm cm ga ca gb cb gl cl w1 q1 q2=>by rw[←HV.out];exact mgg.sign_any Z gs gt gm cm ga ca gb cb gl cl w1 hO q1 q2⟩
 have HSGN:Away (∀ (w1:World) (gs gm cm ga ca gb cb gl cl:Nat),w1.heap[gs]? = some (.cells (SG w.heap.size kn ln e t a b o s (.slice (some ⟨gm,0,none⟩) kn cm) (.slice (some ⟨ga,0,none⟩) ln ca) (.slice (some ⟨gb,0,none⟩) kn cb) (.slice (some ⟨gl,0,none⟩) kn cl) S.mu S.ms) 149 (0,0))→w1.heap[w.heap.size]? = some (.cells T 34 (0,0))→MX w1 (.slice (some ⟨gm,0,none⟩) kn cm) kn (fun _=>ln) (qX S.rho)→Holds w1 0 (.slice (some ⟨ga,0,none⟩) ln ca) ln (fun i=>thereR S.ζ 8 (S.A i))→Holds w1 0 (.slice (some ⟨gb,0,none⟩) kn cb) kn (fun i=>thereR S.ζ 8 (S.B i))→Holds w1 0 (.slice (some ⟨gl,0,none⟩) kn cl) kn (fun i=>thereR S.ζ 8 (S.C i))→SGN T S gs w.heap.size gm cm ga ca gb cb gl cl w1):=⟨fun w1 gs gm cm ga ca gb cb gl cl q1 q2 q3 q4 q5 q6=>⟨by rw[ekn,eln,ee,et,ea,eb,eo,es];exact q1,q2,by rw[ekn,eln];exact q3,by rw[eln];exact q4,by rw[ekn];exact q5,by rw[ekn];exact q6⟩⟩
 obtain⟨V1,V2,hV12⟩:=fin_two (tTry S 814 0)
 have hV3:V=.tuple #[.string V1,.int .i64 V2]:=by rw[←HV.out];exact hV12
 subst hV3
 obtain⟨mu,hmu⟩:∃ x,S.mu=x:=⟨_,rfl⟩
 obtain⟨ms,hms⟩:∃ x,S.ms=x:=⟨_,rfl⟩
 rw[hmu,hms]at HPr HSGN
 obtain⟨hz,-⟩:=zero_of_info infoSgz
 obtain⟨z,HZ⟩:=ex_eq (#[.pointer none,.int .i64 0,.int .i64 0,.int .i64 0,.int .i64 0,.int .i64 0,.int .i64 0,.int .i64 0,.int .i64 0,.slice none 0 0,.slice none 0 0,.slice none 0 0,.slice none 0 0,.string ⟨#[]⟩,.string ⟨#[]⟩]:Array Value)
 rw[HZ.out]at hz
 have Hzs:Away (z.size=15):=⟨by rw[←HZ.out];rfl⟩
 rw[HL.out]
 clear hS ekn eln ee et ea eb eo es eA eB eC hO HSe0 hhd hr hmu hms HZ HV hV hV12 hK hT h hm
 go_enter Tryz.func68,Tryz.ntmps68
 go_wp2_with (first
  | (rw[HW.out])
  | (refine wpList_load_row rfl 37 _ rfl (w.heap.size+1) rfl 37 _ (0,0) _ (LB.out _ (Below.refl _ _)) Tryz.underlying37 rfl HLs.out ?_))
 refine(HSe.out _).mono ?_
 rintro x u1 ⟨⟨g,c,g1,c1,g2,c2,g3,c3,rfl,hth⟩,hb1⟩
 have E1:Away (Below W.heap.size W u1):=⟨hb1⟩
 have HTH:=Away.mk hth
 clear hb1 hth
 go_wp2_with (refine wpList_load_row rfl 37 _ rfl (w.heap.size+1) rfl 37 _ (0,0) _ (LB.out _ E1.out) Tryz.underlying37 rfl HLs.out ?_)
 refine(HPr.out _ _ _ _ _ _ _ _ _ _ (GP.out _ E1.out) (TB.out _ E1.out) HTH.out).mono ?_
 rintro x u2 ⟨⟨gm,cm,ga,ca,gb,cb,gl,cl,rfl,q3,q4,q5,q6⟩,hb2⟩
 have E2:Away (Below W.heap.size W u2):=⟨E1.out.trans (hb2.mono E1.out.size)⟩
 obtain⟨R,HR⟩:=ex_eq (SG w.heap.size kn ln e t a b o s (.slice (some ⟨gm,0,none⟩) kn cm) (.slice (some ⟨ga,0,none⟩) ln ca) (.slice (some ⟨gb,0,none⟩) kn cb) (.slice (some ⟨gl,0,none⟩) kn cl) mu ms)
 have Ri:Away ((Tryz.prog.info? 149).map (·.size)=some R.size):=⟨by rw[←HR.out];exact infoSg⟩
 have Ro:Away (R.all (·.oneCell')=true):=⟨by rw[←HR.out];exact sg_one _ _ _ _ _ _ _ _ _ _ _ _ _ _ _ _ _ _ _ _ _ _ _⟩
 have Rz:Away (z.size=R.size):=⟨by rw[Hzs.out,←HR.out];rfl⟩
 rw[HR.out]
 obtain⟨W6,hW6⟩:∃ x,u2.alloc (.cells R 149)=x:=⟨_,rfl⟩
 obtain⟨r6,hs6,b6⟩:=one hW6
 have E6:Away (Below W.heap.size W W6):=⟨E2.out.trans (b6.mono E2.out.size)⟩
 have HS6:=Away.mk (HSGN.out W6 u2.heap.size gm cm ga ca gb cb gl cl (by rw[HR.out];exact r6) (TB.out _ E6.out) (mlkd.mx_later q3 b6) (q4.later b6) (q5.later b6) (q6.later b6))
 have HW6:=Away.mk hW6
 clear hW6 r6 hs6 b6 q3 q4 q5 q6 hb2
 go_wp2_with (first
  | (refine wpList_store_new rfl 149 _ _ rfl R rfl rfl Ri.out (by exact Rz.out) Ro.out rfl ?_)
  | (rw[HW6.out]))
 refine(HSi.out _ _ _ _ _ _ _ _ _ _ _ (GP.out _ E6.out) HS6.out).mono ?_
 rintro x u3 ⟨rfl,hb3⟩
 have E3:Away (Below w.heap.size w u3):=⟨BW.out.trans ((E6.out.trans (hb3.mono E6.out.size)).mono BW.out.size)⟩
 clear hb3 hz
 go_wp2_with fail
 go_ret2
 exact⟨rfl,E3.out⟩
theorem inner_any {T:Array Value} (Z:Nat→Int) (kn ln:Nat) (e t a b o s:Int) (sk m r:ByteArray) (w:World) (hK:KT T TL RL) (hT:nthere.ZT T Z) (hP:Gp w) (h:latt (kn:Int) (ln:Int) e t a b o s=true) (hm:m.size≤100000):
 Calls Tryz.prog 68 #[.agg T,.agg #[.int .i64 (kn:Int),.int .i64 (ln:Int),.int .i64 e,.int .i64 t,.int .i64 a,.int .i64 b,.int .i64 o,.int .i64 s],.string sk,.string m,.string r] w fun x w'=>x=.returned (resI (fun k=>Z k%8380417) kn ln e t a b o s sk m r)∧Below w.heap.size w w':=by
 obtain⟨hk,hl,-⟩:=rksz.latt_all h
 obtain⟨V,hV⟩:=ex_eq (resI (fun k=>Z k%8380417) kn ln e t a b o s sk m r)
 have HV:=hV
 unfold resI at HV
 rw[hV.out]
 have HTz:Away ((Tryz.prog.info? 34).map (·.size)=some T.size):=⟨by rw[hT.size];kernel_rfl⟩
 obtain⟨L,HL⟩:=ex_eq (#[.int .i64 (kn:Int),.int .i64 (ln:Int),.int .i64 e,.int .i64 t,.int .i64 a,.int .i64 b,.int .i64 o,.int .i64 s]:Array Value)
 have HLs:Away ((Tryz.prog.info? 37).map (·.size)=some L.size):=⟨by rw[←HL.out];kernel_rfl⟩
 obtain⟨W,hW⟩:∃ x,(w.alloc (.cells T 34)).alloc (.cells L 37)=x:=⟨_,rfl⟩
 obtain⟨r0,r1,hWs,b0⟩:=two hW
 have TB:Away (∀ w':World,Below W.heap.size W w'→w'.heap[w.heap.size]? = some (.cells T 34 (0,0))):=⟨fun w' hb=>(hb.block _ (lt_of_row r0)).trans r0⟩
 have LB:Away (∀ w':World,Below W.heap.size W w'→w'.heap[w.heap.size+1]? = some (.cells L 37 (0,0))):=⟨fun w' hb=>(hb.block _ (lt_of_row r1)).trans r1⟩
 have GP:Away (∀ w':World,Below W.heap.size W w'→Gp w'):=⟨fun w' hb=>hP.later (b0.trans (hb.mono b0.size))⟩
 have BW:=Away.mk b0
 have HW:=Away.mk hW
 clear hW r0 r1 hWs b0 hV
 by_cases hr:r.size=32
 ·rw[if_pos hr]at HV
  have hrz:((r.size:Int) != 32)=false:=by rw[hr];rfl
  by_cases hsz:(sk.size:Int)=sz2 kn ln e
  ·have hhd:(sk.extract 0 128).size=128:=by
    rw[size_extract _ _ _ (by omega) ?_]
    have:=(kcon.size_of kn ln e sk.size).1 hsz
    generalize 32*rbita.lb (2*e).toNat*ln=x at this
    generalize 32*rbita.lb (2*e).toNat*kn=y at this
    omega
   have HSe0:=fun w1=>kse.secret_good kn ln e t a b o s sk w1 h hsz
   by_cases hok:okK sk kn ln e
   ·rw[if_pos ⟨hsz,hok⟩]at HV
    have HSe1:∀ w1:World,Calls Tryz.prog 124 #[.agg #[.int .i64 (kn:Int),.int .i64 (ln:Int),.int .i64 e,.int .i64 t,.int .i64 a,.int .i64 b,.int .i64 o,.int .i64 s],.string sk] w1 fun x w'=>(∃ g c g1 c1 g2 c2 g3 c3,x=.returned (.tuple #[.string (sk.extract 0 128),.slice (some ⟨g,0,none⟩) 3 c,.int .i64 0])∧TH w' g g1 c1 g2 c2 g3 c3 ln kn (rdS sk 128 (rbita.lb (e+e).toNat) e) (rdS sk (128+32*rbita.lb (e+e).toNat*ln) (rbita.lb (e+e).toNat) e) (rdS sk (128+32*rbita.lb (e+e).toNat*ln+32*rbita.lb (e+e).toNat*kn) 13 4096))∧Below w1.heap.size w1 w':=fun w1=>by
     refine(HSe0 w1).mono ?_
     rintro x w' ⟨⟨-,v,rfl,hv⟩ | ⟨hno,-⟩,hb⟩
     ·obtain⟨g,c,g1,c1,g2,c2,g3,c3,rfl,H⟩:=kcon.th_of hv
      exact⟨⟨g,c,g1,c1,g2,c2,g3,c3,rfl,H⟩,hb⟩
     ·exact absurd hok hno
    have h9:=inner_of Z kn ln e t a b o s sk (sk.extract 0 128) m r _ _ _ w hK hT hP h hm hr hhd HSe1
    rw[←HV.out]
    exact h9
   ·rw[if_neg (fun hh=>hok hh.2)]at HV
    have HSe:Away (∀ w1:World,Calls Tryz.prog 124 #[.agg L,.string sk] w1 fun x w'=>x=.returned (.tuple #[.string ⟨#[]⟩,.slice none 0 0,.int .i64 3])∧Below w1.heap.size w1 w'):=⟨fun w1=>by
     rw[←HL.out]
     refine(HSe0 w1).mono ?_
     rintro x w' ⟨⟨hyes,-⟩ | ⟨-,rfl⟩,hb⟩
     ·exact absurd hyes hok
     ·exact⟨rfl,hb⟩⟩
    rw[HL.out]
    clear HSe0 hhd hok hsz hr hK hT h hm hk hl
    go_enter Tryz.func68,Tryz.ntmps68
    go_wp2_with (first
     | (rw[HW.out])
     | (refine wpList_load_row rfl 37 _ rfl (w.heap.size+1) rfl 37 _ (0,0) _ (LB.out _ (Below.refl _ _)) Tryz.underlying37 rfl HLs.out ?_))
    refine(HSe.out _).mono ?_
    rintro x u1 ⟨rfl,hb1⟩
    have E1:Away (Below w.heap.size w u1):=⟨BW.out.trans (hb1.mono BW.out.size)⟩
    clear hb1
    go_wp2_with fail
    go_ret2
    exact⟨by rw[←HV.out];rfl,E1.out⟩
  ·rw[if_neg (fun hh=>hsz hh.1)]at HV
   have HSe:Away (∀ w1:World,Calls Tryz.prog 124 #[.agg L,.string sk] w1 fun x w'=>x=.returned (.tuple #[.string ⟨#[]⟩,.slice none 0 0,.int .i64 3])∧Below w1.heap.size w1 w'):=⟨fun w1=>by
    rw[←HL.out]
    exact kse.secret_len (kn:Int) (ln:Int) e t a b o s sk w1 h hsz⟩
   rw[HL.out]
   clear hsz hr hK hT h hm hk hl
   go_enter Tryz.func68,Tryz.ntmps68
   go_wp2_with (first
    | (rw[HW.out])
    | (refine wpList_load_row rfl 37 _ rfl (w.heap.size+1) rfl 37 _ (0,0) _ (LB.out _ (Below.refl _ _)) Tryz.underlying37 rfl HLs.out ?_))
   refine(HSe.out _).mono ?_
   rintro x u1 ⟨rfl,hb1⟩
   have E1:Away (Below w.heap.size w u1):=⟨BW.out.trans (hb1.mono BW.out.size)⟩
   clear hb1
   go_wp2_with fail
   go_ret2
   exact⟨by rw[←HV.out];rfl,E1.out⟩
 ·rw[if_neg hr]at HV
  have hrz:((r.size:Int) != 32)=true:=by simp;omega
  rw[HL.out]
  clear hr hK hT h hm hk hl
  go_enter Tryz.func68,Tryz.ntmps68
  go_wp2_with (rw[HW.out])
  go_ret2
  exact⟨by rw[←HV.out];rfl,BW.out⟩
theorem sign_gen {T:Array Value} (k l e t a b o s:Int) (sk x c r:ByteArray) (w:World) (hTs:T.size=465) (hP:Gp w) (F:ByteArray→ByteArray→Value) (hF:∀ m q,∃ (x:ByteArray) (c:Int),F m q=.tuple #[.string x,.int .i64 c])
 (HI:∀ (m q:ByteArray) (w1:World),Gp w1→m.size≤100000→(q=z32∨q=r)→Calls Tryz.prog 68 #[.agg T,.agg #[.int .i64 k,.int .i64 l,.int .i64 e,.int .i64 t,.int .i64 a,.int .i64 b,.int .i64 o,.int .i64 s],.string sk,.string m,.string q] w1 fun x w'=>x=.returned (F m q)∧Below w1.heap.size w1 w'):
 Calls Tryz.prog 19 #[.agg T,.agg #[.int .i64 k,.int .i64 l,.int .i64 e,.int .i64 t,.int .i64 a,.int .i64 b,.int .i64 o,.int .i64 s],.string sk,.string x,.string c,.string r] w fun y w'=>y=.returned (if c.size≤255∧x.size≤60000 then F (msg c x) (if r.size=0 then z32 else r) else .tuple #[.string ⟨#[]⟩,.int .i64 5])∧Below w.heap.size w w':=by
 have HTz:Away ((Tryz.prog.info? 34).map (·.size)=some T.size):=⟨by rw[hTs];kernel_rfl⟩
 obtain⟨L,HL⟩:=ex_eq (#[.int .i64 k,.int .i64 l,.int .i64 e,.int .i64 t,.int .i64 a,.int .i64 b,.int .i64 o,.int .i64 s]:Array Value)
 have HLs:Away ((Tryz.prog.info? 37).map (·.size)=some L.size):=⟨by rw[←HL.out];kernel_rfl⟩
 obtain⟨W,hW⟩:∃ x,(w.alloc (.cells T 34)).alloc (.cells L 37)=x:=⟨_,rfl⟩
 obtain⟨r0,r1,hWs,b0⟩:=two hW
 have TB:Away (∀ w':World,Below W.heap.size W w'→w'.heap[w.heap.size]? = some (.cells T 34 (0,0))):=⟨fun w' hb=>(hb.block _ (lt_of_row r0)).trans r0⟩
 have LB:Away (∀ w':World,Below W.heap.size W w'→w'.heap[w.heap.size+1]? = some (.cells L 37 (0,0))):=⟨fun w' hb=>(hb.block _ (lt_of_row r1)).trans r1⟩
 have GP:Away (∀ w':World,Below W.heap.size W w'→Gp w'):=⟨fun w' hb=>hP.later (b0.trans (hb.mono b0.size))⟩
 have BW:=Away.mk b0
 have HW:=Away.mk hW
 have HIn0:∀ (m q:ByteArray) (w1:World),Gp w1→m.size≤100000→(q=z32∨q=r)→Calls Tryz.prog 68 #[.agg T,.agg L,.string sk,.string m,.string q] w1 fun x w'=>x=.returned (F m q)∧Below w1.heap.size w1 w':=fun m q w1 q1 q2 q3=>by
  rw[←HL.out]
  exact HI m q w1 q1 q2 q3
 rw[HL.out]
 clear hW r0 r1 hWs b0 hP
 by_cases hm:c.size≤255∧x.size≤60000
 ·rw[if_pos hm]
  have HMs:Away (∀ w1:World,Calls Tryz.prog 27 #[.string c,.string x] w1 fun e w'=>e=.returned (.tuple #[.string (msg c x),.int .i64 0])∧Below w1.heap.size w1 w'):=⟨fun w1=>message_good c x w1 hm.1 hm.2⟩
  have hms:(msg c x).size≤100000:=by rw[mlsb.msg_size];omega
  obtain⟨M,hM⟩:∃ y,msg c x=y:=⟨_,rfl⟩
  rw[hM]at HMs hms ⊢
  by_cases hr:r.size=0
  ·rw[if_pos hr]
   have hre:r=⟨#[]⟩:=ByteArray.ext (Array.eq_empty_of_size_eq_zero hr)
   subst hre
   have HRe:Away (∀ w1:World,Calls Tryz.prog 67 #[.string ⟨#[0]⟩,.int .i64 32] w1 fun e w'=>e=.returned (.string z32)∧Below w1.heap.size w1 w'):=⟨fun w1=>shelfr.repeated ⟨#[0]⟩ 32 w1 (by decide) (by decide)⟩
   have HIn:=Away.mk (fun w1 q1=>HIn0 M z32 w1 q1 hms (Or.inl rfl))
   obtain⟨V1,V2,hV⟩:=hF M z32
   rw[hV]at HIn ⊢
   obtain⟨z,hz⟩:∃ y,z32=y:=⟨_,rfl⟩
   rw[hz]at HRe HIn
   clear HIn0 hm hM hms hV hz hr HI hF
   go_enter Tryz.func19,Tryz.ntmps19
   go_wp2_with (rw[HW.out])
   refine(HMs.out _).mono ?_
   rintro y u1 ⟨rfl,hb1⟩
   have E1:Away (Below W.heap.size W u1):=⟨hb1⟩
   clear hb1
   go_wp2_with fail
   refine(HRe.out _).mono ?_
   rintro y u2 ⟨rfl,hb2⟩
   have E2:Away (Below W.heap.size W u2):=⟨E1.out.trans (hb2.mono E1.out.size)⟩
   clear hb2
   go_wp2_with (first
    | (refine wpList_load_row rfl 34 _ rfl w.heap.size rfl 34 T (0,0) _ (TB.out _ E2.out) Tryz.underlying34 rfl HTz.out ?_)
    | (refine wpList_load_row rfl 37 _ rfl (w.heap.size+1) rfl 37 L (0,0) _ (LB.out _ E2.out) Tryz.underlying37 rfl HLs.out ?_))
   refine(HIn.out _ (GP.out _ E2.out)).mono ?_
   rintro y u3 ⟨rfl,hb3⟩
   have E3:Away (Below w.heap.size w u3):=⟨BW.out.trans ((E2.out.trans (hb3.mono E2.out.size)).mono BW.out.size)⟩
   clear hb3
   go_wp2_with fail
   go_ret2
   exact⟨rfl,E3.out⟩
  ·rw[if_neg hr]
   have hne:=not_empty r (by omega)
   have HIn:=Away.mk (fun w1 q1=>HIn0 M r w1 q1 hms (Or.inr rfl))
   obtain⟨V1,V2,hV⟩:=hF M r
   rw[hV]at HIn ⊢
   clear HIn0 hm hM hms hV hr HI hF
   go_enter Tryz.func19,Tryz.ntmps19
   go_wp2_with (rw[HW.out])
   refine(HMs.out _).mono ?_
   rintro y u2 ⟨rfl,hb2⟩
   have E2:Away (Below W.heap.size W u2):=⟨hb2⟩
   clear hb2
   go_wp2_with (first
    | (refine wpList_load_row rfl 34 _ rfl w.heap.size rfl 34 T (0,0) _ (TB.out _ E2.out) Tryz.underlying34 rfl HTz.out ?_)
    | (refine wpList_load_row rfl 37 _ rfl (w.heap.size+1) rfl 37 L (0,0) _ (LB.out _ E2.out) Tryz.underlying37 rfl HLs.out ?_))
   refine(HIn.out _ (GP.out _ E2.out)).mono ?_
   rintro y u3 ⟨rfl,hb3⟩
   have E3:Away (Below w.heap.size w u3):=⟨BW.out.trans ((E2.out.trans (hb3.mono E2.out.size)).mono BW.out.size)⟩
   clear hb3
   go_wp2_with fail
   go_ret2
   exact⟨rfl,E3.out⟩
 ·rw[if_neg hm]
  have HMs:Away (∀ w1:World,Calls Tryz.prog 27 #[.string c,.string x] w1 fun e w'=>e=.returned (.tuple #[.string ⟨#[]⟩,.int .i64 5])∧w'=w1):=⟨fun w1=>message_bad c x w1 (by omega)⟩
  clear HIn0 hm HI hF
  go_enter Tryz.func19,Tryz.ntmps19
  go_wp2_with (rw[HW.out])
  refine(HMs.out _).mono ?_
  rintro y u1 ⟨rfl,h1⟩
  rw[h1]
  clear h1 u1
  go_wp2_with fail
  go_ret2
  exact⟨rfl,BW.out⟩
theorem sign_any {T:Array Value} (Z:Nat→Int) (kn ln:Nat) (e t a b o s:Int) (sk x c r:ByteArray) (w:World) (hK:KT T TL RL) (hT:nthere.ZT T Z) (hP:Gp w) (h:latt (kn:Int) (ln:Int) e t a b o s=true):
 Calls Tryz.prog 19 #[.agg T,.agg #[.int .i64 (kn:Int),.int .i64 (ln:Int),.int .i64 e,.int .i64 t,.int .i64 a,.int .i64 b,.int .i64 o,.int .i64 s],.string sk,.string x,.string c,.string r] w fun y w'=>y=.returned (mgr.resS (fun k=>Z k%8380417) kn ln e t a b o s sk x c r)∧Below w.heap.size w w':=
 sign_gen (kn:Int) (ln:Int) e t a b o s sk x c r w hT.size hP (fun m q=>resI (fun k=>Z k%8380417) kn ln e t a b o s sk m q) (fun m q=>resI_two _ _ _ _ _ _ _ _ _ _ m q) fun m q w1 q1 q2 _=>inner_any Z kn ln e t a b o s sk m q w1 hK hT q1 h q2
end Go.Proofs.YtomphjajkkddkaaGreatDoor.mgi
namespace Go.Proofs.YtomphjajkkddkaaGreatDoor.vpi
set_option linter.unusedSimpArgs false
open Go Go.RowKit
open arr mem stil polys polt pols nttl rndm saml spok rsdoc mlkm mlkb mlsm keca kstep kturn helda heldb rbita rbitb rbitc rbitd bitp rksz rkpb rkse rkrw mlkd mlvr mlvm vpd
theorem inner_of {T:Array Value} (Z:Nat→Int) (kn ln:Nat) (e t a b o s:Int) (pk m x rho sum:ByteArray) (hi zf hf:Nat→Nat→Int) (w:World) (hK:KT T TL RL) (hT:nthere.ZT T Z) (hP:Gp w) (h:latt (kn:Int) (ln:Int) e t a b o s=true) (hm:m.size≤100000) (hpk:pk.size≤100000) (hrho:rho.size≤1000) (hsum:sum.size≤1000)
 (HPu0:∀ w1:World,Calls Tryz.prog 29 #[.agg #[.int .i64 (kn:Int),.int .i64 (ln:Int),.int .i64 e,.int .i64 t,.int .i64 a,.int .i64 b,.int .i64 o,.int .i64 s],.string pk] w1 fun r w'=>(∃ v,r=.returned (.tuple #[.string rho,v,.int .i64 0])∧Holds w' 0 v kn hi)∧Below w1.heap.size w1 w')
 (HPa0:∀ w1:World,Calls Tryz.prog 13 #[.agg #[.int .i64 (kn:Int),.int .i64 (ln:Int),.int .i64 e,.int .i64 t,.int .i64 a,.int .i64 b,.int .i64 o,.int .i64 s],.string x] w1 fun r w'=>(∃ v1 v2,r=.returned (.tuple #[.string sum,v1,v2,.int .i64 0])∧Holds w' 0 v1 ln zf∧Holds w' 0 v2 kn hf)∧Below w1.heap.size w1 w'):
 Calls Tryz.prog 11 #[.agg T,.agg #[.int .i64 (kn:Int),.int .i64 (ln:Int),.int .i64 e,.int .i64 t,.int .i64 a,.int .i64 b,.int .i64 o,.int .i64 s],.string pk,.string m,.string x] w fun y w'=>y=.returned (.tuple #[.bool (vOk (fun k=>Z k%8380417) kn ln e t a b s rho (out TL RL 2 (out TL RL 2 pk 64++m) 64) sum hi zf hf),.int .i64 0])∧Below w.heap.size w w':=by
 obtain⟨hk,hl,ht,he,ha⟩:=latt_of h
 obtain⟨-,-,-,-,ho,hs⟩:=latt_all h
 have hb:b=95232∨b=261888:=by
  unfold latt okg at h
  simp only[Bool.and_eq_true,Bool.or_eq_true,decide_eq_true_eq,beq_iff_eq]at h
  omega
 have hk : 1≤kn∧kn≤8:=by omega
 have hl : 1≤ln∧ln≤8:=by omega
 have hTs:=hT.size
 obtain⟨ζ,hζ⟩:∃ ζ : Nat→Int,(fun k=>Z k%8380417) = ζ := ⟨_,rfl⟩
 obtain⟨tr,htr⟩:∃ y,out TL RL 2 pk 64=y:=⟨_,rfl⟩
 have htrs:tr.size=64:=by rw[←htr];exact samc.out_size _ _ _
 obtain⟨mu,hmu⟩:∃ y,out TL RL 2 (tr++m) 64=y:=⟨_,rfl⟩
 have hmus:mu.size=64:=by rw[←hmu];exact samc.out_size _ _ _
 obtain⟨l4,hl4⟩:∃ l4,(s / 4).toNat=l4:=⟨_,rfl⟩
 have hl4e:s / 4=(l4:Int):=by omega
 have hl4t:s.tdiv 4=(l4:Int):=by rw[Int.tdiv_eq_ediv_of_nonneg (by omega)];exact hl4e
 have hl4z:l4≤64:=by omega
 have hl4w:IntKind.i64.wrap (l4:Int)=(l4:Int):=by rw[IntKind.wrap_i64];omega
 obtain⟨CO,hCO⟩:∃ y,cat ByteArray.empty (fun i=>packed (row ζ b (dB sum t) (rowv ζ (qX rho i) zf ln) (hi i) (hf i)) (8380416 / (2*b)-1)) kn=y:=⟨_,rfl⟩
 have hCOs:CO.size≤10000:=by
  rw[←hCO,cat_size _ _ (32*rbita.lb (8380416 / (2*b)-1).toNat) _ (fun i _=>by rw[size_packed])]
  have h9 : 32*rbita.lb (8380416 / (2*b)-1).toNat≤1000:=by rcases hb with rfl | rfl<;>decide +kernel
  have h8:=Nat.mul_le_mul h9 hk.2
  have h7:ByteArray.empty.size=0:=rfl
  omega
 obtain⟨VH,hVH⟩:∃ y,out TL RL 2 (mu++CO) l4=y:=⟨_,rfl⟩
 have hvh:vHash ζ kn ln t b s rho mu sum hi zf hf=VH:=by
  rw[←hVH,←hCO,cat_nil,←hl4]
  rfl
 obtain⟨X,hX⟩:∃ y,fldm.cbs zf ln=y:=⟨_,rfl⟩
 obtain⟨te,hte⟩:∃ y,t*e=y:=⟨_,rfl⟩
 have hte2 : 0≤te∧te≤256:=by rw[←hte];rcases he with h | h<;>rw[h]<;>omega
 have htew:IntKind.i64.wrap (t*e)=te:=by rw[hte,IntKind.wrap_i64];omega
 obtain⟨lim,hlim⟩:∃ y,a-te=y:=⟨_,rfl⟩
 have hlimw:IntKind.i64.wrap (a-te)=lim:=by rw[hlim,IntKind.wrap_i64];omega
 obtain⟨bb,hbb⟩:∃ y,vOk ζ kn ln e t a b s rho mu sum hi zf hf=y:=⟨_,rfl⟩
 have hbb2:=hbb
 unfold vOk at hbb2
 rw[hvh,hX,hte,hlim]at hbb2
 rw[hζ,htr,hmu,hbb]
 have HS10:∀ w1:World,Gp w1→w1.heap[w.heap.size]? = some (.cells T 34 (0,0))→Calls Tryz.prog 31 #[.pointer (some ⟨w.heap.size,0,none⟩),.string pk,.int .i64 64] w1 fun y w'=>y=.returned (.string tr)∧Below w1.heap.size w1 w':=fun w1 hg hr=>by
  rw[←htr]
  exact vpa.shake_any w.heap.size _ 64 w1 hK hg hr (by decide) (by omega)
 have HS20:∀ w1:World,Gp w1→w1.heap[w.heap.size]? = some (.cells T 34 (0,0))→Calls Tryz.prog 31 #[.pointer (some ⟨w.heap.size,0,none⟩),.string (tr++m),.int .i64 64] w1 fun y w'=>y=.returned (.string mu)∧Below w1.heap.size w1 w':=fun w1 hg hr=>by
  rw[←hmu]
  exact vpa.shake_any w.heap.size _ 64 w1 hK hg hr (by decide) (by rw[ByteArray.size_append];omega)
 have HS30:∀ w1:World,Gp w1→w1.heap[w.heap.size]? = some (.cells T 34 (0,0))→Calls Tryz.prog 31 #[.pointer (some ⟨w.heap.size,0,none⟩),.string (mu++CO),.int .i64 (l4:Int)] w1 fun y w'=>y=.returned (.string VH)∧Below w1.heap.size w1 w':=fun w1 hg hr=>by
  rw[←hVH]
  exact vpa.shake_any w.heap.size _ l4 w1 hK hg hr (by omega) (by rw[ByteArray.size_append];omega)
 have HMa0:∀ w1:World,Gp w1→Calls Tryz.prog 33 #[.agg T,.agg #[.int .i64 (kn:Int),.int .i64 (ln:Int),.int .i64 e,.int .i64 t,.int .i64 a,.int .i64 b,.int .i64 o,.int .i64 s],.string rho] w1 fun y w'=>(∃ v,y=.returned v∧MX w' v kn (fun _=>ln) (qX rho))∧Below w1.heap.size w1 w':=fun w1 hg=>by
  refine(qdoc.matrix kn ln e t a b o s _ w1 hK hg h hrho).mono ?_
  rintro y w' ⟨⟨v,vs,rfl,h1,h2⟩,hb⟩
  exact⟨⟨v,rfl,mx_of hk.1 h1 h2⟩,hb⟩
 have HRw:Away (∀ (v vv:Value) (w1:World),MX w1 v kn (fun _=>ln) (qX rho)→Holds w1 0 vv ln zf→Calls Tryz.prog 32 #[.agg T,v,vv] w1 fun y w'=>(∃ v',y=.returned v'∧Holds w' 0 v' kn (fun i=>rowv ζ (qX rho i) zf ln))∧Below w1.heap.size w1 w'):=⟨fun v vv w1 h1 h2=>by
  refine(krw.rows_any T Z kn ln (fun _=>ln) (qX rho) zf v vv 0 w1 hTs hT hk (fun r _=>hl.2) hl h1 h2).mono ?_
  rintro y w' ⟨⟨v',rfl,h3⟩,hb⟩
  simp only[Nat.min_self,hζ]at h3
  exact⟨⟨v',rfl,rkse.holds_base h3⟩,hb⟩⟩
 have HBa:Away (∀ w1:World,Gp w1→Calls Tryz.prog 34 #[.agg T,.string sum,.int .i64 t] w1 fun y w'=>y=.returned (.agg (FL .i64 256 (dB sum t)))∧Below w1.heap.size w1 w'):=⟨fun w1 hg=>qdoc.ball sum t w1 hK hg (by omega)⟩
 have HCo:Away (∀ (vw vk vh:Value) (w1:World),w1.heap[w.heap.size]? = some (.cells T 34 (0,0))→Holds w1 0 vw kn (fun i=>rowv ζ (qX rho i) zf ln)→Holds w1 0 vk kn hi→Holds w1 0 vh kn hf→Calls Tryz.prog 35 #[.pointer (some ⟨w.heap.size,0,none⟩),.int .i64 b,vw,vk,vh,.agg (FL .i64 256 (dB sum t))] w1 fun y w'=>y=.returned (.string CO)∧Below w1.heap.size w1 w'):=⟨fun vw vk vh w1 q1 q2 q3 q4=>by
  have h9:=vpb.corrected_any Z w.heap.size kn b vw vk vh 0 0 0 (fun i=>rowv ζ (qX rho i) zf ln) hi hf (dB sum t) w1 hT hb hk q1 q2 q3 q4
  rw[hζ,hCO]at h9
  exact h9⟩
 have HSi:Away (∀ (v:Value) (w1:World),Holds w1 0 v ln zf→Calls Tryz.prog 30 #[v] w1 fun y w'=>y=.returned (.int .i64 X)∧w'=w1):=⟨fun v w1 q=>by
  obtain⟨g,c,rfl,-,-,q2⟩:=q
  rw[←hX]
  exact fsize.size_any g ln c zf w1 (by omega) fun j hj i hi=>by rw[Nat.mul_comm];exact q2 j hj i hi⟩
 have HTz:Away ((Tryz.prog.info? 34).map (·.size)=some T.size):=⟨by rw[hTs];kernel_rfl⟩
 obtain⟨L,HL⟩:=ex_eq (#[.int .i64 (kn:Int),.int .i64 (ln:Int),.int .i64 e,.int .i64 t,.int .i64 a,.int .i64 b,.int .i64 o,.int .i64 s]:Array Value)
 have HLs:Away ((Tryz.prog.info? 37).map (·.size)=some L.size):=⟨by rw[←HL.out];kernel_rfl⟩
 obtain⟨W,hW⟩:∃ x,(w.alloc (.cells T 34)).alloc (.cells L 37)=x:=⟨_,rfl⟩
 obtain⟨r0,r1,hWs,b0⟩:=two hW
 have TB:Away (∀ w':World,Below W.heap.size W w'→w'.heap[w.heap.size]? = some (.cells T 34 (0,0))):=⟨fun w' hb=>(hb.block _ (lt_of_row r0)).trans r0⟩
 have LB:Away (∀ w':World,Below W.heap.size W w'→w'.heap[w.heap.size+1]? = some (.cells L 37 (0,0))):=⟨fun w' hb=>(hb.block _ (lt_of_row r1)).trans r1⟩
 have GP:Away (∀ w':World,Below W.heap.size W w'→Gp w'):=⟨fun w' hb=>hP.later (b0.trans (hb.mono b0.size))⟩
 have BW:=Away.mk b0
 have HW:=Away.mk hW
 have C4:Away (∀ w':World,Below W.heap.size W w'→w'.cell? ⟨w.heap.size+1,4,none⟩=some (.int .i64 a)):=⟨fun w' hb=>cell_at (LB.out w' hb) (by rw[←HL.out];rfl)⟩
 have C3:Away (∀ w':World,Below W.heap.size W w'→w'.cell? ⟨w.heap.size+1,3,none⟩=some (.int .i64 t)):=⟨fun w' hb=>cell_at (LB.out w' hb) (by rw[←HL.out];rfl)⟩
 have C2:Away (∀ w':World,Below W.heap.size W w'→w'.cell? ⟨w.heap.size+1,2,none⟩=some (.int .i64 e)):=⟨fun w' hb=>cell_at (LB.out w' hb) (by rw[←HL.out];rfl)⟩
 have C5:Away (∀ w':World,Below W.heap.size W w'→w'.cell? ⟨w.heap.size+1,5,none⟩=some (.int .i64 b)):=⟨fun w' hb=>cell_at (LB.out w' hb) (by rw[←HL.out];rfl)⟩
 have C7:Away (∀ w':World,Below W.heap.size W w'→w'.cell? ⟨w.heap.size+1,7,none⟩=some (.int .i64 s)):=⟨fun w' hb=>cell_at (LB.out w' hb) (by rw[←HL.out];rfl)⟩
 rw[HL.out]at HPu0 HPa0 HMa0 ⊢
 have HPu:=Away.mk HPu0
 have HPa:=Away.mk HPa0
 have HMa:=Away.mk HMa0
 have HS1:=Away.mk HS10
 have HS2:=Away.mk HS20
 have HS3:=Away.mk HS30
 obtain⟨c,hc⟩:=ex_eq (dB sum t)
 rw[hc.out]at HBa HCo
 obtain⟨hz,hsize⟩:=zero_of_info polt.infoP
 obtain⟨z,HZ⟩:=ex_eq (FL .i64 256 fun _=>0)
 rw[HZ.out]at hz
 obtain⟨F,HF⟩:=ex_eq (FL .i64 256 c)
 rw[HF.out]at HBa HCo
 have Fi:Away ((Tryz.prog.info? 76).map (·.size)=some F.size):=⟨by rw[←HF.out,fl_size];exact hsize⟩
 have Fo:Away (F.all (·.oneCell')=true):=⟨by rw[←HF.out];exact fl_one _ _ _⟩
 have Fz:Away (z.size=F.size):=⟨by rw[←HZ.out,←HF.out,fl_size,fl_size]⟩
 have x1:¬ 9223372036854775807<tr.size+m.size:=by omega
 have x2:¬ 9223372036854775807<mu.size+CO.size:=by omega
 have Hbb:=Away.mk hbb2
 clear hW r0 r1 hWs b0 hP hK hT h hm hpk hrho hsum hk hl ht he ha hb ho hs hTs hζ htr htrs hmu hmus hl4 hl4z hCO hCOs hVH hvh hX hte hte2 hlim hbb hbb2 HPu0 HPa0 HMa0 HS10 HS20 HS30 hsize HF HZ hc
 have hz9:=hz
 clear hz
 go_enter Tryz.func11,Tryz.ntmps11
 go_wp2_with (first
  | (rw[HW.out])
  | (refine wpList_load_row rfl 37 _ rfl (w.heap.size+1) rfl 37 _ (0,0) _ (LB.out _ (Below.refl _ _)) Tryz.underlying37 rfl HLs.out ?_))
 refine(HPu.out _).mono ?_
 rintro y u1 ⟨⟨vk,rfl,hvk⟩,hb1⟩
 have E1:Away (Below W.heap.size W u1):=⟨hb1⟩
 have Hvk:=Away.mk hvk
 clear hb1 hvk
 go_wp2_with (refine wpList_load_row rfl 37 _ rfl (w.heap.size+1) rfl 37 _ (0,0) _ (LB.out _ E1.out) Tryz.underlying37 rfl HLs.out ?_)
 refine(HPa.out _).mono ?_
 rintro y u2 ⟨⟨vz,vh,rfl,hvz,hvh⟩,hb2⟩
 have E2:Away (Below W.heap.size W u2):=⟨E1.out.trans (hb2.mono E1.out.size)⟩
 have Hk2:Away (Holds u2 0 vk kn hi):=⟨Hvk.out.later hb2⟩
 have Hz2:=Away.mk hvz
 have Hh2:=Away.mk hvh
 clear hb2 hvz hvh Hvk
 go_wp2_with fail
 refine hk_begin (u2.heap.size) 11 [0,2,3,4,5,6,7,8,9,1,10] (by kernel_rfl) rfl rfl (by decide) (fun hS ops HO=>?_)
 simp only[List.filterMap_cons,fa,List.getElem?_cons_succ,List.getElem?_cons_zero]
 iterate 2 ((refine hk_t (v:=?_) (by rw[←HO.out];kernel_rfl) (fun _ _ _ h=>h) ?_ hS ?_;rotate_left;focus (intro w9 h9;go_simp;first | done | with_reducible rfl);all_goals skip);simp only[Act.put,pa,pb,pc])
 (refine hk_t (v:=?_) (by rw[←HO.out];kernel_rfl) (fun _ _ _ h=>h) ?_ hS ?_;rotate_left;focus (intro w9 h9;have hc:=(fun w9 h9=>C4.out w9 (E2.out.trans (h9.mono E2.out.size))) w9 h9;go_simp;first | done | with_reducible rfl);all_goals skip)
 simp only[Act.put,pa,pb,pc]
 (refine hk_t (v:=?_) (by rw[←HO.out];kernel_rfl) (fun _ _ _ h=>h) ?_ hS ?_;rotate_left;focus (intro w9 h9;go_simp;first | done | with_reducible rfl);all_goals skip)
 simp only[Act.put,pa,pb,pc]
 (refine hk_t (v:=?_) (by rw[←HO.out];kernel_rfl) (fun _ _ _ h=>h) ?_ hS ?_;rotate_left;focus (intro w9 h9;have hc:=(fun w9 h9=>C3.out w9 (E2.out.trans (h9.mono E2.out.size))) w9 h9;go_simp;first | done | with_reducible rfl);all_goals skip)
 simp only[Act.put,pa,pb,pc]
 (refine hk_t (v:=?_) (by rw[←HO.out];kernel_rfl) (fun _ _ _ h=>h) ?_ hS ?_;rotate_left;focus (intro w9 h9;go_simp;first | done | with_reducible rfl);all_goals skip)
 simp only[Act.put,pa,pb,pc]
 (refine hk_t (v:=?_) (by rw[←HO.out];kernel_rfl) (fun _ _ _ h=>h) ?_ hS ?_;rotate_left;focus (intro w9 h9;have hc:=(fun w9 h9=>C2.out w9 (E2.out.trans (h9.mono E2.out.size))) w9 h9;go_simp;first | done | with_reducible rfl);all_goals skip)
 iterate 2 (simp only[Act.put,pa,pb,pc];(refine hk_t (v:=?_) (by rw[←HO.out];kernel_rfl) (fun _ _ _ h=>h) ?_ hS ?_;rotate_left;focus (intro w9 h9;go_simp;first | done | with_reducible rfl);all_goals skip))
 simp only[Act.put,pa,pb,pc]
 refine hk_s (by rw[←HO.out];kernel_rfl) (fun K hK=>?_)
 go_simp
 refine(HSi.out _ _ (Hz2.out.later (Below.refl _ _).drew)).mono ?_
 rintro y w2 ⟨rfl,hw2⟩
 rw[hw2]
 clear hw2 w2
 refine hK _ _ hS ?_
 clear hK K
 try simp only[Act.put,pa,pb,pc]
 (refine hk_t (v:=?_) (by rw[←HO.out];kernel_rfl) (fun _ _ _ h=>h) ?_ hS ?_;rotate_left;focus (intro w9 h9;go_simp;first | done | with_reducible rfl);all_goals skip)
 simp only[Act.put,pa,pb,pc]
 refine hk_nil (by rw[←HO.out];kernel_rfl) ?_
 obtain⟨u3,hu3⟩:∃ y,u2.drew=y:=⟨_,rfl⟩
 rw[hu3]at hS ⊢
 have E3:Away (Below W.heap.size W u3):=⟨E2.out.trans (hS.mono E2.out.size)⟩
 have Hk3:Away (Holds u3 0 vk kn hi):=⟨Hk2.out.later hS⟩
 have Hz3:Away (Holds u3 0 vz ln zf):=⟨Hz2.out.later hS⟩
 have Hh3:Away (Holds u3 0 vh kn hf):=⟨Hh2.out.later hS⟩
 clear hS HO hu3 Hk2 Hz2 Hh2 htew hlimw
 by_cases hcA:lim≤X
 ·have hdA:¬ X<lim:=by omega
  have hbf:bb=false:=by rw[←Hbb.out,decide_eq_false (by omega),Bool.false_and]
  clear hcA
  go_wp2_with fail
  go_ret2
  exact⟨rfl,BW.out.trans (E3.out.mono BW.out.size)⟩
 ·have hdA:X<lim:=by omega
  have hbt:Away (decide (VH=sum)=bb):=⟨by rw[←Hbb.out,decide_eq_true (show X<lim by omega),Bool.true_and]⟩
  clear hcA
  go_wp2_with fail
  refine(HS1.out _ (GP.out _ E3.out) (TB.out _ E3.out)).mono ?_
  rintro y u4 ⟨rfl,hb4⟩
  have E4:Away (Below W.heap.size W u4):=⟨E3.out.trans (hb4.mono E3.out.size)⟩
  have E34:Away (Below u3.heap.size u3 u4):=⟨hb4⟩
  clear hb4
  go_wp2_with fail
  refine(HS2.out _ (GP.out _ E4.out) (TB.out _ E4.out)).mono ?_
  rintro y u5 ⟨rfl,hb5⟩
  have E5:Away (Below W.heap.size W u5):=⟨E4.out.trans (hb5.mono E4.out.size)⟩
  have E35:Away (Below u3.heap.size u3 u5):=⟨E34.out.trans (hb5.mono E34.out.size)⟩
  clear hb5 x1
  go_wp2_with fail
  refine hk_begin (u5.heap.size) 8 [0,1,2,3,5,4,6,7] (by kernel_rfl) rfl rfl (by decide) (fun hS ops HO=>?_)
  simp only[List.filterMap_cons,fa,List.getElem?_cons_succ,List.getElem?_cons_zero]
  iterate 2 (refine hk_l (by rw[←HO.out];kernel_rfl) (fun _ _ _ _ h=>h) 34 _ rfl w.heap.size rfl 34 T _ (fun w1 h1=>TB.out w1 (E5.out.trans (h1.mono E5.out.size))) Tryz.underlying34 rfl HTz.out hS ?_;simp only[Act.put,pa,pb,pc])
  refine hk_l (by rw[←HO.out];kernel_rfl) (fun _ _ _ _ h=>h) 37 _ rfl (w.heap.size+1) rfl 37 L _ (fun w1 h1=>LB.out w1 (E5.out.trans (h1.mono E5.out.size))) Tryz.underlying37 rfl HLs.out hS ?_
  iterate 2 (simp only[Act.put,pa,pb,pc];(refine hk_t (v:=?_) (by rw[←HO.out];kernel_rfl) (fun _ _ _ h=>h) ?_ hS ?_;rotate_left;focus (intro w9 h9;go_simp;first | done | with_reducible rfl);all_goals skip))
  simp only[Act.put,pa,pb,pc]
  refine hk_s (by rw[←HO.out];kernel_rfl) (fun K hK=>?_)
  go_simp
  refine(HMa.out _ (GP.out _ (E5.out.trans (hS.mono E5.out.size)))).mono ?_
  rintro x w2 ⟨⟨vm,rfl,hvm⟩,hb2⟩
  have h2:=hS.trans (hb2.mono hS.size)
  have k2:Below u3.heap.size u3 w2:=E35.out.trans (h2.mono E35.out.size)
  refine hK _ _ h2 ?_
  clear hK K
  try simp only[Act.put,pa,pb,pc]
  refine hk_s (by rw[←HO.out];kernel_rfl) (fun K hK=>?_)
  go_simp
  refine(HRw.out _ _ _ hvm (Hz3.out.later k2)).mono ?_
  rintro x w3 ⟨⟨vw,rfl,hvw⟩,hb3⟩
  have h3:=h2.trans (hb3.mono h2.size)
  refine hK _ _ h3 ?_
  clear hK K
  try simp only[Act.put,pa,pb,pc]
  (refine hk_t (v:=?_) (by rw[←HO.out];kernel_rfl) (fun _ _ _ h=>h) ?_ h3 ?_;rotate_left;focus (intro w9 h9;go_simp;first | done | with_reducible rfl);all_goals skip)
  simp only[Act.put,pa,pb,pc]
  refine hk_nil (by rw[←HO.out];kernel_rfl) ?_
  have E6:Away (Below W.heap.size W w3):=⟨E5.out.trans (h3.mono E5.out.size)⟩
  have E36:Away (Below u3.heap.size u3 w3):=⟨E35.out.trans (h3.mono E35.out.size)⟩
  have Hvw:=Away.mk hvw
  have c3:w3.cell? ⟨w.heap.size+1,3,none⟩=some (.int .i64 t):=C3.out _ E6.out
  clear hS HO hb2 h2 k2 hvm hb3 h3 hvw
  go_wp2_with (refine wpList_load_row rfl 34 _ rfl w.heap.size rfl 34 _ (0,0) _ (TB.out _ E6.out) Tryz.underlying34 rfl HTz.out ?_)
  refine(HBa.out _ (GP.out _ E6.out)).mono ?_
  rintro y w4 ⟨rfl,hb4⟩
  obtain⟨W5,hW5⟩:∃ y,w4.alloc (.cells F 76)=y:=⟨_,rfl⟩
  obtain⟨r5,hs5,b5⟩:=one hW5
  have hb5:Below w3.heap.size w3 W5:=hb4.trans (b5.mono hb4.size)
  have E7:Away (Below W.heap.size W W5):=⟨E6.out.trans (hb5.mono E6.out.size)⟩
  have E37:Away (Below u3.heap.size u3 W5):=⟨E36.out.trans (hb5.mono E36.out.size)⟩
  have Hw7:Away (Holds W5 0 vw kn (fun i=>rowv ζ (qX rho i) zf ln)):=⟨Hvw.out.later hb5⟩
  have R5:=Away.mk r5
  have HW5:=Away.mk hW5
  clear hb4 hW5 r5 hs5 b5 hb5 c3
  have hz:=hz9
  go_wp2_with (first
   | (refine wpList_store_new rfl 76 _ _ rfl F rfl rfl Fi.out (by exact Fz.out) Fo.out rfl ?_)
   | (rw[HW5.out]))
  clear hz
  refine hk_begin (W5.heap.size) 17 [0,1,2,3,4,5,6,7,10,11,12,8,9,13,14,15,16] (by kernel_rfl) rfl rfl (by decide) (fun hS ops HO=>?_)
  simp only[List.filterMap_cons,fa,List.getElem?_cons_succ,List.getElem?_cons_zero]
  iterate 3 ((refine hk_t (v:=?_) (by rw[←HO.out];kernel_rfl) (fun _ _ _ h=>h) ?_ hS ?_;rotate_left;focus (intro w9 h9;go_simp;first | done | with_reducible rfl);all_goals skip);simp only[Act.put,pa,pb,pc])
  (refine hk_t (v:=?_) (by rw[←HO.out];kernel_rfl) (fun _ _ _ h=>h) ?_ hS ?_;rotate_left;focus (intro w9 h9;have hc:=(fun w9 h9=>C5.out w9 (E7.out.trans (h9.mono E7.out.size))) w9 h9;go_simp;first | done | with_reducible rfl);all_goals skip)
  iterate 3 (simp only[Act.put,pa,pb,pc];(refine hk_t (v:=?_) (by rw[←HO.out];kernel_rfl) (fun _ _ _ h=>h) ?_ hS ?_;rotate_left;focus (intro w9 h9;go_simp;first | done | with_reducible rfl);all_goals skip))
  simp only[Act.put,pa,pb,pc]
  refine hk_l (by rw[←HO.out];kernel_rfl) (fun _ _ _ _ h=>h) 76 _ rfl w4.heap.size rfl 76 F _ (fun w1 h1=>(h1.block _ (lt_of_row R5.out)).trans R5.out) Tryz.underlying76 rfl Fi.out hS ?_
  simp only[Act.put,pa,pb,pc]
  (refine hk_t (v:=?_) (by rw[←HO.out];kernel_rfl) (fun _ _ _ h=>h) ?_ hS ?_;rotate_left;focus (intro w9 h9;go_simp;first | done | with_reducible rfl);all_goals skip)
  simp only[Act.put,pa,pb,pc]
  (refine hk_t (v:=?_) (by rw[←HO.out];kernel_rfl) (fun _ _ _ h=>h) ?_ hS ?_;rotate_left;focus (intro w9 h9;have hc:=(fun w9 h9=>C7.out w9 (E7.out.trans (h9.mono E7.out.size))) w9 h9;go_simp;first | done | with_reducible rfl);all_goals skip)
  simp only[Act.put,pa,pb,pc]
  (refine hk_t (v:=?_) (by rw[←HO.out];kernel_rfl) (fun _ _ _ h=>h) ?_ hS ?_;rotate_left;focus (intro w9 h9;go_simp;first | done | with_reducible rfl);all_goals skip)
  simp only[Act.put,pa,pb,pc]
  have k7:Below u3.heap.size u3 W5.drew:=E37.out.trans (hS.mono E37.out.size)
  refine hk_s (by rw[←HO.out];kernel_rfl) (fun K hK=>?_)
  go_simp
  refine(HCo.out _ _ _ _ (TB.out _ (E7.out.trans (hS.mono E7.out.size))) (Hw7.out.later hS) (Hk3.out.later k7) (Hh3.out.later k7)).mono ?_
  rintro x w8 ⟨rfl,hb8⟩
  have h8:=hS.trans (hb8.mono hS.size)
  refine hK _ _ h8 ?_
  clear hK K
  try simp only[Act.put,pa,pb,pc]
  (refine hk_t (v:=?_) (by rw[←HO.out];kernel_rfl) (fun _ _ _ h=>h) ?_ h8 ?_;rotate_left;focus (intro w9 h9;go_simp;first | done | with_reducible rfl);all_goals skip)
  simp only[Act.put,pa,pb,pc]
  refine hk_s (by rw[←HO.out];kernel_rfl) (fun K hK=>?_)
  go_simp
  refine(HS3.out _ (GP.out _ (E7.out.trans (h8.mono E7.out.size))) (TB.out _ (E7.out.trans (h8.mono E7.out.size)))).mono ?_
  rintro x w10 ⟨rfl,hb10⟩
  have h10:=h8.trans (hb10.mono h8.size)
  refine hK _ _ h10 ?_
  clear hK K
  try simp only[Act.put,pa,pb,pc]
  iterate 3 ((refine hk_t (v:=?_) (by rw[←HO.out];kernel_rfl) (fun _ _ _ h=>h) ?_ h10 ?_;rotate_left;focus (intro w9 h9;go_simp;first | done | with_reducible rfl);all_goals skip);simp only[Act.put,pa,pb,pc])
  refine hk_nil (by rw[←HO.out];kernel_rfl) ?_
  have D9:Away (Below w.heap.size w w10):=⟨BW.out.trans ((E7.out.trans (h10.mono E7.out.size)).mono BW.out.size)⟩
  clear hS HO k7 hb8 h8 hb10 h10 x2
  go_wp2_with fail
  go_ret2
  rw[←hbt.out,←str_eq]
  exact⟨rfl,D9.out⟩
theorem inner_any {T:Array Value} (Z:Nat→Int) (kn ln:Nat) (e t a b o s:Int) (pk m x:ByteArray) (w:World) (hK:KT T TL RL) (hT:nthere.ZT T Z) (hP:Gp w) (h:latt (kn:Int) (ln:Int) e t a b o s=true) (hm:m.size≤100000):
 Calls Tryz.prog 11 #[.agg T,.agg #[.int .i64 (kn:Int),.int .i64 (ln:Int),.int .i64 e,.int .i64 t,.int .i64 a,.int .i64 b,.int .i64 o,.int .i64 s],.string pk,.string m,.string x] w fun y w'=>y=.returned (resV (fun k=>Z k%8380417) kn ln e t a b o s pk m x)∧Below w.heap.size w w':=by
 obtain⟨hk,hl,-,-,ho,hs⟩:=latt_all h
 have hTs:=hT.size
 unfold resV
 by_cases hp:pk.size=32+320*kn
 ·have HPu:∀ w1:World,Calls Tryz.prog 29 #[.agg #[.int .i64 (kn:Int),.int .i64 (ln:Int),.int .i64 e,.int .i64 t,.int .i64 a,.int .i64 b,.int .i64 o,.int .i64 s],.string pk] w1 fun r w'=>(∃ v,r=.returned (.tuple #[.string (pk.extract 0 32),v,.int .i64 0])∧Holds w' 0 v kn (rdU pk 32 10))∧Below w1.heap.size w1 w':=fun w1=>by
   refine(kpu.public_good kn (ln:Int) e t a b o s pk w1 h hp).mono ?_
   rintro r w' ⟨⟨v,rfl,hv⟩,hb⟩
   exact⟨⟨v,rfl,rkse.holds_base hv⟩,hb⟩
  by_cases hok:okV x kn ln a o s
  ·rw[if_pos ⟨hp,hok⟩]
   refine inner_of Z kn ln e t a b o s pk m x _ _ _ _ _ w hK hT hP h hm (by omega) (by rw[ByteArray.size_extract];omega) (by unfold vS;rw[ByteArray.size_extract];omega) HPu fun w1=>?_
   refine(vpc.parse_any kn ln e t a b o s x w1 h).mono ?_
   rintro r w' ⟨⟨v,rfl,⟨-,v1,v2,rfl,q1,q2⟩ | ⟨hno,-⟩⟩,hb⟩
   ·exact⟨⟨v1,v2,rfl,rkse.holds_base q1,rkse.holds_base q2⟩,hb⟩
   ·exact absurd hok hno
  ·rw[if_neg fun hh=>hok hh.2]
   have HPa0:∀ w1:World,Calls Tryz.prog 13 #[.agg #[.int .i64 (kn:Int),.int .i64 (ln:Int),.int .i64 e,.int .i64 t,.int .i64 a,.int .i64 b,.int .i64 o,.int .i64 s],.string x] w1 fun r w'=>r=.returned (.tuple #[.string ⟨#[]⟩,.slice none 0 0,.slice none 0 0,.int .i64 3])∧Below w1.heap.size w1 w':=fun w1=>by
    refine(vpc.parse_any kn ln e t a b o s x w1 h).mono ?_
    rintro r w' ⟨⟨v,rfl,⟨hyes,-⟩ | ⟨-,rfl⟩⟩,hb⟩
    ·exact absurd hyes hok
    ·exact⟨rfl,hb⟩
   have HTz:Away ((Tryz.prog.info? 34).map (·.size)=some T.size):=⟨by rw[hTs];kernel_rfl⟩
   obtain⟨L,HL⟩:=ex_eq (#[.int .i64 (kn:Int),.int .i64 (ln:Int),.int .i64 e,.int .i64 t,.int .i64 a,.int .i64 b,.int .i64 o,.int .i64 s]:Array Value)
   have HLs:Away ((Tryz.prog.info? 37).map (·.size)=some L.size):=⟨by rw[←HL.out];kernel_rfl⟩
   obtain⟨W,hW⟩:∃ x,(w.alloc (.cells T 34)).alloc (.cells L 37)=x:=⟨_,rfl⟩
   obtain⟨r0,r1,hWs,b0⟩:=two hW
   have TB:Away (∀ w':World,Below W.heap.size W w'→w'.heap[w.heap.size]? = some (.cells T 34 (0,0))):=⟨fun w' hb=>(hb.block _ (lt_of_row r0)).trans r0⟩
   have LB:Away (∀ w':World,Below W.heap.size W w'→w'.heap[w.heap.size+1]? = some (.cells L 37 (0,0))):=⟨fun w' hb=>(hb.block _ (lt_of_row r1)).trans r1⟩
   have GP:Away (∀ w':World,Below W.heap.size W w'→Gp w'):=⟨fun w' hb=>hP.later (b0.trans (hb.mono b0.size))⟩
   have BW:=Away.mk b0
   have HW:=Away.mk hW
   rw[HL.out]at HPu HPa0 ⊢
   have HPu:=Away.mk HPu
   have HPa:=Away.mk HPa0
   clear hW r0 r1 hWs b0 hP hK hT h hm hk hl ho hs hp hok hTs HPa0
   go_enter Tryz.func11,Tryz.ntmps11
   go_wp2_with (first
    | (rw[HW.out])
    | (refine wpList_load_row rfl 37 _ rfl (w.heap.size+1) rfl 37 _ (0,0) _ (LB.out _ (Below.refl _ _)) Tryz.underlying37 rfl HLs.out ?_))
   refine(HPu.out _).mono ?_
   rintro y u1 ⟨⟨vk,rfl,-⟩,hb1⟩
   have E1:Away (Below W.heap.size W u1):=⟨hb1⟩
   clear hb1
   go_wp2_with (refine wpList_load_row rfl 37 _ rfl (w.heap.size+1) rfl 37 _ (0,0) _ (LB.out _ E1.out) Tryz.underlying37 rfl HLs.out ?_)
   refine(HPa.out _).mono ?_
   rintro y u2 ⟨rfl,hb2⟩
   have D2:Away (Below w.heap.size w u2):=⟨BW.out.trans ((E1.out.trans (hb2.mono E1.out.size)).mono BW.out.size)⟩
   clear hb2
   go_wp2_with fail
   go_ret2
   exact⟨rfl,D2.out⟩
 ·rw[if_neg fun hh=>hp hh.1]
  have HPu0:∀ w1:World,Calls Tryz.prog 29 #[.agg #[.int .i64 (kn:Int),.int .i64 (ln:Int),.int .i64 e,.int .i64 t,.int .i64 a,.int .i64 b,.int .i64 o,.int .i64 s],.string pk] w1 fun r w'=>r=.returned (.tuple #[.string ⟨#[]⟩,.slice none 0 0,.int .i64 3])∧Below w1.heap.size w1 w':=fun w1=>kpu.public_len (kn:Int) (ln:Int) e t a b o s pk w1 h (by unfold sz1;omega)
  have HTz:Away ((Tryz.prog.info? 34).map (·.size)=some T.size):=⟨by rw[hTs];kernel_rfl⟩
  obtain⟨L,HL⟩:=ex_eq (#[.int .i64 (kn:Int),.int .i64 (ln:Int),.int .i64 e,.int .i64 t,.int .i64 a,.int .i64 b,.int .i64 o,.int .i64 s]:Array Value)
  have HLs:Away ((Tryz.prog.info? 37).map (·.size)=some L.size):=⟨by rw[←HL.out];kernel_rfl⟩
  obtain⟨W,hW⟩:∃ x,(w.alloc (.cells T 34)).alloc (.cells L 37)=x:=⟨_,rfl⟩
  obtain⟨r0,r1,hWs,b0⟩:=two hW
  have TB:Away (∀ w':World,Below W.heap.size W w'→w'.heap[w.heap.size]? = some (.cells T 34 (0,0))):=⟨fun w' hb=>(hb.block _ (lt_of_row r0)).trans r0⟩
  have LB:Away (∀ w':World,Below W.heap.size W w'→w'.heap[w.heap.size+1]? = some (.cells L 37 (0,0))):=⟨fun w' hb=>(hb.block _ (lt_of_row r1)).trans r1⟩
  have GP:Away (∀ w':World,Below W.heap.size W w'→Gp w'):=⟨fun w' hb=>hP.later (b0.trans (hb.mono b0.size))⟩
  have BW:=Away.mk b0
  have HW:=Away.mk hW
  rw[HL.out]at HPu0 ⊢
  have HPu:=Away.mk HPu0
  clear hW r0 r1 hWs b0 hP hK hT h hm hk hl ho hs hp hTs HPu0
  go_enter Tryz.func11,Tryz.ntmps11
  go_wp2_with (first
   | (rw[HW.out])
   | (refine wpList_load_row rfl 37 _ rfl (w.heap.size+1) rfl 37 _ (0,0) _ (LB.out _ (Below.refl _ _)) Tryz.underlying37 rfl HLs.out ?_))
  refine(HPu.out _).mono ?_
  rintro y u1 ⟨rfl,hb1⟩
  have D1:Away (Below w.heap.size w u1):=⟨BW.out.trans (hb1.mono BW.out.size)⟩
  clear hb1
  go_wp2_with fail
  go_ret2
  exact⟨rfl,D1.out⟩
theorem verify_gen {T:Array Value} (k l e t a b o s:Int) (pk m c x:ByteArray) (w:World) (hTs:T.size=465) (hP:Gp w) (F:ByteArray→Value) (hF:∀ m,∃ (y:Bool) (c:Int),F m=.tuple #[.bool y,.int .i64 c])
 (HI:∀ (m:ByteArray) (w1:World),Gp w1→m.size≤100000→Calls Tryz.prog 11 #[.agg T,.agg #[.int .i64 k,.int .i64 l,.int .i64 e,.int .i64 t,.int .i64 a,.int .i64 b,.int .i64 o,.int .i64 s],.string pk,.string m,.string x] w1 fun y w'=>y=.returned (F m)∧Below w1.heap.size w1 w'):
 Calls Tryz.prog 9 #[.agg T,.agg #[.int .i64 k,.int .i64 l,.int .i64 e,.int .i64 t,.int .i64 a,.int .i64 b,.int .i64 o,.int .i64 s],.string pk,.string m,.string c,.string x] w fun y w'=>y=.returned (if c.size≤255∧m.size≤60000 then F (msg c m) else .tuple #[.bool false,.int .i64 5])∧Below w.heap.size w w':=by
 have HTz:Away ((Tryz.prog.info? 34).map (·.size)=some T.size):=⟨by rw[hTs];kernel_rfl⟩
 obtain⟨L,HL⟩:=ex_eq (#[.int .i64 k,.int .i64 l,.int .i64 e,.int .i64 t,.int .i64 a,.int .i64 b,.int .i64 o,.int .i64 s]:Array Value)
 have HLs:Away ((Tryz.prog.info? 37).map (·.size)=some L.size):=⟨by rw[←HL.out];kernel_rfl⟩
 obtain⟨W,hW⟩:∃ x,(w.alloc (.cells T 34)).alloc (.cells L 37)=x:=⟨_,rfl⟩
 obtain⟨r0,r1,hWs,b0⟩:=two hW
 have TB:Away (∀ w':World,Below W.heap.size W w'→w'.heap[w.heap.size]? = some (.cells T 34 (0,0))):=⟨fun w' hb=>(hb.block _ (lt_of_row r0)).trans r0⟩
 have LB:Away (∀ w':World,Below W.heap.size W w'→w'.heap[w.heap.size+1]? = some (.cells L 37 (0,0))):=⟨fun w' hb=>(hb.block _ (lt_of_row r1)).trans r1⟩
 have GP:Away (∀ w':World,Below W.heap.size W w'→Gp w'):=⟨fun w' hb=>hP.later (b0.trans (hb.mono b0.size))⟩
 have BW:=Away.mk b0
 have HW:=Away.mk hW
 have HI0:∀ (m:ByteArray) (w1:World),Gp w1→m.size≤100000→Calls Tryz.prog 11 #[.agg T,.agg L,.string pk,.string m,.string x] w1 fun y w'=>y=.returned (F m)∧Below w1.heap.size w1 w':=fun m w1 q1 q2=>by
  rw[←HL.out]
  exact HI m w1 q1 q2
 rw[HL.out]
 clear hW r0 r1 hWs b0 hP
 by_cases hm:c.size≤255∧m.size≤60000
 ·rw[if_pos hm]
  have HMs:Away (∀ w1:World,Calls Tryz.prog 27 #[.string c,.string m] w1 fun e w'=>e=.returned (.tuple #[.string (msg c m),.int .i64 0])∧Below w1.heap.size w1 w'):=⟨fun w1=>mgi.message_good c m w1 hm.1 hm.2⟩
  have hms:(msg c m).size≤100000:=by rw[mlsb.msg_size];omega
  have HIn:=Away.mk (fun w1 q1=>HI0 (msg c m) w1 q1 hms)
  obtain⟨M,hM⟩:∃ y,msg c m=y:=⟨_,rfl⟩
  rw[hM]at HMs HIn ⊢
  obtain⟨V1,V2,hV⟩:=hF M
  rw[hV]at HIn ⊢
  clear HI0 hm hM hms hV HI hF
  go_enter Tryz.func9,Tryz.ntmps9
  go_wp2_with (rw[HW.out])
  refine(HMs.out _).mono ?_
  rintro y u1 ⟨rfl,hb1⟩
  have E1:Away (Below W.heap.size W u1):=⟨hb1⟩
  clear hb1
  go_wp2_with (first
   | (refine wpList_load_row rfl 34 _ rfl w.heap.size rfl 34 _ (0,0) _ (TB.out _ E1.out) Tryz.underlying34 rfl HTz.out ?_)
   | (refine wpList_load_row rfl 37 _ rfl (w.heap.size+1) rfl 37 _ (0,0) _ (LB.out _ E1.out) Tryz.underlying37 rfl HLs.out ?_))
  refine(HIn.out _ (GP.out _ E1.out)).mono ?_
  rintro y u2 ⟨rfl,hb2⟩
  have D2:Away (Below w.heap.size w u2):=⟨BW.out.trans ((E1.out.trans (hb2.mono E1.out.size)).mono BW.out.size)⟩
  clear hb2
  go_wp2_with fail
  go_ret2
  exact⟨rfl,D2.out⟩
 ·rw[if_neg hm]
  have HMs:Away (∀ w1:World,Calls Tryz.prog 27 #[.string c,.string m] w1 fun e w'=>e=.returned (.tuple #[.string ⟨#[]⟩,.int .i64 5])∧w'=w1):=⟨fun w1=>mgi.message_bad c m w1 (by omega)⟩
  clear HI0 hm HI hF
  go_enter Tryz.func9,Tryz.ntmps9
  go_wp2_with (rw[HW.out])
  refine(HMs.out _).mono ?_
  rintro y u1 ⟨rfl,h1⟩
  rw[h1]
  clear h1 u1
  go_wp2_with fail
  go_ret2
  exact⟨rfl,BW.out⟩
end Go.Proofs.YtomphjajkkddkaaGreatDoor.vpi
namespace Go.Proofs.YtomphjajkkddkaaGreatDoor
namespace nttt
open tabt nttm nttp
def ζ (k:Nat):Int:=((zt k:Nat):Int)
def ρ (k:Nat):Int:=if k=1 then -1 else if k%2=0 then ζ (k / 2) else - ζ (k / 2)
theorem inv_nat:∀ m:Fin 8,∀ t:Fin 128,t.val<2 ^ m.val→(zt (2 ^ m.val+t.val)*zt (2*2 ^ m.val-1-t.val)+1)%8380417=0:=by decide +kernel
theorem sq_even:∀ k:Fin 128,0<k.val→zt (2*k.val)*zt (2*k.val)%8380417=zt k.val%8380417:=by decide +kernel
theorem sq_odd:∀ k:Fin 128,0<k.val→(zt (2*k.val+1)*zt (2*k.val+1)+zt k.val)%8380417=0:=by decide +kernel
theorem sq_top:(zt 1*zt 1+1)%8380417=0:=by decide +kernel
theorem inv_doc:Inv ζ := by
 intro m hm t ht
 have h128 : 2 ^ m≤128:=Nat.le_trans (Nat.pow_le_pow_right (by decide) hm) (by decide)
 have h:=inv_nat ⟨m,by omega⟩ ⟨t,by omega⟩ ht
 unfold Cg ζ
 rw[←Int.natCast_mul]
 simp only at h
 generalize zt (2 ^ m+t)*zt (2*2 ^ m-1-t)=x at h ⊢
 omega
theorem sq_doc:Sq ζ ρ where
 top:=by unfold ρ;rw[if_pos rfl];exact cg_refl _
 sq:=by
  intro k h0 h
  unfold ρ
  by_cases h1:k=1
  ·subst h1
   rw[if_pos rfl]
   have h9:=sq_top
   unfold Cg ζ
   rw[←Int.natCast_mul]
   generalize zt 1*zt 1=x at h9 ⊢
   omega
  ·rw[if_neg h1]
   by_cases h2:k%2=0
   ·rw[if_pos h2]
    have h9:=sq_even ⟨k / 2,by omega⟩ (by show 0<k / 2;omega)
    simp only at h9
    rw[show 2*(k / 2)=k by omega]at h9
    unfold Cg ζ
    rw[←Int.natCast_mul]
    generalize zt k*zt k=x at h9 ⊢
    omega
   ·rw[if_neg h2]
    have h9:=sq_odd ⟨k / 2,by omega⟩ (by show 0<k / 2;omega)
    simp only at h9
    rw[show 2*(k / 2)+1=k by omega]at h9
    unfold Cg ζ
    rw[←Int.natCast_mul]
    generalize zt k*zt k=x at h9 ⊢
    omega
 lo:=by
  intro k h0 h
  unfold ρ
  rw[if_neg (by omega),if_pos (by omega),show 2*k / 2=k by omega]
  exact cg_refl _
 hi:=by
  intro k h0 h
  unfold ρ
  rw[if_neg (by omega),if_neg (by omega),show (2*k+1) / 2=k by omega]
  exact cg_refl _
end nttt
end Go.Proofs.YtomphjajkkddkaaGreatDoor
namespace Go.Proofs.YtomphjajkkddkaaGreatDoor
namespace kcon
set_option linter.unusedSimpArgs false
open Go Go.RowKit
open arr mem polys polt pols rbita rbite saml samr samc rsdoc kturn mlkm mlkb rksz rkpb rksb rkse rkrw mlkd kkey kaw tabm tabt tabv
open rndm (latt)
section
variable (kn ln:Nat) (e t a b o s:Int) (sd:ByteArray) (h:latt (kn:Int) (ln:Int) e t a b o s=true)
include h
theorem pub (w:World):Calls Tryz.prog 29 #[.agg #[.int .i64 (kn:Int),.int .i64 (ln:Int),.int .i64 e,.int .i64 t,.int .i64 a,.int .i64 b,.int .i64 o,.int .i64 s],.string (pPk ζd sd kn ln e)] w fun r w'=>(∃ v,r=.returned (.tuple #[.string (pRho sd kn ln),v,.int .i64 0])∧Holds w' 0 v kn (pHi ζd sd kn ln e))∧Below w.heap.size w w':=by
 refine(kpu.public_good kn ln e t a b o s (pPk ζd sd kn ln e) w h (pPk_size _ _ _ _ _)).mono ?_
 rintro r w' ⟨⟨v,rfl,hv⟩,hb⟩
 rw[pk_rho]
 exact⟨⟨v,rfl,holds_congr (rkse.holds_base hv) fun i hi k hk=>pk_high ζd sd kn ln e i hi k hk⟩,hb⟩
end
end kcon
end Go.Proofs.YtomphjajkkddkaaGreatDoor
