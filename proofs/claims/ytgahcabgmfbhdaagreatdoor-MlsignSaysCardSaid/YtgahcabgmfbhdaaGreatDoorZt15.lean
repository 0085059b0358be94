/-
  What the document's own try of layer 13 returns: a signature, or that it will not do. Conditions: th
-/
import Derived.Test.YtgahcabgmfbhdaaGreatDoorZt11
import Derived.Test.YtgahcabgmfbhdaaGreatDoorZt14
import Derived.Test.YtgahcabgmfbhdaaGreatDoorZt09
import Derived.Test.YtgahcabgmfbhdaaGreatDoorZt10
import Derived.Test.YtgahcabgmfbhdaaGreatDoorZt13
import Derived.Test.YtgahcabgmfbhdaaGreatDoorZt03
import Derived.Test.YtgahcabgmfbhdaaGreatDoorZt02
import Derived.Test.YtgahcabgmfbhdaaGreatDoorZt07
import Derived.Great.BuildSlice
import Derived.WalkMore
set_option maxRecDepth 100000
set_option maxHeartbeats 16000000
set_option linter.unusedSimpArgs false
set_option linter.unusedVariables false
open Go Go.RowKit
namespace Go.Proofs.YtgahcabgmfbhdaaGreatDoor
namespace rgc
open arr mem stil polys polt pols nttl rndm saml spok rsdoc mlkm mlsm keca kstep rkpb rkrw helda heldb mgd mgr rgd rbita rbitb rbitd rbite rbith bitp qops
def resT(S:Sg)(n:Nat):Value:=if tOk S n=true then .tuple #[.string (tSig S n),.bool true] else .tuple #[.string ⟨#[]⟩,.bool false]
theorem xui{S:Sg}{n:Nat}(h:¬ tOk S n=true):resT S n=.tuple #[.string ⟨#[]⟩,.bool false]:=if_neg h
theorem infoLz:(Tryz.prog.info? 37).map (fun i=>(i.zero,i.size))=some (some (.agg (zLt 0 0 0 0 0 0 0 0)),8):=by kernel_rfl
theorem xv4{T:Array Value}{S:Sg}(Z:Nat→Int)(n fr gm cm ga ca gb cb gl cl:Nat)(w:World)(hO:OKS T Z S)(hn:n<814)(hfr:n*S.ln=fr)(HM:MX w (.slice (some ⟨gm,0,none⟩) S.kn cm) S.kn (fun _=>S.ln) (qX S.rho))(Ha:Holds w 0 (.slice (some ⟨ga,0,none⟩) S.ln ca) S.ln S.A)(Hb':Holds w 0 (.slice (some ⟨gb,0,none⟩) S.kn cb) S.kn S.B)(Hl:Holds w 0 (.slice (some ⟨gl,0,none⟩) S.kn cl) S.kn S.C):
 Calls Tryz.prog 32 #[.agg T,.agg (RG S.kn S.ln S.e S.t S.a S.b S.o S.s (.slice (some ⟨gm,0,none⟩) S.kn cm) (.slice (some ⟨ga,0,none⟩) S.ln ca) (.slice (some ⟨gb,0,none⟩) S.kn cb) (.slice (some ⟨gl,0,none⟩) S.kn cl) S.mu S.ms),.int .i64 (fr:Int)] w (zB w (resT S n)):=by
 obtain⟨hk,hl,he,ht,ha,hbb,ho,hs⟩:=xgd hO;obtain⟨m,hm⟩:=zev (S.t*S.e);have hm2 : 0≤m∧m≤256:=by rw[←hm];rcases he with h | h<;>rw[h]<;>omega
 have hmw:IntKind.i64.wrap (S.t*S.e)=m:=by rw[hm,IntKind.wrap_i64];omega
 have hf1:fr≤65000:=by
  have:n*S.ln≤813*8:=Nat.mul_le_mul (by omega) hl.2;omega
 obtain⟨lam,hlam⟩:=zev ((S.s / 4).toNat);have hl4:(S.s / 4:Int)=(lam:Int):=by omega
 have hl4t:Int.tdiv S.s 4=(lam:Int):=by rw[Int.tdiv_eq_ediv_of_nonneg (by omega)];exact hl4
 have hlam2:lam≤64:=by omega
 have hlw:IntKind.i64.wrap (lam:Int)=(lam:Int):=zwi;have hR:∀ k,k<256→T[209+k]? = some (.int .i64 (Z k)):=hO.zt.z;have HMk0:∀ w1:World,Calls Tryz.prog 71 #[.agg T,.agg #[.int .i64 S.kn,.int .i64 S.ln,.int .i64 S.e,.int .i64 S.t,.int .i64 S.a,.int .i64 S.b,.int .i64 S.o,.int .i64 S.s],.string S.ms,.int .i64 (fr:Int)] w1 fun x w'=>(∃ v1,x=.returned v1∧Holds w' 0 v1 S.ln (tY S n))∧Below w1.heap.size w1 w':=fun w1=>by
  have h:=rsdoc.masks S.ln fr S.kn S.e S.t S.a S.b S.o S.s S.ms w1 hO.kt hf1 hO.lat (by rw[hO.ms];decide);refine h.mono ?_;rintro x w' ⟨⟨v,rfl,ho⟩,hb⟩;have h2:=saml.xcc hl.1 ho;rw[←hfr]at h2;exact⟨⟨v,rfl,rkse.xbx h2⟩,hb⟩
 have HRw0:∀ (w1:World) (vv:Value) (B:Nat),MX w1 (.slice (some ⟨gm,0,none⟩) S.kn cm) S.kn (fun _=>S.ln) (qX S.rho)→Holds w1 B vv S.ln (tY S n)→Calls Tryz.prog 72 #[.agg T,.slice (some ⟨gm,0,none⟩) S.kn cm,vv] w1 fun e' w'=>(∃ v',e'=.returned v'∧Holds w' 0 v' S.kn (tW S n))∧Below w1.heap.size w1 w':=fun w1 vv B h1 h2=>by
  have h3:=rkrw.xin T Z S.kn S.ln (fun _=>S.ln) (qX S.rho) (tY S n) _ vv B w1 hO.zt.size hR hk.2 (fun _ _=>hl.2) hl h1 h2;simp only[Nat.min_self,←hO.ez]at h3;refine h3.mono ?_;rintro x w' ⟨⟨v,rfl,ho⟩,hb⟩;exact⟨⟨v,rfl,rkse.xbx (saml.xcc hk.1 ho)⟩,hb⟩
 obtain⟨Hi,hHi⟩:=xaa (cat ByteArray.empty (fun i=>packed (tHi S n i) (8380416 / (2*S.b)-1)) S.kn);have HPh0:∀ (w1:World) (vv:Value) (B:Nat),Holds w1 B vv S.kn (tW S n)→Calls Tryz.prog 73 #[.agg #[.int .i64 S.kn,.int .i64 S.ln,.int .i64 S.e,.int .i64 S.t,.int .i64 S.a,.int .i64 S.b,.int .i64 S.o,.int .i64 S.s],vv] w1 (zB w1 (.string Hi)):=fun w1 vv B h2=>by
  rw[←hHi.out];exact rga.xc7 S.kn S.kn S.ln S.e S.t S.a S.b S.o S.s vv B (tW S n) w1 hbb hk h2
 have hHs:Hi.size≤10000:=by
  rw[←hHi.out];have h1:∀ m,(cat ByteArray.empty (fun i=>packed (tHi S n i) (8380416 / (2*S.b)-1)) m).size=32*lb ((8380416:Int) / (2*S.b)-1).toNat*m:=fun m=>by
   rw[xf0 _ _ (32*lb ((8380416:Int) / (2*S.b)-1).toNat) m fun _ _=>xcr _ _];exact Nat.zero_add _
  rw[h1];have h2:lb ((8380416:Int) / (2*S.b)-1).toNat≤6:=by rcases hbb with h | h<;>rw[h]<;>decide +kernel
  have h3:=Nat.mul_le_mul (Nat.mul_le_mul (Nat.le_refl 32) h2) hk.2;omega
 have hsum:out TL RL 2 (S.mu++Hi) lam=tSum S n:=by
  unfold tSum;rw[←hlam,←hHi.out,xji]
 have HSh0:∀ w1:World,Calls Tryz.prog 31 #[.agg T,.int .i64 2,.string (S.mu++Hi),.int .i64 (lam:Int)] w1 (zB w1 (.tuple #[.string (tSum S n),.int .i64 0])):=fun w1=>by
  rw[←hsum];exact rsph.xff 2 _ lam w1 hO.kt rfl (by omega) (by rw[ByteArray.size_append,hO.mu];omega)
 have hss:(tSum S n).size≤64:=by rw[mlsb.xfk,hlam];exact hlam2
 have HBa0:∀ w1:World,Calls Tryz.prog 74 #[.agg T,.string (tSum S n),.int .i64 S.t] w1 (zB w1 (.agg (FL .i64 256 (tC S n)))):=fun w1=>rsdoc.ball (tSum S n) S.t w1 hO.kt (by omega)
 have HOn0:∀ (m:Nat) (vv:Value) (B:Nat) (y:Nat→Nat→Int) (w1:World),1≤m∧m≤8→Holds w1 B vv m y→Calls Tryz.prog 75 #[.agg T,.agg (FL .i64 256 (tC S n)),vv] w1 fun e w'=>(∃ v',e=.returned v'∧Holds w' 0 v' m (fun i=>one S.ζ (tC S n) (y i)))∧Below w1.heap.size w1 w':=fun m vv B y w1 h1 h2=>by
  refine(rga.xko Z (tC S n) m vv B y w1 hO.zt.size hR h1 h2).mono ?_;rintro x w' ⟨⟨v,rfl,ho⟩,hb⟩;rw[hO.ez];exact⟨⟨v,rfl,rkse.xbx (saml.xcc h1.1 ho)⟩,hb⟩
 obtain⟨pA,hpa⟩:=xaa (fun i=>one S.ζ (tC S n) (S.A i));obtain⟨pB,hpb⟩:=xaa (fun i=>one S.ζ (tC S n) (S.B i));have hcl:(fun i=>one S.ζ (tC S n) (S.C i))=tCl S n:=rfl;have HAd0:∀ r,∀ w1:World,Calls Tryz.prog 76 #[.agg (FL .i64 256 (tY S n r)),.agg (FL .i64 256 (pA r))] w1 (zB w1 (.agg (FL .i64 256 (tZ S n r)))):=fun r w1=>by rw[←hpa.out];exact radd.xcj _ _ w1
 have HSu0:∀ r,∀ w1:World,Calls Tryz.prog 78 #[.agg (FL .i64 256 (tW S n r)),.agg (FL .i64 256 (pB r))] w1 (zB w1 (.agg (FL .i64 256 (tV S n r)))):=fun r w1=>by rw[←hpb.out];exact r7sb.xfj _ _ w1
 have HLo0:∀ r,∀ w1:World,Calls Tryz.prog 77 #[.agg (FL .i64 256 (tV S n r)),.int .i64 S.b] w1 (zB w1 (.agg (FL .i64 256 (tLo S n r)))):=fun r w1=>r9lo.xkd _ _ w1
 have HHn0:∀ (w1:World) (vw vb vl:Value) (Bw Bb Bl:Nat),Holds w1 Bw vw S.kn (tW S n)→Holds w1 Bb vb S.kn pB→Holds w1 Bl vl S.kn (tCl S n)→Calls Tryz.prog 80 #[.agg #[.int .i64 S.kn,.int .i64 S.ln,.int .i64 S.e,.int .i64 S.t,.int .i64 S.a,.int .i64 S.b,.int .i64 S.o,.int .i64 S.s],vw,vb,vl] w1 fun x w'=>(∃ v',x=.returned (.tuple #[v',.int .i64 ((tot (tHn S n) S.kn:Nat):Int)])∧Holds w' 0 v' S.kn (tHn S n))∧Below w1.heap.size w1 w':=fun w1 vw vb vl Bw Bb Bl h1 h2 h3=>by
  refine(rgb.xc8 S.kn S.kn S.ln S.e S.t S.a S.b S.o S.s vw vb vl Bw Bb Bl (tW S n) pB (tCl S n) w1 hk h1 h2 h3).mono ?_;rw[show rgb.hq S.b (tW S n) pB (tCl S n)=tHn S n by rw[←hpb.out];rfl];rintro x w' ⟨⟨v,rfl,ho⟩,hb⟩;exact⟨⟨v,rfl,rkse.xbx (saml.xcc hk.1 ho)⟩,hb⟩
 have HSz0:∀ (g c m:Nat) (q:Nat→Nat→Int) (w1:World),1≤m∧m≤8→Holds w1 0 (.slice (some ⟨g,0,none⟩) m c) m q→Calls Tryz.prog 79 #[.slice (some ⟨g,0,none⟩) m c] w1 (zB w1 (.int .i64 (fldm.cbs q m))):=fun g c m q w1 hm' h=>by
  have hg:g<w1.heap.size:=by
   obtain⟨g9,c9,e9,-,h9,-⟩:=h;injection e9 with e9 _ _
   iterate 2 (injection e9 with e9)
   rw[e9];exact h9
  exact r7sz.xb1 g m c q w1 (by omega) hg fun j hj=>by rw[Nat.mul_comm];exact xax h j hj
 obtain⟨om,hom⟩:=Int.eq_ofNat_of_zero_le (a:=S.o) (by omega);have hom2 : 1≤om∧om≤100:=by omega
 have HSi0:tOk S n=true→∀ r,r<S.ln→∀ w1:World,Calls Tryz.prog 81 #[.agg (FL .i64 256 (tZ S n r)),.int .i64 (S.a-1),.int .i64 S.a] w1 (zB w1 (.tuple #[.string (packed (sg (tZ S n r) S.a) (S.a-1+S.a)),.int .i64 0])):=fun h r hr w1=>by
  have h1:=rbite.xit (tZ S n r) (S.a-1) S.a w1 (by omega) (by omega) (by omega) (by omega);rw[if_pos (mlsb.tZ_in h (by omega) (by omega) r hr)]at h1;exact h1
 have HHb0:tot (tHn S n) S.kn≤om→∀ (g c:Nat) (w1:World),Holds w1 0 (.slice (some ⟨g,0,none⟩) S.kn c) S.kn (tHn S n)→Calls Tryz.prog 82 #[.slice (some ⟨g,0,none⟩) S.kn c,.int .i64 (om:Int)] w1 (zB w1 (.tuple #[.string ⟨(u8s (lay (tHn S n) om S.kn S.kn)).toArray⟩,.int .i64 0])):=fun ht g c w1 h=>by
  have hg:g<w1.heap.size:=by
   obtain⟨g9,c9,e9,-,h9,-⟩:=h;injection e9 with e9 _ _
   iterate 2 (injection e9 with e9)
   rw[e9];exact h9
  have h1:=rbith.xc8 (tHn S n) g 0 c S.kn om w1 hg hk.1 hk.2 hom2.1 (by omega) (fun i hi=>by rw[Nat.zero_add,Nat.mul_comm];exact xax h i hi);rw[if_pos ht]at h1;exact h1
 have HP0:∀ r,(packed (sg (tZ S n r) S.a) (S.a-1+S.a)).size≤10000:=fun r=>by
  rw[xcr];have h2:lb (S.a-1+S.a).toNat≤64:=by rcases ha with h | h<;>rw[h]<;>decide +kernel
  omega
 have hLy:(⟨(u8s (lay (tHn S n) om S.kn S.kn)).toArray⟩:ByteArray).size≤1000:=by
  have h1:=mlsb.xlp S n ha;have h2:=xli S n;rw[hom]at h1 h2;have h3:(tSig S n).size=(tSum S n).size+(laidS ByteArray.empty (tZ S n) (S.a-1) S.a S.ln).size+(⟨(u8s (lay (tHn S n) om S.kn S.kn)).toArray⟩:ByteArray).size:=by
   rw[←h2,ByteArray.size_append,ByteArray.size_append];rfl
  rw[mlsb.xfk,xbb]at h3;have h4:ByteArray.empty.size=0:=rfl;have h5:lb (S.a-1+S.a).toNat=lb (S.a-1).toNat+1:=by rcases ha with h | h<;>rw[h]<;>decide +kernel
  rw[h5]at h3;generalize 32*(lb (S.a-1).toNat+1)*S.ln=q at h1 h3;omega
 have hlimA:IntKind.i64.wrap (S.a-m)=S.a-m:=zwi;have hlimB:IntKind.i64.wrap (S.b-m)=S.b-m:=zwi;have hwa:IntKind.i64.wrap (S.a-1)=S.a-1:=zwi;have hbdZ:=fldm.xf1 (tZ S n) S.ln;have hbdL:=fldm.xf1 (tLo S n) S.kn;have hbdC:=fldm.xf1 (tCl S n) S.kn;have hok:=xh6 S n;rw[hm]at hok;have hsig:tOk S n=true→resT S n=.tuple #[.string (cat (tSum S n) (fun i=>packed (sg (tZ S n i) S.a) (S.a-1+S.a)) S.ln++⟨(u8s (lay (tHn S n) om S.kn S.kn)).toArray⟩),.bool true]:=fun h=>by
  unfold resT;rw[if_pos h,show cat (tSum S n) (fun i=>packed (sg (tZ S n i) S.a) (S.a-1+S.a)) S.ln++⟨(u8s (lay (tHn S n) om S.kn S.kn)).toArray⟩=tSig S n by
   unfold tSig laidS;rw[hom];rfl]
 have hno:¬ tOk S n=true→resT S n=.tuple #[.string ⟨#[]⟩,.bool false]:=xui;have HTz:Ω ((Tryz.prog.info? 34).map (·.size)=some T.size):=⟨by rw[hO.zt.size];kernel_rfl⟩;obtain⟨hz,hsize⟩:=zero_of_info polt.infoP;obtain⟨z,HZ⟩:=xaa (FL .i64 256 fun _=>0);rw[HZ.out]at hz;have Hzs:=zfs HZ;have Hsize:=ω hsize;obtain⟨hzL,-⟩:=zero_of_info infoLz;obtain⟨zL,HZL⟩:=xaa ((zLt 0 0 0 0 0 0 0 0):Array Value);rw[HZL.out]at hzL;have HzLs:Ω (zL.size=8):=⟨by rw[←HZL.out];rfl⟩;obtain⟨R,HR⟩:=xaa (RG S.kn S.ln S.e S.t S.a S.b S.o S.s (.slice (some ⟨gm,0,none⟩) S.kn cm) (.slice (some ⟨ga,0,none⟩) S.ln ca) (.slice (some ⟨gb,0,none⟩) S.kn cb) (.slice (some ⟨gl,0,none⟩) S.kn cl) S.mu S.ms);obtain⟨L,HL⟩:=xaa (#[.int .i64 S.kn,.int .i64 S.ln,.int .i64 S.e,.int .i64 S.t,.int .i64 S.a,.int .i64 S.b,.int .i64 S.o,.int .i64 S.s]:Array Value);rw[HR.out];have hRlat:∀ w1:World,w1.heap[w.heap.size+1]? = some (.cells R 74 (0,0))→w1.rangeAt (w.heap.size+1) 0 L.toList:=fun w1 h j v hv=>by
  rw[←HL.out]at hv;rw[←HR.out]at h;rcases (show j=0∨j=1∨j=2∨j=3∨j=4∨j=5∨j=6∨j=7 by
   have h1:j<8:=by
    rcases Nat.lt_or_ge j 8 with h2 | h2
    ·exact h2
    ·rw[List.getElem?_eq_none (by simpa using h2)]at hv;cases hv
   omega) with rfl | rfl | rfl | rfl | rfl | rfl | rfl | rfl<;>(injection hv with hv;subst hv;exact xab h rfl)
 rw[HL.out]at HMk0 HPh0 HHn0;have Ls:Ω (L.size=8):=⟨by rw[←HL.out];rfl⟩;have Li:Ω ((Tryz.prog.info? 37).map (·.size)=some L.size):=⟨by rw[←HL.out];kernel_rfl⟩;have Lo:Ω (L.all (·.oneCell')=true):=⟨by rw[←HL.out];simp[zLt,Value.oneCell']⟩;have Lz:Ω (zL.size=L.size):=⟨by rw[HzLs.out,Ls.out]⟩;obtain⟨W,hW⟩:=zev ((w.alloc (.cells T 34)).alloc (.cells R 74));obtain⟨r0,r1,hWs,b0⟩:=two hW;obtain⟨W3,hW3⟩:=zev (W.alloc (.cells L 37));obtain⟨r2,hW3s,b3⟩:=one hW3;have BW:Ω (Below w.heap.size w W3):=⟨b0.trans (b3.mono b0.size)⟩;have RgW:=ω (hRlat W r1);have HG:Ω (∀ w':World,Below W3.heap.size W3 w'→w'.heap[w.heap.size]? = some (.cells T 34 (0,0))∧w'.heap[w.heap.size+1]? = some (.cells R 74 (0,0))∧w'.heap[W.heap.size]? = some (.cells L 37 (0,0))∧MX w' (.slice (some ⟨gm,0,none⟩) S.kn cm) S.kn (fun _=>S.ln) (qX S.rho)∧Holds w' 0 (.slice (some ⟨ga,0,none⟩) S.ln ca) S.ln S.A∧Holds w' 0 (.slice (some ⟨gb,0,none⟩) S.kn cb) S.kn S.B∧Holds w' 0 (.slice (some ⟨gl,0,none⟩) S.kn cl) S.kn S.C):=⟨fun w' hb=>by
  have k1:=b3.trans (hb.mono b3.size);have k:=b0.trans (k1.mono b0.size);exact⟨(k1.block _ (xac r0)).trans r0,(k1.block _ (xac r1)).trans r1,(hb.block _ (xac r2)).trans r2,mgd.xh4 HM k,Ha.later k,Hb'.later k,Hl.later k⟩⟩
 have S8:Ω (∀ w':World,Below W3.heap.size W3 w'→w'.cell? ⟨w.heap.size+1,8,none⟩=some (.slice (some ⟨gm,0,none⟩) S.kn cm)):=⟨fun w' hb=>xab (HG.out w' hb).2.1 (by rw[←HR.out];rfl)⟩;have S9:Ω (∀ w':World,Below W3.heap.size W3 w'→w'.cell? ⟨w.heap.size+1,9,none⟩=some (.slice (some ⟨ga,0,none⟩) S.ln ca)):=⟨fun w' hb=>xab (HG.out w' hb).2.1 (by rw[←HR.out];rfl)⟩;have S10:Ω (∀ w':World,Below W3.heap.size W3 w'→w'.cell? ⟨w.heap.size+1,10,none⟩=some (.slice (some ⟨gb,0,none⟩) S.kn cb)):=⟨fun w' hb=>xab (HG.out w' hb).2.1 (by rw[←HR.out];rfl)⟩;have S11:Ω (∀ w':World,Below W3.heap.size W3 w'→w'.cell? ⟨w.heap.size+1,11,none⟩=some (.slice (some ⟨gl,0,none⟩) S.kn cl)):=⟨fun w' hb=>xab (HG.out w' hb).2.1 (by rw[←HR.out];rfl)⟩;have S12:Ω (∀ w':World,Below W3.heap.size W3 w'→w'.cell? ⟨w.heap.size+1,12,none⟩=some (.string S.mu)):=⟨fun w' hb=>xab (HG.out w' hb).2.1 (by rw[←HR.out];rfl)⟩;have S13:Ω (∀ w':World,Below W3.heap.size W3 w'→w'.cell? ⟨w.heap.size+1,13,none⟩=some (.string S.ms)):=⟨fun w' hb=>xab (HG.out w' hb).2.1 (by rw[←HR.out];rfl)⟩;have P2:Ω (∀ w':World,Below W3.heap.size W3 w'→w'.cell? ⟨W.heap.size,2,none⟩=some (.int .i64 S.e)):=⟨fun w' hb=>xab (HG.out w' hb).2.2.1 (by rw[←HL.out];rfl)⟩;have P3:Ω (∀ w':World,Below W3.heap.size W3 w'→w'.cell? ⟨W.heap.size,3,none⟩=some (.int .i64 S.t)):=⟨fun w' hb=>xab (HG.out w' hb).2.2.1 (by rw[←HL.out];rfl)⟩;have P4:Ω (∀ w':World,Below W3.heap.size W3 w'→w'.cell? ⟨W.heap.size,4,none⟩=some (.int .i64 S.a)):=⟨fun w' hb=>xab (HG.out w' hb).2.2.1 (by rw[←HL.out];rfl)⟩
 have P5:Ω (∀ w':World,Below W3.heap.size W3 w'→w'.cell? ⟨W.heap.size,5,none⟩=some (.int .i64 S.b)):=⟨fun w' hb=>xab (HG.out w' hb).2.2.1 (by rw[←HL.out];rfl)⟩;have P6:Ω (∀ w':World,Below W3.heap.size W3 w'→w'.cell? ⟨W.heap.size,6,none⟩=some (.int .i64 S.o)):=⟨fun w' hb=>xab (HG.out w' hb).2.2.1 (by rw[←HL.out];rfl)⟩;have P7:Ω (∀ w':World,Below W3.heap.size W3 w'→w'.cell? ⟨W.heap.size,7,none⟩=some (.int .i64 S.s)):=⟨fun w' hb=>xab (HG.out w' hb).2.2.1 (by rw[←HL.out];rfl)⟩;obtain⟨yy,hyy⟩:=xaa (tY S n);obtain⟨ww,hww⟩:=xaa (tW S n);obtain⟨sum,hsm⟩:=xaa (tSum S n);obtain⟨c,hc⟩:=xaa (tC S n);obtain⟨cc,hcc⟩:=xaa (tCl S n);obtain⟨zz,hzz⟩:=xaa (tZ S n);obtain⟨vv,hvv⟩:=xaa (tV S n);obtain⟨lo,hlo⟩:=xaa (tLo S n);obtain⟨hh,hhh⟩:=xaa (tHn S n);have HOa0:=fun (w1:World) h=>HOn0 S.ln (.slice (some ⟨ga,0,none⟩) S.ln ca) 0 S.A w1 hl h
 have HOb0:=fun (w1:World) h=>HOn0 S.kn (.slice (some ⟨gb,0,none⟩) S.kn cb) 0 S.B w1 hk h
 have HOc0:=fun (w1:World) h=>HOn0 S.kn (.slice (some ⟨gl,0,none⟩) S.kn cl) 0 S.C w1 hk h
 rw[hpa.out]at HOa0;rw[hpb.out]at HOb0;rw[hcl]at HOc0;simp only[hyy.out,hww.out,hsm.out,hc.out,hcc.out,hzz.out,hvv.out,hlo.out,hhh.out]at HMk0 HRw0 HPh0 HSh0 HBa0 HOa0 HOb0 HOc0 HAd0 HSu0 HLo0 HHn0 HSi0 HHb0 HP0 hLy hok hsig hss hbdZ hbdL hbdC;obtain⟨kn,hkn⟩:=zev S.kn;obtain⟨ln,hln⟩:=zev S.ln;obtain⟨mu,hmu⟩:=zev S.mu;obtain⟨ms,hms⟩:=zev S.ms;obtain⟨rho,hrh⟩:=zev S.rho;obtain⟨SA,hSA⟩:=zev S.A;obtain⟨SB,hSB⟩:=zev S.B;obtain⟨SC,hSC⟩:=zev S.C;obtain⟨se,hse⟩:=zev S.e;obtain⟨st,hst⟩:=zev S.t;obtain⟨sa,hsa⟩:=zev S.a;obtain⟨sb,hsb⟩:=zev S.b;obtain⟨ss,hss2⟩:=zev S.s;obtain⟨ok,hokk⟩:=zev ((tOk S n=true));obtain⟨V,hV⟩:=zev (resT S n);have hmus:mu.size=64:=by rw[←hmu];exact hO.mu
 simp only[hkn,hln,hmu,hms,hrh,hSA,hSB,hSC,hse,hst,hsa,hsb,hss2,hom,hokk,hV]at HMk0 HRw0 HPh0 HSh0 HBa0 HOa0 HOb0 HOc0 HAd0 HSu0 HLo0 HHn0 HSi0 HHb0 HP0 hLy hok hsig hno hbdZ hbdL hbdC HG S8 S9 S10 S11 S12 S13 P2 P3 P4 P5 P6 P7 hmw hl4 hl4t hlimA hlimB hwa hk hl ⊢;obtain⟨X,hX⟩:=xaa (fun i=>packed (sg (zz i) sa) (sa-1+sa));have hXi:∀ i,packed (sg (zz i) sa) (sa-1+sa)=X i:=fun i=>by rw[←hX.out]
 simp only[hXi,hX.out]at HSi0 HP0 hsig;obtain⟨Ly,hLyy⟩:=xaa (⟨(u8s (lay hh om kn kn)).toArray⟩:ByteArray);rw[hLyy.out]at HHb0 hLy hsig;have hsab:Ω (0≤sa-1∧sa-1≤600000):=⟨by rw[←hsa];omega⟩;obtain⟨cz,hcz⟩:=zev (fldm.cbs zz ln);obtain⟨clo,hclo⟩:=zev (fldm.cbs lo kn);obtain⟨ccl,hccl⟩:=zev (fldm.cbs cc kn);obtain⟨TT,hTT⟩:=zev (tot hh kn);rw[hcz,hclo,hccl,hTT]at hok;rw[hTT]at HHn0 HHb0;obtain⟨Cf,hCf⟩:=xaa (FL .i64 256 c);have Cs:=zfs hCf;have Ci:=zsz Cs hsize;have Co:=zro hCf;have Cz:Ω (z.size=Cf.size):=⟨by rw[Hzs.out,Cs.out]⟩;simp only[hCf.out]at HBa0 HOa0 HOb0 HOc0;have HSzZ:Ω (∀ (g c:Nat) (w1:World),Holds w1 0 (.slice (some ⟨g,0,none⟩) ln c) ln zz→Calls Tryz.prog 79 #[.slice (some ⟨g,0,none⟩) ln c] w1 (zB w1 (.int .i64 cz))):=⟨fun g c w1 h=>by rw[←hcz];exact HSz0 g c ln zz w1 hl h⟩;have HSzL:Ω (∀ (g c:Nat) (w1:World),Holds w1 0 (.slice (some ⟨g,0,none⟩) kn c) kn lo→Calls Tryz.prog 79 #[.slice (some ⟨g,0,none⟩) kn c] w1 (zB w1 (.int .i64 clo))):=⟨fun g c w1 h=>by rw[←hclo];exact HSz0 g c kn lo w1 hk h⟩;have HSzC:Ω (∀ (g c:Nat) (w1:World),Holds w1 0 (.slice (some ⟨g,0,none⟩) kn c) kn cc→Calls Tryz.prog 79 #[.slice (some ⟨g,0,none⟩) kn c] w1 (zB w1 (.int .i64 ccl))):=⟨fun g c w1 h=>by rw[←hccl];exact HSz0 g c kn cc w1 hk h⟩;have hcat:¬ 9223372036854775807<mu.size+Hi.size:=by omega
 have hcatF:(9223372036854775807<mu.size+Hi.size)=False:=by simp;omega
 have HMk:=ω HMk0;have HRw:=ω HRw0;have HPh:=ω HPh0;have HSh:=ω HSh0;have HBa:=ω HBa0;have HOa:=ω HOa0;have HOb:=ω HOb0;have HOc:=ω HOc0;have HAd:=ω HAd0;have HSu:=ω HSu0;have HLo:=ω HLo0;have HHn:=ω HHn0;have HSi:=ω HSi0;have HHb:=ω HHb0;have HXs:=ω HP0;have HLys:=ω hLy;have Hok:=ω hok;have Hsig:=ω hsig;have Hno:=ω hno;have Hom:=ω hom2;have Hk:=ω hk;have Hl':=ω hl;have Hss:=ω hss;have HlA:=ω hlimA;have HlB:=ω hlimB;have Hwa:=ω hwa;have HW:=ω hW;have HW3:=ω hW3;have hk8:=hk.2;have hk1:=hk.1;have hl8:=hl.2;have hl1:=hl.1;have HzA:=ω hz;clear he ht ha hbb ho hs hm hm2 hf1 hlam hlam2 hR HMk0 HRw0 HPh0 hHi hHs hsum HSh0 hss HBa0 HOn0 hpa hpb hcl HAd0 HSu0 HLo0 HHn0 HSz0 hom hom2 HSi0 HHb0 HP0 hLy hlimA hlimB hwa hok hsig hno hsize HZ HZL HR HL hRlat hW r0 r1 hWs b0 hW3 r2 hW3s b3 hyy hww hsm hc hcc hzz hvv hlo hhh HOa0 HOb0 HOc0 hkn hln hmu hms hrh hSA hSB hSC hse hst hsa hsb hss2 hokk hV hmus hX hXi hLyy hcz hclo hccl hTT hk hl HM Ha Hb' Hl hO hn hfr hz hbdZ hbdL hbdC;go_enter Tryz.func32,Tryz.ntmps32;have E3:Ω (Below W3.heap.size W3 W3):=⟨Below.refl _ _⟩;have p2:=P2.out _ E3.out;have p3:=P3.out _ E3.out;have s13:=S13.out _ E3.out;go_wp2_with (first
  | (rw[HW.out])
  | ((with_reducible refine wpList_load_mid rfl 37 _ rfl (w.heap.size+1) 0 ?hx L.toList _ RgW.out zZ rfl ?hi ?_);(case hx=>rfl);(case hi=>rw[Array.length_toList];exact Li.out))
  | ((with_reducible refine xam rfl 37 _ _ rfl L ?hx ?hy Li.out (by exact Lz.out) Lo.out rfl ?_);(case hx=>rfl);(case hy=>rfl))
  | (rw[HW3.out])
  | ((with_reducible refine wpList_load_row rfl 34 _ rfl w.heap.size ?hx 34 T (0,0) _ (HG.out _ E3.out).1 zY ?hd HTz.out ?_);(case hx=>rfl);(case hd=>rfl))
  | ((with_reducible refine wpList_load_row rfl 37 _ rfl W.heap.size ?hx 37 L (0,0) _ (HG.out _ E3.out).2.2.1 zZ ?hd Li.out ?_);(case hx=>rfl);(case hd=>rfl)))
 clear p2 p3 s13;refine(HMk.out _).mono ?_;rintro x w4 ⟨⟨vy,rfl,hy⟩,hb4⟩;have E4:Ω (Below W3.heap.size W3 w4):=⟨hb4⟩;obtain⟨gy,cy,rfl,-⟩:=xan hy;have HY4:=ω hy;clear hb4 hy;have s8:=S8.out _ E4.out;go_wp2_with (first
  | ((with_reducible refine wpList_load_row rfl 34 _ rfl w.heap.size ?hx 34 T (0,0) _ (HG.out _ E4.out).1 zY ?hd HTz.out ?_);(case hx=>rfl);(case hd=>rfl))
  | fail)
 clear s8;refine(HRw.out _ _ _ (HG.out _ E4.out).2.2.2.1 HY4.out).mono ?_;rintro x w5 ⟨⟨vw,rfl,hw⟩,hb5⟩;have E5:=zbt E4 hb5;obtain⟨gw,cw,rfl,-⟩:=xan hw;have HW5:=ω hw;have HY5:=ω (HY4.out.later hb5);clear hb5 hw;go_wp2_with fail;have BV:∀ w1:World,Below w5.heap.size w5 w1→Below W3.heap.size W3 w1:=fun w1 hb=>E5.out.trans (hb.mono E5.out.size)
 have q12:∀ d os,(Go.Sort.grow (redrawn w5 d) os).cell? ⟨w.heap.size+1,12,none⟩=some (.string mu):=fun d os=>cell_regrown (S12.out _ E5.out) d os
 have q7:∀ d os,(Go.Sort.grow (redrawn w5 d) os).cell? ⟨W.heap.size,7,none⟩=some (.int .i64 ss):=fun d os=>cell_regrown (P7.out _ E5.out) d os
 refine wp_region_quiet_below (by kernel_rfl) (by kernel_rfl) ?_;refine xa2 rfl 34 _ rfl _ rfl 34 _ _ (fun w' hC=>xaw (HG.out _ E5.out).1 hC) zY rfl HTz.out ?_;iterate 2 (quiet_step (skip))
 refine xa2 rfl 37 _ rfl _ rfl 37 _ _ (fun w' hC=>xaw (HG.out _ E5.out).2.2.1 hC) zZ rfl Li.out ?_;quiet_step (skip);quiet_step (exact Calls.regrown_of (HPh.out _ _ 0 (HW5.out.later (below_regrown _ _ _))));iterate 4 (quiet_step (skip))
 quiet_step (exact Calls.regrown_of (HSh.out _));iterate 5 (quiet_step (skip))
 refine wpQuiet_nil ?_;intro w6 hC;have hb6:Below w5.heap.size w5 w6:=rga.xa1 hC;have E6:Ω (Below W3.heap.size W3 w6):=⟨BV _ hb6⟩;have HW6:=ω (HW5.out.later hb6);have HY6:=ω (HY5.out.later hb6);clear hC hb6 q12 q7 BV hcat hcatF;have p3:=P3.out _ E6.out;go_wp2_with (first
  | ((with_reducible refine wpList_load_row rfl 34 _ rfl w.heap.size ?hx 34 T (0,0) _ (HG.out _ E6.out).1 zY ?hd HTz.out ?_);(case hx=>rfl);(case hd=>rfl))
  | fail)
 clear p3;refine(HBa.out _).mono ?_;rintro x w7 ⟨rfl,hb7⟩;obtain⟨W8,hW8⟩:=zev (w7.alloc (.cells Cf 109));obtain⟨r8,hs8,b8⟩:=one hW8;have E8:Ω (Below W3.heap.size W3 W8):=⟨E6.out.trans ((hb7.trans (b8.mono hb7.size)).mono E6.out.size)⟩;have HW8:=ω (HW6.out.later (hb7.trans (b8.mono hb7.size)));have HY8:=ω (HY6.out.later (hb7.trans (b8.mono hb7.size)));have HWW8:=ω hW8;have R8:=ω r8;clear hW8 r8 hs8 b8 hb7;have hz:=HzA.out;go_wp2_with (first
  | ((with_reducible refine xam rfl 109 _ _ rfl Cf ?hx ?hy Ci.out (by exact Cz.out) Co.out rfl ?_);(case hx=>rfl);(case hy=>rfl))
  | (rw[HWW8.out]))
 clear hz;have BV:∀ w1:World,Below W8.heap.size W8 w1→Below W3.heap.size W3 w1:=fun w1 hb=>E8.out.trans (hb.mono E8.out.size)
 have RV:∀ w1:World,Below W8.heap.size W8 w1→w1.heap[w7.heap.size]? = some (.cells Cf 109 (0,0)):=fun w1 hb=>(hb.block _ (xac R8.out)).trans R8.out
 refine xbe (W8.heap.size) 18 [0,1,2,3,5,6,7,8,10,11,12,13,4,9,14,15,16,17] (by kernel_rfl) rfl rfl (by decide) (fun hS ops HO=>?_);simp only[List.filterMap_cons,fa,List.getElem?_cons_succ,List.getElem?_cons_zero];refine hk_l (by rw[←HO.out];kernel_rfl) (fun _ _ _ _ h=>h) 34 _ rfl w.heap.size rfl 34 T _ (fun w1 h1=>(HG.out _ (BV w1 h1)).1) zY rfl HTz.out hS ?_;simp only[Act.put,pa,pb,pc];refine hk_l (by rw[←HO.out];kernel_rfl) (fun _ _ _ _ h=>h) 109 _ rfl w7.heap.size rfl 109 Cf _ RV zX rfl Ci.out hS ?_;simp only[Act.put,pa,pb,pc];refine zU hS ?_;refine zD (fun w h=>S9.out w (BV w h)) hS ?_;refine hk_l (by rw[←HO.out];kernel_rfl) (fun _ _ _ _ h=>h) 34 _ rfl w.heap.size rfl 34 T _ (fun w1 h1=>(HG.out _ (BV w1 h1)).1) zY rfl HTz.out hS ?_;simp only[Act.put,pa,pb,pc];refine hk_l (by rw[←HO.out];kernel_rfl) (fun _ _ _ _ h=>h) 109 _ rfl w7.heap.size rfl 109 Cf _ RV zX rfl Ci.out hS ?_;simp only[Act.put,pa,pb,pc];refine zU hS ?_;refine zD (fun w h=>S10.out w (BV w h)) hS ?_;refine hk_l (by rw[←HO.out];kernel_rfl) (fun _ _ _ _ h=>h) 34 _ rfl w.heap.size rfl 34 T _ (fun w1 h1=>(HG.out _ (BV w1 h1)).1) zY rfl HTz.out hS ?_;simp only[Act.put,pa,pb,pc];refine hk_l (by rw[←HO.out];kernel_rfl) (fun _ _ _ _ h=>h) 109 _ rfl w7.heap.size rfl 109 Cf _ RV zX rfl Ci.out hS ?_;simp only[Act.put,pa,pb,pc];refine zU hS ?_;refine zD (fun w h=>S11.out w (BV w h)) hS ?_;refine zS fun K hK=>?_
 go_simp
 refine(HOa.out _ (HG.out _ (BV _ hS)).2.2.2.2.1).mono ?_;rintro x w9 ⟨⟨va,rfl,ha⟩,hb9⟩;have h9:=hS.trans (hb9.mono hS.size);obtain⟨gpa,cpa,rfl,-⟩:=xan ha;refine hK _ _ h9 ?_;clear hK K;try simp only[Act.put,pa,pb,pc]
 refine zS fun K hK=>?_
 go_simp
 refine(HOb.out _ (HG.out _ (BV _ h9)).2.2.2.2.2.1).mono ?_;rintro x w10 ⟨⟨vb,rfl,hb⟩,hb10⟩;have h10:=h9.trans (hb10.mono h9.size);obtain⟨gpb,cpb,rfl,-⟩:=xan hb;refine hK _ _ h10 ?_;clear hK K;try simp only[Act.put,pa,pb,pc]
 refine zS fun K hK=>?_
 go_simp
 refine(HOc.out _ (HG.out _ (BV _ h10)).2.2.2.2.2.2).mono ?_;rintro x w11 ⟨⟨vc,rfl,hc⟩,hb11⟩;have h11:=h10.trans (hb11.mono h10.size);obtain⟨gpc,cpc,rfl,-⟩:=xan hc;refine hK _ _ h11 ?_;clear hK K;try simp only[Act.put,pa,pb,pc]
 iterate 3 (refine zU h11 ?_)
 refine zN ?_;have E11:Ω (Below W3.heap.size W3 w11):=⟨BV _ h11⟩;have HA11:=ω (ha.later (hb10.trans (hb11.mono hb10.size)));have HB11:=ω (hb.later hb11);have HC11:=ω hc;have HW11:=ω (HW8.out.later h11);have HY11:=ω (HY8.out.later h11);clear hS HO hb9 h9 hb10 h10 hb11 h11 ha hb hc BV RV;go_wp2_with fail;have Gy:Ω (gy<w11.heap.size):=⟨by
  obtain⟨g9,c9,e9,-,h9,-⟩:=HY11.out;injection e9 with e9 _ _
  iterate 2 (injection e9 with e9)
  rw[e9];exact h9⟩
 have Gw:Ω (gw<w11.heap.size):=⟨by
  obtain⟨g9,c9,e9,-,h9,-⟩:=HW11.out;injection e9 with e9 _ _
  iterate 2 (injection e9 with e9)
  rw[e9];exact h9⟩
 have Ga:Ω (gpa<w11.heap.size):=⟨by
  obtain⟨g9,c9,e9,-,h9,-⟩:=HA11.out;injection e9 with e9 _ _
  iterate 2 (injection e9 with e9)
  rw[e9];exact h9⟩
 have Gb:Ω (gpb<w11.heap.size):=⟨by
  obtain⟨g9,c9,e9,-,h9,-⟩:=HB11.out;injection e9 with e9 _ _
  iterate 2 (injection e9 with e9)
  rw[e9];exact h9⟩
 go_loopw [85,18] (fun iv sv wr=>∃ r:Nat,r≤ln∧iv=.int .i64 (r:Int)∧Ω (wr.ownsRow w11.heap.size 109 256 sv r (cq zz r))∧Ω (Below w11.heap.size w11 wr)) (fun iv _ _=>ln-(intOf iv).toNat)
 case atStart=>exact⟨0,Nat.zero_le _,rfl,⟨⟨rfl,Or.inl ⟨rfl,rfl⟩⟩⟩,⟨Below.refl _ _⟩⟩
 case round=>
  obtain⟨r,hr,rfl,Oy,Hb⟩:=hrel;by_cases hlt:r<ln
  ·have hrz:(r:Int)<(ln:Int):=by omega
   have hr8:r<8:=by omega
   have HAq:=ω (HAd.out r);obtain⟨F,HF⟩:=xaa (FL .i64 256 (yy r));obtain⟨G,HG2⟩:=xaa (FL .i64 256 (pA r));obtain⟨E,HE⟩:=xaa (FL .i64 256 (zz r));have hry:=xax HY11.out r hlt;have hra:=xax HA11.out r hlt;obtain⟨o6,ho6⟩:=zev (r*256);rw[HF.out,HG2.out,HE.out]at HAq;rw[HF.out,ho6]at hry;rw[HG2.out,ho6]at hra;have Fi:=zfi HF Hsize.out;have Gi:=zfi HG2 Hsize.out;have Es:=zfs HE;have Kry:Ω (∀ w':World,Below w11.heap.size w11 w'→w'.rangeAt gy o6 F.toList):=⟨fun w' hb=>xa3 hry Gy.out hb⟩;have Kra:Ω (∀ w':World,Below w11.heap.size w11 w'→w'.rangeAt gpa o6 G.toList):=⟨fun w' hb=>xa3 hra Ga.out hb⟩;have Hlt:=ω hlt;clear hry hra hlt HF HG2;go_wp2_with fail;refine xbe (w11.heap.size) 13 [0,1,2,3,4,5,6,7,8,9,10,11,12] (by kernel_rfl) rfl rfl (by decide) (fun hS ops HO=>?_);simp only[List.filterMap_cons,fa,List.getElem?_cons_succ,List.getElem?_cons_zero];iterate 4 (refine zU hS ?_)
   refine hk_m (by rw[←HO.out];kernel_rfl) (fun _ _ _ _ h=>h) 109 _ rfl gy o6 rfl F _ (fun w1 h1=>Kry.out w1 (Hb.out.trans h1)) zX rfl Fi.out hS ?_;simp only[Act.put,pa,pb,pc];iterate 3 (refine zU hS ?_)
   refine hk_m (by rw[←HO.out];kernel_rfl) (fun _ _ _ _ h=>h) 109 _ rfl gpa o6 rfl G _ (fun w1 h1=>Kra.out w1 (Hb.out.trans h1)) zX rfl Gi.out hS ?_;simp only[Act.put,pa,pb,pc];have hd1:Below wr.heap.size wr wr.drew:=(Below.refl _ _).drew;refine zS fun K hK=>?_
   go_simp
   refine(HAq.out _).mono ?_;rintro x w12 ⟨rfl,hb12⟩;have h12:=hS.trans (hb12.mono (Nat.le_trans Hb.out.size hd1.size));have k12:=zbm hd1 hb12;refine hK _ _ h12 ?_;clear hK K;try simp only[Act.put,pa,pb,pc]
   refine zS fun K hK=>?_
   refine xi1 _ rfl E Es.out rfl ?_;have bz:=(Below.refl w11.heap.size w12).alloc (Nat.le_trans Hb.out.size k12.size) (.cells E 109);have hz1:=h12.trans bz;refine hK _ _ hz1 ?_;clear hK K;try simp only[Act.put,pa,pb,pc]
   refine zS fun K hK=>?_
   refine xi2 _ _ rfl w11.heap.size r _ zz E HE.out (by omega) (xbu Oy.out k12) rfl rfl (Nat.le_trans Hb.out.size k12.size) ?_;intro v1 w14 hown hbl hfr;have hz2:=h12.trans hbl;refine hK _ _ hz2 ?_;clear hK K;try simp only[Act.put,pa,pb,pc]
   refine zU hz2 ?_;refine zN ?_;have B14:Ω (Below w11.heap.size w11 w14):=⟨Hb.out.trans hz2⟩;have O14:=ω hown;clear hS HO hb12 h12 k12 bz hz1 hz2 hown hbl hfr Oy hd1;go_wp2_with fail;go_roundw
   case rel=>exact⟨r+1,by have:=Hlt.out;omega,by go_num,O14,B14⟩
   case measure=>have:=Hlt.out;simp[intOf];omega
  ·have hrl:ln=r:=by omega
   subst hrl;rename World=>w15
   have HZ15:=ω (rkse.xbx (saml.xcc hl1 Oy.out));obtain⟨gz,cz',hzv,-⟩:=xan HZ15.out;subst hzv;have E15:=zbt E11 Hb.out;have HB15:=ω (HB11.out.later Hb.out);have HC15:=ω (HC11.out.later Hb.out);have HW15:=ω (HW11.out.later Hb.out);clear Oy hlt HA11 HB11 HC11 HW11 HY11 Gy Gw Ga Gb Hb;go_wp2_with fail;have Gw:Ω (gw<w15.heap.size):=⟨by
    obtain⟨g9,c9,e9,-,h9,-⟩:=HW15.out;injection e9 with e9 _ _
    iterate 2 (injection e9 with e9)
    rw[e9];exact h9⟩
   have Gb:Ω (gpb<w15.heap.size):=⟨by
    obtain⟨g9,c9,e9,-,h9,-⟩:=HB15.out;injection e9 with e9 _ _
    iterate 2 (injection e9 with e9)
    rw[e9];exact h9⟩
   go_loopw [103,19] (fun iv sv wr=>∃ r:Nat,r≤kn∧iv=.int .i64 (r:Int)∧Ω (wr.ownsRow w15.heap.size 109 256 sv r (cq lo r))∧Ω (Below w15.heap.size w15 wr)) (fun iv _ _=>kn-(intOf iv).toNat)
   case atStart=>exact⟨0,Nat.zero_le _,rfl,⟨⟨rfl,Or.inl ⟨rfl,rfl⟩⟩⟩,⟨Below.refl _ _⟩⟩
   case round=>
    obtain⟨i,hi,rfl,Oy,Hb⟩:=hrel;by_cases hlt:i<kn
    ·have hrz:(i:Int)<(kn:Int):=by omega
     have hr8:i<8:=by omega
     have HSq:=ω (HSu.out i);have HLq:=ω (HLo.out i);obtain⟨F,HF⟩:=xaa (FL .i64 256 (ww i));obtain⟨G,HG2⟩:=xaa (FL .i64 256 (pB i));obtain⟨M,HM⟩:=xaa (FL .i64 256 (vv i));obtain⟨E,HE⟩:=xaa (FL .i64 256 (lo i));have hry:=xax HW15.out i hlt;have hra:=xax HB15.out i hlt;obtain⟨o6,ho6⟩:=zev (i*256);rw[HF.out,HG2.out,HM.out]at HSq;rw[HM.out,HE.out]at HLq;rw[HF.out,ho6]at hry;rw[HG2.out,ho6]at hra;have Fi:=zfi HF Hsize.out;have Gi:=zfi HG2 Hsize.out;have Es:=zfs HE;have Kry:Ω (∀ w':World,Below w15.heap.size w15 w'→w'.rangeAt gw o6 F.toList):=⟨fun w' hb=>xa3 hry Gw.out hb⟩;have Kra:Ω (∀ w':World,Below w15.heap.size w15 w'→w'.rangeAt gpb o6 G.toList):=⟨fun w' hb=>xa3 hra Gb.out hb⟩;have K5:Ω (∀ w':World,Below w15.heap.size w15 w'→w'.cell? ⟨W.heap.size,5,none⟩=some (.int .i64 sb)):=⟨fun w' hb=>P5.out _ (E15.out.trans (hb.mono E15.out.size))⟩;have Hlt:=ω hlt;clear hry hra hlt HF HG2 HM;go_wp2_with fail;refine xbe (w15.heap.size) 16 [0,1,2,3,4,5,6,7,8,10,11,9,12,13,14,15] (by kernel_rfl) rfl rfl (by decide) (fun hS ops HO=>?_);simp only[List.filterMap_cons,fa,List.getElem?_cons_succ,List.getElem?_cons_zero];iterate 4 (refine zU hS ?_)
     refine hk_m (by rw[←HO.out];kernel_rfl) (fun _ _ _ _ h=>h) 109 _ rfl gw o6 rfl F _ (fun w1 h1=>Kry.out w1 (Hb.out.trans h1)) zX rfl Fi.out hS ?_;simp only[Act.put,pa,pb,pc];iterate 3 (refine zU hS ?_)
     refine hk_m (by rw[←HO.out];kernel_rfl) (fun _ _ _ _ h=>h) 109 _ rfl gpb o6 rfl G _ (fun w1 h1=>Kra.out w1 (Hb.out.trans h1)) zX rfl Gi.out hS ?_;simp only[Act.put,pa,pb,pc];refine zU hS ?_;(refine hk_t (v:=?_) (by rw[←HO.out];kernel_rfl) (fun _ _ _ h=>h) ?_ hS ?_;rotate_left;focus (intro w9 h9;have hc:=K5.out w9 (Hb.out.trans h9);go_simp;first | done | with_reducible rfl);all_goals skip)
     simp only[Act.put,pa,pb,pc];have hd1:Below wr.heap.size wr wr.drew:=(Below.refl _ _).drew;refine zS fun K hK=>?_
     go_simp
     refine(HSq.out _).mono ?_;rintro x w16 ⟨rfl,hb16⟩;have h16:=hS.trans (hb16.mono (Nat.le_trans Hb.out.size hd1.size));have k16:=zbm hd1 hb16;refine hK _ _ h16 ?_;clear hK K;try simp only[Act.put,pa,pb,pc]
     refine zS fun K hK=>?_
     go_simp
     refine(HLq.out _).mono ?_;rintro x w17 ⟨rfl,hb17⟩;have h17:=h16.trans (hb17.mono (Nat.le_trans Hb.out.size k16.size));have k17:=zbm k16 hb17;refine hK _ _ h17 ?_;clear hK K;try simp only[Act.put,pa,pb,pc]
     refine zS fun K hK=>?_
     refine xi1 _ rfl E Es.out rfl ?_;have bz:=(Below.refl w15.heap.size w17).alloc (Nat.le_trans Hb.out.size k17.size) (.cells E 109);have hz1:=h17.trans bz;refine hK _ _ hz1 ?_;clear hK K;try simp only[Act.put,pa,pb,pc]
     refine zS fun K hK=>?_
     refine xi2 _ _ rfl w15.heap.size i _ lo E HE.out (by omega) (xbu Oy.out k17) rfl rfl (Nat.le_trans Hb.out.size k17.size) ?_;intro v1 w19 hown hbl hfr;have hz2:=h17.trans hbl;refine hK _ _ hz2 ?_;clear hK K;try simp only[Act.put,pa,pb,pc]
     refine zU hz2 ?_;refine zN ?_;have B19:Ω (Below w15.heap.size w15 w19):=⟨Hb.out.trans hz2⟩;have O19:=ω hown;clear hS HO hb16 h16 k16 hb17 h17 k17 bz hz1 hz2 hown hbl hfr Oy hd1;go_wp2_with fail;go_roundw
     case rel=>exact⟨i+1,by have:=Hlt.out;omega,by go_num,O19,B19⟩
     case measure=>have:=Hlt.out;simp[intOf];omega
    ·have hik:kn=i:=by omega
     subst hik;rename World=>w20
     have HL20:=ω (rkse.xbx (saml.xcc hk1 Oy.out));obtain⟨glo,clo',hlv,-⟩:=xan HL20.out;subst hlv;have E20:=zbt E15 Hb.out;have HZ20:=ω (HZ15.out.later Hb.out);have HB20:=ω (HB15.out.later Hb.out);have HC20:=ω (HC15.out.later Hb.out);have HW20:=ω (HW15.out.later Hb.out);clear Oy hlt HZ15 HB15 HC15 HW15 Gw Gb Hb;have q4:∀ d os,(Go.Sort.grow (redrawn w20 d) os).cell? ⟨W.heap.size,4,none⟩=some (.int .i64 sa):=fun d os=>cell_regrown (P4.out _ E20.out) d os
     have q5:∀ d os,(Go.Sort.grow (redrawn w20 d) os).cell? ⟨W.heap.size,5,none⟩=some (.int .i64 sb):=fun d os=>cell_regrown (P5.out _ E20.out) d os
     have SZ1:=ω (fun d os=>HSzZ.out gz cz' (Go.Sort.grow (redrawn w20 d) os) (HZ20.out.later (below_regrown _ _ _)));have SZ2:=ω (fun d os=>HSzL.out glo clo' (Go.Sort.grow (redrawn w20 d) os) (HL20.out.later (below_regrown _ _ _)));have SZ3:=ω (fun d os=>HSzC.out gpc cpc (Go.Sort.grow (redrawn w20 d) os) (HC20.out.later (below_regrown _ _ _)));obtain⟨la,hla⟩:=zev (sa-m);obtain⟨lb',hlb⟩:=zev (sb-m);have hA2:IntKind.i64.wrap (sa-m)=la:=by rw[HlA.out,hla]
     have hB2:IntKind.i64.wrap (sb-m)=lb':=by rw[HlB.out,hlb]
     have Hok2:=Hok;rw[hla,hlb]at Hok2;by_cases hcA:la≤cz
     ·have hdA:decide (la≤cz)=true:=decide_eq_true hcA;have hVe:=ω (Hno.out fun h=>by have h9:=Hok2.out.1 h;omega);clear hla hlb Hok2;clear hcA;go_wp2_with fail;refine xei (by kernel_rfl) (by kernel_rfl) (fun ops HO=>?_);quiet_step (skip);quiet_step (exact Calls.regrown_of (SZ1.out _ _));iterate 6 (quiet_step (skip))
      iterate 7 (refine wpQuiet_skip (by rw[←HO.out];kernel_rfl) ?_)
      iterate 2 (quiet_step (skip))
      iterate 5 (refine wpQuiet_skip (by rw[←HO.out];kernel_rfl) ?_)
      quiet_step (skip);refine wpQuiet_nil ?_;intro w21 hC;have hb21:Below w20.heap.size w20 w21:=rga.xa1 hC;have E21:=zbt E20 hb21;clear hC hb21 q4 q5 HO;go_wp2_with fail;go_ret2;exact⟨by rw[hVe.out];rfl,BW.out.trans (E21.out.mono BW.out.size)⟩
     ·have hdA:decide (la≤cz)=false:=decide_eq_false hcA;by_cases hcB:lb'≤clo
      ·have hdB:decide (lb'≤clo)=true:=decide_eq_true hcB;have hVe:=ω (Hno.out fun h=>by have h9:=Hok2.out.1 h;omega);clear hla hlb Hok2;clear hcA hcB;go_wp2_with fail;refine xei (by kernel_rfl) (by kernel_rfl) (fun ops HO=>?_);quiet_step (skip);quiet_step (exact Calls.regrown_of (SZ1.out _ _));iterate 6 (quiet_step (skip))
       refine wpQuiet_want (by rw[←HO.out];kernel_rfl) (fun K hK=>?_);go_simp
       refine hK _ ?_;clear hK K;refine wpQuiet_want (by rw[←HO.out];kernel_rfl) (fun K hK=>?_);go_simp
       apply Exists.intro;refine⟨fun _=>?_,hK _ ?_⟩;exact Calls.regrown_of (SZ2.out _ _);iterate 5 (clear hK K;refine wpQuiet_want (by rw[←HO.out];kernel_rfl) (fun K hK=>?_);go_simp;refine hK _ ?_)
       clear hK K;iterate 2 (quiet_step (skip))
       iterate 5 (refine wpQuiet_skip (by rw[←HO.out];kernel_rfl) ?_)
       quiet_step (skip);refine wpQuiet_nil ?_;intro w21 hC;have hb21:Below w20.heap.size w20 w21:=rga.xa1 hC;have E21:=zbt E20 hb21;clear hC hb21 q4 q5 HO;go_wp2_with fail;go_ret2;exact⟨by rw[hVe.out];rfl,BW.out.trans (E21.out.mono BW.out.size)⟩
      ·have hdB:decide (lb'≤clo)=false:=decide_eq_false hcB;by_cases hcC:sb≤ccl
       ·have hdC:decide (sb≤ccl)=true:=decide_eq_true hcC;have hVe:=ω (Hno.out fun h=>by have h9:=Hok2.out.1 h;omega);clear hla hlb Hok2;clear hcA hcB hcC;go_wp2_with fail;refine xei (by kernel_rfl) (by kernel_rfl) (fun ops HO=>?_);quiet_step (skip);quiet_step (exact Calls.regrown_of (SZ1.out _ _));iterate 6 (quiet_step (skip))
        refine wpQuiet_want (by rw[←HO.out];kernel_rfl) (fun K hK=>?_);go_simp
        refine hK _ ?_;clear hK K;refine wpQuiet_want (by rw[←HO.out];kernel_rfl) (fun K hK=>?_);go_simp
        apply Exists.intro;refine⟨fun _=>?_,hK _ ?_⟩;exact Calls.regrown_of (SZ2.out _ _);iterate 5 (clear hK K;refine wpQuiet_want (by rw[←HO.out];kernel_rfl) (fun K hK=>?_);go_simp;refine hK _ ?_)
        clear hK K;iterate 2 (quiet_step (skip))
        refine wpQuiet_want (by rw[←HO.out];kernel_rfl) (fun K hK=>?_);go_simp
        refine hK _ ?_;clear hK K;refine wpQuiet_want (by rw[←HO.out];kernel_rfl) (fun K hK=>?_);go_simp
        apply Exists.intro;refine⟨fun _=>?_,hK _ ?_⟩;exact Calls.regrown_of (SZ3.out _ _);iterate 3 (clear hK K;refine wpQuiet_want (by rw[←HO.out];kernel_rfl) (fun K hK=>?_);go_simp;refine hK _ ?_)
        clear hK K;quiet_step (skip);refine wpQuiet_nil ?_;intro w21 hC;have hb21:Below w20.heap.size w20 w21:=rga.xa1 hC;have E21:=zbt E20 hb21;clear hC hb21 q4 q5 HO;go_wp2_with fail;go_ret2;exact⟨by rw[hVe.out];rfl,BW.out.trans (E21.out.mono BW.out.size)⟩
       ·have hdC:decide (sb≤ccl)=false:=decide_eq_false hcC;have Hgood:Ω (TT≤om→ok):=⟨fun h=>Hok2.out.2 ⟨by omega,by omega,by omega,by omega⟩⟩;have Hbad:Ω (om<TT→¬ ok):=⟨fun h h2=>by have h9:=Hok2.out.1 h2;omega⟩;clear hcA hcB hcC hla hlb Hok2;go_wp2_with fail;refine xei (by kernel_rfl) (by kernel_rfl) (fun ops HO=>?_);quiet_step (skip);quiet_step (exact Calls.regrown_of (SZ1.out _ _));iterate 6 (quiet_step (skip))
        refine wpQuiet_want (by rw[←HO.out];kernel_rfl) (fun K hK=>?_);go_simp
        refine hK _ ?_;clear hK K;refine wpQuiet_want (by rw[←HO.out];kernel_rfl) (fun K hK=>?_);go_simp
        apply Exists.intro;refine⟨fun _=>?_,hK _ ?_⟩;exact Calls.regrown_of (SZ2.out _ _);iterate 5 (clear hK K;refine wpQuiet_want (by rw[←HO.out];kernel_rfl) (fun K hK=>?_);go_simp;refine hK _ ?_)
        clear hK K;iterate 2 (quiet_step (skip))
        refine wpQuiet_want (by rw[←HO.out];kernel_rfl) (fun K hK=>?_);go_simp
        refine hK _ ?_;clear hK K;refine wpQuiet_want (by rw[←HO.out];kernel_rfl) (fun K hK=>?_);go_simp
        apply Exists.intro;refine⟨fun _=>?_,hK _ ?_⟩;exact Calls.regrown_of (SZ3.out _ _);iterate 3 (clear hK K;refine wpQuiet_want (by rw[←HO.out];kernel_rfl) (fun K hK=>?_);go_simp;refine hK _ ?_)
        clear hK K;quiet_step (skip);refine wpQuiet_nil ?_;intro w21 hC;have hb21:Below w20.heap.size w20 w21:=rga.xa1 hC;have E21:=zbt E20 hb21;have HZ21:=ω (HZ20.out.later hb21);have HB21:=ω (HB20.out.later hb21);have HC21:=ω (HC20.out.later hb21);have HW21:=ω (HW20.out.later hb21);clear hC hb21 q4 q5 HO HZ20 HB20 HC20 HW20 HL20 SZ1 SZ2 SZ3 hdA hdB hdC;go_wp2_with (first
         | ((with_reducible refine wpList_load_row rfl 37 _ rfl W.heap.size ?hx 37 L (0,0) _ (HG.out _ E21.out).2.2.1 zZ ?hd Li.out ?_);(case hx=>rfl);(case hd=>rfl))
         | fail)
        refine(HHn.out _ _ _ _ _ _ _ HW21.out HB21.out HC21.out).mono ?_;rintro x w22 ⟨⟨vh,rfl,hh22⟩,hb22⟩;have E22:=zbt E21 hb22;obtain⟨gh,ch,rfl,-⟩:=xan hh22;have HH22:=ω hh22;have HZ22:=ω (HZ21.out.later hb22);clear hh22 hb22 HB21 HC21 HW21 HZ21;have p6:=P6.out _ E22.out;by_cases htt:om<TT
        ·have htz:(om:Int)<(TT:Int):=by omega
         have hVe:=ω (Hno.out (Hbad.out htt));clear htt;go_wp2_with fail;go_ret2;exact⟨by rw[hVe.out];rfl,BW.out.trans (E22.out.mono BW.out.size)⟩
        ·have htz:¬ (om:Int)<(TT:Int):=by omega
         have hok2:=Hgood.out (by omega);have hVe:=ω (Hsig.out hok2);have HSr:=ω (HSi.out hok2);have HHr:=ω (HHb.out (by omega));clear htt hok2;go_wp2_with fail;have hd0:decide (om<TT)=false:=decide_eq_false (by omega);rw[hd0];clear p6 htz hd0;have Hcs:Ω (∀ r,r≤ln→(cat sum X r).size≤64+10000*r):=⟨fun r hr=>by
          induction r with
          | zero=>have:=Hss.out;exact this
          | succ r ih=>
           have h1:=ih (by omega);have h2:=HXs.out r;rw[cat,ByteArray.size_append];omega⟩
         go_loopw [160,24] (fun iv sv wr=>∃ r:Nat,r≤ln∧iv=.int .i64 (r:Int)∧sv=.string (cat sum X r)∧Ω (Below w22.heap.size w22 wr)) (fun iv _ _=>ln-(intOf iv).toNat)
         case atStart=>exact⟨0,Nat.zero_le _,rfl,rfl,⟨Below.refl _ _⟩⟩
         case round=>
          obtain⟨i3,hi3,rfl,rfl,Hb⟩:=hrel;have E23:=zbt E22 Hb.out;by_cases hlt:i3<ln
          ·have hrz:(i3:Int)<(ln:Int):=by omega
           have hr8:i3<8:=by omega
           have hrg:=xax (HZ22.out.later Hb.out) i3 hlt;have HSq:=ω (HSr.out i3 hlt);obtain⟨F,HF⟩:=xaa (FL .i64 256 (zz i3));obtain⟨o6,ho6⟩:=zev (i3*256);rw[HF.out,ho6]at hrg;rw[HF.out]at HSq;have Hrg:=ω hrg;have Fs:=zfs HF;have Fo:=zro HF;have Fi:=zsz Fs Hsize.out;have Fz:Ω (z.size=F.size):=⟨by rw[Hzs.out,Fs.out]⟩;obtain⟨W24,hW24⟩:=zev (wr.alloc (.cells F 109));obtain⟨r24,hs24,b24⟩:=one hW24;have HW24:=ω hW24;have R24:=ω r24;have B24:=zbt Hb b24;have p4:W24.cell? ⟨W.heap.size,4,none⟩=some (.int .i64 sa):=P4.out _ (E23.out.trans (b24.mono E23.out.size));have hXs:=HXs.out i3;have hlen:=Hcs.out i3 (by omega);have hnext:cat sum X i3++X i3=cat sum X (i3+1):=rfl;obtain⟨Y,HY⟩:=xaa (X i3);obtain⟨Cr,HCr⟩:=xaa (cat sum X i3);rw[HY.out]at HSq hXs hnext;rw[HCr.out]at hlen hnext ⊢;have hcat:¬ 9223372036854775807<Cr.size+Y.size:=by omega
           obtain⟨a1,ha1⟩:=zev (sa-1);have hwa2:IntKind.i64.wrap (sa-1)=a1:=by rw[Hwa.out,ha1]
           rw[ha1]at HSq;have hw64:wrap64 a1=a1:=by have:=hsab.out;unfold wrap64;omega
           have Hlt:=ω hlt;have Hnext:=ω hnext;have hz:=HzA.out;clear hrg hlt HF hXs hlen hnext hW24 r24 hs24 b24;go_wp2_with (first
            | ((with_reducible refine wpList_load_mid rfl 109 _ rfl gz o6 ?hx F.toList _ Hrg.out zX rfl ?hi ?_);(case hx=>rfl);(case hi=>rw[Array.length_toList];exact Fi.out))
            | ((with_reducible refine xam rfl 109 _ _ rfl F ?hx ?hy Fi.out (by exact Fz.out) Fo.out rfl ?_);(case hx=>rfl);(case hy=>rfl))
            | (rw[HW24.out])
            | ((with_reducible refine wpList_load_row rfl 109 _ rfl wr.heap.size ?hx 109 F (0,0) _ R24.out zX ?hd Fi.out ?_);(case hx=>rfl);(case hd=>rfl)))
           clear hz p4;refine(HSq.out _).mono ?_;rintro x w25 ⟨rfl,hb25⟩;have B25:=zbt B24 hb25;clear hb25;go_wp2_with fail;go_roundw
           case rel=>exact⟨i3+1,by have:=Hlt.out;omega,by go_num,by rw[Hnext.out],B25⟩
           case measure=>have:=Hlt.out;simp[intOf];omega
          ·obtain rfl:i3=ln:=by omega
           have HHq:=ω (HHr.out gh ch wr (HH22.out.later Hb.out));have hlen:=Hcs.out i3 (Nat.le_refl _);have hLy:=HLys.out;obtain⟨Cr,HCr⟩:=xaa (cat sum X i3);rw[HCr.out]at hlen hVe ⊢;have hcat:¬ 9223372036854775807<Cr.size+Ly.size:=by omega
           have p6:=P6.out _ E23.out;clear hlt hlen hLy;go_wp2_with fail;clear p6;refine HHq.out.mono ?_;rintro x w26 ⟨rfl,hb26⟩;have E26:=zbt E23 hb26;clear hb26;go_wp2_with fail;go_ret2;exact⟨by rw[hVe.out];rfl,BW.out.trans (E26.out.mono BW.out.size)⟩
end rgc
namespace qpair
open arr mem polt rbitb rbitc saml
def x2(a b:Nat):ByteArray:=⟨#[UInt8.ofNat a,UInt8.ofNat b]⟩
theorem xdt(a b:Nat)(ha:a<256)(hb:b<256)(w:World):Calls Tryz.prog 92 #[.int .i64 (a:Int),.int .i64 (b:Int)] w (zB w (.string (x2 a b))):=by
 obtain⟨W,hW⟩:=zev (w.alloc (.cells #[.int .u8 (a:Int),.int .u8 (b:Int)] 5));obtain⟨r2,hs2,b2⟩:=one hW;have hcv:=xc6 (t:=5) (l:=[a,b]) (cap:=2) (n:=2) rfl (by simp;omega) r2;obtain⟨X,hX⟩:∃ X:ByteArray,⟨(u8s [a,b]).toArray⟩=X:=⟨_,rfl⟩;have hx2:X=x2 a b:=by rw[←hX];rfl
 rw[hX]at hcv;rw[←hx2];have fa:IntKind.u8.wrap (a:Int)=(a:Int):=by rw[IntKind.wrap_u8];omega
 have fb:IntKind.u8.wrap (b:Int)=(b:Int):=by rw[IntKind.wrap_u8];omega
 have HW:=ω hW;have B2:=ω b2;clear hX hx2 r2 hs2 b2 hW;go_enter Tryz.func92,Tryz.ntmps92;go_wp2_with (rw[HW.out]);go_ret;exact⟨rfl,B2.out⟩
end qpair
namespace qrow
open arr mem polys polt rbitc pols saml
def ups(p:Nat→Nat→Int)(i:Nat)(f:Nat→Int):Nat→Nat→Int:=fun i'=>if i'=i then f else p i'
def fst(q:Nat→Nat→Int)(n:Nat):Nat→Nat→Int:=fun i=>if i<n then q i else fun _=>0
theorem xbl(q:Nat→Nat→Int):fst q 0=fun _ _=>0:=by funext i;unfold fst;rw[if_neg (by omega)]
theorem xbp(q:Nat→Nat→Int)(n:Nat):ups (fst q n) n (q n)=fst q (n+1):=by
 funext i
 unfold ups fst;by_cases e:i=n
 ·subst e;rw[if_pos rfl,if_pos (by omega)]
 ·rw[if_neg e];by_cases h:i<n
  ·rw[if_pos h,if_pos (by omega)]
  ·rw[if_neg h,if_neg (by omega)]
theorem xp4(o:Nat)(vs:List Value)(C:Array Value):(sp C o vs).size=C.size:=by
 induction vs generalizing o C with
 | nil=>rfl
 | cons v r ih=>rw[sp,ih,Array.size_setIfInBounds]
theorem sp_get(vs:List Value):∀ (o:Nat) (C:Array Value) (j:Nat),j<C.size→(sp C o vs)[j]? = if o≤j∧j<o+vs.length then vs[j-o]? else C[j]? := by
 induction vs with
 | nil=>intro o C j _;rw[sp,if_neg (by rw[List.length_nil];omega)]
 | cons v r ih=>
  intro o C j hj;rw[sp,ih (o+1) _ j (by rw[Array.size_setIfInBounds];exact hj),Array.getElem?_setIfInBounds,List.length_cons];by_cases e:j=o
  ·subst e;rw[if_neg (by omega),if_pos rfl,if_pos hj,if_pos (by omega),Nat.sub_self];rfl
  ·by_cases h:o+1≤j∧j<o+1+r.length
   ·rw[if_pos h,if_pos (by omega),show j-o=(j-(o+1))+1 by omega];rfl
   ·rw[if_neg h,if_neg (by omega),if_neg (by omega)]
theorem sp_rw(m:Nat)(p:Nat→Nat→Int)(i:Nat)(f:Nat→Int):sp (RW m p) (256*i) (FL .i64 256 f).toList=RW m (ups p i f):=by
 apply Array.ext (by rw[xp4,xfd,xfd]);intro j h1 h2;rw[xp4,xfd]at h1;apply Option.some.inj;rw[←Array.getElem?_eq_getElem,←Array.getElem?_eq_getElem,sp_get _ _ _ j (by rw[xfd];exact h1),Array.length_toList,xad];have e2:(RW m (ups p i f))[j]? = some (.int .i64 (ups p i f (j / 256) (j%256))):=xa9 .i64 (256*m) _ j h1;have e3:(RW m p)[j]? = some (.int .i64 (p (j / 256) (j%256))):=xa9 .i64 (256*m) _ j h1;rw[e2,e3];unfold ups;by_cases h : 256*i≤j∧j<256*i+256
 ·rw[if_pos h,if_pos (by omega),Array.getElem?_toList,xa9 .i64 256 f _ (by omega)];rw[show j-256*i=j%256 by omega]
 ·rw[if_neg h,if_neg (by omega)]
theorem xcg{ops:Array Oper}{Q:Exit→Act→World→Prop}{rest:List Oper}{op:Oper}{ac:Act}{w0 w:World}{g m i o:Nat}{t:TypeId}{p:Nat→Nat→Int}{f:Nat→Int}{F:Array Value}(H:Ω (At g (RW m p) t w0 w))(hF:FL .i64 256 f=F)(hi:i<m)(hoi:i*256=o)
 (hgd:op.guard=none) (x y:Operand) (ho:op.op=.store 109 x y) (hd:op.dst=none) (hx:ac.eval x=.pointer (some ⟨g,o,none⟩)) (hy:ac.eval y=.agg F)
 (h:∀ w',Ω (At g (RW m (ups p i f)) t w0 w')→wpList Tryz.prog ops Q rest ac w'):wpList Tryz.prog ops Q (op :: rest) ac w:=by
 subst hF;obtain⟨hz,hsize⟩:=zero_of_info polt.infoP;refine wpList_store_mid hgd _ x y ho g o (FL .i64 256 f) hx hy (fun j hj=>?_) (by rw[xad];exact hsize) (xbf _ _ _) ?_
 ·rw[xad]at hj;rw[H.out.cell,H.out.frozen];have e3:(RW m p)[o+j]? = some (.int .i64 (p ((o+j) / 256) ((o+j)%256))):=xa9 .i64 (256*m) _ (o+j) (by omega);rw[e3];exact⟨rfl,rfl⟩
 ·rw[hd];refine h _ ⟨?_⟩;have h1:At g (sp (RW m p) (256*i) (FL .i64 256 f).toList) t w (w.setCells g (256*i) (FL .i64 256 f).toList):=At.set H.out.row H.out.lt (Below.refl _ _);rw[sp_rw m p i f]at h1;rw[show o=256*i by omega];exact H.out.trans h1
theorem xom{w:World}{base g M size:Nat}{e:TypeId}{xs:List Value}(h:w.ownsRow base e size (.slice (some ⟨g,0,none⟩) M M) M xs):∃ cur,w.heap[g]? = some (.cells cur e (0,0))∧cur.toList=xs:=by
 rcases h.2 with ⟨h',-⟩ | ⟨g',cap',cur,h',hb,hg,-,hm,hs,htake⟩
 ·simp at h'
 ·simp only[Value.slice.injEq,Option.some.injEq,Addr.mk.injEq,and_true,true_and]at h';obtain⟨rfl,rfl⟩:=h';refine⟨cur,hg,?_⟩;rw[←htake,List.take_of_length_le (by rw[Array.length_toList];omega)]
theorem xbm{w w':World}{B:Nat}{z:Array Value}{e:TypeId}{n:Nat}(hz:FL .i64 256 (fun _=>0)=z)(h:w'.ownsRow B e 256 (.slice (some ⟨w.heap.size,0,none⟩) n n) n (madeCells (Value.agg z).cells (n*256)).toList)(hg:w.grownBy w' none):
 w'.heap[w.heap.size]? = some (.cells (RW n fun _ _=>0) e (0,0))∧Below w.heap.size w w':=by
 obtain⟨cur,h1,h2⟩:=xom h;have e0:cur=RW n fun _ _=>0:=by
  apply Array.ext';rw[h2,←hz];exact congrArg Array.toList (xsz n)
 rw[e0]at h1;exact⟨h1,(Below.refl _ _).grown hg (Nat.le_refl _) (fun k hk=>by simp at hk)⟩
theorem xdz{P:Program}{w:World}{o:Oper}{a:Act}{K:Act→World→Prop}{Q:Exit→Act→World→Prop}(l c:Operand)(t:TypeId)(hop:o.op=Op.makeSlice t l c)
 (e:TypeId) (i:TypeInfo) (z:Value) (size:Nat) (h1:P.underlying t=some (.slice e)) (h2:P.info? e=some i) (h3:i.zero=some z) (h4:i.size=size)
 (kl kc:IntKind) (n:Nat) (hl:a.eval l=.int kl (n:Int)) (hc:a.eval c=.int kc (n:Int)) (b2:i.bytes*n≤281474976710656) (b3:n≤maxLen)
 (hK:∀ w',w'.ownsRow w.heap.size e size (.slice (some ⟨w.heap.size,0,none⟩) n n) n (madeCells z.cells (n*size)).toList→w.grownBy w' none→K (a.put o.dst (.slice (some ⟨w.heap.size,0,none⟩) n n)) w'):
 o.wp P a w K Q:=by
 obtain⟨w',hrun,r1,r2⟩:=run_make_full (P:=P) w w.heap.size t e i z size h1 h2 h3 h4 kl kc n b2 b3 (Nat.le_refl _);unfold Oper.wp;simp[execOp,hop,hl,hc,hrun,Result.andThen];exact hK w' r1 r2
theorem xbo{w:World}{B g m c:Nat}{t:TypeId}{p q:Nat→Nat→Int}(h:w.heap[g]? = some (.cells (RW m p) t (0,0)))(hB:B≤g)(hp:∀ i,i<m→p i=q i):Holds w B (.slice (some ⟨g,0,none⟩) m c) m q:=
 ⟨g,c,rfl,hB,xac h,fun i hi k hk=>by rw[xu7 h i k hi hk,hp i hi]⟩
theorem xbk(q:Nat→Nat→Int)(n i:Nat)(h:i<n):fst q n i=q i:=by unfold fst;rw[if_pos h]
end qrow
namespace quni
open arr mem stil polys polt rbitc samm rsuni
def tl(s:ByteArray)(i:Nat):ByteArray:=s.extract i s.size
theorem xls(s:ByteArray)(i:Nat)(h:i≤s.size):(tl s i).size=s.size-i:=pols.size_extract s i s.size h (Nat.le_refl _)
theorem tl_tl(s:ByteArray)(i k:Nat)(h:i+k≤s.size):(tl s i).extract k (tl s i).size=tl s (i+k):=by
 rw[xls s i (by omega)];unfold tl;rw[ByteArray.extract_extract];congr 1
 omega
theorem xvz(s:ByteArray):tl s 0=s:=by unfold tl;simp
theorem tl_by(s:ByteArray)(i k:Nat)(h:i+k<s.size):by' (bys (tl s i)) k=by' (bys s) (i+k):=pols.xrh s i s.size k (by omega)
def strLen:Value→Nat
 | .string b=>b.size
 | _=>0
theorem xl3(s:ByteArray)(w:World)(hs:s.size=1008):
 Calls Tryz.prog 150 #[.string s] w (zB w (.agg (FL .i64 256 (uni (bys s))))):=by
 obtain⟨hz,hsize⟩:=zero_of_info polt.infoP;obtain⟨z,HZ⟩:=xaa (FL .i64 256 fun _=>0);rw[HZ.out]at hz;have Hzs:=zfs HZ;obtain⟨R,HR⟩:=xaa (FL .i64 256 (uni (bys s)));have Ri:=zri HR hsize;have Ro:=zro HR;have Rz:=zrz Hzs HR;have HRd:Ω (FL .i64 256 (lf (ua (bys s) 336))=R):=HR;rw[HR.out];obtain⟨W1,hW⟩:=zev ((w.alloc (.cells z 109)).alloc (.cells z 109));obtain⟨r0,r1,hWs,b0⟩:=two hW;have R1:Ω (W1.heap[w.heap.size]? = some (.cells z 109 (0,0))):=⟨r0⟩;have A0:Ω (At (w.heap.size+1) (FL .i64 256 (lf (ua (bys s) 0))) 109 W1 W1):=⟨by rw[ua,xj9,HZ.out];exact At.refl r1⟩;have B1:=ω b0;have HW:=ω hW;have Htl:Ω (tl s (3*0)=s):=⟨xvz s⟩;have Hs:=ω hs;clear hW r0 r1 b0 hWs hsize HR hs;go_enter Tryz.func150,Tryz.ntmps150;go_wp2_with (rw[HW.out]);clear hz;go_loopw [0,4] (fun b c wr=>∃ j:Nat,j≤336∧b=.string (tl s (3*j))∧c=.int .i64 (((ua (bys s) j).length:Nat):Int)∧Ω (At (w.heap.size+1) (FL .i64 256 (lf (ua (bys s) j))) 109 W1 wr)) (fun b _ _=>strLen b)
 case atStart=>exact⟨0,by omega,by rw[Htl.out],rfl,A0⟩
 case round=>
  clear A0;obtain⟨j,hj,rfl,rfl,A0⟩:=hrel;have BE:Ω (Below w.heap.size w wr):=⟨B1.out.trans (A0.out.below B1.out.size (by omega))⟩;obtain⟨n,hn⟩:=zev ((ua (bys s) j).length);have hn256:=(ua_le (bys s) j).1;rw[hn]at hn256 ⊢;obtain⟨X,hX⟩:=zev (tl s (3*j));have hXs:X.size=1008-3*j:=by rw[←hX,xls s (3*j) (by rw[Hs.out];omega),Hs.out]
  obtain⟨m,hm⟩:=zev X.size;rw[hm]at hXs;have hmi:(X.size:Int)=(m:Int):=by omega
  rw[hX];by_cases hgo:j<336∧n<256
  ·obtain⟨hj336,hn2⟩:=hgo;have hm3:(3:Int)≤(m:Int):=by omega
   have hsl : 3≤X.size:=by omega
   have hn2z:(n:Int)<256:=by omega
   have hix:∀ k:Nat,k<3→∀ w1:World,(Instr.index 9 (.string X) (.int .i64 (k:Int))).run Tryz.prog w1=.ok (.int .u8 ((by' (bys s) (3*j+k):Nat):Int)) w1:=fun k hk w1=>by
    refine byte_of X k _ (by omega) ?_ w1;rw[←hX];exact tl_by s (3*j) k (by rw[Hs.out];omega)
   obtain⟨β0,hβ0⟩:∃ β,by' (bys s) (3*j) = β := ⟨_,rfl⟩
   obtain⟨β1,hβ1⟩:∃ β,by' (bys s) (3*j+1) = β := ⟨_,rfl⟩
   obtain⟨β2,hβ2⟩:∃ β,by' (bys s) (3*j+2) = β := ⟨_,rfl⟩
   have hi1:∀ w1:World,(Instr.index 9 (.string X) (.int .i64 0)).run Tryz.prog w1=.ok (.int .u8 (β0:Int)) w1:=by have:=hix 0 (by omega);rwa [Nat.add_zero,hβ0]at this
   have hi2:∀ w1:World,(Instr.index 9 (.string X) (.int .i64 1)).run Tryz.prog w1=.ok (.int .u8 (β1:Int)) w1:=by have:=hix 1 (by omega);rwa [hβ1]at this
   have hi3:∀ w1:World,(Instr.index 9 (.string X) (.int .i64 2)).run Tryz.prog w1=.ok (.int .u8 (β2:Int)) w1:=by have:=hix 2 (by omega);rwa [hβ2]at this
   have l0 : β0<256:=by rw[←hβ0];exact xb4 s _
   have l1 : β1<256:=by rw[←hβ1];exact xb4 s _
   have l2 : β2<256:=by rw[←hβ2];exact xb4 s _
   obtain⟨γ,hγ⟩:∃ γ,β2%128 = γ := ⟨_,rfl⟩;obtain⟨p,hp⟩:=zev (β1*256);obtain⟨q,hq⟩:=zev (γ * 65536);obtain⟨y,hy⟩:=zev (β0+256 * β1);obtain⟨x,hx⟩:∃ x,β0+256 * β1+65536 * γ = x:=⟨_,rfl⟩;have htri:tri (bys s) (3*j)=x:=by unfold tri;rw[hβ0,hβ1,hβ2,hγ,hx]
   obtain⟨v1,v2⟩:=xoh β0 β1 γ l0 l1 (by omega);rw[hp,hy]at v1;rw[hy,hq,show y+65536 * γ = x by omega]at v2;have va:=xme β2 l2;rw[hγ]at va;have fp:(β1:Int)*256=(p:Int):=by omega
   have fpw:IntKind.i64.wrap ((β1:Int)*256)=(p:Int):=by rw[fp,IntKind.wrap_i64];omega
   have fq:(γ : Int)*65536=(q:Int):=by omega
   have fqw:IntKind.i64.wrap ((γ : Int)*65536)=(q:Int):=by rw[fq,IntKind.wrap_i64];omega
   have w0:IntKind.i64.wrap (β0:Int)=(β0:Int):=zwi;have w1:IntKind.i64.wrap (β1:Int)=(β1:Int):=zwi;have w2:IntKind.i64.wrap (γ : Int)=(γ : Int):=zwi;have wp:IntKind.i64.wrap (p:Int)=(p:Int):=zwi;have wq:IntKind.i64.wrap (q:Int)=(q:Int):=zwi;have hnext:Ω (X.extract 3 X.size=tl s (3*(j+1))):=⟨by rw[←hX,tl_tl s (3*j) 3 (by rw[Hs.out];omega)];rfl⟩;have hless:Ω ((tl s (3*(j+1))).size<X.size):=⟨by rw[xls s _ (by rw[Hs.out];omega),Hs.out];omega⟩;have A1:Ω (At (w.heap.size+1) (FL .i64 256 (lf (ua (bys s) j))) 109 W1 wr.drew):=⟨xag A0.out⟩;have Hn:=ω hn;have Htri:=ω htri;clear hβ0 hβ1 hβ2 hγ hp hq hx hy hn htri hix hX hXs hm;go_wp2_with fail;refine xav (by kernel_rfl) (by kernel_rfl) ?_;repeat still_step
   refine wpStill_nil ?_;clear hi1 hi2 hi3 v1 v2 va fp fpw fq fqw w0 w1 w2 wp wq A0;by_cases hx:x<8380417
   ·have hxz:(x:Int)<8380417:=by omega
    have Hua:Ω (ua (bys s) (j+1)=ua (bys s) j ++ [x]):=⟨by rw[ua,Htri.out,if_pos ⟨by rw[Hn.out];exact hn2,hx⟩]⟩;have Hset:Ω ((FL .i64 256 (lf (ua (bys s) j))).setIfInBounds n (.int .i64 (x:Int))=FL .i64 256 (lf (ua (bys s) (j+1)))):=⟨by rw[xap,Hua.out,←xka,Hn.out]⟩;clear hx;go_wp2_with ((with_reducible refine xaf A1 rfl _ _ _ rfl rfl ?_);refine⟨_,_,_,rfl,rfl,rfl,(by rw[xad];exact hn2),?_⟩;intro wn HRn;rw[Hset.out]at HRn);go_roundw
    case rel=>exact⟨j+1,by omega,by rw[hnext.out],by rw[show (ua (bys s) (j+1)).length=n+1 by rw[Hua.out,List.length_append,Hn.out];rfl];go_num,HRn⟩
    case measure=>show (X.extract 3 X.size).size<X.size;rw[hnext.out];exact hless.out
   ·have hxz:¬ (x:Int)<8380417:=by omega
    have Hua:Ω (ua (bys s) (j+1)=ua (bys s) j):=⟨by rw[ua,Htri.out,if_neg (fun h=>hx h.2)]⟩;clear hx;go_wp2_with fail;go_roundw
    case rel=>exact⟨j+1,by omega,by rw[hnext.out],by rw[Hua.out,Hn.out],by rw[Hua.out];exact A1⟩
    case measure=>show (X.extract 3 X.size).size<X.size;rw[hnext.out];exact hless.out
  ·have hend:Ω (ua (bys s) j=ua (bys s) 336):=⟨by
    by_cases h:j=336
    ·rw[h]
    ·exact(xqe (bys s) j 336 (by omega) hj).symm⟩
   rw[hend.out,HRd.out]at A0;have Hrow:=ω A0.out.row;have Hres:Ω (wr.heap[w.heap.size]? = some (.cells z 109 (0,0))):=⟨A0.out.other (xac R1.out) (by omega) R1.out⟩;clear A0 hn hX;by_cases h:j<336
   ·have hm3:(3:Int)≤(m:Int):=by omega
    have hn256z:¬ (n:Int)<256:=by omega
    clear hgo hend hXs hm;go_wp2_with (first
     | (refine wpList_load_row rfl 109 _ rfl (w.heap.size+1) rfl 109 R (0,0) _ Hrow.out zX rfl Ri.out ?_)
     | (refine wpList_store_row rfl 109 _ _ rfl w.heap.size R rfl rfl 109 _ Hres.out Ri.out Rz.out Ro.out ?_))
    refine bodyPost_ret_by (v:=.agg R) (results_cell_row rfl _ _ w.heap.size 109 _ (0,0) _ rfl (setRow_heap _ _ _ _ _ _ Hres.out) zX rfl Ri.out) rfl ?_;exact⟨rfl,BE.out.trans (below_setRow _ _ _ (Nat.le_refl _))⟩
   ·have hm3:¬ (3:Int)≤(m:Int):=by omega
    clear hgo hend hXs hm;go_wp2_with (first
     | (refine wpList_load_row rfl 109 _ rfl (w.heap.size+1) rfl 109 R (0,0) _ Hrow.out zX rfl Ri.out ?_)
     | (refine wpList_store_row rfl 109 _ _ rfl w.heap.size R rfl rfl 109 _ Hres.out Ri.out Rz.out Ro.out ?_))
    refine bodyPost_ret_by (v:=.agg R) (results_cell_row rfl _ _ w.heap.size 109 _ (0,0) _ rfl (setRow_heap _ _ _ _ _ _ Hres.out) zX rfl Ri.out) rfl ?_;exact⟨rfl,BE.out.trans (below_setRow _ _ _ (Nat.le_refl _))⟩
theorem xqo{T:Array Value}(b s:ByteArray)(w:World)(hT:(Tryz.prog.info? 34).map (·.size)=some T.size)(hs:s.size=1008)
 (HS:∀ w1:World,Below w.heap.size w w1→Calls Tryz.prog 90 #[.agg T,.int .i64 1,.string b,.int .i64 1008] w1 (zB w1 (.tuple #[.string s,.int .i64 0]))):
 Calls Tryz.prog 98 #[.agg T,.string b] w (zB w (.agg (FL .i64 256 (uni (bys s))))):=by
 obtain⟨hz,hsize⟩:=zero_of_info polt.infoP;obtain⟨z,HZ⟩:=xaa (FL .i64 256 fun _=>0);rw[HZ.out]at hz;have Hzs:=zfs HZ;have HU:Ω (∀ w1:World,Calls Tryz.prog 150 #[.string s] w1 (zB w1 (.agg (FL .i64 256 (uni (bys s)))))):=⟨fun w1=>xl3 s w1 hs⟩;obtain⟨R,HR⟩:=xaa (FL .i64 256 (uni (bys s)));have Ri:=zri HR hsize;have Ro:=zro HR;have Rz:=zrz Hzs HR;have HTz:=ω hT;rw[HR.out]at HU ⊢;obtain⟨W,hW⟩:=zev ((w.alloc (.cells T 34)).alloc (.cells z 109));obtain⟨r0,r1,hWs,b0⟩:=two hW;have T0:Ω (W.heap[w.heap.size]? = some (.cells T 34 (0,0))):=⟨r0⟩;have R0:Ω (W.heap[w.heap.size+1]? = some (.cells z 109 (0,0))):=⟨r1⟩;have BW:=ω b0;have HWs:=ω hWs;have HW:=ω hW;have HSh:=ω (HS W b0);clear hW r0 r1 b0 hWs hsize HS hT HR hs;go_enter Tryz.func98,Tryz.ntmps98;go_wp2_with (first
  | (rw[HW.out])
  | (refine wpList_load_row rfl 34 _ rfl w.heap.size rfl 34 T (0,0) _ T0.out zY rfl HTz.out ?_))
 refine HSh.out.mono ?_;rintro e u1 ⟨rfl,hb1⟩;have R1:Ω (u1.heap[w.heap.size+1]? = some (.cells z 109 (0,0))):=⟨(hb1.block _ (by rw[HWs.out];omega)).trans R0.out⟩;have B1:Ω (Below w.heap.size w u1):=⟨BW.out.trans (hb1.mono (by rw[HWs.out];omega))⟩;have Hlt:Ω (w.heap.size+1<u1.heap.size):=⟨xac R1.out⟩;clear hb1 hz;go_wp2_with fail;refine(HU.out _).mono ?_;rintro e u2 ⟨rfl,hb2⟩;have R2:Ω (u2.heap[w.heap.size+1]? = some (.cells z 109 (0,0))):=⟨(hb2.block _ Hlt.out).trans R1.out⟩;have B2:=zbt B1 hb2;clear hb2;go_wp2_with (refine wpList_store_row rfl 109 _ _ rfl (w.heap.size+1) R rfl rfl 109 _ R2.out Ri.out Rz.out Ro.out ?_);refine bodyPost_ret_by (v:=.agg R) (results_cell_row rfl _ _ (w.heap.size+1) 109 _ (0,0) _ rfl (setRow_heap _ _ _ _ _ _ R2.out) zX rfl Ri.out) rfl ?_;exact⟨rfl,B2.out.trans (below_setRow _ _ _ (Nat.le_succ _))⟩
end quni
namespace qsma
open arr mem stil polys polt rbitc rbitd samm rsuni rssma
def cv(e:Int)(b:Nat):Int:=if hok e b=true then (if e=2 then 2-((b%5:Nat):Int) else 4-(b:Int)) else 0
theorem cv_red(e:Int)(b:Nat)(h:hok e b=true):cv e b%8380417=hv e b:=by
 unfold cv hv;rw[if_pos h];split<;>rfl
theorem cv_lt(e:Int)(b:Nat)(hb:b<16) : -16≤cv e b∧cv e b≤16:=by
 unfold cv;split
 ·split<;>omega
 ·omega
theorem xvl(b:Nat)(hb:b<16)(e:Int)(w:World):Calls Tryz.prog 174 #[.int .i64 (b:Int),.int .i64 e] w (zE w (.tuple #[.int .i64 (cv e b),.bool (hok e b)])):=by
 by_cases he:e=2
 ·subst he;by_cases h:b<15
  ·have ho:hok 2 b=true:=by unfold hok;rw[if_pos rfl];exact decide_eq_true h
   obtain⟨r,hr⟩:=zev (b%5);have hc:cv 2 b=2-(r:Int):=by unfold cv;rw[if_pos ho,if_pos rfl,hr]
   rw[hc,ho];have hz:(b:Int)<15:=by omega
   have fr:(b:Int).tmod 5=(r:Int):=by rw[Int.tmod_eq_emod_of_nonneg (by omega)];omega
   have fr2:(b:Int)%5=(r:Int):=by omega
   have fw:IntKind.i64.wrap (2-(r:Int))=2-(r:Int):=zwi;clear hc hr ho;go_enter Tryz.func174,Tryz.ntmps174;go_wp2_with fail;go_ret2;exact⟨by first | rfl | simp_all,rfl⟩
  ·have ho:hok 2 b=false:=by unfold hok;rw[if_pos rfl];exact decide_eq_false h
   have hc:cv 2 b=0:=by unfold cv;rw[ho];rfl
   rw[hc,ho];have hz:¬ (b:Int)<15:=by omega
   clear hc ho;go_enter Tryz.func174,Tryz.ntmps174;go_wp2_with fail;go_ret2;exact⟨by first | rfl | simp_all,rfl⟩
 ·have fe:(e==2)=false:=beq_eq_false_iff_ne.2 he;have fe2:(e != 2)=true:=by simpa using he
  by_cases h:b<9
  ·have ho:hok e b=true:=by unfold hok;rw[if_neg he];exact decide_eq_true h
   have hc:cv e b=4-(b:Int):=by unfold cv;rw[if_pos ho,if_neg he]
   rw[hc,ho];have hz:(b:Int)<9:=by omega
   have fw:IntKind.i64.wrap (4-(b:Int))=4-(b:Int):=zwi;clear hc ho he;go_enter Tryz.func174,Tryz.ntmps174;go_wp2_with fail;go_ret2;exact⟨by first | rfl | simp_all,rfl⟩
  ·have ho:hok e b=false:=by unfold hok;rw[if_neg he];exact decide_eq_false h
   have hc:cv e b=0:=by unfold cv;rw[ho];rfl
   rw[hc,ho];have hz:¬ (b:Int)<9:=by omega
   clear hc ho he;go_enter Tryz.func174,Tryz.ntmps174;go_wp2_with fail;go_ret2;exact⟨by first | rfl | simp_all,rfl⟩
theorem xvm(s:ByteArray)(e:Int)(w:World)(hs:s.size=816):
 Calls Tryz.prog 144 #[.string s,.int .i64 e] w (zB w (.agg (FL .i64 256 (sma (bys s) e)))):=by
 obtain⟨hz,hsize⟩:=zero_of_info polt.infoP;obtain⟨z,HZ⟩:=xaa (FL .i64 256 fun _=>0);rw[HZ.out]at hz;have Hzs:=zfs HZ;obtain⟨R,HR⟩:=xaa (FL .i64 256 (sma (bys s) e));have Ri:=zri HR hsize;have Ro:=zro HR;have Rz:=zrz Hzs HR;have HRd:Ω (FL .i64 256 (lf (sa (bys s) e 1632))=R):=HR;rw[HR.out];have Hix:Ω (∀ j:Nat,j<816→∀ w1:World,(Instr.index 9 (.string s) (.int .i64 (j:Int))).run Tryz.prog w1=.ok (.int .u8 ((by' (bys s) j:Nat):Int)) w1):=⟨fun j hj w1=>byte_of s j _ (by omega) rfl w1⟩;obtain⟨W1,hW⟩:=zev ((w.alloc (.cells z 109)).alloc (.cells z 109));obtain⟨r0,r1,hWs,b0⟩:=two hW;have R1:Ω (W1.heap[w.heap.size]? = some (.cells z 109 (0,0))):=⟨r0⟩;have A0:Ω (At (w.heap.size+1) (FL .i64 256 (lf (sa (bys s) e (2*0)))) 109 W1 W1):=⟨by rw[Nat.mul_zero,sa,xj9,HZ.out];exact At.refl r1⟩;have B1:=ω b0;have HW:=ω hW;have hszi:(s.size:Int)=816:=by omega
 clear hW r0 r1 b0 hWs hsize HR hs;go_enter Tryz.func144,Tryz.ntmps144;iterate 2 (go_wp2_with (rw[HW.out]);go_step3)
 go_wp2_with fail;clear hz;go_loopw [14,6] (fun v c wr=>∃ j:Nat,j≤816∧v=.int .i64 (j:Int)∧c=.int .i64 (((sa (bys s) e (2*j)).length:Nat):Int)∧(sa (bys s) e (2*j)).length<256∧Ω (At (w.heap.size+1) (FL .i64 256 (lf (sa (bys s) e (2*j)))) 109 W1 wr)) (fun v _ _=>816-(intOf v).toNat)
 case atStart=>exact⟨0,by omega,rfl,rfl,by rw[Nat.mul_zero,sa];decide,A0⟩
 case round=>
  clear A0;obtain⟨j,hj,rfl,rfl,hn2,A0⟩:=hrel;have BE:Ω (Below w.heap.size w wr):=⟨B1.out.trans (A0.out.below B1.out.size (by omega))⟩;obtain⟨n,hn⟩:=zev ((sa (bys s) e (2*j)).length);rw[hn]at hn2 ⊢;by_cases hj816:j<816
  ·have hjz:(j:Int)<816:=by omega
   have hn2z:(n:Int)<256:=by omega
   have hi1:=Hix.out j hj816;obtain⟨β,hβ⟩:∃ β,by' (bys s) j = β := ⟨_,rfl⟩
   have l0 : β < 256:=by rw[←hβ];exact xb4 s _
   obtain⟨lo,hlo⟩:=zev (β % 16);obtain⟨hi,hhi⟩:=zev (β / 16);have va:=and_15 β l0;rw[hlo]at va;rw[hβ]at hi1;have fh:(β : Int) / 16=(hi:Int):=by omega
   have Hhf:Ω (∀ k,k<2→hf (bys s) (2*j+k)=if k=0 then lo else hi):=⟨fun k hk=>by
    unfold hf;rw[show (2*j+k) / 2=j by omega,hβ,hlo,hhi];by_cases h:k=0
    ·rw[if_pos h,if_pos (by omega)]
    ·rw[if_neg h,if_neg (by omega)]⟩
   have Hl16:Ω (lo<16∧hi<16):=⟨by omega⟩;have Hk2:Ω (∀ k:Nat,k<2→∀ w1:World,(Instr.index 195 (.agg #[.int .u8 (lo:Int),.int .u8 (hi:Int)]) (.int .i64 (k:Int))).run Tryz.prog w1=.ok (.int .u8 (((if k=0 then lo else hi):Nat):Int)) w1):=⟨fun k hk w1=>by
    refine xb5 (P:=Tryz.prog) Tryz.underlying195 (by kernel_rfl) (by kernel_rfl) (by kernel_rfl) _ _ k hk ?_ w1;rcases (show k=0∨k=1 by omega) with rfl | rfl
    ·rfl
    ·rfl⟩
   have Hn:=ω hn;have A2:Ω (At (w.heap.size+1) (FL .i64 256 (lf (sa (bys s) e (2*j+0)))) 109 W1 wr.drew):=⟨xag A0.out⟩;clear hβ hlo hhi hn;go_wp2_with fail;refine xav (by kernel_rfl) (by kernel_rfl) ?_;repeat still_step
   refine wpStill_nil ?_;have Hn0:Ω ((sa (bys s) e (2*j+0)).length=n):=⟨by rw[Nat.add_zero];exact Hn.out⟩;clear va hi1 fh A0;go_wp2_with fail;go_loopw [26,6] (fun v c wv=>∃ k:Nat,k≤2∧v=.int .i64 (k:Int)∧c=.int .i64 (((sa (bys s) e (2*j+k)).length:Nat):Int)∧(sa (bys s) e (2*j+k)).length<256∧Ω (At (w.heap.size+1) (FL .i64 256 (lf (sa (bys s) e (2*j+k)))) 109 W1 wv)) (fun v _ _=>2-(intOf v).toNat)
   case atStart=>exact⟨0,by omega,rfl,by rw[Hn0.out],by rw[Hn0.out];exact hn2,A2⟩
   case round=>
    rename World=>wv
    clear A2;obtain⟨k,hk,rfl,rfl,hn6,A0⟩:=hrel;obtain⟨n',hn'⟩:∃ n',(sa (bys s) e (2*j+k)).length=n':=⟨_,rfl⟩;rw[hn']at hn6 ⊢;have Hn':=ω hn';clear hn';by_cases hk2:k<2
    ·have hkz:(k:Int)<2:=by omega
     have hix:=Hk2.out k hk2;obtain⟨h,hh⟩:=zev ((if k=0 then lo else hi));have hhf:=Hhf.out k hk2;rw[hh]at hhf hix;have hh16:h<16:=by have:=Hl16.out;rw[←hh];split<;>omega
     have HH:=ω (fun w1=>xvl h hh16 e w1);have hvr:=xhw e h;have hcl:=cv_lt e h hh16;have fh64:IntKind.i64.wrap (h:Int)=(h:Int):=zwi;obtain⟨V,hV⟩:∃ V:Nat,hv e h=(V:Int):=⟨(hv e h).toNat,by omega⟩;have HRd2:Ω (hok e h=true→∀ w1:World,Calls Tryz.prog 112 #[.int .i64 (cv e h)] w1 (zE w1 (.int .i64 (V:Int)))):=⟨fun ho w1=>by
      have:=fld1.xai (cv e h) w1;rwa [cv_red e h ho,hV]at this⟩
     obtain⟨c,hc⟩:=zev (cv e h);rw[hc]at HH HRd2;have Hok:Ω (hok e (hf (bys s) (2*j+k))=hok e h):=⟨by rw[hhf]⟩;have HV:Ω ((hv e (hf (bys s) (2*j+k))).toNat=V):=⟨by rw[hhf,hV];rfl⟩;by_cases ho:hok e h=true
     ·have Hred:=ω (HRd2.out ho);rw[ho]at HH Hok;have Hsa:Ω (sa (bys s) e (2*j+(k+1))=sa (bys s) e (2*j+k) ++ [V]):=⟨by
       rw[show 2*j+(k+1)=(2*j+k)+1 by omega,sa,if_pos ⟨by rw[Hn'.out];exact hn6,Hok.out⟩,HV.out]⟩
      have Hset:Ω ((FL .i64 256 (lf (sa (bys s) e (2*j+k)))).setIfInBounds n' (.int .i64 (V:Int))=FL .i64 256 (lf (sa (bys s) e (2*j+(k+1))))):=⟨by rw[xap,Hsa.out,←xka,Hn'.out]⟩;have Hlen:Ω ((sa (bys s) e (2*j+(k+1))).length=n'+1):=⟨by rw[Hsa.out,List.length_append,Hn'.out];rfl⟩;have fn1:IntKind.i64.wrap ((n':Int)+1)=(n':Int)+1:=zwi;have hn6z:(n':Int)<256:=by omega
      clear hh hhf hvr hV hc hcl ho HRd2 Hok HV;go_wp2_with fail;refine(HH.out _).mono ?_;rintro x wv ⟨rfl,rfl⟩;by_cases hfull:n'=255
      ·have HRR:Ω (FL .i64 256 (lf (sa (bys s) e (2*j+(k+1))))=R):=⟨by
        rw[←HRd.out,xu8 (bys s) e (2*j+(k+1)) 1632 (by rw[Hlen.out];omega) (by omega)]⟩
       rw[HRR.out]at Hset;have fne:((n':Int)+1==256)=true:=beq_iff_eq.2 (by omega);clear hfull;go_wp2_with fail;refine(Hred.out _).mono ?_;rintro x wv ⟨rfl,rfl⟩;go_wp2_with ((with_reducible refine xaf A0 rfl _ _ _ rfl rfl ?_);refine⟨_,_,_,rfl,rfl,rfl,(by rw[xad];exact hn6),?_⟩;intro wn HRn;rw[Hset.out]at HRn;have Hrow:=ω HRn.out.row;have Hres:Ω (wn.heap[w.heap.size]? = some (.cells z 109 (0,0))):=⟨HRn.out.other (xac R1.out) (by omega) R1.out⟩;have BF:Ω (Below w.heap.size w wn):=⟨B1.out.trans (HRn.out.below B1.out.size (by omega))⟩);refine wp_load_row 109 _ rfl (w.heap.size+1) rfl 109 R (0,0) _ Hrow.out zX rfl Ri.out ?_;go_wp2_with (refine wpList_store_row rfl 109 _ _ rfl w.heap.size R rfl rfl 109 _ Hres.out Ri.out Rz.out Ro.out ?_);rw[Exit.noGoto_ret];refine bodyPost_ret_by (v:=.agg R) (results_cell_row rfl _ _ w.heap.size 109 _ (0,0) _ rfl (setRow_heap _ _ _ _ _ _ Hres.out) zX rfl Ri.out) rfl ?_;exact⟨rfl,BF.out.trans (below_setRow _ _ _ (Nat.le_refl _))⟩
      ·have fne:((n':Int)+1==256)=false:=beq_eq_false_iff_ne.2 (by omega);go_wp2_with fail;refine(Hred.out _).mono ?_;rintro x wv ⟨rfl,rfl⟩;go_wp2_with ((with_reducible refine xaf A0 rfl _ _ _ rfl rfl ?_);refine⟨_,_,_,rfl,rfl,rfl,(by rw[xad];exact hn6),?_⟩;intro wn HRn;rw[Hset.out]at HRn);go_roundw
       case rel=>exact⟨k+1,by omega,by go_num,by rw[Hlen.out];go_num,by rw[Hlen.out];omega,HRn⟩
       case measure=>simp[intOf];omega
     ·have hof:hok e h=false:=by simpa using ho
      rw[hof]at HH Hok;have Hsa:Ω (sa (bys s) e (2*j+(k+1))=sa (bys s) e (2*j+k)):=⟨by
       rw[show 2*j+(k+1)=(2*j+k)+1 by omega,sa,if_neg (by rw[Hok.out];exact fun h=>by simpa using h.2)]⟩
      have A1:Ω (At (w.heap.size+1) (FL .i64 256 (lf (sa (bys s) e (2*j+(k+1))))) 109 W1 wv):=⟨by rw[Hsa.out];exact A0.out⟩;have Hl:Ω ((sa (bys s) e (2*j+(k+1))).length=n'):=⟨by rw[Hsa.out,Hn'.out]⟩;clear hh hhf hvr hV hc hcl ho HRd2 Hok HV hof A0;go_wp2_with fail;refine(HH.out _).mono ?_;rintro x wv ⟨rfl,rfl⟩;go_wp2_with fail;go_roundw
      case rel=>exact⟨k+1,by omega,by go_num,by rw[Hl.out],by rw[Hl.out];exact hn6,A1⟩
      case measure=>simp[intOf];omega
    ·obtain rfl:k=2:=by omega
     have A1:Ω (At (w.heap.size+1) (FL .i64 256 (lf (sa (bys s) e (2*(j+1))))) 109 W1 wv):=⟨A0.out⟩;have Hl:Ω ((sa (bys s) e (2*(j+1))).length=n'):=Hn';clear A0;simp only[Int.cast_ofNat_Int];go_wp2_with fail;go_roundw
     case rel=>exact⟨j+1,by omega,by go_num,by rw[Hl.out],by rw[Hl.out];exact hn6,A1⟩
     case measure=>simp[intOf];omega
  ·obtain rfl:j=816:=by omega
   rw[HRd.out]at A0;have Hrow:=ω A0.out.row;have Hres:Ω (wr.heap[w.heap.size]? = some (.cells z 109 (0,0))):=⟨A0.out.other (xac R1.out) (by omega) R1.out⟩;clear A0 hn;simp only[Int.cast_ofNat_Int];go_wp2_with (first
    | (refine wpList_load_row rfl 109 _ rfl (w.heap.size+1) rfl 109 R (0,0) _ Hrow.out zX rfl Ri.out ?_)
    | (refine wpList_store_row rfl 109 _ _ rfl w.heap.size R rfl rfl 109 _ Hres.out Ri.out Rz.out Ro.out ?_))
   rw[Exit.noGoto_ret];refine bodyPost_ret_by (v:=.agg R) (results_cell_row rfl _ _ w.heap.size 109 _ (0,0) _ rfl (setRow_heap _ _ _ _ _ _ Hres.out) zX rfl Ri.out) rfl ?_;exact⟨rfl,BE.out.trans (below_setRow _ _ _ (Nat.le_refl _))⟩
theorem xqn{T:Array Value}(b s:ByteArray)(e:Int)(w:World)(hT:(Tryz.prog.info? 34).map (·.size)=some T.size)(hs:s.size=816)
 (HS:∀ w1:World,Below w.heap.size w w1→Calls Tryz.prog 90 #[.agg T,.int .i64 2,.string b,.int .i64 816] w1 (zB w1 (.tuple #[.string s,.int .i64 0]))):
 Calls Tryz.prog 91 #[.agg T,.string b,.int .i64 e] w (zB w (.agg (FL .i64 256 (sma (bys s) e)))):=by
 obtain⟨hz,hsize⟩:=zero_of_info polt.infoP;obtain⟨z,HZ⟩:=xaa (FL .i64 256 fun _=>0);rw[HZ.out]at hz;have Hzs:=zfs HZ;have HU:Ω (∀ w1:World,Calls Tryz.prog 144 #[.string s,.int .i64 e] w1 (zB w1 (.agg (FL .i64 256 (sma (bys s) e))))):=⟨fun w1=>xvm s e w1 hs⟩;obtain⟨R,HR⟩:=xaa (FL .i64 256 (sma (bys s) e));have Ri:=zri HR hsize;have Ro:=zro HR;have Rz:=zrz Hzs HR;have HTz:=ω hT;rw[HR.out]at HU ⊢;obtain⟨W,hW⟩:=zev ((w.alloc (.cells T 34)).alloc (.cells z 109));obtain⟨r0,r1,hWs,b0⟩:=two hW;have T0:Ω (W.heap[w.heap.size]? = some (.cells T 34 (0,0))):=⟨r0⟩;have R0:Ω (W.heap[w.heap.size+1]? = some (.cells z 109 (0,0))):=⟨r1⟩;have BW:=ω b0;have HWs:=ω hWs;have HW:=ω hW;have HSh:=ω (HS W b0);clear hW r0 r1 b0 hWs hsize HS hT HR hs;go_enter Tryz.func91,Tryz.ntmps91;go_wp2_with (first
  | (rw[HW.out])
  | (refine wpList_load_row rfl 34 _ rfl w.heap.size rfl 34 T (0,0) _ T0.out zY rfl HTz.out ?_))
 refine HSh.out.mono ?_;rintro x u1 ⟨rfl,hb1⟩;have R1:Ω (u1.heap[w.heap.size+1]? = some (.cells z 109 (0,0))):=⟨(hb1.block _ (by rw[HWs.out];omega)).trans R0.out⟩;have B1:Ω (Below w.heap.size w u1):=⟨BW.out.trans (hb1.mono (by rw[HWs.out];omega))⟩;have Hlt:Ω (w.heap.size+1<u1.heap.size):=⟨xac R1.out⟩;clear hb1 hz;go_wp2_with fail;refine(HU.out _).mono ?_;rintro x u2 ⟨rfl,hb2⟩;have R2:Ω (u2.heap[w.heap.size+1]? = some (.cells z 109 (0,0))):=⟨(hb2.block _ Hlt.out).trans R1.out⟩;have B2:=zbt B1 hb2;clear hb2;go_wp2_with (refine wpList_store_row rfl 109 _ _ rfl (w.heap.size+1) R rfl rfl 109 _ R2.out Ri.out Rz.out Ro.out ?_);refine bodyPost_ret_by (v:=.agg R) (results_cell_row rfl _ _ (w.heap.size+1) 109 _ (0,0) _ rfl (setRow_heap _ _ _ _ _ _ R2.out) zX rfl Ri.out) rfl ?_;exact⟨rfl,B2.out.trans (below_setRow _ _ _ (Nat.le_succ _))⟩
end qsma
end Go.Proofs.YtgahcabgmfbhdaaGreatDoor
