/-
  Layer 12 as plain functions: sizes, rows of a product, a pair of keys as bytes, and what is read of 
-/
import Derived.Test.YtomphjajkkddkaaGreatDoorZt08
import Derived.Test.YtomphjajkkddkaaGreatDoorZt02
import Derived.Test.YtomphjajkkddkaaGreatDoorZt01
import Derived.Test.YtomphjajkkddkaaGreatDoorZt05
import Derived.Test.YtomphjajkkddkaaGreatDoorProg
set_option maxRecDepth 100000
set_option maxHeartbeats 16000000
namespace Go.Proofs.YtomphjajkkddkaaGreatDoor
namespace mlkm
open Go Go.RowKit
open arr mem keca polys fldm spok nttl rbita rbitd rbite rbitf rbitg bitp rndm samb saml rsdoc
def cat (b:ByteArray) (f:Nat→ByteArray):Nat→ByteArray
 | 0=>b
 | n+1=>cat b f n++f n
theorem cat_size (b:ByteArray) (f:Nat→ByteArray) (m n:Nat) (h:∀ i,i<n→(f i).size=m):(cat b f n).size=b.size+m*n:=by
 induction n with
 | zero=>rfl
 | succ n ih=>rw[cat,ByteArray.size_append,ih fun i hi=>h i (by omega),h n (by omega),Nat.mul_succ];omega
theorem cat_nil (b:ByteArray) (f:Nat→ByteArray) (n:Nat):b++cat ByteArray.empty f n=cat b f n:=by
 induction n with
 | zero=>rw[cat,cat,ByteArray.append_empty]
 | succ n ih=>rw[cat,cat,←ih,ByteArray.append_assoc]
theorem cat_congr (b:ByteArray) {f g:Nat→ByteArray} (n:Nat) (h:∀ i,i<n→f i=g i):cat b f n=cat b g n:=by
 induction n with
 | zero=>rfl
 | succ n ih=>rw[cat,cat,ih fun i hi=>h i (by omega),h n (by omega)]
def rsum (x th:Nat→Nat→Int):Nat→Nat→Int
 | 0=>fun _=>0
 | n+1=>fun k=>(rsum x th n k+(x n k*th n k)%8380417)%8380417
def rowv (ζ : Nat→Int) (x v:Nat→Nat→Int) (n:Nat):Nat→Int:=fun k=>(backR ζ 8 (rsum x (fun j=>thereR ζ 8 (v j)) n) k*8347681)%8380417
def sz1 (k:Int):Int:=32+320*k
def sz2 (k l e:Int):Int:=128+32*((lb (2*e).toNat:Nat):Int)*(l+k)+416*k
def sz3 (k l a o s:Int):Int:=s / 4+32*(((lb (a-1).toNat:Nat):Int)+1)*l+o+k
section
variable (ζ : Nat→Int) (sd:ByteArray) (kn ln:Nat) (e:Int)
def pS:ByteArray:=out TL RL 2 (tw sd kn ln) 128
def pRho:ByteArray:=(pS sd kn ln).extract 0 32
def pSig:ByteArray:=(pS sd kn ln).extract 32 96
def pKey:ByteArray:=(pS sd kn ln).extract 96 128
def pT (i:Nat):Nat→Int:=fun k=>(rowv ζ (qX (pRho sd kn ln) i) (qS (pSig sd kn ln) e) ln k+qS (pSig sd kn ln) e (ln+i) k)%8380417
def pHi (i:Nat):Nat→Int:=fun k=>sh (pT ζ sd kn ln e i k)
def pLo (i:Nat):Nat→Int:=fun k=>sl (pT ζ sd kn ln e i k)%8380417
def pPk:ByteArray:=cat (pRho sd kn ln) (fun i=>packed (pHi ζ sd kn ln e i) 1023) kn
def pTr:ByteArray:=out TL RL 2 (pPk ζ sd kn ln e) 64
def pHead:ByteArray:=pRho sd kn ln++pKey sd kn ln++pTr ζ sd kn ln e
def laidS (b:ByteArray) (p:Nat→Nat→Int) (low high:Int) (n:Nat):ByteArray:=cat b (fun i=>packed (sg (p i) high) (low+high)) n
def skB (h:ByteArray) (a b l:Nat→Nat→Int):ByteArray:=laidS (laidS (laidS h a e e ln) b e e kn) l 4095 4096 kn
def pSk:ByteArray:=skB kn ln e (pHead ζ sd kn ln e) (qS (pSig sd kn ln) e) (fun i=>qS (pSig sd kn ln) e (ln+i)) (pLo ζ sd kn ln e)
end
theorem pS_size (sd:ByteArray) (kn ln:Nat):(pS sd kn ln).size=128:=samc.out_size _ _ _
theorem pRho_size (sd:ByteArray) (kn ln:Nat):(pRho sd kn ln).size=32:=by unfold pRho;rw[pols.size_extract _ _ _ (by decide) (by rw[pS_size];decide)]
theorem pSig_size (sd:ByteArray) (kn ln:Nat):(pSig sd kn ln).size=64:=by unfold pSig;rw[pols.size_extract _ _ _ (by decide) (by rw[pS_size];decide)]
theorem pKey_size (sd:ByteArray) (kn ln:Nat):(pKey sd kn ln).size=32:=by unfold pKey;rw[pols.size_extract _ _ _ (by decide) (by rw[pS_size];decide)]
theorem pHi_in (ζ : Nat→Int) (sd:ByteArray) (kn ln:Nat) (e:Int) (i:Nat):inb (pHi ζ sd kn ln e i) 1023:=fun _ _=>⟨(split_is _).1,(split_is _).2.1⟩
theorem pLo_in (ζ : Nat→Int) (sd:ByteArray) (kn ln:Nat) (e:Int) (i:Nat):ins (pLo ζ sd kn ln e i) 4095 4096:=fun k _=>by
 have h:=sl_bound (pT ζ sd kn ln e i k)
 unfold pLo
 rw[ce_back _ (by omega) (by omega)]
 omega
theorem pLo_red (ζ : Nat→Int) (sd:ByteArray) (kn ln:Nat) (e:Int) (i k:Nat) : 0≤pLo ζ sd kn ln e i k∧pLo ζ sd kn ln e i k<8380417:=by unfold pLo;omega
theorem qS_in (sd:ByteArray) (e:Int) (he:e=2∨e=4) (i:Nat):ins (qS sd e i) e e:=fun k _=>sma_bound _ e he k
theorem qS_red (sd:ByteArray) (e:Int) (i k:Nat) : 0≤qS sd e i k∧qS sd e i k<8380417:=sma_red _ _ _
theorem lb_1023:lb (1023:Int).toNat=10:=by decide +kernel
theorem lb_low:lb (4095+4096:Int).toNat=13:=by decide +kernel
theorem lb_eta (e:Int) (he:e=2∨e=4):lb (e+e).toNat=lb (2*e).toNat∧1≤lb (e+e).toNat∧lb (e+e).toNat≤4:=by rcases he with rfl | rfl<;>decide +kernel
theorem pPk_size (ζ : Nat→Int) (sd:ByteArray) (kn ln:Nat) (e:Int):(pPk ζ sd kn ln e).size=32+320*kn:=by
 unfold pPk
 rw[cat_size _ _ 320 kn fun _ _=>by rw[size_packed,lb_1023],pRho_size]
theorem laidS_size (b:ByteArray) (p:Nat→Nat→Int) (low high:Int) (n:Nat):(laidS b p low high n).size=b.size+32*lb (low+high).toNat*n:=cat_size _ _ _ n fun _ _=>size_packed _ _
theorem skB_size (kn ln:Nat) (e:Int) (h:ByteArray) (a b l:Nat→Nat→Int):(skB kn ln e h a b l).size=h.size+32*lb (e+e).toNat*ln+32*lb (e+e).toNat*kn+416*kn:=by
 unfold skB
 rw[laidS_size,laidS_size,laidS_size,lb_low]
theorem pTr_size (ζ : Nat→Int) (sd:ByteArray) (kn ln:Nat) (e:Int):(pTr ζ sd kn ln e).size=64:=samc.out_size _ _ _
theorem pHead_size (ζ : Nat→Int) (sd:ByteArray) (kn ln:Nat) (e:Int):(pHead ζ sd kn ln e).size=128:=by
 unfold pHead
 rw[ByteArray.size_append,ByteArray.size_append,pRho_size,pKey_size,pTr_size]
theorem holds (ζ : Nat→Int) (sd:ByteArray) (kn ln:Nat) (e:Int) (i k:Nat):((pHi ζ sd kn ln e i k*8192)%8380417+pLo ζ sd kn ln e i k)%8380417=(rowv ζ (qX (pRho sd kn ln) i) (qS (pSig sd kn ln) e) ln k+qS (pSig sd kn ln) e (ln+i) k)%8380417:=by
 have h:=(split_is (pT ζ sd kn ln e i k)).2.2
 have h2:pT ζ sd kn ln e i k%8380417=pT ζ sd kn ln e i k:=by unfold pT;omega
 unfold pHi pLo
 have h3:pT ζ sd kn ln e i k=(rowv ζ (qX (pRho sd kn ln) i) (qS (pSig sd kn ln) e) ln k+qS (pSig sd kn ln) e (ln+i) k)%8380417:=rfl
 rw[←h3]
 omega
end mlkm
namespace mlkb
open Go Go.RowKit
open arr mem polys fldm rbita rbitd rbite rbitf rbitg bitp mlkm rndm
theorem ext_none (b:ByteArray) (i:Nat):b.extract i 0=ByteArray.empty:=ByteArray.extract_eq_empty_iff.2 (by omega)
theorem ext_left (b:ByteArray) (f:Nat→ByteArray) (n i j:Nat) (h:j≤b.size):(cat b f n).extract i j=b.extract i j:=by
 induction n with
 | zero=>rfl
 | succ n ih=>
  have hs:b.size≤(cat b f n).size:=by
   clear ih
   induction n with
   | zero=>exact Nat.le_refl _
   | succ n ih=>rw[cat,ByteArray.size_append];omega
  rw[cat,ByteArray.extract_append,ih,show j-(cat b f n).size=0 by omega,ext_none,ByteArray.append_empty]
theorem ext_cat (b:ByteArray) (f:Nat→ByteArray) (m n i:Nat) (hf:∀ i,i<n→(f i).size=m) (hi:i<n):(cat b f n).extract (b.size+m*i) (b.size+m*i+m)=f i:=by
 induction n with
 | zero=>omega
 | succ n ih=>
  have hs:=cat_size b f m n fun i hi=>hf i (by omega)
  by_cases e:i=n
  ·subst e
   rw[cat,ByteArray.extract_append_eq_right hs.symm (by rw[hs,hf i (by omega)])]
  ·have hm:m*(i+1)≤m*n:=Nat.mul_le_mul_left m (by omega)
   rw[Nat.mul_succ]at hm
   rw[cat,ByteArray.extract_append,ih (fun i hi=>hf i (by omega)) (by omega),show b.size+m*i+m-(cat b f n).size=0 by rw[hs];omega,ext_none,ByteArray.append_empty]
theorem packed_congr {f g:Nat→Int} (most:Int) (h:∀ i,i<256→f i=g i):packed f most=packed g most:=by
 unfold packed
 have:ns f=ns g:=by
  unfold ns
  exact List.map_congr_left fun i hi=>by rw[h i (List.mem_range.1 hi)]
 rw[this]
def rdU (s:ByteArray) (at' w:Nat) (i:Nat):Nat→Int:=up (s.extract (at'+32*w*i) (at'+32*w*i+32*w)) w
def rdS (s:ByteArray) (at' w:Nat) (high:Int) (i:Nat):Nat→Int:=un (rdU s at' w i) high
def okU (s:ByteArray) (at' w:Nat) (most:Int) (n:Nat):Prop:=∀ i,i<n→inb (rdU s at' w i) most
theorem piece_size (s:ByteArray) (at' w i n:Nat) (hi:i<n) (hs:at'+32*w*n≤s.size):(s.extract (at'+32*w*i) (at'+32*w*i+32*w)).size=32*w:=by
 have hm : 32*w*(i+1)≤32*w*n:=Nat.mul_le_mul_left _ (by omega)
 rw[Nat.mul_succ]at hm
 rw[pols.size_extract _ _ _ (by omega) (by omega)]
 omega
theorem rd_packed (b:ByteArray) (f:Nat→Nat→Int) (most:Int) (n i:Nat) (h2:most<8380417) (hi:i<n) (hin:inb (f i) most) (k:Nat) (hk:k<256):rdU (cat b (fun i=>packed (f i) most) n) b.size (lb most.toNat) i k=f i k:=by
 unfold rdU
 rw[ext_cat b (fun i=>packed (f i) most) (32*lb most.toNat) n i (fun _ _=>size_packed _ _) hi]
 exact up_packed (f i) most h2 hin k hk
theorem sg_in {f:Nat→Int} {low high:Int} (h:ins f low high):inb (sg f high) (low+high):=fun i hi=>by
 have:=h i hi
 unfold sg
 omega
theorem rd_laid (b:ByteArray) (p:Nat→Nat→Int) (low high:Int) (n i:Nat) (h2:low+high<8380417) (hi:i<n) (hin:ins (p i) low high) (hr:∀ k,0≤p i k∧p i k<8380417) (k:Nat) (hk:k<256):
 rdS (laidS b p low high n) b.size (lb (low+high).toNat) high i k=p i k:=by
 have h:=rd_packed b (fun i=>sg (p i) high) (low+high) n i h2 hi (sg_in hin) k hk
 rw[←un_sg (p i) high k (hr k)]
 unfold rdS laidS un
 rw[h]
theorem ok_laid (b:ByteArray) (p:Nat→Nat→Int) (low high:Int) (n:Nat) (h2:low+high<8380417) (hin:∀ i,i<n→ins (p i) low high):okU (laidS b p low high n) b.size (lb (low+high).toNat) (low+high) n:=fun i hi k hk=>by
 have h:=rd_packed b (fun i=>sg (p i) high) (low+high) n i h2 hi (sg_in (hin i hi)) k hk
 unfold laidS
 rw[h]
 exact sg_in (hin i hi) k hk
theorem rd_left (b:ByteArray) (f:Nat→ByteArray) (n at' w i m:Nat) (hi:i<m) (h:at'+32*w*m≤b.size):rdU (cat b f n) at' w i=rdU b at' w i:=by
 have hm : 32*w*(i+1)≤32*w*m:=Nat.mul_le_mul_left _ (by omega)
 rw[Nat.mul_succ]at hm
 unfold rdU
 rw[ext_left _ _ _ _ _ (by omega)]
end mlkb
namespace rksz
open Go Go.RowKit
open arr mem polys polt pols rbita rbitd rbite bitp rndm saml samr lsl11 mlkm mlkb
def szs (k l e t a b o s:Int):Value:=if latt k l e t a b o s=true then .tuple #[.int .i64 (sz1 k),.int .i64 (sz2 k l e),.int .i64 (sz3 k l a o s)] else .tuple #[.int .i64 0,.int .i64 0,.int .i64 0]
theorem latt_all {k l e t a b o s:Int} (h:latt k l e t a b o s=true):(1≤k∧k≤8)∧(1≤l∧l≤8)∧(e=2∨e=4)∧(a=131072∨a=524288)∧(1≤o∧o≤100)∧(s=128∨s=192∨s=256):=by
 unfold latt upto at h
 simp only[Bool.and_eq_true,Bool.or_eq_true,decide_eq_true_eq,beq_iff_eq]at h
 obtain⟨⟨⟨⟨⟨⟨⟨h1,h2⟩,h3⟩,h4⟩,h5⟩,h6⟩,h7⟩,h8⟩:=h
 exact⟨h1,h2,h5,h6,h4,by omega⟩
end rksz
namespace rkpb
open Go Go.RowKit
open arr mem polys polt pols rbita rbitd rbite bitp rndm saml samr lsl11 mlkm mlkb
def okP (q:Nat→Nat→Int) (most:Int) (n:Nat):Prop:=∀ i,i<n→inb (q i) most
instance (q:Nat→Nat→Int) (most:Int) (n:Nat):Decidable (okP q most n):=by unfold okP;exact inferInstance
def okS (q:Nat→Nat→Int) (low high:Int) (n:Nat):Prop:=∀ i,i<n→ins (q i) low high
instance (q:Nat→Nat→Int) (low high:Int) (n:Nat):Decidable (okS q low high n):=by unfold okS;exact inferInstance
def resP (b:ByteArray) (q:Nat→Nat→Int) (most:Int) (n:Nat):Value:=if okP q most n then .tuple #[.string (cat b (fun i=>packed (q i) most) n),.int .i64 0] else .tuple #[.string ⟨#[]⟩,.int .i64 6]
def resS (b:ByteArray) (q:Nat→Nat→Int) (low high:Int) (n:Nat):Value:=if okS q low high n then .tuple #[.string (laidS b q low high n),.int .i64 0] else .tuple #[.string ⟨#[]⟩,.int .i64 6]
theorem hd_any {w:World} {B m:Nat} {v:Value} {q:Nat→Nat→Int} (h:Holds w B v m q):∃ g c,v=.slice (some ⟨g,0,none⟩) m c∧g<w.heap.size:=by
 obtain⟨g,c,e,-,h2,-⟩:=h
 exact⟨g,c,e,h2⟩
theorem hd_row {w:World} {B m g c:Nat} {q:Nat→Nat→Int} (h:Holds w B (.slice (some ⟨g,0,none⟩) m c) m q) (j:Nat) (hj:j<m):w.rangeAt g (j*256) (FL .i64 256 (q j)).toList:=by
 obtain⟨g2,c2,e,-,-,h3⟩:=h
 injection e with x1 x2 x3
 iterate 2 (injection x1 with x1)
 subst x1
 rw[Nat.mul_comm]
 exact Holds.range (p:=q) fun i hi=>h3 j hj i hi
end rkpb
namespace rksb
open Go Go.RowKit
open arr mem polys polt pols rbita rbitd rbite bitp rndm saml samr lsl11 mlkm mlkb rkpb
def resK (kn ln:Nat) (e:Int) (h:ByteArray) (p q l:Nat→Nat→Int):Value:=if okS p e e ln∧okS q e e kn∧okS l 4095 4096 kn then .tuple #[.string (skB kn ln e h p q l),.int .i64 0] else .tuple #[.string ⟨#[]⟩,.int .i64 6]
end rksb
namespace rkse
open Go Go.RowKit
open arr mem polys polt pols rbita rbitd rbite bitp rndm saml samr lsl11 mlkm mlkb
def okK (x:ByteArray) (kn ln:Nat) (e:Int):Prop:=okU x 128 (lb (e+e).toNat) (e+e) ln∧okU x (128+32*lb (e+e).toNat*ln) (lb (e+e).toNat) (e+e) kn∧okU x (128+32*lb (e+e).toNat*ln+32*lb (e+e).toNat*kn) 13 8191 kn
def three (w:World) (v:Value) (x:ByteArray) (kn ln:Nat) (e:Int):Prop:=
 ∃ g c v1 v2 v3,v=.slice (some ⟨g,0,none⟩) 3 c∧g<w.heap.size∧w.cell? ⟨g,0,none⟩=some v1∧w.cell? ⟨g,1,none⟩=some v2∧w.cell? ⟨g,2,none⟩=some v3
  ∧ Holds w 0 v1 ln (rdS x 128 (lb (e+e).toNat) e)∧Holds w 0 v2 kn (rdS x (128+32*lb (e+e).toNat*ln) (lb (e+e).toNat) e)∧Holds w 0 v3 kn (rdS x (128+32*lb (e+e).toNat*ln+32*lb (e+e).toNat*kn) 13 4096)
theorem holds_base {w:World} {B m:Nat} {v:Value} {q:Nat→Nat→Int} (h:Holds w B v m q):Holds w 0 v m q:=by
 obtain⟨g,c,e,-,r⟩:=h
 exact⟨g,c,e,Nat.zero_le _,r⟩
end rkse
namespace rkrw
open Go Go.RowKit
open arr mem polys polt pols rbita rbitd rbite bitp rndm saml samr lsl11 mlkm mlkb
def MX (w:World) (v:Value) (R:Nat) (n:Nat→Nat) (x:Nat→Nat→Nat→Int):Prop:=
 ∃ G C,v=.slice (some ⟨G,0,none⟩) R C∧G<w.heap.size∧∀ r,r<R→∃ g c,w.cell? ⟨G,r,none⟩=some (.slice (some ⟨g,0,none⟩) (n r) c)∧g<w.heap.size∧∀ j,j<n r→∀ k,k<256→w.cell? ⟨g,256*j+k,none⟩=some (.int .i64 (x r j k))
theorem range_at {w:World} {g m:Nat} {q:Nat→Int} (h:∀ k,k<256→w.cell? ⟨g,256*m+k,none⟩=some (.int .i64 (q k))):w.rangeAt g (m*256) (FL .i64 256 q).toList:=by
 rw[Nat.mul_comm]
 exact Holds.range (p:=fun _=>q) (i:=m) h
theorem wpQuiet_load_mid {P:Program} {ops:Array Oper} {C:World→Prop} {Q:Act→Prop} {rest:List Oper} {o:Oper} {a:Act} (hw:Region.wanted o (yielded ops a.tmps)=true) (ty:TypeId) (x:Operand) (ho:o.op=.load ty x)
 (b n:Nat) (hx:a.eval x=.pointer (some ⟨b,n,none⟩)) (cs:List Value) (d:TypeDesc) (hS:∀ w,C w→w.rangeAt b n cs)
 (hu:P.underlying ty=some d) (hd:d.isRow=true) (hi:(P.info? ty).map (·.size)=some cs.length)
 (h:wpQuiet P ops C Q rest (a.put o.dst (.agg cs.toArray))):wpQuiet P ops C Q (o :: rest) a:=by
 refine wpQuiet_step fun K hK=>?_
 rw[if_pos hw]
 refine⟨.agg cs.toArray,fun w hC=>?_,hK _ h⟩
 unfold Oper.quietAt execOp
 simp only[ho,hx,Instr.loadAt,Instr.sureAddr,Sem.run_bind,Sem.run_pure,Result.andThen_ok,run_loadVar_mid w b n ty cs d (hS w hC) hu hd hi]
 exact⟨rfl,rfl⟩
theorem range_later {w w':World} {g o:Nat} {L:List Value} (h:w.rangeAt g o L) (hg:g<w.heap.size) (hb:Below w.heap.size w w'):w'.rangeAt g o L:=fun j v hv=>(hb.cell (p:=⟨g,o+j,none⟩) hg).trans (h j v hv)
end rkrw
namespace mlkd
open Go Go.RowKit
open arr mem polys polt pols rbita rbitd rbite bitp rndm saml samr lsl11 mlkm mlkb tabm tabt tabv rkrw
theorem mx_of {w:World} {B B' e kn ln:Nat} {v:Value} {vs:List Value} {sk:Option Nat} {p:Nat→Nat→Nat→Int} (hk : 1≤kn) (h:w.ownsRow B e 1 v kn vs) (hr:Rowl w B' sk vs ln p):MX w v kn (fun _=>ln) p:=by
 obtain⟨g,cap,rfl⟩:=owns_some (by omega) h
 refine⟨g,cap,rfl,(h.lt g rfl).2,fun r hr'=>?_⟩
 have hl:vs.length=kn:=by have:=h.1;omega
 have hv:vs[r]? = some vs[r]:=List.getElem?_eq_getElem (by omega)
 obtain⟨g2,c2,e2,-,h2,-,h4⟩:=hr r _ hv
 refine⟨g2,c2,?_,h2,h4⟩
 rw[h.cellAt r (by omega),hv,e2]
theorem ht_doc:∀ k,k<256→TA[209+k]? = some (.int .i64 ((zt k:Nat):Int)):=fun k hk=>by rw[ta_get _ (by omega),tv_zetas k hk,zl_get 256 k hk (by decide)]
theorem mx_later {w w':World} {v:Value} {R:Nat} {n:Nat→Nat} {x:Nat→Nat→Nat→Int} (h:MX w v R n x) (hb:Below w.heap.size w w'):MX w' v R n x:=by
 obtain⟨G,C,e,hG,hr⟩:=h
 refine⟨G,C,e,Nat.lt_of_lt_of_le hG hb.size,fun r hr2=>?_⟩
 obtain⟨g,c,h1,h2,h3⟩:=hr r hr2
 exact⟨g,c,(hb.cell (p:=⟨G,r,none⟩) hG).trans h1,Nat.lt_of_lt_of_le h2 hb.size,fun j hj k hk=>(hb.cell (p:=⟨g,256*j+k,none⟩) h2).trans (h3 j hj k hk)⟩
end mlkd
end Go.Proofs.YtomphjajkkddkaaGreatDoor
namespace Go.Proofs.YtomphjajkkddkaaGreatDoor
namespace mlsm
open Go Go.RowKit
open arr mem keca polys fldm spok nttl rbita rbitb rbitd rbith bitp rndm samb saml rsdoc mlkm
def msg (c x:ByteArray):ByteArray:=(⟨#[0,UInt8.ofNat c.size]⟩:ByteArray)++c++x
def one (ζ : Nat→Int) (c f:Nat→Int):Nat→Int:=fun k=>(backR ζ 8 (fun k=>(thereR ζ 8 c k*thereR ζ 8 f k)%8380417) k*8347681)%8380417
structure Sg where
 ζ : Nat→Int
 kn:Nat
 ln:Nat
 e:Int
 t:Int
 a:Int
 b:Int
 o:Int
 s:Int
 rho:ByteArray
 mu:ByteArray
 ms:ByteArray
 A:Nat→Nat→Int
 B:Nat→Nat→Int
 C:Nat→Nat→Int
section
variable (S:Sg) (n:Nat)
def tY (r:Nat):Nat→Int:=qM S.ms S.a (n*S.ln) r
def tW (i:Nat):Nat→Int:=rowv S.ζ (qX S.rho i) (tY S n) S.ln
def tHi (i:Nat):Nat→Int:=fun k=>hgh S.b (tW S n i k)
def tSum:ByteArray:=out TL RL 2 (cat S.mu (fun i=>packed (tHi S n i) (8380416 / (2*S.b)-1)) S.kn) (S.s / 4).toNat
def tC:Nat→Int:=dB (tSum S n) S.t
def tZ (r:Nat):Nat→Int:=fun k=>(tY S n r k+one S.ζ (tC S n) (S.A r) k)%8380417
def tV (i:Nat):Nat→Int:=fun k=>(tW S n i k-one S.ζ (tC S n) (S.B i) k)%8380417
def tLo (i:Nat):Nat→Int:=fun k=>lw S.b (tV S n i k)%8380417
def tCl (i:Nat):Nat→Int:=one S.ζ (tC S n) (S.C i)
def tHn (i:Nat):Nat→Int:=fun k=>hn S.b ((0-tCl S n i k)%8380417) ((tV S n i k+tCl S n i k)%8380417)
def tOk:Bool:=decide (cbs (tZ S n) S.ln<S.a-S.t*S.e) && (decide (cbs (tLo S n) S.kn<S.b-S.t*S.e) && (decide (cbs (tCl S n) S.kn<S.b) && decide ((tot (tHn S n) S.kn:Int)≤S.o)))
def tSig:ByteArray:=laidS (tSum S n) (tZ S n) (S.a-1) S.a S.ln++⟨(u8s (lay (tHn S n) S.o.toNat S.kn S.kn)).toArray⟩
end
def tTry (S:Sg):Nat→Nat→Option ByteArray
 | 0,_=>none
 | m+1,n=>if tOk S n=true then some (tSig S n) else tTry S m (n+1)
def sgn (ζ : Nat→Int) (kn ln:Nat) (e t a b o s:Int) (hd:ByteArray) (A B C:Nat→Nat→Int) (m r:ByteArray):Sg:=
 let mu:=out TL RL 2 (hd.extract 64 128++m) 64
 ⟨ζ,kn,ln,e,t,a,b,o,s,hd.extract 0 32,mu,out TL RL 2 (hd.extract 32 64++r++mu) 64,A,B,C⟩
end mlsm
end Go.Proofs.YtomphjajkkddkaaGreatDoor
namespace Go.Proofs.YtomphjajkkddkaaGreatDoor
namespace fld1
open Go Go.RowKit
open arr mem fldm
theorem modulo_any (x m:Int) (h0 : 0<m) (h1:m≤4611686018427387904) (w:World):Calls Tryz.prog 170 #[.int .i64 x,.int .i64 m] w fun e w'=>e=.returned (.int .i64 (x%m))∧w'=w:=by
 obtain⟨z,hz⟩:∃ z,x%m=z:=⟨_,rfl⟩
 obtain⟨y,hy⟩:∃ y,x.tmod m=y:=⟨_,rfl⟩
 have h:=tmod_is x m h0
 have hb : 0≤z∧z<m:=by rw[←hz];exact⟨Int.emod_nonneg _ (by omega),Int.emod_lt_of_pos _ (by omega)⟩
 have hm0:¬ m=0:=by omega
 have hm1:(m==0)=false:=beq_eq_false_iff_ne.2 hm0
 rw[hz,hy]at h
 rw[hz]
 rcases h with ⟨h2,h3⟩ | ⟨h2,h3⟩
 ·subst h3
  have h4:¬ y<0:=by omega
  clear hz hb
  go_enter Tryz.func170,Tryz.ntmps170
  go_wp2_with fail
  go_ret
  exact⟨rfl,rfl⟩
 ·have hw:IntKind.i64.wrap (y+m)=z:=by rw[IntKind.wrap_i64];omega
  have h3':=Away.mk h3
  clear hz hb h3
  go_enter Tryz.func170,Tryz.ntmps170
  go_wp2_with fail
  go_ret
  exact⟨by first | rfl | rw[←h3'.out],rfl⟩
theorem reduce_any (x:Int) (w:World):Calls Tryz.prog 137 #[.int .i64 x] w fun e w'=>e=.returned (.int .i64 (x%8380417))∧w'=w:=by
 obtain⟨z,hz⟩:=ex_eq (x%8380417)
 rw[hz.out]
 have H:∀ w1:World,Calls Tryz.prog 170 #[.int .i64 x,.int .i64 8380417] w1 fun e w'=>e=.returned (.int .i64 z)∧w'=w1:=fun w1=>by rw[←hz.out];exact modulo_any x 8380417 (by decide) (by decide) w1
 go_enter Tryz.func137,Tryz.ntmps137
 go_wp2_with fail
 refine(H _).mono ?_
 rintro e w1 ⟨rfl,rfl⟩
 go_wp2_with fail
 go_ret
 exact⟨rfl,rfl⟩
end fld1
namespace fld1
open Go Go.RowKit
open arr mem fldm
theorem centre_any (x m:Int) (w:World):Calls Tryz.prog 131 #[.int .i64 x,.int .i64 m] w fun e w'=>e=.returned (.int .i64 (ce m x))∧w'=w:=by
 unfold ce
 by_cases h0:m<1
 ·rw[if_pos (Or.inl h0)]
  go_enter Tryz.func131,Tryz.ntmps131
  go_wp2_with fail
  go_ret
  exact⟨rfl,rfl⟩
 ·by_cases h1 : 1125899906842624<m
  ·rw[if_pos (Or.inr h1)]
   go_enter Tryz.func131,Tryz.ntmps131
   go_wp2_with fail
   go_ret
   exact⟨rfl,rfl⟩
  ·rw[if_neg (by omega)]
   obtain⟨z,hz⟩:=ex_eq (x%m)
   have hb : 0≤z∧z<m:=by rw[←hz.out];exact⟨Int.emod_nonneg _ (by omega),Int.emod_lt_of_pos _ (by omega)⟩
   rw[hz.out]
   have H:∀ w1:World,Calls Tryz.prog 170 #[.int .i64 x,.int .i64 m] w1 fun e w'=>e=.returned (.int .i64 z)∧w'=w1:=fun w1=>by rw[←hz.out];exact modulo_any x m (by omega) (by omega) w1
   have hw:IntKind.i64.wrap (m-z)=m-z:=by rw[IntKind.wrap_i64];omega
   have hw2:IntKind.i64.wrap (z-m)=z-m:=by rw[IntKind.wrap_i64];omega
   by_cases h5:m / 2<z
   ·rw[if_pos h5]
    have h6:m-z<z:=by omega
    clear h5
    go_enter Tryz.func131,Tryz.ntmps131
    go_wp2_with fail
    refine(H _).mono ?_
    rintro e w1 ⟨rfl,rfl⟩
    go_wp2_with fail
    go_ret
    exact⟨rfl,rfl⟩
   ·rw[if_neg h5]
    have h6:¬ m-z<z:=by omega
    clear h5
    go_enter Tryz.func131,Tryz.ntmps131
    go_wp2_with fail
    refine(H _).mono ?_
    rintro e w1 ⟨rfl,rfl⟩
    go_wp2_with fail
    go_ret
    exact⟨rfl,rfl⟩
end fld1
end Go.Proofs.YtomphjajkkddkaaGreatDoor
namespace Go.Proofs.YtomphjajkkddkaaGreatDoor
namespace fscale
open Go Go.RowKit
open arr mem stil polys polt fldm fld1
theorem scale_any (f:Nat→Int) (n:Int) (w:World):
 Calls Tryz.prog 87 #[.agg (FL .i64 256 f),.int .i64 n] w fun e w'=>e=.returned (.agg (FL .i64 256 fun i=>(f i*n)%8380417))∧Below w.heap.size w w':=by
 obtain⟨hz,hsize⟩:=zero_of_info infoP
 obtain⟨z,HZ⟩:=ex_eq (FL .i64 256 fun _=>0)
 rw[HZ.out]at hz
 have Hzs:Away (z.size=256):=⟨by rw[←HZ.out];exact fl_size _ _ _⟩
 obtain⟨F,HF⟩:∃ F:Nat→Int,Away (F=fun i=>(f i*n)%8380417):=⟨_,⟨rfl⟩⟩
 have hFi:∀ i,F i=(fun i=>(f i*n)%8380417) i:=fun i=>by rw[HF.out]
 have HFi:=Away.mk hFi
 rw[←HF.out]
 clear HF hFi
 obtain⟨R,HR⟩:=ex_eq (FL .i64 256 F)
 have Ri:Away ((Tryz.prog.info? 76).map (·.size)=some R.size):=⟨by rw[←HR.out,fl_size];exact hsize⟩
 have Ro:Away (R.all (·.oneCell')=true):=⟨by rw[←HR.out];exact fl_one _ _ _⟩
 have Rz:Away (z.size=R.size):=⟨by rw[Hzs.out,←HR.out,fl_size]⟩
 rw[HR.out]
 have Hred:=Away.mk reduce_any
 have Hn:Away (0≤n%8380417∧n%8380417<8380417):=⟨by omega⟩
 clear hsize
 go_enter Tryz.func87,Tryz.ntmps87
 go_wp2_with fail
 clear hz
 refine(reduce_any n _).mono ?_
 rintro e w1 ⟨rfl,hw1⟩
 subst hw1
 obtain⟨c,hc⟩:=ex_eq (n%8380417)
 rw[hc.out]
 have hcb : 0≤c∧c<8380417:=by have:=Hn.out;rw[hc.out]at this;exact this
 clear Hn
 go_wp2_with fail
 obtain⟨W,hW⟩:∃ x,(w.alloc (.cells (FL .i64 256 f) 76)).alloc (.cells z 76)=x:=⟨_,rfl⟩
 obtain⟨b0,b1,hWs,hWb⟩:=two hW
 rw[hW]
 clear hW
 have B0:=Away.mk b0
 have BR:=Away.mk b1
 have HWs:Away (w.heap.size+2≤W.heap.size):=⟨by omega⟩
 have HWb:=Away.mk hWb
 clear hWs hWb b0 b1
 go_loopw [9] (fun v wr=>∃ i:Nat,i≤256∧v=.int .i64 (i:Int)∧Away (At w.heap.size (FL .i64 256 (pt F f i)) 76 W wr)) (fun v _=>256-(intOf v).toNat)
 case atStart=>exact⟨0,Nat.zero_le _,rfl,⟨by rw[pt_zero];exact At.refl B0.out⟩⟩
 case round=>
  obtain⟨i,hi,rfl,A0⟩:=hrel
  by_cases hlt:i<256
  ·have hiz:(i:Int)<256:=by omega
   obtain⟨x,hx⟩:∃ x,f i=x:=⟨_,rfl⟩
   have ca:wr.cell? ⟨w.heap.size,i,none⟩=some (.int .i64 x):=by
    have h9:=fl_at A0.out.row i hlt
    rw[pt_at,hx]at h9
    exact h9
   have HV:Away (F i=(x*c)%8380417):=⟨by rw[HFi.out,hx,←hc.out,Int.mul_emod,Int.mul_emod x (n%8380417),Int.emod_emod]⟩
   obtain⟨x1,hx1⟩:=ex_eq (x%8380417)
   have hxb : 0≤x1∧x1<8380417:=by rw[←hx1.out];omega
   have hp : 0≤x1*c∧x1*c≤8380417*8380417:=⟨Int.mul_nonneg hxb.1 hcb.1,Int.le_trans (Int.mul_le_mul_of_nonneg_right (Int.le_of_lt hxb.2) hcb.1) (Int.mul_le_mul_of_nonneg_left (Int.le_of_lt hcb.2) (by decide))⟩
   have hs:IntKind.i64.wrap (x1*c)=x1*c:=by rw[IntKind.wrap_i64];omega
   have hs2:(x1*c)%8380417=F i:=by rw[HV.out,←hx1.out,Int.mul_emod,Int.emod_emod,←Int.mul_emod]
   obtain⟨v,hv⟩:=ex_eq ((x1*c)%8380417)
   have Hx:∀ w1:World,Calls Tryz.prog 137 #[.int .i64 x] w1 fun e w'=>e=.returned (.int .i64 x1)∧w1=w':=fun w1=>by rw[←hx1.out];exact(reduce_any x w1).mono fun _ _ h=>⟨h.1,h.2.symm⟩
   have Hs:∀ w1:World,Calls Tryz.prog 137 #[.int .i64 (x1*c)] w1 fun e w'=>e=.returned (.int .i64 v)∧w1=w':=fun w1=>by rw[←hv.out];exact(reduce_any _ w1).mono fun _ _ h=>⟨h.1,h.2.symm⟩
   have HU:Away (upd (pt F f i) i v=pt F f (i+1)):=⟨pt_upd F f i v (by rw[←hv.out,hs2])⟩
   clear hs2 hp hxb
   clear hx
   go_wp2_with fail
   refine(Hx _).mono ?_
   rintro e w3 ⟨rfl,hw3⟩
   subst hw3
   go_wp2_with fail
   refine(Hs _).mono ?_
   rintro e w3 ⟨rfl,hw3⟩
   subst hw3
   clear ca
   have A1:Away (At w.heap.size (FL .i64 256 (pt F f i)) 76 W wr):=A0
   clear A0
   go_wp2_with ((with_reducible refine wpList_put2 A1 rfl _ _ _ rfl rfl ?_);refine⟨_,_,_,rfl,rfl,rfl,(by rw[fl_size];exact hlt),?_⟩;intro wn HR;rw[fl_set,HU.out]at HR)
   go_roundw
   case rel=>exact⟨i+1,by omega,by go_num,HR⟩
   case measure=>simp[intOf];omega
  ·obtain rfl:i=256:=by omega
   simp only[Int.cast_ofNat_Int]
   rw[fl_all,HR.out]at A0
   have Hrow:=Away.mk A0.out.row
   have Hres:Away (wr.heap[w.heap.size+1]? = some (.cells z 76 (0,0))):=⟨A0.out.other (by have:=HWs.out;omega) (by omega) BR.out⟩
   have HB:Away (Below w.heap.size w wr):=⟨HWb.out.trans (A0.out.below (by have:=HWs.out;omega) (Nat.le_refl _))⟩
   clear A0
   go_wp2_with (first
    | (refine wpList_load_row rfl 76 _ rfl w.heap.size rfl 76 R (0,0) _ Hrow.out Tryz.underlying76 rfl Ri.out ?_)
    | (refine wpList_store_row rfl 76 _ _ rfl (w.heap.size+1) R rfl rfl 76 _ Hres.out Ri.out Rz.out Ro.out ?_))
   refine bodyPost_ret_by (v:=.agg R) (results_cell_row rfl _ _ (w.heap.size+1) 76 _ (0,0) _ rfl (setRow_heap _ _ _ _ _ _ Hres.out) Tryz.underlying76 rfl Ri.out) rfl ?_
   exact⟨rfl,HB.out.trans (below_setRow _ _ _ (by omega))⟩
end fscale
end Go.Proofs.YtomphjajkkddkaaGreatDoor
namespace Go.Proofs.YtomphjajkkddkaaGreatDoor
namespace nred
open Go Go.RowKit
open arr mem stil polys polt nttl
theorem reduced_any (f:Nat→Int) (w:World):
 Calls Tryz.prog 135 #[.agg (FL .i64 256 f)] w fun e w'=>e=.returned (.agg (FL .i64 256 (red f)))∧Below w.heap.size w w':=by
 obtain⟨hz,hsize⟩:=zero_of_info infoP
 obtain⟨z,HZ⟩:=ex_eq (FL .i64 256 fun _=>0)
 rw[HZ.out]at hz
 have Hzs:Away (z.size=256):=⟨by rw[←HZ.out];exact fl_size _ _ _⟩
 have hr:(fun i=>(f i*1)%8380417)=red f:=by funext i;unfold red;rw[Int.mul_one]
 obtain⟨F,HF⟩:=ex_eq (FL .i64 256 f)
 obtain⟨R,HR⟩:=ex_eq (FL .i64 256 (red f))
 have Fi:Away ((Tryz.prog.info? 76).map (·.size)=some F.size):=⟨by rw[←HF.out,fl_size];exact hsize⟩
 have Ri:Away ((Tryz.prog.info? 76).map (·.size)=some R.size):=⟨by rw[←HR.out,fl_size];exact hsize⟩
 have Ro:Away (R.all (·.oneCell')=true):=⟨by rw[←HR.out];exact fl_one _ _ _⟩
 have Rz:Away (z.size=R.size):=⟨by rw[Hzs.out,←HR.out,fl_size]⟩
 have H:Away (∀ w1:World,Calls Tryz.prog 87 #[.agg F,.int .i64 1] w1 fun e w'=>e=.returned (.agg R)∧Below w1.heap.size w1 w'):=⟨fun w1=>by
  have h:=fscale.scale_any f 1 w1
  rw[hr,HF.out,HR.out]at h
  exact h⟩
 rw[HF.out,HR.out]
 clear hr HF HR HZ hsize
 go_enter Tryz.func135,Tryz.ntmps135
 go_wp2_with fail
 obtain⟨W,hW⟩:∃ x,(w.alloc (.cells F 76)).alloc (.cells z 76)=x:=⟨_,rfl⟩
 obtain⟨b0,b1,hWs,hWb⟩:=two hW
 rw[hW]
 clear hW
 have B0:=Away.mk b0
 have B1:=Away.mk b1
 have HWb:=Away.mk hWb
 clear hz hWs hWb b0 b1
 go_wp2_with fail
 refine wp_load_row 76 _ rfl w.heap.size rfl 76 F (0,0) _ B0.out Tryz.underlying76 rfl Fi.out ?_
 go_wp2_with fail
 refine(H.out _).mono ?_
 rintro e w1 ⟨rfl,hb⟩
 have B2:Away (w1.heap[w.heap.size+1]? = some (.cells z 76 (0,0))):=⟨(hb.block _ (lt_of_row B1.out)).trans B1.out⟩
 have HB:Away (Below w.heap.size w w1):=⟨HWb.out.trans (hb.mono HWb.out.size)⟩
 clear hb B0 B1 HWb
 go_wp2_with (refine wpList_store_row rfl 76 _ _ rfl (w.heap.size+1) R rfl rfl 76 _ B2.out Ri.out Rz.out Ro.out ?_)
 refine bodyPost_ret_by (v:=.agg R) (results_cell_row rfl _ _ (w.heap.size+1) 76 _ (0,0) _ rfl (setRow_heap _ _ _ _ _ _ B2.out) Tryz.underlying76 rfl Ri.out) rfl ?_
 exact⟨rfl,HB.out.trans (below_setRow _ _ _ (by omega))⟩
end nred
namespace ntimes
open Go Go.RowKit
open arr mem stil polys polt fldm fld1
theorem times_any (f g:Nat→Int) (w:World):
 Calls Tryz.prog 81 #[.agg (FL .i64 256 f),.agg (FL .i64 256 g)] w fun e w'=>e=.returned (.agg (FL .i64 256 fun i=>(f i*g i)%8380417))∧Below w.heap.size w w':=by
 obtain⟨hz,hsize⟩:=zero_of_info infoP
 obtain⟨z,HZ⟩:=ex_eq (FL .i64 256 fun _=>0)
 rw[HZ.out]at hz
 have Hzs:Away (z.size=256):=⟨by rw[←HZ.out];exact fl_size _ _ _⟩
 obtain⟨F,HF⟩:∃ F:Nat→Int,Away (F=fun i=>(f i*g i)%8380417):=⟨_,⟨rfl⟩⟩
 have hFi:∀ i,F i=(fun i=>(f i*g i)%8380417) i:=fun i=>by rw[HF.out]
 have HFi:=Away.mk hFi
 rw[←HF.out]
 clear HF hFi
 obtain⟨R,HR⟩:=ex_eq (FL .i64 256 F)
 have Ri:Away ((Tryz.prog.info? 76).map (·.size)=some R.size):=⟨by rw[←HR.out,fl_size];exact hsize⟩
 have Ro:Away (R.all (·.oneCell')=true):=⟨by rw[←HR.out];exact fl_one _ _ _⟩
 have Rz:Away (z.size=R.size):=⟨by rw[Hzs.out,←HR.out,fl_size]⟩
 rw[HR.out]
 have Hred:=Away.mk reduce_any
 clear hsize
 go_enter Tryz.func81,Tryz.ntmps81
 go_wp2_with fail
 clear hz
 obtain⟨W,hW⟩:∃ x,((w.alloc (.cells (FL .i64 256 f) 76)).alloc (.cells (FL .i64 256 g) 76)).alloc (.cells z 76)=x:=⟨_,rfl⟩
 obtain⟨b0,b1,b2,hWs,hWb⟩:=three hW
 rw[hW]
 clear hW
 have B0:=Away.mk b0
 have B1:=Away.mk b1
 have BR:=Away.mk b2
 have HWs:Away (w.heap.size+3≤W.heap.size):=⟨by omega⟩
 have HWb:=Away.mk hWb
 clear hWs hWb b0 b1 b2
 go_loopw [6] (fun v wr=>∃ i:Nat,i≤256∧v=.int .i64 (i:Int)∧Away (At w.heap.size (FL .i64 256 (pt F f i)) 76 W wr)) (fun v _=>256-(intOf v).toNat)
 case atStart=>exact⟨0,Nat.zero_le _,rfl,⟨by rw[pt_zero];exact At.refl B0.out⟩⟩
 case round=>
  obtain⟨i,hi,rfl,A0⟩:=hrel
  by_cases hlt:i<256
  ·have hiz:(i:Int)<256:=by omega
   obtain⟨x,hx⟩:∃ x,f i=x:=⟨_,rfl⟩
   have ca:wr.cell? ⟨w.heap.size,i,none⟩=some (.int .i64 x):=by
    have h9:=fl_at A0.out.row i hlt
    rw[pt_at,hx]at h9
    exact h9
   obtain⟨y,hy⟩:∃ y,g i=y:=⟨_,rfl⟩
   have cb:wr.cell? ⟨w.heap.size+1,i,none⟩=some (.int .i64 y):=by
    rw[←hy]
    exact fl_at (A0.out.other (by have:=HWs.out;omega) (by omega) B1.out) i hlt
   have HV:Away (F i=(x*y)%8380417):=⟨by rw[HFi.out,hx,hy]⟩
   obtain⟨x1,hx1⟩:=ex_eq (x%8380417)
   obtain⟨y1,hy1⟩:=ex_eq (y%8380417)
   have hxb : 0≤x1∧x1<8380417:=by rw[←hx1.out];omega
   have hyb : 0≤y1∧y1<8380417:=by rw[←hy1.out];omega
   have hp : 0≤x1*y1∧x1*y1≤8380417*8380417:=⟨Int.mul_nonneg hxb.1 hyb.1,Int.le_trans (Int.mul_le_mul_of_nonneg_right (Int.le_of_lt hxb.2) hyb.1) (Int.mul_le_mul_of_nonneg_left (Int.le_of_lt hyb.2) (by decide))⟩
   have hs:IntKind.i64.wrap (x1*y1)=x1*y1:=by rw[IntKind.wrap_i64];omega
   have hmm:=Int.mul_emod x y 8380417
   rw[hx1.out,hy1.out]at hmm
   obtain⟨s,hs1⟩:=ex_eq (x1*y1)
   have hs2:s%8380417=F i:=by rw[HV.out,←hs1.out,hmm]
   obtain⟨v,hv⟩:=ex_eq (s%8380417)
   have Hx:∀ w1:World,Calls Tryz.prog 137 #[.int .i64 x] w1 fun e w'=>e=.returned (.int .i64 x1)∧w'=w1:=fun w1=>by rw[←hx1.out];exact reduce_any x w1
   have Hy:∀ w1:World,Calls Tryz.prog 137 #[.int .i64 y] w1 fun e w'=>e=.returned (.int .i64 y1)∧w'=w1:=fun w1=>by rw[←hy1.out];exact reduce_any y w1
   have Hs:∀ w1:World,Calls Tryz.prog 137 #[.int .i64 (x1*y1)] w1 fun e w'=>e=.returned (.int .i64 v)∧w'=w1:=fun w1=>by rw[hs1.out,←hv.out];exact reduce_any s w1
   have HU:Away (upd (pt F f i) i v=pt F f (i+1)):=⟨pt_upd F f i v (by rw[←hv.out,hs2])⟩
   clear hy hs2 hmm hp hxb hyb
   clear hx
   go_wp2_with fail
   refine still_tail 12 (by kernel_rfl) (by kernel_rfl) ?_
   simp only[List.take_succ_cons,List.take_zero,List.drop_succ_cons,List.drop_zero]
   repeat still_step
   still_call (Hx _)
   repeat still_step
   still_call (Hy _)
   repeat still_step
   still_call (Hs _)
   repeat still_step
   refine wpStill_nil ?_
   clear cb
   clear ca
   have A1:Away (At w.heap.size (FL .i64 256 (pt F f i)) 76 W wr.drew):=⟨at_drew A0.out⟩
   clear A0
   with_reducible refine wpList_put2 A1 rfl _ _ _ rfl rfl ?_
   refine⟨_,_,_,rfl,rfl,rfl,by rw[fl_size];exact hlt,?_⟩
   intro wn HR
   rw[fl_set,HU.out]at HR
   go_wp2_with fail
   go_roundw
   case rel=>exact⟨i+1,by omega,by go_num,HR⟩
   case measure=>simp[intOf];omega
  ·obtain rfl:i=256:=by omega
   simp only[Int.cast_ofNat_Int]
   rw[fl_all,HR.out]at A0
   have Hrow:=Away.mk A0.out.row
   have Hres:Away (wr.heap[w.heap.size+2]? = some (.cells z 76 (0,0))):=⟨A0.out.other (by have:=HWs.out;omega) (by omega) BR.out⟩
   have HB:Away (Below w.heap.size w wr):=⟨HWb.out.trans (A0.out.below (by have:=HWs.out;omega) (Nat.le_refl _))⟩
   clear A0
   go_wp2_with (first
    | (refine wpList_load_row rfl 76 _ rfl w.heap.size rfl 76 R (0,0) _ Hrow.out Tryz.underlying76 rfl Ri.out ?_)
    | (refine wpList_store_row rfl 76 _ _ rfl (w.heap.size+2) R rfl rfl 76 _ Hres.out Ri.out Rz.out Ro.out ?_))
   refine bodyPost_ret_by (v:=.agg R) (results_cell_row rfl _ _ (w.heap.size+2) 76 _ (0,0) _ rfl (setRow_heap _ _ _ _ _ _ Hres.out) Tryz.underlying76 rfl Ri.out) rfl ?_
   exact⟨rfl,HB.out.trans (below_setRow _ _ _ (by omega))⟩
end ntimes
end Go.Proofs.YtomphjajkkddkaaGreatDoor
namespace Go.Proofs.YtomphjajkkddkaaGreatDoor
namespace nsplit
open Go Go.RowKit
open arr mem stil polys polt fldm fld1 nttm nttl floa
theorem split_any (L:(Nat→Int)→Nat→Int) (g s t b:Nat) (z:Int) (f:Nat→Int) (w:World) (hb:b=2*s*t) (hs:b+2*s≤256) (hz : 0≤z∧z<8380417) (hf:∀ j,0≤f j∧f j<8380417)
 (hL:∀ r,r<s→L f (2*s*t+r)=f (2*s*t+r)+z*f (2*s*t+r+s)∧L f (2*s*t+r+s)=f (2*s*t+r)-z*f (2*s*t+r+s))
 (hA:w.heap[g]? = some (.cells (FL .i64 256 (dn L s f (t*s))) 76 (0,0))):
 Calls Tryz.prog 136 #[.pointer (some ⟨g,0,none⟩),.int .i64 (b:Int),.int .i64 (s:Int),.int .i64 z] w fun e w'=>e=.returned (.tuple #[])∧At g (FL .i64 256 (dn L s f ((t+1)*s))) 76 w w':=by
 have HA:=Away.mk hA
 have HL:=Away.mk hL
 have Hz:=Away.mk hz
 have Hf:=Away.mk hf
 have Hb:=Away.mk hb
 have Hs:=Away.mk hs
 have Hend:Away (t*s+s=(t+1)*s):=⟨by rw[Nat.succ_mul]⟩
 have Hred:=Away.mk reduce_any
 clear hA hL hz hf hb hs
 go_enter Tryz.func136,Tryz.ntmps136
 go_wp2_with fail
 go_loopw [13] (fun v wr=>∃ r:Nat,r≤s∧v=.int .i64 (r:Int)∧Away (At g (FL .i64 256 (dn L s f (t*s+r))) 76 w wr)) (fun v _=>s-(intOf v).toNat)
 case atStart=>exact⟨0,Nat.zero_le _,rfl,⟨At.refl HA.out⟩⟩
 case round=>
  obtain⟨r,hr,rfl,A0⟩:=hrel
  by_cases hlt:r<s
  ·have hrz:(r:Int)<(s:Int):=by omega
   have hr1:(r:Int)<128:=by have:=Hs.out;omega
   obtain⟨lo,hlo⟩:∃ lo,b+r=lo:=⟨_,rfl⟩
   obtain⟨hi,hhi⟩:∃ hi,lo+s=hi:=⟨_,rfl⟩
   have hb:=Hb.out
   have hs:=Hs.out
   have elo : 2*s*t+r=lo:=by omega
   have ehi : 2*s*t+r+s=hi:=by omega
   have hiz:(hi:Int)<256:=by omega
   have loz:(lo:Int)<256:=by omega
   have Hhi:Away (hi<256):=⟨by omega⟩
   have Hlo:Away (lo<256):=⟨by omega⟩
   have f1:IntKind.i64.wrap ((b:Int)+(r:Int))=(lo:Int):=by rw[IntKind.wrap_i64];omega
   have f2:IntKind.i64.wrap ((lo:Int)+(s:Int))=(hi:Int):=by rw[IntKind.wrap_i64];omega
   obtain⟨x,hx⟩:∃ x,f lo=x:=⟨_,rfl⟩
   obtain⟨y,hy⟩:∃ y,f hi=y:=⟨_,rfl⟩
   have hxb : 0≤x∧x<8380417:=by rw[←hx];exact Hf.out lo
   have hyb : 0≤y∧y<8380417:=by rw[←hy];exact Hf.out hi
   have hzb:=Hz.out
   have cx:wr.cell? ⟨g,lo,none⟩=some (.int .i64 x):=by
    have h9:=fl_at A0.out.row lo Hlo.out
    rw[←elo,dn_lo L hlt,elo,hx]at h9
    exact h9
   have cy:wr.cell? ⟨g,hi,none⟩=some (.int .i64 y):=by
    have h9:=fl_at A0.out.row hi Hhi.out
    rw[←ehi,dn_hi L hlt,ehi,hy]at h9
    exact h9
   have hP:=HL.out r hlt
   rw[ehi,elo,hx,hy]at hP
   have hp : 0≤z*y∧z*y≤8380417*8380417:=⟨Int.mul_nonneg hzb.1 hyb.1,Int.le_trans (Int.mul_le_mul_of_nonneg_right (Int.le_of_lt hzb.2) hyb.1) (Int.mul_le_mul_of_nonneg_left (Int.le_of_lt hyb.2) (by decide))⟩
   obtain⟨p,hpe⟩:∃ p,z*y=p:=⟨_,rfl⟩
   rw[hpe]at hp hP
   have f3:IntKind.i64.wrap (z*y)=p:=by rw[hpe,IntKind.wrap_i64];omega
   have f4:IntKind.i64.wrap (x+p)=x+p:=by rw[IntKind.wrap_i64];omega
   have f5:IntKind.i64.wrap (x-p)=x-p:=by rw[IntKind.wrap_i64];omega
   obtain⟨v1,hv1⟩:=ex_eq ((x+p)%8380417)
   obtain⟨v2,hv2⟩:=ex_eq ((x-p)%8380417)
   have H1:∀ w1:World,Calls Tryz.prog 137 #[.int .i64 (x+p)] w1 fun e w'=>e=.returned (.int .i64 v1)∧w'=w1:=fun w1=>by rw[←hv1.out];exact Hred.out _ w1
   have H2:∀ w1:World,Calls Tryz.prog 137 #[.int .i64 (x-p)] w1 fun e w'=>e=.returned (.int .i64 v2)∧w'=w1:=fun w1=>by rw[←hv2.out];exact Hred.out _ w1
   have HU:Away (upd (upd (dn L s f (t*s+r)) lo v1) hi v2=dn L s f (t*s+(r+1))):=⟨by
    have h9:=(dn_step (t:=t) L hlt f v1 v2 (by rw[elo,hP.1];exact hv1.out.symm) (by rw[ehi,hP.2];exact hv2.out.symm)).2
    rw[elo,hhi]at h9
    exact h9⟩
   clear hx hy hxb hyb hzb hP hb hs elo ehi hlo hhi hp hpe
   go_wp2_with fail
   refine any_begin (by kernel_rfl) ?_
   (focus (refine wpAny_take (i:=2) (v:=?_) rfl (by kernel_rfl) (by kernel_rfl) (by kernel_rfl) (fun _ _ _ h=>h) (Or.inl ⟨by rfl,?_⟩) ?_;rotate_left;focus (intro w;go_simp;first | done | with_reducible rfl);all_goals skip))
   (focus (refine wpAny_take (i:=3) (v:=?_) rfl (by kernel_rfl) (by kernel_rfl) (by kernel_rfl) (fun _ _ _ h=>h) (Or.inl ⟨by rfl,?_⟩) ?_;rotate_left;focus (intro w;go_simp;first | done | with_reducible rfl);all_goals skip))
   (focus (refine wpAny_take (i:=23) (v:=?_) rfl (by kernel_rfl) (by kernel_rfl) (by kernel_rfl) (fun _ _ _ h=>h) (Or.inl ⟨by rfl,?_⟩) ?_;rotate_left;focus (intro w;go_simp;first | done | with_reducible rfl);all_goals skip))
   refine any_still [0,1,4,5,6,7,8,9,10,11,12,13,14,15,16,17,18,19,20,21] 22 [24,25] rfl (by kernel_rfl) ?_
   simp only[pick,List.filterMap_cons,List.filterMap_nil,List.getElem?_cons_succ,List.getElem?_cons_zero]
   repeat still_step
   still_call (H1 _)
   repeat still_step
   still_call (H2 _)
   repeat still_step
   refine wpStill_nil ?_
   have A1:Away (At g (FL .i64 256 (dn L s f (t*s+r))) 76 w wr.drew):=⟨at_drew A0.out⟩
   clear A0 cx cy
   with_reducible refine wpList_put2 A1 rfl _ _ _ rfl rfl ?_
   refine⟨_,_,_,rfl,rfl,rfl,by rw[fl_size];exact Hlo.out,?_⟩
   intro w5 A2
   rw[fl_set]at A2
   clear A1
   refine wpList_plain rfl (fun K hK=>?_)
   go_simp
   refine hK _ _ ?_
   clear hK K
   with_reducible refine wpList_put2 A2 rfl _ _ _ rfl rfl ?_
   refine⟨_,_,_,rfl,rfl,rfl,(by rw[fl_size];exact Hhi.out),?_⟩
   intro w6 A3
   rw[fl_set,HU.out]at A3
   clear A2
   go_wp2_with fail
   go_roundw
   case rel=>exact⟨r+1,by omega,by go_num,A3⟩
   case measure=>simp[intOf];omega
  ·obtain rfl:r=s:=by omega
   rw[Hend.out]at A0
   go_wp2_with fail
   refine bodyPost_end (v:=.tuple #[]) (results_none rfl _ _ _) rfl ?_
   exact⟨rfl,A0.out⟩
end nsplit
namespace njoin
open Go Go.RowKit
open arr mem stil polys polt fldm fld1 nttm nttl floa
theorem join_any (L:(Nat→Int)→Nat→Int) (g s t b:Nat) (z:Int) (f:Nat→Int) (w:World) (hb:b=2*s*t) (hs:b+2*s≤256) (hz : 0≤z∧z<8380417) (hf:∀ j,0≤f j∧f j<8380417)
 (hL:∀ r,r<s→L f (2*s*t+r)=f (2*s*t+r)+f (2*s*t+r+s)∧L f (2*s*t+r+s) = -z*(f (2*s*t+r)-f (2*s*t+r+s)))
 (hA:w.heap[g]? = some (.cells (FL .i64 256 (dn L s f (t*s))) 76 (0,0))):
 Calls Tryz.prog 138 #[.pointer (some ⟨g,0,none⟩),.int .i64 (b:Int),.int .i64 (s:Int),.int .i64 z] w fun e w'=>e=.returned (.tuple #[])∧At g (FL .i64 256 (dn L s f ((t+1)*s))) 76 w w':=by
 have HA:=Away.mk hA
 have HL:=Away.mk hL
 have Hz:=Away.mk hz
 have Hf:=Away.mk hf
 have Hb:=Away.mk hb
 have Hs:=Away.mk hs
 have Hend:Away (t*s+s=(t+1)*s):=⟨by rw[Nat.succ_mul]⟩
 have Hred:=Away.mk reduce_any
 clear hA hL hz hf hb hs
 go_enter Tryz.func138,Tryz.ntmps138
 go_wp2_with fail
 go_loopw [14] (fun v wr=>∃ r:Nat,r≤s∧v=.int .i64 (r:Int)∧Away (At g (FL .i64 256 (dn L s f (t*s+r))) 76 w wr)) (fun v _=>s-(intOf v).toNat)
 case atStart=>exact⟨0,Nat.zero_le _,rfl,⟨At.refl HA.out⟩⟩
 case round=>
  obtain⟨r,hr,rfl,A0⟩:=hrel
  by_cases hlt:r<s
  ·have hrz:(r:Int)<(s:Int):=by omega
   have hr1:(r:Int)<128:=by have:=Hs.out;omega
   obtain⟨lo,hlo⟩:∃ lo,b+r=lo:=⟨_,rfl⟩
   obtain⟨hi,hhi⟩:∃ hi,lo+s=hi:=⟨_,rfl⟩
   have hb:=Hb.out
   have hs:=Hs.out
   have elo : 2*s*t+r=lo:=by omega
   have ehi : 2*s*t+r+s=hi:=by omega
   have hiz:(hi:Int)<256:=by omega
   have loz:(lo:Int)<256:=by omega
   have Hhi:Away (hi<256):=⟨by omega⟩
   have Hlo:Away (lo<256):=⟨by omega⟩
   have f1:IntKind.i64.wrap ((b:Int)+(r:Int))=(lo:Int):=by rw[IntKind.wrap_i64];omega
   have f2:IntKind.i64.wrap ((lo:Int)+(s:Int))=(hi:Int):=by rw[IntKind.wrap_i64];omega
   obtain⟨x,hx⟩:∃ x,f lo=x:=⟨_,rfl⟩
   obtain⟨y,hy⟩:∃ y,f hi=y:=⟨_,rfl⟩
   have hxb : 0≤x∧x<8380417:=by rw[←hx];exact Hf.out lo
   have hyb : 0≤y∧y<8380417:=by rw[←hy];exact Hf.out hi
   have hzb:=Hz.out
   have cx:wr.cell? ⟨g,lo,none⟩=some (.int .i64 x):=by
    have h9:=fl_at A0.out.row lo Hlo.out
    rw[←elo,dn_lo L hlt,elo,hx]at h9
    exact h9
   have cy:wr.cell? ⟨g,hi,none⟩=some (.int .i64 y):=by
    have h9:=fl_at A0.out.row hi Hhi.out
    rw[←ehi,dn_hi L hlt,ehi,hy]at h9
    exact h9
   have hP:=HL.out r hlt
   rw[ehi,elo,hx,hy]at hP
   obtain⟨d,hd⟩:∃ d,x-y=d:=⟨_,rfl⟩
   rw[hd]at hP
   have hp : -8380417*(2*8380417) ≤ -z*d ∧ -z*d≤8380417*8380417:=by
    have h0 : 0≤z*(x+8380417-y)∧z*(x+8380417-y)≤8380417*(2*8380417):=⟨Int.mul_nonneg hzb.1 (by omega),Int.le_trans (Int.mul_le_mul_of_nonneg_right (Int.le_of_lt hzb.2) (by omega)) (Int.mul_le_mul_of_nonneg_left (by omega) (by decide))⟩
    have h1:z*(x+8380417-y)=z*d+z*8380417:=by rw[←hd,←Int.mul_add];congr 1;omega
    rw[h1]at h0
    have h2 : -z*d = -(z*d):=Int.neg_mul z d
    rw[h2]
    generalize z*d=q at h0 ⊢
    omega
   obtain⟨p,hpe⟩:∃ p,-z*d=p:=⟨_,rfl⟩
   rw[hpe]at hp hP
   have f3:IntKind.i64.wrap (x+y)=x+y:=by rw[IntKind.wrap_i64];omega
   have f4:IntKind.i64.wrap (x-y)=d:=by rw[IntKind.wrap_i64];omega
   have f6:IntKind.i64.wrap (-z) = -z:=by rw[IntKind.wrap_i64];omega
   have f5:IntKind.i64.wrap (-z*d)=p:=by rw[hpe,IntKind.wrap_i64];omega
   obtain⟨v1,hv1⟩:=ex_eq ((x+y)%8380417)
   obtain⟨v2,hv2⟩:=ex_eq ((p)%8380417)
   have H1:∀ w1:World,Calls Tryz.prog 137 #[.int .i64 (x+y)] w1 fun e w'=>e=.returned (.int .i64 v1)∧w'=w1:=fun w1=>by rw[←hv1.out];exact Hred.out _ w1
   have H2:∀ w1:World,Calls Tryz.prog 137 #[.int .i64 (p)] w1 fun e w'=>e=.returned (.int .i64 v2)∧w'=w1:=fun w1=>by rw[←hv2.out];exact Hred.out _ w1
   have HU:Away (upd (upd (dn L s f (t*s+r)) lo v1) hi v2=dn L s f (t*s+(r+1))):=⟨by
    have h9:=(dn_step (t:=t) L hlt f v1 v2 (by rw[elo,hP.1];exact hv1.out.symm) (by rw[ehi,hP.2];exact hv2.out.symm)).2
    rw[elo,hhi]at h9
    exact h9⟩
   clear hx hy hxb hyb hzb hP hb hs elo ehi hlo hhi hp hd hpe
   go_wp2_with fail
   refine still_all (by kernel_rfl) (by kernel_rfl) ?_
   repeat still_step
   refine wpStill_nil ?_
   go_wp2_with fail
   refine any_begin (by kernel_rfl) ?_
   (focus (refine wpAny_take (i:=2) (v:=?_) rfl (by kernel_rfl) (by kernel_rfl) (by kernel_rfl) (fun _ _ _ h=>h) (Or.inl ⟨by rfl,?_⟩) ?_;rotate_left;focus (intro w;go_simp;first | done | with_reducible rfl);all_goals skip))
   (focus (refine wpAny_take (i:=3) (v:=?_) rfl (by kernel_rfl) (by kernel_rfl) (by kernel_rfl) (fun _ _ _ h=>h) (Or.inl ⟨by rfl,?_⟩) ?_;rotate_left;focus (intro w;go_simp;first | done | with_reducible rfl);all_goals skip))
   (focus (refine wpAny_take (i:=14) (v:=?_) rfl (by kernel_rfl) (by kernel_rfl) (by kernel_rfl) (fun _ _ _ h=>h) (Or.inl ⟨by rfl,?_⟩) ?_;rotate_left;focus (intro w;go_simp;first | done | with_reducible rfl);all_goals skip))
   refine any_still [0,1,4,5,6,7,8,9,10,11,12] 13 [15,16] rfl (by kernel_rfl) ?_
   simp only[pick,List.filterMap_cons,List.filterMap_nil,List.getElem?_cons_succ,List.getElem?_cons_zero]
   repeat still_step
   still_call (H1 _)
   repeat still_step
   still_call (H2 _)
   repeat still_step
   refine wpStill_nil ?_
   have A1:Away (At g (FL .i64 256 (dn L s f (t*s+r))) 76 w wr.drew.drew):=⟨at_drew (at_drew A0.out)⟩
   clear A0 cx cy
   with_reducible refine wpList_put2 A1 rfl _ _ _ rfl rfl ?_
   refine⟨_,_,_,rfl,rfl,rfl,by rw[fl_size];exact Hlo.out,?_⟩
   intro w5 A2
   rw[fl_set]at A2
   clear A1
   refine wpList_plain rfl (fun K hK=>?_)
   go_simp
   refine hK _ _ ?_
   clear hK K
   with_reducible refine wpList_put2 A2 rfl _ _ _ rfl rfl ?_
   refine⟨_,_,_,rfl,rfl,rfl,(by rw[fl_size];exact Hhi.out),?_⟩
   intro w6 A3
   rw[fl_set,HU.out]at A3
   clear A2
   go_wp2_with fail
   go_roundw
   case rel=>exact⟨r+1,by omega,by go_num,A3⟩
   case measure=>simp[intOf];omega
  ·obtain rfl:r=s:=by omega
   rw[Hend.out]at A0
   go_wp2_with fail
   refine bodyPost_end (v:=.tuple #[]) (results_none rfl _ _ _) rfl ?_
   exact⟨rfl,A0.out⟩
end njoin
end Go.Proofs.YtomphjajkkddkaaGreatDoor
namespace Go.Proofs.YtomphjajkkddkaaGreatDoor
namespace nthere
open Go Go.RowKit
open arr mem stil polys polt nttm nttp nttl
structure ZT (T:Array Value) (Z:Nat→Int):Prop where
 z:∀ k,k<256→T[209+k]? = some (.int .i64 (Z k))
 size:T.size=465
 one:T.all (·.oneCell')=true
theorem infoT:(Tryz.prog.info? 34).map (·.size)=some 465:=by kernel_rfl
theorem pows (m:Nat) (h:m<8) : 0<2 ^ m∧(128:Int) / 2 ^ m=((2 ^ (7-m):Nat):Int)∧IntKind.i64.wrap ((2:Int) ^ m)=((2 ^ m:Nat):Int)∧2 ^ m≤128∧0<2 ^ (7-m):=by
 have key:∀ m:Fin 8,0<2 ^ m.val∧(128:Int) / 2 ^ m.val=((2 ^ (7-m.val):Nat):Int)∧IntKind.i64.wrap ((2:Int) ^ m.val)=((2 ^ m.val:Nat):Int)∧2 ^ m.val≤128∧0<2 ^ (7-m.val):=by decide +kernel
 exact key ⟨m,h⟩
theorem there_any (T:Array Value) (Z:Nat→Int) (f:Nat→Int) (w:World) (hT:ZT T Z):
 Calls Tryz.prog 79 #[.agg T,.agg (FL .i64 256 f)] w fun e w'=>e=.returned (.agg (FL .i64 256 (thereR (fun k=>Z k%8380417) 8 f)))∧Below w.heap.size w w':=by
 obtain⟨ζ,hζ⟩:=ex_eq (fun k=>Z k%8380417)
 have Hζ : Away (∀ k,Z k%8380417 = ζ k):=⟨fun k=>by rw[←hζ.out]⟩
 rw[hζ.out]
 clear hζ
 obtain⟨hz,hsize⟩:=zero_of_info infoP
 obtain⟨z,HZ⟩:=ex_eq (FL .i64 256 fun _=>0)
 rw[HZ.out]at hz
 have Hzs:Away (z.size=256):=⟨by rw[←HZ.out];exact fl_size _ _ _⟩
 obtain⟨F,HF⟩:=ex_eq (FL .i64 256 f)
 obtain⟨R,HR⟩:=ex_eq (FL .i64 256 (thereR ζ 8 f))
 obtain⟨F0,HF0⟩:=ex_eq (FL .i64 256 (red f))
 have Fi:Away ((Tryz.prog.info? 76).map (·.size)=some F.size):=⟨by rw[←HF.out,fl_size];exact hsize⟩
 have Gi:Away ((Tryz.prog.info? 76).map (·.size)=some F0.size):=⟨by rw[←HF0.out,fl_size];exact hsize⟩
 have Go':Away (F0.all (·.oneCell')=true):=⟨by rw[←HF0.out];exact fl_one _ _ _⟩
 have Gz:Away (z.size=F0.size):=⟨by rw[Hzs.out,←HF0.out,fl_size]⟩
 have Ri:Away ((Tryz.prog.info? 76).map (·.size)=some R.size):=⟨by rw[←HR.out,fl_size];exact hsize⟩
 have Ro:Away (R.all (·.oneCell')=true):=⟨by rw[←HR.out];exact fl_one _ _ _⟩
 have Rz:Away (z.size=R.size):=⟨by rw[Hzs.out,←HR.out,fl_size]⟩
 have H:Away (∀ w1:World,Calls Tryz.prog 135 #[.agg F] w1 fun e w'=>e=.returned (.agg F0)∧Below w1.heap.size w1 w'):=⟨fun w1=>by
  have h:=nred.reduced_any f w1
  rw[HF.out,HF0.out]at h
  exact h⟩
 have HT:=Away.mk hT
 have Hred:=Away.mk fld1.reduce_any
 rw[HF.out,HR.out]
 clear HF HZ hsize hT
 go_enter Tryz.func79,Tryz.ntmps79
 go_wp2_with fail
 obtain⟨W,hW⟩:∃ x,((w.alloc (.cells T 34)).alloc (.cells F 76)).alloc (.cells z 76)=x:=⟨_,rfl⟩
 obtain⟨b0,b1,b2,hWs,hWb⟩:=three hW
 rw[hW]
 clear hW
 have B0:=Away.mk b0
 have B1:=Away.mk b1
 have B2:=Away.mk b2
 have HWb:=Away.mk hWb
 have HWs:=Away.mk hWs
 clear hWs hWb b0 b1 b2
 refine wp_load_row 76 _ rfl (w.heap.size+1) rfl 76 F (0,0) _ B1.out Tryz.underlying76 rfl Fi.out ?_
 go_wp2_with fail
 refine(H.out _).mono ?_
 rintro e w1 ⟨rfl,hb⟩
 have C0:Away (w1.heap[w.heap.size]? = some (.cells T 34 (0,0))):=⟨(hb.block _ (lt_of_row B0.out)).trans B0.out⟩
 have C2:Away (w1.heap[w.heap.size+2]? = some (.cells z 76 (0,0))):=⟨(hb.block _ (lt_of_row B2.out)).trans B2.out⟩
 have HB:Away (Below w.heap.size w w1):=⟨HWb.out.trans (hb.mono HWb.out.size)⟩
 have HW1:Away (w.heap.size+3≤w1.heap.size):=⟨by have:=hb.size;have:=HWs.out;omega⟩
 clear hb B0 B1 B2 HWb HWs
 go_wp2_with (refine wpList_store_new rfl 76 _ _ rfl _ rfl rfl Gi.out Gz.out Go'.out rfl ?_)
 obtain⟨V,hV⟩:∃ x,w1.alloc (.cells F0 76)=x:=⟨_,rfl⟩
 obtain⟨b0,hVs,hVb⟩:=one hV
 rw[hV]
 clear hV
 obtain⟨g,hg⟩:=ex_eq w1.heap.size
 rw[hg.out]at b0 hVb
 rw[hg.out]
 have D0:Away (V.heap[w.heap.size]? = some (.cells T 34 (0,0))):=⟨(hVb.block _ (by rw[←hg.out];exact lt_of_row C0.out)).trans C0.out⟩
 have D2:Away (V.heap[w.heap.size+2]? = some (.cells z 76 (0,0))):=⟨(hVb.block _ (by rw[←hg.out];exact lt_of_row C2.out)).trans C2.out⟩
 have HgV:Away (g<V.heap.size∧w.heap.size+3≤g):=⟨by have:=HW1.out;have:=hg.out;omega⟩
 have HVB:Away (Below w.heap.size w V):=⟨HB.out.trans (by rw[←hg.out]at hVb;exact hVb.mono HB.out.size)⟩
 have A0':Away (At g (FL .i64 256 (thereR ζ 0 f)) 76 V V):=⟨At.refl (by show V.heap[g]? = some (.cells (FL .i64 256 (red f)) 76 (0,0));rw[HF0.out];exact b0)⟩
 clear b0 hVs hVb hg C0 C2 HB HW1 hz
 go_loopw [12,6] (fun lv k wr=>∃ m:Nat,m≤8∧lv=.int .i64 (m:Int)∧k=.int .i64 ((2 ^ m-1:Nat):Int)∧Away (At g (FL .i64 256 (thereR ζ m f)) 76 V wr)) (fun lv _ _=>8-(intOf lv).toNat)
 case atStart=>exact⟨0,Nat.zero_le _,rfl,rfl,A0'⟩
 case round=>
  obtain⟨m,hm,rfl,rfl,A0⟩:=hrel
  by_cases hlt:m<8
  ·have hmz:(m:Int)<8:=by omega
   obtain⟨K,hK⟩:∃ K,2 ^ m=K:=⟨_,rfl⟩
   obtain⟨s,hs⟩:∃ s,2 ^ (7-m)=s:=⟨_,rfl⟩
   have h256:=(nttp.size_m m (by omega)).1
   rw[hK,hs]at h256
   have hp:=pows m hlt
   rw[hK,hs]at hp
   obtain⟨hp1,hp2,hp3,hp4,hp5⟩:=hp
   have Hp1:=Away.mk hp1
   have hnext:Away (∀ j,j<256→dn (ly ζ K s) s (thereR ζ m f) (K*s) j=thereR ζ (m+1) f j):=⟨fun j hj=>by
    rw[dn_all (ly ζ K s) K s (by omega) _ j (by omega),←hK,←hs]
    rfl⟩
   have hKn:Away (2 ^ (m+1)-1=K-1+K):=⟨by rw[Nat.pow_succ,hK];omega⟩
   have H256:=Away.mk h256
   obtain⟨h,hh⟩:=ex_eq (thereR ζ m f)
   have Hh:Away (∀ j,0≤h j∧h j<8380417):=⟨fun j=>by rw[←hh.out];exact thereR_red ζ m f j⟩
   rw[hh.out]at hnext A0
   rw[hK]
   have f1:(128:Int) / 2 ^ m=(s:Int):=hp2
   have f2:IntKind.i64.wrap ((2:Int) ^ m)=(K:Int):=hp3
   clear hp1 hp2 hp3 h256 hK hs hh
   have hK128:(K:Int)≤128:=by omega
   obtain⟨q,hq⟩:∃ q,K-1=q:=⟨_,rfl⟩
   have Hq:Away (q+1=K):=⟨by have:=Hp1.out;omega⟩
   rw[hq]at hKn
   rw[hq]
   clear hq hp4 hp5
   go_wp2_with fail
   rename World=>wo
   go_loopw [19,6] (fun j k wr=>∃ t:Nat,t≤K∧j=.int .i64 (t:Int)∧k=.int .i64 ((q+t:Nat):Int)∧Away (At g (FL .i64 256 (dn (ly ζ K s) s h (t*s))) 76 V wr)) (fun j _ _=>K-(intOf j).toNat)
   case atStart=>exact⟨0,Nat.zero_le _,rfl,rfl,⟨by rw[Nat.zero_mul,dn_zero];exact A0.out⟩⟩
   case round=>
    obtain⟨t,ht,rfl,rfl,A1⟩:=hrel
    by_cases hlt2:t<K
    ·have htz:(t:Int)<(K:Int):=by omega
     obtain⟨c,hc⟩:∃ c,q+t=c:=⟨_,rfl⟩
     obtain⟨k,hk⟩:∃ k,K+t=k:=⟨_,rfl⟩
     obtain⟨d,hd⟩:∃ d,2*s=d:=⟨_,rfl⟩
     obtain⟨b,hb⟩:∃ b,d*t=b:=⟨_,rfl⟩
     have h256:=H256.out
     rw[hd]at h256
     have hbd:b+d≤256:=by
      have h1:d*(t+1)≤d*K:=Nat.mul_le_mul_left _ hlt2
      rw[Nat.mul_succ,hb]at h1
      omega
     have hk256:Away (k<256):=⟨by omega⟩
     have hkz:(k:Int)<256:=by omega
     have hck:c+1=k:=by have:=Hq.out;omega
     have f3:IntKind.i64.wrap ((c:Int)+1)=(k:Int):=by rw[IntKind.wrap_i64];omega
     have f4:IntKind.i64.wrap (2*(s:Int))=(d:Int):=by rw[IntKind.wrap_i64];omega
     have hbz:(d:Int)*(t:Int)=(b:Int):=by rw[←hb];exact(Int.natCast_mul d t).symm
     have f5:IntKind.i64.wrap ((d:Int)*(t:Int))=(b:Int):=by rw[hbz,IntKind.wrap_i64];omega
     have E0:wr.heap[w.heap.size]? = some (.cells T 34 (0,0)):=A1.out.other (by have:=HgV.out;omega) (by have:=HgV.out;omega) D0.out
     obtain⟨x,hx⟩:=ex_eq (Z k)
     have cz:wr.cell? ⟨w.heap.size,209+k,none⟩=some (.int .i64 x):=by rw[←hx.out];exact cell_at E0 (HT.out.z k hk256.out)
     have Hx:Away (∀ w1:World,Calls Tryz.prog 137 #[.int .i64 x] w1 fun e w'=>e=.returned (.int .i64 (ζ k))∧w1=w'):=⟨fun w1=>by rw[←Hζ.out k,hx.out];exact(Hred.out x w1).mono fun _ _ h=>⟨h.1,h.2.symm⟩⟩
     have Hζb:Away (0 ≤ ζ k ∧ ζ k<8380417):=⟨by rw[←Hζ.out k];exact⟨Int.emod_nonneg _ (by decide),Int.emod_lt_of_pos _ (by decide)⟩⟩
     have Hsp:Away (∀ w1:World,w1.heap[g]? = some (.cells (FL .i64 256 (dn (ly ζ K s) s h (t*s))) 76 (0,0))→Calls Tryz.prog 136 #[.pointer (some ⟨g,0,none⟩),.int .i64 (b:Int),.int .i64 (s:Int),.int .i64 (ζ k)] w1 fun e w'=>e=.returned (.tuple #[])∧At g (FL .i64 256 (dn (ly ζ K s) s h ((t+1)*s))) 76 w1 w'):=⟨fun w1 hA=>nsplit.split_any (ly ζ K s) g s t b (ζ k) h w1 (by rw[hd];exact hb.symm) (by omega) Hζb.out Hh.out (fun r hr=>by rw[←hk];exact ly_pair ζ K hr h) hA⟩
     have Hck:=Away.mk hck
     have Hc:=Away.mk hc
     rw[hc]
     obtain⟨y,hy⟩:=ex_eq (ζ k)
     rw[hy.out]at Hx Hsp
     clear hc hck hk hd hb hbz h256 hbd E0 hx hy
     go_wp2_with fail
     refine(Hx.out _).mono ?_
     rintro e w3 ⟨rfl,rfl⟩
     go_wp2_with fail
     refine(Hsp.out _ A1.out.row).mono ?_
     rintro e w3 ⟨rfl,hA2⟩
     have A2:Away (At g (FL .i64 256 (dn (ly ζ K s) s h ((t+1)*s))) 76 V w3):=⟨A1.out.trans hA2⟩
     clear hA2 A1 cz
     go_wp2_with fail
     go_roundw
     case rel=>exact⟨t+1,by omega,by go_num,by rw[show q+(t+1)=k by have:=Hck.out;have:=Hc.out;omega],A2⟩
     case measure=>simp[intOf];omega
    ·obtain rfl:t=K:=by omega
     rw[show FL .i64 256 (dn (ly ζ t s) s h (t*s))=FL .i64 256 (thereR ζ (m+1) f) from fl_congr .i64 256 hnext.out]at A1
     go_wp2_with fail
     go_roundw
     case rel=>exact⟨m+1,by omega,by go_num,by rw[hKn.out],A1⟩
     case measure=>simp[intOf];omega
  ·obtain rfl:m=8:=by omega
   simp only[Int.cast_ofNat_Int]
   rw[HR.out]at A0
   have Hrow:=Away.mk A0.out.row
   have Hres:Away (wr.heap[w.heap.size+2]? = some (.cells z 76 (0,0))):=⟨A0.out.other (by have:=HgV.out;omega) (by have:=HgV.out;omega) D2.out⟩
   have HB:Away (Below w.heap.size w wr):=⟨HVB.out.trans (A0.out.below HVB.out.size (by have:=HgV.out;omega))⟩
   clear A0
   go_wp2_with (first
    | (refine wpList_load_row rfl 76 _ rfl g rfl 76 R (0,0) _ Hrow.out Tryz.underlying76 rfl Ri.out ?_)
    | (refine wpList_store_row rfl 76 _ _ rfl (w.heap.size+2) R rfl rfl 76 _ Hres.out Ri.out Rz.out Ro.out ?_))
   refine bodyPost_ret_by (v:=.agg R) (results_cell_row rfl _ _ (w.heap.size+2) 76 _ (0,0) _ rfl (setRow_heap _ _ _ _ _ _ Hres.out) Tryz.underlying76 rfl Ri.out) rfl ?_
   exact⟨rfl,HB.out.trans (below_setRow _ _ _ (by omega))⟩
end nthere
namespace nback
open Go Go.RowKit
open arr mem stil polys polt nttm nttp nttl nthere
theorem back_any (T:Array Value) (Z:Nat→Int) (f:Nat→Int) (w:World) (hT:ZT T Z):
 Calls Tryz.prog 82 #[.agg T,.agg (FL .i64 256 f)] w fun e w'=>e=.returned (.agg (FL .i64 256 (fun i=>(backR (fun k=>Z k%8380417) 8 f i*8347681)%8380417)))∧Below w.heap.size w w':=by
 obtain⟨ζ,hζ⟩:=ex_eq (fun k=>Z k%8380417)
 have Hζ : Away (∀ k,Z k%8380417 = ζ k):=⟨fun k=>by rw[←hζ.out]⟩
 rw[hζ.out]
 clear hζ
 obtain⟨hz,hsize⟩:=zero_of_info infoP
 obtain⟨z,HZ⟩:=ex_eq (FL .i64 256 fun _=>0)
 rw[HZ.out]at hz
 have Hzs:Away (z.size=256):=⟨by rw[←HZ.out];exact fl_size _ _ _⟩
 obtain⟨F,HF⟩:=ex_eq (FL .i64 256 f)
 obtain⟨R,HR⟩:=ex_eq (FL .i64 256 (fun i=>(backR ζ 8 f i*8347681)%8380417))
 obtain⟨F0,HF0⟩:=ex_eq (FL .i64 256 (red f))
 have Fi:Away ((Tryz.prog.info? 76).map (·.size)=some F.size):=⟨by rw[←HF.out,fl_size];exact hsize⟩
 have Gi:Away ((Tryz.prog.info? 76).map (·.size)=some F0.size):=⟨by rw[←HF0.out,fl_size];exact hsize⟩
 have Go':Away (F0.all (·.oneCell')=true):=⟨by rw[←HF0.out];exact fl_one _ _ _⟩
 have Gz:Away (z.size=F0.size):=⟨by rw[Hzs.out,←HF0.out,fl_size]⟩
 have Ri:Away ((Tryz.prog.info? 76).map (·.size)=some R.size):=⟨by rw[←HR.out,fl_size];exact hsize⟩
 have Ro:Away (R.all (·.oneCell')=true):=⟨by rw[←HR.out];exact fl_one _ _ _⟩
 have Rz:Away (z.size=R.size):=⟨by rw[Hzs.out,←HR.out,fl_size]⟩
 have H:Away (∀ w1:World,Calls Tryz.prog 135 #[.agg F] w1 fun e w'=>e=.returned (.agg F0)∧Below w1.heap.size w1 w'):=⟨fun w1=>by
  have h:=nred.reduced_any f w1
  rw[HF.out,HF0.out]at h
  exact h⟩
 have HT:=Away.mk hT
 have Hred:=Away.mk fld1.reduce_any
 rw[HF.out,HR.out]
 clear HF HZ hsize hT
 go_enter Tryz.func82,Tryz.ntmps82
 go_wp2_with fail
 obtain⟨W,hW⟩:∃ x,((w.alloc (.cells T 34)).alloc (.cells F 76)).alloc (.cells z 76)=x:=⟨_,rfl⟩
 obtain⟨b0,b1,b2,hWs,hWb⟩:=three hW
 rw[hW]
 clear hW
 have B0:=Away.mk b0
 have B1:=Away.mk b1
 have B2:=Away.mk b2
 have HWb:=Away.mk hWb
 have HWs:=Away.mk hWs
 clear hWs hWb b0 b1 b2
 refine wp_load_row 76 _ rfl (w.heap.size+1) rfl 76 F (0,0) _ B1.out Tryz.underlying76 rfl Fi.out ?_
 go_wp2_with fail
 refine(H.out _).mono ?_
 rintro e w1 ⟨rfl,hb⟩
 have C0:Away (w1.heap[w.heap.size]? = some (.cells T 34 (0,0))):=⟨(hb.block _ (lt_of_row B0.out)).trans B0.out⟩
 have C2:Away (w1.heap[w.heap.size+2]? = some (.cells z 76 (0,0))):=⟨(hb.block _ (lt_of_row B2.out)).trans B2.out⟩
 have HB:Away (Below w.heap.size w w1):=⟨HWb.out.trans (hb.mono HWb.out.size)⟩
 have HW1:Away (w.heap.size+3≤w1.heap.size):=⟨by have:=hb.size;have:=HWs.out;omega⟩
 clear hb B0 B1 B2 HWb HWs
 go_wp2_with (refine wpList_store_new rfl 76 _ _ rfl _ rfl rfl Gi.out Gz.out Go'.out rfl ?_)
 obtain⟨V,hV⟩:∃ x,w1.alloc (.cells F0 76)=x:=⟨_,rfl⟩
 obtain⟨b0,hVs,hVb⟩:=one hV
 rw[hV]
 clear hV
 obtain⟨g,hg⟩:=ex_eq w1.heap.size
 rw[hg.out]at b0 hVb
 rw[hg.out]
 have D0:Away (V.heap[w.heap.size]? = some (.cells T 34 (0,0))):=⟨(hVb.block _ (by rw[←hg.out];exact lt_of_row C0.out)).trans C0.out⟩
 have D2:Away (V.heap[w.heap.size+2]? = some (.cells z 76 (0,0))):=⟨(hVb.block _ (by rw[←hg.out];exact lt_of_row C2.out)).trans C2.out⟩
 have HgV:Away (g<V.heap.size∧w.heap.size+3≤g):=⟨by have:=HW1.out;have:=hg.out;omega⟩
 have HVB:Away (Below w.heap.size w V):=⟨HB.out.trans (by rw[←hg.out]at hVb;exact hVb.mono HB.out.size)⟩
 have A0':Away (At g (FL .i64 256 (backR ζ 0 f)) 76 V V):=⟨At.refl (by show V.heap[g]? = some (.cells (FL .i64 256 (red f)) 76 (0,0));rw[HF0.out];exact b0)⟩
 clear b0 hVs hVb hg C0 C2 HB HW1 hz
 go_loopw [12,6] (fun lv k wr=>∃ m:Nat,m≤8∧lv=.int .i64 (m:Int)∧k=.int .i64 ((2 ^ (8-m):Nat):Int)∧Away (At g (FL .i64 256 (backR ζ m f)) 76 V wr)) (fun lv _ _=>8-(intOf lv).toNat)
 case atStart=>exact⟨0,Nat.zero_le _,rfl,rfl,A0'⟩
 case round=>
  obtain⟨m,hm,rfl,rfl,A0⟩:=hrel
  by_cases hlt:m<8
  ·have hmz:(m:Int)<8:=by omega
   obtain⟨K,hK⟩:∃ K,2 ^ (7-m)=K:=⟨_,rfl⟩
   obtain⟨s,hs⟩:∃ s,2 ^ m=s:=⟨_,rfl⟩
   have h256:=(nttp.size_m m (by omega)).2
   rw[hK,hs]at h256
   have hp:=pows m hlt
   rw[hK,hs]at hp
   obtain⟨hp1,hp2,hp3,hp4,hp5⟩:=hp
   have Hp1:=Away.mk hp1
   have hnext:Away (∀ j,j<256→dn (bk ζ K s) s (backR ζ m f) (K*s) j=backR ζ (m+1) f j):=⟨fun j hj=>by
    rw[dn_all (bk ζ K s) K s (by omega) _ j (by omega),←hK,←hs]
    rfl⟩
   have hKn:Away (2 ^ (8-(m+1))=K):=⟨by rw[show 8-(m+1)=7-m by omega,hK]⟩
   have hK2 : 2 ^ (8-m)=2*K:=by rw[←hK,show 8-m=7-m+1 by omega,Nat.pow_succ,Nat.mul_comm]
   have H256:=Away.mk h256
   obtain⟨h,hh⟩:=ex_eq (backR ζ m f)
   have Hh:Away (∀ j,0≤h j∧h j<8380417):=⟨fun j=>by rw[←hh.out];exact backR_red ζ m f j⟩
   rw[hh.out]at hnext A0
   rw[hK2]
   have f1:(128:Int) / 2 ^ m=(K:Int):=hp2
   have f2:IntKind.i64.wrap ((2:Int) ^ m)=(s:Int):=hp3
   have hK128:(K:Int)≤128:=by
    have h1 : 1*K≤s*K:=Nat.mul_le_mul_right _ hp1
    rw[Nat.mul_assoc]at h256
    omega
   clear hp1 hp2 hp3 h256 hK hs hh hK2
   have hs128:(s:Int)≤128:=by omega
   obtain⟨q,hq⟩:∃ q,2*K=q:=⟨_,rfl⟩
   have Hq:Away (2*K=q):=⟨hq⟩
   rw[hq]
   clear hq hp4 hp5
   go_wp2_with fail
   rename World=>wo
   go_loopw [19,6] (fun j k wr=>∃ t:Nat,t≤K∧j=.int .i64 (t:Int)∧k=.int .i64 ((q-t:Nat):Int)∧Away (At g (FL .i64 256 (dn (bk ζ K s) s h (t*s))) 76 V wr)) (fun j _ _=>K-(intOf j).toNat)
   case atStart=>exact⟨0,Nat.zero_le _,rfl,rfl,⟨by rw[Nat.zero_mul,dn_zero];exact A0.out⟩⟩
   case round=>
    obtain⟨t,ht,rfl,rfl,A1⟩:=hrel
    by_cases hlt2:t<K
    ·have hqq:=Hq.out
     have htz:(t:Int)<(K:Int):=by omega
     obtain⟨c,hc⟩:∃ c,q-t=c:=⟨_,rfl⟩
     obtain⟨k,hk⟩:∃ k,2*K-1-t=k:=⟨_,rfl⟩
     obtain⟨d,hd⟩:∃ d,2*s=d:=⟨_,rfl⟩
     obtain⟨b,hb⟩:∃ b,d*t=b:=⟨_,rfl⟩
     have h256:=H256.out
     rw[hd]at h256
     have hbd:b+d≤256:=by
      have h1:d*(t+1)≤d*K:=Nat.mul_le_mul_left _ hlt2
      rw[Nat.mul_succ,hb]at h1
      omega
     have hk256:Away (k<256):=⟨by omega⟩
     have hkz:(k:Int)<256:=by omega
     have hck:k+1=c:=by have:=Hq.out;omega
     have f3:IntKind.i64.wrap ((c:Int)-1)=(k:Int):=by rw[IntKind.wrap_i64];omega
     have f4:IntKind.i64.wrap (2*(s:Int))=(d:Int):=by rw[IntKind.wrap_i64];omega
     have hbz:(d:Int)*(t:Int)=(b:Int):=by rw[←hb];exact(Int.natCast_mul d t).symm
     have f5:IntKind.i64.wrap ((d:Int)*(t:Int))=(b:Int):=by rw[hbz,IntKind.wrap_i64];omega
     have E0:wr.heap[w.heap.size]? = some (.cells T 34 (0,0)):=A1.out.other (by have:=HgV.out;omega) (by have:=HgV.out;omega) D0.out
     obtain⟨x,hx⟩:=ex_eq (Z k)
     have cz:wr.cell? ⟨w.heap.size,209+k,none⟩=some (.int .i64 x):=by rw[←hx.out];exact cell_at E0 (HT.out.z k hk256.out)
     have Hx:Away (∀ w1:World,Calls Tryz.prog 137 #[.int .i64 x] w1 fun e w'=>e=.returned (.int .i64 (ζ k))∧w1=w'):=⟨fun w1=>by rw[←Hζ.out k,hx.out];exact(Hred.out x w1).mono fun _ _ h=>⟨h.1,h.2.symm⟩⟩
     have Hζb:Away (0 ≤ ζ k ∧ ζ k<8380417):=⟨by rw[←Hζ.out k];exact⟨Int.emod_nonneg _ (by decide),Int.emod_lt_of_pos _ (by decide)⟩⟩
     have Hsp:Away (∀ w1:World,w1.heap[g]? = some (.cells (FL .i64 256 (dn (bk ζ K s) s h (t*s))) 76 (0,0))→Calls Tryz.prog 138 #[.pointer (some ⟨g,0,none⟩),.int .i64 (b:Int),.int .i64 (s:Int),.int .i64 (ζ k)] w1 fun e w'=>e=.returned (.tuple #[])∧At g (FL .i64 256 (dn (bk ζ K s) s h ((t+1)*s))) 76 w1 w'):=⟨fun w1 hA=>njoin.join_any (bk ζ K s) g s t b (ζ k) h w1 (by rw[hd];exact hb.symm) (by omega) Hζb.out Hh.out (fun r hr=>by rw[←hk];exact bk_pair ζ K hr h) hA⟩
     have Hck:=Away.mk hck
     have Hc:=Away.mk hc
     rw[hc]
     obtain⟨y,hy⟩:=ex_eq (ζ k)
     rw[hy.out]at Hx Hsp
     clear hc hck hk hd hb hbz h256 hbd E0 hx hy hqq
     go_wp2_with fail
     refine(Hx.out _).mono ?_
     rintro e w3 ⟨rfl,rfl⟩
     go_wp2_with fail
     refine(Hsp.out _ A1.out.row).mono ?_
     rintro e w3 ⟨rfl,hA2⟩
     have A2:Away (At g (FL .i64 256 (dn (bk ζ K s) s h ((t+1)*s))) 76 V w3):=⟨A1.out.trans hA2⟩
     clear hA2 A1 cz
     go_wp2_with fail
     go_roundw
     case rel=>exact⟨t+1,by omega,by go_num,by rw[show q-(t+1)=k by have:=Hck.out;have:=Hc.out;omega],A2⟩
     case measure=>simp[intOf];omega
    ·obtain rfl:t=K:=by omega
     rw[show FL .i64 256 (dn (bk ζ t s) s h (t*s))=FL .i64 256 (backR ζ (m+1) f) from fl_congr .i64 256 hnext.out]at A1
     go_wp2_with fail
     go_roundw
     case rel=>exact⟨m+1,by omega,by go_num,by rw[hKn.out,show q-t=t by have:=Hq.out;omega],A1⟩
     case measure=>simp[intOf];omega
  ·obtain rfl:m=8:=by omega
   simp only[Int.cast_ofNat_Int]
   obtain⟨C,hC⟩:=ex_eq (FL .i64 256 (backR ζ 8 f))
   rw[hC.out]at A0
   have Ci:Away ((Tryz.prog.info? 76).map (·.size)=some C.size):=⟨by rw[←hC.out,fl_size];have h1:=Ri.out;rw[←HR.out,fl_size]at h1;exact h1⟩
   have Hsc:Away (∀ w1:World,Calls Tryz.prog 87 #[.agg C,.int .i64 8347681] w1 fun e w'=>e=.returned (.agg R)∧Below w1.heap.size w1 w'):=⟨fun w1=>by
    have h:=fscale.scale_any (backR ζ 8 f) 8347681 w1
    rw[hC.out,HR.out]at h
    exact h⟩
   have Hrow:=Away.mk A0.out.row
   have Hres:Away (wr.heap[w.heap.size+2]? = some (.cells z 76 (0,0))):=⟨A0.out.other (by have:=HgV.out;omega) (by have:=HgV.out;omega) D2.out⟩
   have HB:Away (Below w.heap.size w wr):=⟨HVB.out.trans (A0.out.below HVB.out.size (by have:=HgV.out;omega))⟩
   clear A0 hC
   go_wp2_with fail
   refine wp_load_row 76 _ rfl g rfl 76 C (0,0) _ Hrow.out Tryz.underlying76 rfl Ci.out ?_
   go_wp2_with fail
   refine(Hsc.out _).mono ?_
   rintro e w5 ⟨rfl,hb5⟩
   have Hres5:Away (w5.heap[w.heap.size+2]? = some (.cells z 76 (0,0))):=⟨(hb5.block _ (lt_of_row Hres.out)).trans Hres.out⟩
   have HB5:Away (Below w.heap.size w w5):=⟨HB.out.trans (hb5.mono HB.out.size)⟩
   clear hb5 Hres Hrow HB
   go_wp2_with (refine wpList_store_row rfl 76 _ _ rfl (w.heap.size+2) R rfl rfl 76 _ Hres5.out Ri.out Rz.out Ro.out ?_)
   refine bodyPost_ret_by (v:=.agg R) (results_cell_row rfl _ _ (w.heap.size+2) 76 _ (0,0) _ rfl (setRow_heap _ _ _ _ _ _ Hres5.out) Tryz.underlying76 rfl Ri.out) rfl ?_
   exact⟨rfl,HB5.out.trans (below_setRow _ _ _ (by omega))⟩
end nback
end Go.Proofs.YtomphjajkkddkaaGreatDoor
