/-
  What mlkey's PublicBytes returns for valid arguments. Conditions: as each theorem says. A string's f
-/
import Derived.Test.YtomphjajkkddkaaGreatDoorZt15
import Derived.Test.YtomphjajkkddkaaGreatDoorZt02
import Derived.Test.YtomphjajkkddkaaGreatDoorZt11
import Derived.Test.YtomphjajkkddkaaGreatDoorZt17
import Derived.Test.YtomphjajkkddkaaGreatDoorZt08
import Derived.Test.YtomphjajkkddkaaGreatDoorZt13
import Derived.Test.YtomphjajkkddkaaGreatDoorZt03
import Derived.Test.YtomphjajkkddkaaGreatDoorProg
import Derived.Maps.AppendAt
import Derived.Shelf.Strings.Trim
set_option maxRecDepth 100000
set_option maxHeartbeats 16000000
namespace Go.Proofs.YtomphjajkkddkaaGreatDoor
namespace kpb
set_option linter.unusedSimpArgs false
open Go Go.RowKit
open arr mem stil polys polt pols rbita rbitb rbitd rbite rbitf rbitg bitp rndm saml lsl11 helda qrow mlkm mlkb rksz rkpb rksb rkse rkrw
theorem enc_pb (x:ByteArray) (m:Nat) (v:Value) (B:Nat) (q:Nat→Nat→Int) (w:World) (hm:m≤8) (hv:Holds w B v m q) (hx:x.size≤100000):
 Calls Tryz.prog 116 #[.string x,v,.func (.func 117) #[] #[]] w fun e w'=>e=.returned (resP x q 1023 m)∧Below w.heap.size w w':=by
 refine ken.encode_pb x m v B q (fun i=>packed (q i) 1023) (fun i=>inb (q i) 1023) _ w hm hv hx (fun i _=>by rw[size_packed,lb_1023];decide) (fun h=>?_) (fun i hi h=>?_) (fun i _ h w1 _=>?_) (fun i _ h w1 _=>?_)
 ·unfold resP;rw[if_pos (show okP q 1023 m from h)]
 ·unfold resP;rw[if_neg (show ¬ okP q 1023 m from fun h2=>h (h2 i hi))]
 ·have h1:=ken.clo_pb (q i) w1;rw[if_pos h]at h1;exact h1
 ·have h1:=ken.clo_pb (q i) w1;rw[if_neg h]at h1;exact h1
theorem pb_any (kn:Nat) (l e t a b o s:Int) (rho:ByteArray) (v:Value) (B:Nat) (q:Nat→Nat→Int) (w:World) (h:latt (kn:Int) l e t a b o s=true) (hrho:rho.size=32) (hv:Holds w B v kn q):
 Calls Tryz.prog 65 #[.agg #[.int .i64 (kn:Int),.int .i64 l,.int .i64 e,.int .i64 t,.int .i64 a,.int .i64 b,.int .i64 o,.int .i64 s],.string rho,v] w fun x w'=>x=.returned (resP rho q 1023 kn)∧Below w.heap.size w w':=by
 have HR0:=fun w1=>rright.right_any (kn:Int) l e t a b o s w1
 simp only[h]at HR0
 obtain⟨hk,-⟩:=latt_all h
 have HE0:∀ w1:World,Below w.heap.size w w1→Calls Tryz.prog 116 #[.string rho,v,.func (.func 117) #[] #[]] w1 fun e w'=>e=.returned (resP rho q 1023 kn)∧Below w1.heap.size w1 w':=fun w1 hb=>enc_pb rho kn v B q w1 (by omega) (hv.later hb) (by omega)
 obtain⟨V1,V2,HV⟩:∃ (V1:ByteArray) (V2:Int),Away (resP rho q 1023 kn=.tuple #[.string V1,.int .i64 V2]):=by
  unfold resP
  split
  ·exact⟨_,_,⟨rfl⟩⟩
  ·exact⟨_,_,⟨rfl⟩⟩
 rw[HV.out]at HE0 ⊢
 obtain⟨g,c,hvs,-⟩:=hd_any hv
 subst hvs
 obtain⟨C,HC⟩:=ex_eq (#[.int .i64 (kn:Int),.int .i64 l,.int .i64 e,.int .i64 t,.int .i64 a,.int .i64 b,.int .i64 o,.int .i64 s]:Array Value)
 simp only[HC.out]at HR0 ⊢
 have HCs:Away ((Tryz.prog.info? 37).map (·.size)=some C.size):=⟨by rw[←HC.out];kernel_rfl⟩
 obtain⟨W,hW⟩:∃ x,w.alloc (.cells C 37)=x:=⟨_,rfl⟩
 obtain⟨r0,hWs,b0⟩:=one hW
 have CB:Away (∀ w':World,Below W.heap.size W w'→w'.heap[w.heap.size]? = some (.cells C 37 (0,0))):=⟨fun w' hb=>(hb.block _ (lt_of_row r0)).trans r0⟩
 have BW:=Away.mk b0
 have HW:=Away.mk hW
 have cK:Away (∀ w':World,Below W.heap.size W w'→w'.cell? ⟨w.heap.size,0,none⟩=some (.int .i64 (kn:Int))):=⟨fun w' hb=>cell_at (CB.out w' hb) (by rw[←HC.out];rfl)⟩
 have HR:=Away.mk HR0
 have HE:=Away.mk HE0
 have hrz:(rho.size:Int)=32:=by omega
 have hnz:((kn:Int) != (kn:Int))=false:=by simp
 clear HR0 HE0 hW r0 hWs b0 hv h hk hrho HV
 go_enter Tryz.func65,Tryz.ntmps65
 go_wp2_with (first
  | (rw[HW.out])
  | (refine wpList_load_row rfl 37 _ rfl w.heap.size rfl 37 _ (0,0) _ (CB.out _ (Below.refl _ _)) Tryz.underlying37 rfl HCs.out ?_))
 refine(HR.out _).mono ?_
 rintro x u1 ⟨rfl,hb1⟩
 have E1:Away (Below w.heap.size w u1):=⟨BW.out.trans (hb1.mono BW.out.size)⟩
 have c0:=cK.out u1 hb1
 clear hb1
 go_wp2_with fail
 refine(HE.out _ E1.out).mono ?_
 rintro x u2 ⟨rfl,hb2⟩
 have E2:Away (Below w.heap.size w u2):=⟨E1.out.trans (hb2.mono E1.out.size)⟩
 clear hb2
 go_wp2_with fail
 go_ret2
 exact⟨rfl,E2.out⟩
end kpb
namespace kpu
set_option linter.unusedSimpArgs false
open Go Go.RowKit
open arr mem stil polys polt pols rbita rbitb rbitd rbite rbitf rbitg bitp rndm saml lsl11 helda qrow mlkm mlkb rksz rkpb rksb rkse rkrw
theorem cut_first (x:ByteArray) (n:Nat) (w:World) (hn:n≤x.size) (hx:x.size≤100000):
 Calls Tryz.prog 76 #[.string x,.int .i64 (n:Int)] w fun e w'=>e=.returned (.string (x.extract 0 n))∧Below w.heap.size w w':=by
 have h1:=pcut.cut_any x (n:Int) w (by omega)
 rw[show ((n:Int)).toNat=n by omega,←pcut.cut_bytes x n n (by omega)]at h1
 exact h1
theorem part_of (x:ByteArray) (p n m i:Nat) (hi:i<m) (hx:p+n*m≤x.size) (q:Nat) (hq:q=x.size∨q=p+n*m):(x.extract p q).extract (i*n) ((i+1)*n)=x.extract (p+n*i) (p+n*i+n):=by
 have h1:n*(i+1)≤n*m:=Nat.mul_le_mul_left _ hi
 rw[Nat.mul_succ]at h1
 rw[ByteArray.extract_extract,Nat.succ_mul,Nat.mul_comm i n]
 congr 1
 omega
end kpu
namespace ksb
set_option linter.unusedSimpArgs false
open Go Go.RowKit
open arr mem stil polys polt pols rbita rbitb rbitd rbite rbitf rbitg bitp saml lsl11 helda qrow mlkm mlkb rksz rkpb rksb rkse rkrw
open rndm (latt)
open ksz
theorem enc_sb (gc:Nat) (x:ByteArray) (m:Nat) (v:Value) (B:Nat) (q:Nat→Nat→Int) (low high:Int) (w:World) (hm:m≤8) (hv:Holds w B v m q) (hx:x.size≤100000) (h1 : 0≤low) (h2 : 1≤high) (h3:low<4190208) (h4:high<4190208) (hg:gc<w.heap.size) (hc1:w.cell? ⟨gc,1,none⟩=some (.int .i64 low)) (hc2:w.cell? ⟨gc,2,none⟩=some (.int .i64 high)):
 Calls Tryz.prog 116 #[.string x,v,.func (.func 118) #[] #[.pointer (some ⟨gc,0,none⟩)]] w fun e w'=>e=.returned (resS x q low high m)∧Below w.heap.size w w':=by
 have hb:=rbitf.lb_small (low+high) (by omega)
 refine ken.encode_sb gc x m v B q (fun i=>packed (sg (q i) high) (low+high)) (fun i=>ins (q i) low high) _ w hm hv hx (fun i _=>by rw[size_packed];omega) (fun h=>?_) (fun i hi h=>?_) (fun i _ h w1 hb1=>?_) (fun i _ h w1 hb1=>?_)
 ·unfold resS;rw[if_pos (show okS q low high m from h)];rfl
 ·unfold resS;rw[if_neg (show ¬ okS q low high m from fun h2=>h (h2 i hi))]
 ·have h5:=ken.clo_sb (q i) gc low high w1 h1 h2 h3 h4 (Nat.lt_of_lt_of_le hg hb1.size) ((hb1.cell (p:=⟨gc,1,none⟩) hg).trans hc1) ((hb1.cell (p:=⟨gc,2,none⟩) hg).trans hc2)
  rw[if_pos h]at h5;exact h5
 ·have h5:=ken.clo_sb (q i) gc low high w1 h1 h2 h3 h4 (Nat.lt_of_lt_of_le hg hb1.size) ((hb1.cell (p:=⟨gc,1,none⟩) hg).trans hc1) ((hb1.cell (p:=⟨gc,2,none⟩) hg).trans hc2)
  rw[if_neg h]at h5;exact h5
def pq (p q l:Nat→Nat→Int) (r:Nat):Nat→Nat→Int:=if r=0 then p else if r=1 then q else l
def mm (kn ln r:Nat):Nat:=if r=0 then ln else kn
def st (kn ln:Nat) (e:Int) (h:ByteArray) (p q l:Nat→Nat→Int) (r:Nat):ByteArray:=
 if r=0 then h else if r=1 then laidS h p e e ln else if r=2 then laidS (laidS h p e e ln) q e e kn else skB kn ln e h p q l
theorem st_next (kn ln:Nat) (e:Int) (h:ByteArray) (p q l:Nat→Nat→Int) (r:Nat) (hr:r<3):laidS (st kn ln e h p q l r) (pq p q l r) (lw e r) (hg e r) (mm kn ln r)=st kn ln e h p q l (r+1):=by
 rcases (show r=0∨r=1∨r=2 by omega) with rfl | rfl | rfl<;>rfl
theorem st_size (kn ln:Nat) (e:Int) (h:ByteArray) (p q l:Nat→Nat→Int) (r:Nat) (he:e=2∨e=4) (hk:kn≤8) (hl:ln≤8) (hh:h.size=128):(st kn ln e h p q l r).size≤100000:=by
 obtain⟨-,-,b⟩:=lb_eta e he
 have a1 : 32*lb (e+e).toNat*ln≤128*8:=Nat.mul_le_mul (by omega) hl
 have a2 : 32*lb (e+e).toNat*kn≤128*8:=Nat.mul_le_mul (by omega) hk
 unfold st
 split
 ·omega
 ·split
  ·rw[laidS_size];omega
  ·split
   ·rw[laidS_size,laidS_size];omega
   ·rw[skB_size];omega
theorem sb_any (kn ln:Nat) (e t a b o s:Int) (hd:ByteArray) (va vb vl:Value) (Ba Bb Bl:Nat) (p q lo:Nat→Nat→Int) (w:World) (h:latt (kn:Int) (ln:Int) e t a b o s=true) (hhd:hd.size=128) (ha:Holds w Ba va ln p) (hb:Holds w Bb vb kn q) (hlo:Holds w Bl vl kn lo):
 Calls Tryz.prog 66 #[.agg #[.int .i64 (kn:Int),.int .i64 (ln:Int),.int .i64 e,.int .i64 t,.int .i64 a,.int .i64 b,.int .i64 o,.int .i64 s],.string hd,va,vb,vl] w fun x w'=>x=.returned (resK kn ln e hd p q lo)∧Below w.heap.size w w':=by
 have HR0:=fun w1=>rright.right_any (kn:Int) (ln:Int) e t a b o s w1
 simp only[h]at HR0
 have HL0:=fun w1=>lists_any (kn:Int) (ln:Int) e t a b o s w1
 obtain⟨hk,hl,he,-⟩:=latt_all h
 have hk : 1≤kn∧kn≤8:=by omega
 have hl : 1≤ln∧ln≤8:=by omega
 have HQ:Away (∀ r,r<3→∃ B c g,Holds w B (.slice (some ⟨g,0,none⟩) (mm kn ln r) c) (mm kn ln r) (pq p q lo r)∧(#[va,vb,vl]:Array Value)[r]? = some (.slice (some ⟨g,0,none⟩) (mm kn ln r) c)):=⟨fun r hr=>by
  rcases (show r=0∨r=1∨r=2 by omega) with rfl | rfl | rfl
  ·obtain⟨g,c,e1,-⟩:=hd_any ha
   subst e1
   exact⟨Ba,c,g,ha,rfl⟩
  ·obtain⟨g,c,e1,-⟩:=hd_any hb
   subst e1
   exact⟨Bb,c,g,hb,rfl⟩
  ·obtain⟨g,c,e1,-⟩:=hd_any hlo
   subst e1
   exact⟨Bl,c,g,hlo,rfl⟩⟩
 obtain⟨ga,ca,e1,-⟩:=hd_any ha
 obtain⟨gb,cb,e2,-⟩:=hd_any hb
 obtain⟨gl,cl,e3,-⟩:=hd_any hlo
 subst e1 e2 e3
 have HEn:Away (∀ (r gc:Nat) (v:Value) (B:Nat) (w1:World),r<3→Holds w1 B v (mm kn ln r) (pq p q lo r)→gc<w1.heap.size→w1.cell? ⟨gc,1,none⟩=some (.int .i64 (lw e r))→w1.cell? ⟨gc,2,none⟩=some (.int .i64 (hg e r)) →
  Calls Tryz.prog 116 #[.string (st kn ln e hd p q lo r),v,.func (.func 118) #[] #[.pointer (some ⟨gc,0,none⟩)]] w1 fun x w'=>x=.returned (if okS (pq p q lo r) (lw e r) (hg e r) (mm kn ln r) then .tuple #[.string (st kn ln e hd p q lo (r+1)),.int .i64 0] else .tuple #[.string ⟨#[]⟩,.int .i64 6])∧Below w1.heap.size w1 w'):=⟨fun r gc v B w1 hr hv hg' hc1 hc2=>by
  have h5:=enc_sb gc (st kn ln e hd p q lo r) (mm kn ln r) v B (pq p q lo r) (lw e r) (hg e r) w1 (by unfold mm;split<;>omega) hv (st_size kn ln e hd p q lo r he hk.2 hl.2 hhd) (by unfold lw;split<;>omega) (by unfold hg;split<;>omega) (by unfold lw;split<;>omega) (by unfold hg;split<;>omega) hg' hc1 hc2
  unfold resS at h5
  rw[st_next kn ln e hd p q lo r hr]at h5
  exact h5⟩
 have HNo:Away (∀ r,r<3→¬ okS (pq p q lo r) (lw e r) (hg e r) (mm kn ln r)→resK kn ln e hd p q lo=.tuple #[.string ⟨#[]⟩,.int .i64 6]):=⟨fun r hr hno=>by
  unfold resK
  rw[if_neg]
  rintro ⟨q1,q2,q3⟩
  rcases (show r=0∨r=1∨r=2 by omega) with rfl | rfl | rfl
  ·exact hno q1
  ·exact hno q2
  ·exact hno q3⟩
 have HYes:Away ((∀ r,r<3→okS (pq p q lo r) (lw e r) (hg e r) (mm kn ln r))→resK kn ln e hd p q lo=.tuple #[.string (st kn ln e hd p q lo 3),.int .i64 0]):=⟨fun h5=>by
  unfold resK
  rw[if_pos ⟨h5 0 (by decide),h5 1 (by decide),h5 2 (by decide)⟩]
  rfl⟩
 have HIx:Away (∀ (r:Nat),r<3→∀ w1:World,(Instr.index 102 (.agg (lst (kn:Int) (ln:Int) e)) (.int .i64 (r:Int))).run Tryz.prog w1=.ok (.agg #[.int .i64 (mn (kn:Int) (ln:Int) r),.int .i64 (lw e r),.int .i64 (hg e r)]) w1):=⟨fun r hr w1=>index_ls (kn:Int) (ln:Int) e r hr w1⟩
 have Hst0:Away (st kn ln e hd p q lo 0=hd):=⟨rfl⟩
 obtain⟨V,HV⟩:=ex_eq (resK kn ln e hd p q lo)
 simp only[HV.out]at HNo HYes ⊢
 obtain⟨S,HS⟩:=ex_eq (st kn ln e hd p q lo)
 simp only[HS.out]at HEn HYes Hst0
 obtain⟨OK,HOK⟩:=ex_eq (fun r=>okS (pq p q lo r) (lw e r) (hg e r) (mm kn ln r))
 have HOK2:∀ r,okS (pq p q lo r) (lw e r) (hg e r) (mm kn ln r)=OK r:=fun r=>by rw[←HOK.out]
 have HEc:Away (∀ (r gc:Nat) (v:Value) (B:Nat) (w1:World),r<3→Holds w1 B v (mm kn ln r) (pq p q lo r)→gc<w1.heap.size→w1.cell? ⟨gc,1,none⟩=some (.int .i64 (lw e r))→w1.cell? ⟨gc,2,none⟩=some (.int .i64 (hg e r)) →
  (OK r∧Calls Tryz.prog 116 #[.string (S r),v,.func (.func 118) #[] #[.pointer (some ⟨gc,0,none⟩)]] w1 fun x w'=>x=.returned (.tuple #[.string (S (r+1)),.int .i64 0])∧Below w1.heap.size w1 w')∨(¬ OK r∧Calls Tryz.prog 116 #[.string (S r),v,.func (.func 118) #[] #[.pointer (some ⟨gc,0,none⟩)]] w1 fun x w'=>x=.returned (.tuple #[.string ⟨#[]⟩,.int .i64 6])∧Below w1.heap.size w1 w')):=⟨fun r gc v B w1 q1 q2 q3 q4 q5=>by
  have h6:=HEn.out r gc v B w1 q1 q2 q3 q4 q5
  by_cases h7:okS (pq p q lo r) (lw e r) (hg e r) (mm kn ln r)
  ·rw[if_pos h7]at h6;exact Or.inl ⟨by rw[←HOK2 r];exact h7,h6⟩
  ·rw[if_neg h7]at h6;exact Or.inr ⟨by rw[←HOK2 r];exact h7,h6⟩⟩
 simp only[HOK2]at HNo HYes
 obtain⟨mf,hmf⟩:=ex_eq (mn (kn:Int) (ln:Int))
 obtain⟨lf,hlf⟩:=ex_eq (lw e)
 obtain⟨gf,hgf⟩:=ex_eq (hg e)
 obtain⟨Ls,hLs⟩:=ex_eq (lst (kn:Int) (ln:Int) e)
 obtain⟨mN,hmN⟩:=ex_eq (mm kn ln)
 obtain⟨pQ,hpQ⟩:=ex_eq (pq p q lo)
 simp only[hmf.out,hlf.out,hgf.out,hLs.out,hmN.out,hpQ.out]at HIx HEc HL0 HQ
 obtain⟨Arr,HArr⟩:=ex_eq (#[.slice (some ⟨ga,0,none⟩) ln ca,.slice (some ⟨gb,0,none⟩) kn cb,.slice (some ⟨gl,0,none⟩) kn cl]:Array Value)
 simp only[HArr.out]at HQ
 obtain⟨C,HC⟩:=ex_eq (#[.int .i64 (kn:Int),.int .i64 (ln:Int),.int .i64 e,.int .i64 t,.int .i64 a,.int .i64 b,.int .i64 o,.int .i64 s]:Array Value)
 simp only[HC.out]at HR0 HL0 ⊢
 have HCs:Away ((Tryz.prog.info? 37).map (·.size)=some C.size):=⟨by rw[←HC.out];kernel_rfl⟩
 obtain⟨W,hW⟩:∃ x,w.alloc (.cells C 37)=x:=⟨_,rfl⟩
 obtain⟨r0,hWs,b0⟩:=one hW
 have CB:Away (∀ w':World,Below W.heap.size W w'→w'.heap[w.heap.size]? = some (.cells C 37 (0,0))):=⟨fun w' hb=>(hb.block _ (lt_of_row r0)).trans r0⟩
 have BW:=Away.mk b0
 have HW:=Away.mk hW
 have cK:Away (∀ w':World,Below W.heap.size W w'→w'.cell? ⟨w.heap.size,0,none⟩=some (.int .i64 (kn:Int))):=⟨fun w' hb=>cell_at (CB.out w' hb) (by rw[←HC.out];rfl)⟩
 have cL:Away (∀ w':World,Below W.heap.size W w'→w'.cell? ⟨w.heap.size,1,none⟩=some (.int .i64 (ln:Int))):=⟨fun w' hb=>cell_at (CB.out w' hb) (by rw[←HC.out];rfl)⟩
 have HR:=Away.mk HR0
 have HL:=Away.mk HL0
 have hhz:((hd.size:Int) != 128)=false:=by rw[hhd];rfl
 have hhi:(hd.size:Int)=128:=by omega
 have hk2:((kn:Int) != (kn:Int))=false:=by simp
 have hl2:((ln:Int) != (ln:Int))=false:=by simp
 clear HR0 HL0 hW r0 hWs b0 h hk hl he hhd ha hb hlo HV HS HOK HOK2 HEn hmf hlf hgf hLs hmN hpQ
 go_enter Tryz.func66,Tryz.ntmps66
 go_wp2_with (first
  | (rw[HW.out])
  | (refine wpList_load_row rfl 37 _ rfl w.heap.size rfl 37 _ (0,0) _ (CB.out _ (Below.refl _ _)) Tryz.underlying37 rfl HCs.out ?_))
 refine(HR.out _).mono ?_
 rintro x u1 ⟨rfl,hb1⟩
 have E1:Away (Below W.heap.size W u1):=⟨hb1⟩
 have c0:=cK.out u1 hb1
 have c1:=cL.out u1 hb1
 clear hb1
 obtain⟨W3,hW3⟩:∃ x,u1.alloc (.cells #[.slice (some ⟨ga,0,none⟩) ln ca,.slice (some ⟨gb,0,none⟩) kn cb,.slice (some ⟨gl,0,none⟩) kn cl] 139)=x:=⟨_,rfl⟩
 obtain⟨r3,hs3,b3⟩:=one hW3
 have E3:Away (Below W.heap.size W W3):=⟨E1.out.trans (b3.mono E1.out.size)⟩
 rw[HArr.out]at r3
 have R3:=Away.mk r3
 have HW3:=Away.mk hW3
 clear r3 hs3 b3 hW3
 go_wp2_with (first
  | (rw[HW3.out])
  | (refine wpList_load_row rfl 37 _ rfl w.heap.size rfl 37 _ (0,0) _ (CB.out _ E3.out) Tryz.underlying37 rfl HCs.out ?_))
 refine(HL.out _).mono ?_
 rintro x u2 ⟨rfl,hb2⟩
 have R2:Away (u2.heap[u1.heap.size]? = some (.cells Arr 139 (0,0))):=⟨(hb2.block _ (lt_of_row R3.out)).trans R3.out⟩
 have E2:Away (Below W.heap.size W u2):=⟨E3.out.trans (hb2.mono E3.out.size)⟩
 clear hb2 c0 c1 R3
 go_wp2_with fail
 go_loopw [53,13,14] (fun iv sv ev wr=>∃ r:Nat,r≤3∧iv=.int .i64 (r:Int)∧sv=.string (S r)∧ev=.int .i64 0∧Away (∀ i,i<r→OK i)∧Away (Below u2.heap.size u2 wr)) (fun iv _ _ _=>3-(intOf iv).toNat)
 case atStart=>exact⟨0,by decide,rfl,by rw[Hst0.out],rfl,⟨fun i hi=>by omega⟩,⟨Below.refl _ _⟩⟩
 case round=>
  obtain⟨i,hi,rfl,rfl,rfl,Hok,Hb⟩:=hrel
  have BE:Away (Below W.heap.size W wr):=⟨E2.out.trans (Hb.out.mono E2.out.size)⟩
  by_cases hlt:i<3
  ·have hiz:(i:Int)<3:=by omega
   have hix:=HIx.out i hlt
   obtain⟨Bv,cv,gv,hv,hav⟩:=HQ.out i hlt
   obtain⟨m,hm⟩:=ex_eq (mf i)
   obtain⟨lo',hlo'⟩:=ex_eq (lf i)
   obtain⟨hi',hhi'⟩:=ex_eq (gf i)
   rw[hm.out,hlo'.out,hhi'.out]at hix
   obtain⟨W4,hW4⟩:∃ x,wr.alloc (.cells #[.int .i64 m,.int .i64 lo',.int .i64 hi'] 101)=x:=⟨_,rfl⟩
   obtain⟨r4,hs4,b4⟩:=one hW4
   have d1:W4.cell? ⟨wr.heap.size,1,none⟩=some (.int .i64 (lf i)):=by rw[hlo'.out];exact cell_at r4 rfl
   have d2:W4.cell? ⟨wr.heap.size,2,none⟩=some (.int .i64 (gf i)):=by rw[hhi'.out];exact cell_at r4 rfl
   have B4:Away (Below u2.heap.size u2 W4):=⟨Hb.out.trans (b4.mono Hb.out.size)⟩
   have R4:W4.heap[u1.heap.size]? = some (.cells Arr 139 (0,0)):=(B4.out.block _ (lt_of_row R2.out)).trans R2.out
   have c4:W4.cell? ⟨u1.heap.size,i,none⟩=some (.slice (some ⟨gv,0,none⟩) (mN i) cv):=cell_at R4 hav
   have hcase:=HEc.out i wr.heap.size (.slice (some ⟨gv,0,none⟩) (mN i) cv) Bv W4 hlt (hv.later (BW.out.trans ((E2.out.trans (B4.out.mono E2.out.size)).mono BW.out.size))) (lt_of_row r4) d1 d2
   have HW4:=Away.mk hW4
   have Hlt:=Away.mk hlt
   obtain⟨nn,hnn⟩:∃ nn,mN i=nn:=⟨_,rfl⟩
   rw[hnn]at c4 hcase
   obtain⟨s0,hs0⟩:=ex_eq (S i)
   rw[hs0.out]at hcase ⊢
   clear r4 hs4 b4 hW4 d1 d2 R4 hv hav hlt hnn
   rcases hcase with ⟨hok,hcall⟩ | ⟨hok,hcall⟩
   ·have HCl:=Away.mk hcall
    have Hok2:Away (∀ j,j<i+1→OK j):=⟨fun j hj=>by
     by_cases e:j=i
     ·rw[e];exact hok
     ·exact Hok.out j (by omega)⟩
    obtain⟨s1,hs1⟩:=ex_eq (S (i+1))
    rw[hs1.out]at HCl
    clear hcall hok
    go_wp2_with (rw[HW4.out])
    refine HCl.out.mono ?_
    rintro x w5 ⟨rfl,hb5⟩
    have B5:Away (Below u2.heap.size u2 w5):=⟨B4.out.trans (hb5.mono B4.out.size)⟩
    clear hb5 HCl
    go_wp2_with fail
    go_roundw
    case rel=>exact⟨i+1,by have:=Hlt.out;omega,by go_num,by rw[hs1.out],rfl,Hok2,B5⟩
    case measure=>have:=Hlt.out;simp[intOf];omega
   ·have HCl:=Away.mk hcall
    have hVe:Away (V=.tuple #[.string ⟨#[]⟩,.int .i64 6]):=⟨HNo.out i Hlt.out hok⟩
    clear hcall hok
    go_wp2_with (rw[HW4.out])
    refine HCl.out.mono ?_
    rintro x w5 ⟨rfl,hb5⟩
    have B5:Away (Below u2.heap.size u2 w5):=⟨B4.out.trans (hb5.mono B4.out.size)⟩
    clear hb5 HCl
    go_wp2_with fail
    go_ret2
    exact⟨by rw[hVe.out];rfl,BW.out.trans ((E2.out.trans (B5.out.mono E2.out.size)).mono BW.out.size)⟩
  ·obtain rfl:i=3:=by omega
   have hVe:Away (V=.tuple #[.string (S 3),.int .i64 0]):=⟨HYes.out fun r hr=>Hok.out r hr⟩
   obtain⟨s3,hs3⟩:=ex_eq (S 3)
   rw[hs3.out]at hVe ⊢
   simp only[Int.cast_ofNat_Int]
   go_wp2_with fail
   go_ret2
   exact⟨by rw[hVe.out];rfl,BW.out.trans (BE.out.mono BW.out.size)⟩
end ksb
namespace kse
set_option linter.unusedSimpArgs false
open Go Go.RowKit
open arr mem stil polys polt pols rbita rbitb rbitd rbite rbitf rbitg bitp saml lsl11 helda qrow mlkm mlkb rksz rkpb rksb rkse rkrw
open rndm (latt)
open ksz ksb
def Rowm (w:World) (skip:Option Nat) (vs:List Value) (n:Nat→Nat) (p:Nat→Nat→Nat→Int):Prop:=
 ∀ i v,vs[i]? = some v→∃ g c,v=.slice (some ⟨g,0,none⟩) (n i) c∧g<w.heap.size∧some g≠skip∧∀ s,s<n i→∀ k,k<256→w.cell? ⟨g,256*s+k,none⟩=some (.int .i64 (p i s k))
theorem Rowm.grown {w w':World} {n:Nat→Nat} {skip skip':Option Nat} {vs:List Value} {p:Nat→Nat→Nat→Int} (h:Rowm w skip vs n p) (hg:w.grownBy w' skip) (hs:skip'=skip∨skip'=some w.heap.size):Rowm w' skip' vs n p:=fun i v hv=>by
 obtain⟨g,c,e,h2,h3,h4⟩:=h i v hv
 refine⟨g,c,e,Nat.lt_of_lt_of_le h2 hg.size,?_,fun s hs k hk=>hg.cell (h4 s hs k hk) h3⟩
 rcases hs with rfl | rfl
 ·exact h3
 ·intro e2;injection e2 with e2;omega
theorem Rowm.later {w w':World} {n:Nat→Nat} {skip:Option Nat} {vs:List Value} {p:Nat→Nat→Nat→Int} (h:Rowm w skip vs n p) (hb:Below w.heap.size w w'):Rowm w' skip vs n p:=fun i v hv=>by
 obtain⟨g,c,e,h2,h3,h4⟩:=h i v hv
 exact⟨g,c,e,Nat.lt_of_lt_of_le h2 hb.size,h3,fun s hs k hk=>(hb.cell (p:=⟨g,256*s+k,none⟩) h2).trans (h4 s hs k hk)⟩
theorem Rowm.snoc {w:World} {B':Nat} {n:Nat→Nat} {x y:Value} {vs:List Value} {p:Nat→Nat→Nat→Int} (h:Rowm w x.ownBlock vs n p) (hy:Holds w B' y (n vs.length) (p vs.length)) (hx:∀ k,x.ownBlock=some k→k<B'):Rowm w x.ownBlock (vs ++ [y]) n p:=fun i v hv=>by
 by_cases e:i<vs.length
 ·exact h i v (by rwa [List.getElem?_append_left e]at hv)
 ·have e2:i=vs.length:=by
   have:=(List.getElem?_eq_some_iff.1 hv).1
   rw[List.length_append,List.length_singleton]at this
   omega
  subst e2
  rw[List.getElem?_append_right (Nat.le_refl _),Nat.sub_self]at hv
  have e3:y=v:=by simpa using hv
  subst e3
  obtain⟨g,c,e,h1,h2,h3⟩:=hy
  exact⟨g,c,e,h2,fun e4=>by have:=hx g e4.symm;omega,h3⟩
theorem qmat_cell_one (w:World) (v:Value) (t:TypeId) (j:Nat) (u:Value) (hu:[v][j]? = some u):(w.alloc (.cells #[v] t)).cell? ((⟨w.heap.size,0,none⟩:Addr).add j)=some u:=cell_at_new (by simpa using hu)
theorem dec_se (gc:Nat) (x:ByteArray) (p m W:Nat) (low high:Int) (w:World) (hm : 1≤m∧m≤8) (h1 : 0≤low) (h2 : 1≤high) (h3:low<4190208) (h4:high<4190208) (hW:lb (low+high).toNat=W) (hx:p+32*W*m≤x.size) (hg:gc<w.heap.size) (hc1:w.cell? ⟨gc,1,none⟩=some (.int .i64 low)) (hc2:w.cell? ⟨gc,2,none⟩=some (.int .i64 high)):
 Calls Tryz.prog 73 #[.string (x.extract p (p+32*W*m)),.int .i64 (m:Int),.func (.func 162) #[] #[.pointer (some ⟨gc,0,none⟩)]] w fun r w'=>((okU x p W (low+high) m∧∃ v,r=.returned (.tuple #[v,.int .i64 0])∧Holds w' w.heap.size v m (rdS x p W high))∨(¬ okU x p W (low+high) m∧r=.returned (.tuple #[.slice none 0 0,.int .i64 3])))∧Below w.heap.size w w':=by
 have hb:=rbitf.lb_small (low+high) (by omega)
 have hsz:∀ i,i<m→(x.extract (p+32*W*i) (p+32*W*i+32*W)).size=32*W:=fun i hi=>piece_size x p W i m hi hx
 have hU:=fun i (hi:i<m) (w1:World)=>kde.unsigned_any (x.extract (p+32*W*i) (p+32*W*i+32*W)) low high w1 h1 h2 h3 h4 (by rw[hW];exact hsz i hi)
 rw[hW]at hb
 simp only[hW]at hU
 refine kde.decode_se gc (x.extract p (p+32*W*m)) m (32*W) (rdS x p W high) (fun i=>inb (rdU x p W i) (low+high)) w hm (by omega) (by rw[size_extract _ _ _ (by omega) hx,Nat.mul_comm m];omega) (fun i hi ho w1 hb1=>?_) (fun i hi ho w1 hb1=>?_)
 ·rw[kpu.part_of x p (32*W) m i hi hx _ (Or.inr rfl)]
  refine kde.clo_se _ gc low high w1 _ 0 (fl_size _ _ _) (fl_one _ _ _) (Nat.lt_of_lt_of_le hg hb1.size) ((hb1.cell (p:=⟨gc,1,none⟩) hg).trans hc1) ((hb1.cell (p:=⟨gc,2,none⟩) hg).trans hc2) fun w2=>?_
  have h5:=hU i hi w2
  rw[if_pos (show inb (up (x.extract (p+32*W*i) (p+32*W*i+32*W)) W) (low+high) from ho)]at h5
  exact h5
 ·rw[kpu.part_of x p (32*W) m i hi hx _ (Or.inr rfl)]
  refine kde.clo_se _ gc low high w1 _ 3 (fl_size _ _ _) (fl_one _ _ _) (Nat.lt_of_lt_of_le hg hb1.size) ((hb1.cell (p:=⟨gc,1,none⟩) hg).trans hc1) ((hb1.cell (p:=⟨gc,2,none⟩) hg).trans hc2) fun w2=>?_
  have h5:=hU i hi w2
  rw[if_neg (show ¬ inb (up (x.extract (p+32*W*i) (p+32*W*i+32*W)) W) (low+high) from ho)]at h5
  exact h5
theorem mn_mm (kn ln r:Nat):mn (kn:Int) (ln:Int) r=((mm kn ln r:Nat):Int):=by unfold mn mm;split<;>rfl
def po (kn ln W r:Nat):Nat:=if r=0 then 128 else if r=1 then 128+32*W*ln else if r=2 then 128+32*W*ln+32*W*kn else 128+32*W*ln+32*W*kn+416*kn
def wf (W r:Nat):Nat:=if r=2 then 13 else W
theorem po_next (kn ln W r:Nat) (hr:r<3):po kn ln W (r+1)=po kn ln W r+32*wf W r*mm kn ln r:=by
 rcases (show r=0∨r=1∨r=2 by omega) with rfl | rfl | rfl<;>rfl
theorem secret_len (k l e t a b o s:Int) (x:ByteArray) (w:World) (h:latt k l e t a b o s=true) (hx:(x.size:Int)≠sz2 k l e):
 Calls Tryz.prog 124 #[.agg #[.int .i64 k,.int .i64 l,.int .i64 e,.int .i64 t,.int .i64 a,.int .i64 b,.int .i64 o,.int .i64 s],.string x] w fun r w'=>r=.returned (.tuple #[.string ⟨#[]⟩,.slice none 0 0,.int .i64 3])∧Below w.heap.size w w':=by
 have HR0:=fun w1=>rright.right_any k l e t a b o s w1
 simp only[h]at HR0
 have HS0:∀ w1:World,Calls Tryz.prog 20 #[.agg #[.int .i64 k,.int .i64 l,.int .i64 e,.int .i64 t,.int .i64 a,.int .i64 b,.int .i64 o,.int .i64 s]] w1 fun e0 w'=>e0=.returned (.tuple #[.int .i64 (sz1 k),.int .i64 (sz2 k l e),.int .i64 (sz3 k l a o s)])∧Below w1.heap.size w1 w':=fun w1=>by
  have h1:=ksz.sizes_any k l e t a b o s w1
  unfold szs at h1
  rw[if_pos h]at h1
  exact h1
 obtain⟨n1,en1⟩:∃ y,sz1 k=y:=⟨_,rfl⟩
 obtain⟨n2,en2⟩:∃ y,sz2 k l e=y:=⟨_,rfl⟩
 obtain⟨n3,en3⟩:∃ y,sz3 k l a o s=y:=⟨_,rfl⟩
 simp only[en1,en2,en3]at HS0 hx
 have hn1:((x.size:Int) != n2)=true:=by simpa using hx
 obtain⟨C,HC⟩:=ex_eq (#[.int .i64 k,.int .i64 l,.int .i64 e,.int .i64 t,.int .i64 a,.int .i64 b,.int .i64 o,.int .i64 s]:Array Value)
 simp only[HC.out]at HR0 HS0 ⊢
 have HCs:Away ((Tryz.prog.info? 37).map (·.size)=some C.size):=⟨by rw[←HC.out];kernel_rfl⟩
 obtain⟨W,hW⟩:∃ x,w.alloc (.cells C 37)=x:=⟨_,rfl⟩
 obtain⟨r0,hWs,b0⟩:=one hW
 have CB:Away (∀ w':World,Below W.heap.size W w'→w'.heap[w.heap.size]? = some (.cells C 37 (0,0))):=⟨fun w' hb=>(hb.block _ (lt_of_row r0)).trans r0⟩
 have BW:=Away.mk b0
 have HW:=Away.mk hW
 have HR:=Away.mk HR0
 have HS:=Away.mk HS0
 clear HR0 HS0 hW r0 hWs b0 h hx en1 en2 en3
 go_enter Tryz.func124,Tryz.ntmps124
 go_wp2_with (first
  | (rw[HW.out])
  | (refine wpList_load_row rfl 37 _ rfl w.heap.size rfl 37 _ (0,0) _ (CB.out _ (Below.refl _ _)) Tryz.underlying37 rfl HCs.out ?_))
 refine(HR.out _).mono ?_
 rintro r u1 ⟨rfl,hb1⟩
 have E1:Away (Below W.heap.size W u1):=⟨hb1⟩
 clear hb1
 go_wp2_with (refine wpList_load_row rfl 37 _ rfl w.heap.size rfl 37 _ (0,0) _ (CB.out _ E1.out) Tryz.underlying37 rfl HCs.out ?_)
 refine(HS.out _).mono ?_
 rintro r u2 ⟨rfl,hb2⟩
 have E2:Away (Below W.heap.size W u2):=⟨E1.out.trans (hb2.mono E1.out.size)⟩
 clear hb2
 go_wp2_with fail
 go_ret3
 exact⟨rfl,BW.out.trans (E2.out.mono BW.out.size)⟩
theorem secret_good (kn ln:Nat) (e t a b o s:Int) (x:ByteArray) (w:World) (h:latt (kn:Int) (ln:Int) e t a b o s=true) (hx:(x.size:Int)=sz2 kn ln e):
 Calls Tryz.prog 124 #[.agg #[.int .i64 (kn:Int),.int .i64 (ln:Int),.int .i64 e,.int .i64 t,.int .i64 a,.int .i64 b,.int .i64 o,.int .i64 s],.string x] w fun r w'=>((okK x kn ln e∧∃ v,r=.returned (.tuple #[.string (x.extract 0 128),v,.int .i64 0])∧rkse.three w' v x kn ln e)∨(¬ okK x kn ln e∧r=.returned (.tuple #[.string ⟨#[]⟩,.slice none 0 0,.int .i64 3])))∧Below w.heap.size w w':=by
 obtain⟨hk,hl,he,-⟩:=latt_all h
 have hk : 1≤kn∧kn≤8:=by omega
 have hl : 1≤ln∧ln≤8:=by omega
 obtain⟨le1,le2,le3⟩:=lb_eta e he
 have HR0:=fun w1=>rright.right_any (kn:Int) (ln:Int) e t a b o s w1
 simp only[h]at HR0
 have HL0:=fun w1=>lists_any (kn:Int) (ln:Int) e t a b o s w1
 have HS0:∀ w1:World,Calls Tryz.prog 20 #[.agg #[.int .i64 (kn:Int),.int .i64 (ln:Int),.int .i64 e,.int .i64 t,.int .i64 a,.int .i64 b,.int .i64 o,.int .i64 s]] w1 fun e0 w'=>e0=.returned (.tuple #[.int .i64 (sz1 (kn:Int)),.int .i64 (sz2 (kn:Int) (ln:Int) e),.int .i64 (sz3 (kn:Int) (ln:Int) a o s)])∧Below w1.heap.size w1 w':=fun w1=>by
  have h1:=ksz.sizes_any (kn:Int) (ln:Int) e t a b o s w1
  unfold szs at h1
  rw[if_pos h]at h1
  exact h1
 have hn1:((x.size:Int) != sz2 (kn:Int) (ln:Int) e)=false:=by rw[hx];simp
 have hsz:x.size=128+32*lb (e+e).toNat*ln+32*lb (e+e).toNat*kn+416*kn:=by
  rw[sz2,←le1]at hx
  have e1 : 32*((lb (e+e).toNat:Nat):Int)*((ln:Int)+(kn:Int))=((32*lb (e+e).toNat*ln+32*lb (e+e).toNat*kn:Nat):Int):=by push_cast;rw[Int.mul_add]
  omega
 have hbig:x.size≤100000:=by
  have a1 : 32*lb (e+e).toNat*ln≤128*8:=Nat.mul_le_mul (by omega) hl.2
  have a2 : 32*lb (e+e).toNat*kn≤128*8:=Nat.mul_le_mul (by omega) hk.2
  omega
 obtain⟨n1,en1⟩:∃ y,sz1 (kn:Int)=y:=⟨_,rfl⟩
 obtain⟨n2,en2⟩:∃ y,sz2 (kn:Int) (ln:Int) e=y:=⟨_,rfl⟩
 obtain⟨n3,en3⟩:∃ y,sz3 (kn:Int) (ln:Int) a o s=y:=⟨_,rfl⟩
 simp only[en1,en2,en3]at HS0 hn1
 unfold okK rkse.three
 obtain⟨Wd,hWd⟩:∃ y,lb (e+e).toNat=y:=⟨_,rfl⟩
 simp only[hWd]at hsz ⊢
 have hwl:∀ r,r<3→lb (lw e r+hg e r).toNat=wf Wd r:=fun r hr=>by
  rcases (show r=0∨r=1∨r=2 by omega) with rfl | rfl | rfl
  ·exact hWd
  ·exact hWd
  ·exact lb_low
 have hwb:∀ r,wf Wd r≤13:=fun r=>by unfold wf;split<;>omega
 have hmm:∀ r,1≤mm kn ln r∧mm kn ln r≤8:=fun r=>by unfold mm;split<;>omega
 have hP3:po kn ln Wd 3=x.size:=by rw[hsz];rfl
 have hPl:∀ r,r≤3→po kn ln Wd r≤x.size:=fun r hr=>by
  rw[hsz]
  unfold po
  split
  ·omega
  ·split
   ·omega
   ·split<;>omega
 have HSz:Away (∀ (r:Nat) (w1:World),r<3→Calls Tryz.prog 70 #[.int .i64 (lw e r+hg e r)] w1 fun x w'=>x=.returned (.int .i64 (32*(wf Wd r:Int)))∧w'=w1):=⟨fun r w1 hr=>size_any _ _ (by have:=lw_hg e r he;omega) (hwl r hr) (by have:=hwb r;omega) w1⟩
 have HD:Away (∀ (r gc:Nat) (w1:World),r<3→gc<w1.heap.size→w1.cell? ⟨gc,1,none⟩=some (.int .i64 (lw e r))→w1.cell? ⟨gc,2,none⟩=some (.int .i64 (hg e r)) →
  Calls Tryz.prog 73 #[.string (x.extract (po kn ln Wd r) (po kn ln Wd (r+1))),.int .i64 ((mm kn ln r:Nat):Int),.func (.func 162) #[] #[.pointer (some ⟨gc,0,none⟩)]] w1 fun y w'=>((okU x (po kn ln Wd r) (wf Wd r) (lw e r+hg e r) (mm kn ln r)∧∃ v,y=.returned (.tuple #[v,.int .i64 0])∧Holds w' w1.heap.size v (mm kn ln r) (rdS x (po kn ln Wd r) (wf Wd r) (hg e r)))∨(¬ okU x (po kn ln Wd r) (wf Wd r) (lw e r+hg e r) (mm kn ln r)∧y=.returned (.tuple #[.slice none 0 0,.int .i64 3])))∧Below w1.heap.size w1 w'):=⟨fun r gc w1 hr hg' hc1 hc2=>by
  have h6:=po_next kn ln Wd r hr
  have h7:=hPl (r+1) (by omega)
  rw[h6]
  exact dec_se gc x (po kn ln Wd r) (mm kn ln r) (wf Wd r) (lw e r) (hg e r) w1 (hmm r) (by unfold lw;split<;>omega) (by unfold hg;split<;>omega) (by unfold lw;split<;>omega) (by unfold hg;split<;>omega) (hwl r hr) (by omega) hg' hc1 hc2⟩
 have HStep:Away (∀ r,r<3→po kn ln Wd (r+1)=po kn ln Wd r+mm kn ln r*(32*wf Wd r)):=⟨fun r hr=>by rw[po_next kn ln Wd r hr,Nat.mul_comm (mm kn ln r)]⟩
 obtain⟨okr,hokr⟩:=ex_eq (fun r=>okU x (po kn ln Wd r) (wf Wd r) (lw e r+hg e r) (mm kn ln r))
 have hokr2:∀ r,okU x (po kn ln Wd r) (wf Wd r) (lw e r+hg e r) (mm kn ln r)=okr r:=fun r=>by rw[←hokr.out]
 obtain⟨qr,hqr⟩:=ex_eq (fun r=>rdS x (po kn ln Wd r) (wf Wd r) (hg e r))
 have hqr2:∀ r,rdS x (po kn ln Wd r) (wf Wd r) (hg e r)=qr r:=fun r=>by rw[←hqr.out]
 have q0:rdS x 128 Wd e=qr 0:=hqr2 0
 have q1:rdS x (128+32*Wd*ln) Wd e=qr 1:=hqr2 1
 have q2:rdS x (128+32*Wd*ln+32*Wd*kn) 13 4096=qr 2:=hqr2 2
 have o0:okU x 128 Wd (e+e) ln=okr 0:=hokr2 0
 have o1:okU x (128+32*Wd*ln) Wd (e+e) kn=okr 1:=hokr2 1
 have o2:okU x (128+32*Wd*ln+32*Wd*kn) 13 8191 kn=okr 2:=hokr2 2
 simp only[q0,q1,q2,o0,o1,o2]
 simp only[hokr2,hqr2]at HD
 have HIx:Away (∀ (r:Nat),r<3→∀ w1:World,(Instr.index 102 (.agg (lst (kn:Int) (ln:Int) e)) (.int .i64 (r:Int))).run Tryz.prog w1=.ok (.agg #[.int .i64 ((mm kn ln r:Nat):Int),.int .i64 (lw e r),.int .i64 (hg e r)]) w1):=⟨fun r hr w1=>by rw[←mn_mm];exact index_ls (kn:Int) (ln:Int) e r hr w1⟩
 have Hlo:Away (∀ r,IntKind.i64.wrap (lw e r+hg e r)=lw e r+hg e r):=⟨fun r=>by have:=lw_hg e r he;rw[IntKind.wrap_i64];omega⟩
 have Hm0:Away (mm kn ln 0=ln∧mm kn ln 1=kn∧mm kn ln 2=kn):=⟨rfl,rfl,rfl⟩
 have hP0:po kn ln Wd 0=128:=rfl
 have HC0:=Away.mk (fun w1=>kpu.cut_first x 128 w1 (by omega) (by omega))
 obtain⟨P,hP⟩:=ex_eq (po kn ln Wd)
 obtain⟨wd,hwd⟩:=ex_eq (wf Wd)
 obtain⟨lf,hlf⟩:=ex_eq (lw e)
 obtain⟨gf,hgf⟩:=ex_eq (hg e)
 obtain⟨Ls,hLs⟩:=ex_eq (lst (kn:Int) (ln:Int) e)
 obtain⟨mN,hmN⟩:=ex_eq (mm kn ln)
 simp only[hP.out,hwd.out,hlf.out,hgf.out,hLs.out,hmN.out]at HIx HD HL0 HSz Hlo HStep Hm0 hwb hmm hP3 hPl hP0
 have Hwb:=Away.mk hwb
 have Hmm:=Away.mk hmm
 have HPl:=Away.mk hPl
 have HP3:=Away.mk hP3
 have HP0:=Away.mk hP0
 have Hbig:=Away.mk hbig
 obtain⟨j0,hj,hy0,hy1,hy2⟩:=rbitb.parts qmat.infoSl
 have HJ:=Away.mk (And.intro hj (And.intro hy0 (And.intro hy1 hy2)))
 clear hj hy0 hy1 hy2
 obtain⟨C,HC⟩:=ex_eq (#[.int .i64 (kn:Int),.int .i64 (ln:Int),.int .i64 e,.int .i64 t,.int .i64 a,.int .i64 b,.int .i64 o,.int .i64 s]:Array Value)
 simp only[HC.out]at HR0 HL0 HS0 ⊢
 have HCs:Away ((Tryz.prog.info? 37).map (·.size)=some C.size):=⟨by rw[←HC.out];kernel_rfl⟩
 obtain⟨W,hW⟩:∃ x,w.alloc (.cells C 37)=x:=⟨_,rfl⟩
 obtain⟨r0,hWs,b0⟩:=one hW
 have CB:Away (∀ w':World,Below W.heap.size W w'→w'.heap[w.heap.size]? = some (.cells C 37 (0,0))):=⟨fun w' hb=>(hb.block _ (lt_of_row r0)).trans r0⟩
 have BW:=Away.mk b0
 have HW:=Away.mk hW
 have HR:=Away.mk HR0
 have HS:=Away.mk HS0
 have HL:=Away.mk HL0
 clear HR0 HS0 HL0 hW r0 hWs b0 h hx en1 en2 en3 hk hl he le1 le2 le3 hsz hbig hWd hwl hwb hmm hP3 hPl hP0 hokr hokr2 hqr hqr2 q0 q1 q2 o0 o1 o2 hP hwd hlf hgf hLs hmN
 go_enter Tryz.func124,Tryz.ntmps124
 go_wp2_with (first
  | (rw[HW.out])
  | (refine wpList_load_row rfl 37 _ rfl w.heap.size rfl 37 _ (0,0) _ (CB.out _ (Below.refl _ _)) Tryz.underlying37 rfl HCs.out ?_))
 refine(HR.out _).mono ?_
 rintro r u1 ⟨rfl,hb1⟩
 have E1:Away (Below W.heap.size W u1):=⟨hb1⟩
 clear hb1
 go_wp2_with (refine wpList_load_row rfl 37 _ rfl w.heap.size rfl 37 _ (0,0) _ (CB.out _ E1.out) Tryz.underlying37 rfl HCs.out ?_)
 refine(HS.out _).mono ?_
 rintro r u2 ⟨rfl,hb2⟩
 have E2:Away (Below W.heap.size W u2):=⟨E1.out.trans (hb2.mono E1.out.size)⟩
 clear hb2
 go_wp2_with (refine wpList_load_row rfl 37 _ rfl w.heap.size rfl 37 _ (0,0) _ (CB.out _ E2.out) Tryz.underlying37 rfl HCs.out ?_)
 refine(HL.out _).mono ?_
 rintro r u3 ⟨rfl,hb3⟩
 have E3:Away (Below W.heap.size W u3):=⟨E2.out.trans (hb3.mono E2.out.size)⟩
 clear hb3
 go_wp2_with fail
 go_loopw [32,11,10] (fun iv av lv wr=>∃ r:Nat,r≤3∧iv=.int .i64 (r:Int)∧av=.int .i64 ((P r:Nat):Int)∧Away (∀ i,i<r→okr i)∧Away (∃ vs,wr.ownsRow u3.heap.size 44 1 lv r vs∧Rowm wr lv.ownBlock vs mN qr)∧Away (Below u3.heap.size u3 wr)) (fun iv _ _ _=>3-(intOf iv).toNat)
 case atStart=>exact⟨0,by decide,rfl,by rw[HP0.out];rfl,⟨fun i hi=>by omega⟩,⟨[],⟨rfl,Or.inl ⟨rfl,rfl⟩⟩,fun i v h=>by simp at h⟩,⟨Below.refl _ _⟩⟩
 case round=>
  obtain⟨i,hi,rfl,rfl,Hok,HOv,Hb⟩:=hrel
  have BE:Away (Below W.heap.size W wr):=⟨E3.out.trans (Hb.out.mono E3.out.size)⟩
  by_cases hlt:i<3
  ·have hiz:(i:Int)<3:=by omega
   have hix:=HIx.out i hlt
   have f1:=Hlo.out i
   have hst:=HStep.out i hlt
   have hb1:=HPl.out (i+1) (by omega)
   have hb3:=Hmm.out i
   have hb4:=Hwb.out i
   have hbg:=Hbig.out
   have HSz':=HSz.out i
   have HDi:=HD.out i
   obtain⟨m,hm⟩:∃ m,mN i=m:=⟨_,rfl⟩
   obtain⟨lo,hlo⟩:=ex_eq (lf i)
   obtain⟨hi',hhi⟩:=ex_eq (gf i)
   rw[hm,hlo.out,hhi.out]at hix
   rw[hlo.out,hhi.out]at f1 HSz' HDi
   rw[hm]at hst hb3 HDi
   have HSz2:=Away.mk (fun w1=>HSz' w1 hlt)
   obtain⟨n,hn⟩:∃ n:Nat,32*wd i=n:=⟨_,rfl⟩
   have hnz : 32*((wd i:Nat):Int)=(n:Int):=by omega
   rw[hnz]at HSz2
   rw[hn]at hst
   obtain⟨p,hp⟩:∃ p,m*n=p:=⟨_,rfl⟩
   rw[hp]at hst
   obtain⟨s0,hs0⟩:∃ y,P i=y:=⟨_,rfl⟩
   obtain⟨s1,hs1⟩:∃ y,P (i+1)=y:=⟨_,rfl⟩
   rw[hs0,hs1]at HDi
   rw[hs0,hs1]at hst
   rw[hs1]at hb1
   rw[hs0]
   have f2:IntKind.i64.wrap ((m:Int)*(n:Int))=(p:Int):=by rw[show (m:Int)*(n:Int)=((m*n:Nat):Int) by push_cast;rfl,hp,IntKind.wrap_i64];omega
   have f5:IntKind.i64.wrap ((s0:Int)+(p:Int))=(s1:Int):=by rw[IntKind.wrap_i64];omega
   have hs01:s0≤s1:=by omega
   have hs1x:s1≤x.size:=hb1
   have hs1z:s1≤100000:=by omega
   obtain⟨X,hX⟩:=ex_eq (x.extract s0 s1)
   have hex:=hX.out
   rw[hX.out]at HDi
   have HDc:=Away.mk (fun gc w1=>HDi gc w1 hlt)
   have Hlt:=Away.mk hlt
   have Hs1:=Away.mk hs1
   have Hm:=Away.mk hm
   clear HSz' HDi hst hb1 hb3 hb4 hbg hn hnz hp hs0 hs1 hm hlt hX
   obtain⟨W4,hW4⟩:∃ x,wr.alloc (.cells #[.int .i64 (m:Int),.int .i64 lo,.int .i64 hi'] 101)=x:=⟨_,rfl⟩
   obtain⟨r4,hs4,b4⟩:=one hW4
   have d0:W4.cell? ⟨wr.heap.size,0,none⟩=some (.int .i64 (m:Int)):=cell_at r4 rfl
   have d1:W4.cell? ⟨wr.heap.size,1,none⟩=some (.int .i64 lo):=cell_at r4 rfl
   have d2:W4.cell? ⟨wr.heap.size,2,none⟩=some (.int .i64 hi'):=cell_at r4 rfl
   have B4:Away (Below u3.heap.size u3 W4):=⟨Hb.out.trans (b4.mono Hb.out.size)⟩
   have D4:Away (Below wr.heap.size wr W4):=⟨b4⟩
   have R4:=Away.mk r4
   have HW4:=Away.mk hW4
   clear r4 hs4 b4 hW4
   go_wp2_with (rw[HW4.out])
   refine still_all (by kernel_rfl) (by kernel_rfl) ?_
   repeat still_step
   still_call (HSz2.out _)
   repeat still_step
   refine wpStill_nil ?_
   clear d0 d1 d2
   go_wp2_with fail
   have KR:∀ w':World,Below W4.heap.size W4.drew w'→w'.heap[wr.heap.size]? = some (.cells #[.int .i64 (m:Int),.int .i64 lo,.int .i64 hi'] 101 (0,0)):=fun w' hb=>(hb.block _ (lt_of_row R4.out)).trans R4.out
   have KD:∀ w':World,Below W4.heap.size W4.drew w'→w'.cell? ⟨wr.heap.size,0,none⟩=some (.int .i64 (m:Int)):=fun w' hb=>cell_at (KR w' hb) rfl
   refine hk_begin (W4.heap.size) 13 [0,1,2,3,4,5,6,7,8,9,10,11,12] (by kernel_rfl) rfl rfl (by decide) (fun hS ops HO=>?_)
   simp only[List.filterMap_cons,List.filterMap_nil,List.getElem?_cons_succ,List.getElem?_cons_zero]
   iterate 5 ((focus (refine heldb.hk_t (v:=?_) (by rw[←HO.out];kernel_rfl) (fun _ _ _ h=>h) ?_ (hS) ?_;rotate_left;focus (intro w9 h9;go_simp;first | done | with_reducible rfl);all_goals skip));simp only[Act.put,heldb.pa,heldb.pb,heldb.pc])
   (focus (refine heldb.hk_t (v:=?_) (by rw[←HO.out];kernel_rfl) (fun _ _ _ h=>h) ?_ (hS) ?_;rotate_left;focus (intro w9 h9;have hc:=KD w9 h9;go_simp;first | done | with_reducible rfl);all_goals skip))
   simp only[Act.put,heldb.pa,heldb.pb,heldb.pc]
   (focus (refine heldb.hk_t (v:=?_) (by rw[←HO.out];kernel_rfl) (fun _ _ _ h=>h) ?_ (hS) ?_;rotate_left;focus (intro w9 h9;go_simp;first | done | with_reducible rfl);all_goals skip))
   simp only[Act.put,heldb.pa,heldb.pb,heldb.pc]
   refine heldb.hk_s (by rw[←HO.out];kernel_rfl) (fun K hK=>?_)
   go_simp
   have hr0:=KR _ hS
   refine(HDc.out _ _ (lt_of_row hr0) (cell_at hr0 rfl) (cell_at hr0 rfl)).mono ?_
   rintro r w9 ⟨hv,hb9⟩
   have h9:Below W4.heap.size W4.drew w9:=hS.trans (hb9.mono hS.size)
   have hsz4:W4.heap.size≤W4.drew.drew.heap.size:=hS.size
   clear hr0
   rcases hv with ⟨hok,v,rfl,hv⟩ | ⟨hok,rfl⟩
   ·obtain⟨gi,ci,e1,hgi⟩:=hd_any hv
    subst e1
    refine hK _ _ h9 ?_
    clear hK K
    try simp only[Act.put,heldb.pa,heldb.pb,heldb.pc]
    iterate 5 ((focus (refine heldb.hk_t (v:=?_) (by rw[←HO.out];kernel_rfl) (fun _ _ _ h=>h) ?_ (h9) ?_;rotate_left;focus (intro w9 h9;go_simp;first | done | with_reducible rfl);all_goals skip));simp only[Act.put,heldb.pa,heldb.pb,heldb.pc])
    refine hk_nil (by rw[←HO.out];kernel_rfl) ?_
    have F9:Away (Below W4.heap.size W4 w9):=⟨(drewn_below _ W4 1).trans h9⟩
    have E9:Away (Below u3.heap.size u3 w9):=⟨B4.out.trans (F9.out.mono B4.out.size)⟩
    have HH:Away (Holds w9 W4.heap.size (.slice (some ⟨gi,0,none⟩) m ci) m (qr i)):=⟨by obtain⟨g2,c2,q1,q2,q3⟩:=hv;exact⟨g2,c2,q1,Nat.le_trans hsz4 q2,q3⟩⟩
    have Hok2:Away (∀ j,j<i+1→okr j):=⟨fun j hj=>by
     by_cases e:j=i
     ·rw[e];exact hok
     ·exact Hok.out j (by omega)⟩
    have G9:Away (Below wr.heap.size wr w9):=⟨D4.out.trans (F9.out.mono D4.out.size)⟩
    clear hS HO hb9 h9 hv hok hgi KR KD hsz4
    obtain⟨vs,hov,hrv⟩:=HOv.out
    have hvl:vs.length=i:=by have:=hov.1;omega
    have hov2:Away (w9.ownsRow u3.heap.size 44 1 u10 i vs):=⟨own_later hov G9.out⟩
    have hrows:Away (Rowm w9 u10.ownBlock (vs ++ [.slice (some ⟨gi,0,none⟩) m ci]) mN qr):=⟨(hrv.later G9.out).snoc (by rw[hvl,Hm.out];exact HH.out) (fun k hk=>Nat.lt_of_lt_of_le (hov.lt k hk).2 D4.out.size)⟩
    have hws:u3.heap.size≤w9.heap.size:=E9.out.size
    have hio:=Hlt.out
    clear hov hrv
    go_wp2_with (at_builtin;refine wpList_append_own_at _ rfl _ _ 74 rfl u3.heap.size 44 j0 (.slice none 0 0) 1 24 Tryz.underlying74 HJ.out.1 HJ.out.2.1 HJ.out.2.2.1 HJ.out.2.2.2 rfl (by decide) _ _ _ rfl (hov2.out.alloc _) ⟨w9.heap.size,0,none⟩ 1 1 [.slice (some ⟨gi,0,none⟩) m ci] rfl rfl (fun j u hu=>qmat_cell_one _ _ _ j u hu) (fun u hu=>by rw[List.mem_singleton]at hu;subst hu;rfl) (by unfold maxLen;omega) (by omega) (by rw[size_alloc];omega) ?_)
    intro v' w8 hown' hgrow _ hblk
    have hb8:Below u3.heap.size w9 w8:=((Below.refl u3.heap.size w9).alloc hws _).grown hgrow (by rw[size_alloc];omega) (fun k hk=>(hov2.out.lt k hk).1)
    have B8:Away (Below u3.heap.size u3 w8):=⟨E9.out.trans hb8⟩
    have O8:Away (∃ vs,w8.ownsRow u3.heap.size 44 1 v' (i+1) vs∧Rowm w8 v'.ownBlock vs mN qr):=⟨_,hown',(hrows.out.later (below_alloc _ _)).grown hgrow (by rw[size_alloc];exact hblk)⟩
    clear hown' hgrow hb8 hblk hio
    go_wp2_with fail
    go_roundw
    case rel=>exact⟨i+1,by have:=Hlt.out;omega,by go_num,by rw[Hs1.out],Hok2,O8,B8⟩
    case measure=>have:=Hlt.out;simp[intOf];omega
   ·refine hK _ _ h9 ?_
    clear hK K
    try simp only[Act.put,heldb.pa,heldb.pb,heldb.pc]
    iterate 5 ((focus (refine heldb.hk_t (v:=?_) (by rw[←HO.out];kernel_rfl) (fun _ _ _ h=>h) ?_ (h9) ?_;rotate_left;focus (intro w9 h9;go_simp;first | done | with_reducible rfl);all_goals skip));simp only[Act.put,heldb.pa,heldb.pb,heldb.pc])
    refine hk_nil (by rw[←HO.out];kernel_rfl) ?_
    have F9:Away (Below W4.heap.size W4 w9):=⟨(drewn_below _ W4 1).trans h9⟩
    have E9:Away (Below W.heap.size W w9):=⟨E3.out.trans ((B4.out.trans (F9.out.mono B4.out.size)).mono E3.out.size)⟩
    have Hno:Away (¬ (okr 0∧okr 1∧okr 2)):=⟨fun q=>hok (by
     rcases (show i=0∨i=1∨i=2 by have:=Hlt.out;omega) with rfl | rfl | rfl
     ·exact q.1
     ·exact q.2.1
     ·exact q.2.2)⟩
    clear hS HO hb9 h9 hok KR KD hsz4
    go_wp2_with fail
    go_ret3
    exact⟨Or.inr ⟨Hno.out,rfl⟩,BW.out.trans (E9.out.mono BW.out.size)⟩
  ·obtain rfl:i=3:=by omega
   simp only[Int.cast_ofNat_Int]
   obtain⟨vs,hov,hrv⟩:=HOv.out
   have hvl:vs.length=3:=by have:=hov.1;omega
   obtain⟨g,c,e1⟩:=rbitd.owns_some (by decide) hov
   subst e1
   have HT:Away (∀ w':World,Below wr.heap.size wr w'→∃ g1 c1 v1 v2 v3,Value.slice (some ⟨g,0,none⟩) 3 c=.slice (some ⟨g1,0,none⟩) 3 c1∧g1<w'.heap.size∧w'.cell? ⟨g1,0,none⟩=some v1∧w'.cell? ⟨g1,1,none⟩=some v2∧w'.cell? ⟨g1,2,none⟩=some v3∧Holds w' 0 v1 ln (qr 0)∧Holds w' 0 v2 kn (qr 1)∧Holds w' 0 v3 kn (qr 2)):=⟨fun w' hb=>by
    have hgl:=(hov.lt g rfl).2
    have hh:∀ j,j<3→∃ v,w'.cell? ⟨g,j,none⟩=some v∧Holds w' 0 v (mN j) (qr j):=fun j hj=>by
     have hv:vs[j]? = some vs[j]:=List.getElem?_eq_getElem (by omega)
     obtain⟨g2,c2,e2,q1,-,q3⟩:=hrv j _ hv
     refine⟨vs[j],(hb.cell (p:=⟨g,j,none⟩) hgl).trans ((hov.cellAt j (by omega)).trans hv),g2,c2,e2,Nat.zero_le _,Nat.lt_of_lt_of_le q1 hb.size,fun s hs k hk=>(hb.cell (p:=⟨g2,256*s+k,none⟩) q1).trans (q3 s hs k hk)⟩
    obtain⟨v1,c1,H1⟩:=hh 0 (by decide)
    obtain⟨v2,c2,H2⟩:=hh 1 (by decide)
    obtain⟨v3,c3,H3⟩:=hh 2 (by decide)
    obtain⟨m0,m1,m2⟩:=Hm0.out
    rw[m0]at H1
    rw[m1]at H2
    rw[m2]at H3
    exact⟨g,c,v1,v2,v3,rfl,Nat.lt_of_lt_of_le hgl hb.size,c1,c2,c3,H1,H2,H3⟩⟩
   clear hov hrv
   go_wp2_with fail
   refine(HC0.out _).mono ?_
   rintro r w5 ⟨rfl,hb5⟩
   have B5:Away (Below wr.heap.size wr w5):=⟨hb5⟩
   clear hb5
   go_wp2_with fail
   go_ret3
   exact⟨Or.inl ⟨⟨Hok.out 0 (by decide),Hok.out 1 (by decide),Hok.out 2 (by decide)⟩,_,rfl,HT.out _ B5.out⟩,BW.out.trans ((BE.out.trans (B5.out.mono BE.out.size)).mono BW.out.size)⟩
end kse
namespace kpr
set_option linter.unusedSimpArgs false
open Go Go.RowKit
open arr mem stil polys polt pols rbita rbitb rbitd rbite rbitf rbitg bitp saml lsl11 helda qrow mlkm mlkb rkpb rksb rkrw
open rndm (latt)
open samr samc rsdoc keca kstep kturn spok mlkd
theorem pair_any {T:Array Value} (Z:Nat→Int) (kn ln:Nat) (e t a b o s:Int) (sd:ByteArray) (w:World) (hK:KT T TL RL) (hP:Gp w) (hT:nthere.ZT T Z) (h:latt (kn:Int) (ln:Int) e t a b o s=true) (hsd:sd.size=32):
 Calls Tryz.prog 18 #[.agg T,.agg #[.int .i64 (kn:Int),.int .i64 (ln:Int),.int .i64 e,.int .i64 t,.int .i64 a,.int .i64 b,.int .i64 o,.int .i64 s],.string sd] w fun x w'=>x=.returned (.tuple #[.string (pPk (fun k=>Z k%8380417) sd kn ln e),.string (pSk (fun k=>Z k%8380417) sd kn ln e),.int .i64 0])∧Below w.heap.size w w':=by
 obtain⟨hk,hl,-,he,-⟩:=latt_of h
 have hk : 1≤kn∧kn≤8:=by omega
 have hl : 1≤ln∧ln≤8:=by omega
 have HR0:∀ w1:World,Calls Tryz.prog 49 #[.agg #[.int .i64 (kn:Int),.int .i64 (ln:Int),.int .i64 e,.int .i64 t,.int .i64 a,.int .i64 b,.int .i64 o,.int .i64 s]] w1 fun e0 w'=>e0=.returned (.bool true)∧Below w1.heap.size w1 w':=fun w1=>by rw[←h];exact rright.right_any _ _ e t a b o s w1
 have HSe0:∀ w1:World,Gp w1→Calls Tryz.prog 63 #[.agg T,.agg #[.int .i64 (kn:Int),.int .i64 (ln:Int),.int .i64 e,.int .i64 t,.int .i64 a,.int .i64 b,.int .i64 o,.int .i64 s],.string (pSig sd kn ln)] w1 fun x w'=>(∃ v1 v2,x=.returned (.tuple #[v1,v2])∧Holds w' w1.heap.size v1 ln (qS (pSig sd kn ln) e)∧Holds w' w1.heap.size v2 kn (fun i=>qS (pSig sd kn ln) e (ln+i)))∧Below w1.heap.size w1 w':=fun w1 hg=>qdoc.secrets kn ln e t a b o s _ w1 hK hg h (by rw[pSig_size];decide)
 have HMa0:∀ w1:World,Gp w1→Calls Tryz.prog 33 #[.agg T,.agg #[.int .i64 (kn:Int),.int .i64 (ln:Int),.int .i64 e,.int .i64 t,.int .i64 a,.int .i64 b,.int .i64 o,.int .i64 s],.string (pRho sd kn ln)] w1 fun x w'=>(∃ v,x=.returned v∧MX w' v kn (fun _=>ln) (qX (pRho sd kn ln)))∧Below w1.heap.size w1 w':=fun w1 hg=>by
  refine(qdoc.matrix kn ln e t a b o s _ w1 hK hg h (by rw[pRho_size];decide)).mono ?_
  rintro x w' ⟨⟨v,vs,rfl,h1,h2⟩,hb⟩
  exact⟨⟨v,rfl,mx_of hk.1 h1 h2⟩,hb⟩
 obtain⟨ζ,hζ⟩:=ex_eq (fun k=>Z k%8380417)
 have HRw0:∀ (w1:World) (v vv:Value) (B:Nat),MX w1 v kn (fun _=>ln) (qX (pRho sd kn ln))→Holds w1 B vv ln (qS (pSig sd kn ln) e)→Calls Tryz.prog 32 #[.agg T,v,vv] w1 fun e' w'=>(∃ v',e'=.returned v'∧Holds w' w1.heap.size v' kn (fun r=>rowv ζ (qX (pRho sd kn ln) r) (qS (pSig sd kn ln) e) ln))∧Below w1.heap.size w1 w':=fun w1 v vv B h1 h2=>by
  have h3:=krw.rows_any T Z kn ln (fun _=>ln) (qX (pRho sd kn ln)) (qS (pSig sd kn ln) e) v vv B w1 hK.size hT hk (fun _ _=>hl.2) hl h1 h2
  simp only[Nat.min_self,hζ.out]at h3
  exact h3
 have HSp0:∀ (w1:World) (v vb:Value) (B B':Nat),Holds w1 B v kn (fun r=>rowv ζ (qX (pRho sd kn ln) r) (qS (pSig sd kn ln) e) ln)→Holds w1 B' vb kn (fun i=>qS (pSig sd kn ln) e (ln+i))→Calls Tryz.prog 64 #[v,vb] w1 fun x w'=>(∃ v1 v2,x=.returned (.tuple #[v1,v2])∧Holds w' w1.heap.size v1 kn (pHi ζ sd kn ln e)∧Holds w' w1.heap.size v2 kn (pLo ζ sd kn ln e))∧Below w1.heap.size w1 w':=fun w1 v vb B B' h1 h2=>ksp.split_any kn v vb B B' _ _ w1 hk h1 h2
 have HPb0:∀ (w1:World) (v:Value) (B:Nat),Holds w1 B v kn (pHi ζ sd kn ln e)→Calls Tryz.prog 65 #[.agg #[.int .i64 (kn:Int),.int .i64 (ln:Int),.int .i64 e,.int .i64 t,.int .i64 a,.int .i64 b,.int .i64 o,.int .i64 s],.string (pRho sd kn ln),v] w1 fun x w'=>x=.returned (.tuple #[.string (pPk ζ sd kn ln e),.int .i64 0])∧Below w1.heap.size w1 w':=fun w1 v B hv=>by
  have h1:=kpb.pb_any kn ln e t a b o s (pRho sd kn ln) v B _ w1 h (pRho_size _ _ _) hv
  unfold resP at h1
  rw[if_pos (show okP (pHi ζ sd kn ln e) 1023 kn from fun i _=>pHi_in ζ sd kn ln e i)]at h1
  exact h1
 have HSb0:∀ (w1:World) (va vb vl:Value) (Ba Bb Bl:Nat),Holds w1 Ba va ln (qS (pSig sd kn ln) e)→Holds w1 Bb vb kn (fun i=>qS (pSig sd kn ln) e (ln+i))→Holds w1 Bl vl kn (pLo ζ sd kn ln e)→Calls Tryz.prog 66 #[.agg #[.int .i64 (kn:Int),.int .i64 (ln:Int),.int .i64 e,.int .i64 t,.int .i64 a,.int .i64 b,.int .i64 o,.int .i64 s],.string (pRho sd kn ln++pKey sd kn ln++pTr ζ sd kn ln e),va,vb,vl] w1 fun x w'=>x=.returned (.tuple #[.string (pSk ζ sd kn ln e),.int .i64 0])∧Below w1.heap.size w1 w':=fun w1 va vb vl Ba Bb Bl h1 h2 h3=>by
  have h4:=ksb.sb_any kn ln e t a b o s (pHead ζ sd kn ln e) va vb vl Ba Bb Bl _ _ _ w1 h (pHead_size _ _ _ _ _) h1 h2 h3
  unfold resK at h4
  rw[if_pos ⟨fun i _=>qS_in _ e he i,fun i _=>qS_in _ e he (ln+i),fun i _=>pLo_in ζ sd kn ln e i⟩]at h4
  exact h4
 have HS10:∀ w1:World,Gp w1→w1.heap[w.heap.size]? = some (.cells T 34 (0,0))→Calls Tryz.prog 62 #[.pointer (some ⟨w.heap.size,0,none⟩),.string (tw sd kn ln),.int .i64 128] w1 fun x w'=>x=.returned (.string (pS sd kn ln))∧Below w1.heap.size w1 w':=fun w1 hg hr=>ksh.shake_any w.heap.size _ 128 w1 hK hg hr (by decide) (by rw[tw_size];omega)
 have HS20:∀ w1:World,Gp w1→w1.heap[w.heap.size]? = some (.cells T 34 (0,0))→Calls Tryz.prog 62 #[.pointer (some ⟨w.heap.size,0,none⟩),.string (pPk ζ sd kn ln e),.int .i64 64] w1 fun x w'=>x=.returned (.string (pTr ζ sd kn ln e))∧Below w1.heap.size w1 w':=fun w1 hg hr=>ksh.shake_any w.heap.size _ 64 w1 hK hg hr (by decide) (by rw[pPk_size];omega)
 rw[hζ.out]
 have HTz:Away ((Tryz.prog.info? 34).map (·.size)=some T.size):=⟨infoT T hK⟩
 have HP:=Away.mk hP
 obtain⟨ρS,hρS⟩:=ex_eq (pS sd kn ln)
 obtain⟨ρR,hρR⟩:=ex_eq (pRho sd kn ln)
 obtain⟨ρK,hρK⟩:=ex_eq (pKey sd kn ln)
 obtain⟨ρG,hρG⟩:=ex_eq (pSig sd kn ln)
 obtain⟨PK,hPK⟩:=ex_eq (pPk ζ sd kn ln e)
 obtain⟨SK,hSK⟩:=ex_eq (pSk ζ sd kn ln e)
 obtain⟨TR,hTR⟩:=ex_eq (pTr ζ sd kn ln e)
 obtain⟨A,hA⟩:=ex_eq (qS (pSig sd kn ln) e)
 obtain⟨Bq,hBq⟩:=ex_eq (fun i=>qS (pSig sd kn ln) e (ln+i))
 obtain⟨Y,hY⟩:=ex_eq (fun r=>rowv ζ (qX (pRho sd kn ln) r) (qS (pSig sd kn ln) e) ln)
 obtain⟨X,hX⟩:=ex_eq (qX (pRho sd kn ln))
 obtain⟨hi,hhi⟩:=ex_eq (pHi ζ sd kn ln e)
 obtain⟨lo,hlo⟩:=ex_eq (pLo ζ sd kn ln e)
 have sS : ρS.size=128:=by rw[←hρS.out];exact pS_size _ _ _
 have sR : ρR.size=32:=by rw[←hρR.out];exact pRho_size _ _ _
 have sK : ρK.size=32:=by rw[←hρK.out];exact pKey_size _ _ _
 have sT:TR.size=64:=by rw[←hTR.out];exact pTr_size _ _ _ _ _
 have eR : ρS.extract 0 32 = ρR:=by rw[←hρS.out,←hρR.out];rfl
 have eG : ρS.extract 32 96 = ρG:=by rw[←hρS.out,←hρG.out];rfl
 have eK : ρS.extract 96 128 = ρK:=by rw[←hρS.out,←hρK.out];rfl
 simp only[hBq.out]at HSe0 HSb0 HSp0
 simp only[hY.out]at HRw0 HSp0
 simp only[hX.out]at HMa0 HRw0
 simp only[hρS.out,hρR.out,hρK.out,hρG.out,hPK.out,hSK.out,hTR.out,hhi.out,hlo.out]at HS10 HS20 HSe0 HMa0 HRw0 HPb0 HSb0 HSp0 hA ⊢
 simp only[hA.out]at HSe0 HRw0 HSb0
 have HeR:=Away.mk eR
 have HeG:=Away.mk eG
 have HeK:=Away.mk eK
 have Hk:=Away.mk hk
 have Hl:=Away.mk hl
 clear hρS hρR hρK hρG hPK hSK hTR hA hBq hX hhi hlo hY hζ hT hK h he hk hl eR eG eK hP
 obtain⟨C,HC⟩:=ex_eq (#[.int .i64 (kn:Int),.int .i64 (ln:Int),.int .i64 e,.int .i64 t,.int .i64 a,.int .i64 b,.int .i64 o,.int .i64 s]:Array Value)
 simp only[HC.out]at HR0 HSe0 HMa0 HPb0 HSb0 ⊢
 have HCs:Away ((Tryz.prog.info? 37).map (·.size)=some C.size):=⟨by rw[←HC.out];kernel_rfl⟩
 obtain⟨W,hW⟩:∃ x,(w.alloc (.cells T 34)).alloc (.cells C 37)=x:=⟨_,rfl⟩
 obtain⟨r0,r1,hWs,b0⟩:=two hW
 have TB:Away (∀ w':World,Below W.heap.size W w'→w'.heap[w.heap.size]? = some (.cells T 34 (0,0))):=⟨fun w' hb=>(hb.block _ (by rw[hWs];omega)).trans r0⟩
 have CB:Away (∀ w':World,Below W.heap.size W w'→w'.heap[w.heap.size+1]? = some (.cells C 37 (0,0))):=⟨fun w' hb=>(hb.block _ (by rw[hWs];omega)).trans r1⟩
 have BW:=Away.mk b0
 have HW:=Away.mk hW
 have HR:=Away.mk HR0
 have HS1:=Away.mk HS10
 have HS2:=Away.mk HS20
 have HSe:=Away.mk HSe0
 have HMa:=Away.mk HMa0
 have HRw:=Away.mk HRw0
 have HSp:=Away.mk HSp0
 have HPb:=Away.mk HPb0
 have HSb:=Away.mk HSb0
 have GP:Away (∀ w':World,Below W.heap.size W w'→Gp w'):=⟨fun w' hb=>HP.out.later (BW.out.trans (hb.mono BW.out.size))⟩
 have hsz:(sd.size:Int)=32:=by omega
 have hsR:(ρR.size:Int)=32:=by omega
 have hsdz:=hsd
 clear HR0 HS10 HS20 HSe0 HMa0 HRw0 HSp0 HPb0 HSb0 hW r0 r1 hWs b0 hsd
 go_enter Tryz.func18,Tryz.ntmps18
 go_wp2_with (first
  | (rw[HW.out])
  | (refine wpList_load_row rfl 37 _ rfl (w.heap.size+1) rfl 37 _ (0,0) _ (CB.out _ (Below.refl _ _)) Tryz.underlying37 rfl HCs.out ?_))
 refine(HR.out _).mono ?_
 rintro x u1 ⟨rfl,hb1⟩
 have E1:Away (Below W.heap.size W u1):=⟨hb1⟩
 have cK:u1.cell? ⟨w.heap.size+1,0,none⟩=some (.int .i64 (kn:Int)):=cell_at (CB.out _ hb1) (by rw[←HC.out];rfl)
 have cL:u1.cell? ⟨w.heap.size+1,1,none⟩=some (.int .i64 (ln:Int)):=cell_at (CB.out _ hb1) (by rw[←HC.out];rfl)
 have f8k:IntKind.u8.wrap (kn:Int)=(kn:Int):=by rw[IntKind.wrap_u8];have:=Hk.out;omega
 have f8l:IntKind.u8.wrap (ln:Int)=(ln:Int):=by rw[IntKind.wrap_u8];have:=Hl.out;omega
 obtain⟨W2,hW2⟩:∃ x,u1.alloc (.cells #[.int .u8 (kn:Int),.int .u8 (ln:Int)] 5)=x:=⟨_,rfl⟩
 obtain⟨r2,hs2,b2⟩:=one hW2
 have hcv:=conv_lk (t:=5) (l:=[kn,ln]) (cap:=2) (n:=2) rfl (by have:=Hk.out;have:=Hl.out;simp;omega) r2
 obtain⟨XX,hXX⟩:∃ X:ByteArray,⟨(u8s [kn,ln]).toArray⟩=X:=⟨_,rfl⟩
 have hXs:XX.size=2:=by rw[←hXX];rfl
 have hcat:sd++XX=tw sd kn ln:=by rw[←hXX];rfl
 rw[hXX]at hcv
 have E2:Away (Below W.heap.size W W2):=⟨hb1.trans (b2.mono hb1.size)⟩
 have HW2:=Away.mk hW2
 have HS1a:=HS1.out W2 (GP.out _ E2.out) (TB.out _ E2.out)
 rw[←hcat]at HS1a
 have HS1b:=Away.mk HS1a
 clear hXX hcat r2 hs2 b2 hW2 hb1 HS1a
 go_wp2_with (rw[HW2.out])
 refine HS1b.out.mono ?_
 rintro x w3 ⟨rfl,hb3⟩
 have E3:Away (Below W.heap.size W w3):=⟨E2.out.trans (hb3.mono E2.out.size)⟩
 clear HS1b hb3 hcv cK cL hXs
 have hsSz:(ρS.size:Int)=128:=by omega
 have hsSn : ρS.size=128:=sS
 have e0:=HeR.out
 have e1:=HeG.out
 have e2:=HeK.out
 go_wp2_with fail
 refine still_all (by kernel_rfl) (by kernel_rfl) ?_
 repeat still_step
 refine wpStill_nil ?_
 clear e0 e1 e2
 have E4:Away (Below W.heap.size W w3.drew):=⟨E3.out.drew⟩
 go_wp2_with (first
  | (refine wpList_load_row rfl 34 _ rfl w.heap.size rfl 34 T (0,0) _ (TB.out _ E4.out) Tryz.underlying34 rfl HTz.out ?_)
  | (refine wpList_load_row rfl 37 _ rfl (w.heap.size+1) rfl 37 _ (0,0) _ (CB.out _ E4.out) Tryz.underlying37 rfl HCs.out ?_))
 refine(HSe.out _ (GP.out _ E4.out)).mono ?_
 rintro x w5 ⟨⟨va,vb,rfl,ha,hb⟩,hb5⟩
 have E5:Away (Below W.heap.size W w5):=⟨E4.out.trans (hb5.mono E4.out.size)⟩
 have Ba:=Away.mk ha
 have Bb:=Away.mk hb
 obtain⟨B1,hB1⟩:∃ x,w3.drew.heap.size=x:=⟨_,rfl⟩
 rw[hB1]at Ba Bb
 clear hb5 ha hb hB1
 go_wp2_with fail
 have KT5:Away (∀ w':World,Below w5.heap.size w5 w'→w'.heap[w.heap.size]? = some (.cells T 34 (0,0))):=⟨fun w' hb=>TB.out w' (E5.out.trans (hb.mono E5.out.size))⟩
 have KC5:Away (∀ w':World,Below w5.heap.size w5 w'→w'.heap[w.heap.size+1]? = some (.cells C 37 (0,0))):=⟨fun w' hb=>CB.out w' (E5.out.trans (hb.mono E5.out.size))⟩
 refine hk_begin (w5.heap.size) 14 [0,1,2,3,5,7,4,6,8,9,10,11,12,13] (by kernel_rfl) rfl rfl (by decide) (fun hS ops HO=>?_)
 simp only[List.filterMap_cons,List.filterMap_nil,List.getElem?_cons_succ,List.getElem?_cons_zero]
 iterate 2 (refine heldb.hk_l (by rw[←HO.out];kernel_rfl) (fun _ _ _ _ h=>h) 34 _ rfl (w.heap.size) rfl 34 T _ KT5.out Tryz.underlying34 rfl HTz.out (hS) ?_;simp only[Act.put,heldb.pa,heldb.pb,heldb.pc])
 refine heldb.hk_l (by rw[←HO.out];kernel_rfl) (fun _ _ _ _ h=>h) 37 _ rfl (w.heap.size+1) rfl 37 C _ KC5.out Tryz.underlying37 rfl HCs.out (hS) ?_
 iterate 3 (simp only[Act.put,heldb.pa,heldb.pb,heldb.pc];(focus (refine heldb.hk_t (v:=?_) (by rw[←HO.out];kernel_rfl) (fun _ _ _ h=>h) ?_ (hS) ?_;rotate_left;focus (intro w9 h9;go_simp;first | done | with_reducible rfl);all_goals skip)))
 simp only[Act.put,heldb.pa,heldb.pb,heldb.pc]
 refine heldb.hk_s (by rw[←HO.out];kernel_rfl) (fun K hK=>?_)
 go_simp
 refine(HMa.out _ (GP.out _ (E5.out.trans (hS.mono E5.out.size)))).mono ?_
 rintro x w6 ⟨⟨vm,rfl,hm⟩,hb6⟩
 have h6:Below w5.heap.size w5 w6:=hS.trans (hb6.mono hS.size)
 refine hK _ _ h6 ?_
 clear hK K
 try simp only[Act.put,heldb.pa,heldb.pb,heldb.pc]
 refine heldb.hk_s (by rw[←HO.out];kernel_rfl) (fun K hK=>?_)
 go_simp
 refine(HRw.out _ _ _ _ hm (Ba.out.later h6)).mono ?_
 rintro x w7 ⟨⟨vr,rfl,hr⟩,hb7⟩
 have h7:Below w5.heap.size w5 w7:=h6.trans (hb7.mono h6.size)
 refine hK _ _ h7 ?_
 clear hK K
 try simp only[Act.put,heldb.pa,heldb.pb,heldb.pc]
 refine heldb.hk_s (by rw[←HO.out];kernel_rfl) (fun K hK=>?_)
 go_simp
 refine(HSp.out _ _ _ _ _ hr (Bb.out.later h7)).mono ?_
 rintro x w8 ⟨⟨vh,vl,rfl,hh,hl⟩,hb8⟩
 have h8:Below w5.heap.size w5 w8:=h7.trans (hb8.mono h7.size)
 refine hK _ _ h8 ?_
 clear hK K
 try simp only[Act.put,heldb.pa,heldb.pb,heldb.pc]
 iterate 5 ((focus (refine heldb.hk_t (v:=?_) (by rw[←HO.out];kernel_rfl) (fun _ _ _ h=>h) ?_ (h8) ?_;rotate_left;focus (intro w9 h9;go_simp;first | done | with_reducible rfl);all_goals skip));simp only[Act.put,heldb.pa,heldb.pb,heldb.pc])
 refine hk_nil (by rw[←HO.out];kernel_rfl) ?_
 have E8:Away (Below W.heap.size W w8):=⟨E5.out.trans (h8.mono E5.out.size)⟩
 have Bh:=Away.mk hh
 have Bl:=Away.mk hl
 have Ba8:=Away.mk (Ba.out.later h8)
 have Bb8:=Away.mk (Bb.out.later h8)
 clear hS HO hb6 h6 hm hb7 h7 hr hb8 h8 hh hl KT5 KC5 Ba Bb
 go_wp2_with (refine wpList_load_row rfl 37 _ rfl (w.heap.size+1) rfl 37 _ (0,0) _ (CB.out _ E8.out) Tryz.underlying37 rfl HCs.out ?_)
 refine(HPb.out _ _ _ Bh.out).mono ?_
 rintro x w9 ⟨rfl,hb9⟩
 have E9:Away (Below W.heap.size W w9):=⟨E8.out.trans (hb9.mono E8.out.size)⟩
 have Ba9:=Away.mk (Ba8.out.later hb9)
 have Bb9:=Away.mk (Bb8.out.later hb9)
 have Bl9:=Away.mk (Bl.out.later hb9)
 clear hb9 Bh Ba8 Bb8 Bl
 go_wp2_with fail
 have KC9:Away (∀ w':World,Below w9.heap.size w9 w'→w'.heap[w.heap.size+1]? = some (.cells C 37 (0,0))):=⟨fun w' hb=>CB.out w' (E9.out.trans (hb.mono E9.out.size))⟩
 have z1:¬ 9223372036854775807 < ρR.size + ρK.size:=by omega
 have z2:(ρR ++ ρK).size=64:=by rw[ByteArray.size_append];omega
 obtain⟨RK,hRK⟩:∃ y,ρR ++ ρK=y:=⟨_,rfl⟩
 rw[hRK]at z2
 have z3:¬ 9223372036854775807<RK.size+TR.size:=by omega
 have hRK2 : ρR ++ ρK++TR=RK++TR:=by rw[hRK]
 have HRK2:=Away.mk hRK2
 clear hRK2
 refine hk_begin (w9.heap.size) 16 [0,1,2,3,4,7,8,9,5,6,10,11,12,13,14,15] (by kernel_rfl) rfl rfl (by decide) (fun hS ops HO=>?_)
 simp only[List.filterMap_cons,List.filterMap_nil,List.getElem?_cons_succ,List.getElem?_cons_zero]
 refine heldb.hk_l (by rw[←HO.out];kernel_rfl) (fun _ _ _ _ h=>h) 37 _ rfl (w.heap.size+1) rfl 37 C _ KC9.out Tryz.underlying37 rfl HCs.out (hS) ?_
 iterate 7 (simp only[Act.put,heldb.pa,heldb.pb,heldb.pc];(focus (refine heldb.hk_t (v:=?_) (by rw[←HO.out];kernel_rfl) (fun _ _ _ h=>h) ?_ (hS) ?_;rotate_left;focus (intro w9 h9;go_simp;first | done | with_reducible rfl);all_goals skip)))
 simp only[Act.put,heldb.pa,heldb.pb,heldb.pc]
 refine heldb.hk_s (by rw[←HO.out];kernel_rfl) (fun K hK=>?_)
 go_simp
 have b5:=E9.out.trans (hS.mono E9.out.size)
 refine(HS2.out _ (GP.out _ b5) (TB.out _ b5)).mono ?_
 rintro x w10 ⟨rfl,hb10⟩
 have h10:Below w9.heap.size w9 w10:=hS.trans (hb10.mono hS.size)
 refine hK _ _ h10 ?_
 clear hK K b5
 try simp only[Act.put,heldb.pa,heldb.pb,heldb.pc]
 (focus (refine heldb.hk_t (v:=?_) (by rw[←HO.out];kernel_rfl) (fun _ _ _ h=>h) ?_ (h10) ?_;rotate_left;focus (intro w9 h9;go_simp;first | done | with_reducible rfl);all_goals skip))
 simp only[Act.put,heldb.pa,heldb.pb,heldb.pc]
 refine heldb.hk_s (by rw[←HO.out];kernel_rfl) (fun K hK=>?_)
 go_simp
 have hcl:=HSb.out _ _ _ _ _ _ _ (Ba9.out.later h10) (Bb9.out.later h10) (Bl9.out.later h10)
 rw[HRK2.out]at hcl
 refine hcl.mono ?_
 clear hcl
 rintro x w11 ⟨rfl,hb11⟩
 have h11:Below w9.heap.size w9 w11:=h10.trans (hb11.mono h10.size)
 refine hK _ _ h11 ?_
 clear hK K
 try simp only[Act.put,heldb.pa,heldb.pb,heldb.pc]
 iterate 5 ((focus (refine heldb.hk_t (v:=?_) (by rw[←HO.out];kernel_rfl) (fun _ _ _ h=>h) ?_ (h11) ?_;rotate_left;focus (intro w9 h9;go_simp;first | done | with_reducible rfl);all_goals skip));simp only[Act.put,heldb.pa,heldb.pb,heldb.pc])
 refine hk_nil (by rw[←HO.out];kernel_rfl) ?_
 have E11:Away (Below W.heap.size W w11):=⟨E9.out.trans (h11.mono E9.out.size)⟩
 clear hS HO hb10 h10 hb11 h11 KC9
 go_wp2_with fail
 go_ret3
 exact⟨rfl,BW.out.trans (E11.out.mono BW.out.size)⟩
end kpr
end Go.Proofs.YtomphjajkkddkaaGreatDoor
namespace Go.Proofs.YtomphjajkkddkaaGreatDoor
namespace pinc
open Go Go.RowKit
open arr mem stil rbitc
def incs (s:ByteArray):Prop:=∀ k,k<s.size→0<k→(bys s).getD (k-1) 0<(bys s).getD k 0
instance (s:ByteArray):Decidable (incs s):=by unfold incs;exact inferInstance
theorem byte_lt (s:ByteArray) (k:Nat):(bys s).getD k 0<256:=by
 by_cases hj:k<(bys s).length
 ·rw[List.getD_eq_getElem?_getD,List.getElem?_eq_getElem hj]
  exact bys_lt s _ (List.getElem_mem hj)
 ·rw[List.getD_eq_getElem?_getD,List.getElem?_eq_none (by omega)]
  decide
theorem inc_any (s:ByteArray) (n:Nat) (hn:s.size=n) (hs:n<4294967296) (w:World):Calls Tryz.prog 105 #[.string s] w fun e w'=>e=.returned (.bool (decide (incs s)))∧Below w.heap.size w w':=by
 obtain⟨V,HV⟩:=ex_eq (decide (incs s))
 rw[HV.out]
 have Hix:Away (∀ j,j<n→∀ w1:World,(Instr.index 9 (.string s) (.int .i64 (j:Int))).run Tryz.prog w1=.ok (.int .u8 (((bys s).getD j 0:Nat):Int)) w1):=⟨fun j hj w1=>byte_of s j _ (by omega) rfl w1⟩
 have Hsz:=Away.mk hn
 go_enter Tryz.func105,Tryz.ntmps105
 go_wp2_with fail
 go_loopw [3] (fun v wr=>∃ k:Nat,1≤k∧(k≤n∨k=1)∧v=.int .i64 (k:Int)∧Away (∀ j,j<k→j<n→0<j→(bys s).getD (j-1) 0<(bys s).getD j 0)∧Away (Below w.heap.size w wr)) (fun v _=>n+1-(intOf v).toNat)
 case atStart=>exact⟨1,Nat.le_refl _,Or.inr rfl,rfl,⟨fun j h1 _ h2=>by omega⟩,⟨Below.refl _ _⟩⟩
 case round=>
  obtain⟨k,hk1,hkn,rfl,Hin,Hb⟩:=hrel
  by_cases hlt:k<n
  ·have hkz:(k:Int)<(n:Int):=by omega
   have hkz2:(k:Int)<(s.size:Int):=by omega
   have i1:=Hix.out k hlt
   have i2:=Hix.out (k-1) (by omega)
   obtain⟨k1,hk⟩:∃ k1,k-1=k1:=⟨_,rfl⟩
   rw[hk]at i2
   have fk1:IntKind.i64.wrap ((k:Int)-1)=(k1:Int):=by rw[IntKind.wrap_i64];omega
   obtain⟨a,ha⟩:∃ a,(bys s).getD k1 0=a:=⟨_,rfl⟩
   obtain⟨b,hb⟩:∃ b,(bys s).getD k 0=b:=⟨_,rfl⟩
   rw[hb]at i1
   rw[ha]at i2
   have BD:Away (Below w.heap.size w wr.drew):=⟨Hb.out.drew⟩
   by_cases hab:b≤a
   ·have hV:Away (V=false):=⟨by
     rw[←HV.out]
     refine decide_eq_false fun h=>?_
     have:=h k (by rw[hn];exact hlt) (by omega)
     rw[hk,ha,hb]at this
     omega⟩
    have fd:decide ((b:Int)≤(a:Int))=true:=decide_eq_true (by omega)
    have fd2:decide (b≤a)=true:=decide_eq_true hab
    clear hk ha hb
    go_wp2_with fail
    refine still_all (by kernel_rfl) (by kernel_rfl) ?_
    repeat still_step
    refine wpStill_nil ?_
    go_wp2_with fail
    go_ret
    exact⟨by rw[hV.out];rfl,BD.out⟩
   ·have Hin2:Away (∀ j,j<k+1→j<n→0<j→(bys s).getD (j-1) 0<(bys s).getD j 0):=⟨fun j h1 h2 h3=>by
     by_cases e:j=k
     ·subst e;rw[hk,ha,hb];omega
     ·exact Hin.out j (by omega) h2 h3⟩
    have fd:decide ((b:Int)≤(a:Int))=false:=decide_eq_false (by omega)
    have fd2:decide (b≤a)=false:=decide_eq_false hab
    clear hk ha hb
    go_wp2_with fail
    refine still_all (by kernel_rfl) (by kernel_rfl) ?_
    repeat still_step
    refine wpStill_nil ?_
    go_wp2_with fail
    go_roundw
    case rel=>exact⟨k+1,by omega,Or.inl (by omega),by go_num,Hin2,BD⟩
    case measure=>simp[intOf];omega
  ·have hkz:¬ (k:Int)<(n:Int):=by omega
   have hkz2:¬ (k:Int)<(s.size:Int):=by omega
   have hV:Away (V=true):=⟨by
    rw[←HV.out]
    exact decide_eq_true fun j h1 h2=>Hin.out j (by omega) (by omega) h2⟩
   go_wp2_with fail
   go_ret
   exact⟨by rw[hV.out];rfl,Hb.out⟩
end pinc
end Go.Proofs.YtomphjajkkddkaaGreatDoor
namespace Go.Proofs.YtomphjajkkddkaaGreatDoor
namespace psmall
open Go Go.RowKit
open arr mem
theorem hints_any (o m:Int) (w:World):Calls Tryz.prog 104 #[.int .i64 o,.int .i64 m] w fun e w'=>e=.returned (.bool (decide (1≤o∧o≤255∧1≤m∧m≤8)))∧w'=w:=by
 by_cases c0 : 1≤o
 rotate_left
 ·rw[decide_eq_false (fun h=>c0 h.1)]
  go_enter Tryz.func104,Tryz.ntmps104
  go_wp2_with fail
  go_ret
  exact⟨rfl,rfl⟩
 by_cases c1:o≤255
 rotate_left
 ·rw[decide_eq_false (fun h=>c1 h.2.1)]
  go_enter Tryz.func104,Tryz.ntmps104
  go_wp2_with fail
  go_ret
  exact⟨rfl,rfl⟩
 by_cases c2 : 1≤m
 rotate_left
 ·rw[decide_eq_false (fun h=>c2 h.2.2.1)]
  go_enter Tryz.func104,Tryz.ntmps104
  go_wp2_with fail
  go_ret
  exact⟨rfl,rfl⟩
 by_cases c3:m≤8
 rotate_left
 ·rw[decide_eq_false (fun h=>c3 h.2.2.2)]
  go_enter Tryz.func104,Tryz.ntmps104
  go_wp2_with fail
  go_ret
  exact⟨rfl,rfl⟩
 rw[decide_eq_true ⟨c0,c1,c2,c3⟩]
 go_enter Tryz.func104,Tryz.ntmps104
 go_wp2_with fail
 go_ret
 exact⟨rfl,rfl⟩
end psmall
end Go.Proofs.YtomphjajkkddkaaGreatDoor
namespace Go.Proofs.YtomphjajkkddkaaGreatDoor
namespace shelft
open Go.Shelf
def laysL_ren:Go.Shelf.Ren:=⟨fun | 231=>148 | n=>n,fun | 3=>3 | 4=>4 | 5=>5 | 9=>9 | n=>n,fun | n=>n⟩
theorem laysL:Go.Proofs.Lays.n231 Tryz.prog laysL_ren:={
 mixed:=by kernel_rfl
 f231:=Tryz.func148.trans (congrArg some (by kernel_rfl))
 t3:=Tryz.underlying3
 a3:=Tryz.isAgg3
 z3:=Tryz.sizeOf3
 v3:=Tryz.zeroValue3
 t4:=Tryz.underlying4
 a4:=Tryz.isAgg4
 z4:=Tryz.sizeOf4
 v4:=Tryz.zeroValue4
 t5:=Tryz.underlying5
 a5:=Tryz.isAgg5
 z5:=Tryz.sizeOf5
 v5:=Tryz.zeroValue5
 t9:=Tryz.underlying9
 a9:=Tryz.isAgg9
 z9:=Tryz.sizeOf9
 v9:=Tryz.zeroValue9 }
def laysR_ren:Go.Shelf.Ren:=⟨fun | 232=>149 | n=>n,fun | 3=>3 | 4=>4 | 5=>5 | 9=>9 | n=>n,fun | n=>n⟩
theorem laysR:Go.Proofs.Lays.n232 Tryz.prog laysR_ren:={
 mixed:=by kernel_rfl
 f232:=Tryz.func149.trans (congrArg some (by kernel_rfl))
 t3:=Tryz.underlying3
 a3:=Tryz.isAgg3
 z3:=Tryz.sizeOf3
 v3:=Tryz.zeroValue3
 t4:=Tryz.underlying4
 a4:=Tryz.isAgg4
 z4:=Tryz.sizeOf4
 v4:=Tryz.zeroValue4
 t5:=Tryz.underlying5
 a5:=Tryz.isAgg5
 z5:=Tryz.sizeOf5
 v5:=Tryz.zeroValue5
 t9:=Tryz.underlying9
 a9:=Tryz.isAgg9
 z9:=Tryz.sizeOf9
 v9:=Tryz.zeroValue9 }
open Go.RowKit in
theorem left0 (s:ByteArray) (w:World):Calls Tryz.prog 148 #[.string s,.int .u8 0] w fun e w'=>e=.returned (.string ⟨(Lib.trimLeftB s.data.toList 0).toArray⟩)∧w'=w:=Any.strings_trimLeftByte laysL s 0 w
open Go.RowKit in
theorem right0 (s:ByteArray) (hs:s.size≤9223372036854775807) (w:World):Calls Tryz.prog 149 #[.string s,.int .u8 0] w fun e w'=>e=.returned (.string ⟨(Lib.trimRightB s.data.toList 0).toArray⟩)∧w'=w:=Any.strings_trimRightByte laysR s 0 w hs
end shelft
namespace trims
open Go Go.RowKit
open arr mem stil
theorem dw_nil (l:List UInt8):l.dropWhile (· == (0:UInt8))=[]↔∀ b∈l,b=0:=by
 induction l with
 | nil=>simp
 | cons x l ih=>
  rw[List.dropWhile_cons]
  by_cases h:x=0
  ·subst h;simp[ih]
  ·have:(x==(0:UInt8))=false:=by simpa using h
   rw[this]
   simp[h]
theorem dw_head (l:List UInt8) (x:UInt8) (r:List UInt8) (h:l.dropWhile (· == (0:UInt8))=x :: r):x≠0∧x∈l:=by
 induction l with
 | nil=>simp at h
 | cons y l ih=>
  rw[List.dropWhile_cons]at h
  by_cases e:y=0
  ·subst e
   simp at h
   exact⟨(ih h).1,List.mem_cons_of_mem _ (ih h).2⟩
  ·have e2:(y==(0:UInt8))=false:=by simpa using e
   rw[e2]at h
   simp at h
   rw[←h.1]
   exact⟨e,by simp⟩
theorem trim_nil (l:List UInt8) (h:∀ b∈l,b=0):Lib.trimB l 0=[]:=by
 have h1:l.reverse.dropWhile (· == (0:UInt8))=[]:=(dw_nil _).2 fun b hb=>h b (by simpa using hb)
 unfold Lib.trimB Lib.trimRightB Lib.trimLeftB
 rw[h1]
 rfl
theorem trim_not (l:List UInt8) (h:¬ ∀ b∈l,b=0):Lib.trimB l 0≠[]:=by
 intro e
 unfold Lib.trimB Lib.trimRightB Lib.trimLeftB at e
 have e1:=(dw_nil _).1 e
 rcases hq:l.reverse.dropWhile (· == (0:UInt8)) with _ | ⟨x,r⟩
 ·exact h fun b hb=>(dw_nil _).1 hq b (by simpa using hb)
 ·exact(dw_head _ _ _ hq).1 (e1 x (by rw[hq];simp))
theorem trim_any (s:ByteArray) (hs:s.size≤9223372036854775807) (w:World):Calls Tryz.prog 106 #[.string s,.string ⟨#[0]⟩] w fun e w'=>e=.returned (.string ⟨(Lib.trimB s.data.toList 0).toArray⟩)∧Below w.heap.size w w':=by
 by_cases h0:s.data.toList=[]
 ·have hs0:s=⟨#[]⟩:=by rw[←Lib.mk_data s,h0]
  subst hs0
  go_enter Tryz.func106,Tryz.ntmps106
  go_wp2_with fail
  go_ret
  exact⟨rfl,Below.refl _ _⟩
 ·have HR:=fun w1=>shelft.right0 s hs w1
  have HL:=fun w1=>shelft.left0 ⟨(Lib.trimRightB s.data.toList 0).toArray⟩ w1
  obtain⟨t,ht⟩:∃ t:ByteArray,(⟨(Lib.trimRightB s.data.toList 0).toArray⟩:ByteArray)=t:=⟨_,rfl⟩
  obtain⟨u,hu⟩:∃ u:ByteArray,(⟨(Lib.trimB s.data.toList 0).toArray⟩:ByteArray)=u:=⟨_,rfl⟩
  have e1:(⟨(Lib.trimLeftB t.data.toList 0).toArray⟩:ByteArray)=u:=by rw[←hu,←ht];rfl
  rw[ht]at HR HL
  rw[e1]at HL
  rw[hu]
  have he1:¬ s.toList=[]:=by rw[Lib.toList_data];exact h0
  have he:s.toList.isEmpty=false:=by simpa using he1
  clear ht hu e1 h0
  go_enter Tryz.func106,Tryz.ntmps106
  go_wp2_with fail
  refine still_all (by kernel_rfl) (by kernel_rfl) ?_
  repeat still_step
  still_call (HR _)
  repeat still_step
  still_call (HL _)
  repeat still_step
  refine wpStill_nil ?_
  go_wp2_with fail
  go_ret
  exact⟨rfl,(Below.refl _ _).drew⟩
end trims
end Go.Proofs.YtomphjajkkddkaaGreatDoor
