/-
  What mlkey's decode returns with the closure of Public, and what this returns. Conditions: as each t
-/
import Derived.Test.YtomphjajkkddkaaGreatDoorZt15
import Derived.Test.YtomphjajkkddkaaGreatDoorZt13
import Derived.Test.YtomphjajkkddkaaGreatDoorZt18
import Derived.Test.YtomphjajkkddkaaGreatDoorZt03
import Derived.Test.YtomphjajkkddkaaGreatDoorZt10
import Derived.Test.YtomphjajkkddkaaGreatDoorZt14
import Derived.Test.YtomphjajkkddkaaGreatDoorZt12
import Derived.Test.YtomphjajkkddkaaGreatDoorZt19
import Derived.Test.YtomphjajkkddkaaGreatDoorZt09
import Derived.Test.YtomphjajkkddkaaGreatDoorZt16
import Derived.Test.YtomphjajkkddkaaGreatDoorZt11
import Derived.Test.YtomphjajkkddkaaGreatDoorZt02
import Derived.StillTailTactics
set_option maxRecDepth 100000
set_option maxHeartbeats 16000000
namespace Go.Proofs.YtomphjajkkddkaaGreatDoor
namespace kde
set_option linter.unusedSimpArgs false
open Go Go.RowKit
open arr mem stil polys polt pols rbita rbitb rbitd rbite rbitf rbitg bitp rndm saml lsl11 qrow mlkm mlkb rkpb mlkd
theorem clo_pu (x:ByteArray) (w:World) (V:Array Value) (c:Int) (hVs:V.size=256) (hVo:V.all (·.oneCell')=true) (HP:∀ w1:World,Calls Tryz.prog 75 #[.string x,.int .i64 1023] w1 fun e w'=>e=.returned (.tuple #[.agg V,.int .i64 c])∧Below w1.heap.size w1 w'):
 Calls Tryz.prog 74 #[.string x] w fun e w'=>e=.returned (.tuple #[.agg V,.int .i64 c])∧Below w.heap.size w w':=by
 obtain⟨hz,hsize⟩:=zero_of_info polt.infoP
 obtain⟨z,HZ⟩:=ex_eq (FL .i64 256 fun _=>0)
 rw[HZ.out]at hz
 have Hzs:Away (z.size=256):=⟨by rw[←HZ.out];exact fl_size _ _ _⟩
 have Vi:Away ((Tryz.prog.info? 76).map (·.size)=some V.size):=⟨by rw[hVs];exact hsize⟩
 have Vz:Away (z.size=V.size):=⟨by rw[Hzs.out,hVs]⟩
 have Vo:=Away.mk hVo
 have HP:=Away.mk HP
 obtain⟨W,hW⟩:∃ x,w.alloc (.cells z 76)=x:=⟨_,rfl⟩
 obtain⟨r0,hWs,b0⟩:=one hW
 have R0:Away (W.heap[w.heap.size]? = some (.cells z 76 (0,0))):=⟨r0⟩
 have B0:=Away.mk b0
 have HW:=Away.mk hW
 clear hsize hW r0 b0 hVs hVo HZ
 go_enter Tryz.func74,Tryz.ntmps74
 go_wp2_with (rw[HW.out])
 refine(HP.out _).mono ?_
 rintro e w5 ⟨rfl,hb5⟩
 have D5:Away (Below w.heap.size w w5):=⟨B0.out.trans (hb5.mono B0.out.size)⟩
 have R5:Away (w5.heap[w.heap.size]? = some (.cells z 76 (0,0))):=⟨(hb5.block _ (lt_of_row R0.out)).trans R0.out⟩
 clear hb5
 go_wp2_with (refine wpList_store_row rfl 76 _ _ rfl w.heap.size V rfl rfl 76 _ R5.out Vi.out Vz.out Vo.out ?_)
 refine bodyPost_ret_by (v:=.tuple #[.agg V,.int .i64 c]) (rbite.results_cell_tmp rfl _ _ w.heap.size 76 _ (0,0) _ rfl (setRow_heap _ _ _ _ _ _ R5.out) Tryz.underlying76 rfl Vi.out _ rfl) rfl ?_
 exact⟨rfl,D5.out.trans (below_setRow _ _ _ (Nat.le_refl _))⟩
theorem decode_pu (s:ByteArray) (m n:Nat) (q:Nat→Nat→Int) (ok:Nat→Prop) (w:World) (hm : 1≤m∧m≤8) (hn:n≤1000) (hs:s.size=m*n)
 (HC1:∀ i,i<m→ok i→∀ w1:World,Below w.heap.size w w1→Calls Tryz.prog 74 #[.string (s.extract (i*n) ((i+1)*n))] w1 fun e w'=>e=.returned (.tuple #[.agg (FL .i64 256 (q i)),.int .i64 0])∧Below w1.heap.size w1 w')
 (HC2:∀ i,i<m→¬ ok i→∀ w1:World,Below w.heap.size w w1→Calls Tryz.prog 74 #[.string (s.extract (i*n) ((i+1)*n))] w1 fun e w'=>e=.returned (.tuple #[.agg (FL .i64 256 fun _=>0),.int .i64 3])∧Below w1.heap.size w1 w'):
 Calls Tryz.prog 73 #[.string s,.int .i64 (m:Int),.func (.func 74) #[] #[]] w fun x w'=>(((∀ i,i<m→ok i)∧∃ v,x=.returned (.tuple #[v,.int .i64 0])∧Holds w' w.heap.size v m q)∨((¬ ∀ i,i<m→ok i)∧x=.returned (.tuple #[.slice none 0 0,.int .i64 3])))∧Below w.heap.size w w':=by
 obtain⟨i0,hi,hz0,hz1,hz2⟩:=rbitb.parts infoPoly
 obtain⟨hz,hsize⟩:=zero_of_info polt.infoP
 obtain⟨z,HZ⟩:=ex_eq (FL .i64 256 fun _=>0)
 rw[HZ.out]at hz hz0
 have HI:=Away.mk (And.intro hi (And.intro hz0 (And.intro hz1 hz2)))
 have Hzs:Away (z.size=256):=⟨by rw[←HZ.out];exact fl_size _ _ _⟩
 have Hsize:=Away.mk hsize
 have hm1:=hm.1
 have hm8:=hm.2
 have hmz:((m:Int)==0)=false:=by simp;omega
 have hmz2:¬ (m:Int)=0:=by omega
 have hmn:m*n≤8000:=Nat.le_trans (Nat.mul_le_mul hm.2 hn) (by decide)
 have hdiv:(s.size:Int).tdiv (m:Int)=(n:Int):=by
  rw[hs,Int.tdiv_eq_ediv_of_nonneg (by omega)]
  push_cast
  exact Int.mul_ediv_cancel_left _ hmz2
 have hde:(s.size:Int) / (m:Int)=(n:Int):=by
  rw[←hdiv,Int.tdiv_eq_ediv_of_nonneg (by omega)]
 have hdw:IntKind.i64.wrap ((s.size:Int) / (m:Int))=(n:Int):=by rw[hde,IntKind.wrap_i64];omega
 have HC1:=Away.mk HC1
 have HC2:=Away.mk HC2
 have Hs:=Away.mk hs
 have Hmn:=Away.mk hmn
 have Hm:=Away.mk hm
 have hn0 : 0≤(n:Int):=by omega
 clear hi hz0 hz1 hz2 hsize hs hmn hm hdiv hde
 go_enter Tryz.func73,Tryz.ntmps73
 go_wp2_with (at_make;refine wpList_make_full _ rfl (.tmp 13) (.tmp 13) 44 rfl w.heap.size 76 i0 (.agg z) 256 Tryz.underlying44 HI.out.1 HI.out.2.1 HI.out.2.2.1 .i64 .i64 m m m rfl rfl rfl rfl (by rw[HI.out.2.2.2];omega) (by unfold maxLen;omega) (Nat.le_refl _) ?_)
 intro w5 hown hgr
 obtain⟨hrow,hb5⟩:=made_row HZ.out hown hgr
 obtain⟨g,hg⟩:∃ x,w.heap.size=x:=⟨_,rfl⟩
 rw[hg]at hrow ⊢
 have A5:Away (At g (RW m (fst q 0)) 76 w5 w5):=⟨by rw[fst_zero];exact At.refl hrow⟩
 have B5:Away (Below w.heap.size w w5):=⟨hb5⟩
 have Hg:=Away.mk hg
 clear hown hgr hrow hb5 hg
 go_wp2_with fail
 go_loopw [21] (fun v wr=>∃ r:Nat,r≤m∧v=.int .i64 (r:Int)∧Away (∀ i,i<r→ok i)∧Away (At g (RW m (fst q r)) 76 w5 wr)) (fun v _=>m-(intOf v).toNat)
 case atStart=>exact⟨0,Nat.zero_le _,rfl,⟨fun i hi=>by omega⟩,A5⟩
 case round=>
  clear A5
  obtain⟨r,hr,rfl,Hin,A0⟩:=hrel
  have BU:Away (Below w.heap.size w wr):=⟨B5.out.trans (A0.out.below B5.out.size (Nat.le_of_eq Hg.out))⟩
  by_cases hlt:r<m
  ·have hrz:(r:Int)<(m:Int):=by omega
   have hr8:r<8:=by omega
   have hmul:(r+1)*n≤m*n:=Nat.mul_le_mul_right n hlt
   have hsplit:(r+1)*n=r*n+n:=Nat.succ_mul r n
   have HCa:=HC1.out r hlt
   have HCb:=HC2.out r hlt
   obtain⟨p,hp⟩:∃ p,r*n=p:=⟨_,rfl⟩
   obtain⟨p2,hp2⟩:∃ p2,(r+1)*n=p2:=⟨_,rfl⟩
   rw[hp,hp2]at HCa HCb
   have hps:p2≤s.size:=by have:=Hs.out;omega
   have hpp:p≤p2:=by omega
   have hpz:p2≤8000:=by have:=Hmn.out;omega
   have f1:IntKind.i64.wrap ((r:Int)*(n:Int))=(p:Int):=by rw[show (r:Int)*(n:Int)=((r*n:Nat):Int) by push_cast;rfl,hp,IntKind.wrap_i64];omega
   have f2:IntKind.i64.wrap (((r:Int)+1)*(n:Int))=(p2:Int):=by rw[show ((r:Int)+1)*(n:Int)=(((r+1)*n:Nat):Int) by push_cast;rfl,hp2,IntKind.wrap_i64];omega
   obtain⟨X,HX⟩:=ex_eq (s.extract p p2)
   have hex:=HX.out
   rw[HX.out]at HCa HCb
   have Hlt:=Away.mk hlt
   clear hmul hsplit hp hp2
   by_cases hok:ok r
   ·have HCr:=Away.mk (HCa hok)
    have Hin2:Away (∀ i,i<r+1→ok i):=⟨fun i hi=>by
     by_cases e:i=r
     ·rw[e];exact hok
     ·exact Hin.out i (by omega)⟩
    obtain⟨F,HF⟩:=ex_eq (FL .i64 256 (q r))
    rw[HF.out]at HCr
    have Fs:Away (F.size=256):=⟨by rw[←HF.out];exact fl_size _ _ _⟩
    have Fo:Away (F.all (·.oneCell')=true):=⟨by rw[←HF.out];exact fl_one _ _ _⟩
    have Fi:Away ((Tryz.prog.info? 76).map (·.size)=some F.size):=⟨by rw[Fs.out];exact Hsize.out⟩
    have Fz:Away (z.size=F.size):=⟨by rw[Hzs.out,Fs.out]⟩
    have Hup:Away (ups (fst q r) r (q r)=fst q (r+1)):=⟨ups_fst q r⟩
    obtain⟨o6,ho6⟩:∃ o6,r*256=o6:=⟨_,rfl⟩
    have Ho6:=Away.mk ho6
    clear hok HCa HCb
    go_wp2_with fail
    refine(HCr.out _ BU.out).mono ?_
    rintro e w3 ⟨rfl,hb3⟩
    obtain⟨W4,hW4⟩:∃ x,w3.alloc (.cells F 76)=x:=⟨_,rfl⟩
    obtain⟨r4,hs4,b4⟩:=one hW4
    have R4:=Away.mk r4
    have A4:Away (At g (RW m (fst q r)) 76 w5 W4):=⟨A0.out.later (hb3.trans (b4.mono hb3.size))⟩
    have HW4:=Away.mk hW4
    clear hb3 hW4 r4 hs4 b4
    go_wp2_with (first
     | (refine wpList_store_new rfl 76 _ _ rfl F rfl rfl Fi.out (by exact Fz.out) Fo.out rfl ?_)
     | (rw[HW4.out])
     | (refine wpList_load_row rfl 76 _ rfl w3.heap.size rfl 76 F (0,0) _ R4.out Tryz.underlying76 rfl Fi.out ?_)
     | ((with_reducible refine wpList_putp A4 HF.out Hlt.out Ho6.out rfl _ _ rfl rfl ?hx ?hy ?_);(case hx=>exact rfl);(case hy=>exact rfl);intro w7 A7;rw[Hup.out]at A7))
    go_roundw
    case rel=>exact⟨r+1,by have:=Hlt.out;omega,by go_num,Hin2,A7⟩
    case measure=>have:=Hlt.out;simp[intOf];omega
   ·have HCr:=Away.mk (HCb hok)
    rw[HZ.out]at HCr
    have Zi:Away ((Tryz.prog.info? 76).map (·.size)=some z.size):=⟨by rw[Hzs.out];exact Hsize.out⟩
    have Zo:Away (z.all (·.oneCell')=true):=⟨by rw[←HZ.out];exact fl_one _ _ _⟩
    have Hno:Away (¬ ∀ i,i<m→ok i):=⟨fun h=>hok (h r Hlt.out)⟩
    clear hok HCa HCb
    go_wp2_with fail
    refine(HCr.out _ BU.out).mono ?_
    rintro e w3 ⟨rfl,hb3⟩
    obtain⟨W4,hW4⟩:∃ x,w3.alloc (.cells z 76)=x:=⟨_,rfl⟩
    obtain⟨r4,hs4,b4⟩:=one hW4
    have B4:Away (Below w.heap.size w W4):=⟨BU.out.trans ((hb3.trans (b4.mono hb3.size)).mono BU.out.size)⟩
    have HW4:=Away.mk hW4
    clear hb3 hW4 r4 hs4 b4
    go_wp2_with (first
     | (refine wpList_store_new rfl 76 _ _ rfl z rfl rfl Zi.out rfl Zo.out rfl ?_)
     | (rw[HW4.out]))
    go_ret2
    exact⟨Or.inr ⟨Hno.out,rfl⟩,B4.out⟩
  ·obtain rfl:r=m:=by omega
   have HH:Away (Holds wr w.heap.size (.slice (some ⟨g,0,none⟩) r r) r q):=⟨row_holds A0.out.row (Nat.le_of_eq Hg.out) (fun i hi=>fst_lt q r i hi)⟩
   clear A0
   go_wp2_with fail
   go_ret2
   exact⟨Or.inl ⟨Hin.out,_,rfl,HH.out⟩,BU.out⟩
end kde
namespace kpu
set_option linter.unusedSimpArgs false
open Go Go.RowKit
open arr mem stil polys polt pols rbita rbitb rbitd rbite rbitf rbitg bitp rndm saml lsl11 helda qrow mlkm mlkb rksz rkpb rksb rkse rkrw
theorem dec_pu (x:ByteArray) (kn:Nat) (w:World) (hk : 1≤kn∧kn≤8) (hx:x.size=32+320*kn):
 Calls Tryz.prog 73 #[.string (x.extract 32 x.size),.int .i64 (kn:Int),.func (.func 74) #[] #[]] w fun r w'=>(∃ v,r=.returned (.tuple #[v,.int .i64 0])∧Holds w' w.heap.size v kn (rdU x 32 10))∧Below w.heap.size w w':=by
 refine(kde.decode_pu (x.extract 32 x.size) kn 320 (rdU x 32 10) (fun _=>True) w hk (by decide) (by rw[size_extract _ _ _ (by omega) (by omega)];omega) (fun i hi _ w1 _=>?_) (fun i _ h=>absurd trivial h)).mono ?_
 ·rw[part_of x 32 320 kn i hi (by omega) _ (Or.inl rfl)]
  have hsz:(x.extract (32+320*i) (32+320*i+320)).size=320:=by
   rw[size_extract _ _ _ (by omega) (by omega)];omega
  have h1:=fun w1=>punp.unpack_any (x.extract (32+320*i) (32+320*i+320)) 1023 w1 (by decide) (by decide) (by rw[hsz,lb_1023])
  simp only[lb_1023,if_pos (show inb (up (x.extract (32+320*i) (32+320*i+320)) 10) 1023 from fun j _=>by
   have:=rsdoc.up_lt (x.extract (32+320*i) (32+320*i+320)) 10 j
   omega)]at h1
  exact kde.clo_pu _ w1 _ 0 (fl_size _ _ _) (fl_one _ _ _) h1
 ·rintro r w' ⟨h | h,hb⟩
  ·exact⟨h.2,hb⟩
  ·exact absurd (fun _ _=>trivial) h.1
theorem public_len (k l e t a b o s:Int) (x:ByteArray) (w:World) (h:latt k l e t a b o s=true) (hx:(x.size:Int)≠sz1 k):
 Calls Tryz.prog 29 #[.agg #[.int .i64 k,.int .i64 l,.int .i64 e,.int .i64 t,.int .i64 a,.int .i64 b,.int .i64 o,.int .i64 s],.string x] w fun r w'=>r=.returned (.tuple #[.string ⟨#[]⟩,.slice none 0 0,.int .i64 3])∧Below w.heap.size w w':=by
 have HR0:=fun w1=>rright.right_any k l e t a b o s w1
 simp only[h]at HR0
 have HS0:∀ w1:World,Calls Tryz.prog 20 #[.agg #[.int .i64 k,.int .i64 l,.int .i64 e,.int .i64 t,.int .i64 a,.int .i64 b,.int .i64 o,.int .i64 s]] w1 fun e0 w'=>e0=.returned (.tuple #[.int .i64 (sz1 k),.int .i64 (sz2 k l e),.int .i64 (sz3 k l a o s)])∧Below w1.heap.size w1 w':=fun w1=>by
  have h1:=ksz.sizes_any k l e t a b o s w1
  unfold szs at h1
  rw[if_pos h]at h1
  exact h1
 obtain⟨n1,en1⟩:∃ y,sz1 k=y:=⟨_,rfl⟩
 obtain⟨n2,en2⟩:∃ y,sz2 k l e=y:=⟨_,rfl⟩
 obtain⟨n3,en3⟩:∃ y,sz3 k l a o s=y:=⟨_,rfl⟩
 simp only[en1,en2,en3]at HS0 hx
 have hn1:((x.size:Int) != n1)=true:=by simpa using hx
 obtain⟨C,HC⟩:=ex_eq (#[.int .i64 k,.int .i64 l,.int .i64 e,.int .i64 t,.int .i64 a,.int .i64 b,.int .i64 o,.int .i64 s]:Array Value)
 simp only[HC.out]at HR0 HS0 ⊢
 have HCs:Away ((Tryz.prog.info? 37).map (·.size)=some C.size):=⟨by rw[←HC.out];kernel_rfl⟩
 obtain⟨W,hW⟩:∃ x,w.alloc (.cells C 37)=x:=⟨_,rfl⟩
 obtain⟨r0,hWs,b0⟩:=one hW
 have CB:Away (∀ w':World,Below W.heap.size W w'→w'.heap[w.heap.size]? = some (.cells C 37 (0,0))):=⟨fun w' hb=>(hb.block _ (lt_of_row r0)).trans r0⟩
 have BW:=Away.mk b0
 have HW:=Away.mk hW
 have HR:=Away.mk HR0
 have HS:=Away.mk HS0
 clear HR0 HS0 hW r0 hWs b0 h hx en1 en2 en3
 go_enter Tryz.func29,Tryz.ntmps29
 go_wp2_with (first
  | (rw[HW.out])
  | (refine wpList_load_row rfl 37 _ rfl w.heap.size rfl 37 _ (0,0) _ (CB.out _ (Below.refl _ _)) Tryz.underlying37 rfl HCs.out ?_))
 refine(HR.out _).mono ?_
 rintro r u1 ⟨rfl,hb1⟩
 have E1:Away (Below W.heap.size W u1):=⟨hb1⟩
 clear hb1
 go_wp2_with (refine wpList_load_row rfl 37 _ rfl w.heap.size rfl 37 _ (0,0) _ (CB.out _ E1.out) Tryz.underlying37 rfl HCs.out ?_)
 refine(HS.out _).mono ?_
 rintro r u2 ⟨rfl,hb2⟩
 have E2:Away (Below W.heap.size W u2):=⟨E1.out.trans (hb2.mono E1.out.size)⟩
 clear hb2
 go_wp2_with fail
 go_ret3
 exact⟨rfl,BW.out.trans (E2.out.mono BW.out.size)⟩
theorem public_good (kn:Nat) (l e t a b o s:Int) (x:ByteArray) (w:World) (h:latt (kn:Int) l e t a b o s=true) (hx:x.size=32+320*kn):
 Calls Tryz.prog 29 #[.agg #[.int .i64 (kn:Int),.int .i64 l,.int .i64 e,.int .i64 t,.int .i64 a,.int .i64 b,.int .i64 o,.int .i64 s],.string x] w fun r w'=>(∃ v,r=.returned (.tuple #[.string (x.extract 0 32),v,.int .i64 0])∧Holds w' w.heap.size v kn (rdU x 32 10))∧Below w.heap.size w w':=by
 obtain⟨hk,-⟩:=latt_all h
 have hk : 1≤kn∧kn≤8:=by omega
 have HR0:=fun w1=>rright.right_any (kn:Int) l e t a b o s w1
 simp only[h]at HR0
 have HS0:∀ w1:World,Calls Tryz.prog 20 #[.agg #[.int .i64 (kn:Int),.int .i64 l,.int .i64 e,.int .i64 t,.int .i64 a,.int .i64 b,.int .i64 o,.int .i64 s]] w1 fun e0 w'=>e0=.returned (.tuple #[.int .i64 (sz1 (kn:Int)),.int .i64 (sz2 (kn:Int) l e),.int .i64 (sz3 (kn:Int) l a o s)])∧Below w1.heap.size w1 w':=fun w1=>by
  have h1:=ksz.sizes_any (kn:Int) l e t a b o s w1
  unfold szs at h1
  rw[if_pos h]at h1
  exact h1
 have hn1:((x.size:Int) != sz1 (kn:Int))=false:=by
  have:(x.size:Int)=sz1 (kn:Int):=by unfold sz1;omega
  rw[this];simp
 obtain⟨n1,en1⟩:∃ y,sz1 (kn:Int)=y:=⟨_,rfl⟩
 obtain⟨n2,en2⟩:∃ y,sz2 (kn:Int) l e=y:=⟨_,rfl⟩
 obtain⟨n3,en3⟩:∃ y,sz3 (kn:Int) l a o s=y:=⟨_,rfl⟩
 simp only[en1,en2,en3]at HS0 hn1
 have HD:=Away.mk (fun w1=>dec_pu x kn w1 hk hx)
 have HC0:=Away.mk (fun w1=>cut_first x 32 w1 (by omega) (by omega))
 obtain⟨R,HRR⟩:=ex_eq (rdU x 32 10)
 simp only[HRR.out]at HD ⊢
 have h32:(32:Int)≤(x.size:Int):=by omega
 have h32n : 32≤x.size:=by omega
 obtain⟨Y,HY⟩:=ex_eq (x.extract 32 x.size)
 have hY:=HY.out
 simp only[HY.out]at HD
 obtain⟨C,HC⟩:=ex_eq (#[.int .i64 (kn:Int),.int .i64 l,.int .i64 e,.int .i64 t,.int .i64 a,.int .i64 b,.int .i64 o,.int .i64 s]:Array Value)
 simp only[HC.out]at HR0 HS0 ⊢
 have HCs:Away ((Tryz.prog.info? 37).map (·.size)=some C.size):=⟨by rw[←HC.out];kernel_rfl⟩
 obtain⟨W,hW⟩:∃ x,w.alloc (.cells C 37)=x:=⟨_,rfl⟩
 obtain⟨r0,hWs,b0⟩:=one hW
 have CB:Away (∀ w':World,Below W.heap.size W w'→w'.heap[w.heap.size]? = some (.cells C 37 (0,0))):=⟨fun w' hb=>(hb.block _ (lt_of_row r0)).trans r0⟩
 have BW:=Away.mk b0
 have HW:=Away.mk hW
 have cK:Away (∀ w':World,Below W.heap.size W w'→w'.cell? ⟨w.heap.size,0,none⟩=some (.int .i64 (kn:Int))):=⟨fun w' hb=>cell_at (CB.out w' hb) (by rw[←HC.out];rfl)⟩
 have HR:=Away.mk HR0
 have HS:=Away.mk HS0
 clear HR0 HS0 hW r0 hWs b0 h hx en1 en2 en3 HRR hk
 go_enter Tryz.func29,Tryz.ntmps29
 go_wp2_with (first
  | (rw[HW.out])
  | (refine wpList_load_row rfl 37 _ rfl w.heap.size rfl 37 _ (0,0) _ (CB.out _ (Below.refl _ _)) Tryz.underlying37 rfl HCs.out ?_))
 refine(HR.out _).mono ?_
 rintro r u1 ⟨rfl,hb1⟩
 have E1:Away (Below W.heap.size W u1):=⟨hb1⟩
 clear hb1
 go_wp2_with (refine wpList_load_row rfl 37 _ rfl w.heap.size rfl 37 _ (0,0) _ (CB.out _ E1.out) Tryz.underlying37 rfl HCs.out ?_)
 refine(HS.out _).mono ?_
 rintro r u2 ⟨rfl,hb2⟩
 have E2:Away (Below W.heap.size W u2):=⟨E1.out.trans (hb2.mono E1.out.size)⟩
 clear hb2
 go_wp2_with fail
 refine hk_begin (u2.heap.size) 10 [0,1,2,3,4,5,6,7,8,9] (by kernel_rfl) rfl rfl (by decide) (fun hS ops HO=>?_)
 simp only[List.filterMap_cons,List.filterMap_nil,List.getElem?_cons_succ,List.getElem?_cons_zero]
 have cK2:∀ w':World,Below u2.heap.size u2 w'→w'.cell? ⟨w.heap.size,0,none⟩=some (.int .i64 (kn:Int)):=fun w' hb=>cK.out w' (E2.out.trans (hb.mono E2.out.size))
 iterate 3 ((focus (refine heldb.hk_t (v:=?_) (by rw[←HO.out];kernel_rfl) (fun _ _ _ h=>h) ?_ (hS) ?_;rotate_left;focus (intro w9 h9;go_simp;first | done | with_reducible rfl);all_goals skip));simp only[Act.put,heldb.pa,heldb.pb,heldb.pc])
 (focus (refine heldb.hk_t (v:=?_) (by rw[←HO.out];kernel_rfl) (fun _ _ _ h=>h) ?_ (hS) ?_;rotate_left;focus (intro w9 h9;have hc:=cK2 w9 h9;go_simp;first | done | with_reducible rfl);all_goals skip))
 simp only[Act.put,heldb.pa,heldb.pb,heldb.pc]
 refine heldb.hk_s (by rw[←HO.out];kernel_rfl) (fun K hK=>?_)
 go_simp
 refine(HD.out _).mono ?_
 rintro r w9 ⟨⟨v,rfl,hv⟩,hb9⟩
 have h9:Below u2.heap.size u2 w9:=hS.trans (hb9.mono hS.size)
 have hv:=Holds.later hv (Below.refl _ _)
 obtain⟨gv,cv,rfl,hgv⟩:=hd_any hv
 refine hK _ _ h9 ?_
 clear hK K
 try simp only[Act.put,heldb.pa,heldb.pb,heldb.pc]
 iterate 5 ((focus (refine heldb.hk_t (v:=?_) (by rw[←HO.out];kernel_rfl) (fun _ _ _ h=>h) ?_ (h9) ?_;rotate_left;focus (intro w9 h9;go_simp;first | done | with_reducible rfl);all_goals skip));simp only[Act.put,heldb.pa,heldb.pb,heldb.pc])
 refine hk_nil (by rw[←HO.out];kernel_rfl) ?_
 have E3:Away (Below W.heap.size W w9):=⟨E2.out.trans (h9.mono E2.out.size)⟩
 have hb8:w.heap.size≤u2.heap.size:=Nat.le_trans BW.out.size E2.out.size
 have Hv:Away (Holds w9 w.heap.size (.slice (some ⟨gv,0,none⟩) kn cv) kn R):=⟨by obtain⟨g2,c2,q1,q2,q3⟩:=hv;exact⟨g2,c2,q1,Nat.le_trans hb8 (Nat.le_trans hS.size q2),q3⟩⟩
 clear hS HO hb9 h9 hv hgv cK2 hb8
 go_wp2_with fail
 refine(HC0.out _).mono ?_
 rintro r w5 ⟨rfl,hb5⟩
 go_wp2_with fail
 go_ret3
 exact⟨⟨_,rfl,Hv.out.later hb5⟩,BW.out.trans ((E3.out.trans (hb5.mono E3.out.size)).mono BW.out.size)⟩
end kpu
end Go.Proofs.YtomphjajkkddkaaGreatDoor
namespace Go.Proofs.YtomphjajkkddkaaGreatDoor.mga
set_option linter.unusedSimpArgs false
open Go Go.RowKit
open arr mem stil polys polt pols nttl rndm saml spok rsdoc mlkm mlsm keca kstep kturn rkpb rkrw qrow mgd
theorem shake_any {T:Array Value} (gt:Nat) (x:ByteArray) (n:Nat) (w:World) (hK:KT T TL RL) (hP:Gp w) (hrow:w.heap[gt]? = some (.cells T 34 (0,0))) (hn:n≤50000) (hx:x.size≤1125899906842624):
 Calls Tryz.prog 163 #[.pointer (some ⟨gt,0,none⟩),.string x,.int .i64 (n:Int)] w fun e w'=>e=.returned (.string (out TL RL 2 x n))∧Below w.heap.size w w':=by
 have HS:=Away.mk (fun w1 hb=>qdoc.shake 2 x n w hK hP (Or.inr rfl) hn hx w1 hb)
 have HTz:Away ((Tryz.prog.info? 34).map (·.size)=some T.size):=⟨infoT T hK⟩
 have HR:=Away.mk hrow
 obtain⟨Y,HY⟩:=ex_eq (out TL RL 2 x n)
 rw[HY.out]at HS ⊢
 clear hK hP hrow hn hx HY
 go_enter Tryz.func163,Tryz.ntmps163
 go_wp2_with (refine wpList_load_row rfl 34 _ rfl gt rfl 34 T (0,0) _ HR.out Tryz.underlying34 rfl HTz.out ?_)
 refine(HS.out _ (Below.refl _ _)).mono ?_
 rintro e w5 ⟨rfl,hb5⟩
 go_wp2_with fail
 go_ret
 exact⟨rfl,hb5⟩
theorem size_any (f:Nat→Int) (w:World):
 Calls Tryz.prog 188 #[.agg (FL .i64 256 f)] w fun e w'=>e=.returned (.int .i64 (fldm.cbs (fun _=>f) 1))∧Below w.heap.size w w':=by
 obtain⟨i0,hi,hz0,hz1,hz2⟩:=tparts infoPoly
 obtain⟨z,HZ⟩:=ex_eq (FL .i64 256 fun _=>0)
 rw[HZ.out]at hz0
 have HI:=Away.mk (And.intro hi (And.intro hz0 hz1))
 obtain⟨F,HF⟩:=ex_eq (FL .i64 256 f)
 have Fs:Away (F.size=256):=⟨by rw[←HF.out];exact fl_size _ _ _⟩
 have Fi:Away ((Tryz.prog.info? 76).map (·.size)=some F.size):=⟨by rw[Fs.out];exact(zero_of_info polt.infoP).2⟩
 obtain⟨W,hW⟩:∃ x,w.alloc (.cells F 76)=x:=⟨_,rfl⟩
 obtain⟨r0,hWs,b0⟩:=one hW
 obtain⟨U,hU⟩:∃ x,W.alloc (.cells F 76)=x:=⟨_,rfl⟩
 obtain⟨r1,hUs,b1⟩:=one hU
 have HS:Away (Calls Tryz.prog 30 #[.slice (some ⟨W.heap.size,0,none⟩) 1 1] U fun e w'=>e=.returned (.int .i64 (fldm.cbs (fun _=>f) 1))∧w'=U):=⟨fsize.size_any W.heap.size 1 1 (fun _=>f) U (by decide) fun j hj i hi=>by
  obtain rfl:j=0:=by omega
  rw[Nat.zero_mul,Nat.zero_add]
  exact fl_at (by rw[HF.out];exact r1) i hi⟩
 have R0:=Away.mk r0
 have B1:Away (Below w.heap.size w U):=⟨b0.trans (b1.mono b0.size)⟩
 have HW:=Away.mk hW
 have HU:=Away.mk hU
 rw[HF.out]
 clear hi hz0 hz1 hz2 HZ hW r0 hWs b0 hU r1 hUs b1 HF
 go_enter Tryz.func188,Tryz.ntmps188
 go_wp2_with (first
  | (rw[HU.out])
  | (rw[HW.out])
  | (refine wpList_load_row rfl 76 _ rfl w.heap.size rfl 76 F (0,0) _ R0.out Tryz.underlying76 rfl Fi.out ?_)
  | (with_reducible refine fork.wpList_buildOne rfl 44 76 _ rfl F Fs.out i0 z Tryz.underlying44 HI.out.1 HI.out.2.1 HI.out.2.2 rfl ?_))
 refine HS.out.mono ?_
 rintro e w5 ⟨rfl,h5⟩
 rw[h5]
 clear h5 w5
 go_wp2_with fail
 go_ret
 exact⟨rfl,B1.out⟩
theorem margin_any (gs:Nat) (t e m:Int) (w:World) (h4:w.cell? ⟨gs,4,none⟩=some (.int .i64 t)) (h3:w.cell? ⟨gs,3,none⟩=some (.int .i64 e)) (hm:IntKind.i64.wrap (t*e)=m):
 Calls Tryz.prog 187 #[.pointer (some ⟨gs,0,none⟩)] w fun e' w'=>e'=.returned (.int .i64 m)∧w'=w.drew:=by
 go_enter Tryz.func187,Tryz.ntmps187
 go_wp2_with fail
 refine still_all (by kernel_rfl) (by kernel_rfl) ?_
 repeat still_step
 refine wpStill_nil ?_
 go_wp2_with fail
 go_ret
 exact⟨rfl,rfl⟩
theorem product_any {T:Array Value} (Z:Nat→Int) (gs gt g1 o1 g2 o2:Nat) (c f:Nat→Int) (w:World) (hT:nthere.ZT T Z) (hc:w.cell? ⟨gs,0,none⟩=some (.pointer (some ⟨gt,0,none⟩))) (hr:w.heap[gt]? = some (.cells T 34 (0,0)))
 (h1:w.rangeAt g1 o1 (FL .i64 256 c).toList) (h2:w.rangeAt g2 o2 (FL .i64 256 f).toList) (ls:gs<w.heap.size) (l1:g1<w.heap.size) (l2:g2<w.heap.size):
 Calls Tryz.prog 186 #[.pointer (some ⟨gs,0,none⟩),.pointer (some ⟨g1,o1,none⟩),.pointer (some ⟨g2,o2,none⟩)] w fun e w'=>e=.returned (.agg (FL .i64 256 (mul (fun k=>Z k%8380417) c f)))∧Below w.heap.size w w':=by
 obtain⟨hz,hsize⟩:=zero_of_info polt.infoP
 obtain⟨z,HZ⟩:=ex_eq (FL .i64 256 fun _=>0)
 rw[HZ.out]at hz
 have Hzs:Away (z.size=256):=⟨by rw[←HZ.out];exact fl_size _ _ _⟩
 have HTz:Away ((Tryz.prog.info? 34).map (·.size)=some T.size):=⟨by rw[hT.size];kernel_rfl⟩
 have HTm:Away (∀ w1:World,Calls Tryz.prog 81 #[.agg (FL .i64 256 c),.agg (FL .i64 256 f)] w1 fun e w'=>e=.returned (.agg (FL .i64 256 fun i=>(c i*f i)%8380417))∧Below w1.heap.size w1 w'):=⟨fun w1=>ntimes.times_any c f w1⟩
 have HBk:Away (∀ w1:World,Calls Tryz.prog 82 #[.agg T,.agg (FL .i64 256 fun i=>(c i*f i)%8380417)] w1 fun e w'=>e=.returned (.agg (FL .i64 256 (mul (fun k=>Z k%8380417) c f)))∧Below w1.heap.size w1 w'):=⟨fun w1=>nback.back_any T Z _ w1 hT⟩
 obtain⟨F,HF⟩:=ex_eq (FL .i64 256 c)
 obtain⟨G,HG⟩:=ex_eq (FL .i64 256 f)
 obtain⟨M,HM⟩:=ex_eq (FL .i64 256 fun i=>(c i*f i)%8380417)
 obtain⟨R,HR⟩:=ex_eq (FL .i64 256 (mul (fun k=>Z k%8380417) c f))
 have Fi:Away ((Tryz.prog.info? 76).map (·.size)=some F.toList.length):=⟨by rw[Array.length_toList,←HF.out,fl_size];exact hsize⟩
 have Gi:Away ((Tryz.prog.info? 76).map (·.size)=some G.toList.length):=⟨by rw[Array.length_toList,←HG.out,fl_size];exact hsize⟩
 have Ri:Away ((Tryz.prog.info? 76).map (·.size)=some R.size):=⟨by rw[←HR.out,fl_size];exact hsize⟩
 have Ro:Away (R.all (·.oneCell')=true):=⟨by rw[←HR.out];exact fl_one _ _ _⟩
 have Rz:Away (z.size=R.size):=⟨by rw[Hzs.out,←HR.out,fl_size]⟩
 rw[HM.out,HR.out]at HBk
 rw[HF.out,HG.out,HM.out]at HTm
 rw[HF.out]at h1
 rw[HG.out]at h2
 rw[HR.out]
 obtain⟨W,hW⟩:∃ x,w.alloc (.cells z 76)=x:=⟨_,rfl⟩
 obtain⟨r0,hWs,b0⟩:=one hW
 have q0:∀ d os,(Go.Sort.grow (redrawn W d) os).cell? ⟨gs,0,none⟩=some (.pointer (some ⟨gt,0,none⟩)):=fun d os=>cell_regrown ((b0.cell (p:=⟨gs,0,none⟩) ls).trans hc) d os
 have T0:Away (W.heap[gt]? = some (.cells T 34 (0,0))):=⟨(b0.block _ (lt_of_row hr)).trans hr⟩
 have H1:Away (∀ w':World,Below W.heap.size W w'→w'.rangeAt g1 o1 F.toList):=⟨fun w' hb=>range_later h1 l1 (b0.trans (hb.mono b0.size))⟩
 have H2:Away (∀ w':World,Below W.heap.size W w'→w'.rangeAt g2 o2 G.toList):=⟨fun w' hb=>range_later h2 l2 (b0.trans (hb.mono b0.size))⟩
 have R0:=Away.mk r0
 have B0:=Away.mk b0
 have HW:=Away.mk hW
 clear hsize hW r0 hWs b0 HZ HF HG HM HR hc hr h1 h2 ls l1 l2 hT
 go_enter Tryz.func186,Tryz.ntmps186
 go_wp2_with (rw[HW.out])
 refine qtail.region_below_tail 14 (by kernel_rfl) (by kernel_rfl) ?_
 iterate 5 (quiet_step (skip))
 refine wpQuiet_load rfl 34 _ rfl _ rfl 34 _ _ (fun w' hC=>heap_regrown T0.out hC) Tryz.underlying34 rfl HTz.out ?_
 iterate 2 (quiet_step (skip))
 refine wpQuiet_load_mid rfl 76 _ rfl g1 o1 rfl F.toList _ (fun w' hC=>H1.out w' (krw.reg_below hC)) Tryz.underlying76 rfl Fi.out ?_
 iterate 2 (quiet_step (skip))
 refine wpQuiet_load_mid rfl 76 _ rfl g2 o2 rfl G.toList _ (fun w' hC=>H2.out w' (krw.reg_below hC)) Tryz.underlying76 rfl Gi.out ?_
 quiet_step (exact Calls.regrown_of (HTm.out _))
 quiet_step (exact Calls.regrown_of (HBk.out _))
 refine wpQuiet_nil ?_
 intro wn hC
 have hbn:Below W.heap.size W wn:=krw.reg_below hC
 have R5:Away (wn.heap[w.heap.size]? = some (.cells z 76 (0,0))):=⟨(hbn.block _ (lt_of_row R0.out)).trans R0.out⟩
 have D5:Away (Below w.heap.size w wn):=⟨B0.out.trans (hbn.mono B0.out.size)⟩
 clear hC hbn q0
 simp only[List.drop_succ_cons,List.drop_zero]
 refine wpList_store_row rfl 76 _ _ rfl w.heap.size R rfl rfl 76 _ R5.out Ri.out Rz.out Ro.out ?_
 go_wp2_with fail
 refine bodyPost_ret_by (v:=.agg R) (results_cell_row rfl _ _ w.heap.size 76 _ (0,0) _ rfl (setRow_heap _ _ _ _ _ _ R5.out) Tryz.underlying76 rfl Ri.out) rfl ?_
 exact⟨rfl,D5.out.trans (below_setRow _ _ _ (Nat.le_refl _))⟩
end Go.Proofs.YtomphjajkkddkaaGreatDoor.mga
namespace Go.Proofs.YtomphjajkkddkaaGreatDoor.mgc
set_option linter.unusedSimpArgs false
open Go Go.RowKit
open arr mem stil polys polt pols nttl rndm saml spok rsdoc mlkm mlsm keca kstep kturn rkpb rkrw qrow helda heldb mgd rbita rbitd rbite bitp
theorem begin_any {T:Array Value} {S:Sg} (Z:Nat→Int) (n gs gt gm cm ga ca gb cb gl cl:Nat) (w:World) (hO:OKS T Z S) (hP:Gp w) (hn:n<814) (H:SGN T S gs gt gm cm ga ca gb cb gl cl w):
 Calls Tryz.prog 165 #[.pointer (some ⟨gs,0,none⟩),.int .i64 (n:Int)] w fun e w'=>(∃ gy cy gw cw,e=.returned (.agg (AT (.slice (some ⟨gy,0,none⟩) S.ln cy) (.slice (some ⟨gw,0,none⟩) S.kn cw) (tSum S n) (thereR S.ζ 8 (tC S n))))∧Holds w' 0 (.slice (some ⟨gy,0,none⟩) S.ln cy) S.ln (tY S n)∧Holds w' 0 (.slice (some ⟨gw,0,none⟩) S.kn cw) S.kn (tW S n))∧Below w.heap.size w w':=by
 obtain⟨hk,hl,-,-,ha,hbb,ho,hs⟩:=oks_all hO
 obtain⟨fn,hfn⟩:∃ fn,n*S.ln=fn:=⟨_,rfl⟩
 have hf1:fn≤65000:=by
  have:n*S.ln≤813*8:=Nat.mul_le_mul (by omega) hl.2
  omega
 have hmul:IntKind.i64.wrap ((S.ln:Int)*(n:Int))=(fn:Int):=by
  rw[show (S.ln:Int)*(n:Int)=((n*S.ln:Nat):Int) by rw[Int.natCast_mul,Int.mul_comm],hfn,IntKind.wrap_i64]
  omega
 obtain⟨lam,hlam⟩:∃ x,(S.s / 4).toNat=x:=⟨_,rfl⟩
 have hl4:(S.s / 4:Int)=(lam:Int):=by omega
 have hl4t:Int.tdiv S.s 4=(lam:Int):=by rw[Int.tdiv_eq_ediv_of_nonneg (by omega)];exact hl4
 have hlam2:lam≤64:=by omega
 have hlw:IntKind.i64.wrap (lam:Int)=(lam:Int):=by rw[IntKind.wrap_i64];omega
 have HMk0:∀ w1:World,Gp w1→Calls Tryz.prog 184 #[.agg T,.agg #[.int .i64 S.kn,.int .i64 S.ln,.int .i64 S.e,.int .i64 S.t,.int .i64 S.a,.int .i64 S.b,.int .i64 S.o,.int .i64 S.s],.string S.ms,.int .i64 (fn:Int)] w1 fun x w'=>(∃ v1,x=.returned v1∧Holds w' w1.heap.size v1 S.ln (tY S n))∧Below w1.heap.size w1 w':=fun w1 hg=>by
  have h:=qdoc.masks S.ln fn S.kn S.e S.t S.a S.b S.o S.s S.ms w1 hO.kt hg hf1 hO.lat (by rw[hO.ms];decide)
  rw[←hfn]at h ⊢
  exact h
 have HRw0:∀ (w1:World) (vv:Value) (B:Nat),MX w1 (.slice (some ⟨gm,0,none⟩) S.kn cm) S.kn (fun _=>S.ln) (qX S.rho)→Holds w1 B vv S.ln (tY S n)→Calls Tryz.prog 32 #[.agg T,.slice (some ⟨gm,0,none⟩) S.kn cm,vv] w1 fun e' w'=>(∃ v',e'=.returned v'∧Holds w' w1.heap.size v' S.kn (tW S n))∧Below w1.heap.size w1 w':=fun w1 vv B h1 h2=>by
  have h3:=krw.rows_any T Z S.kn S.ln (fun _=>S.ln) (qX S.rho) (tY S n) _ vv B w1 hO.zt.size hO.zt hk (fun _ _=>hl.2) hl h1 h2
  simp only[Nat.min_self,←hO.ez]at h3
  exact h3
 obtain⟨Hi,hHi⟩:=ex_eq (cat ByteArray.empty (fun i=>packed (tHi S n i) (8380416 / (2*S.b)-1)) S.kn)
 have HPh0:∀ (w1:World) (vv:Value) (B:Nat),SGN T S gs gt gm cm ga ca gb cb gl cl w1→Holds w1 B vv S.kn (tW S n)→Calls Tryz.prog 185 #[.pointer (some ⟨gs,0,none⟩),vv] w1 fun e w'=>e=.returned (.string Hi)∧Below w1.heap.size w1 w':=fun w1 vv B h1 h2=>by
  rw[←hHi.out]
  exact mgb.packHigh_any gs S.kn S.b vv B (tW S n) w1 hbb (h1.cell 6 _ rfl) h1.lts hk h2
 have hHs:Hi.size≤10000:=by
  rw[←hHi.out]
  have h1:∀ m,(cat ByteArray.empty (fun i=>packed (tHi S n i) (8380416 / (2*S.b)-1)) m).size=32*lb ((8380416:Int) / (2*S.b)-1).toNat*m:=fun m=>by
   rw[cat_size _ _ (32*lb ((8380416:Int) / (2*S.b)-1).toNat) m fun _ _=>size_packed _ _]
   exact Nat.zero_add _
  rw[h1]
  have h2:lb ((8380416:Int) / (2*S.b)-1).toNat≤6:=by rcases hbb with h | h<;>rw[h]<;>decide +kernel
  have h3:=Nat.mul_le_mul (Nat.mul_le_mul (Nat.le_refl 32) h2) hk.2
  omega
 have hsum:out TL RL 2 (S.mu++Hi) lam=tSum S n:=by
  unfold tSum
  rw[←hlam,←hHi.out,cat_nil]
 have HSh0:∀ w1:World,Gp w1→w1.heap[gt]? = some (.cells T 34 (0,0))→Calls Tryz.prog 163 #[.pointer (some ⟨gt,0,none⟩),.string (S.mu++Hi),.int .i64 (lam:Int)] w1 fun x w'=>x=.returned (.string (tSum S n))∧Below w1.heap.size w1 w':=fun w1 hg hr=>by
  rw[←hsum]
  exact mga.shake_any gt _ lam w1 hO.kt hg hr (by omega) (by rw[ByteArray.size_append,hO.mu];omega)
 have hss:(tSum S n).size≤64:=by rw[mlsb.tSum_size,hlam];exact hlam2
 have HBa0:∀ w1:World,Gp w1→Calls Tryz.prog 34 #[.agg T,.string (tSum S n),.int .i64 S.t] w1 fun x w'=>x=.returned (.agg (FL .i64 256 (tC S n)))∧Below w1.heap.size w1 w':=fun w1 hg=>qdoc.ball (tSum S n) S.t w1 hO.kt hg (by omega)
 have HTh0:∀ w1:World,Calls Tryz.prog 79 #[.agg T,.agg (FL .i64 256 (tC S n))] w1 fun e w'=>e=.returned (.agg (FL .i64 256 (thereR S.ζ 8 (tC S n))))∧Below w1.heap.size w1 w':=fun w1=>by rw[hO.ez];exact nthere.there_any T Z _ w1 hO.zt
 have hms:S.mu.size=64:=hO.mu
 have HTz:Away ((Tryz.prog.info? 34).map (·.size)=some T.size):=⟨by rw[hO.zt.size];kernel_rfl⟩
 obtain⟨hz,hsize⟩:=zero_of_info infoAtz
 obtain⟨z,HZ⟩:=ex_eq (AT (.slice none 0 0) (.slice none 0 0) ⟨#[]⟩ fun _=>0)
 rw[HZ.out]at hz
 have Hzs:Away (z.size=259):=⟨by rw[←HZ.out];exact at_size _ _ _ _⟩
 have Hsize:=Away.mk hsize
 obtain⟨W,hW⟩:∃ x,w.alloc (.cells z 185)=x:=⟨_,rfl⟩
 obtain⟨r0,hWs,b0⟩:=one hW
 have HG:Away (∀ w':World,Below W.heap.size W w'→SGN T S gs gt gm cm ga ca gb cb gl cl w'):=⟨fun w' hb=>H.later (b0.trans (hb.mono b0.size))⟩
 have GP:Away (∀ w':World,Below W.heap.size W w'→Gp w'):=⟨fun w' hb=>hP.later (b0.trans (hb.mono b0.size))⟩
 have HP0:=Away.mk hP
 have HH:=Away.mk H
 have R0:=Away.mk r0
 have B0:=Away.mk b0
 have HWs:=Away.mk hWs
 have HW:=Away.mk hW
 have c0:∀ w':World,Below W.heap.size W w'→w'.cell? ⟨gs,0,none⟩=some (.pointer (some ⟨gt,0,none⟩)):=fun w' hb=>(HG.out w' hb).cell 0 _ rfl
 have c2:∀ w':World,Below W.heap.size W w'→w'.cell? ⟨gs,2,none⟩=some (.int .i64 S.ln):=fun w' hb=>(HG.out w' hb).cell 2 _ rfl
 have c4:∀ w':World,Below W.heap.size W w'→w'.cell? ⟨gs,4,none⟩=some (.int .i64 S.t):=fun w' hb=>(HG.out w' hb).cell 4 _ rfl
 have c8:∀ w':World,Below W.heap.size W w'→w'.cell? ⟨gs,8,none⟩=some (.int .i64 S.s):=fun w' hb=>(HG.out w' hb).cell 8 _ rfl
 have c9:∀ w':World,Below W.heap.size W w'→w'.cell? ⟨gs,9,none⟩=some (.slice (some ⟨gm,0,none⟩) S.kn cm):=fun w' hb=>(HG.out w' hb).cell 9 _ rfl
 have c13:∀ w':World,Below W.heap.size W w'→w'.cell? ⟨gs,13,none⟩=some (.string S.mu):=fun w' hb=>(HG.out w' hb).cell 13 _ rfl
 have c14:∀ w':World,Below W.heap.size W w'→w'.cell? ⟨gs,14,none⟩=some (.string S.ms):=fun w' hb=>(HG.out w' hb).cell 14 _ rfl
 obtain⟨C,hC⟩:=ex_eq (#[.int .i64 S.kn,.int .i64 S.ln,.int .i64 S.e,.int .i64 S.t,.int .i64 S.a,.int .i64 S.b,.int .i64 S.o,.int .i64 S.s]:Array Value)
 have CL:Away (∀ w':World,Below W.heap.size W w'→w'.rangeAt gs 1 C.toList):=⟨fun w' hb=>by rw[←hC.out];exact(HG.out w' hb).lat⟩
 have Ci:Away ((Tryz.prog.info? 37).map (·.size)=some C.toList.length):=⟨by rw[←hC.out];kernel_rfl⟩
 rw[hC.out]at HMk0
 obtain⟨Y,hY⟩:=ex_eq (tY S n)
 obtain⟨Wv,hWv⟩:=ex_eq (tW S n)
 obtain⟨sum,hsm⟩:=ex_eq (tSum S n)
 obtain⟨c,hc⟩:=ex_eq (tC S n)
 obtain⟨tc,htc⟩:=ex_eq (thereR S.ζ 8 (tC S n))
 have htc2:thereR S.ζ 8 c=tc:=by rw[←hc.out];exact htc.out
 rw[htc.out]
 simp only[hY.out,hWv.out,hsm.out,hc.out,htc2]at HMk0 HRw0 HPh0 HSh0 HBa0 HTh0 ⊢
 obtain⟨Fc,hFc⟩:=ex_eq (FL .i64 256 c)
 rw[hFc.out]at HBa0 HTh0
 obtain⟨mu,hmu⟩:∃ x,S.mu=x:=⟨_,rfl⟩
 obtain⟨kn,hkn⟩:∃ x,S.kn=x:=⟨_,rfl⟩
 obtain⟨ln,hln⟩:∃ x,S.ln=x:=⟨_,rfl⟩
 obtain⟨sg,hsg⟩:∃ x,S.s=x:=⟨_,rfl⟩
 obtain⟨st,hst⟩:∃ x,S.t=x:=⟨_,rfl⟩
 obtain⟨ms,hmss⟩:∃ x,S.ms=x:=⟨_,rfl⟩
 rw[hmu]at HSh0 c13 hms
 rw[hkn]at HRw0 HPh0 c9 ⊢
 rw[hln]at HMk0 HRw0 c2 hmul ⊢
 rw[hsg]at c8 hl4 hl4t
 rw[hst]at HBa0 c4
 rw[hmss]at HMk0 c14
 have hcat:¬ 9223372036854775807<mu.size+Hi.size:=by omega
 clear hms
 have HMk:=Away.mk HMk0
 have HRw:=Away.mk HRw0
 have HPh:=Away.mk HPh0
 have HSh:=Away.mk HSh0
 have HBa:=Away.mk HBa0
 have HTh:=Away.mk HTh0
 have hlnn : 1≤ln∧ln≤8:=by omega
 have hknn : 1≤kn∧kn≤8:=by omega
 have HMXf:Away (∀ w':World,Below W.heap.size W w'→MX w' (.slice (some ⟨gm,0,none⟩) kn cm) kn (fun _=>ln) (qX S.rho)):=⟨fun w' hb=>by
  have:=(HG.out w' hb).mat
  rw[hkn,hln]at this
  exact this⟩
 clear hsize hW r0 b0 hWs HZ hP H hHi hsum hss hO ha ho hs hbb hk hl hlam hHs hfn hf1 hC hY hWv hsm hc htc htc2 hmu hkn hln hsg hst hmss HMk0 HRw0 HPh0 HSh0 HBa0 HTh0 hlam2
 go_enter Tryz.func165,Tryz.ntmps165
 go_wp2_with (rw[HW.out])
 refine hk_begin (W.heap.size) 23 [0,1,2,3,4,5,6,7,8,9,10,11,12,13,14,15,16,17,18,19,20,21,22] (by kernel_rfl) rfl rfl (by decide) (fun hS ops HO=>?_)
 simp only[List.filterMap_cons,fa,List.getElem?_cons_succ,List.getElem?_cons_zero]
 iterate 3 ((refine hk_t (v:=?_) (by rw[←HO.out];kernel_rfl) (fun _ _ _ h=>h) ?_ hS ?_;rotate_left;focus (intro w9 h9;go_simp;first | done | with_reducible rfl);all_goals skip);simp only[Act.put,pa,pb,pc])
 (refine hk_t (v:=?_) (by rw[←HO.out];kernel_rfl) (fun _ _ _ h=>h) ?_ hS ?_;rotate_left;focus (intro w9 h9;have hc:=c0 w9 h9;go_simp;first | done | with_reducible rfl);all_goals skip)
 simp only[Act.put,pa,pb,pc]
 (refine hk_t (v:=?_) (by rw[←HO.out];kernel_rfl) (fun _ _ _ h=>h) ?_ hS ?_;rotate_left;focus (intro w9 h9;go_simp;first | done | with_reducible rfl);all_goals skip)
 simp only[Act.put,pa,pb,pc]
 refine hk_l (by rw[←HO.out];kernel_rfl) (fun _ _ _ _ h=>h) 34 _ rfl gt rfl 34 T _ (fun w1 h1=>(HG.out w1 h1).tab) Tryz.underlying34 rfl HTz.out hS ?_
 iterate 3 (simp only[Act.put,pa,pb,pc];(refine hk_t (v:=?_) (by rw[←HO.out];kernel_rfl) (fun _ _ _ h=>h) ?_ hS ?_;rotate_left;focus (intro w9 h9;go_simp;first | done | with_reducible rfl);all_goals skip))
 simp only[Act.put,pa,pb,pc]
 refine hk_m (by rw[←HO.out];kernel_rfl) (fun _ _ _ _ h=>h) 37 _ rfl gs 1 rfl C _ CL.out Tryz.underlying37 rfl Ci.out hS ?_
 iterate 3 (simp only[Act.put,pa,pb,pc];(refine hk_t (v:=?_) (by rw[←HO.out];kernel_rfl) (fun _ _ _ h=>h) ?_ hS ?_;rotate_left;focus (intro w9 h9;go_simp;first | done | with_reducible rfl);all_goals skip))
 simp only[Act.put,pa,pb,pc]
 (refine hk_t (v:=?_) (by rw[←HO.out];kernel_rfl) (fun _ _ _ h=>h) ?_ hS ?_;rotate_left;focus (intro w9 h9;have hc:=c14 w9 h9;go_simp;first | done | with_reducible rfl);all_goals skip)
 iterate 4 (simp only[Act.put,pa,pb,pc];(refine hk_t (v:=?_) (by rw[←HO.out];kernel_rfl) (fun _ _ _ h=>h) ?_ hS ?_;rotate_left;focus (intro w9 h9;go_simp;first | done | with_reducible rfl);all_goals skip))
 simp only[Act.put,pa,pb,pc]
 (refine hk_t (v:=?_) (by rw[←HO.out];kernel_rfl) (fun _ _ _ h=>h) ?_ hS ?_;rotate_left;focus (intro w9 h9;have hc:=c2 w9 h9;go_simp;first | done | with_reducible rfl);all_goals skip)
 iterate 2 (simp only[Act.put,pa,pb,pc];(refine hk_t (v:=?_) (by rw[←HO.out];kernel_rfl) (fun _ _ _ h=>h) ?_ hS ?_;rotate_left;focus (intro w9 h9;go_simp;first | done | with_reducible rfl);all_goals skip))
 simp only[Act.put,pa,pb,pc]
 refine hk_s (by rw[←HO.out];kernel_rfl) (fun K hK=>?_)
 go_simp
 refine(HMk.out _ (GP.out _ hS)).mono ?_
 rintro x w2 ⟨⟨vy,rfl,hy⟩,hb2⟩
 have h2:=hS.trans (hb2.mono hS.size)
 obtain⟨gy,cy,rfl,hgy⟩:=hd_any hy
 refine hK _ _ h2 ?_
 clear hK K
 try simp only[Act.put,pa,pb,pc]
 (refine hk_t (v:=?_) (by rw[←HO.out];kernel_rfl) (fun _ _ _ h=>h) ?_ h2 ?_;rotate_left;focus (intro w9 h9;go_simp;first | done | with_reducible rfl);all_goals skip)
 simp only[Act.put,pa,pb,pc]
 refine hk_nil (by rw[←HO.out];kernel_rfl) ?_
 have E2:Away (Below W.heap.size W w2):=⟨h2⟩
 have HY:=Away.mk hy
 have L2:Away (W.heap.size≤w2.heap.size):=⟨h2.size⟩
 clear hS HO hb2 h2 hy hgy
 go_wp2_with fail
 have U0:∀ w':World,Below w2.heap.size w2 w'→Below W.heap.size W w':=fun w' hb=>E2.out.trans (hb.mono L2.out)
 refine hk_begin (w2.heap.size) 13 [0,1,2,3,4,5,6,7,8,9,10,11,12] (by kernel_rfl) rfl rfl (by decide) (fun hS ops HO=>?_)
 simp only[List.filterMap_cons,fa,List.getElem?_cons_succ,List.getElem?_cons_zero]
 iterate 3 ((refine hk_t (v:=?_) (by rw[←HO.out];kernel_rfl) (fun _ _ _ h=>h) ?_ hS ?_;rotate_left;focus (intro w9 h9;go_simp;first | done | with_reducible rfl);all_goals skip);simp only[Act.put,pa,pb,pc])
 (refine hk_t (v:=?_) (by rw[←HO.out];kernel_rfl) (fun _ _ _ h=>h) ?_ hS ?_;rotate_left;focus (intro w9 h9;have hc:=c0 w9 (U0 w9 h9);go_simp;first | done | with_reducible rfl);all_goals skip)
 simp only[Act.put,pa,pb,pc]
 (refine hk_t (v:=?_) (by rw[←HO.out];kernel_rfl) (fun _ _ _ h=>h) ?_ hS ?_;rotate_left;focus (intro w9 h9;go_simp;first | done | with_reducible rfl);all_goals skip)
 simp only[Act.put,pa,pb,pc]
 refine hk_l (by rw[←HO.out];kernel_rfl) (fun _ _ _ _ h=>h) 34 _ rfl gt rfl 34 T _ (fun w1 h1=>(HG.out w1 (U0 w1 h1)).tab) Tryz.underlying34 rfl HTz.out hS ?_
 iterate 3 (simp only[Act.put,pa,pb,pc];(refine hk_t (v:=?_) (by rw[←HO.out];kernel_rfl) (fun _ _ _ h=>h) ?_ hS ?_;rotate_left;focus (intro w9 h9;go_simp;first | done | with_reducible rfl);all_goals skip))
 simp only[Act.put,pa,pb,pc]
 (refine hk_t (v:=?_) (by rw[←HO.out];kernel_rfl) (fun _ _ _ h=>h) ?_ hS ?_;rotate_left;focus (intro w9 h9;have hc:=c9 w9 (U0 w9 h9);go_simp;first | done | with_reducible rfl);all_goals skip)
 simp only[Act.put,pa,pb,pc]
 (refine hk_t (v:=?_) (by rw[←HO.out];kernel_rfl) (fun _ _ _ h=>h) ?_ hS ?_;rotate_left;focus (intro w9 h9;go_simp;first | done | with_reducible rfl);all_goals skip)
 simp only[Act.put,pa,pb,pc]
 refine hk_s (by rw[←HO.out];kernel_rfl) (fun K hK=>?_)
 go_simp
 refine(HRw.out _ _ _ (HMXf.out _ (U0 _ hS)) (HY.out.later hS)).mono ?_
 rintro x w3 ⟨⟨vw,rfl,hw⟩,hb3⟩
 have h3:=hS.trans (hb3.mono hS.size)
 obtain⟨gw,cw,rfl,hgw⟩:=hd_any hw
 refine hK _ _ h3 ?_
 clear hK K
 try simp only[Act.put,pa,pb,pc]
 (refine hk_t (v:=?_) (by rw[←HO.out];kernel_rfl) (fun _ _ _ h=>h) ?_ h3 ?_;rotate_left;focus (intro w9 h9;go_simp;first | done | with_reducible rfl);all_goals skip)
 simp only[Act.put,pa,pb,pc]
 refine hk_nil (by rw[←HO.out];kernel_rfl) ?_
 have E3:Away (Below W.heap.size W w3):=⟨U0 _ h3⟩
 have HYy:=Away.mk (HY.out.later h3)
 have HWw:=Away.mk hw
 have L3:Away (W.heap.size≤w3.heap.size):=⟨E3.out.size⟩
 clear hS HO hb3 h3 hw hgw U0 HY
 go_wp2_with fail
 have U0:∀ w':World,Below w3.heap.size w3 w'→Below W.heap.size W w':=fun w' hb=>E3.out.trans (hb.mono L3.out)
 refine hk_begin (w3.heap.size) 20 [0,1,2,3,4,5,6,7,8,9,12,13,14,15,16,17,10,11,18,19] (by kernel_rfl) rfl rfl (by decide) (fun hS ops HO=>?_)
 simp only[List.filterMap_cons,fa,List.getElem?_cons_succ,List.getElem?_cons_zero]
 iterate 3 ((refine hk_t (v:=?_) (by rw[←HO.out];kernel_rfl) (fun _ _ _ h=>h) ?_ hS ?_;rotate_left;focus (intro w9 h9;go_simp;first | done | with_reducible rfl);all_goals skip);simp only[Act.put,pa,pb,pc])
 (refine hk_t (v:=?_) (by rw[←HO.out];kernel_rfl) (fun _ _ _ h=>h) ?_ hS ?_;rotate_left;focus (intro w9 h9;have hc:=c0 w9 (U0 w9 h9);go_simp;first | done | with_reducible rfl);all_goals skip)
 iterate 3 (simp only[Act.put,pa,pb,pc];(refine hk_t (v:=?_) (by rw[←HO.out];kernel_rfl) (fun _ _ _ h=>h) ?_ hS ?_;rotate_left;focus (intro w9 h9;go_simp;first | done | with_reducible rfl);all_goals skip))
 simp only[Act.put,pa,pb,pc]
 (refine hk_t (v:=?_) (by rw[←HO.out];kernel_rfl) (fun _ _ _ h=>h) ?_ hS ?_;rotate_left;focus (intro w9 h9;have hc:=c13 w9 (U0 w9 h9);go_simp;first | done | with_reducible rfl);all_goals skip)
 iterate 6 (simp only[Act.put,pa,pb,pc];(refine hk_t (v:=?_) (by rw[←HO.out];kernel_rfl) (fun _ _ _ h=>h) ?_ hS ?_;rotate_left;focus (intro w9 h9;go_simp;first | done | with_reducible rfl);all_goals skip))
 simp only[Act.put,pa,pb,pc]
 (refine hk_t (v:=?_) (by rw[←HO.out];kernel_rfl) (fun _ _ _ h=>h) ?_ hS ?_;rotate_left;focus (intro w9 h9;have hc:=c8 w9 (U0 w9 h9);go_simp;first | done | with_reducible rfl);all_goals skip)
 simp only[Act.put,pa,pb,pc]
 (refine hk_t (v:=?_) (by rw[←HO.out];kernel_rfl) (fun _ _ _ h=>h) ?_ hS ?_;rotate_left;focus (intro w9 h9;go_simp;first | done | with_reducible rfl);all_goals skip)
 simp only[Act.put,pa,pb,pc]
 refine hk_s (by rw[←HO.out];kernel_rfl) (fun K hK=>?_)
 go_simp
 refine(HPh.out _ _ _ (HG.out _ (U0 _ hS)) (HWw.out.later hS)).mono ?_
 rintro x w4 ⟨rfl,hb4⟩
 have h4:=hS.trans (hb4.mono hS.size)
 refine hK _ _ h4 ?_
 clear hK K
 try simp only[Act.put,pa,pb,pc]
 (refine hk_t (v:=?_) (by rw[←HO.out];kernel_rfl) (fun _ _ _ h=>h) ?_ h4 ?_;rotate_left;focus (intro w9 h9;go_simp;first | done | with_reducible rfl);all_goals skip)
 simp only[Act.put,pa,pb,pc]
 refine hk_s (by rw[←HO.out];kernel_rfl) (fun K hK=>?_)
 go_simp
 refine(HSh.out _ (GP.out _ (U0 _ h4)) (HG.out _ (U0 _ h4)).tab).mono ?_
 rintro x w5 ⟨rfl,hb5⟩
 have h5:=h4.trans (hb5.mono h4.size)
 refine hK _ _ h5 ?_
 clear hK K
 try simp only[Act.put,pa,pb,pc]
 (refine hk_t (v:=?_) (by rw[←HO.out];kernel_rfl) (fun _ _ _ h=>h) ?_ h5 ?_;rotate_left;focus (intro w9 h9;go_simp;first | done | with_reducible rfl);all_goals skip)
 simp only[Act.put,pa,pb,pc]
 refine hk_nil (by rw[←HO.out];kernel_rfl) ?_
 have E5:Away (Below W.heap.size W w5):=⟨U0 _ h5⟩
 have HY5:=Away.mk (HYy.out.later h5)
 have HW5:=Away.mk (HWw.out.later h5)
 have L5:Away (W.heap.size≤w5.heap.size):=⟨E5.out.size⟩
 clear hS HO hb4 h4 hb5 h5 U0 HYy HWw
 go_wp2_with fail
 have U0:∀ w':World,Below w5.heap.size w5 w'→Below W.heap.size W w':=fun w' hb=>E5.out.trans (hb.mono L5.out)
 refine hk_begin (w.heap.size) 25 [0,1,2,3,4,5,6,7,8,9,10,11,12,13,14,15,16,17,18,19,20,21,22,23,24] (by kernel_rfl) rfl rfl (by decide) (fun hS ops HO=>?_)
 simp only[List.filterMap_cons,fa,List.getElem?_cons_succ,List.getElem?_cons_zero]
 have V0:∀ w':World,Below w.heap.size w5 w'→w'.cell? ⟨gs,0,none⟩=some (.pointer (some ⟨gt,0,none⟩))∧w'.cell? ⟨gs,4,none⟩=some (.int .i64 st)∧w'.heap[gt]? = some (.cells T 34 (0,0)):=fun w' hb=>by
  have h5:=U0 w5 (Below.refl _ _)
  have l1:=HH.out.lts
  have l2:=HH.out.ltt
  exact⟨(hb.cell (p:=⟨gs,0,none⟩) l1).trans (c0 _ h5),(hb.cell (p:=⟨gs,4,none⟩) l1).trans (c4 _ h5),(hb.block _ l2).trans (HG.out _ h5).tab⟩
 iterate 6 ((refine hk_t (v:=?_) (by rw[←HO.out];kernel_rfl) (fun _ _ _ h=>h) ?_ hS ?_;rotate_left;focus (intro w9 h9;go_simp;first | done | with_reducible rfl);all_goals skip);simp only[Act.put,pa,pb,pc])
 (refine hk_t (v:=?_) (by rw[←HO.out];kernel_rfl) (fun _ _ _ h=>h) ?_ hS ?_;rotate_left;focus (intro w9 h9;have hc:=(V0 w9 h9).1;go_simp;first | done | with_reducible rfl);all_goals skip)
 simp only[Act.put,pa,pb,pc]
 (refine hk_t (v:=?_) (by rw[←HO.out];kernel_rfl) (fun _ _ _ h=>h) ?_ hS ?_;rotate_left;focus (intro w9 h9;go_simp;first | done | with_reducible rfl);all_goals skip)
 simp only[Act.put,pa,pb,pc]
 refine hk_l (by rw[←HO.out];kernel_rfl) (fun _ _ _ _ h=>h) 34 _ rfl gt rfl 34 T _ (fun w1 h1=>(V0 w1 h1).2.2) Tryz.underlying34 rfl HTz.out hS ?_
 iterate 3 (simp only[Act.put,pa,pb,pc];(refine hk_t (v:=?_) (by rw[←HO.out];kernel_rfl) (fun _ _ _ h=>h) ?_ hS ?_;rotate_left;focus (intro w9 h9;go_simp;first | done | with_reducible rfl);all_goals skip))
 simp only[Act.put,pa,pb,pc]
 (refine hk_t (v:=?_) (by rw[←HO.out];kernel_rfl) (fun _ _ _ h=>h) ?_ hS ?_;rotate_left;focus (intro w9 h9;have hc:=(V0 w9 h9).1;go_simp;first | done | with_reducible rfl);all_goals skip)
 simp only[Act.put,pa,pb,pc]
 (refine hk_t (v:=?_) (by rw[←HO.out];kernel_rfl) (fun _ _ _ h=>h) ?_ hS ?_;rotate_left;focus (intro w9 h9;go_simp;first | done | with_reducible rfl);all_goals skip)
 simp only[Act.put,pa,pb,pc]
 refine hk_l (by rw[←HO.out];kernel_rfl) (fun _ _ _ _ h=>h) 34 _ rfl gt rfl 34 T _ (fun w1 h1=>(V0 w1 h1).2.2) Tryz.underlying34 rfl HTz.out hS ?_
 iterate 5 (simp only[Act.put,pa,pb,pc];(refine hk_t (v:=?_) (by rw[←HO.out];kernel_rfl) (fun _ _ _ h=>h) ?_ hS ?_;rotate_left;focus (intro w9 h9;go_simp;first | done | with_reducible rfl);all_goals skip))
 simp only[Act.put,pa,pb,pc]
 (refine hk_t (v:=?_) (by rw[←HO.out];kernel_rfl) (fun _ _ _ h=>h) ?_ hS ?_;rotate_left;focus (intro w9 h9;have hc:=(V0 w9 h9).2.1;go_simp;first | done | with_reducible rfl);all_goals skip)
 simp only[Act.put,pa,pb,pc]
 have hwl:w.heap.size≤w5.heap.size:=Nat.le_trans B0.out.size L5.out
 have hd5:Below w5.heap.size w5 w5.drew:=(Below.refl _ _).drew
 refine hk_s (by rw[←HO.out];kernel_rfl) (fun K hK=>?_)
 go_simp
 refine(HBa.out _ (GP.out _ (U0 _ hd5))).mono ?_
 rintro x w6 ⟨rfl,hb6⟩
 have h6:=hS.trans (hb6.mono (Nat.le_trans hwl hS.size))
 have k6:Below w5.heap.size w5 w6:=hd5.trans (hb6.mono hd5.size)
 refine hK _ _ h6 ?_
 clear hK K
 try simp only[Act.put,pa,pb,pc]
 refine hk_s (by rw[←HO.out];kernel_rfl) (fun K hK=>?_)
 go_simp
 refine(HTh.out _).mono ?_
 rintro x w7 ⟨rfl,hb7⟩
 have h7:=h6.trans (hb7.mono (Nat.le_trans hwl h6.size))
 have k7:Below w5.heap.size w5 w7:=k6.trans (hb7.mono k6.size)
 refine hK _ _ h7 ?_
 clear hK K
 try simp only[Act.put,pa,pb,pc]
 refine hk_b (by rw[←HO.out];kernel_rfl) (fun _ _ _ _ h=>h) (.agg (AT (.slice (some ⟨gy,0,none⟩) ln cy) (.slice (some ⟨gw,0,none⟩) kn cw) sum tc)) (fun w1=>exec_build4 _ rfl rfl rfl rfl rfl _ (built_at _ _ _ _ _ _ _ _) w1) h7 ?_
 simp only[Act.put,pa,pb,pc]
 have R7:w7.heap[w.heap.size]? = some (.cells z 185 (0,0)):=(k7.block _ (Nat.lt_of_lt_of_le (lt_of_row R0.out) L5.out)).trans ((E5.out.block _ (lt_of_row R0.out)).trans R0.out)
 obtain⟨R,HR⟩:=ex_eq (AT (.slice (some ⟨gy,0,none⟩) ln cy) (.slice (some ⟨gw,0,none⟩) kn cw) sum tc)
 have Ri:(Tryz.prog.info? 185).map (·.size)=some R.size:=by rw[←HR.out,at_size];exact infoAt
 have Ro:R.all (·.oneCell')=true:=by rw[←HR.out];exact at_one _ _ _ _ _ _ _ _
 have Rz:z.size=R.size:=by rw[Hzs.out,←HR.out,at_size]
 rw[HR.out]
 refine hk_s (by rw[←HO.out];kernel_rfl) (fun K hK=>?_)
 refine wp_store_row 185 _ _ rfl w.heap.size R rfl rfl 185 _ R7 Ri Rz Ro ?_
 have h8:=h7.trans (below_setRow (B:=w.heap.size) w7 w.heap.size R (Nat.le_refl _))
 refine hK _ _ h8 ?_
 clear hK K
 refine hk_nil (by rw[←HO.out];kernel_rfl) ?_
 go_wp2_with fail
 refine bodyPost_ret_by (v:=.agg R) (results_cell_row rfl _ _ w.heap.size 185 _ (0,0) _ rfl (setRow_heap _ _ _ _ _ _ R7) Tryz.underlying185 rfl Ri) rfl ?_
 have q1:=rkse.holds_base (holds_set (HY5.out.later k7) (show w.heap.size<W.heap.size by have:=HWs.out;omega) R)
 have q2:=rkse.holds_base (holds_set (HW5.out.later k7) (Nat.lt_of_lt_of_le (show w.heap.size<W.heap.size by have:=HWs.out;omega) L2.out) R)
 exact⟨⟨gy,cy,gw,cw,by rw[HR.out],q1,q2⟩,(B0.out.trans (E5.out.mono B0.out.size)).trans h8⟩
end Go.Proofs.YtomphjajkkddkaaGreatDoor.mgc
namespace Go.Proofs.YtomphjajkkddkaaGreatDoor.mge
set_option linter.unusedSimpArgs false
open Go Go.RowKit
open arr mem stil polys polt pols nttl rndm saml spok rsdoc mlkm mlsm keca kstep kturn rkpb rkrw qrow helda heldb mgd
theorem answers_any {T:Array Value} {S:Sg} (Z:Nat→Int) (n gs gt gm cm ga ca gb cb' gl cl gn gy cy gw cw:Nat) (w:World) (hO:OKS T Z S) (H:SGN T S gs gt gm cm ga ca gb cb' gl cl w)
 (hA:w.heap[gn]? = some (.cells (AT (.slice (some ⟨gy,0,none⟩) S.ln cy) (.slice (some ⟨gw,0,none⟩) S.kn cw) (tSum S n) (thereR S.ζ 8 (tC S n))) 185 (0,0))) (HYy:Holds w 0 (.slice (some ⟨gy,0,none⟩) S.ln cy) S.ln (tY S n)):
 Calls Tryz.prog 166 #[.pointer (some ⟨gs,0,none⟩),.pointer (some ⟨gn,0,none⟩)] w fun e w'=>(∃ v,e=.returned (.tuple #[v,.bool (decide (fldm.cbs (tZ S n) S.ln<S.a-S.t*S.e))])∧Holds w' w.heap.size v S.ln (tZ S n))∧Below w.heap.size w w':=by
 obtain⟨hk,hl,he,ht,ha,hbb,ho,hs⟩:=oks_all hO
 obtain⟨m,hm⟩:∃ m,S.t*S.e=m:=⟨_,rfl⟩
 have hm2 : 0≤m∧m≤256:=by rw[←hm];rcases he with h | h<;>rw[h]<;>omega
 have hmw:IntKind.i64.wrap (S.t*S.e)=m:=by rw[hm,IntKind.wrap_i64];omega
 have hpol:=at_poly hA
 have c0n:w.cell? ⟨gn,0,none⟩=some (.slice (some ⟨gy,0,none⟩) S.ln cy):=cell_at hA rfl
 have lgn:=lt_of_row hA
 obtain⟨gA,cA,eA,hgA⟩:=hd_any H.ha
 have HPr0:∀ r,r<S.ln→∀ w1:World,Below w.heap.size w w1→Calls Tryz.prog 186 #[.pointer (some ⟨gs,0,none⟩),.pointer (some ⟨gn,3,none⟩),.pointer (some ⟨ga,r*256,none⟩)] w1 fun e w'=>e=.returned (.agg (FL .i64 256 (one S.ζ (tC S n) (S.A r))))∧Below w1.heap.size w1 w':=fun r hr w1 hb=>by
  have h1:=H.later hb
  rw[←mul_one]
  have h2:=mga.product_any (T:=T) Z gs gt gn 3 ga (r*256) (thereR S.ζ 8 (tC S n)) (thereR S.ζ 8 (S.A r)) w1 hO.zt (h1.cell 0 _ rfl) h1.tab (range_later hpol lgn hb) (hd_row h1.ha r hr) h1.lts (Nat.lt_of_lt_of_le lgn hb.size) (by
   obtain⟨g9,c9,e9,-,h9,-⟩:=h1.ha
   injection e9 with e9 _ _
   iterate 2 (injection e9 with e9)
   rw[e9];exact h9)
  rw[←hO.ez]at h2
  exact h2
 have HAd0:∀ r,∀ w1:World,Calls Tryz.prog 80 #[.agg (FL .i64 256 (tY S n r)),.agg (FL .i64 256 (one S.ζ (tC S n) (S.A r)))] w1 fun e w'=>e=.returned (.agg (FL .i64 256 (tZ S n r)))∧Below w1.heap.size w1 w':=fun r w1=>fadd.add_any _ _ w1
 have HMr0:∀ w1:World,Below w.heap.size w w1→Calls Tryz.prog 187 #[.pointer (some ⟨gs,0,none⟩)] w1 fun e w'=>e=.returned (.int .i64 m)∧Below w1.heap.size w1 w':=fun w1 hb=>by
  have h1:=H.later hb
  refine(mga.margin_any gs S.t S.e m w1 (h1.cell 4 _ rfl) (h1.cell 3 _ rfl) hmw).mono ?_
  rintro e w' ⟨rfl,rfl⟩
  exact⟨rfl,(Below.refl _ _).drew⟩
 obtain⟨i0,hi,hz0,hz1,hz2⟩:=tparts infoPoly
 obtain⟨hz,hsize⟩:=zero_of_info polt.infoP
 obtain⟨z,HZ⟩:=ex_eq (FL .i64 256 fun _=>0)
 rw[HZ.out]at hz hz0
 have HI:=Away.mk (And.intro hi (And.intro hz0 (And.intro hz1 hz2)))
 have Hsize:=Away.mk hsize
 have HG:=Away.mk H
 have HYv:=Away.mk HYy
 have hgy:gy<w.heap.size:=by
  obtain⟨g9,c9,e9,-,h9,-⟩:=HYy
  injection e9 with e9 _ _
  iterate 2 (injection e9 with e9)
  rw[e9];exact h9
 have HGy:=Away.mk hgy
 have c10:w.cell? ⟨gs,10,none⟩=some (.slice (some ⟨ga,0,none⟩) S.ln ca):=H.cell 10 _ rfl
 have c5:w.cell? ⟨gs,5,none⟩=some (.int .i64 S.a):=H.cell 5 _ rfl
 have lgs:=H.lts
 obtain⟨lim,hlim⟩:∃ x,S.a-m=x:=⟨_,rfl⟩
 have hlimw:IntKind.i64.wrap (S.a-m)=lim:=by rw[hlim,IntKind.wrap_i64];omega
 rw[hm,hlim]
 obtain⟨al,hal⟩:∃ x,S.a=x:=⟨_,rfl⟩
 rw[hal]at c5 hlimw
 obtain⟨ln,hln⟩:∃ x,S.ln=x:=⟨_,rfl⟩
 rw[hln]at HPr0 c0n c10 HYv hl ⊢
 obtain⟨zz,hzz⟩:=ex_eq (tZ S n)
 obtain⟨yy,hyy⟩:=ex_eq (tY S n)
 obtain⟨pp,hpp⟩:=ex_eq (fun r=>one S.ζ (tC S n) (S.A r))
 have hpp2:∀ r,one S.ζ (tC S n) (S.A r)=pp r:=fun r=>by rw[←hpp.out]
 simp only[hpp2]at HPr0 HAd0
 simp only[hzz.out,hyy.out]at HAd0 HYv ⊢
 obtain⟨X,HX⟩:=ex_eq (fldm.cbs zz ln)
 rw[HX.out]
 have HPr:=Away.mk HPr0
 have HAd:=Away.mk HAd0
 have HMr:=Away.mk HMr0
 have C0n:=Away.mk c0n
 have C10:=Away.mk c10
 have C5:=Away.mk c5
 have Lgs:=Away.mk lgs
 have Lgn:=Away.mk lgn
 have hln8:=hl.2
 clear hi hz0 hz1 hz2 hsize hk hl he ht ha hbb ho hs hm hm2 hmw hpol lgn eA hgA HPr0 HAd0 HMr0 HYy hgy c10 c5 lgs hlim hal hln hzz hyy hpp hpp2 hA H hO
 go_enter Tryz.func166,Tryz.ntmps166
 go_wp2_with (at_make;refine wpList_make_full _ rfl (.tmp 12) (.tmp 12) 44 rfl w.heap.size 76 i0 (.agg z) 256 Tryz.underlying44 HI.out.1 HI.out.2.1 HI.out.2.2.1 .i64 .i64 ln ln ln rfl rfl rfl rfl (by rw[HI.out.2.2.2];omega) (by unfold maxLen;omega) (Nat.le_refl _) ?_)
 clear c0n
 intro w3 hown hgr
 obtain⟨hrow,hb3⟩:=made_row HZ.out hown hgr
 obtain⟨go,hgo⟩:∃ a,w.heap.size=a:=⟨_,rfl⟩
 rw[hgo]at hrow ⊢
 have A3:Away (At go (RW ln (fst zz 0)) 76 w3 w3):=⟨by rw[fst_zero];exact At.refl hrow⟩
 have B3:Away (Below w.heap.size w w3):=⟨hb3⟩
 have Hgo:=Away.mk hgo
 clear hown hgr hrow hb3 hgo
 go_wp2_with fail
 go_loopw [16] (fun iv wr=>∃ r:Nat,r≤ln∧iv=.int .i64 (r:Int)∧Away (At go (RW ln (fst zz r)) 76 w3 wr)) (fun iv _=>ln-(intOf iv).toNat)
 case atStart=>exact⟨0,Nat.zero_le _,rfl,A3⟩
 case round=>
  clear A3
  obtain⟨r,hr,rfl,A0⟩:=hrel
  have BU:Away (Below w.heap.size w wr):=⟨B3.out.trans (A0.out.below B3.out.size (Nat.le_of_eq Hgo.out))⟩
  by_cases hlt:r<ln
  ·have hrz:(r:Int)<(ln:Int):=by omega
   have hr8:r<8:=by omega
   have hrg:=hd_row (HYv.out.later BU.out) r hlt
   have HPq:Away (∀ w1:World,Below wr.heap.size wr w1→_):=⟨fun w1 hb=>HPr.out r hlt w1 (BU.out.trans (hb.mono BU.out.size))⟩
   have HAq:=Away.mk (HAd.out r)
   obtain⟨F,HF⟩:=ex_eq (FL .i64 256 (yy r))
   obtain⟨G,HGG⟩:=ex_eq (FL .i64 256 (pp r))
   obtain⟨E,HE⟩:=ex_eq (FL .i64 256 (zz r))
   obtain⟨o6,ho6⟩:∃ o6,r*256=o6:=⟨_,rfl⟩
   rw[HF.out,ho6]at hrg
   rw[ho6,HGG.out]at HPq
   rw[HF.out,HGG.out,HE.out]at HAq
   have Hrg:Away (∀ w':World,Below wr.heap.size wr w'→w'.rangeAt gy o6 F.toList):=⟨fun w' hb'=>range_later hrg (Nat.lt_of_lt_of_le HGy.out BU.out.size) hb'⟩
   have Fi:Away ((Tryz.prog.info? 76).map (·.size)=some F.toList.length):=⟨by rw[Array.length_toList,←HF.out,fl_size];exact Hsize.out⟩
   have q0:∀ d os,(Go.Sort.grow (redrawn wr d) os).cell? ⟨gn,0,none⟩=some (.slice (some ⟨gy,0,none⟩) ln cy):=fun d os=>cell_regrown ((BU.out.cell (p:=⟨gn,0,none⟩) Lgn.out).trans C0n.out) d os
   have q1:∀ d os,(Go.Sort.grow (redrawn wr d) os).cell? ⟨gs,10,none⟩=some (.slice (some ⟨ga,0,none⟩) ln ca):=fun d os=>cell_regrown ((BU.out.cell (p:=⟨gs,10,none⟩) Lgs.out).trans C10.out) d os
   have Hup:Away (ups (fst zz r) r (zz r)=fst zz (r+1)):=⟨ups_fst zz r⟩
   have Hlt:=Away.mk hlt
   have Ho6:=Away.mk ho6
   clear hrg hlt HF HGG
   go_wp2_with fail
   refine qtail.region_below_tail 21 (by kernel_rfl) (by kernel_rfl) ?_
   iterate 8 (quiet_step (skip))
   refine wpQuiet_load_mid rfl 76 _ rfl gy o6 rfl F.toList _ (fun w' hC=>Hrg.out w' (krw.reg_below hC)) Tryz.underlying76 rfl Fi.out ?_
   iterate 10 (quiet_step (skip))
   quiet_step (exact Calls.regrown_of (HPq.out _ (below_regrown _ _ _)))
   quiet_step (exact Calls.regrown_of (HAq.out _))
   refine wpQuiet_nil ?_
   intro wn hC
   have hbn:Below wr.heap.size wr wn:=krw.reg_below hC
   have A6:Away (At go (RW ln (fst zz r)) 76 w3 wn):=⟨A0.out.later hbn⟩
   clear hC hbn A0 HPq HAq Hrg q0 q1
   simp only[List.drop_succ_cons,List.drop_zero]
   go_wp2_with ((with_reducible refine wpList_putp A6 HE.out Hlt.out Ho6.out rfl _ _ rfl rfl ?hx ?hy ?_);(case hx=>exact rfl);(case hy=>exact rfl);intro w7 A7;rw[Hup.out]at A7)
   go_roundw
   case rel=>exact⟨r+1,by have:=Hlt.out;omega,by go_num,A7⟩
   case measure=>have:=Hlt.out;simp[intOf];omega
  ·obtain rfl:r=ln:=by omega
   have HTt:Away (Holds wr w.heap.size (.slice (some ⟨go,0,none⟩) r r) r zz):=⟨row_holds A0.out.row (by have:=Hgo.out;omega) (fun i hi=>fst_lt zz r i hi)⟩
   have HSz:Away (∀ w1:World,Below wr.heap.size wr w1→Calls Tryz.prog 30 #[.slice (some ⟨go,0,none⟩) r r] w1 fun e w'=>e=.returned (.int .i64 (fldm.cbs zz r))∧Below w1.heap.size w1 w'):=⟨fun w1 hb=>by
    refine(fsize.size_any go r r zz w1 (by omega) fun j hj i hi=>?_).mono ?_
    ·obtain⟨g9,c9,e9,-,-,h9⟩:=HTt.out.later hb
     injection e9 with e9 _ _
     iterate 2 (injection e9 with e9)
     rw[e9,Nat.mul_comm]
     exact h9 j hj i hi
    ·rintro e w' ⟨rfl,rfl⟩
     exact⟨rfl,Below.refl _ _⟩⟩
   rw[HX.out]at HSz
   have HMq:Away (∀ w1:World,Below wr.heap.size wr w1→_):=⟨fun w1 hb=>HMr.out w1 (BU.out.trans (hb.mono BU.out.size))⟩
   have q5:∀ d os,(Go.Sort.grow (redrawn wr d) os).cell? ⟨gs,5,none⟩=some (.int .i64 al):=fun d os=>cell_regrown ((BU.out.cell (p:=⟨gs,5,none⟩) Lgs.out).trans C5.out) d os
   clear A0 hlt
   go_wp2_with fail
   refine wp_region_quiet_below (by kernel_rfl) (by kernel_rfl) ?_
   iterate 2 (quiet_step (skip))
   quiet_step (exact Calls.regrown_of (HSz.out _ (below_regrown _ _ _)))
   iterate 6 (quiet_step (skip))
   quiet_step (exact Calls.regrown_of (HMq.out _ (below_regrown _ _ _)))
   iterate 4 (quiet_step (skip))
   refine wpQuiet_nil ?_
   intro wn hC
   have hbn:Below wr.heap.size wr wn:=krw.reg_below hC
   have HTn:=Away.mk (HTt.out.later hbn)
   have D9:Away (Below w.heap.size w wn):=⟨BU.out.trans (hbn.mono BU.out.size)⟩
   clear hC hbn q5 HTt
   go_wp2_with fail
   go_ret2
   exact⟨⟨_,rfl,HTn.out⟩,D9.out⟩
end Go.Proofs.YtomphjajkkddkaaGreatDoor.mge
namespace Go.Proofs.YtomphjajkkddkaaGreatDoor
namespace rlow
open Go Go.RowKit
open arr mem stil polys polt fldm fld1 rndm rpart
theorem low_any (f:Nat→Int) (g:Int) (w:World):
 Calls Tryz.prog 189 #[.agg (FL .i64 256 f),.int .i64 g] w fun e w'=>e=.returned (.agg (FL .i64 256 fun i=>lw g (f i)%8380417))∧Below w.heap.size w w':=by
 obtain⟨hz,hsize⟩:=zero_of_info infoP
 obtain⟨z,HZ⟩:=ex_eq (FL .i64 256 fun _=>0)
 rw[HZ.out]at hz
 have Hzs:Away (z.size=256):=⟨by rw[←HZ.out];exact fl_size _ _ _⟩
 obtain⟨F,HF⟩:∃ F:Nat→Int,Away (F=fun i=>lw g (f i)%8380417):=⟨_,⟨rfl⟩⟩
 have hFi:∀ i,F i=(fun i=>lw g (f i)%8380417) i:=fun i=>by rw[HF.out]
 have HFi:=Away.mk hFi
 rw[←HF.out]
 clear HF hFi
 obtain⟨R,HR⟩:=ex_eq (FL .i64 256 F)
 have Ri:Away ((Tryz.prog.info? 76).map (·.size)=some R.size):=⟨by rw[←HR.out,fl_size];exact hsize⟩
 have Ro:Away (R.all (·.oneCell')=true):=⟨by rw[←HR.out];exact fl_one _ _ _⟩
 have Rz:Away (z.size=R.size):=⟨by rw[Hzs.out,←HR.out,fl_size]⟩
 obtain⟨I,HI⟩:=ex_eq (FL .i64 256 f)
 have Ii:Away ((Tryz.prog.info? 76).map (·.size)=some I.size):=⟨by rw[←HI.out,fl_size];exact hsize⟩
 rw[HR.out,HI.out]
 clear hsize
 have Hix:Away (∀ (i:Nat),i<256→∀ w1:World,(Instr.index 76 (.agg I) (.int .i64 (i:Int))).run Tryz.prog w1=.ok (.int .i64 (f i)) w1):=⟨fun i hi w1=>by rw[←HI.out];exact index_poly f i hi w1⟩
 go_enter Tryz.func189,Tryz.ntmps189
 go_wp2_with fail
 clear hz
 obtain⟨W,hW⟩:∃ x,(w.alloc (.cells I 76)).alloc (.cells z 76)=x:=⟨_,rfl⟩
 obtain⟨b0,b1,hWs,hWb⟩:=two hW
 rw[hW]
 clear hW
 have B0:=Away.mk b0
 have B1:=Away.mk b1
 have HWs:Away (w.heap.size+2≤W.heap.size):=⟨by omega⟩
 have HWb:=Away.mk hWb
 clear hWs hWb b0 b1
 refine wp_load_row 76 _ rfl w.heap.size rfl 76 I (0,0) _ B0.out Tryz.underlying76 rfl Ii.out ?_
 go_wp2_with fail
 go_loopw [10] (fun v wr=>∃ i:Nat,i≤256∧v=.int .i64 (i:Int)∧Away (At w.heap.size (FL .i64 256 (pt F f i)) 76 W wr)) (fun v _=>256-(intOf v).toNat)
 case atStart=>exact⟨0,Nat.zero_le _,rfl,⟨by rw[pt_zero,HI.out];exact At.refl B0.out⟩⟩
 case round=>
  obtain⟨i,hi,rfl,A0⟩:=hrel
  by_cases hlt:i<256
  ·have hiz:(i:Int)<256:=by omega
   have hx0:=Hix.out i hlt wr
   obtain⟨x,hx⟩:∃ x,f i=x:=⟨_,rfl⟩
   rw[hx]at hx0
   have HV:Away (F i=lw g x%8380417):=⟨by rw[HFi.out,hx]⟩
   have Hp:=parts_any x g
   obtain⟨h0,hh0⟩:=ex_eq (hgh g x)
   obtain⟨l0,hl0⟩:=ex_eq (lw g x)
   rw[hh0.out,hl0.out]at Hp
   rw[hl0.out]at HV
   have Hr:=reduce_any l0
   obtain⟨v,hv⟩:=ex_eq (l0%8380417)
   rw[hv.out]at Hr
   have HU:Away (upd (pt F f i) i v=pt F f (i+1)):=⟨pt_upd F f i v (by rw[HV.out,hv.out])⟩
   clear hx
   go_wp2_with fail
   refine(Hp _).mono ?_
   rintro e w1 ⟨rfl,rfl⟩
   go_wp2_with fail
   refine(Hr _).mono ?_
   rintro e w1 ⟨rfl,rfl⟩
   go_wp2_with ((with_reducible refine wpList_put2 A0 rfl _ _ _ rfl rfl ?_);refine⟨_,_,_,rfl,rfl,rfl,by rw[fl_size];exact hlt,?_⟩;intro wn HR2;rw[fl_set,HU.out]at HR2)
   go_roundw
   case rel=>exact⟨i+1,by omega,by go_num,HR2⟩
   case measure=>simp[intOf];omega
  ·obtain rfl:i=256:=by omega
   simp only[Int.cast_ofNat_Int]
   rw[fl_all,HR.out]at A0
   have Hrow:=Away.mk A0.out.row
   have Hres:Away (wr.heap[w.heap.size+1]? = some (.cells z 76 (0,0))):=⟨A0.out.other (by have:=HWs.out;omega) (by omega) B1.out⟩
   have HB:Away (Below w.heap.size w wr):=⟨HWb.out.trans (A0.out.below (by have:=HWs.out;omega) (Nat.le_refl _))⟩
   clear A0
   go_wp2_with (first
    | (refine wpList_load_row rfl 76 _ rfl w.heap.size rfl 76 R (0,0) _ Hrow.out Tryz.underlying76 rfl Ri.out ?_)
    | (refine wpList_store_row rfl 76 _ _ rfl (w.heap.size+1) R rfl rfl 76 _ Hres.out Ri.out Rz.out Ro.out ?_))
   refine bodyPost_ret_by (v:=.agg R) (results_cell_row rfl _ _ (w.heap.size+1) 76 _ (0,0) _ rfl (setRow_heap _ _ _ _ _ _ Hres.out) Tryz.underlying76 rfl Ri.out) rfl ?_
   exact⟨rfl,HB.out.trans (below_setRow _ _ _ (by omega))⟩
end rlow
end Go.Proofs.YtomphjajkkddkaaGreatDoor
namespace Go.Proofs.YtomphjajkkddkaaGreatDoor
namespace rhint
open Go Go.RowKit
open arr mem stil polys polt rndm rhigh vary varyn varye pvar
theorem hint_any (zf f:Nat→Int) (g:Int) (w:World):
 Calls Tryz.prog 190 #[.agg (FL .i64 256 zf),.agg (FL .i64 256 f),.int .i64 g] w fun e w'=>e=.returned (.agg (FL .i64 256 fun i=>hn g (zf i) (f i)))∧Below w.heap.size w w':=by
 obtain⟨hz,hsize⟩:=zero_of_info infoP
 obtain⟨z,HZ⟩:=ex_eq (FL .i64 256 fun _=>0)
 rw[HZ.out]at hz
 have Hzs:Away (z.size=256):=⟨by rw[←HZ.out];exact fl_size _ _ _⟩
 obtain⟨F,HF⟩:∃ F:Nat→Int,Away (F=fun i=>hn g (zf i) (f i)):=⟨_,⟨rfl⟩⟩
 have HFi:Away (∀ i,F i=hn g (zf i) (f i)):=⟨fun i=>by rw[HF.out]⟩
 rw[←HF.out]
 clear HF
 obtain⟨p,HP⟩:∃ p:Nat→Int,Away (p=fun i=>hgh g (f i)):=⟨_,⟨rfl⟩⟩
 obtain⟨s,HS⟩:∃ s:Nat→Int,Away (s=fun i=>(f i+zf i)%8380417):=⟨_,⟨rfl⟩⟩
 obtain⟨q,HQ⟩:∃ q:Nat→Int,Away (q=fun i=>hgh g (s i)):=⟨_,⟨rfl⟩⟩
 have HFq:Away (∀ i,F i=if p i=q i then 0 else 1):=⟨fun i=>by rw[HFi.out,HQ.out,HS.out,HP.out];rfl⟩
 have sz:∀ h:Nat→Int,(Tryz.prog.info? 76).map (·.size)=some (FL .i64 256 h).size:=fun h=>by rw[fl_size];exact hsize
 obtain⟨R,HR⟩:=ex_eq (FL .i64 256 F)
 have Ri:Away ((Tryz.prog.info? 76).map (·.size)=some R.size):=⟨by rw[←HR.out];exact sz _⟩
 have Ro:Away (R.all (·.oneCell')=true):=⟨by rw[←HR.out];exact fl_one _ _ _⟩
 have Rz:Away (z.size=R.size):=⟨by rw[Hzs.out,←HR.out,fl_size]⟩
 obtain⟨I,HI⟩:=ex_eq (FL .i64 256 f)
 have Ii:Away ((Tryz.prog.info? 76).map (·.size)=some I.size):=⟨by rw[←HI.out];exact sz _⟩
 obtain⟨J,HJ⟩:=ex_eq (FL .i64 256 zf)
 have Ji:Away ((Tryz.prog.info? 76).map (·.size)=some J.size):=⟨by rw[←HJ.out];exact sz _⟩
 obtain⟨S,HSS⟩:=ex_eq (FL .i64 256 s)
 have Hh1:Away (∀ w1:World,Calls Tryz.prog 202 #[.agg I,.int .i64 g] w1 fun e w'=>e=.returned (.agg (FL .i64 256 p))∧Below w1.heap.size w1 w'):=⟨fun w1=>by rw[←HI.out,HP.out];exact high_any f g w1⟩
 have Hh2:Away (∀ w1:World,Calls Tryz.prog 202 #[.agg S,.int .i64 g] w1 fun e w'=>e=.returned (.agg (FL .i64 256 q))∧Below w1.heap.size w1 w'):=⟨fun w1=>by rw[←HSS.out,HQ.out];exact high_any s g w1⟩
 have Hadd:Away (∀ w1:World,Calls Tryz.prog 80 #[.agg I,.agg J] w1 fun e w'=>e=.returned (.agg S)∧Below w1.heap.size w1 w'):=⟨fun w1=>by rw[←HI.out,←HJ.out,←HSS.out,HS.out];exact fadd.add_any f zf w1⟩
 rw[HR.out,HI.out,HJ.out]
 clear hsize sz HP HQ HS HSS HI HJ HFi
 go_enter Tryz.func190,Tryz.ntmps190
 go_wp2_with fail
 obtain⟨W,hW⟩:∃ x,((w.alloc (.cells J 76)).alloc (.cells I 76)).alloc (.cells z 76)=x:=⟨_,rfl⟩
 obtain⟨b0,b1,b2,hWs,hWb⟩:=three hW
 rw[hW]
 clear hW
 have B0:=Away.mk b0
 have B1:=Away.mk b1
 have B2:=Away.mk b2
 have HWs:Away (w.heap.size+3≤W.heap.size):=⟨by omega⟩
 have HWb:=Away.mk hWb
 clear hWs hWb b0 b1 b2
 have Hhz:=Away.mk hz
 clear hz
 refine region_vary_take [vrP 8 10 2 7 13,vrP 9 11 7 8 18] 8 (by kernel_rfl) (by kernel_rfl) (by kernel_rfl) (by kernel_rfl) (by decide) (fun v hv ρ o w1 ho=>by
  simp only[List.mem_cons,List.not_mem_nil,or_false]at hv
  rcases hv with rfl | rfl<;>exact allocP ρ o w1 ho) (by simp[vrP]) (fun ops HO=>?_)
 simp only[List.take_succ_cons,List.take_zero]
 refine wpMild_load rfl 76 _ rfl _ rfl 76 _ _ (fun w9 hw9=>(hw9.block _ (lt_of_row B1.out)).trans B1.out) Tryz.underlying76 rfl Ii.out ?_
 refine wpMild_step rfl (fun K hK=>?_)
 go_simp
 apply Exists.intro
 refine⟨fun w9 hw9=>rfl,hK _ ?_⟩
 clear hK K
 refine wpMild_step rfl (fun K hK=>?_)
 go_simp
 apply Exists.intro
 refine⟨fun w9 hw9=>?_,hK _ ?_⟩
 exact Hh1.out w9
 clear hK K
 refine wpMild_load rfl 76 _ rfl _ rfl 76 _ _ (fun w9 hw9=>(hw9.block _ (lt_of_row B1.out)).trans B1.out) Tryz.underlying76 rfl Ii.out ?_
 refine wpMild_load rfl 76 _ rfl _ rfl 76 _ _ (fun w9 hw9=>(hw9.block _ (lt_of_row B0.out)).trans B0.out) Tryz.underlying76 rfl Ji.out ?_
 refine wpMild_step rfl (fun K hK=>?_)
 go_simp
 apply Exists.intro
 refine⟨fun w9 hw9=>?_,hK _ ?_⟩
 exact Hadd.out w9
 clear hK K
 refine wpMild_step rfl (fun K hK=>?_)
 go_simp
 apply Exists.intro
 refine⟨fun w9 hw9=>rfl,hK _ ?_⟩
 clear hK K
 refine wpMild_step rfl (fun K hK=>?_)
 go_simp
 apply Exists.intro
 refine⟨fun w9 hw9=>?_,hK _ ?_⟩
 exact Hh2.out w9
 clear hK K
 refine ends2 (FL .i64 256 p) (FL .i64 256 q) rfl (fitsP p) rfl (fitsP q) (by decide) (fun p1 p2 w6 l1 l2 n12 hb6 r1 r2=>?_)
 simp only[vrP,Act.put,heldb.pa,heldb.pb,heldb.pc]at r1 r2 ⊢
 have hz:=Hhz.out
 have R1:=Away.mk r1
 have R2:=Away.mk r2
 have C2:Away (w6.heap[w.heap.size+2]? = some (.cells z 76 (0,0))):=⟨(hb6.block _ (lt_of_row B2.out)).trans B2.out⟩
 have Hb6:Away (Below w.heap.size w w6):=⟨HWb.out.trans (hb6.mono HWb.out.size)⟩
 have H6s:Away (w.heap.size+3≤w6.heap.size):=⟨by have:=hb6.size;have:=HWs.out;omega⟩
 clear r1 r2 hb6 l1 l2 n12 B0 B1 B2 HWs HWb Hh1 Hh2 Hadd HO
 go_wp2_with fail
 clear hz Hhz
 obtain⟨gh,hgh0⟩:=ex_eq w6.heap.size
 obtain⟨V,hV⟩:∃ x,w6.alloc (.cells z 76)=x:=⟨_,rfl⟩
 obtain⟨v0,hVs,hVb⟩:=one hV
 rw[hV]
 clear hV
 rw[hgh0.out]at v0
 rw[hgh0.out]
 have V1:Away (V.heap[p1]? = some (.cells (FL .i64 256 p) 76 (0,0))):=⟨(hVb.block _ (lt_of_row R1.out)).trans R1.out⟩
 have V2:Away (V.heap[p2]? = some (.cells (FL .i64 256 q) 76 (0,0))):=⟨(hVb.block _ (lt_of_row R2.out)).trans R2.out⟩
 have V3:Away (V.heap[w.heap.size+2]? = some (.cells z 76 (0,0))):=⟨(hVb.block _ (lt_of_row C2.out)).trans C2.out⟩
 have HVB:Away (Below w.heap.size w V):=⟨Hb6.out.trans (hVb.mono Hb6.out.size)⟩
 have HVs:Away (gh<V.heap.size∧w.heap.size+3≤gh∧p1<gh∧p2<gh):=⟨by have:=H6s.out;have:=hgh0.out;have:=lt_of_row R1.out;have:=lt_of_row R2.out;omega⟩
 have A0':Away (At gh (FL .i64 256 (pt F (fun _=>0) 0)) 76 V V):=⟨At.refl (by rw[pt_zero,HZ.out];exact v0)⟩
 clear v0 hVs hVb hgh0 R1 R2 C2 Hb6 H6s
 go_loopw [19] (fun v wr=>∃ i:Nat,i≤256∧v=.int .i64 (i:Int)∧Away (At gh (FL .i64 256 (pt F (fun _=>0) i)) 76 V wr)) (fun v _=>256-(intOf v).toNat)
 case atStart=>exact⟨0,Nat.zero_le _,rfl,A0'⟩
 case round=>
  obtain⟨i,hi,rfl,A0⟩:=hrel
  by_cases hlt:i<256
  ·have hiz:(i:Int)<256:=by omega
   obtain⟨x,hx⟩:∃ x,p i=x:=⟨_,rfl⟩
   obtain⟨y,hy⟩:∃ y,q i=y:=⟨_,rfl⟩
   have cx:wr.cell? ⟨p1,i,none⟩=some (.int .i64 x):=by rw[←hx];exact fl_at (A0.out.other (by have:=HVs.out;omega) (by have:=HVs.out;omega) V1.out) i hlt
   have cy:wr.cell? ⟨p2,i,none⟩=some (.int .i64 y):=by rw[←hy];exact fl_at (A0.out.other (by have:=HVs.out;omega) (by have:=HVs.out;omega) V2.out) i hlt
   have HV:Away (F i=if x=y then 0 else 1):=⟨by rw[HFq.out,hx,hy]⟩
   clear hx hy
   by_cases hxy:x=y
   ·subst hxy
    have hne:(x != x)=false:=by simp
    have HU:FL .i64 256 (pt F (fun _=>0) i)=FL .i64 256 (pt F (fun _=>0) (i+1)):=by
     rw[←pt_upd F (fun _=>0) i 0 (by rw[HV.out,if_pos rfl])]
     refine fl_congr _ _ fun j _=>?_
     unfold polys.upd pt
     by_cases hj:j=i
     ·subst hj;simp
     ·rw[if_neg hj]
    rw[HU]at A0
    clear HU HV
    go_wp2_with fail
    refine still_all (by kernel_rfl) (by kernel_rfl) ?_
    repeat still_step
    refine wpStill_nil ?_
    clear cx cy
    go_wp2_with fail
    go_roundw
    case rel=>exact⟨i+1,by omega,by go_num,⟨at_drew A0.out⟩⟩
    case measure=>simp[intOf];omega
   ·have hne:(x != y)=true:=bne_iff_ne.2 hxy
    have HU:Away (polys.upd (pt F (fun _=>0) i) i 1=pt F (fun _=>0) (i+1)):=⟨pt_upd F _ i 1 (by rw[HV.out,if_neg hxy])⟩
    clear HV hxy
    go_wp2_with fail
    refine still_all (by kernel_rfl) (by kernel_rfl) ?_
    repeat still_step
    refine wpStill_nil ?_
    clear cx cy
    have A1:Away (At gh (FL .i64 256 (pt F (fun _=>0) i)) 76 V wr.drew):=⟨at_drew A0.out⟩
    clear A0
    go_wp2_with ((with_reducible refine wpList_put2 A1 rfl _ _ _ rfl rfl ?_);refine⟨_,_,_,rfl,rfl,rfl,by rw[fl_size];exact hlt,?_⟩;intro wn A2;rw[fl_set,HU.out]at A2)
    go_roundw
    case rel=>exact⟨i+1,by omega,by go_num,A2⟩
    case measure=>simp[intOf];omega
  ·obtain rfl:i=256:=by omega
   simp only[Int.cast_ofNat_Int]
   rw[fl_all,HR.out]at A0
   have Hrow:=Away.mk A0.out.row
   have Hres:Away (wr.heap[w.heap.size+2]? = some (.cells z 76 (0,0))):=⟨A0.out.other (by have:=HVs.out;omega) (by have:=HVs.out;omega) V3.out⟩
   have HB:Away (Below w.heap.size w wr):=⟨HVB.out.trans (A0.out.below HVB.out.size (by have:=HVs.out;omega))⟩
   clear A0
   go_wp2_with (first
    | (refine wpList_load_row rfl 76 _ rfl gh rfl 76 R (0,0) _ Hrow.out Tryz.underlying76 rfl Ri.out ?_)
    | (refine wpList_store_row rfl 76 _ _ rfl (w.heap.size+2) R rfl rfl 76 _ Hres.out Ri.out Rz.out Ro.out ?_))
   refine bodyPost_ret_by (v:=.agg R) (results_cell_row rfl _ _ (w.heap.size+2) 76 _ (0,0) _ rfl (setRow_heap _ _ _ _ _ _ Hres.out) Tryz.underlying76 rfl Ri.out) rfl ?_
   exact⟨rfl,HB.out.trans (below_setRow _ _ _ (by omega))⟩
end rhint
end Go.Proofs.YtomphjajkkddkaaGreatDoor
