/-
  What package bits' Hints returns. Conditions: the slice holds the polynomials. What mlsign's hints r
-/
import Derived.Test.YtomphjajkkddkaaGreatDoorZt02
import Derived.Test.YtomphjajkkddkaaGreatDoorZt18
import Derived.Test.YtomphjajkkddkaaGreatDoorZt20
import Derived.Test.YtomphjajkkddkaaGreatDoorZt13
import Derived.Test.YtomphjajkkddkaaGreatDoorZt16
import Derived.Test.YtomphjajkkddkaaGreatDoorZt01
import Derived.Test.YtomphjajkkddkaaGreatDoorZt03
import Derived.Test.YtomphjajkkddkaaGreatDoorZt10
import Derived.Test.YtomphjajkkddkaaGreatDoorZt12
import Derived.Test.YtomphjajkkddkaaGreatDoorZt09
import Derived.WalkMore
import Derived.OwnWalk
set_option maxRecDepth 100000
set_option maxHeartbeats 16000000
namespace Go.Proofs.YtomphjajkkddkaaGreatDoor
namespace phin
open Go Go.RowKit
open arr mem stil bitm polys fldm rbita rbitb rbitc rbitd rbite rbith
theorem hints_any (h:Nat→Nat→Int) (g o cap m om:Nat) (w:World) (hg:g<w.heap.size) (hm1 : 1≤m) (hm8:m≤8) (ho1 : 1≤om) (ho2:om≤255) (hr:∀ i,i<m→w.rangeAt g (o+256*i) (FL .i64 256 (h i)).toList):
 Calls Tryz.prog 191 #[.slice (some ⟨g,o,none⟩) m cap,.int .i64 (om:Int)] w fun e w'=>e=.returned (if tot h m≤om then .tuple #[.string ⟨(u8s (lay h om m m)).toArray⟩,.int .i64 0] else .tuple #[.string ⟨#[]⟩,.int .i64 6])∧Below w.heap.size w w':=by
 obtain⟨i0,hi,hz0,hz1,hz2⟩:=parts infoByte
 have HI:=Away.mk (And.intro hi (And.intro hz0 (And.intro hz1 hz2)))
 obtain⟨hz,hsize⟩:=zero_of_info infoP
 obtain⟨z,HZ⟩:=ex_eq (FL .i64 256 fun _=>0)
 rw[HZ.out]at hz
 have Hzs:Away (z.size=256):=⟨by rw[←HZ.out];exact fl_size _ _ _⟩
 have HR:=Away.mk hr
 obtain⟨R,HRe⟩:=ex_eq (u8s (lay h om m m))
 obtain⟨V,HV⟩:=ex_eq (if tot h m≤om then Value.tuple #[.string ⟨R.toArray⟩,.int .i64 0] else .tuple #[.string ⟨#[]⟩,.int .i64 6])
 rw[HRe.out,HV.out]
 obtain⟨M,hM⟩:∃ M,om+m=M:=⟨_,rfl⟩
 have fM:(om:Int)+(m:Int)=(M:Int):=by omega
 have fMw:IntKind.i64.wrap ((om:Int)+(m:Int))=(M:Int):=by rw[fM,IntKind.wrap_i64];omega
 have HM0:∀ w1:World,Calls Tryz.prog 104 #[.int .i64 (om:Int),.int .i64 (m:Int)] w1 fun e w'=>e=.returned (.bool true)∧w'=w1:=fun w1=>by
  have h:=psmall.hints_any (om:Int) (m:Int) w1
  rw[decide_eq_true (by omega)]at h
  exact h
 have HM:=Away.mk hM
 clear hi hz0 hz1 hz2 hr HZ hM
 go_enter Tryz.func191,Tryz.ntmps191
 go_wp2_with fail
 go_step3
 go_wp2_with fail
 refine(HM0 _).mono ?_
 rintro e w ⟨rfl,rfl⟩
 go_wp2_with (at_make;refine wpList_make_full _ rfl (.tmp 19) (.tmp 19) 57 rfl w.heap.size 5 i0 (.int .u8 0) 1 Tryz.underlying57 HI.out.1 HI.out.2.1 HI.out.2.2.1 .i64 .i64 M M M rfl rfl rfl rfl (by rw[HI.out.2.2.2];omega) (by unfold maxLen;omega) (Nat.le_refl _) ?_)
 intro w3 hown hgr
 have hb3:Below w.heap.size w w3:=(Below.refl _ _).grown hgr (Nat.le_refl _) (fun k hk=>by simp at hk)
 obtain⟨cur,hcur,hcl⟩:=own_row hown
 have e0:cur=LK .u8 (lay h om m 0):=by
  apply Array.ext'
  rw[hcl,lay,HM.out]
  simp only[toList_madeCells_one]
  simp[LK]
 rw[e0]at hcur
 have A3:Away (At w.heap.size (LK .u8 (lay h om m 0)) 5 w3 w3):=⟨At.refl hcur⟩
 have HB3:=Away.mk hb3
 have h38:=lt_of_row hcur
 clear hown hgr hb3 hcl e0 hcur fM fMw
 go_wp2_with fail
 go_step3
 go_wp2_with fail
 go_loopw [23,7] (fun v c wr=>∃ i:Nat,i≤m∧v=.int .i64 (i:Int)∧c=.int .i64 ((tot h i:Nat):Int)∧tot h i≤om∧Away (At w.heap.size (LK .u8 (lay h om m i)) 5 w3 wr)) (fun v _ _=>m-(intOf v).toNat)
 case atStart=>exact⟨0,Nat.zero_le _,rfl,rfl,Nat.zero_le _,A3⟩
 case round=>
  clear A3
  obtain⟨i,hi,rfl,rfl,hto,A0⟩:=hrel
  by_cases hlt:i<m
  ·have hiz:(i:Int)<(m:Int):=by omega
   have BW:Away (Below w.heap.size w wr):=⟨HB3.out.trans (A0.out.below (by omega) (Nat.le_refl _))⟩
   have Hrg:Away (wr.rangeAt g (o+256*i) (FL .i64 256 (h i)).toList):=⟨fun j v hv=>by rw[BW.out.cell (p:=⟨g,o+256*i+j,none⟩) hg];exact HR.out i hlt j v hv⟩
   have Hidx:Away (∀ k:Nat,k<256→∀ w1,(Instr.index 76 (.agg (FL .i64 256 (h i))) (.int .i64 (k:Int))).run Tryz.prog w1=.ok (.int .i64 (h i k)) w1):=⟨fun k hk w1=>index_row (P:=Tryz.prog) Tryz.underlying76 (by kernel_rfl) (by kernel_rfl) (by kernel_rfl) _ _ k hk (fl_get .i64 256 (h i) k hk) w1⟩
   have Fs:Away ((FL .i64 256 (h i)).size=256):=⟨fl_size _ _ _⟩
   have Fo:Away ((FL .i64 256 (h i)).all (·.oneCell')=true):=⟨fl_one _ _ _⟩
   obtain⟨F,HF⟩:=ex_eq (FL .i64 256 (h i))
   rw[HF.out]at Hrg Hidx Fs Fo
   have Fi:Away ((Tryz.prog.info? 76).map (·.size)=some F.size):=⟨by rw[Fs.out];exact hsize⟩
   have A4:Away (At w.heap.size (LK .u8 (put (h i) (tot h i) (lay h om m i) 0)) 5 w3 wr):=⟨by rw[put];exact A0.out⟩
   obtain⟨i256,hi256⟩:∃ y,256*i=y:=⟨_,rfl⟩
   rw[hi256]at Hrg
   have fi256:i*256=i256:=by omega
   clear HF hi256
   go_wp2_with ((with_reducible refine wpList_load_mid rfl 76 _ rfl g (o+i256) ?hx F.toList _ Hrg.out Tryz.underlying76 rfl ?hi ?_);(case hx=>rfl);(case hi=>rw[Array.length_toList];exact Fi.out))
   have Hi:=Away.mk hlt
   clear A0
   go_loopw [30,7] (fun v c wr=>∃ k:Nat,k≤256∧v=.int .i64 (k:Int)∧c=.int .i64 ((tot h i+cnt (h i) k:Nat):Int)∧tot h i+cnt (h i) k≤om∧Away (At w.heap.size (LK .u8 (put (h i) (tot h i) (lay h om m i) k)) 5 w3 wr)) (fun v _ _=>256-(intOf v).toNat)
   case atStart=>exact⟨0,Nat.zero_le _,rfl,rfl,hto,A4⟩
   case round=>
    clear A4
    obtain⟨k,hk,rfl,rfl,hto,A0⟩:=hrel
    obtain⟨n,hn⟩:∃ n,tot h i+cnt (h i) k=n:=⟨_,rfl⟩
    rw[hn]at hto ⊢
    by_cases hklt:k<256
    ·have hkz:(k:Int)<256:=by omega
     have hidx:=Hidx.out k hklt
     by_cases hx:h i k=0
     ·rw[hx]at hidx
      have Hn:Away (tot h i+cnt (h i) (k+1)=n):=⟨by rw[cnt,if_pos hx,←hn];omega⟩
      have A1:Away (At w.heap.size (LK .u8 (put (h i) (tot h i) (lay h om m i) (k+1))) 5 w3 wr):=⟨by rw[put,if_pos hx];exact A0.out⟩
      clear A0 hn hx
      go_wp2_with fail
      go_roundw
      case rel=>exact⟨k+1,by omega,by go_num,by rw[Hn.out],by rw[Hn.out];exact hto,A1⟩
      case measure=>simp[intOf];omega
     ·have Hn:Away (tot h i+cnt (h i) (k+1)=n+1):=⟨by rw[cnt,if_neg hx,←hn];omega⟩
      have Hs:Away ((put (h i) (tot h i) (lay h om m i) k).set n k=put (h i) (tot h i) (lay h om m i) (k+1)):=⟨by rw[put,if_neg hx,hn]⟩
      obtain⟨x,hxx⟩:∃ x,h i k=x:=⟨_,rfl⟩
      rw[hxx]at hidx hx
      have fx:(x==0)=false:=by simpa using hx
      have fn1:IntKind.i64.wrap ((n:Int)+1)=((n+1:Nat):Int):=by rw[IntKind.wrap_i64];omega
      have fk8:IntKind.u8.wrap (k:Int)=(k:Int):=by rw[IntKind.wrap_u8];omega
      have BE:Away (Below w.heap.size w wr):=⟨HB3.out.trans (A0.out.below (by omega) (Nat.le_refl _))⟩
      clear hx hxx hn
      by_cases he:n=om
      ·have hV:Away (V=.tuple #[.string ⟨#[]⟩,.int .i64 6]):=⟨by
        rw[←HV.out,if_neg]
        have h1:=tot_mono h (i+1) m (by have:=Hi.out;omega)
        have h2:=cnt_mono (h i) (k+1) 256 (by omega)
        have h3:=Hn.out
        rw[tot]at h1
        omega⟩
       subst he
       go_wp2_with fail
       rw[Exit.noGoto_ret]
       go_ret2
       exact⟨by rw[hV.out];rfl,BE.out⟩
      ·have fe:¬ (om:Int)<((n+1:Nat):Int):=by omega
       have fn2:IntKind.i64.wrap (((n+1:Nat):Int)-1)=(n:Int):=by rw[IntKind.wrap_i64];omega
       have hno:n+1≤om:=by omega
       have hnM:(n:Int)<(M:Int):=by have:=HM.out;omega
       have HnM:Away (n<om+m):=⟨by omega⟩
       clear he
       go_wp2_with ((with_reducible refine wpList_put2 A0 rfl _ _ _ rfl rfl ?_);refine⟨_,_,_,rfl,rfl,rfl,(by rw[lk_size,put_length,lay_length];exact HnM.out),?_⟩;intro wn HRn;rw[lk_set,Hs.out]at HRn)
       go_roundw
       case rel=>exact⟨k+1,by omega,by go_num,by rw[Hn.out];go_num,by rw[Hn.out];exact hno,HRn⟩
       case measure=>simp[intOf];omega
    ·obtain rfl:k=256:=by omega
     simp only[Int.cast_ofNat_Int]
     have Hn:Away (tot h (i+1)=n):=⟨by rw[tot,hn]⟩
     have Hs:Away ((put (h i) (tot h i) (lay h om m i) 256).set (om+i) n=lay h om m (i+1)):=⟨by rw[lay,Hn.out]⟩
     obtain⟨oi,hoi⟩:∃ oi,om+i=oi:=⟨_,rfl⟩
     rw[hoi]at Hs
     have foi:(om:Int)+(i:Int)=(oi:Int):=by omega
     have foiw:IntKind.i64.wrap ((om:Int)+(i:Int))=(oi:Int):=by rw[foi,IntKind.wrap_i64];omega
     have fn8:IntKind.u8.wrap (n:Int)=(n:Int):=by rw[IntKind.wrap_u8];omega
     have hnM:(oi:Int)<(M:Int):=by have:=HM.out;have:=Hi.out;omega
     have HnM:Away (oi<om+m):=⟨by have:=Hi.out;omega⟩
     clear hn hoi
     go_wp2_with ((with_reducible refine wpList_put2 A0 rfl _ _ _ rfl rfl ?_);refine⟨_,_,_,rfl,rfl,rfl,(by rw[lk_size,put_length,lay_length];exact HnM.out),?_⟩;intro wn HRn;rw[lk_set,Hs.out]at HRn)
     go_roundw
     case rel=>exact⟨i+1,by have:=Hi.out;omega,by go_num,by rw[Hn.out],by rw[Hn.out];exact hto,HRn⟩
     case measure=>have:=Hi.out;simp[intOf];omega
  ·obtain rfl:i=m:=by omega
   have hV:Away (V=.tuple #[.string ⟨R.toArray⟩,.int .i64 0]):=⟨by rw[←HV.out,if_pos hto]⟩
   have hto2:¬ (om:Int)<((tot h i:Nat):Int):=by omega
   have hcv:=conv_lk (cap:=M) (n:=M) (by rw[lay_length];exact HM.out) (lay_lt h om i i (by omega)) A0.out.row
   rw[HRe.out]at hcv
   have BE:Away (Below w.heap.size w wr):=⟨HB3.out.trans (A0.out.below (by omega) (Nat.le_refl _))⟩
   clear A0
   go_wp2_with fail
   go_ret2
   exact⟨by rw[hV.out];rfl,BE.out⟩
end phin
end Go.Proofs.YtomphjajkkddkaaGreatDoor
namespace Go.Proofs.YtomphjajkkddkaaGreatDoor.mgf
set_option linter.unusedSimpArgs false
open Go Go.RowKit
open arr mem stil polys polt pols nttl rndm saml spok rsdoc mlkm mlsm keca kstep kturn rkpb rkrw qrow helda heldb mgd vary varyn varye pvar qops
theorem hints_any {T:Array Value} {S:Sg} (Z:Nat→Int) (n gs gt gm cm ga ca gb cb' gl cl gn gy cy gw cw:Nat) (w:World) (hO:OKS T Z S) (H:SGN T S gs gt gm cm ga ca gb cb' gl cl w)
 (hA:w.heap[gn]? = some (.cells (AT (.slice (some ⟨gy,0,none⟩) S.ln cy) (.slice (some ⟨gw,0,none⟩) S.kn cw) (tSum S n) (thereR S.ζ 8 (tC S n))) 185 (0,0))) (HYy:Holds w 0 (.slice (some ⟨gw,0,none⟩) S.kn cw) S.kn (tW S n)):
 Calls Tryz.prog 167 #[.pointer (some ⟨gs,0,none⟩),.pointer (some ⟨gn,0,none⟩)] w fun e w'=>e=.returned (resH S n)∧Below w.heap.size w w':=by
 obtain⟨hk,hl,he,ht,ha,hbb,ho,hs⟩:=oks_all hO
 obtain⟨m,hm⟩:∃ m,S.t*S.e=m:=⟨_,rfl⟩
 have hm2 : 0≤m∧m≤256:=by rw[←hm];rcases he with h | h<;>rw[h]<;>omega
 have hmw:IntKind.i64.wrap (S.t*S.e)=m:=by rw[hm,IntKind.wrap_i64];omega
 have hpol:=at_poly hA
 have c1n:w.cell? ⟨gn,1,none⟩=some (.slice (some ⟨gw,0,none⟩) S.kn cw):=cell_at hA rfl
 have lgn:=lt_of_row hA
 have hlt_of:∀ (g c m:Nat) (q:Nat→Nat→Int) (w1:World),Holds w1 0 (.slice (some ⟨g,0,none⟩) m c) m q→g<w1.heap.size:=fun g c m q w1 h=>by
  obtain⟨g9,c9,e9,-,h9,-⟩:=h
  injection e9 with e9 _ _
  iterate 2 (injection e9 with e9)
  rw[e9];exact h9
 have HPb0:∀ r,r<S.kn→∀ w1:World,Below w.heap.size w w1→Calls Tryz.prog 186 #[.pointer (some ⟨gs,0,none⟩),.pointer (some ⟨gn,3,none⟩),.pointer (some ⟨gb,r*256,none⟩)] w1 fun e w'=>e=.returned (.agg (FL .i64 256 (one S.ζ (tC S n) (S.B r))))∧Below w1.heap.size w1 w':=fun r hr w1 hb=>by
  have h1:=H.later hb
  rw[←mul_one]
  have h2:=mga.product_any (T:=T) Z gs gt gn 3 gb (r*256) (thereR S.ζ 8 (tC S n)) (thereR S.ζ 8 (S.B r)) w1 hO.zt (h1.cell 0 _ rfl) h1.tab (range_later hpol lgn hb) (hd_row h1.hb r hr) h1.lts (Nat.lt_of_lt_of_le lgn hb.size) (hlt_of _ _ _ _ _ h1.hb)
  rw[←hO.ez]at h2
  exact h2
 have HPl0:∀ r,r<S.kn→∀ w1:World,Below w.heap.size w w1→Calls Tryz.prog 186 #[.pointer (some ⟨gs,0,none⟩),.pointer (some ⟨gn,3,none⟩),.pointer (some ⟨gl,r*256,none⟩)] w1 fun e w'=>e=.returned (.agg (FL .i64 256 (tCl S n r)))∧Below w1.heap.size w1 w':=fun r hr w1 hb=>by
  have h1:=H.later hb
  unfold tCl
  rw[←mul_one]
  have h2:=mga.product_any (T:=T) Z gs gt gn 3 gl (r*256) (thereR S.ζ 8 (tC S n)) (thereR S.ζ 8 (S.C r)) w1 hO.zt (h1.cell 0 _ rfl) h1.tab (range_later hpol lgn hb) (hd_row h1.hl r hr) h1.lts (Nat.lt_of_lt_of_le lgn hb.size) (hlt_of _ _ _ _ _ h1.hl)
  rw[←hO.ez]at h2
  exact h2
 have HSu0:∀ r,∀ w1:World,Calls Tryz.prog 88 #[.agg (FL .i64 256 (tW S n r)),.agg (FL .i64 256 (one S.ζ (tC S n) (S.B r)))] w1 fun e w'=>e=.returned (.agg (FL .i64 256 (tV S n r)))∧Below w1.heap.size w1 w':=fun r w1=>fsub.sub_any _ _ w1
 have HLo0:∀ r,∀ w1:World,Calls Tryz.prog 189 #[.agg (FL .i64 256 (tV S n r)),.int .i64 S.b] w1 fun e w'=>e=.returned (.agg (FL .i64 256 (tLo S n r)))∧Below w1.heap.size w1 w':=fun r w1=>rlow.low_any _ _ w1
 have HSz0:∀ (f:Nat→Int) (w1:World),Calls Tryz.prog 188 #[.agg (FL .i64 256 f)] w1 fun e w'=>e=.returned (.int .i64 (fldm.cb f 256))∧Below w1.heap.size w1 w':=fun f w1=>by
  have h:=mga.size_any f w1
  rw[cbs_one]at h
  exact h
 have HNg0:∀ r,∀ w1:World,Calls Tryz.prog 88 #[.agg (FL .i64 256 fun _=>0),.agg (FL .i64 256 (tCl S n r))] w1 fun e w'=>e=.returned (.agg (FL .i64 256 fun k=>(0-tCl S n r k)%8380417))∧Below w1.heap.size w1 w':=fun r w1=>fsub.sub_any _ _ w1
 have HAd0:∀ r,∀ w1:World,Calls Tryz.prog 80 #[.agg (FL .i64 256 (tV S n r)),.agg (FL .i64 256 (tCl S n r))] w1 fun e w'=>e=.returned (.agg (FL .i64 256 fun k=>(tV S n r k+tCl S n r k)%8380417))∧Below w1.heap.size w1 w':=fun r w1=>fadd.add_any _ _ w1
 have HHn0:∀ r,∀ w1:World,Calls Tryz.prog 190 #[.agg (FL .i64 256 fun k=>(0-tCl S n r k)%8380417),.agg (FL .i64 256 fun k=>(tV S n r k+tCl S n r k)%8380417),.int .i64 S.b] w1 fun e w'=>e=.returned (.agg (FL .i64 256 (tHn S n r)))∧Below w1.heap.size w1 w':=fun r w1=>rhint.hint_any _ _ _ w1
 have HMr0:∀ w1:World,Below w.heap.size w w1→Calls Tryz.prog 187 #[.pointer (some ⟨gs,0,none⟩)] w1 fun e w'=>e=.returned (.int .i64 m)∧Below w1.heap.size w1 w':=fun w1 hb=>by
  have h1:=H.later hb
  refine(mga.margin_any gs S.t S.e m w1 (h1.cell 4 _ rfl) (h1.cell 3 _ rfl) hmw).mono ?_
  rintro e w' ⟨rfl,rfl⟩
  exact⟨rfl,(Below.refl _ _).drew⟩
 obtain⟨om,hom⟩:=Int.eq_ofNat_of_zero_le (a:=S.o) (by omega)
 have hom2 : 1≤om∧om≤100:=by omega
 obtain⟨lim,hlim⟩:∃ x,S.b-m=x:=⟨_,rfl⟩
 have hlim0 : 0<lim:=by omega
 have hb0 : 0<S.b:=by omega
 have hlimw:IntKind.i64.wrap (S.b-m)=lim:=by rw[hlim,IntKind.wrap_i64];omega
 have HV0:(∀ i,i<S.kn→fldm.cb (tLo S n i) 256<lim∧fldm.cb (tCl S n i) 256<S.b)→rbith.tot (tHn S n) S.kn≤om→resH S n=.tuple #[.string ⟨(rbitb.u8s (rbith.lay (tHn S n) om S.kn S.kn)).toArray⟩,.bool true]:=fun h1 h2=>by
  unfold resH
  rw[if_pos ⟨by rw[hm,hlim,cbs_all _ _ hlim0];exact fun i hi=>(h1 i hi).1,by rw[cbs_all _ _ hb0];exact fun i hi=>(h1 i hi).2,by rw[hom];exact Int.ofNat_le.2 h2⟩,hom]
  rfl
 have HV1:∀ i,i<S.kn→lim≤fldm.cb (tLo S n i) 256∨S.b≤fldm.cb (tCl S n i) 256→resH S n=.tuple #[.string ⟨#[]⟩,.bool false]:=fun i hi h=>by
  unfold resH
  rw[if_neg]
  rw[hm,hlim,cbs_all _ _ hlim0,cbs_all _ _ hb0]
  rintro ⟨h1,h2,-⟩
  have:=h1 i hi
  have:=h2 i hi
  omega
 have HV2:om<rbith.tot (tHn S n) S.kn→resH S n=.tuple #[.string ⟨#[]⟩,.bool false]:=fun h=>by
  unfold resH
  rw[if_neg]
  rintro ⟨-,-,h3⟩
  omega
 obtain⟨i0,hi,hz0,hz1,hz2⟩:=tparts infoPoly
 obtain⟨hz,hsize⟩:=zero_of_info polt.infoP
 obtain⟨z,HZ⟩:=ex_eq (FL .i64 256 fun _=>0)
 rw[HZ.out]at hz hz0
 simp only[HZ.out]at HNg0
 have Hb0:Tryz.prog.built 76 []=some z:=by rw[←HZ.out];exact pvar.built0
 have HB0:=Away.mk Hb0
 have HI:=Away.mk (And.intro hi (And.intro hz0 (And.intro hz1 hz2)))
 have Hsize:=Away.mk hsize
 have HYv:=Away.mk HYy
 have HGy:=Away.mk (hlt_of _ _ _ _ _ HYy)
 have c11:w.cell? ⟨gs,11,none⟩=some (.slice (some ⟨gb,0,none⟩) S.kn cb'):=H.cell 11 _ rfl
 have c12:w.cell? ⟨gs,12,none⟩=some (.slice (some ⟨gl,0,none⟩) S.kn cl):=H.cell 12 _ rfl
 have c6:w.cell? ⟨gs,6,none⟩=some (.int .i64 S.b):=H.cell 6 _ rfl
 have c7:w.cell? ⟨gs,7,none⟩=some (.int .i64 S.o):=H.cell 7 _ rfl
 rw[hom]at c7
 have lgs:=H.lts
 obtain⟨be,hbe⟩:∃ x,S.b=x:=⟨_,rfl⟩
 rw[hbe]at c6 hlimw HV1
 simp only[hbe]at HLo0 HHn0 HV0
 obtain⟨kn,hkn⟩:∃ x,S.kn=x:=⟨_,rfl⟩
 simp only[hkn]at HPb0 HPl0 c1n c11 c12 HYv hk HV0 HV1 HV2
 obtain⟨V,hV⟩:=ex_eq (resH S n)
 rw[hV.out]
 simp only[hV.out]at HV0 HV1 HV2
 obtain⟨hh,ehh⟩:=ex_eq (tHn S n)
 obtain⟨vv,evv⟩:=ex_eq (tV S n)
 obtain⟨ww,eww⟩:=ex_eq (tW S n)
 obtain⟨lo,elo⟩:=ex_eq (tLo S n)
 obtain⟨cc,ecc⟩:=ex_eq (tCl S n)
 obtain⟨pp,hpp⟩:=ex_eq (fun r=>one S.ζ (tC S n) (S.B r))
 have hpp2:∀ r,one S.ζ (tC S n) (S.B r)=pp r:=fun r=>by rw[←hpp.out]
 simp only[hpp2,ehh.out,evv.out,eww.out,elo.out,ecc.out]at HPb0 HPl0 HSu0 HLo0 HNg0 HAd0 HHn0 HV0 HV1 HV2 HYv
 have HPb:=Away.mk HPb0
 have HPl:=Away.mk HPl0
 have HSu:=Away.mk HSu0
 have HLo:=Away.mk HLo0
 have HSz:=Away.mk HSz0
 have HNg:=Away.mk HNg0
 have HAd:=Away.mk HAd0
 have HHn:=Away.mk HHn0
 have HMr:=Away.mk HMr0
 have HV0':=Away.mk HV0
 have HV1':=Away.mk HV1
 have HV2':=Away.mk HV2
 have C1n:=Away.mk c1n
 have C11:=Away.mk c11
 have C12:=Away.mk c12
 have C6:=Away.mk c6
 have C7:=Away.mk c7
 have Lgs:=Away.mk lgs
 have Lgn:=Away.mk lgn
 have Hom:=Away.mk hom2
 have Hlimw:=Away.mk hlimw
 have hkn8:=hk.2
 have hkn1:=hk.1
 clear hi hz0 hz1 hz2 hsize hk hl he ht ha hbb ho hs hm hm2 hmw hpol lgn HPb0 HPl0 HSu0 HLo0 HSz0 HNg0 HAd0 HHn0 HMr0 HV0 HV1 HV2 HYy c11 c12 c6 c7 lgs hlim hlim0 hb0 hlimw hbe hkn hV ehh evv eww elo ecc hpp hpp2 hA H hO hom hom2 hlt_of Hb0
 go_enter Tryz.func167,Tryz.ntmps167
 go_wp2_with (at_make;refine wpList_make_full _ rfl (.tmp 16) (.tmp 16) 44 rfl w.heap.size 76 i0 (.agg z) 256 Tryz.underlying44 HI.out.1 HI.out.2.1 HI.out.2.2.1 .i64 .i64 kn kn kn rfl rfl rfl rfl (by rw[HI.out.2.2.2];omega) (by unfold maxLen;omega) (Nat.le_refl _) ?_)
 clear c1n
 intro w3 hown hgr
 obtain⟨hrow,hb3⟩:=made_row HZ.out hown hgr
 obtain⟨go,hgo⟩:∃ a,w.heap.size=a:=⟨_,rfl⟩
 rw[hgo]at hrow ⊢
 have A3:Away (At go (RW kn (fst hh 0)) 76 w3 w3):=⟨by rw[fst_zero];exact At.refl hrow⟩
 have B3:Away (Below w.heap.size w w3):=⟨hb3⟩
 have Hgo:=Away.mk hgo
 clear hown hgr hrow hb3 hgo
 go_wp2_with fail
 go_loopw [20] (fun iv wr=>∃ r:Nat,r≤kn∧iv=.int .i64 (r:Int)∧Away (∀ i,i<r→fldm.cb (lo i) 256<lim∧fldm.cb (cc i) 256<be)∧Away (At go (RW kn (fst hh r)) 76 w3 wr)) (fun iv _=>kn-(intOf iv).toNat)
 case atStart=>exact⟨0,Nat.zero_le _,rfl,⟨fun i hi=>by omega⟩,A3⟩
 case round=>
  clear A3
  obtain⟨r,hr,rfl,Hin,A0⟩:=hrel
  have BU:Away (Below w.heap.size w wr):=⟨B3.out.trans (A0.out.below B3.out.size (Nat.le_of_eq Hgo.out))⟩
  by_cases hlt:r<kn
  ·have hrz:(r:Int)<(kn:Int):=by omega
   have hr8:r<8:=by omega
   have hrg:=hd_row (HYv.out.later BU.out) r hlt
   have BV:∀ w1:World,Below wr.heap.size wr w1→Below w.heap.size w w1:=fun w1 hb=>BU.out.trans (hb.mono BU.out.size)
   have HPq:Away (∀ w1:World,Below wr.heap.size wr w1→_):=⟨fun w1 hb=>HPb.out r hlt w1 (BV w1 hb)⟩
   have HPk:Away (∀ w1:World,Below wr.heap.size wr w1→_):=⟨fun w1 hb=>HPl.out r hlt w1 (BV w1 hb)⟩
   have HMq:Away (∀ w1:World,Below wr.heap.size wr w1→_):=⟨fun w1 hb=>HMr.out w1 (BV w1 hb)⟩
   have HSq:=Away.mk (HSu.out r)
   have HLq:=Away.mk (HLo.out r)
   have HZl:=Away.mk (HSz.out (lo r))
   have HZc:=Away.mk (HSz.out (cc r))
   have HNq:=Away.mk (HNg.out r)
   have HAq:=Away.mk (HAd.out r)
   have HHq:=Away.mk (HHn.out r)
   obtain⟨F,HF⟩:=ex_eq (FL .i64 256 (ww r))
   obtain⟨G,HGG⟩:=ex_eq (FL .i64 256 (pp r))
   obtain⟨L,HLL⟩:=ex_eq (FL .i64 256 (lo r))
   obtain⟨M,HMM⟩:=ex_eq (FL .i64 256 fun k=>(0-cc r k)%8380417)
   obtain⟨N,HNN⟩:=ex_eq (FL .i64 256 fun k=>(vv r k+cc r k)%8380417)
   obtain⟨E,HE⟩:=ex_eq (FL .i64 256 (hh r))
   obtain⟨o6,ho6⟩:∃ o6,r*256=o6:=⟨_,rfl⟩
   have FtV:Away (Fits Tryz.prog 76 (FL .i64 256 fun _=>0) (FL .i64 256 (vv r))):=⟨fitsP _⟩
   have FtC:Away (Fits Tryz.prog 76 (FL .i64 256 fun _=>0) (FL .i64 256 (cc r))):=⟨fitsP _⟩
   obtain⟨Vv,HVV⟩:=ex_eq (FL .i64 256 (vv r))
   obtain⟨Cc,HCC⟩:=ex_eq (FL .i64 256 (cc r))
   have Vi:Away ((Tryz.prog.info? 76).map (·.size)=some Vv.size):=⟨by rw[←HVV.out,fl_size];exact Hsize.out⟩
   have Ci:Away ((Tryz.prog.info? 76).map (·.size)=some Cc.size):=⟨by rw[←HCC.out,fl_size];exact Hsize.out⟩
   rw[HF.out,ho6]at hrg
   rw[ho6,HGG.out]at HPq
   rw[ho6,HCC.out]at HPk
   rw[HF.out,HGG.out,HVV.out]at HSq
   rw[HVV.out,HLL.out]at HLq
   rw[HLL.out]at HZl
   rw[HCC.out]at HZc FtC
   rw[HVV.out]at FtV
   rw[HCC.out,HMM.out]at HNq
   rw[HVV.out,HCC.out,HNN.out]at HAq
   rw[HMM.out,HNN.out,HE.out]at HHq
   obtain⟨X,HX⟩:∃ x,fldm.cb (lo r) 256=x:=⟨_,rfl⟩
   obtain⟨Y,HY⟩:∃ x,fldm.cb (cc r) 256=x:=⟨_,rfl⟩
   have HX:=Away.mk HX
   have HY:=Away.mk HY
   rw[HX.out]at HZl
   rw[HY.out]at HZc
   have Hrg:Away (∀ w':World,Below wr.heap.size wr w'→w'.rangeAt gw o6 F.toList):=⟨fun w' hb'=>range_later hrg (Nat.lt_of_lt_of_le HGy.out BU.out.size) hb'⟩
   have Fi:Away ((Tryz.prog.info? 76).map (·.size)=some F.toList.length):=⟨by rw[Array.length_toList,←HF.out,fl_size];exact Hsize.out⟩
   have K1n:Away (∀ w':World,Below wr.heap.size wr w'→w'.cell? ⟨gn,1,none⟩=some (.slice (some ⟨gw,0,none⟩) kn cw)):=⟨fun w' hb=>((BV w' hb).cell (p:=⟨gn,1,none⟩) Lgn.out).trans C1n.out⟩
   have K11:Away (∀ w':World,Below wr.heap.size wr w'→w'.cell? ⟨gs,11,none⟩=some (.slice (some ⟨gb,0,none⟩) kn cb')):=⟨fun w' hb=>((BV w' hb).cell (p:=⟨gs,11,none⟩) Lgs.out).trans C11.out⟩
   have K12:Away (∀ w':World,Below wr.heap.size wr w'→w'.cell? ⟨gs,12,none⟩=some (.slice (some ⟨gl,0,none⟩) kn cl)):=⟨fun w' hb=>((BV w' hb).cell (p:=⟨gs,12,none⟩) Lgs.out).trans C12.out⟩
   have K6:Away (∀ w':World,Below wr.heap.size wr w'→w'.cell? ⟨gs,6,none⟩=some (.int .i64 be)):=⟨fun w' hb=>((BV w' hb).cell (p:=⟨gs,6,none⟩) Lgs.out).trans C6.out⟩
   have Hup:Away (ups (fst hh r) r (hh r)=fst hh (r+1)):=⟨ups_fst hh r⟩
   have Hlt:=Away.mk hlt
   have Ho6:=Away.mk ho6
   have HzA:=Away.mk hz
   clear hrg hlt HF HGG HLL HMM HNN HVV HCC BV hz
   go_wp2_with fail
   refine region_vary_take [vrP 19 20 18 8 41] 19 (by kernel_rfl) (by kernel_rfl) (by kernel_rfl) (by kernel_rfl) (by decide) (fun v hv ρ o w1 ho=>by
    simp only[List.mem_cons,List.not_mem_nil,or_false]at hv
    subst hv
    exact allocP ρ o w1 ho) (by simp[vrP]) (fun ops HO=>?_)
   simp only[List.take_succ_cons,List.take_zero]
   refine wpMild_step rfl (fun K hK=>?_)
   go_simp
   apply Exists.intro
   refine⟨fun w9 hw9=>?_,hK _ ?_⟩
   rfl
   clear hK K
   refine wpMild_step rfl (fun K hK=>?_)
   go_simp
   apply Exists.intro
   refine⟨fun w9 hw9=>?_,hK _ ?_⟩
   rfl
   clear hK K
   refine wpMild_step rfl (fun K hK=>?_)
   go_simp
   apply Exists.intro
   refine⟨fun w9 hw9=>?_,hK _ ?_⟩
   rfl
   clear hK K
   refine wpMild_pure rfl (.slice (some ⟨gw,0,none⟩) kn cw) (fun w9 hw9=>by have hc:=K1n.out w9 hw9;go_simp;first | done | with_reducible rfl) ?_
   refine wpMild_step rfl (fun K hK=>?_)
   go_simp
   apply Exists.intro
   refine⟨fun w9 hw9=>?_,hK _ ?_⟩
   rfl
   clear hK K
   refine wpMild_step rfl (fun K hK=>?_)
   go_simp
   apply Exists.intro
   refine⟨fun w9 hw9=>?_,hK _ ?_⟩
   rfl
   clear hK K
   refine wpMild_load_mid rfl 76 _ rfl gw o6 rfl F.toList _ (fun w9 hw9=>Hrg.out w9 hw9) Tryz.underlying76 rfl Fi.out ?_
   refine wpMild_step rfl (fun K hK=>?_)
   go_simp
   apply Exists.intro
   refine⟨fun w9 hw9=>?_,hK _ ?_⟩
   rfl
   clear hK K
   refine wpMild_step rfl (fun K hK=>?_)
   go_simp
   apply Exists.intro
   refine⟨fun w9 hw9=>?_,hK _ ?_⟩
   rfl
   clear hK K
   refine wpMild_step rfl (fun K hK=>?_)
   go_simp
   apply Exists.intro
   refine⟨fun w9 hw9=>?_,hK _ ?_⟩
   rfl
   clear hK K
   refine wpMild_step rfl (fun K hK=>?_)
   go_simp
   apply Exists.intro
   refine⟨fun w9 hw9=>?_,hK _ ?_⟩
   rfl
   clear hK K
   refine wpMild_step rfl (fun K hK=>?_)
   go_simp
   apply Exists.intro
   refine⟨fun w9 hw9=>?_,hK _ ?_⟩
   rfl
   clear hK K
   refine wpMild_step rfl (fun K hK=>?_)
   go_simp
   apply Exists.intro
   refine⟨fun w9 hw9=>?_,hK _ ?_⟩
   rfl
   clear hK K
   refine wpMild_step rfl (fun K hK=>?_)
   go_simp
   apply Exists.intro
   refine⟨fun w9 hw9=>?_,hK _ ?_⟩
   rfl
   clear hK K
   refine wpMild_pure rfl (.slice (some ⟨gb,0,none⟩) kn cb') (fun w9 hw9=>by have hc:=K11.out w9 hw9;go_simp;first | done | with_reducible rfl) ?_
   refine wpMild_step rfl (fun K hK=>?_)
   go_simp
   apply Exists.intro
   refine⟨fun w9 hw9=>?_,hK _ ?_⟩
   rfl
   clear hK K
   refine wpMild_step rfl (fun K hK=>?_)
   go_simp
   apply Exists.intro
   refine⟨fun w9 hw9=>?_,hK _ ?_⟩
   rfl
   clear hK K
   refine wpMild_step rfl (fun K hK=>?_)
   go_simp
   apply Exists.intro
   refine⟨fun w9 hw9=>?_,hK _ ?_⟩
   exact HPq.out w9 hw9
   clear hK K
   refine wpMild_step rfl (fun K hK=>?_)
   go_simp
   apply Exists.intro
   refine⟨fun w9 hw9=>?_,hK _ ?_⟩
   exact HSq.out w9
   clear hK K
   refine ends1 Vv rfl FtV.out (fun p1 w6 l1 hb6 r1=>?_)
   simp only[vrP,Act.put,heldb.pa,heldb.pb,heldb.pc]at r1 ⊢
   have E6:Away (Below wr.heap.size wr w6):=⟨hb6⟩
   have R1:=Away.mk r1
   have L1:=Away.mk l1
   have T6:Away (∀ w':World,Below w6.heap.size w6 w'→Below wr.heap.size wr w'):=⟨fun w' hb=>E6.out.trans (hb.mono E6.out.size)⟩
   clear HO hb6 r1 l1
   go_wp2_with fail
   refine region_vary_take [vrP 11 12 10 9 52] 11 (by kernel_rfl) (by kernel_rfl) (by kernel_rfl) (by kernel_rfl) (by decide) (fun v hv ρ o w1 ho=>by
    simp only[List.mem_cons,List.not_mem_nil,or_false]at hv
    subst hv
    exact allocP ρ o w1 ho) (by simp[vrP]) (fun ops HO=>?_)
   simp only[List.take_succ_cons,List.take_zero]
   refine wpMild_step rfl (fun K hK=>?_)
   go_simp
   apply Exists.intro
   refine⟨fun w9 hw9=>?_,hK _ ?_⟩
   rfl
   clear hK K
   refine wpMild_step rfl (fun K hK=>?_)
   go_simp
   apply Exists.intro
   refine⟨fun w9 hw9=>?_,hK _ ?_⟩
   rfl
   clear hK K
   refine wpMild_step rfl (fun K hK=>?_)
   go_simp
   apply Exists.intro
   refine⟨fun w9 hw9=>?_,hK _ ?_⟩
   rfl
   clear hK K
   refine wpMild_step rfl (fun K hK=>?_)
   go_simp
   apply Exists.intro
   refine⟨fun w9 hw9=>?_,hK _ ?_⟩
   rfl
   clear hK K
   refine wpMild_step rfl (fun K hK=>?_)
   go_simp
   apply Exists.intro
   refine⟨fun w9 hw9=>?_,hK _ ?_⟩
   rfl
   clear hK K
   refine wpMild_step rfl (fun K hK=>?_)
   go_simp
   apply Exists.intro
   refine⟨fun w9 hw9=>?_,hK _ ?_⟩
   rfl
   clear hK K
   refine wpMild_step rfl (fun K hK=>?_)
   go_simp
   apply Exists.intro
   refine⟨fun w9 hw9=>?_,hK _ ?_⟩
   rfl
   clear hK K
   refine wpMild_pure rfl (.slice (some ⟨gl,0,none⟩) kn cl) (fun w9 hw9=>by have hc:=(fun w9 hw9=>K12.out w9 (T6.out w9 hw9)) w9 hw9;go_simp;first | done | with_reducible rfl) ?_
   refine wpMild_step rfl (fun K hK=>?_)
   go_simp
   apply Exists.intro
   refine⟨fun w9 hw9=>?_,hK _ ?_⟩
   rfl
   clear hK K
   refine wpMild_step rfl (fun K hK=>?_)
   go_simp
   apply Exists.intro
   refine⟨fun w9 hw9=>?_,hK _ ?_⟩
   rfl
   clear hK K
   refine wpMild_step rfl (fun K hK=>?_)
   go_simp
   apply Exists.intro
   refine⟨fun w9 hw9=>?_,hK _ ?_⟩
   exact HPk.out w9 (T6.out w9 hw9)
   clear hK K
   refine ends1 Cc rfl FtC.out (fun p2 w7 l2 hb7 r2=>?_)
   simp only[vrP,Act.put,heldb.pa,heldb.pb,heldb.pc]at r2 ⊢
   have E7:Away (Below wr.heap.size wr w7):=⟨T6.out w7 hb7⟩
   have R2:=Away.mk r2
   have R17:Away (w7.heap[p1]? = some (.cells Vv 76 (0,0))):=⟨(hb7.block _ (lt_of_row R1.out)).trans R1.out⟩
   have L2:Away (wr.heap.size≤p2):=⟨Nat.le_trans E6.out.size l2⟩
   have q6:∀ d os,(Go.Sort.grow (redrawn w7 d) os).cell? ⟨gs,6,none⟩=some (.int .i64 be):=fun d os=>cell_regrown (K6.out w7 E7.out) d os
   have HMq7:Away (∀ w1:World,Below w7.heap.size w7 w1→_):=⟨fun w1 hb=>HMq.out w1 (E7.out.trans (hb.mono E7.out.size))⟩
   clear HO hb7 r2 l2 R1
   have hlw:=Hlimw.out
   by_cases hcA:lim≤X
   ·have hdA:decide (lim≤X)=true:=decide_eq_true hcA
    have hVe:Away (V=.tuple #[.string ⟨#[]⟩,.bool false]):=⟨HV1'.out r Hlt.out (Or.inl (by rw[HX.out];exact hcA))⟩
    clear hcA
    go_wp2_with fail
    refine region_quiet_ops (by kernel_rfl) (by kernel_rfl) (fun ops HO=>?_)
    refine wpQuiet_load rfl 76 _ rfl _ rfl 76 _ _ (fun w' hC=>heap_regrown R17.out hC) Tryz.underlying76 rfl Vi.out ?_
    iterate 5 (quiet_step (skip))
    quiet_step (exact Calls.regrown_of (HLq.out _))
    quiet_step (exact Calls.regrown_of (HZl.out _))
    iterate 6 (quiet_step (skip))
    quiet_step (exact Calls.regrown_of (HMq7.out _ (below_regrown _ _ _)))
    iterate 3 (quiet_step (skip))
    iterate 8 (refine wpQuiet_skip (by rw[←HO.out];kernel_rfl) ?_)
    quiet_step (skip)
    refine wpQuiet_nil ?_
    intro w8 hC
    have E8:Away (Below w7.heap.size w7 w8):=⟨krw.reg_below hC⟩
    clear hC q6 HO
    have D8:Away (Below w.heap.size w w8):=⟨BU.out.trans ((E7.out.trans (E8.out.mono E7.out.size)).mono BU.out.size)⟩
    go_wp2_with fail
    go_ret2
    exact⟨by rw[hVe.out];rfl,D8.out⟩
   ·have hdA:decide (lim≤X)=false:=decide_eq_false hcA
    by_cases hcB:be≤Y
    ·have hdB:decide (be≤Y)=true:=decide_eq_true hcB
     have hVe:Away (V=.tuple #[.string ⟨#[]⟩,.bool false]):=⟨HV1'.out r Hlt.out (Or.inr (by rw[HY.out];exact hcB))⟩
     clear hcA hcB
     go_wp2_with fail
     refine region_quiet_ops (by kernel_rfl) (by kernel_rfl) (fun ops HO=>?_)
     refine wpQuiet_load rfl 76 _ rfl _ rfl 76 _ _ (fun w' hC=>heap_regrown R17.out hC) Tryz.underlying76 rfl Vi.out ?_
     iterate 5 (quiet_step (skip))
     quiet_step (exact Calls.regrown_of (HLq.out _))
     quiet_step (exact Calls.regrown_of (HZl.out _))
     iterate 6 (quiet_step (skip))
     quiet_step (exact Calls.regrown_of (HMq7.out _ (below_regrown _ _ _)))
     iterate 3 (quiet_step (skip))
     refine wpQuiet_load (by rw[←HO.out];kernel_rfl) 76 _ rfl _ rfl 76 _ _ (fun w' hC=>heap_regrown R2.out hC) Tryz.underlying76 rfl Ci.out ?_
     refine wpQuiet_want (by rw[←HO.out];kernel_rfl) (fun K hK=>?_)
     go_simp
     apply Exists.intro
     refine⟨fun _=>?_,hK _ ?_⟩
     exact Calls.regrown_of (HZc.out _)
     iterate 6 (clear hK K;refine wpQuiet_want (by rw[←HO.out];kernel_rfl) (fun K hK=>?_);go_simp;refine hK _ ?_)
     clear hK K
     quiet_step (skip)
     refine wpQuiet_nil ?_
     intro w8 hC
     have E8:Away (Below w7.heap.size w7 w8):=⟨krw.reg_below hC⟩
     clear hC q6 HO
     have D8:Away (Below w.heap.size w w8):=⟨BU.out.trans ((E7.out.trans (E8.out.mono E7.out.size)).mono BU.out.size)⟩
     go_wp2_with fail
     go_ret2
     exact⟨by rw[hVe.out];rfl,D8.out⟩
    ·have hdB:decide (be≤Y)=false:=decide_eq_false hcB
     have Hin2:Away (∀ i,i<r+1→fldm.cb (lo i) 256<lim∧fldm.cb (cc i) 256<be):=⟨fun i hi=>by
      by_cases e:i=r
      ·rw[e,HX.out,HY.out];omega
      ·exact Hin.out i (by omega)⟩
     clear hcA hcB
     go_wp2_with fail
     refine region_quiet_ops (by kernel_rfl) (by kernel_rfl) (fun ops HO=>?_)
     refine wpQuiet_load rfl 76 _ rfl _ rfl 76 _ _ (fun w' hC=>heap_regrown R17.out hC) Tryz.underlying76 rfl Vi.out ?_
     iterate 5 (quiet_step (skip))
     quiet_step (exact Calls.regrown_of (HLq.out _))
     quiet_step (exact Calls.regrown_of (HZl.out _))
     iterate 6 (quiet_step (skip))
     quiet_step (exact Calls.regrown_of (HMq7.out _ (below_regrown _ _ _)))
     iterate 3 (quiet_step (skip))
     refine wpQuiet_load (by rw[←HO.out];kernel_rfl) 76 _ rfl _ rfl 76 _ _ (fun w' hC=>heap_regrown R2.out hC) Tryz.underlying76 rfl Ci.out ?_
     refine wpQuiet_want (by rw[←HO.out];kernel_rfl) (fun K hK=>?_)
     go_simp
     apply Exists.intro
     refine⟨fun _=>?_,hK _ ?_⟩
     exact Calls.regrown_of (HZc.out _)
     iterate 6 (clear hK K;refine wpQuiet_want (by rw[←HO.out];kernel_rfl) (fun K hK=>?_);go_simp;refine hK _ ?_)
     clear hK K
     quiet_step (skip)
     refine wpQuiet_nil ?_
     intro w8 hC
     have E8:Away (Below w7.heap.size w7 w8):=⟨krw.reg_below hC⟩
     clear hC q6 HO
     have E8r:Away (Below wr.heap.size wr w8):=⟨E7.out.trans (E8.out.mono E7.out.size)⟩
     have R18:Away (w8.heap[p1]? = some (.cells Vv 76 (0,0))):=⟨(E8.out.block _ (lt_of_row R17.out)).trans R17.out⟩
     have R28:Away (w8.heap[p2]? = some (.cells Cc 76 (0,0))):=⟨(E8.out.block _ (lt_of_row R2.out)).trans R2.out⟩
     have q6:∀ d os,(Go.Sort.grow (redrawn w8 d) os).cell? ⟨gs,6,none⟩=some (.int .i64 be):=fun d os=>cell_regrown (K6.out w8 E8r.out) d os
     have ho6:=Ho6.out
     go_wp2_with fail
     refine qtail.region_below_tail 14 (by kernel_rfl) (by kernel_rfl) ?_
     iterate 2 (quiet_step (skip))
     refine wpQuiet_val rfl (.agg z) (fun w1=>exec_build0 _ rfl _ HB0.out w1) ?_
     refine wpQuiet_load rfl 76 _ rfl _ rfl 76 _ _ (fun w' hC=>heap_regrown R28.out hC) Tryz.underlying76 rfl Ci.out ?_
     quiet_step (exact Calls.regrown_of (HNq.out _))
     refine wpQuiet_load rfl 76 _ rfl _ rfl 76 _ _ (fun w' hC=>heap_regrown R18.out hC) Tryz.underlying76 rfl Vi.out ?_
     refine wpQuiet_load rfl 76 _ rfl _ rfl 76 _ _ (fun w' hC=>heap_regrown R28.out hC) Tryz.underlying76 rfl Ci.out ?_
     quiet_step (exact Calls.regrown_of (HAq.out _))
     iterate 5 (quiet_step (skip))
     quiet_step (exact Calls.regrown_of (HHq.out _))
     refine wpQuiet_nil ?_
     intro wn hC
     have hbn:Below w8.heap.size w8 wn:=krw.reg_below hC
     have A6:Away (At go (RW kn (fst hh r)) 76 w3 wn):=⟨A0.out.later (E8r.out.trans (hbn.mono E8r.out.size))⟩
     clear hC hbn A0 HPq HPk Hrg q6
     simp only[List.drop_succ_cons,List.drop_zero]
     go_wp2_with ((with_reducible refine wpList_putp A6 HE.out Hlt.out Ho6.out rfl _ _ rfl rfl ?hx ?hy ?_);(case hx=>exact rfl);(case hy=>exact rfl);intro w9 A7;rw[Hup.out]at A7)
     go_roundw
     case rel=>exact⟨r+1,by have:=Hlt.out;omega,by go_num,Hin2,A7⟩
     case measure=>have:=Hlt.out;simp[intOf];omega
  ·obtain rfl:r=kn:=by omega
   have hrow:=A0.out.row
   have HHi:=phin.hints_any hh go 0 r r om wr (lt_of_row hrow) hkn1 hkn8 Hom.out.1 (by have:=Hom.out;omega) (fun i hi=>by
    have h9:=row_holds (B:=0) (c:=r) hrow (Nat.zero_le _) (fun i hi=>fst_lt hh r i hi)
    have h8:=hd_row h9 i hi
    rw[Nat.zero_add,Nat.mul_comm]
    exact h8)
   have c7:wr.cell? ⟨gs,7,none⟩=some (.int .i64 (om:Int)):=(BU.out.cell (p:=⟨gs,7,none⟩) Lgs.out).trans C7.out
   by_cases htot:rbith.tot hh r≤om
   ·rw[if_pos htot]at HHi
    have hVe:=Away.mk (HV0'.out Hin.out htot)
    obtain⟨Ly,HLy⟩:=ex_eq (⟨(rbitb.u8s (rbith.lay hh om r r)).toArray⟩:ByteArray)
    rw[HLy.out]at HHi hVe
    have HHi:=Away.mk HHi
    clear A0 hlt hrow htot
    go_wp2_with fail
    refine HHi.out.mono ?_
    rintro e w5 ⟨rfl,hb5⟩
    have D5:Away (Below w.heap.size w w5):=⟨BU.out.trans (hb5.mono BU.out.size)⟩
    clear hb5
    go_wp2_with fail
    go_ret2
    exact⟨by rw[hVe.out];rfl,D5.out⟩
   ·rw[if_neg htot]at HHi
    have hVe:=Away.mk (HV2'.out (by omega))
    have HHi:=Away.mk HHi
    clear A0 hlt hrow htot
    go_wp2_with fail
    refine HHi.out.mono ?_
    rintro e w5 ⟨rfl,hb5⟩
    have D5:Away (Below w.heap.size w w5):=⟨BU.out.trans (hb5.mono BU.out.size)⟩
    clear hb5
    go_wp2_with fail
    go_ret2
    exact⟨by rw[hVe.out];rfl,D5.out⟩
end Go.Proofs.YtomphjajkkddkaaGreatDoor.mgf
namespace Go.Proofs.YtomphjajkkddkaaGreatDoor.mgr
open Go Go.RowKit
open mlkm mlkb mlsm mgd rbita rbitb rbith rkse
def fin:Option ByteArray→Value
 | some y=>.tuple #[.string y,.int .i64 0]
 | none=>.tuple #[.string ⟨#[]⟩,.int .i64 17]
theorem tTry_at (S:Sg) (n:Nat) (h:tOk S n=true) (m:Nat):∀ k,k≤n→n<k+m→(∀ i,k≤i→i<n→tOk S i=false)→tTry S m k=some (tSig S n):=by
 induction m with
 | zero=>intro k h1 h2;omega
 | succ m ih=>
  intro k h1 h2 h3
  rw[tTry]
  by_cases e:k=n
  ·rw[e,if_pos h]
  ·rw[if_neg (by rw[h3 k (Nat.le_refl _) (by omega)];decide)]
   exact ih (k+1) (by omega) (by omega) fun i hi hn=>h3 i (by omega) hn
theorem tTry_no (S:Sg) (m:Nat):∀ k,(∀ i,k≤i→i<k+m→tOk S i=false)→tTry S m k=none:=by
 induction m with
 | zero=>intro k _;rfl
 | succ m ih=>
  intro k h
  rw[tTry,if_neg (by rw[h k (Nat.le_refl _) (by omega)];decide)]
  exact ih (k+1) fun i hi hn=>h i (by omega) (by omega)
theorem fin_at (S:Sg) (n:Nat) (hn:n<814) (h:∀ k,k<n→tOk S k=false) (h2:tOk S n=true):fin (tTry S 814 0)=.tuple #[.string (tSig S n),.int .i64 0]:=by
 rw[tTry_at S n h2 814 0 (by omega) (by omega) fun i _ hi=>h i hi]
 rfl
theorem fin_no (S:Sg) (h:∀ k,k<814→tOk S k=false):fin (tTry S 814 0)=.tuple #[.string ⟨#[]⟩,.int .i64 17]:=by
 rw[tTry_no S 814 0 fun i _ hi=>h i (by omega)]
 rfl
theorem fin_two (o:Option ByteArray):∃ (x:ByteArray) (c:Int),fin o=.tuple #[.string x,.int .i64 c]:=by
 cases o with
 | none=>exact⟨_,_,rfl⟩
 | some y=>exact⟨_,_,rfl⟩
theorem ok_iff (S:Sg) (n:Nat):tOk S n=true↔fldm.cbs (tZ S n) S.ln<S.a-S.t*S.e∧fldm.cbs (tLo S n) S.kn<S.b-S.t*S.e∧fldm.cbs (tCl S n) S.kn<S.b∧(tot (tHn S n) S.kn:Int)≤S.o:=by
 unfold tOk
 simp only[Bool.and_eq_true,decide_eq_true_eq]
theorem sig_is (S:Sg) (n:Nat):tSum S n++laidS ByteArray.empty (tZ S n) (S.a-1) S.a S.ln++⟨(u8s (lay (tHn S n) S.o.toNat S.kn S.kn)).toArray⟩=tSig S n:=by
 unfold tSig laidS
 rw[cat_nil]
def resM (c x:ByteArray):Value:=if c.size≤255∧x.size≤60000 then .tuple #[.string (msg c x),.int .i64 0] else .tuple #[.string ⟨#[]⟩,.int .i64 5]
def sgk (ζ : Nat→Int) (kn ln:Nat) (e t a b o s:Int) (sk m r:ByteArray):Sg:=
 sgn ζ kn ln e t a b o s (sk.extract 0 128) (rdS sk 128 (lb (e+e).toNat) e) (rdS sk (128+32*lb (e+e).toNat*ln) (lb (e+e).toNat) e) (rdS sk (128+32*lb (e+e).toNat*ln+32*lb (e+e).toNat*kn) 13 4096) m r
open Classical in
noncomputable def resI (ζ : Nat→Int) (kn ln:Nat) (e t a b o s:Int) (sk m r:ByteArray):Value:=
 if r.size=32 then if (sk.size:Int)=sz2 kn ln e∧okK sk kn ln e then fin (tTry (sgk ζ kn ln e t a b o s sk m r) 814 0) else .tuple #[.string ⟨#[]⟩,.int .i64 3] else .tuple #[.string ⟨#[]⟩,.int .i64 1]
def z32:ByteArray:=⟨(List.replicate 32 (0:UInt8)).toArray⟩
noncomputable def resS (ζ : Nat→Int) (kn ln:Nat) (e t a b o s:Int) (sk x c r:ByteArray):Value:=
 if c.size≤255∧x.size≤60000 then resI ζ kn ln e t a b o s sk (msg c x) (if r.size=0 then z32 else r) else .tuple #[.string ⟨#[]⟩,.int .i64 5]
theorem resI_two (ζ : Nat→Int) (kn ln:Nat) (e t a b o s:Int) (sk m r:ByteArray):∃ (x:ByteArray) (c:Int),resI ζ kn ln e t a b o s sk m r=.tuple #[.string x,.int .i64 c]:=by
 unfold resI
 split
 ·split
  ·exact fin_two _
  ·exact⟨_,_,rfl⟩
 ·exact⟨_,_,rfl⟩
end Go.Proofs.YtomphjajkkddkaaGreatDoor.mgr
namespace Go.Proofs.YtomphjajkkddkaaGreatDoor.mgg
set_option linter.unusedSimpArgs false
open Go Go.RowKit
open arr mem stil polys polt pols nttl rndm saml spok rsdoc mlkm mlsm keca kstep kturn rkpb rkrw qrow helda heldb mgd mgr rbita rbitb rbith
theorem sign_any {T:Array Value} {S:Sg} (Z:Nat→Int) (gs gt gm cm ga ca gb cb' gl cl:Nat) (w:World) (hO:OKS T Z S) (hP:Gp w) (H:SGN T S gs gt gm cm ga ca gb cb' gl cl w):
 Calls Tryz.prog 126 #[.pointer (some ⟨gs,0,none⟩)] w fun e w'=>e=.returned (fin (tTry S 814 0))∧Below w.heap.size w w':=by
 obtain⟨hk,hl,he,ht,ha,hbb,ho,hs⟩:=oks_all hO
 have HBe:Away (∀ n:Nat,n<814→∀ w1:World,Below w.heap.size w w1→Calls Tryz.prog 165 #[.pointer (some ⟨gs,0,none⟩),.int .i64 (n:Int)] w1 fun e w'=>(∃ gy cy gw cw,e=.returned (.agg (AT (.slice (some ⟨gy,0,none⟩) S.ln cy) (.slice (some ⟨gw,0,none⟩) S.kn cw) (tSum S n) (thereR S.ζ 8 (tC S n))))∧Holds w' 0 (.slice (some ⟨gy,0,none⟩) S.ln cy) S.ln (tY S n)∧Holds w' 0 (.slice (some ⟨gw,0,none⟩) S.kn cw) S.kn (tW S n))∧Below w1.heap.size w1 w'):=⟨fun n hn w1 hb=>mgc.begin_any Z n gs gt gm cm ga ca gb cb' gl cl w1 hO (hP.later hb) hn (H.later hb)⟩
 have HAn:Away (∀ n gn gy cy gw cw,∀ w1:World,Below w.heap.size w w1→w1.heap[gn]? = some (.cells (AT (.slice (some ⟨gy,0,none⟩) S.ln cy) (.slice (some ⟨gw,0,none⟩) S.kn cw) (tSum S n) (thereR S.ζ 8 (tC S n))) 185 (0,0))→Holds w1 0 (.slice (some ⟨gy,0,none⟩) S.ln cy) S.ln (tY S n)→Calls Tryz.prog 166 #[.pointer (some ⟨gs,0,none⟩),.pointer (some ⟨gn,0,none⟩)] w1 fun e w'=>(∃ v,e=.returned (.tuple #[v,.bool (decide (fldm.cbs (tZ S n) S.ln<S.a-S.t*S.e))])∧Holds w' w1.heap.size v S.ln (tZ S n))∧Below w1.heap.size w1 w'):=⟨fun n gn gy cy gw cw w1 hb h1 h2=>mge.answers_any Z n gs gt gm cm ga ca gb cb' gl cl gn gy cy gw cw w1 hO (H.later hb) h1 h2⟩
 have HHi:Away (∀ n gn gy cy gw cw,∀ w1:World,Below w.heap.size w w1→w1.heap[gn]? = some (.cells (AT (.slice (some ⟨gy,0,none⟩) S.ln cy) (.slice (some ⟨gw,0,none⟩) S.kn cw) (tSum S n) (thereR S.ζ 8 (tC S n))) 185 (0,0))→Holds w1 0 (.slice (some ⟨gw,0,none⟩) S.kn cw) S.kn (tW S n)→Calls Tryz.prog 167 #[.pointer (some ⟨gs,0,none⟩),.pointer (some ⟨gn,0,none⟩)] w1 fun e w'=>e=.returned (resH S n)∧Below w1.heap.size w1 w'):=⟨fun n gn gy cy gw cw w1 hb h1 h2=>mgf.hints_any Z n gs gt gm cm ga ca gb cb' gl cl gn gy cy gw cw w1 hO (H.later hb) h1 h2⟩
 have HPk:Away (∀ n,tOk S n=true→∀ (vz:Value) (B:Nat) (w1:World),Below w.heap.size w w1→Holds w1 B vz S.ln (tZ S n)→Calls Tryz.prog 168 #[.pointer (some ⟨gs,0,none⟩),vz] w1 fun e w'=>e=.returned (.string (laidS ByteArray.empty (tZ S n) (S.a-1) S.a S.ln))∧Below w1.heap.size w1 w'):=⟨fun n hn vz B w1 hb h1=>mgb.pack_any gs S.ln S.a vz B (tZ S n) w1 ha ((H.later hb).cell 5 _ rfl) (H.later hb).lts hl h1 fun i hi=>mlsb.tZ_in hn (by omega) (by omega) i hi⟩
 have HsS:Away (∀ n,(tSum S n).size≤64):=⟨fun n=>by rw[mlsb.tSum_size];omega⟩
 have HsP:Away (∀ n,(laidS ByteArray.empty (tZ S n) (S.a-1) S.a S.ln).size≤100000):=⟨fun n=>by
  rw[laidS_size]
  have h2:lb (S.a-1+S.a).toNat≤64:=by rcases ha with h | h<;>rw[h]<;>decide +kernel
  have h3:=Nat.mul_le_mul (Nat.mul_le_mul (Nat.le_refl 32) h2) hl.2
  have h4:ByteArray.empty.size=0:=rfl
  omega⟩
 have HsL:Away (∀ n,(⟨(u8s (lay (tHn S n) S.o.toNat S.kn S.kn)).toArray⟩:ByteArray).size≤1000):=⟨fun n=>by
  have h1:=mlsb.tSig_size S n ha
  have h2:=sig_is S n
  have h3:(tSig S n).size=(tSum S n).size+(laidS ByteArray.empty (tZ S n) (S.a-1) S.a S.ln).size+(⟨(u8s (lay (tHn S n) S.o.toNat S.kn S.kn)).toArray⟩:ByteArray).size:=by rw[←h2,ByteArray.size_append,ByteArray.size_append]
  rw[mlsb.tSum_size,laidS_size]at h3
  have h4:ByteArray.empty.size=0:=rfl
  have h5:lb (S.a-1+S.a).toNat=lb (S.a-1).toNat+1:=by rcases ha with h | h<;>rw[h]<;>decide +kernel
  rw[h5]at h3
  generalize 32*(lb (S.a-1).toNat+1)*S.ln=q at h1 h3
  omega⟩
 obtain⟨hz,hsize⟩:=zero_of_info infoAtz
 obtain⟨z,HZ⟩:=ex_eq (AT (.slice none 0 0) (.slice none 0 0) ⟨#[]⟩ fun _=>0)
 rw[HZ.out]at hz
 have Hzs:Away (z.size=259):=⟨by rw[←HZ.out];exact at_size _ _ _ _⟩
 have HV1:Away (∀ n:Nat,n<814→(∀ k,k<n→tOk S k=false)→tOk S n=true→fin (tTry S 814 0)=.tuple #[.string (tSig S n),.int .i64 0]):=⟨fun n h1 h2 h3=>fin_at S n h1 h2 h3⟩
 have HV2:Away ((∀ k,k<814→tOk S k=false)→fin (tTry S 814 0)=.tuple #[.string ⟨#[]⟩,.int .i64 17]):=⟨fin_no S⟩
 obtain⟨V,hV⟩:=ex_eq (fin (tTry S 814 0))
 rw[hV.out]at HV1 HV2 ⊢
 have HzA:=Away.mk hz
 clear hk hl he ht ha hbb ho hs hsize HZ hV hO hP H hz
 go_enter Tryz.func126,Tryz.ntmps126
 iterate 2 (go_wp2_with fail;go_step3)
 go_wp2_with fail
 go_loopw [12,4,5] (fun iv s4 s5 wr=>∃ n:Nat,n≤814∧iv=.int .i64 (n:Int)∧s4=.string ⟨#[]⟩∧s5=.int .i64 17∧Away (∀ k,k<n→tOk S k=false)∧Away (Below w.heap.size w wr)) (fun iv _ _ _=>814-(intOf iv).toNat)
 case atStart=>exact⟨0,Nat.zero_le _,rfl,rfl,rfl,⟨fun k hk=>by omega⟩,⟨Below.refl _ _⟩⟩
 case round=>
  obtain⟨n,hn,rfl,rfl,rfl,Hno,Hb⟩:=hrel
  by_cases hlt:n<814
  ·have hnz:(n:Int)<814:=by omega
   have hz:=HzA.out
   go_wp2_with fail
   refine(HBe.out n hlt wr Hb.out).mono ?_
   rintro e w5 ⟨⟨gy,cy,gw,cw,rfl,hy,hw⟩,hb5⟩
   obtain⟨A,HA⟩:=ex_eq (AT (.slice (some ⟨gy,0,none⟩) S.ln cy) (.slice (some ⟨gw,0,none⟩) S.kn cw) (tSum S n) (thereR S.ζ 8 (tC S n)))
   have Ai:Away ((Tryz.prog.info? 185).map (·.size)=some A.size):=⟨by rw[←HA.out,at_size];exact infoAt⟩
   have Ao:Away (A.all (·.oneCell')=true):=⟨by rw[←HA.out];exact at_one _ _ _ _ _ _ _ _⟩
   have Az:Away (z.size=A.size):=⟨by rw[Hzs.out,←HA.out,at_size]⟩
   rw[HA.out]
   obtain⟨W6,hW6⟩:∃ x,w5.alloc (.cells A 185)=x:=⟨_,rfl⟩
   obtain⟨r6,hs6,b6⟩:=one hW6
   have D6:Away (Below w.heap.size w W6):=⟨Hb.out.trans ((hb5.trans (b6.mono hb5.size)).mono Hb.out.size)⟩
   have HW6:=Away.mk hW6
   have HY6:=Away.mk (hy.later b6)
   have HWw6:=Away.mk (hw.later b6)
   have HAn6:=HAn.out n w5.heap.size gy cy gw cw W6 D6.out (by rw[HA.out];exact r6) HY6.out
   have hc2:W6.cell? ⟨w5.heap.size,2,none⟩=some (.string (tSum S n)):=cell_at r6 (by rw[←HA.out];rfl)
   have Hc2:=Away.mk hc2
   have R6:=Away.mk r6
   have L6:Away (w5.heap.size<W6.heap.size):=⟨lt_of_row r6⟩
   have Hlt:=Away.mk hlt
   clear hW6 r6 hs6 b6 hy hw hb5 hc2 hlt
   by_cases h1:fldm.cbs (tZ S n) S.ln<S.a-S.t*S.e
   ·rw[decide_eq_true h1]at HAn6
    have HAn6:=Away.mk HAn6
    go_wp2_with (first
     | (refine wpList_store_new rfl 185 _ _ rfl A rfl rfl Ai.out (by exact Az.out) Ao.out rfl ?_)
     | (rw[HW6.out]))
    clear hz
    refine HAn6.out.mono ?_
    rintro e w7 ⟨⟨vz,rfl,hz7⟩,hb7⟩
    have D7:Away (Below w.heap.size w w7):=⟨D6.out.trans (hb7.mono D6.out.size)⟩
    have HZ7:=Away.mk hz7
    have B7:=Away.mk hb7
    have R7:w7.heap[w5.heap.size]? = some (.cells A 185 (0,0)):=(hb7.block _ L6.out).trans R6.out
    have HHi7:=HHi.out n w5.heap.size gy cy gw cw w7 D7.out (by rw[HA.out];exact R7) (HWw6.out.later hb7)
    obtain⟨gz,cz,rfl,-⟩:=hd_any hz7
    clear hz7 hb7 R7
    by_cases h2:tOk S n=true
    ·have hres:resH S n=.tuple #[.string ⟨(u8s (lay (tHn S n) S.o.toNat S.kn S.kn)).toArray⟩,.bool true]:=by
      obtain⟨-,q2,q3,q4⟩:=(ok_iff S n).1 h2
      unfold resH
      rw[if_pos ⟨q2,q3,q4⟩]
     rw[hres]at HHi7
     have hVe:Away (V=.tuple #[.string (tSig S n),.int .i64 0]):=⟨HV1.out n Hlt.out Hno.out h2⟩
     have hsig:=sig_is S n
     have HPk8:=HPk.out n h2
     have s1:=HsS.out n
     have s2:=HsP.out n
     have s3:=HsL.out n
     obtain⟨Sm,HSm⟩:=ex_eq (tSum S n)
     obtain⟨Pk,HPkk⟩:=ex_eq (laidS ByteArray.empty (tZ S n) (S.a-1) S.a S.ln)
     obtain⟨Ly,HLy⟩:=ex_eq (⟨(u8s (lay (tHn S n) S.o.toNat S.kn S.kn)).toArray⟩:ByteArray)
     obtain⟨Sg',HSg⟩:=ex_eq (tSig S n)
     rw[HSm.out]at s1 hsig Hc2
     rw[HPkk.out]at s2 hsig HPk8
     rw[HLy.out]at s3 hsig HHi7
     rw[HSg.out]at hsig hVe
     obtain⟨Q,hQ⟩:∃ x,Sm++Pk=x:=⟨_,rfl⟩
     have hQs:Q.size=Sm.size+Pk.size:=by rw[←hQ,ByteArray.size_append]
     rw[hQ]at hsig
     have x1:¬ 9223372036854775807<Sm.size+Pk.size:=by omega
     have x2:¬ 9223372036854775807<Q.size+Ly.size:=by omega
     have HHi7:=Away.mk HHi7
     have HPk9:=Away.mk HPk8
     clear HPk8 s1 s2 s3 hQs h1 h2 hres
     go_wp2_with fail
     refine HHi7.out.mono ?_
     rintro e w8 ⟨rfl,hb8⟩
     have D8:Away (Below w.heap.size w w8):=⟨D7.out.trans (hb8.mono D7.out.size)⟩
     have HZ8:=Away.mk (HZ7.out.later hb8)
     have Hc8:Away (∀ w':World,Below w8.heap.size w8 w'→w'.cell? ⟨w5.heap.size,2,none⟩=some (.string Sm)):=⟨fun w' hb=>by
      have k1:=B7.out.trans (hb8.mono B7.out.size)
      have k2:=k1.trans (hb.mono k1.size)
      exact(k2.cell (p:=⟨w5.heap.size,2,none⟩) L6.out).trans Hc2.out⟩
     clear hb8
     go_wp2_with fail
     refine hk_begin (w8.heap.size) 10 [0,1,2,3,6,4,5,7,8,9] (by kernel_rfl) rfl rfl (by decide) (fun hS ops HO=>?_)
     simp only[List.filterMap_cons,fa,List.getElem?_cons_succ,List.getElem?_cons_zero]
     (refine hk_t (v:=?_) (by rw[←HO.out];kernel_rfl) (fun _ _ _ h=>h) ?_ hS ?_;rotate_left;focus (intro w9 h9;go_simp;first | done | with_reducible rfl);all_goals skip)
     simp only[Act.put,pa,pb,pc]
     (refine hk_t (v:=?_) (by rw[←HO.out];kernel_rfl) (fun _ _ _ h=>h) ?_ hS ?_;rotate_left;focus (intro w9 h9;have hc:=Hc8.out w9 h9;go_simp;first | done | with_reducible rfl);all_goals skip)
     iterate 3 (simp only[Act.put,pa,pb,pc];(refine hk_t (v:=?_) (by rw[←HO.out];kernel_rfl) (fun _ _ _ h=>h) ?_ hS ?_;rotate_left;focus (intro w9 h9;go_simp;first | done | with_reducible rfl);all_goals skip))
     simp only[Act.put,pa,pb,pc]
     refine hk_s (by rw[←HO.out];kernel_rfl) (fun K hK=>?_)
     go_simp
     refine(HPk9.out _ _ _ (D8.out.trans (hS.mono D8.out.size)) (HZ8.out.later hS)).mono ?_
     rintro x w9 ⟨rfl,hb9⟩
     have h9:=hS.trans (hb9.mono hS.size)
     refine hK _ _ h9 ?_
     clear hK K
     try simp only[Act.put,pa,pb,pc]
     iterate 4 ((refine hk_t (v:=?_) (by rw[←HO.out];kernel_rfl) (fun _ _ _ h=>h) ?_ h9 ?_;rotate_left;focus (intro w9 h9;go_simp;first | done | with_reducible rfl);all_goals skip);simp only[Act.put,pa,pb,pc])
     refine hk_nil (by rw[←HO.out];kernel_rfl) ?_
     have D9:Away (Below w.heap.size w w9):=⟨D8.out.trans (h9.mono D8.out.size)⟩
     clear hS HO hb9 h9 x1 x2 hQ
     go_wp2_with fail
     rw[Exit.noGoto_ret]
     go_ret2
     exact⟨by rw[hVe.out];rfl,D9.out⟩
    ·have hres:resH S n=.tuple #[.string ⟨#[]⟩,.bool false]:=by
      unfold resH
      rw[if_neg]
      rintro ⟨q2,q3,q4⟩
      exact h2 ((ok_iff S n).2 ⟨h1,q2,q3,q4⟩)
     rw[hres]at HHi7
     have HHi7:=Away.mk HHi7
     have Hno2:Away (∀ k,k<n+1→tOk S k=false):=⟨fun k hk=>by
      by_cases e:k=n
      ·rw[e];exact Bool.eq_false_iff.2 h2
      ·exact Hno.out k (by omega)⟩
     clear h1 h2 hres
     go_wp2_with fail
     refine HHi7.out.mono ?_
     rintro e w8 ⟨rfl,hb8⟩
     have D8:Away (Below w.heap.size w w8):=⟨D7.out.trans (hb8.mono D7.out.size)⟩
     clear hb8
     go_wp2_with fail
     go_roundw
     case rel=>exact⟨n+1,by have:=Hlt.out;omega,by go_num,rfl,rfl,Hno2,D8⟩
     case measure=>have:=Hlt.out;simp[intOf];omega
   ·rw[decide_eq_false h1]at HAn6
    have HAn6:=Away.mk HAn6
    have Hno2:Away (∀ k,k<n+1→tOk S k=false):=⟨fun k hk=>by
     by_cases e:k=n
     ·rw[e];exact Bool.eq_false_iff.2 fun h2=>h1 ((ok_iff S n).1 h2).1
     ·exact Hno.out k (by omega)⟩
    clear h1
    go_wp2_with (first
     | (refine wpList_store_new rfl 185 _ _ rfl A rfl rfl Ai.out (by exact Az.out) Ao.out rfl ?_)
     | (rw[HW6.out]))
    clear hz
    refine HAn6.out.mono ?_
    rintro e w7 ⟨⟨vz,rfl,hz7⟩,hb7⟩
    have D7:Away (Below w.heap.size w w7):=⟨D6.out.trans (hb7.mono D6.out.size)⟩
    clear hz7 hb7
    go_wp2_with fail
    go_roundw
    case rel=>exact⟨n+1,by have:=Hlt.out;omega,by go_num,rfl,rfl,Hno2,D7⟩
    case measure=>have:=Hlt.out;simp[intOf];omega
  ·obtain rfl:n=814:=by omega
   have hVe:=Away.mk (HV2.out Hno.out)
   go_wp2_with fail
   rw[Exit.noGoto_ret]
   go_ret2
   exact⟨by rw[hVe.out];rfl,Hb.out⟩
end Go.Proofs.YtomphjajkkddkaaGreatDoor.mgg
namespace Go.Proofs.YtomphjajkkddkaaGreatDoor.mgt
set_option linter.unusedSimpArgs false
open Go Go.RowKit
open arr mem stil polys polt pols nttl rndm saml spok rsdoc mlkm mlsm keca kstep kturn rkpb rkrw qrow mgd
theorem transforms_any {T:Array Value} (Z:Nat→Int) (gt nv:Nat) (vv:Value) (B:Nat) (y:Nat→Nat→Int) (w:World) (hT:nthere.ZT T Z) (hr:w.heap[gt]? = some (.cells T 34 (0,0))) (hv : 1≤nv∧nv≤8) (HV:Holds w B vv nv y):
 Calls Tryz.prog 164 #[.pointer (some ⟨gt,0,none⟩),vv] w fun e w'=>(∃ v',e=.returned v'∧Holds w' w.heap.size v' nv (fun i=>thereR (fun k=>Z k%8380417) 8 (y i)))∧Below w.heap.size w w':=by
 have HTh:Away (∀ (f:Nat→Int) (w1:World),Calls Tryz.prog 79 #[.agg T,.agg (FL .i64 256 f)] w1 fun e w'=>e=.returned (.agg (FL .i64 256 (thereR (fun k=>Z k%8380417) 8 f)))∧Below w1.heap.size w1 w'):=⟨fun f w1=>nthere.there_any T Z f w1 hT⟩
 have HTz:Away ((Tryz.prog.info? 34).map (·.size)=some T.size):=⟨by rw[hT.size];kernel_rfl⟩
 obtain⟨i0,hi,hz0,hz1,hz2⟩:=tparts infoPoly
 obtain⟨hz,hsize⟩:=zero_of_info polt.infoP
 obtain⟨z,HZ⟩:=ex_eq (FL .i64 256 fun _=>0)
 rw[HZ.out]at hz hz0
 have HI:=Away.mk (And.intro hi (And.intro hz0 (And.intro hz1 hz2)))
 have Hsize:=Away.mk hsize
 obtain⟨gv,cv,rfl,hgv⟩:=hd_any HV
 have HVv:=Away.mk HV
 have HGv:=Away.mk hgv
 obtain⟨th,hth⟩:=ex_eq (fun j=>thereR (fun k=>Z k%8380417) 8 (y j))
 have Hth:Away (∀ j,thereR (fun k=>Z k%8380417) 8 (y j)=th j):=⟨fun j=>by rw[←hth.out]⟩
 rw[hth.out]
 have T0:=Away.mk hr
 have hnv8:=hv.2
 clear hi hz0 hz1 hz2 hsize HV hv hth hgv hT hr
 go_enter Tryz.func164,Tryz.ntmps164
 go_wp2_with (at_make;refine wpList_make_full _ rfl (.tmp 8) (.tmp 8) 44 rfl w.heap.size 76 i0 (.agg z) 256 Tryz.underlying44 HI.out.1 HI.out.2.1 HI.out.2.2.1 .i64 .i64 nv nv nv rfl rfl rfl rfl (by rw[HI.out.2.2.2];omega) (by unfold maxLen;omega) (Nat.le_refl _) ?_)
 intro w3 hown hgr
 obtain⟨hrow,hb3⟩:=made_row HZ.out hown hgr
 obtain⟨gt2,hgt⟩:∃ a,w.heap.size=a:=⟨_,rfl⟩
 rw[hgt]at hrow ⊢
 have A3:Away (At gt2 (RW nv (fst th 0)) 76 w3 w3):=⟨by rw[fst_zero];exact At.refl hrow⟩
 have B3:Away (Below w.heap.size w w3):=⟨hb3⟩
 have Hgt:=Away.mk hgt
 clear hown hgr hrow hb3 hgt
 go_wp2_with fail
 go_loopw [12] (fun iv wr=>∃ r:Nat,r≤nv∧iv=.int .i64 (r:Int)∧Away (At gt2 (RW nv (fst th r)) 76 w3 wr)) (fun iv _=>nv-(intOf iv).toNat)
 case atStart=>exact⟨0,Nat.zero_le _,rfl,A3⟩
 case round=>
  clear A3
  obtain⟨r,hr,rfl,A0⟩:=hrel
  have BU:Away (Below w.heap.size w wr):=⟨B3.out.trans (A0.out.below B3.out.size (Nat.le_of_eq Hgt.out))⟩
  by_cases hlt:r<nv
  ·have hrz:(r:Int)<(nv:Int):=by omega
   have hr8:r<8:=by omega
   have hrg:=hd_row (HVv.out.later BU.out) r hlt
   obtain⟨F,HF⟩:=ex_eq (FL .i64 256 (y r))
   obtain⟨o6,ho6⟩:∃ o6,r*256=o6:=⟨_,rfl⟩
   rw[HF.out,ho6]at hrg
   have Hrg:Away (∀ w':World,Below wr.heap.size wr w'→w'.rangeAt gv o6 F.toList):=⟨fun w' hb'=>range_later hrg (Nat.lt_of_lt_of_le HGv.out BU.out.size) hb'⟩
   have Fi:Away ((Tryz.prog.info? 76).map (·.size)=some F.toList.length):=⟨by rw[Array.length_toList,←HF.out,fl_size];exact Hsize.out⟩
   have T1:Away (wr.heap[gt]? = some (.cells T 34 (0,0))):=⟨(BU.out.block _ (lt_of_row T0.out)).trans T0.out⟩
   have HTr:Away (∀ w1:World,Calls Tryz.prog 79 #[.agg T,.agg F] w1 fun e w'=>e=.returned (.agg (FL .i64 256 (th r)))∧Below w1.heap.size w1 w'):=⟨fun w1=>by rw[←HF.out,←Hth.out];exact HTh.out (y r) w1⟩
   obtain⟨E,HE⟩:=ex_eq (FL .i64 256 (th r))
   rw[HE.out]at HTr
   have Hup:Away (ups (fst th r) r (th r)=fst th (r+1)):=⟨ups_fst th r⟩
   have Hlt:=Away.mk hlt
   have Ho6:=Away.mk ho6
   clear hrg hlt HF
   go_wp2_with fail
   refine qtail.region_below_tail 10 (by kernel_rfl) (by kernel_rfl) ?_
   iterate 4 (quiet_step (skip))
   refine wpQuiet_load rfl 34 _ rfl _ rfl 34 _ _ (fun w' hC=>heap_regrown T1.out hC) Tryz.underlying34 rfl HTz.out ?_
   iterate 3 (quiet_step (skip))
   refine wpQuiet_load_mid rfl 76 _ rfl gv o6 rfl F.toList _ (fun w' hC=>Hrg.out w' (krw.reg_below hC)) Tryz.underlying76 rfl Fi.out ?_
   quiet_step (exact Calls.regrown_of (HTr.out _))
   refine wpQuiet_nil ?_
   intro wn hC
   have hbn:Below wr.heap.size wr wn:=krw.reg_below hC
   have A6:Away (At gt2 (RW nv (fst th r)) 76 w3 wn):=⟨A0.out.later hbn⟩
   clear hC hbn A0 HTr Hrg T1
   simp only[List.drop_succ_cons,List.drop_zero]
   go_wp2_with ((with_reducible refine wpList_putp A6 HE.out Hlt.out Ho6.out rfl _ _ rfl rfl ?hx ?hy ?_);(case hx=>exact rfl);(case hy=>exact rfl);intro w7 A7;rw[Hup.out]at A7)
   go_roundw
   case rel=>exact⟨r+1,by have:=Hlt.out;omega,by go_num,A7⟩
   case measure=>have:=Hlt.out;simp[intOf];omega
  ·obtain rfl:r=nv:=by omega
   have HTt:Away (Holds wr w.heap.size (.slice (some ⟨gt2,0,none⟩) r r) r th):=⟨row_holds A0.out.row (by have:=Hgt.out;omega) (fun i hi=>fst_lt th r i hi)⟩
   clear A0 hlt
   go_wp2_with fail
   go_ret
   exact⟨⟨_,rfl,HTt.out⟩,BU.out⟩
end Go.Proofs.YtomphjajkkddkaaGreatDoor.mgt
namespace Go.Proofs.YtomphjajkkddkaaGreatDoor
namespace kaw
open Go Go.RowKit
open rbita mem arr tabv kturn rndm mlkm mlkd tabm tabt
theorem zt_doc:nthere.ZT TA (fun k=>((zt k:Nat):Int)):=⟨ht_doc,ta_size,ta_one⟩
end kaw
namespace kcon
set_option linter.unusedSimpArgs false
open Go Go.RowKit
open arr mem polys polt pols rbita rbite saml samr samc rsdoc kturn mlkm mlkb rksz rkpb rksb rkse rkrw mlkd kkey kaw tabm tabt tabv
open rndm (latt)
def ζd:Nat→Int:=fun k=>((zt k:Nat):Int)%8380417
structure TH (w:World) (g g1 c1 g2 c2 g3 c3 ln kn:Nat) (p q l:Nat→Nat→Int):Prop where
 lt:g<w.heap.size
 x0:w.cell? ⟨g,0,none⟩=some (.slice (some ⟨g1,0,none⟩) ln c1)
 x1:w.cell? ⟨g,1,none⟩=some (.slice (some ⟨g2,0,none⟩) kn c2)
 x2:w.cell? ⟨g,2,none⟩=some (.slice (some ⟨g3,0,none⟩) kn c3)
 h0:Holds w 0 (.slice (some ⟨g1,0,none⟩) ln c1) ln p
 h1:Holds w 0 (.slice (some ⟨g2,0,none⟩) kn c2) kn q
 h2:Holds w 0 (.slice (some ⟨g3,0,none⟩) kn c3) kn l
theorem TH.later {w w':World} {g g1 c1 g2 c2 g3 c3 ln kn:Nat} {p q l:Nat→Nat→Int} (h:TH w g g1 c1 g2 c2 g3 c3 ln kn p q l) (hb:Below w.heap.size w w'):TH w' g g1 c1 g2 c2 g3 c3 ln kn p q l:=
 ⟨Nat.lt_of_lt_of_le h.lt hb.size,(hb.cell (p:=⟨g,0,none⟩) h.lt).trans h.x0,(hb.cell (p:=⟨g,1,none⟩) h.lt).trans h.x1,(hb.cell (p:=⟨g,2,none⟩) h.lt).trans h.x2,h.h0.later hb,h.h1.later hb,h.h2.later hb⟩
theorem th_of {w:World} {v:Value} {x:ByteArray} {kn ln:Nat} {e:Int} (h:three w v x kn ln e):∃ g c g1 c1 g2 c2 g3 c3,v=.slice (some ⟨g,0,none⟩) 3 c∧TH w g g1 c1 g2 c2 g3 c3 ln kn (rdS x 128 (lb (e+e).toNat) e) (rdS x (128+32*lb (e+e).toNat*ln) (lb (e+e).toNat) e) (rdS x (128+32*lb (e+e).toNat*ln+32*lb (e+e).toNat*kn) 13 4096):=by
 obtain⟨g,c,v1,v2,v3,e0,hg,x0,x1,x2,h0,h1,h2⟩:=h
 obtain⟨g1,c1,e1,-⟩:=hd_any h0
 obtain⟨g2,c2,e2,-⟩:=hd_any h1
 obtain⟨g3,c3,e3,-⟩:=hd_any h2
 subst e1 e2 e3
 exact⟨g,c,g1,c1,g2,c2,g3,c3,e0,hg,x0,x1,x2,h0,h1,h2⟩
theorem size_of (kn ln:Nat) (e:Int) (n:Nat):(n:Int)=sz2 kn ln e↔n=128+32*lb (2*e).toNat*ln+32*lb (2*e).toNat*kn+416*kn:=by
 have e1 : 32*((lb (2*e).toNat:Nat):Int)*((ln:Int)+(kn:Int))=((32*lb (2*e).toNat*ln+32*lb (2*e).toNat*kn:Nat):Int):=by push_cast;rw[Int.mul_add]
 rw[sz2,e1]
 omega
section
variable (kn ln:Nat) (e t a b o s:Int) (sd:ByteArray) (h:latt (kn:Int) (ln:Int) e t a b o s=true)
include h
theorem pair (w:World) (hP:Gp w) (hsd:sd.size=32):Calls Tryz.prog 18 #[.agg TA,.agg #[.int .i64 (kn:Int),.int .i64 (ln:Int),.int .i64 e,.int .i64 t,.int .i64 a,.int .i64 b,.int .i64 o,.int .i64 s],.string sd] w fun x w'=>x=.returned (.tuple #[.string (pPk ζd sd kn ln e),.string (pSk ζd sd kn ln e),.int .i64 0])∧Below w.heap.size w w':=kpr.pair_any _ kn ln e t a b o s sd w kecd.kt_doc hP zt_doc h hsd
theorem sk_facts:(pSk ζd sd kn ln e).size=128+32*lb (2*e).toNat*ln+32*lb (2*e).toNat*kn+416*kn∧okK (pSk ζd sd kn ln e) kn ln e:=by
 obtain⟨-,-,he,-⟩:=latt_all h
 refine⟨?_,?_⟩
 ·unfold pSk
  rw[skB_size,pHead_size,(lb_eta e he).1]
 ·exact sk_ok kn ln e _ _ _ _ (pHead_size _ _ _ _ _) he (fun i _=>qS_in _ e he i) (fun i _=>qS_in _ e he (ln+i)) (fun i _=>pLo_in ζd sd kn ln e i)
theorem sec (w:World):Calls Tryz.prog 124 #[.agg #[.int .i64 (kn:Int),.int .i64 (ln:Int),.int .i64 e,.int .i64 t,.int .i64 a,.int .i64 b,.int .i64 o,.int .i64 s],.string (pSk ζd sd kn ln e)] w fun r w'=>(∃ g c g1 c1 g2 c2 g3 c3,r=.returned (.tuple #[.string (pHead ζd sd kn ln e),.slice (some ⟨g,0,none⟩) 3 c,.int .i64 0])∧TH w' g g1 c1 g2 c2 g3 c3 ln kn (qS (pSig sd kn ln) e) (fun i=>qS (pSig sd kn ln) e (ln+i)) (pLo ζd sd kn ln e))∧Below w.heap.size w w':=by
 obtain⟨-,-,he,-⟩:=latt_all h
 obtain⟨f1,f2⟩:=sk_facts kn ln e t a b o s sd h
 obtain⟨r1,r2,r3⟩:=sk_read kn ln e (pHead ζd sd kn ln e) (qS (pSig sd kn ln) e) (fun i=>qS (pSig sd kn ln) e (ln+i)) (pLo ζd sd kn ln e) (pHead_size _ _ _ _ _) he (fun i _=>qS_in _ e he i) (fun i _=>qS_in _ e he (ln+i)) (fun i _=>pLo_in ζd sd kn ln e i) (fun i k=>qS_red _ _ _ _) (fun i k=>qS_red _ _ _ _) (fun i k=>pLo_red _ _ _ _ _ _ _)
 have hhd:(pSk ζd sd kn ln e).extract 0 128=pHead ζd sd kn ln e:=sk_head kn ln e _ _ _ _ (pHead_size _ _ _ _ _)
 refine(kse.secret_good kn ln e t a b o s (pSk ζd sd kn ln e) w h ((size_of kn ln e _).2 f1)).mono ?_
 rintro r w' ⟨⟨hok,v,rfl,hv⟩ | ⟨hno,-⟩,hb⟩
 ·obtain⟨g,c,g1,c1,g2,c2,g3,c3,rfl,H⟩:=th_of hv
  rw[hhd]
  exact⟨⟨g,c,g1,c1,g2,c2,g3,c3,rfl,H.lt,H.x0,H.x1,H.x2,holds_congr H.h0 r1,holds_congr H.h1 r2,holds_congr H.h2 r3⟩,hb⟩
 ·exact absurd f2 hno
theorem mat (w:World) (hP:Gp w):Calls Tryz.prog 33 #[.agg TA,.agg #[.int .i64 (kn:Int),.int .i64 (ln:Int),.int .i64 e,.int .i64 t,.int .i64 a,.int .i64 b,.int .i64 o,.int .i64 s],.string (pRho sd kn ln)] w fun x w'=>(∃ v,x=.returned v∧MX w' v kn (fun _=>ln) (qX (pRho sd kn ln)))∧Below w.heap.size w w':=by
 obtain⟨hk,-⟩:=latt_all h
 refine(qdoc.matrix kn ln e t a b o s _ w kecd.kt_doc hP h (by rw[pRho_size];decide)).mono ?_
 rintro x w' ⟨⟨v,vs,rfl,h1,h2⟩,hb⟩
 exact⟨⟨v,rfl,mx_of (by omega) h1 h2⟩,hb⟩
end
end kcon
end Go.Proofs.YtomphjajkkddkaaGreatDoor
