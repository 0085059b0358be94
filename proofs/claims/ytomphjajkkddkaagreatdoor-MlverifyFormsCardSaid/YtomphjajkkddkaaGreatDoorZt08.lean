/-
  What squeeze of the sponge does: bytes of a sponge in memory. Conditions: the state has 25 words of 
-/
import Derived.Test.YtomphjajkkddkaaGreatDoorZt07
import Derived.Test.YtomphjajkkddkaaGreatDoorZt06
import Derived.Test.YtomphjajkkddkaaGreatDoorZt02
set_option maxRecDepth 100000
set_option maxHeartbeats 16000000
namespace Go.Proofs.YtomphjajkkddkaaGreatDoor
namespace spog
open Go Go.RowKit
open arr mem kecm kecb kstep kturn spgm spmx rspa rspc rspd spoa spob spoc spod spoe spof
theorem conv_own {w:World} {base g cap n:Nat} {l:List UInt8} (hn:l.length=n) (h:w.ownsRow base 5 1 (.slice (some ⟨g,0,none⟩) n cap) n (Lib.byteCells l)):
 (convert 57 9 (.slice (some ⟨g,0,none⟩) n cap)).run Tryz.prog w=.ok (.string ⟨l.toArray⟩) w:=by
 subst hn
 refine run_convert_bytes_back (P:=Tryz.prog) w 57 9 5 ⟨g,0,none⟩ cap l Tryz.underlying57 Tryz.underlying5 Tryz.underlying9 (fun j hj=>?_)
 have:=h.cellAt j (by omega)
 rw[Addr.add_mid,Nat.zero_add,this]
 simp[Lib.byteCells,hj]
theorem any_tail {P:Program} {md:Region.Mode} {l:List Oper} {Q:Exit→Act→World→Prop} {listed:Array Bool} {a:Act} {w:World} (n g:Nat) (hB:Region.seqB md l.toArray g n listed=true) (hg:(l.drop n).length=g)
 (h:wpList P l.toArray Q (l.drop n) a w):wpAny P md l.toArray Q g listed a w:=by
 subst hg
 exact wpAny_of_seq (l.drop n) n listed a w (fun j=>by simp[List.getElem?_drop]) hB h
theorem fin_is (k:Int) (h : 0<rate k):fin k=spgm.mark k:=by
 unfold fin spgm.mark
 unfold rate at h
 by_cases h1:k=1
 ·simp[h1]
 ·by_cases h2:k=2
  ·simp[h2]
  ·by_cases h3:k=3
   ·simp[h3]
   ·by_cases h4:k=4
    ·simp[h4]
    ·simp[h1,h2,h3,h4]at h
end spog
namespace spoh
open Go Go.RowKit
open arr mem kecm kecb kstep kturn spgm spmx rspa rspc rspd spoa spob spoc spod spoe spof spog
theorem traits_is2 (k:Int) (r:Nat) (hr:rate k=r) (h0 : 0<r):∃ z:Nat,∀ w1:World,Calls Tryz.prog 132 #[.int .i64 k] w1 fun e w'=>e=.returned (.agg #[.int .i64 (r:Int),.int .u8 ((spgm.mark k:Nat):Int),.int .i64 (z:Int)])∧Below w1.heap.size w1 w':=
 ⟨spoa.size k,fun w1=>by have h:=traits_any k w1;unfold tr at h;rw[hr,fin_is k (by rw[hr];exact h0)]at h;exact h⟩
theorem squeeze_pad {T:Array Value} {ts rs:List Nat} (gt gs:Nat) (k:Int) (p0 n:Nat) (l:List Nat) (w:World) (h:St l) (hK:KT T ts rs) (hP:Gp w) (hT:w.heap[gt]? = some (.cells T 34 (0,0))) (hne:gt≠gs) (hgp:gs≠3) (hr0 : 0<rate k) (hp:p0<rate k) (hn:n≤50000)
 (hrow:w.heap[gs]? = some (.cells (SC k l (p0:Int) false) 164 (0,0))):
 Calls Tryz.prog 172 #[.pointer (some ⟨gt,0,none⟩),.pointer (some ⟨gs,0,none⟩),.int .i64 (n:Int)] w fun e w'=>e=.returned (.string ⟨(u8s (sq (PP ts rs) (rate k) (pad (rate k) (spgm.mark k) ⟨l,p0⟩) n)).toArray⟩)∧At gs (SC k (sk (PP ts rs) (rate k) (pad (rate k) (spgm.mark k) ⟨l,p0⟩) n).l ((sk (PP ts rs) (rate k) (pad (rate k) (spgm.mark k) ⟨l,p0⟩) n).at':Nat) true) 164 w w':=by
 have hr168:=rate_le k
 obtain⟨r,hr⟩:∃ r,rate k=r:=⟨_,rfl⟩
 rw[hr]at hp hr168 hr0 ⊢
 obtain⟨z,hTr⟩:=traits_is2 k r hr hr0
 have hf:=mark_lt k
 obtain⟨f,hf2⟩:∃ f,spgm.mark k=f:=⟨_,rfl⟩
 rw[hf2]at hTr hf ⊢
 obtain⟨s0,Hs0⟩:=ex_eq (pad r f ⟨l,p0⟩)
 have Hs0k:Away (St s0.l∧s0.at'≤r):=⟨by rw[←Hs0.out];exact pad_ok h⟩
 rw[Hs0.out]
 obtain⟨E,HE⟩:=ex_eq (sk (PP ts rs) r s0 n)
 rw[HE.out]
 obtain⟨bs,Hbs⟩:=ex_eq (u8s (sq (PP ts rs) r s0 n))
 have Hbl:Away (bs.length=n):=⟨by rw[←Hbs.out,u8s_length,sq_length]⟩
 rw[Hbs.out]
 obtain⟨i0,hi,hz0,hz1,hz2⟩:=parts infoByte
 have HI:=Away.mk (And.intro hi (And.intro hz0 (And.intro hz1 hz2)))
 have HTr:=Away.mk hTr
 have H:=Away.mk h
 have HK:=Away.mk hK
 have HP:=Away.mk hP
 have HT:=Away.mk hT
 have HR:=Away.mk hrow
 have hgt:=lt_of_row hT
 have hgs:=lt_of_row hrow
 have c0:w.cell? ⟨gs,0,none⟩=some (.int .i64 k):=cell_at hrow (sc_kind k l _ _)
 have c3:w.cell? ⟨gs,27,none⟩=some (.bool false):=cell_at hrow (sc_out k _ false h.len)
 clear h hK hP hT hrow hTr hr hi hz0 hz1 hz2
 go_enter Tryz.func172,Tryz.ntmps172
 go_wp2_with fail
 refine(HTr.out _).mono ?_
 rintro e w1 ⟨rfl,hb1⟩
 have A1:Away (At gs (SC k l (p0:Int) false) 164 w w1):=⟨(At.refl HR.out).later hb1⟩
 obtain⟨W,hW⟩:∃ x,w1.alloc (.cells #[.int .i64 (r:Int),.int .u8 (f:Int),.int .i64 (z:Int)] 153)=x:=⟨_,rfl⟩
 have HW:=Away.mk hW
 obtain⟨gk,hgk⟩:∃ x,w1.heap.size=x:=⟨_,rfl⟩
 have hgk2:gs<gk:=by rw[←hgk];have:=A1.out.size;omega
 have A2:Away (At gs (SC k l (p0:Int) false) 164 w W):=⟨by rw[←hW];exact A1.out.later (below_alloc _ _)⟩
 have K2:Away (W.heap[gk]? = some (.cells #[.int .i64 (r:Int),.int .u8 (f:Int),.int .i64 (z:Int)] 153 (0,0))):=⟨by rw[←hW];exact heap_at _ _ _ hgk.symm⟩
 have hgkW:=lt_of_row K2.out
 have c3:W.cell? ⟨gs,27,none⟩=some (.bool false):=cell_at A2.out.row (sc_out k _ false H.out.len)
 have cp:W.cell? ⟨gs,26,none⟩=some (.int .i64 (p0:Int)):=cell_at A2.out.row (sc_at k _ false H.out.len)
 have ck1:W.cell? ⟨gk,1,none⟩=some (.int .u8 (f:Int)):=cell_at K2.out rfl
 clear hb1 c0 HTr HR hW A1
 go_wp2_with (rw[HW.out])
 refine still_tail 9 (by kernel_rfl) (by kernel_rfl) ?_
 simp only[List.take_succ_cons,List.take_zero,List.drop_succ_cons,List.drop_zero]
 repeat still_step
 refine wpStill_nil ?_
 clear c3 cp ck1
 go_wp2_with fail
 refine(mixByte_any gs k (p0:Int) false l 164 p0 f W.drew H.out (by omega) hf A2.out.row).mono ?_
 rintro e w3 ⟨rfl,h3⟩
 have A3:Away (At gs (SC k (xb l p0 f) (p0:Int) false) 164 W w3):=⟨⟨h3.os,h3.tape,h3.output,h3.size,h3.row,h3.block⟩⟩
 have H3:Away (St (xb l p0 f)):=⟨xb_st H.out p0 f⟩
 obtain⟨l3,Hl3⟩:=ex_eq (xb l p0 f)
 rw[Hl3.out]at A3 H3
 obtain⟨r1,hr1⟩:∃ r1,r-1=r1:=⟨_,rfl⟩
 have fr1:IntKind.i64.wrap ((r:Int)-1)=(r1:Int):=by rw[IntKind.wrap_i64];omega
 have ck0:w3.cell? ⟨gk,0,none⟩=some (.int .i64 (r:Int)):=cell_at (A3.out.other hgkW (by omega) K2.out) rfl
 clear h3
 go_wp2_with fail
 refine still_tail 6 (by kernel_rfl) (by kernel_rfl) ?_
 simp only[List.take_succ_cons,List.take_zero,List.drop_succ_cons,List.drop_zero]
 repeat still_step
 refine wpStill_nil ?_
 clear fr1 ck0
 go_wp2_with fail
 refine(mixByte_any gs k (p0:Int) false l3 164 r1 128 w3.drew H3.out (by omega) (by decide) A3.out.row).mono ?_
 rintro e w5 ⟨rfl,h5⟩
 have A5:Away (At gs (SC k (xb l3 r1 128) (p0:Int) false) 164 W w5):=⟨A3.out.trans (b:=w3) ⟨h5.os,h5.tape,h5.output,h5.size,h5.row,h5.block⟩⟩
 have H5:Away (St (xb l3 r1 128)):=⟨xb_st H3.out r1 128⟩
 have Hpad:Away (s0=⟨xb l3 r1 128,r⟩):=⟨by rw[←Hs0.out,pad,Hl3.out,hr1]⟩
 obtain⟨l5,Hl5⟩:=ex_eq (xb l3 r1 128)
 rw[Hl5.out]at A5 H5 Hpad
 have ck0:w5.cell? ⟨gk,0,none⟩=some (.int .i64 (r:Int)):=cell_at (A5.out.other hgkW (by omega) K2.out) rfl
 have co:w5.cell? ⟨gs,27,none⟩=some (.bool false):=cell_at A5.out.row (sc_out k _ false H5.out.len)
 have fo:w5.frozen? ⟨gs,27,none⟩=false:=frozen_of_row w5 gs 27 _ _ A5.out.row
 clear h5 Hl3 Hl5 Hs0 hr1 A3 H3
 go_wp2_with fail
 refine wp_region_any (by kernel_rfl) ?_
 change wpAny _ _ _ _ _ _ _ (World.drew _)
 (focus (refine wpAny_take (i:=0) (v:=?_) rfl (by kernel_rfl) (by kernel_rfl) (by kernel_rfl) (fun _ _ _ h=>h) (Or.inl ⟨by rfl,?_⟩) ?_;rotate_left;focus (intro w;go_simp;first | done | with_reducible rfl);all_goals skip))
 (focus (refine wpAny_take (i:=1) (v:=?_) rfl (by kernel_rfl) (by kernel_rfl) (by kernel_rfl) (fun _ _ _ h=>h) (Or.inl ⟨by rfl,?_⟩) ?_;rotate_left;focus (intro w;go_simp;first | done | with_reducible rfl);all_goals skip))
 (focus (refine wpAny_take (i:=2) (v:=?_) rfl (by kernel_rfl) (by kernel_rfl) (by kernel_rfl) (fun _ _ _ h=>h) (Or.inl ⟨by rfl,?_⟩) ?_;rotate_left;focus (intro w;go_simp;first | done | with_reducible rfl);all_goals skip))
 (focus (refine wpAny_take (i:=4) (v:=?_) rfl (by kernel_rfl) (by kernel_rfl) (by kernel_rfl) (fun _ _ _ h=>h) (Or.inl ⟨by rfl,?_⟩) ?_;rotate_left;focus (intro w;go_simp;first | done | with_reducible rfl);all_goals skip))
 (focus (refine wpAny_take (i:=5) (v:=?_) rfl (by kernel_rfl) (by kernel_rfl) (by kernel_rfl) (fun _ _ _ h=>h) (Or.inl ⟨by rfl,?_⟩) ?_;rotate_left;focus (intro w;go_simp;first | done | with_reducible rfl);all_goals skip))
 refine wpAny_ready (rs:=[3,6]) (by kernel_rfl) (by simp) ?_
 refine AllReady.cons rfl (fun K hK=>?_) (AllReady.cons rfl (fun K hK=>?_) AllReady.nil)
 ·(go_simp;refine hK _ _ ?_;clear hK K)
  (refine wpAny_ready (rs:=[6]) (by kernel_rfl) (by simp) ?_;refine AllReady.cons rfl (fun K hK=>?_) AllReady.nil;go_simp;refine hK _ _ ?_;clear hK K)
  refine any_tail 7 3 (by kernel_rfl) (by kernel_rfl) ?_
  simp only[List.drop_succ_cons,List.drop_zero]
  have A6:Away (At gs (SC k l5 (p0:Int) true) 164 W (w5.setCell ⟨gs,27,none⟩ (.bool true)).drew):=⟨by
   have h9:=at_put A5.out 27 (.bool true)
   rw[sc_seto k _ false true H5.out.len]at h9
   exact at_drew h9⟩
  obtain⟨w7,hw7⟩:∃ x,(w5.setCell ⟨gs,27,none⟩ (.bool true)).drew=x:=⟨_,rfl⟩
  rw[hw7]at A6 ⊢
  clear hw7 ck0 co fo A5
  have c3:True:=trivial
  go_wp2_with (first
   | ((with_reducible refine wpList_put2 A6 rfl _ _ _ rfl rfl ?_);refine⟨_,_,_,rfl,rfl,rfl,(by rw[sc_size k _ true H5.out.len];decide),?_⟩;intro w8 A8;rw[sc_seta k _ _ true H5.out.len]at A8;have A8:Away (At gs (SC k s0.l (s0.at':Int) true) 164 W w8):=⟨by rw[Hpad.out];exact A8.out⟩;have K2:Away (w8.heap[gk]? = some (.cells #[.int .i64 (r:Int),.int .u8 (f:Int),.int .i64 (z:Int)] 153 (0,0))):=⟨A8.out.other hgkW (by omega) K2.out⟩;have A2:Away (At gs (SC k s0.l (s0.at':Int) true) 164 w w8):=⟨A2.out.trans A8.out⟩;clear A8 A6 Hpad)
   | (at_make;refine wpList_make_own _ rfl _ _ 57 rfl w8.heap.size 5 i0 (.int .u8 0) 1 Tryz.underlying57 HI.out.1 HI.out.2.1 HI.out.2.2.1 .i64 .i64 (n:Int) n rfl rfl rfl (by rw[HI.out.2.2.2];omega) (by unfold maxLen;omega) (Nat.le_refl _) ?_))
  intro w4 hown hgr
  have hb4:Below w8.heap.size w8 w4:=(Below.refl _ _).grown hgr (Nat.le_refl _) (fun k hk=>by simp at hk)
  have hgkW:=lt_of_row K2.out
  have AW:Away (At gs (SC k s0.l (s0.at':Int) true) 164 w8 w4):=⟨(At.refl A2.out.row).later hb4⟩
  have OW0:=Away.mk hown
  have PW:Away (Gp w8):=⟨Gp.at HP.out A2.out hgp⟩
  have TW:Away (w8.heap[gt]? = some (.cells T 34 (0,0))):=⟨A2.out.other hgt hne HT.out⟩
  have hgtW:gt<w8.heap.size:=lt_of_row TW.out
  have hgsW:gs<w8.heap.size:=lt_of_row A2.out.row
  clear hown hgr hb4 c3
  go_wp2_with fail
  go_loopw [8] (fun v wr=>∃ j:Nat,j≤n∧(∃ g cap,v=.slice (some ⟨g,0,none⟩) j cap)∧Away (wr.ownsRow w8.heap.size 5 1 v j (Lib.byteCells (u8s (sq (PP ts rs) r s0 j))))∧Away (At gs (SC k (sk (PP ts rs) r s0 j).l ((sk (PP ts rs) r s0 j).at':Nat) true) 164 w8 wr)) (fun v _=>n-(match v with | .slice _ m _=>m | _=>0))
  case atStart=>exact⟨0,Nat.zero_le _,⟨_,_,rfl⟩,OW0,AW⟩
  case round=>
   clear OW0 AW
   obtain⟨j,hj,⟨gv,cap,rfl⟩,OWN,A0⟩:=hrel
   by_cases hlt:j<n
   ·have hjz:(j:Int)<(n:Int):=by omega
    obtain⟨st,Hst⟩:=ex_eq (sk (PP ts rs) r s0 j)
    have Hso:Away (St st.l∧st.at'≤r):=⟨by rw[←Hst.out];exact sk_ok (fun _ h=>pp_st HK.out.br h) hr0 Hs0k.out.1 Hs0k.out.2 j⟩
    rw[Hst.out]at A0
    have Htl:Away (St (tn (PP ts rs) r st).l∧(tn (PP ts rs) r st).at'<r):=⟨tn_ok (fun _ h=>pp_st HK.out.br h) hr0 Hso.out.1 Hso.out.2⟩
    obtain⟨sl,p⟩:=st
    have hsl:=Hso.out.1
    have hp':=Hso.out.2
    simp only at hsl hp' A0
    have hp8:p≤168:=by omega
    have Hsl:=Away.mk hsl
    have Hp:=Away.mk hp'
    have cp0:wr.cell? ⟨gs,26,none⟩=some (.int .i64 (p:Int)):=cell_at A0.out.row (sc_at k _ true hsl.len)
    have Krow:Away (wr.heap[gk]? = some (.cells #[.int .i64 (r:Int),.int .u8 (f:Int),.int .i64 (z:Int)] 153 (0,0))):=⟨A0.out.other hgkW (by omega) K2.out⟩
    have ck0:wr.cell? ⟨gk,0,none⟩=some (.int .i64 (r:Int)):=cell_at Krow.out rfl
    clear hsl hp'
    by_cases he:p=r
    ·have hz:((p:Int)==(r:Int))=true:=beq_iff_eq.2 (by omega)
     go_wp2_with fail
     refine still_all (by kernel_rfl) (by kernel_rfl) ?_
     repeat still_step
     refine wpStill_nil ?_
     have Ad:Away (At gs (SC k sl (p:Int) true) 164 w8 wr.drew):=⟨at_drew A0.out⟩
     go_wp2_with fail
     refine(next_any gt gs k (p:Int) true sl wr.drew Hsl.out HK.out (Gp.at PW.out Ad.out hgp) (Ad.out.other hgtW hne TW.out) Ad.out.row).mono ?_
     rintro e w6 ⟨rfl,h6⟩
     have A6:Away (At gs (SC k (PP ts rs sl) ((0:Nat):Int) true) 164 w8 w6):=⟨Ad.out.trans h6⟩
     have O6:Away (w6.ownsRow w8.heap.size 5 1 (.slice (some ⟨gv,0,none⟩) j cap) j (Lib.byteCells (u8s (sq (PP ts rs) r s0 j)))):=⟨owns_at (World.ownsRow.drew OWN.out) h6 hgsW⟩
     have Htn:Away (tn (PP ts rs) r ⟨sl,p⟩=⟨PP ts rs sl,0⟩):=⟨by rw[tn,if_pos he]⟩
     clear h6 cp0 ck0 Krow OWN Ad A0
     obtain⟨y,hy⟩:∃ y:Nat,0=y:=⟨_,rfl⟩
     rw[hy]at A6 Htn
     obtain⟨xl,Hxl⟩:=ex_eq (PP ts rs sl)
     rw[Hxl.out]at A6 Htn
     rw[Htn.out]at Htl
     clear hy Hxl he hz
     go_wp2_with fail
     have HXl:Away (St xl):=⟨Htl.out.1⟩
     have hyr:y<r:=Htl.out.2
     obtain⟨d,hd⟩:∃ d,y+n-j=d:=⟨_,rfl⟩
     obtain⟨d1,hd1⟩:∃ d1,y+n=d1:=⟨_,rfl⟩
     have fd1:IntKind.i64.wrap ((y:Int)+(n:Int))=(d1:Int):=by rw[IntKind.wrap_i64];omega
     have fd:IntKind.i64.wrap ((d1:Int)-(j:Int))=(d:Int):=by rw[IntKind.wrap_i64];omega
     have cp1:w6.cell? ⟨gs,26,none⟩=some (.int .i64 (y:Int)):=cell_at A6.out.row (sc_at k _ true HXl.out.len)
     have K6:Away (w6.heap[gk]? = some (.cells #[.int .i64 (r:Int),.int .u8 (f:Int),.int .i64 (z:Int)] 153 (0,0))):=⟨A6.out.other hgkW (by omega) K2.out⟩
     have ck1:w6.cell? ⟨gk,0,none⟩=some (.int .i64 (r:Int)):=cell_at K6.out rfl
     clear Htl
     refine still_all (by kernel_rfl) (by kernel_rfl) ?_
     repeat still_step
     refine wpStill_nil ?_
     obtain⟨zz,hzz⟩:∃ zz,(if r<d then r else d)=zz:=⟨_,rfl⟩
     have hmin:(if r<d then (r:Int) else (d:Int))=(zz:Int):=by rw[←hzz];split<;>rfl
     have hz1:y<zz:=by rw[←hzz];split<;>omega
     have hz2:zz≤r:=by rw[←hzz];split<;>omega
     have hz3:j+(zz-y)≤n:=by rw[←hzz];split<;>omega
     rw[hmin]
     obtain⟨m,hm⟩:∃ m,zz-y=m:=⟨_,rfl⟩
     have HNX:Away (sk (PP ts rs) r s0 (j+m)=⟨xl,zz⟩∧sq (PP ts rs) r s0 (j+m)=sq (PP ts rs) r s0 j++gbs xl y m):=⟨by
      obtain⟨k1,k2⟩:=round_is (PP ts rs) r ⟨sl,p⟩ xl y m hr0 Htn.out (by omega) (by omega)
      rw[sk_add,sq_add,Hst.out,k1,k2,show y+m=zz by omega]
      exact⟨rfl,rfl⟩⟩
     have HC:=Away.mk (read_any w8.heap.size gs k (y:Int) true xl 164 (sq (PP ts rs) r s0 j) j gv cap y zz w6.drew.drew HXl.out (by omega) (by omega) (by omega) hgsW A6.out.size A6.out.row (World.ownsRow.drew (World.ownsRow.drew O6.out)))
     rw[hm]at HC hz3
     have hA6:=A6.out.size
     clear hzz hmin fd fd1 hd hd1 O6 Htn ck1
     have cp1:w6.drew.cell? ⟨gs,26,none⟩=some (.int .i64 (y:Int)):=cp1
     go_wp2_with fail
     refine still_tail 9 (by kernel_rfl) (by kernel_rfl) ?_
     simp only[List.take_succ_cons,List.take_zero,List.drop_succ_cons,List.drop_zero]
     repeat still_step
     refine wpStill_nil ?_
     clear cp1
     go_wp2_with fail
     refine HC.out.mono ?_
     rintro e w7 ⟨gv',cap',rfl,OY,hb7⟩
     have OY:=Away.mk OY
     have A7:Away (At gs (SC k xl (y:Int) true) 164 w8 w7):=⟨at_below (at_drew (at_drew A6.out)) hb7 (Nat.le_refl _) hgsW⟩
     have AR:Away (At gs (SC k xl (y:Int) true) 164 w7 w7):=⟨At.refl A7.out.row⟩
     clear hb7 HC A6 K6
     go_wp2_with ((with_reducible refine wpList_put2 AR rfl _ _ _ rfl rfl ?_);refine⟨_,_,_,rfl,rfl,rfl,(by rw[sc_size k _ true HXl.out.len];decide),?_⟩;intro w9 HR9;rw[sc_seta k _ _ true HXl.out.len]at HR9)
     have AN:Away (At gs (SC k (sk (PP ts rs) r s0 (j+m)).l ((sk (PP ts rs) r s0 (j+m)).at':Nat) true) 164 w8 w9):=⟨by rw[HNX.out.1];exact A7.out.trans HR9.out⟩
     have ON:Away (w9.ownsRow w8.heap.size 5 1 (.slice (some ⟨gv',0,none⟩) (j+m) cap') (j+m) (Lib.byteCells (u8s (sq (PP ts rs) r s0 (j+m))))):=⟨by rw[HNX.out.2];exact owns_at OY.out HR9.out hgsW⟩
     clear HR9 AR A7 OY
     go_roundw
     case rel=>exact⟨j+m,hz3,⟨_,_,rfl⟩,ON,AN⟩
     case measure=>simp;omega
    ·have hz:((p:Int)==(r:Int))=false:=beq_eq_false_iff_ne.2 (by omega)
     go_wp2_with fail
     refine still_all (by kernel_rfl) (by kernel_rfl) ?_
     repeat still_step
     refine wpStill_nil ?_
     have A6:Away (At gs (SC k sl (p:Int) true) 164 w8 wr.drew):=⟨at_drew A0.out⟩
     have O6:Away (wr.drew.ownsRow w8.heap.size 5 1 (.slice (some ⟨gv,0,none⟩) j cap) j (Lib.byteCells (u8s (sq (PP ts rs) r s0 j)))):=⟨World.ownsRow.drew OWN.out⟩
     have Htn:Away (tn (PP ts rs) r ⟨sl,p⟩=⟨sl,p⟩):=⟨by rw[tn,if_neg he]⟩
     rw[Htn.out]at Htl
     clear cp0 ck0 Krow OWN A0 he
     obtain⟨w6,hw6⟩:∃ x,wr.drew=x:=⟨_,rfl⟩
     rw[hw6]at A6 O6 ⊢
     obtain⟨xl,Hxl⟩:∃ x,sl=x:=⟨_,rfl⟩
     obtain⟨y,hy⟩:∃ x,p=x:=⟨_,rfl⟩
     have Htn:Away (tn (PP ts rs) r ⟨sl,p⟩=⟨xl,y⟩):=⟨by rw[←Hxl,←hy];exact Htn.out⟩
     rw[Hxl]at A6 Htl
     rw[hy]at A6 Htl
     clear hw6 Hxl hy
     go_wp2_with fail
     clear hz
     have HXl:Away (St xl):=⟨Htl.out.1⟩
     have hyr:y<r:=Htl.out.2
     obtain⟨d,hd⟩:∃ d,y+n-j=d:=⟨_,rfl⟩
     obtain⟨d1,hd1⟩:∃ d1,y+n=d1:=⟨_,rfl⟩
     have fd1:IntKind.i64.wrap ((y:Int)+(n:Int))=(d1:Int):=by rw[IntKind.wrap_i64];omega
     have fd:IntKind.i64.wrap ((d1:Int)-(j:Int))=(d:Int):=by rw[IntKind.wrap_i64];omega
     have cp1:w6.cell? ⟨gs,26,none⟩=some (.int .i64 (y:Int)):=cell_at A6.out.row (sc_at k _ true HXl.out.len)
     have K6:Away (w6.heap[gk]? = some (.cells #[.int .i64 (r:Int),.int .u8 (f:Int),.int .i64 (z:Int)] 153 (0,0))):=⟨A6.out.other hgkW (by omega) K2.out⟩
     have ck1:w6.cell? ⟨gk,0,none⟩=some (.int .i64 (r:Int)):=cell_at K6.out rfl
     clear Htl
     refine still_all (by kernel_rfl) (by kernel_rfl) ?_
     repeat still_step
     refine wpStill_nil ?_
     obtain⟨zz,hzz⟩:∃ zz,(if r<d then r else d)=zz:=⟨_,rfl⟩
     have hmin:(if r<d then (r:Int) else (d:Int))=(zz:Int):=by rw[←hzz];split<;>rfl
     have hz1:y<zz:=by rw[←hzz];split<;>omega
     have hz2:zz≤r:=by rw[←hzz];split<;>omega
     have hz3:j+(zz-y)≤n:=by rw[←hzz];split<;>omega
     rw[hmin]
     obtain⟨m,hm⟩:∃ m,zz-y=m:=⟨_,rfl⟩
     have HNX:Away (sk (PP ts rs) r s0 (j+m)=⟨xl,zz⟩∧sq (PP ts rs) r s0 (j+m)=sq (PP ts rs) r s0 j++gbs xl y m):=⟨by
      obtain⟨k1,k2⟩:=round_is (PP ts rs) r ⟨sl,p⟩ xl y m hr0 Htn.out (by omega) (by omega)
      rw[sk_add,sq_add,Hst.out,k1,k2,show y+m=zz by omega]
      exact⟨rfl,rfl⟩⟩
     have HC:=Away.mk (read_any w8.heap.size gs k (y:Int) true xl 164 (sq (PP ts rs) r s0 j) j gv cap y zz w6.drew.drew HXl.out (by omega) (by omega) (by omega) hgsW A6.out.size A6.out.row (World.ownsRow.drew (World.ownsRow.drew O6.out)))
     rw[hm]at HC hz3
     have hA6:=A6.out.size
     clear hzz hmin fd fd1 hd hd1 O6 Htn ck1
     have cp1:w6.drew.cell? ⟨gs,26,none⟩=some (.int .i64 (y:Int)):=cp1
     go_wp2_with fail
     refine still_tail 9 (by kernel_rfl) (by kernel_rfl) ?_
     simp only[List.take_succ_cons,List.take_zero,List.drop_succ_cons,List.drop_zero]
     repeat still_step
     refine wpStill_nil ?_
     clear cp1
     go_wp2_with fail
     refine HC.out.mono ?_
     rintro e w7 ⟨gv',cap',rfl,OY,hb7⟩
     have OY:=Away.mk OY
     have A7:Away (At gs (SC k xl (y:Int) true) 164 w8 w7):=⟨at_below (at_drew (at_drew A6.out)) hb7 (Nat.le_refl _) hgsW⟩
     have AR:Away (At gs (SC k xl (y:Int) true) 164 w7 w7):=⟨At.refl A7.out.row⟩
     clear hb7 HC A6 K6
     go_wp2_with ((with_reducible refine wpList_put2 AR rfl _ _ _ rfl rfl ?_);refine⟨_,_,_,rfl,rfl,rfl,(by rw[sc_size k _ true HXl.out.len];decide),?_⟩;intro w9 HR9;rw[sc_seta k _ _ true HXl.out.len]at HR9)
     have AN:Away (At gs (SC k (sk (PP ts rs) r s0 (j+m)).l ((sk (PP ts rs) r s0 (j+m)).at':Nat) true) 164 w8 w9):=⟨by rw[HNX.out.1];exact A7.out.trans HR9.out⟩
     have ON:Away (w9.ownsRow w8.heap.size 5 1 (.slice (some ⟨gv',0,none⟩) (j+m) cap') (j+m) (Lib.byteCells (u8s (sq (PP ts rs) r s0 (j+m))))):=⟨by rw[HNX.out.2];exact owns_at OY.out HR9.out hgsW⟩
     clear HR9 AR A7 OY
     go_roundw
     case rel=>exact⟨j+m,hz3,⟨_,_,rfl⟩,ON,AN⟩
     case measure=>simp;omega
   ·obtain rfl:j=n:=by omega
    rw[HE.out]at A0
    rw[Hbs.out]at OWN
    have hcv:=conv_own Hbl.out OWN.out
    have AF:Away (At gs (SC k E.l (E.at':Int) true) 164 w wr):=⟨A2.out.trans A0.out⟩
    clear A0 OWN
    go_wp2_with fail
    go_ret
    exact⟨rfl,AF.out⟩
 ·(go_simp;refine hK _ _ ?_;clear hK K)
  (refine wpAny_ready (rs:=[3]) (by kernel_rfl) (by simp) ?_;refine AllReady.cons rfl (fun K hK=>?_) AllReady.nil;go_simp;refine hK _ _ ?_;clear hK K)
  refine any_tail 7 3 (by kernel_rfl) (by kernel_rfl) ?_
  simp only[List.drop_succ_cons,List.drop_zero]
  have A6:Away (At gs (SC k l5 (p0:Int) true) 164 W (w5.setCell ⟨gs,27,none⟩ (.bool true)).drew):=⟨by
   have h9:=at_put A5.out 27 (.bool true)
   rw[sc_seto k _ false true H5.out.len]at h9
   exact at_drew h9⟩
  obtain⟨w7,hw7⟩:∃ x,(w5.setCell ⟨gs,27,none⟩ (.bool true)).drew=x:=⟨_,rfl⟩
  rw[hw7]at A6 ⊢
  clear hw7 ck0 co fo A5
  have c3:True:=trivial
  go_wp2_with (first
   | ((with_reducible refine wpList_put2 A6 rfl _ _ _ rfl rfl ?_);refine⟨_,_,_,rfl,rfl,rfl,(by rw[sc_size k _ true H5.out.len];decide),?_⟩;intro w8 A8;rw[sc_seta k _ _ true H5.out.len]at A8;have A8:Away (At gs (SC k s0.l (s0.at':Int) true) 164 W w8):=⟨by rw[Hpad.out];exact A8.out⟩;have K2:Away (w8.heap[gk]? = some (.cells #[.int .i64 (r:Int),.int .u8 (f:Int),.int .i64 (z:Int)] 153 (0,0))):=⟨A8.out.other hgkW (by omega) K2.out⟩;have A2:Away (At gs (SC k s0.l (s0.at':Int) true) 164 w w8):=⟨A2.out.trans A8.out⟩;clear A8 A6 Hpad)
   | (at_make;refine wpList_make_own _ rfl _ _ 57 rfl w8.heap.size 5 i0 (.int .u8 0) 1 Tryz.underlying57 HI.out.1 HI.out.2.1 HI.out.2.2.1 .i64 .i64 (n:Int) n rfl rfl rfl (by rw[HI.out.2.2.2];omega) (by unfold maxLen;omega) (Nat.le_refl _) ?_))
  intro w4 hown hgr
  have hb4:Below w8.heap.size w8 w4:=(Below.refl _ _).grown hgr (Nat.le_refl _) (fun k hk=>by simp at hk)
  have hgkW:=lt_of_row K2.out
  have AW:Away (At gs (SC k s0.l (s0.at':Int) true) 164 w8 w4):=⟨(At.refl A2.out.row).later hb4⟩
  have OW0:=Away.mk hown
  have PW:Away (Gp w8):=⟨Gp.at HP.out A2.out hgp⟩
  have TW:Away (w8.heap[gt]? = some (.cells T 34 (0,0))):=⟨A2.out.other hgt hne HT.out⟩
  have hgtW:gt<w8.heap.size:=lt_of_row TW.out
  have hgsW:gs<w8.heap.size:=lt_of_row A2.out.row
  clear hown hgr hb4 c3
  go_wp2_with fail
  go_loopw [8] (fun v wr=>∃ j:Nat,j≤n∧(∃ g cap,v=.slice (some ⟨g,0,none⟩) j cap)∧Away (wr.ownsRow w8.heap.size 5 1 v j (Lib.byteCells (u8s (sq (PP ts rs) r s0 j))))∧Away (At gs (SC k (sk (PP ts rs) r s0 j).l ((sk (PP ts rs) r s0 j).at':Nat) true) 164 w8 wr)) (fun v _=>n-(match v with | .slice _ m _=>m | _=>0))
  case atStart=>exact⟨0,Nat.zero_le _,⟨_,_,rfl⟩,OW0,AW⟩
  case round=>
   clear OW0 AW
   obtain⟨j,hj,⟨gv,cap,rfl⟩,OWN,A0⟩:=hrel
   by_cases hlt:j<n
   ·have hjz:(j:Int)<(n:Int):=by omega
    obtain⟨st,Hst⟩:=ex_eq (sk (PP ts rs) r s0 j)
    have Hso:Away (St st.l∧st.at'≤r):=⟨by rw[←Hst.out];exact sk_ok (fun _ h=>pp_st HK.out.br h) hr0 Hs0k.out.1 Hs0k.out.2 j⟩
    rw[Hst.out]at A0
    have Htl:Away (St (tn (PP ts rs) r st).l∧(tn (PP ts rs) r st).at'<r):=⟨tn_ok (fun _ h=>pp_st HK.out.br h) hr0 Hso.out.1 Hso.out.2⟩
    obtain⟨sl,p⟩:=st
    have hsl:=Hso.out.1
    have hp':=Hso.out.2
    simp only at hsl hp' A0
    have hp8:p≤168:=by omega
    have Hsl:=Away.mk hsl
    have Hp:=Away.mk hp'
    have cp0:wr.cell? ⟨gs,26,none⟩=some (.int .i64 (p:Int)):=cell_at A0.out.row (sc_at k _ true hsl.len)
    have Krow:Away (wr.heap[gk]? = some (.cells #[.int .i64 (r:Int),.int .u8 (f:Int),.int .i64 (z:Int)] 153 (0,0))):=⟨A0.out.other hgkW (by omega) K2.out⟩
    have ck0:wr.cell? ⟨gk,0,none⟩=some (.int .i64 (r:Int)):=cell_at Krow.out rfl
    clear hsl hp'
    by_cases he:p=r
    ·have hz:((p:Int)==(r:Int))=true:=beq_iff_eq.2 (by omega)
     go_wp2_with fail
     refine still_all (by kernel_rfl) (by kernel_rfl) ?_
     repeat still_step
     refine wpStill_nil ?_
     have Ad:Away (At gs (SC k sl (p:Int) true) 164 w8 wr.drew):=⟨at_drew A0.out⟩
     go_wp2_with fail
     refine(next_any gt gs k (p:Int) true sl wr.drew Hsl.out HK.out (Gp.at PW.out Ad.out hgp) (Ad.out.other hgtW hne TW.out) Ad.out.row).mono ?_
     rintro e w6 ⟨rfl,h6⟩
     have A6:Away (At gs (SC k (PP ts rs sl) ((0:Nat):Int) true) 164 w8 w6):=⟨Ad.out.trans h6⟩
     have O6:Away (w6.ownsRow w8.heap.size 5 1 (.slice (some ⟨gv,0,none⟩) j cap) j (Lib.byteCells (u8s (sq (PP ts rs) r s0 j)))):=⟨owns_at (World.ownsRow.drew OWN.out) h6 hgsW⟩
     have Htn:Away (tn (PP ts rs) r ⟨sl,p⟩=⟨PP ts rs sl,0⟩):=⟨by rw[tn,if_pos he]⟩
     clear h6 cp0 ck0 Krow OWN Ad A0
     obtain⟨y,hy⟩:∃ y:Nat,0=y:=⟨_,rfl⟩
     rw[hy]at A6 Htn
     obtain⟨xl,Hxl⟩:=ex_eq (PP ts rs sl)
     rw[Hxl.out]at A6 Htn
     rw[Htn.out]at Htl
     clear hy Hxl he hz
     go_wp2_with fail
     have HXl:Away (St xl):=⟨Htl.out.1⟩
     have hyr:y<r:=Htl.out.2
     obtain⟨d,hd⟩:∃ d,y+n-j=d:=⟨_,rfl⟩
     obtain⟨d1,hd1⟩:∃ d1,y+n=d1:=⟨_,rfl⟩
     have fd1:IntKind.i64.wrap ((y:Int)+(n:Int))=(d1:Int):=by rw[IntKind.wrap_i64];omega
     have fd:IntKind.i64.wrap ((d1:Int)-(j:Int))=(d:Int):=by rw[IntKind.wrap_i64];omega
     have cp1:w6.cell? ⟨gs,26,none⟩=some (.int .i64 (y:Int)):=cell_at A6.out.row (sc_at k _ true HXl.out.len)
     have K6:Away (w6.heap[gk]? = some (.cells #[.int .i64 (r:Int),.int .u8 (f:Int),.int .i64 (z:Int)] 153 (0,0))):=⟨A6.out.other hgkW (by omega) K2.out⟩
     have ck1:w6.cell? ⟨gk,0,none⟩=some (.int .i64 (r:Int)):=cell_at K6.out rfl
     clear Htl
     refine still_all (by kernel_rfl) (by kernel_rfl) ?_
     repeat still_step
     refine wpStill_nil ?_
     obtain⟨zz,hzz⟩:∃ zz,(if r<d then r else d)=zz:=⟨_,rfl⟩
     have hmin:(if r<d then (r:Int) else (d:Int))=(zz:Int):=by rw[←hzz];split<;>rfl
     have hz1:y<zz:=by rw[←hzz];split<;>omega
     have hz2:zz≤r:=by rw[←hzz];split<;>omega
     have hz3:j+(zz-y)≤n:=by rw[←hzz];split<;>omega
     rw[hmin]
     obtain⟨m,hm⟩:∃ m,zz-y=m:=⟨_,rfl⟩
     have HNX:Away (sk (PP ts rs) r s0 (j+m)=⟨xl,zz⟩∧sq (PP ts rs) r s0 (j+m)=sq (PP ts rs) r s0 j++gbs xl y m):=⟨by
      obtain⟨k1,k2⟩:=round_is (PP ts rs) r ⟨sl,p⟩ xl y m hr0 Htn.out (by omega) (by omega)
      rw[sk_add,sq_add,Hst.out,k1,k2,show y+m=zz by omega]
      exact⟨rfl,rfl⟩⟩
     have HC:=Away.mk (read_any w8.heap.size gs k (y:Int) true xl 164 (sq (PP ts rs) r s0 j) j gv cap y zz w6.drew.drew HXl.out (by omega) (by omega) (by omega) hgsW A6.out.size A6.out.row (World.ownsRow.drew (World.ownsRow.drew O6.out)))
     rw[hm]at HC hz3
     have hA6:=A6.out.size
     clear hzz hmin fd fd1 hd hd1 O6 Htn ck1
     have cp1:w6.drew.cell? ⟨gs,26,none⟩=some (.int .i64 (y:Int)):=cp1
     go_wp2_with fail
     refine still_tail 9 (by kernel_rfl) (by kernel_rfl) ?_
     simp only[List.take_succ_cons,List.take_zero,List.drop_succ_cons,List.drop_zero]
     repeat still_step
     refine wpStill_nil ?_
     clear cp1
     go_wp2_with fail
     refine HC.out.mono ?_
     rintro e w7 ⟨gv',cap',rfl,OY,hb7⟩
     have OY:=Away.mk OY
     have A7:Away (At gs (SC k xl (y:Int) true) 164 w8 w7):=⟨at_below (at_drew (at_drew A6.out)) hb7 (Nat.le_refl _) hgsW⟩
     have AR:Away (At gs (SC k xl (y:Int) true) 164 w7 w7):=⟨At.refl A7.out.row⟩
     clear hb7 HC A6 K6
     go_wp2_with ((with_reducible refine wpList_put2 AR rfl _ _ _ rfl rfl ?_);refine⟨_,_,_,rfl,rfl,rfl,(by rw[sc_size k _ true HXl.out.len];decide),?_⟩;intro w9 HR9;rw[sc_seta k _ _ true HXl.out.len]at HR9)
     have AN:Away (At gs (SC k (sk (PP ts rs) r s0 (j+m)).l ((sk (PP ts rs) r s0 (j+m)).at':Nat) true) 164 w8 w9):=⟨by rw[HNX.out.1];exact A7.out.trans HR9.out⟩
     have ON:Away (w9.ownsRow w8.heap.size 5 1 (.slice (some ⟨gv',0,none⟩) (j+m) cap') (j+m) (Lib.byteCells (u8s (sq (PP ts rs) r s0 (j+m))))):=⟨by rw[HNX.out.2];exact owns_at OY.out HR9.out hgsW⟩
     clear HR9 AR A7 OY
     go_roundw
     case rel=>exact⟨j+m,hz3,⟨_,_,rfl⟩,ON,AN⟩
     case measure=>simp;omega
    ·have hz:((p:Int)==(r:Int))=false:=beq_eq_false_iff_ne.2 (by omega)
     go_wp2_with fail
     refine still_all (by kernel_rfl) (by kernel_rfl) ?_
     repeat still_step
     refine wpStill_nil ?_
     have A6:Away (At gs (SC k sl (p:Int) true) 164 w8 wr.drew):=⟨at_drew A0.out⟩
     have O6:Away (wr.drew.ownsRow w8.heap.size 5 1 (.slice (some ⟨gv,0,none⟩) j cap) j (Lib.byteCells (u8s (sq (PP ts rs) r s0 j)))):=⟨World.ownsRow.drew OWN.out⟩
     have Htn:Away (tn (PP ts rs) r ⟨sl,p⟩=⟨sl,p⟩):=⟨by rw[tn,if_neg he]⟩
     rw[Htn.out]at Htl
     clear cp0 ck0 Krow OWN A0 he
     obtain⟨w6,hw6⟩:∃ x,wr.drew=x:=⟨_,rfl⟩
     rw[hw6]at A6 O6 ⊢
     obtain⟨xl,Hxl⟩:∃ x,sl=x:=⟨_,rfl⟩
     obtain⟨y,hy⟩:∃ x,p=x:=⟨_,rfl⟩
     have Htn:Away (tn (PP ts rs) r ⟨sl,p⟩=⟨xl,y⟩):=⟨by rw[←Hxl,←hy];exact Htn.out⟩
     rw[Hxl]at A6 Htl
     rw[hy]at A6 Htl
     clear hw6 Hxl hy
     go_wp2_with fail
     clear hz
     have HXl:Away (St xl):=⟨Htl.out.1⟩
     have hyr:y<r:=Htl.out.2
     obtain⟨d,hd⟩:∃ d,y+n-j=d:=⟨_,rfl⟩
     obtain⟨d1,hd1⟩:∃ d1,y+n=d1:=⟨_,rfl⟩
     have fd1:IntKind.i64.wrap ((y:Int)+(n:Int))=(d1:Int):=by rw[IntKind.wrap_i64];omega
     have fd:IntKind.i64.wrap ((d1:Int)-(j:Int))=(d:Int):=by rw[IntKind.wrap_i64];omega
     have cp1:w6.cell? ⟨gs,26,none⟩=some (.int .i64 (y:Int)):=cell_at A6.out.row (sc_at k _ true HXl.out.len)
     have K6:Away (w6.heap[gk]? = some (.cells #[.int .i64 (r:Int),.int .u8 (f:Int),.int .i64 (z:Int)] 153 (0,0))):=⟨A6.out.other hgkW (by omega) K2.out⟩
     have ck1:w6.cell? ⟨gk,0,none⟩=some (.int .i64 (r:Int)):=cell_at K6.out rfl
     clear Htl
     refine still_all (by kernel_rfl) (by kernel_rfl) ?_
     repeat still_step
     refine wpStill_nil ?_
     obtain⟨zz,hzz⟩:∃ zz,(if r<d then r else d)=zz:=⟨_,rfl⟩
     have hmin:(if r<d then (r:Int) else (d:Int))=(zz:Int):=by rw[←hzz];split<;>rfl
     have hz1:y<zz:=by rw[←hzz];split<;>omega
     have hz2:zz≤r:=by rw[←hzz];split<;>omega
     have hz3:j+(zz-y)≤n:=by rw[←hzz];split<;>omega
     rw[hmin]
     obtain⟨m,hm⟩:∃ m,zz-y=m:=⟨_,rfl⟩
     have HNX:Away (sk (PP ts rs) r s0 (j+m)=⟨xl,zz⟩∧sq (PP ts rs) r s0 (j+m)=sq (PP ts rs) r s0 j++gbs xl y m):=⟨by
      obtain⟨k1,k2⟩:=round_is (PP ts rs) r ⟨sl,p⟩ xl y m hr0 Htn.out (by omega) (by omega)
      rw[sk_add,sq_add,Hst.out,k1,k2,show y+m=zz by omega]
      exact⟨rfl,rfl⟩⟩
     have HC:=Away.mk (read_any w8.heap.size gs k (y:Int) true xl 164 (sq (PP ts rs) r s0 j) j gv cap y zz w6.drew.drew HXl.out (by omega) (by omega) (by omega) hgsW A6.out.size A6.out.row (World.ownsRow.drew (World.ownsRow.drew O6.out)))
     rw[hm]at HC hz3
     have hA6:=A6.out.size
     clear hzz hmin fd fd1 hd hd1 O6 Htn ck1
     have cp1:w6.drew.cell? ⟨gs,26,none⟩=some (.int .i64 (y:Int)):=cp1
     go_wp2_with fail
     refine still_tail 9 (by kernel_rfl) (by kernel_rfl) ?_
     simp only[List.take_succ_cons,List.take_zero,List.drop_succ_cons,List.drop_zero]
     repeat still_step
     refine wpStill_nil ?_
     clear cp1
     go_wp2_with fail
     refine HC.out.mono ?_
     rintro e w7 ⟨gv',cap',rfl,OY,hb7⟩
     have OY:=Away.mk OY
     have A7:Away (At gs (SC k xl (y:Int) true) 164 w8 w7):=⟨at_below (at_drew (at_drew A6.out)) hb7 (Nat.le_refl _) hgsW⟩
     have AR:Away (At gs (SC k xl (y:Int) true) 164 w7 w7):=⟨At.refl A7.out.row⟩
     clear hb7 HC A6 K6
     go_wp2_with ((with_reducible refine wpList_put2 AR rfl _ _ _ rfl rfl ?_);refine⟨_,_,_,rfl,rfl,rfl,(by rw[sc_size k _ true HXl.out.len];decide),?_⟩;intro w9 HR9;rw[sc_seta k _ _ true HXl.out.len]at HR9)
     have AN:Away (At gs (SC k (sk (PP ts rs) r s0 (j+m)).l ((sk (PP ts rs) r s0 (j+m)).at':Nat) true) 164 w8 w9):=⟨by rw[HNX.out.1];exact A7.out.trans HR9.out⟩
     have ON:Away (w9.ownsRow w8.heap.size 5 1 (.slice (some ⟨gv',0,none⟩) (j+m) cap') (j+m) (Lib.byteCells (u8s (sq (PP ts rs) r s0 (j+m))))):=⟨by rw[HNX.out.2];exact owns_at OY.out HR9.out hgsW⟩
     clear HR9 AR A7 OY
     go_roundw
     case rel=>exact⟨j+m,hz3,⟨_,_,rfl⟩,ON,AN⟩
     case measure=>simp;omega
   ·obtain rfl:j=n:=by omega
    rw[HE.out]at A0
    rw[Hbs.out]at OWN
    have hcv:=conv_own Hbl.out OWN.out
    have AF:Away (At gs (SC k E.l (E.at':Int) true) 164 w wr):=⟨A2.out.trans A0.out⟩
    clear A0 OWN
    go_wp2_with fail
    go_ret
    exact⟨rfl,AF.out⟩
end spoh
namespace spok
open Go Go.RowKit
open arr mem kecm kecb kstep kturn kfun spgm spmx rspa rspb rspc rspd rspe spoa spob spoe spof spog spoh
theorem z_st:St Z:=kecd.st_of z_len (by decide)
def out (ts rs:List Nat) (k:Int) (b:ByteArray) (n:Nat):ByteArray:=⟨(u8s (sq (PP ts rs) (rate k) (pad (rate k) (spgm.mark k) (abs (PP ts rs) (rate k) ⟨Z,0⟩ (bys b))) n)).toArray⟩
theorem whole_any {T:Array Value} {ts rs:List Nat} (gt:Nat) (k:Int) (b:ByteArray) (n:Nat) (w:World) (hK:KT T ts rs) (hP:Gp w) (hT:w.heap[gt]? = some (.cells T 34 (0,0))) (hr0 : 0<rate k) (hn:n≤50000) (hb:b.size≤1125899906842624):
 Calls Tryz.prog 134 #[.pointer (some ⟨gt,0,none⟩),.int .i64 k,.string b,.int .i64 (n:Int)] w fun e w'=>e=.returned (.string (out ts rs k b n))∧Below w.heap.size w w':=by
 obtain⟨O,HO⟩:=ex_eq (out ts rs k b n)
 rw[HO.out]
 obtain⟨E,HE⟩:=ex_eq (abs (PP ts rs) (rate k) ⟨Z,0⟩ (bys b))
 have hEo:St E.l∧E.at'<rate k:=by rw[←HE.out];exact abs_ok (fun _ h=>pp_st hK.br h) _ z_st hr0
 obtain⟨F,HF⟩:=ex_eq (SC k Z 0 false)
 have Fi:Away ((Tryz.prog.info? 164).map (·.size)=some F.size):=⟨by rw[←HF.out];exact sc_info _ _ _ z_len⟩
 have Fo:Away (F.all (·.oneCell')=true):=⟨by rw[←HF.out];exact sc_one _ _ _ _⟩
 have Fz:Away ((#[.int .i64 0,.int .u64 0,.int .u64 0,.int .u64 0,.int .u64 0,.int .u64 0,.int .u64 0,.int .u64 0,.int .u64 0,.int .u64 0,.int .u64 0,.int .u64 0,.int .u64 0,.int .u64 0,.int .u64 0,.int .u64 0,.int .u64 0,.int .u64 0,.int .u64 0,.int .u64 0,.int .u64 0,.int .u64 0,.int .u64 0,.int .u64 0,.int .u64 0,.int .u64 0,.int .i64 0,.bool false]:Array Value).size=F.size):=⟨by rw[←HF.out,sc_size _ _ _ z_len];rfl⟩
 have Fb:Away ((#[.int .i64 k,.int .u64 0,.int .u64 0,.int .u64 0,.int .u64 0,.int .u64 0,.int .u64 0,.int .u64 0,.int .u64 0,.int .u64 0,.int .u64 0,.int .u64 0,.int .u64 0,.int .u64 0,.int .u64 0,.int .u64 0,.int .u64 0,.int .u64 0,.int .u64 0,.int .u64 0,.int .u64 0,.int .u64 0,.int .u64 0,.int .u64 0,.int .u64 0,.int .u64 0,.int .i64 0,.bool false]:Array Value)=F):=⟨by rw[←HF.out];rfl⟩
 have hgp:=gp_lt hP
 have hgt:=lt_of_row hT
 obtain⟨W,hW⟩:∃ x,w.alloc (.cells F 164)=x:=⟨_,rfl⟩
 have HW:=Away.mk hW
 have hb0:Below w.heap.size w W:=by rw[←hW];exact below_alloc _ _
 have hrow:W.heap[w.heap.size]? = some (.cells (SC k Z ((0:Nat):Int) false) 164 (0,0)):=by rw[←hW,show SC k Z ((0:Nat):Int) false=F from HF.out];exact heap_at _ _ _ rfl
 have C1:=Away.mk (spoe.absorb_any gt w.heap.size k 0 Z b W z_st hK (hP.later hb0) ((hb0.block _ hgt).trans hT) (by omega) (by omega) hr0 hb hrow)
 rw[HE.out]at C1
 have C2:Away (∀ w2:World,At w.heap.size (SC k E.l (E.at':Nat) false) 164 W w2→Calls Tryz.prog 172 #[.pointer (some ⟨gt,0,none⟩),.pointer (some ⟨w.heap.size,0,none⟩),.int .i64 (n:Int)] w2 fun e w'=>e=.returned (.string O)∧Below w.heap.size w2 w'):=⟨fun w2 h2=>by
  have hz:W.heap.size=w.heap.size+1:=by rw[←hW];exact size_alloc _ _
  refine(spoh.squeeze_pad gt w.heap.size k E.at' n E.l w2 hEo.1 hK (Gp.at (hP.later hb0) h2 (by omega)) (h2.other (by omega) (by omega) ((hb0.block _ hgt).trans hT)) (by omega) (by omega) hr0 hEo.2 hn h2.row).mono ?_
  rintro e w3 ⟨rfl,h3⟩
  refine⟨?_,h3.below (by have:=h2.size;omega) (Nat.le_refl _)⟩
  rw[←HO.out,out,HE.out]⟩
 have HB0:=Away.mk hb0
 clear hrow hb0 hW hEo hK hP hT
 go_enter Tryz.func134,Tryz.ntmps134
 go_wp2_with (first
  | (rw[HW.out])
  | ((with_reducible refine wpList_buildC rfl _ _ rfl #[.int .i64 k,.int .u64 0,.int .u64 0,.int .u64 0,.int .u64 0,.int .u64 0,.int .u64 0,.int .u64 0,.int .u64 0,.int .u64 0,.int .u64 0,.int .u64 0,.int .u64 0,.int .u64 0,.int .u64 0,.int .u64 0,.int .u64 0,.int .u64 0,.int .u64 0,.int .u64 0,.int .u64 0,.int .u64 0,.int .u64 0,.int .u64 0,.int .u64 0,.int .u64 0,.int .i64 0,.bool false] ?hC ?_);(case hC=>kernel_rfl);rw[Fb.out])
  | (refine wpList_store_new rfl 164 _ _ rfl F rfl rfl Fi.out (by first | exact Fz.out | rfl) Fo.out rfl ?_))
 refine C1.out.mono ?_
 rintro e w1 ⟨rfl,h1⟩
 have HB1:Away (Below w.heap.size w w1):=⟨HB0.out.trans (h1.below (by have:=HB0.out.size;omega) (Nat.le_refl _))⟩
 have C3:=Away.mk (C2.out w1 h1)
 clear h1 C1 C2
 go_wp2_with fail
 refine C3.out.mono ?_
 rintro e w2 ⟨rfl,h2⟩
 have HB2:Away (Below w.heap.size w w2):=⟨HB1.out.trans h2⟩
 clear h2
 go_wp2_with fail
 go_ret
 exact⟨rfl,HB2.out⟩
theorem traits_at (k:Int):∃ f:Nat,∀ w1:World,Calls Tryz.prog 132 #[.int .i64 k] w1 fun e w'=>e=.returned (.agg #[.int .i64 ((rate k:Nat):Int),.int .u8 (f:Int),.int .i64 ((spoa.size k:Nat):Int)])∧Below w1.heap.size w1 w':=⟨fin k,traits_any k⟩
theorem shake_go {T:Array Value} {ts rs:List Nat} (k:Int) (b:ByteArray) (n:Nat) (w:World) (hK:KT T ts rs) (hP:Gp w) (h0 : 0<rate k) (h1:spoa.size k=0) (hn:n≤50000) (hb:b.size≤1125899906842624):
 Calls Tryz.prog 78 #[.agg T,.int .i64 k,.string b,.int .i64 (n:Int)] w fun e w'=>e=.returned (.tuple #[.string (out ts rs k b n),.int .i64 0])∧Below w.heap.size w w':=by
 obtain⟨f,hTr⟩:=traits_at k
 obtain⟨r,hr⟩:∃ r,rate k=r:=⟨_,rfl⟩
 obtain⟨z,hz⟩:∃ z,spoa.size k=z:=⟨_,rfl⟩
 rw[hr]at hTr
 rw[h1]at hTr
 have q0:((r:Int)==0)=false:=beq_eq_false_iff_ne.2 (by omega)
 have hTr:∀ w1:World,Calls Tryz.prog 132 #[.int .i64 k] w1 fun e w'=>e=.returned (.agg #[.int .i64 (r:Int),.int .u8 (f:Int),.int .i64 0])∧Below w1.heap.size w1 w':=hTr
 have HTr:=Away.mk hTr
 have HTz:Away ((Tryz.prog.info? 34).map (·.size)=some T.size):=⟨by rw[hK.size];exact rspa.sizeT⟩
 have HF:Away (∀ w1:World,Calls Tryz.prog 133 #[.int .i64 (n:Int)] w1 fun e w'=>e=.returned (.bool true)∧w'=w1):=⟨fun w1=>by have h9:=fits_any (n:Int) w1;rw[decide_eq_true (by omega)]at h9;exact h9⟩
 have HP:=Away.mk hP
 have HK:=Away.mk hK
 clear hTr
 obtain⟨W,hW⟩:∃ x,w.alloc (.cells T 34)=x:=⟨_,rfl⟩
 have HW:=Away.mk hW
 have HB0:Away (Below w.heap.size w W):=⟨by rw[←hW];exact below_alloc _ _⟩
 have HT:Away (W.heap[w.heap.size]? = some (.cells T 34 (0,0))):=⟨by rw[←hW];exact heap_at _ _ _ rfl⟩
 have hz1:W.heap.size=w.heap.size+1:=by rw[←hW];exact size_alloc _ _
 clear hW
 go_enter Tryz.func78,Tryz.ntmps78
 go_wp2_with (rw[HW.out])
 refine(HTr.out _).mono ?_
 rintro e w1 ⟨rfl,hb1⟩
 obtain⟨V,hV⟩:∃ x,w1.alloc (.cells #[.int .i64 (r:Int),.int .u8 (f:Int),.int .i64 0] 153)=x:=⟨_,rfl⟩
 have HV:=Away.mk hV
 have HB1:Away (Below w.heap.size w V):=⟨(HB0.out.trans (hb1.mono (by omega))).trans ((by rw[←hV];exact(below_alloc _ _).mono (by have:=hb1.size;omega)))⟩
 have HT1:Away (V.heap[w.heap.size]? = some (.cells T 34 (0,0))):=⟨by rw[←hV,heap_past _ _ _ (by have:=hb1.size;omega)];exact(hb1.block _ (by omega)).trans HT.out⟩
 have Hrow:V.heap[w1.heap.size]? = some (.cells #[.int .i64 (r:Int),.int .u8 (f:Int),.int .i64 0] 153 (0,0)):=by rw[←hV];exact heap_at _ _ _ rfl
 have k0:V.cell? ⟨w1.heap.size,0,none⟩=some (.int .i64 (r:Int)):=cell_at Hrow rfl
 have k2:V.cell? ⟨w1.heap.size,2,none⟩=some (.int .i64 0):=cell_at Hrow rfl
 have hz2:w.heap.size<w1.heap.size:=by have:=hb1.size;omega
 clear hb1 HTr hV Hrow
 go_wp2_with (rw[HV.out])
 refine(HF.out _).mono ?_
 rintro e w2 ⟨rfl,rfl⟩
 go_wp2_with fail
 refine(whole_any w.heap.size k b n w2 HK.out (HP.out.later HB1.out) HT1.out h0 hn hb).mono ?_
 rintro e w3 ⟨rfl,h3⟩
 have HB3:Away (Below w.heap.size w w3):=⟨HB1.out.trans (h3.mono (by have:=HB1.out.size;omega))⟩
 clear h3
 go_wp2_with fail
 go_ret2
 exact⟨rfl,HB3.out⟩
end spok
end Go.Proofs.YtomphjajkkddkaaGreatDoor
namespace Go.Proofs.YtomphjajkkddkaaGreatDoor
namespace samc
open Go Go.RowKit
open arr mem kecm kecb keca kstep spgm spmx rspd polys fldm samb spok
theorem out_bys (k:Int) (b:ByteArray) (n:Nat):rbitc.bys (out TL RL k b n)=sq (PP TL RL) (rate k) (pad (rate k) (spgm.mark k) (abs (PP TL RL) (rate k) ⟨Z,0⟩ (rspc.bys b))) n:=by
 unfold out
 exact bitp.bys_u8s _ (fun x hx=>sq_lt _ _ _ _ x hx)
theorem out_size (k:Int) (b:ByteArray) (n:Nat):(out TL RL k b n).size=n:=by
 rw[←rbitc.bys_length,out_bys,sq_length]
end samc
namespace rsdoc
open Go Go.RowKit
open arr mem keca kstep spok polys polt rbita rbitc rbitf rbitg rndm samm samb samc saml
theorem infoT (T:Array Value) (hK:KT T TL RL):(Tryz.prog.info? 34).map (·.size)=some T.size:=by rw[hK.size];kernel_rfl
def dU (b:ByteArray):Nat→Int:=uni (bys (out TL RL 1 b 1008))
def dS (b:ByteArray) (e:Int):Nat→Int:=sma (bys (out TL RL 2 b 816)) e
def dB (b:ByteArray) (tau:Int):Nat→Int:=ball (bys (out TL RL 2 b 544)) tau
def mw (a:Int):Nat:=lb (a-1).toNat+1
def dM (b:ByteArray) (a:Int):Nat→Int:=un (up (out TL RL 2 b (32*mw a)) (mw a)) a
theorem mw_two (a:Int) (h:a=131072∨a=524288):lb (a-1+a).toNat=mw a∧mw a≤64∧(2:Int) ^ mw a=2*a:=by
 rcases h with rfl | rfl<;>decide +kernel
theorem up_lt (s:ByteArray) (m i:Nat) : 0≤up s m i∧up s m i<(2:Int) ^ m:=by
 unfold up rbitc.bt
 have:=Nat.mod_lt (bitm.pk 8 (bys s) / 2 ^ (m*i)) (Nat.two_pow_pos m)
 refine⟨Int.natCast_nonneg _,?_⟩
 exact_mod_cast this
def qS (sd:ByteArray) (e:Int) (r:Nat):Nat→Int:=dS (tw sd r 0) e
def qM (sd:ByteArray) (a:Int) (fn r:Nat):Nat→Int:=dM (tw sd ((fn+r)%256) ((fn+r) / 256)) a
def qX (sd:ByteArray) (r c:Nat):Nat→Int:=dU (tw sd c r)
theorem latt_of {k l e t a b o s:Int} (h:latt k l e t a b o s=true):(1≤k∧k≤8)∧(1≤l∧l≤8)∧(1≤t∧t≤64)∧(e=2∨e=4)∧(a=131072∨a=524288):=by
 unfold latt upto at h
 simp only[Bool.and_eq_true,Bool.or_eq_true,decide_eq_true_eq,beq_iff_eq]at h
 obtain⟨⟨⟨⟨⟨⟨⟨h1,h2⟩,h3⟩,h4⟩,h5⟩,h6⟩,h7⟩,h8⟩:=h
 exact⟨h1,h2,h3,h5,h6⟩
end rsdoc
end Go.Proofs.YtomphjajkkddkaaGreatDoor
namespace Go.Proofs.YtomphjajkkddkaaGreatDoor
namespace nttm
def Cg (a b:Int):Prop:=(a-b)%8380417=0
theorem cg_refl (a:Int):Cg a a:=by unfold Cg;omega
theorem cg_symm {a b:Int} (h:Cg a b):Cg b a:=by unfold Cg at *;omega
theorem cg_trans {a b c:Int} (h:Cg a b) (k:Cg b c):Cg a c:=by unfold Cg at *;omega
theorem cg_add {a b c d:Int} (h:Cg a b) (k:Cg c d):Cg (a+c) (b+d):=by unfold Cg at *;omega
theorem cg_sub {a b c d:Int} (h:Cg a b) (k:Cg c d):Cg (a-c) (b-d):=by unfold Cg at *;omega
theorem cg_mul {a b c d:Int} (h:Cg a b) (k:Cg c d):Cg (a*c) (b*d):=by
 unfold Cg at *
 have e:a*c-b*d=(a-b)*c+b*(c-d):=by rw[Int.sub_mul,Int.mul_sub];omega
 rw[e,Int.add_emod,Int.mul_emod,h,Int.mul_emod b,k]
 simp
theorem cg_mod (a:Int):Cg (a%8380417) a:=by unfold Cg;omega
theorem cg_eq {a b:Int} (h:Cg a b):a%8380417=b%8380417:=by unfold Cg at h;omega
theorem eq_cg {a b:Int} (h:a%8380417=b%8380417):Cg a b:=by unfold Cg;omega
def sm (f:Nat→Int):Nat→Int
 | 0=>0
 | n+1=>sm f n+f n
theorem sm_congr {f g:Nat→Int} (n:Nat) (h:∀ i,i<n→f i=g i):sm f n=sm g n:=by
 induction n with
 | zero=>rfl
 | succ n ih=>rw[sm,sm,ih (fun i hi=>h i (by omega)),h n (by omega)]
theorem sm_cg {f g:Nat→Int} (n:Nat) (h:∀ i,i<n→Cg (f i) (g i)):Cg (sm f n) (sm g n):=by
 induction n with
 | zero=>exact cg_refl _
 | succ n ih=>exact cg_add (ih (fun i hi=>h i (by omega))) (h n (by omega))
theorem sm_add (f g:Nat→Int) (n:Nat):sm (fun i=>f i+g i) n=sm f n+sm g n:=by
 induction n with
 | zero=>rfl
 | succ n ih=>simp only[sm,ih];omega
theorem sm_mul (c:Int) (f:Nat→Int) (n:Nat):sm (fun i=>c*f i) n=c*sm f n:=by
 induction n with
 | zero=>simp[sm]
 | succ n ih=>simp only[sm,ih,Int.mul_add]
theorem sm_split (f:Nat→Int) (n m:Nat):sm f (n+m)=sm f n+sm (fun i=>f (n+i)) m:=by
 induction m with
 | zero=>simp[sm]
 | succ m ih=>rw[←Nat.add_assoc,sm,ih,sm];omega
def sh (n:Nat) (r:Int) (b:Nat→Int):Nat→Int:=fun j=>if j=0 then r*b (n-1) else b (j-1)
def shi (n:Nat) (r:Int) (b:Nat→Int):Nat→Nat→Int
 | 0=>b
 | i+1=>sh n r (shi n r b i)
def mul (n:Nat) (r:Int) (a b:Nat→Int):Nat→Int:=fun j=>sm (fun i=>a i*shi n r b i j) n
def half (s:Nat) (z:Int) (f:Nat→Int):Nat→Int:=fun j=>f j+z*f (j+s)
theorem sh_congr {n:Nat} (r:Int) {b c:Nat→Int} (h:∀ j,j<n→b j=c j) (j:Nat) (hj:j<n):sh n r b j=sh n r c j:=by
 unfold sh
 split
 ·rw[h (n-1) (by omega)]
 ·exact h _ (by omega)
theorem sh_cg {n:Nat} {r r':Int} (hr:Cg r r') {b c:Nat→Int} (h:∀ j,j<n→Cg (b j) (c j)) (j:Nat) (hj:j<n):Cg (sh n r b j) (sh n r' c j):=by
 unfold sh
 split
 ·exact cg_mul hr (h (n-1) (by omega))
 ·exact h _ (by omega)
theorem shi_cg {n:Nat} {r r':Int} (hr:Cg r r') {b c:Nat→Int} (h:∀ j,j<n→Cg (b j) (c j)) (i:Nat):∀ j,j<n→Cg (shi n r b i j) (shi n r' c i j):=by
 induction i with
 | zero=>exact h
 | succ i ih=>exact fun j hj=>sh_cg hr ih j hj
theorem mul_cg {n:Nat} {r r':Int} (hr:Cg r r') {a a' b b':Nat→Int} (ha:∀ j,j<n→Cg (a j) (a' j)) (hb:∀ j,j<n→Cg (b j) (b' j)) (j:Nat) (hj:j<n):Cg (mul n r a b j) (mul n r' a' b' j):=
 sm_cg n fun i hi=>cg_mul (ha i hi) (shi_cg hr hb i j hj)
theorem half_sh (s:Nat) (z:Int) (b:Nat→Int) (hs : 0<s) (j:Nat):half s z (sh (2*s) (z*z) b) j=sh s z (half s z b) j:=by
 unfold half sh
 by_cases h:j=0
 ·subst h
  rw[if_pos rfl,if_pos rfl,if_neg (by omega),show 0+s-1=s-1 by omega]
  show z*z*b (2*s-1)+z*b (s-1)=z*(b (s-1)+z*b (s-1+s))
  rw[show s-1+s=2*s-1 by omega,Int.mul_add,Int.mul_assoc]
  omega
 ·rw[if_neg h,if_neg h,if_neg (by omega),show j+s-1=j-1+s by omega]
theorem half_shi (s:Nat) (z:Int) (b:Nat→Int) (hs : 0<s) (i:Nat):∀ j,j<s→half s z (shi (2*s) (z*z) b i) j=shi s z (half s z b) i j:=by
 induction i with
 | zero=>intro j _;rfl
 | succ i ih=>
  intro j hj
  rw[shi,half_sh s z _ hs,shi]
  exact sh_congr z ih j hj
theorem shi_add (n:Nat) (r:Int) (b:Nat→Int) (i k:Nat):shi n r b (i+k)=shi n r (shi n r b k) i:=by
 induction i with
 | zero=>rw[Nat.zero_add];rfl
 | succ i ih=>rw[Nat.succ_add,shi,ih];rfl
theorem shi_low (n:Nat) (r:Int) (b:Nat→Int) (i:Nat) (hi:i≤n):∀ j,j<n→shi n r b i j=if j<i then r*b (j+n-i) else b (j-i):=by
 induction i with
 | zero=>intro j _;rw[if_neg (by omega)];rfl
 | succ i ih=>
  intro j hj
  rw[shi]
  unfold sh
  by_cases h:j=0
  ·subst h
   rw[if_pos rfl,if_pos (by omega),ih (by omega) (n-1) (by omega),if_neg (by omega),show n-1-i=0+n-(i+1) by omega]
  ·rw[if_neg h,ih (by omega) (j-1) (by omega)]
   by_cases h2:j<i+1
   ·rw[if_pos (by omega),if_pos h2,show j-1+n-i=j+n-(i+1) by omega]
   ·rw[if_neg (by omega),if_neg h2,show j-1-i=j-(i+1) by omega]
theorem shi_full (s:Nat) (z:Int) (b:Nat→Int) (j:Nat) (hj:j<s):shi s z b s j=z*b j:=by
 rw[shi_low s z b s (Nat.le_refl _) j hj,if_pos hj,Nat.add_sub_cancel]
theorem shi_scale (s:Nat) (z:Int) (b c:Nat→Int) (h:∀ j,j<s→b j=z*c j) (i:Nat):∀ j,j<s→shi s z b i j=z*shi s z c i j:=by
 induction i with
 | zero=>exact h
 | succ i ih=>
  intro j hj
  rw[shi,shi]
  unfold sh
  split
  ·rw[ih (s-1) (by omega)]
  ·exact ih _ (by omega)
theorem half_mul (s:Nat) (z:Int) (a b:Nat→Int) (hs : 0<s) (j:Nat) (hj:j<s):half s z (mul (2*s) (z*z) a b) j=mul s z (half s z a) (half s z b) j:=by
 have e1:half s z (mul (2*s) (z*z) a b) j=sm (fun i=>a i*shi s z (half s z b) i j) (2*s):=by
  show mul (2*s) (z*z) a b j+z*mul (2*s) (z*z) a b (j+s)=_
  unfold mul
  rw[←sm_mul,←sm_add]
  refine sm_congr _ fun i _=>?_
  rw[←half_shi s z b hs i j hj]
  show a i*shi (2*s) (z*z) b i j+z*(a i*shi (2*s) (z*z) b i (j+s))=a i*(shi (2*s) (z*z) b i j+z*shi (2*s) (z*z) b i (j+s))
  rw[Int.mul_add,←Int.mul_assoc,←Int.mul_assoc,Int.mul_comm z (a i)]
 have e2:(fun i=>a (s+i)*shi s z (half s z b) (s+i) j)=fun i=>a (s+i)*shi s z (half s z b) (s+i) j:=rfl
 rw[e1,show 2*s=s+s by omega,sm_split]
 unfold mul
 rw[←sm_add]
 refine sm_congr _ fun i _=>?_
 rw[Nat.add_comm s i,shi_add,shi_scale s z _ (half s z b) (fun k hk=>shi_full s z (half s z b) k hk) i j hj]
 show _=(a i+z*a (i+s))*_
 rw[Int.add_mul,Int.mul_comm z (a (i+s)),Int.mul_assoc]
variable (ζ : Nat→Int)
def ly (K s:Nat) (f:Nat→Int):Nat→Int:=fun j=>if j%(2*s)<s then f j + ζ (K+j / (2*s))*f (j+s) else f (j-s) - ζ (K+j / (2*s))*f j
def bk (K s:Nat) (f:Nat→Int):Nat→Int:=fun j=>if j%(2*s)<s then f j+f (j+s) else - ζ (2*K-1-j / (2*s))*(f (j-s)-f j)
theorem place {s j:Nat} (hs : 0<s):(j%(2*s)<s→(j+s)%(2*s)=j%(2*s)+s∧(j+s) / (2*s)=j / (2*s))∧(¬ j%(2*s)<s→s≤j∧(j-s)%(2*s)=j%(2*s)-s∧(j-s) / (2*s)=j / (2*s)):=by
 have h1:=Nat.div_add_mod j (2*s)
 have h2:=Nat.mod_lt j (show 0<2*s by omega)
 constructor
 ·intro h
  have e:j+s=2*s*(j / (2*s))+(j%(2*s)+s):=by omega
  constructor
  ·rw[e,Nat.mul_add_mod,Nat.mod_eq_of_lt (by omega)]
  ·rw[e,Nat.mul_add_div (by omega),Nat.div_eq_of_lt (by omega:j%(2*s)+s<2*s)];omega
 ·intro h
  have hj:s≤j:=by have:=Nat.mod_le j (2*s);omega
  have e:j-s=2*s*(j / (2*s))+(j%(2*s)-s):=by omega
  refine⟨hj,?_,?_⟩
  ·rw[e,Nat.mul_add_mod,Nat.mod_eq_of_lt (by omega)]
  ·rw[e,Nat.mul_add_div (by omega),Nat.div_eq_of_lt (by omega:j%(2*s)-s<2*s)];omega
theorem bk_ly (K s:Nat) (hs : 0<s) (hz:∀ t,t<K→Cg (ζ (K+t) * ζ (2*K-1-t)) (-1)) (f:Nat→Int) (j:Nat) (hj:j<2*s*K):Cg (bk ζ K s (ly ζ K s f) j) (2*f j):=by
 have ht:j / (2*s)<K:=Nat.div_lt_of_lt_mul hj
 obtain⟨p1,p2⟩:=place (j:=j) hs
 unfold bk
 by_cases h:j%(2*s)<s
 ·obtain⟨q1,q2⟩:=p1 h
  rw[if_pos h]
  unfold ly
  rw[if_pos h,if_neg (by omega),q2,Nat.add_sub_cancel]
  exact eq_cg (by congr 1;omega)
 ·obtain⟨q0,q1,q2⟩:=p2 h
  have hlt:=Nat.mod_lt j (show 0<2*s by omega)
  rw[if_neg h]
  unfold ly
  rw[if_neg h,if_pos (by omega),q2,Nat.sub_add_cancel q0]
  have h3:=hz _ ht
  have e : - ζ (2*K-1-j / (2*s))*(f (j-s) + ζ (K+j / (2*s))*f j-(f (j-s) - ζ (K+j / (2*s))*f j))=(-2*f j)*(ζ (K+j / (2*s)) * ζ (2*K-1-j / (2*s))):=by grind
  rw[e,show 2*f j=(-2*f j)*(-1) by omega]
  exact cg_mul (cg_refl _) h3
theorem ly_bk (K s:Nat) (hs : 0<s) (hz:∀ t,t<K→Cg (ζ (K+t) * ζ (2*K-1-t)) (-1)) (f:Nat→Int) (j:Nat) (hj:j<2*s*K):Cg (ly ζ K s (bk ζ K s f) j) (2*f j):=by
 have ht:j / (2*s)<K:=Nat.div_lt_of_lt_mul hj
 obtain⟨p1,p2⟩:=place (j:=j) hs
 unfold ly
 by_cases h:j%(2*s)<s
 ·obtain⟨q1,q2⟩:=p1 h
  rw[if_pos h]
  unfold bk
  rw[if_pos h,if_neg (by omega),q2,Nat.add_sub_cancel]
  have h3:=hz _ ht
  have e:f j+f (j+s) + ζ (K+j / (2*s))*(-ζ (2*K-1-j / (2*s))*(f j-f (j+s)))=f j+f (j+s)+(-(f j-f (j+s)))*(ζ (K+j / (2*s)) * ζ (2*K-1-j / (2*s))):=by grind
  rw[e,show 2*f j=f j+f (j+s)+(-(f j-f (j+s)))*(-1) by omega]
  exact cg_add (cg_refl _) (cg_mul (cg_refl _) h3)
 ·obtain⟨q0,q1,q2⟩:=p2 h
  have hlt:=Nat.mod_lt j (show 0<2*s by omega)
  rw[if_neg h]
  unfold bk
  rw[if_neg h,if_pos (by omega),Nat.sub_add_cancel q0]
  have h3:=hz _ ht
  have e:f (j-s)+f j - ζ (K+j / (2*s))*(-ζ (2*K-1-j / (2*s))*(f (j-s)-f j))=f (j-s)+f j+(f (j-s)-f j)*(ζ (K+j / (2*s)) * ζ (2*K-1-j / (2*s))):=by grind
  rw[e,show 2*f j=f (j-s)+f j+(f (j-s)-f j)*(-1) by omega]
  exact cg_add (cg_refl _) (cg_mul (cg_refl _) h3)
end nttm
namespace nttp
open nttm
variable (ζ : Nat→Int)
theorem up {K s j:Nat} (hs : 0<s) (hj:j<2*s*K) (hr:j%(2*s)<s):j+s<2*s*K:=by
 have h:=(Nat.div_lt_iff_lt_mul (show 0<2*s by omega)).1 (show (j+s) / (2*s)<K by rw[((place (j:=j) hs).1 hr).2];exact Nat.div_lt_of_lt_mul hj)
 rw[Nat.mul_comm]at h;exact h
theorem ly_cg (K s:Nat) (hs : 0<s) {f g:Nat→Int} (h:∀ j,j<2*s*K→Cg (f j) (g j)) (j:Nat) (hj:j<2*s*K):Cg (ly ζ K s f j) (ly ζ K s g j):=by
 unfold ly
 split
 ·rename_i hr
  exact cg_add (h j hj) (cg_mul (cg_refl _) (h (j+s) (up hs hj hr)))
 ·exact cg_sub (h _ (by omega)) (cg_mul (cg_refl _) (h j hj))
theorem bk_cg (K s:Nat) (hs : 0<s) {f g:Nat→Int} (h:∀ j,j<2*s*K→Cg (f j) (g j)) (j:Nat) (hj:j<2*s*K):Cg (bk ζ K s f j) (bk ζ K s g j):=by
 unfold bk
 split
 ·rename_i hr
  exact cg_add (h j hj) (h (j+s) (up hs hj hr))
 ·exact cg_mul (cg_refl _) (cg_sub (h _ (by omega)) (h j hj))
theorem ly_add (K s:Nat) (f g:Nat→Int) (j:Nat):ly ζ K s (fun i=>f i+g i) j=ly ζ K s f j+ly ζ K s g j:=by
 unfold ly
 split
 ·simp only[Int.mul_add];omega
 ·simp only[Int.mul_add];omega
theorem ly_scale (K s:Nat) (c:Int) (f:Nat→Int) (j:Nat):ly ζ K s (fun i=>c*f i) j=c*ly ζ K s f j:=by
 unfold ly
 split
 ·rw[Int.mul_add,Int.mul_left_comm]
 ·rw[Int.mul_sub,Int.mul_left_comm]
theorem bk_scale (K s:Nat) (c:Int) (f:Nat→Int) (j:Nat):bk ζ K s (fun i=>c*f i) j=c*bk ζ K s f j:=by
 unfold bk
 split
 ·rw[Int.mul_add]
 ·rw[←Int.mul_sub,Int.mul_left_comm]
def pb (ρ : Nat→Int) (K n:Nat) (f g:Nat→Int):Nat→Int:=fun j=>mul n (ρ (K+j / n)) (fun i=>f (n*(j / n)+i)) (fun i=>g (n*(j / n)+i)) (j%n)
theorem ly_pb (ρ : Nat→Int) (K s:Nat) (hs : 0<s) (h0:∀ t,t<K→Cg (ρ (K+t)) (ζ (K+t) * ζ (K+t))) (h1:∀ t,t<K→Cg (ρ (2*K+2*t)) (ζ (K+t))) (h2:∀ t,t<K→Cg (ρ (2*K+(2*t+1))) (- ζ (K+t))) (f g:Nat→Int) (j:Nat) (hj:j<2*s*K):
 Cg (ly ζ K s (pb ρ K (2*s) f g) j) (pb ρ (2*K) s (ly ζ K s f) (ly ζ K s g) j):=by
 obtain⟨t,ht⟩:∃ t,j / (2*s)=t:=⟨_,rfl⟩
 obtain⟨r,hr⟩:∃ r,j%(2*s)=r:=⟨_,rfl⟩
 have htK:t<K:=by rw[←ht];exact Nat.div_lt_of_lt_mul hj
 have hrs:r<2*s:=by rw[←hr];exact Nat.mod_lt _ (by omega)
 have hjd:j=2*s*t+r:=by rw[←ht,←hr];exact(Nat.div_add_mod _ _).symm
 obtain⟨p1,p2⟩:=place (j:=j) hs
 rw[ht,hr]at p1 p2
 have lo:∀ (u:Nat→Int) (i:Nat),i<s→ly ζ K s u (2*s*t+i)=half s (ζ (K+t)) (fun i=>u (2*s*t+i)) i:=by
  intro u i hi
  have e1:(2*s*t+i) / (2*s)=t:=by rw[Nat.mul_add_div (by omega),Nat.div_eq_of_lt (by omega)];omega
  have e2:(2*s*t+i)%(2*s)=i:=by rw[Nat.mul_add_mod,Nat.mod_eq_of_lt (by omega)]
  unfold ly half
  rw[e1,e2,if_pos hi,Nat.add_assoc]
 have hi':∀ (u:Nat→Int) (i:Nat),i<s→ly ζ K s u (2*s*t+(s+i))=half s (- ζ (K+t)) (fun i=>u (2*s*t+i)) i:=by
  intro u i hi
  have e1:(2*s*t+(s+i)) / (2*s)=t:=by rw[Nat.mul_add_div (by omega),Nat.div_eq_of_lt (by omega)];omega
  have e2:(2*s*t+(s+i))%(2*s)=s+i:=by rw[Nat.mul_add_mod,Nat.mod_eq_of_lt (by omega)]
  unfold ly half
  rw[e1,e2,if_neg (by omega),show 2*s*t+(s+i)-s=2*s*t+i by omega,Nat.add_comm s i,Int.neg_mul]
  show u (2*s*t+i) - ζ (K+t)*u (2*s*t+(i+s))=u (2*s*t+i) + -(ζ (K+t)*u (2*s*t+(i+s)))
  omega
 by_cases hc:r<s
 ·obtain⟨q1,q2⟩:=p1 hc
  have eL:ly ζ K s (pb ρ K (2*s) f g) j=half s (ζ (K+t)) (mul (2*s) (ρ (K+t)) (fun i=>f (2*s*t+i)) (fun i=>g (2*s*t+i))) r:=by
   unfold ly pb half
   rw[hr,if_pos hc,ht,q1,q2]
  have eR:pb ρ (2*K) s (ly ζ K s f) (ly ζ K s g) j=mul s (ρ (2*K+2*t)) (fun i=>ly ζ K s f (2*s*t+i)) (fun i=>ly ζ K s g (2*s*t+i)) r:=by
   have e1:j / s=2*t:=by rw[hjd,show 2*s*t+r=s*(2*t)+r by rw[←Nat.mul_assoc,Nat.mul_comm s 2],Nat.mul_add_div hs,Nat.div_eq_of_lt hc];rfl
   have e2:j%s=r:=by rw[hjd,show 2*s*t+r=s*(2*t)+r by rw[←Nat.mul_assoc,Nat.mul_comm s 2],Nat.mul_add_mod,Nat.mod_eq_of_lt hc]
   unfold pb
   rw[e1,e2,show s*(2*t)=2*s*t by rw[←Nat.mul_assoc,Nat.mul_comm s 2]]
  rw[eL,eR]
  refine cg_trans (b:=half s (ζ (K+t)) (mul (2*s) (ζ (K+t) * ζ (K+t)) (fun i=>f (2*s*t+i)) (fun i=>g (2*s*t+i))) r) ?_ ?_
  ·unfold half
   exact cg_add (mul_cg (h0 t htK) (fun _ _=>cg_refl _) (fun _ _=>cg_refl _) r (by omega)) (cg_mul (cg_refl _) (mul_cg (h0 t htK) (fun _ _=>cg_refl _) (fun _ _=>cg_refl _) (r+s) (by omega)))
  ·rw[half_mul s _ _ _ hs r hc]
   exact mul_cg (cg_symm (h1 t htK)) (fun i hi=>by rw[lo f i hi];exact cg_refl _) (fun i hi=>by rw[lo g i hi];exact cg_refl _) r hc
 ·obtain⟨q0,q1,q2⟩:=p2 hc
  obtain⟨r',hr'⟩:∃ r',r-s=r':=⟨_,rfl⟩
  have hrr:r=s+r':=by omega
  have hr's:r'<s:=by omega
  have eL:ly ζ K s (pb ρ K (2*s) f g) j=half s (- ζ (K+t)) (mul (2*s) (ρ (K+t)) (fun i=>f (2*s*t+i)) (fun i=>g (2*s*t+i))) r':=by
   unfold ly pb half
   rw[hr,if_neg hc,ht,q1,q2,hr',show r'+s=r by omega,Int.neg_mul]
   omega
  have e0 : 2*s*t+r=s*(2*t+1)+r':=by rw[Nat.mul_add,←Nat.mul_assoc,Nat.mul_comm s 2];omega
  have eR:pb ρ (2*K) s (ly ζ K s f) (ly ζ K s g) j=mul s (ρ (2*K+(2*t+1))) (fun i=>ly ζ K s f (2*s*t+(s+i))) (fun i=>ly ζ K s g (2*s*t+(s+i))) r':=by
   have e1:j / s=2*t+1:=by rw[hjd,e0,Nat.mul_add_div hs,Nat.div_eq_of_lt hr's]
   have e2:j%s=r':=by rw[hjd,e0,Nat.mul_add_mod,Nat.mod_eq_of_lt hr's]
   have e3:∀ i,s*(2*t+1)+i=2*s*t+(s+i):=fun i=>by rw[Nat.mul_add,←Nat.mul_assoc,Nat.mul_comm s 2];omega
   unfold pb
   rw[e1,e2]
   simp only[e3]
  rw[eL,eR]
  refine cg_trans (b:=half s (- ζ (K+t)) (mul (2*s) (- ζ (K+t) * - ζ (K+t)) (fun i=>f (2*s*t+i)) (fun i=>g (2*s*t+i))) r') ?_ ?_
  ·have h0':Cg (ρ (K+t)) (- ζ (K+t) * - ζ (K+t)):=by rw[Int.neg_mul_neg];exact h0 t htK
   unfold half
   exact cg_add (mul_cg h0' (fun _ _=>cg_refl _) (fun _ _=>cg_refl _) r' (by omega)) (cg_mul (cg_refl _) (mul_cg h0' (fun _ _=>cg_refl _) (fun _ _=>cg_refl _) (r'+s) (by omega)))
  ·rw[half_mul s _ _ _ hs r' hr's]
   exact mul_cg (cg_symm (h2 t htK)) (fun i hi=>by rw[hi' f i hi];exact cg_refl _) (fun i hi=>by rw[hi' g i hi];exact cg_refl _) r' hr's
def there:Nat→(Nat→Int)→Nat→Int
 | 0,f=>f
 | m+1,f=>ly ζ (2 ^ m) (2 ^ (7-m)) (there m f)
def back:Nat→(Nat→Int)→Nat→Int
 | 0,f=>f
 | m+1,f=>bk ζ (2 ^ (7-m)) (2 ^ m) (back m f)
theorem size_m (m:Nat) (h:m≤7) : 2*2 ^ (7-m)*2 ^ m=256∧2*2 ^ m*2 ^ (7-m)=256:=by
 have e : 2 ^ (7-m)*2 ^ m=128:=by rw[←Nat.pow_add,show 7-m+m=7 by omega]
 constructor
 ·rw[Nat.mul_assoc,e]
 ·rw[Nat.mul_assoc,Nat.mul_comm (2 ^ m),e]
theorem there_cg (m:Nat) (hm:m≤8) {f g:Nat→Int} (h:∀ j,j<256→Cg (f j) (g j)):∀ j,j<256→Cg (there ζ m f j) (there ζ m g j):=by
 induction m with
 | zero=>exact h
 | succ m ih=>
  intro j hj
  have e:=(size_m m (by omega)).1
  exact ly_cg ζ (2 ^ m) (2 ^ (7-m)) (Nat.two_pow_pos _) (fun i hi=>ih (by omega) i (by omega)) j (by omega)
theorem back_cg (m:Nat) (hm:m≤8) {f g:Nat→Int} (h:∀ j,j<256→Cg (f j) (g j)):∀ j,j<256→Cg (back ζ m f j) (back ζ m g j):=by
 induction m with
 | zero=>exact h
 | succ m ih=>
  intro j hj
  have e:=(size_m m (by omega)).2
  exact bk_cg ζ (2 ^ (7-m)) (2 ^ m) (Nat.two_pow_pos _) (fun i hi=>ih (by omega) i (by omega)) j (by omega)
theorem there_add (m:Nat) (f g:Nat→Int):there ζ m (fun i=>f i+g i)=fun j=>there ζ m f j+there ζ m g j:=by
 induction m with
 | zero=>rfl
 | succ m ih=>funext j;show ly ζ _ _ (there ζ m fun i=>f i+g i) j=_;rw[ih];exact ly_add ζ _ _ _ _ j
theorem there_scale (m:Nat) (c:Int) (f:Nat→Int):there ζ m (fun i=>c*f i)=fun j=>c*there ζ m f j:=by
 induction m with
 | zero=>rfl
 | succ m ih=>funext j;show ly ζ _ _ (there ζ m fun i=>c*f i) j=_;rw[ih];exact ly_scale ζ _ _ _ _ j
def Inv:Prop:=∀ m,m≤7→∀ t,t<2 ^ m→Cg (ζ (2 ^ m+t) * ζ (2*2 ^ m-1-t)) (-1)
theorem back_there (hz:Inv ζ) (f:Nat→Int) (m:Nat) (hm:m≤8):∀ j,j<256→Cg (back ζ m (there ζ 8 f) j) (2 ^ m*there ζ (8-m) f j):=by
 induction m with
 | zero=>intro j _;rw[show (2:Int) ^ 0=1 from rfl,Int.one_mul];exact cg_refl _
 | succ m ih=>
  intro j hj
  obtain⟨e1,e2⟩:=size_m m (by omega)
  have h1:=bk_cg ζ (2 ^ (7-m)) (2 ^ m) (Nat.two_pow_pos _) (fun i hi=>ih (by omega) i (by omega)) j (by omega)
  have h2:bk ζ (2 ^ (7-m)) (2 ^ m) (fun i=>2 ^ m*there ζ (8-m) f i) j=2 ^ m*bk ζ (2 ^ (7-m)) (2 ^ m) (there ζ (8-m) f) j:=bk_scale ζ _ _ _ _ j
  have h3:there ζ (8-m) f=ly ζ (2 ^ (7-m)) (2 ^ m) (there ζ (7-m) f):=by
   rw[show 8-m=(7-m)+1 by omega,there,show 7-(7-m)=m by omega]
  have h4:=bk_ly ζ (2 ^ (7-m)) (2 ^ m) (Nat.two_pow_pos _) (fun t ht=>hz (7-m) (by omega) t ht) (there ζ (7-m) f) j (by omega)
  rw[show 8-(m+1)=7-m by omega,Int.pow_succ,Int.mul_assoc]
  refine cg_trans h1 ?_
  rw[h2,h3]
  exact cg_mul (cg_refl _) h4
theorem there_back (hz:Inv ζ) (f:Nat→Int) (m:Nat) (hm:m≤8):∀ j,j<256→Cg (there ζ m (back ζ 8 f) j) (2 ^ m*back ζ (8-m) f j):=by
 induction m with
 | zero=>intro j _;rw[show (2:Int) ^ 0=1 from rfl,Int.one_mul];exact cg_refl _
 | succ m ih=>
  intro j hj
  obtain⟨e1,e2⟩:=size_m m (by omega)
  have h1:=ly_cg ζ (2 ^ m) (2 ^ (7-m)) (Nat.two_pow_pos _) (fun i hi=>ih (by omega) i (by omega)) j (by omega)
  have h2:ly ζ (2 ^ m) (2 ^ (7-m)) (fun i=>2 ^ m*back ζ (8-m) f i) j=2 ^ m*ly ζ (2 ^ m) (2 ^ (7-m)) (back ζ (8-m) f) j:=ly_scale ζ _ _ _ _ j
  have h3:back ζ (8-m) f=bk ζ (2 ^ m) (2 ^ (7-m)) (back ζ (7-m) f):=by
   rw[show 8-m=(7-m)+1 by omega,back,show 7-(7-m)=m by omega]
  have h4:=ly_bk ζ (2 ^ m) (2 ^ (7-m)) (Nat.two_pow_pos _) (fun t ht=>hz m (by omega) t ht) (back ζ (7-m) f) j (by omega)
  rw[show 8-(m+1)=7-m by omega,Int.pow_succ,Int.mul_assoc]
  refine cg_trans h1 ?_
  rw[h2,h3]
  exact cg_mul (cg_refl _) h4
structure Sq (ρ : Nat→Int):Prop where
 top:Cg (ρ 1) (-1)
 sq:∀ k,0<k→k<256→Cg (ρ k) (ζ k * ζ k)
 lo:∀ k,0<k→k<256→Cg (ρ (2*k)) (ζ k)
 hi:∀ k,0<k→k<256→Cg (ρ (2*k+1)) (- ζ k)
theorem there_pb (ρ : Nat→Int) (hq:Sq ζ ρ) (f g:Nat→Int) (m:Nat) (hm:m≤8):∀ j,j<256→Cg (there ζ m (pb ρ 1 256 f g) j) (pb ρ (2 ^ m) (2 ^ (8-m)) (there ζ m f) (there ζ m g) j):=by
 induction m with
 | zero=>intro j _;exact cg_refl _
 | succ m ih=>
  intro j hj
  obtain⟨e1,e2⟩:=size_m m (by omega)
  have hK : 2 ^ m≤128:=Nat.le_trans (Nat.pow_le_pow_right (by decide) (by omega:m≤7)) (by decide)
  have hK0:=Nat.two_pow_pos m
  have h1:=ly_cg ζ (2 ^ m) (2 ^ (7-m)) (Nat.two_pow_pos _) (fun i hi=>ih (by omega) i (by omega)) j (by omega)
  have e3 : 2 ^ (8-m)=2*2 ^ (7-m):=by rw[show 8-m=(7-m)+1 by omega,Nat.pow_succ,Nat.mul_comm]
  rw[e3]at h1
  have h2:=ly_pb ζ ρ (2 ^ m) (2 ^ (7-m)) (Nat.two_pow_pos _) (fun t ht=>hq.sq _ (by omega) (by omega)) (fun t ht=>by rw[←Nat.mul_add];exact hq.lo _ (by omega) (by omega)) (fun t ht=>by rw[←Nat.add_assoc,←Nat.mul_add];exact hq.hi _ (by omega) (by omega)) (there ζ m f) (there ζ m g) j (by omega)
  have h3:=cg_trans h1 h2
  rw[show 8-(m+1)=7-m by omega,Nat.pow_succ,Nat.mul_comm (2 ^ m) 2]
  exact h3
theorem product (ρ : Nat→Int) (hz:Inv ζ) (hq:Sq ζ ρ) (f g:Nat→Int) (j:Nat) (hj:j<256):Cg (8347681*back ζ 8 (fun i=>there ζ 8 f i*there ζ 8 g i) j) (mul 256 (-1) f g j):=by
 have h1:∀ i,i<256→Cg (there ζ 8 f i*there ζ 8 g i) (there ζ 8 (pb ρ 1 256 f g) i):=fun i hi=>by
  refine cg_symm (cg_trans (there_pb ζ ρ hq f g 8 (by decide) i hi) ?_)
  show Cg (pb ρ 256 1 (there ζ 8 f) (there ζ 8 g) i) _
  unfold pb mul
  rw[Nat.div_one,Nat.mod_one,Nat.one_mul]
  simp only[sm,shi,Nat.add_zero,Int.zero_add]
  exact cg_refl _
 have h2:=back_cg ζ 8 (by decide) h1 j hj
 have h3:=back_there ζ hz (pb ρ 1 256 f g) 8 (by decide) j hj
 have h4:Cg (8347681*back ζ 8 (fun i=>there ζ 8 f i*there ζ 8 g i) j) (8347681*(2 ^ 8*pb ρ 1 256 f g j)):=cg_mul (cg_refl _) (cg_trans h2 h3)
 refine cg_trans h4 (cg_trans (b:=pb ρ 1 256 f g j) ?_ ?_)
 ·rw[←Int.mul_assoc,show pb ρ 1 256 f g j=1*pb ρ 1 256 f g j by omega,←Int.mul_assoc]
  exact cg_mul (by unfold Cg;decide) (cg_refl _)
 ·unfold pb
  rw[Nat.div_eq_of_lt hj,Nat.mod_eq_of_lt hj]
  simp only[Nat.mul_zero,Nat.zero_add,Nat.add_zero]
  exact mul_cg hq.top (fun _ _=>cg_refl _) (fun _ _=>cg_refl _) j hj
theorem redo (hz:Inv ζ) (f:Nat→Int) (j:Nat) (hj:j<256):Cg (there ζ 8 (fun i=>8347681*back ζ 8 f i) j) (f j):=by
 rw[there_scale]
 have h:=there_back ζ hz f 8 (by decide) j hj
 refine cg_trans (cg_mul (cg_refl 8347681) h) ?_
 show Cg (8347681*(2 ^ 8*f j)) (f j)
 rw[←Int.mul_assoc,show Cg (8347681*2 ^ 8*f j) (f j)=Cg (8347681*2 ^ 8*f j) (1*f j) by rw[Int.one_mul]]
 exact cg_mul (by unfold Cg;decide) (cg_refl _)
end nttp
namespace nttl
open nttm nttp polys
variable (ζ : Nat→Int)
def pair (s j:Nat):Nat:=j / (2*s)*s+j%s
theorem pair_lo {s t r:Nat} (hr:r<s):pair s (2*s*t+r)=t*s+r∧(2*s*t+r) / (2*s)=t∧(2*s*t+r)%(2*s)=r:=by
 have h1:(2*s*t+r) / (2*s)=t:=by rw[Nat.mul_add_div (by omega),Nat.div_eq_of_lt (by omega),Nat.add_zero]
 have h2:(2*s*t+r)%(2*s)=r:=by rw[Nat.mul_add_mod,Nat.mod_eq_of_lt (by omega)]
 have h3:(2*s*t+r)%s=r:=by rw[show 2*s*t+r=s*(2*t)+r by rw[←Nat.mul_assoc,Nat.mul_comm s 2],Nat.mul_add_mod,Nat.mod_eq_of_lt hr]
 exact⟨by unfold pair;rw[h1,h3],h1,h2⟩
theorem pair_hi {s t r:Nat} (hr:r<s):pair s (2*s*t+r+s)=t*s+r∧(2*s*t+r+s) / (2*s)=t∧(2*s*t+r+s)%(2*s)=r+s:=by
 have h1:(2*s*t+r+s) / (2*s)=t:=by rw[Nat.add_assoc,Nat.mul_add_div (by omega),Nat.div_eq_of_lt (by omega),Nat.add_zero]
 have h2:(2*s*t+r+s)%(2*s)=r+s:=by rw[Nat.add_assoc,Nat.mul_add_mod,Nat.mod_eq_of_lt (by omega)]
 have h3:(2*s*t+r+s)%s=r:=by rw[show 2*s*t+r+s=s*(2*t+1)+r by rw[Nat.mul_add,←Nat.mul_assoc,Nat.mul_comm s 2];omega,Nat.mul_add_mod,Nat.mod_eq_of_lt hr]
 exact⟨by unfold pair;rw[h1,h3],h1,h2⟩
theorem pair_is {s j:Nat} (hs : 0<s):∃ t r,r<s∧pair s j=t*s+r∧(j=2*s*t+r∨j=2*s*t+r+s):=by
 have h1:=Nat.div_add_mod j (2*s)
 have h2:=Nat.mod_lt j (show 0<2*s by omega)
 by_cases h:j%(2*s)<s
 ·refine⟨j / (2*s),j%(2*s),h,?_,Or.inl h1.symm⟩
  have:=(pair_lo (t:=j / (2*s)) h).1
  rwa [h1]at this
 ·have e:j=2*s*(j / (2*s))+(j%(2*s)-s)+s:=by omega
  refine⟨j / (2*s),j%(2*s)-s,by omega,?_,Or.inr e⟩
  have:=(pair_hi (t:=j / (2*s)) (show j%(2*s)-s<s by omega)).1
  rwa [←e]at this
theorem pair_inj {s t t' r r':Nat} (hr:r<s) (hr':r'<s) (h:t*s+r=t'*s+r'):t=t'∧r=r':=by
 have h1:(t*s+r) / s=t:=by rw[Nat.mul_comm,Nat.mul_add_div (by omega),Nat.div_eq_of_lt hr,Nat.add_zero]
 have h2:(t'*s+r') / s=t':=by rw[Nat.mul_comm,Nat.mul_add_div (by omega),Nat.div_eq_of_lt hr',Nat.add_zero]
 have e:t=t':=by rw[←h1,←h2,h]
 subst e
 exact⟨rfl,by omega⟩
def dn (L:(Nat→Int)→Nat→Int) (s:Nat) (f:Nat→Int) (m:Nat):Nat→Int:=fun j=>if pair s j<m then L f j%8380417 else f j
theorem dn_zero (L:(Nat→Int)→Nat→Int) (s:Nat) (f:Nat→Int):dn L s f 0=f:=by funext j;unfold dn;rw[if_neg (by omega)]
theorem dn_all (L:(Nat→Int)→Nat→Int) (K s:Nat) (hs : 0<s) (f:Nat→Int) (j:Nat) (hj:j<2*s*K):dn L s f (K*s) j=L f j%8380417:=by
 unfold dn
 rw[if_pos]
 obtain⟨t,r,hr,hp,hjj⟩:=pair_is (j:=j) hs
 have ht:t<K:=by
  have h1 : 2*s*t<2*s*K:=by rcases hjj with h | h<;>omega
  exact Nat.lt_of_mul_lt_mul_left h1
 rw[hp]
 have:(t+1)*s≤K*s:=Nat.mul_le_mul_right _ ht
 rw[Nat.succ_mul]at this
 omega
theorem dn_lo (L:(Nat→Int)→Nat→Int) {s t r:Nat} (hr:r<s) (f:Nat→Int):dn L s f (t*s+r) (2*s*t+r)=f (2*s*t+r):=by unfold dn;rw[(pair_lo hr).1,if_neg (by omega)]
theorem dn_hi (L:(Nat→Int)→Nat→Int) {s t r:Nat} (hr:r<s) (f:Nat→Int):dn L s f (t*s+r) (2*s*t+r+s)=f (2*s*t+r+s):=by unfold dn;rw[(pair_hi hr).1,if_neg (by omega)]
theorem same (p q:Prop) [Decidable p] [Decidable q] (a b:Int) (h:p↔q):(if p then a else b)=if q then a else b:=by
 by_cases hp:p
 ·rw[if_pos hp,if_pos (h.1 hp)]
 ·rw[if_neg hp,if_neg (fun x=>hp (h.2 x))]
theorem dn_step (L:(Nat→Int)→Nat→Int) {s t r:Nat} (hr:r<s) (f:Nat→Int) (x y:Int) (hx:x=L f (2*s*t+r)%8380417) (hy:y=L f (2*s*t+r+s)%8380417):
 upd (upd (dn L s f (t*s+r)) (2*s*t+r+s) y) (2*s*t+r) x=dn L s f (t*s+r+1)∧upd (upd (dn L s f (t*s+r)) (2*s*t+r) x) (2*s*t+r+s) y=dn L s f (t*s+r+1):=by
 have hs : 0<s:=by omega
 have key:∀ j,j≠2*s*t+r→j≠2*s*t+r+s→(pair s j<t*s+r↔pair s j<t*s+r+1):=by
  intro j h1 h2
  obtain⟨t',r',hr',hp,hjj⟩:=pair_is (j:=j) hs
  constructor
  ·intro h;omega
  ·intro h
   by_cases e:pair s j=t*s+r
   ·obtain⟨rfl,rfl⟩:=pair_inj hr' hr (hp.symm.trans e)
    rcases hjj with h | h
    ·exact absurd h h1
    ·exact absurd h h2
   ·omega
 subst hx hy
 constructor
 ·funext j
  unfold upd
  by_cases h1:j=2*s*t+r
  ·subst h1;rw[if_pos rfl];unfold dn;rw[(pair_lo hr).1,if_pos (by omega)]
  ·rw[if_neg h1]
   by_cases h2:j=2*s*t+r+s
   ·subst h2;rw[if_pos rfl];unfold dn;rw[(pair_hi hr).1,if_pos (by omega)]
   ·rw[if_neg h2];unfold dn;exact same _ _ _ _ (key j h1 h2)
 ·funext j
  unfold upd
  by_cases h2:j=2*s*t+r+s
  ·subst h2;rw[if_pos rfl];unfold dn;rw[(pair_hi hr).1,if_pos (by omega)]
  ·rw[if_neg h2]
   by_cases h1:j=2*s*t+r
   ·subst h1;rw[if_pos rfl];unfold dn;rw[(pair_lo hr).1,if_pos (by omega)]
   ·rw[if_neg h1];unfold dn;exact same _ _ _ _ (key j h1 h2)
theorem ly_pair (K:Nat) {s t r:Nat} (hr:r<s) (f:Nat→Int):ly ζ K s f (2*s*t+r)=f (2*s*t+r) + ζ (K+t)*f (2*s*t+r+s)∧ly ζ K s f (2*s*t+r+s)=f (2*s*t+r) - ζ (K+t)*f (2*s*t+r+s):=by
 obtain⟨-,h1,h2⟩:=pair_lo (t:=t) hr
 obtain⟨-,h3,h4⟩:=pair_hi (t:=t) hr
 unfold ly
 rw[h2,h1,if_pos hr,h4,h3,if_neg (by omega),Nat.add_sub_cancel]
 exact⟨rfl,rfl⟩
theorem bk_pair (K:Nat) {s t r:Nat} (hr:r<s) (f:Nat→Int):bk ζ K s f (2*s*t+r)=f (2*s*t+r)+f (2*s*t+r+s)∧bk ζ K s f (2*s*t+r+s) = - ζ (2*K-1-t)*(f (2*s*t+r)-f (2*s*t+r+s)):=by
 obtain⟨-,h1,h2⟩:=pair_lo (t:=t) hr
 obtain⟨-,h3,h4⟩:=pair_hi (t:=t) hr
 unfold bk
 rw[h2,if_pos hr,h4,h3,if_neg (by omega),Nat.add_sub_cancel]
 exact⟨rfl,rfl⟩
def red (f:Nat→Int):Nat→Int:=fun j=>f j%8380417
def thereR:Nat→(Nat→Int)→Nat→Int
 | 0,f=>red f
 | m+1,f=>red (ly ζ (2 ^ m) (2 ^ (7-m)) (thereR m f))
def backR:Nat→(Nat→Int)→Nat→Int
 | 0,f=>red f
 | m+1,f=>red (bk ζ (2 ^ (7-m)) (2 ^ m) (backR m f))
theorem thereR_cg (m:Nat) (hm:m≤8) (f:Nat→Int):∀ j,j<256→Cg (thereR ζ m f j) (there ζ m f j):=by
 induction m with
 | zero=>exact fun j _=>cg_mod _
 | succ m ih=>
  intro j hj
  have e:=(size_m m (by omega)).1
  exact cg_trans (cg_mod _) (ly_cg ζ (2 ^ m) (2 ^ (7-m)) (Nat.two_pow_pos _) (fun i hi=>ih (by omega) i (by omega)) j (by omega))
theorem backR_cg (m:Nat) (hm:m≤8) (f:Nat→Int):∀ j,j<256→Cg (backR ζ m f j) (back ζ m f j):=by
 induction m with
 | zero=>exact fun j _=>cg_mod _
 | succ m ih=>
  intro j hj
  have e:=(size_m m (by omega)).2
  exact cg_trans (cg_mod _) (bk_cg ζ (2 ^ (7-m)) (2 ^ m) (Nat.two_pow_pos _) (fun i hi=>ih (by omega) i (by omega)) j (by omega))
theorem thereR_red (m:Nat) (f:Nat→Int) (j:Nat) : 0≤thereR ζ m f j∧thereR ζ m f j<8380417:=by
 cases m with
 | zero=>exact⟨Int.emod_nonneg _ (by decide),Int.emod_lt_of_pos _ (by decide)⟩
 | succ m=>exact⟨Int.emod_nonneg _ (by decide),Int.emod_lt_of_pos _ (by decide)⟩
theorem backR_red (m:Nat) (f:Nat→Int) (j:Nat) : 0≤backR ζ m f j∧backR ζ m f j<8380417:=by
 cases m with
 | zero=>exact⟨Int.emod_nonneg _ (by decide),Int.emod_lt_of_pos _ (by decide)⟩
 | succ m=>exact⟨Int.emod_nonneg _ (by decide),Int.emod_lt_of_pos _ (by decide)⟩
end nttl
end Go.Proofs.YtomphjajkkddkaaGreatDoor
namespace Go.Proofs.YtomphjajkkddkaaGreatDoor
namespace lsl11
open Go Go.RowKit
open arr mem polys pols saml
def SL (w:World) (v:Value) (m:Nat) (q:Nat→Nat→Int):Prop:=(m=0∧v=.slice none 0 0)∨(1≤m∧m≤8∧∃ B,Holds w B v m q)
theorem SL.later {w w':World} {v:Value} {m:Nat} {q:Nat→Nat→Int} (h:SL w v m q) (hb:Below w.heap.size w w'):SL w' v m q:=
 h.imp id fun ⟨h1,h2,B,h3⟩=>⟨h1,h2,B,h3.later hb⟩
end lsl11
end Go.Proofs.YtomphjajkkddkaaGreatDoor
