/-
  What mlkey's lists, size and Sizes return. Conditions: as each theorem says. What mlkey's encode ret
-/
import Derived.Test.YtomphjajkkddkaaGreatDoorZt09
import Derived.Test.YtomphjajkkddkaaGreatDoorZt10
import Derived.Test.YtomphjajkkddkaaGreatDoorZt11
import Derived.Test.YtomphjajkkddkaaGreatDoorZt04
import Derived.Test.YtomphjajkkddkaaGreatDoorZt12
import Derived.Test.YtomphjajkkddkaaGreatDoorZt13
import Derived.Test.YtomphjajkkddkaaGreatDoorZt14
import Derived.Test.YtomphjajkkddkaaGreatDoorZt03
import Derived.OwnWalk
import Derived.WalkMore
import Derived.Lib.QuietBelow
import Derived.Lib.MinMax
import Derived.StillTailTactics
set_option maxRecDepth 100000
set_option maxHeartbeats 16000000
namespace Go.Proofs.YtomphjajkkddkaaGreatDoor
namespace ksz
set_option linter.unusedSimpArgs false
open Go Go.RowKit
open arr mem stil polys polt rbita rndm mlkm rset rksz
def lst (k l e:Int):Array Value:=#[.int .i64 l,.int .i64 e,.int .i64 e,.int .i64 k,.int .i64 e,.int .i64 e,.int .i64 k,.int .i64 4095,.int .i64 4096]
def mn (k l:Int) (r:Nat):Int:=if r=0 then l else k
def lw (e:Int) (r:Nat):Int:=if r=2 then 4095 else e
def hg (e:Int) (r:Nat):Int:=if r=2 then 4096 else e
theorem lw_hg (e:Int) (r:Nat) (he:e=2∨e=4) : 4≤lw e r+hg e r∧lw e r+hg e r≤8191:=by
 unfold lw hg
 by_cases h:r=2
 ·rw[if_pos h,if_pos h];omega
 ·rw[if_neg h,if_neg h];omega
theorem infoLs:(Tryz.prog.info? 102).map (fun i=>(i.zero,i.size))=some (some (.agg #[.int .i64 0,.int .i64 0,.int .i64 0,.int .i64 0,.int .i64 0,.int .i64 0,.int .i64 0,.int .i64 0,.int .i64 0]),9):=by kernel_rfl
theorem index_ls (k l e:Int) (r:Nat) (hr:r<3) (w:World):(Instr.index 102 (.agg (lst k l e)) (.int .i64 (r:Int))).run Tryz.prog w=.ok (.agg #[.int .i64 (mn k l r),.int .i64 (lw e r),.int .i64 (hg e r)]) w:=by
 rcases (show r=0∨r=1∨r=2 by omega) with rfl | rfl | rfl<;>kernel_rfl
theorem built_3 (x y z:Int):Tryz.prog.built 101 [(0,.int .i64 x),(1,.int .i64 y),(2,.int .i64 z)]=some #[.int .i64 x,.int .i64 y,.int .i64 z]:=by kernel_rfl
theorem built_ls (k l e:Int):Tryz.prog.built 102 [(0,.agg #[.int .i64 l,.int .i64 e,.int .i64 e]),(1,.agg #[.int .i64 k,.int .i64 e,.int .i64 e]),(2,.agg #[.int .i64 k,.int .i64 4095,.int .i64 4096])]=some (lst k l e):=by kernel_rfl
theorem wpList_list3 {ops:Array Oper} {rest:List Oper} {o:Oper} {a:Act} {w:World} {Q:Exit→Act→World→Prop} (hg:o.guard=none)
 (H:∃ (x y z:Operand) (i j k:Int),o.op=.build 101 [(0,x),(1,y),(2,z)].toArray∧a.eval x=.int .i64 i∧a.eval y=.int .i64 j∧a.eval z=.int .i64 k∧wpList Tryz.prog ops Q rest (a.put o.dst (.agg #[.int .i64 i,.int .i64 j,.int .i64 k])) w):wpList Tryz.prog ops Q (o :: rest) a w:=by
 obtain⟨x,y,z,i,j,k,ho,hx,hy,hz,h⟩:=H
 refine wpList_builtL hg 101 _ ho _ ?_ h
 simp only[List.map_cons,List.map_nil,hx,hy,hz]
 exact built_3 i j k
theorem wpList_ls {ops:Array Oper} {rest:List Oper} {o:Oper} {a:Act} {w:World} {Q:Exit→Act→World→Prop} (k l e:Int) (V:Array Value) (hV:lst k l e=V) (hg:o.guard=none)
 (H:∃ (x y z:Operand),o.op=.build 102 [(0,x),(1,y),(2,z)].toArray∧a.eval x=.agg #[.int .i64 l,.int .i64 e,.int .i64 e]∧a.eval y=.agg #[.int .i64 k,.int .i64 e,.int .i64 e]∧a.eval z=.agg #[.int .i64 k,.int .i64 4095,.int .i64 4096]∧wpList Tryz.prog ops Q rest (a.put o.dst (.agg V)) w):wpList Tryz.prog ops Q (o :: rest) a w:=by
 obtain⟨x,y,z,ho,hx,hy,hz,h⟩:=H
 refine wpList_builtL hg 102 _ ho _ ?_ h
 simp only[List.map_cons,List.map_nil,hx,hy,hz,←hV]
 exact built_ls k l e
theorem lists_any (k l e t a b o s:Int) (w:World):
 Calls Tryz.prog 69 #[.agg #[.int .i64 k,.int .i64 l,.int .i64 e,.int .i64 t,.int .i64 a,.int .i64 b,.int .i64 o,.int .i64 s]] w fun x w'=>x=.returned (.agg (lst k l e))∧Below w.heap.size w w':=by
 obtain⟨hz,hsize⟩:=zero_of_info infoLs
 obtain⟨z,HZ⟩:=ex_eq (#[.int .i64 0,.int .i64 0,.int .i64 0,.int .i64 0,.int .i64 0,.int .i64 0,.int .i64 0,.int .i64 0,.int .i64 0]:Array Value)
 rw[HZ.out]at hz
 have Zs:Away (z.size=9):=⟨by rw[←HZ.out];rfl⟩
 obtain⟨V,HV⟩:=ex_eq (lst k l e)
 have Vi:Away ((Tryz.prog.info? 102).map (·.size)=some V.size):=⟨by rw[←HV.out];exact hsize⟩
 have Vz:Away (z.size=V.size):=⟨by rw[Zs.out,←HV.out];rfl⟩
 have Vo:Away (V.all (·.oneCell')=true):=⟨by rw[←HV.out];simp[lst,Value.oneCell']⟩
 rw[HV.out]
 obtain⟨C,HC⟩:=ex_eq (#[.int .i64 k,.int .i64 l,.int .i64 e,.int .i64 t,.int .i64 a,.int .i64 b,.int .i64 o,.int .i64 s]:Array Value)
 rw[HC.out]
 obtain⟨W,hW⟩:∃ x,(w.alloc (.cells C 37)).alloc (.cells z 102)=x:=⟨_,rfl⟩
 obtain⟨r0,r1,hWs,b0⟩:=two hW
 have c0:W.cell? ⟨w.heap.size,0,none⟩=some (.int .i64 k):=cell_at r0 (by rw[←HC.out];rfl)
 have c1:W.cell? ⟨w.heap.size,1,none⟩=some (.int .i64 l):=cell_at r0 (by rw[←HC.out];rfl)
 have c2:W.cell? ⟨w.heap.size,2,none⟩=some (.int .i64 e):=cell_at r0 (by rw[←HC.out];rfl)
 have Hres:Away (W.heap[w.heap.size+1]? = some (.cells z 102 (0,0))):=⟨r1⟩
 have HB:=Away.mk b0
 have HW:=Away.mk hW
 clear hsize hW r0 r1 hWs b0
 go_enter Tryz.func69,Tryz.ntmps69
 go_wp2_with (first
  | (rw[HW.out])
  | (refine wpList_list3 rfl ⟨_,_,_,_,_,_,rfl,rfl,rfl,rfl,?_⟩)
  | (refine wpList_ls k l e V HV.out rfl ⟨_,_,_,rfl,rfl,rfl,rfl,?_⟩)
  | (refine wpList_store_row rfl 102 _ _ rfl (w.heap.size+1) V rfl rfl 102 _ Hres.out Vi.out Vz.out Vo.out ?_))
 refine bodyPost_ret_by (v:=.agg V) (results_cell_row rfl _ _ (w.heap.size+1) 102 _ (0,0) _ rfl (setRow_heap _ _ _ _ _ _ Hres.out) Tryz.underlying102 rfl Vi.out) rfl ?_
 exact⟨rfl,HB.out.trans (below_setRow _ _ _ (by omega))⟩
theorem size_any (most:Int) (n:Nat) (hm:most<9223372036854775808) (hn:lb most.toNat=n) (h64:n≤1000) (w:World):
 Calls Tryz.prog 70 #[.int .i64 most] w fun x w'=>x=.returned (.int .i64 (32*(n:Int)))∧w'=w:=by
 have HL:Away (∀ w1:World,Calls Tryz.prog 127 #[.int .i64 most] w1 fun e w'=>e=.returned (.int .i64 (n:Int))∧w'=w1):=⟨fun w1=>by rw[←hn];exact plong.long_any most hm w1⟩
 have f1:IntKind.i64.wrap (256*(n:Int))=256*(n:Int):=by rw[IntKind.wrap_i64];omega
 have f2:(256*(n:Int)).tdiv 8=32*(n:Int):=by rw[Int.tdiv_eq_ediv_of_nonneg (by omega)];omega
 have f3:IntKind.i64.wrap (32*(n:Int))=32*(n:Int):=by rw[IntKind.wrap_i64];omega
 clear hn
 go_enter Tryz.func70,Tryz.ntmps70
 go_wp2_with fail
 refine(HL.out _).mono ?_
 rintro e w1 ⟨rfl,hw⟩
 rw[hw]
 clear hw w1
 go_wp2_with fail
 go_ret
 exact⟨rfl,rfl⟩
theorem sizes_any (k l e t a b o s:Int) (w:World):
 Calls Tryz.prog 20 #[.agg #[.int .i64 k,.int .i64 l,.int .i64 e,.int .i64 t,.int .i64 a,.int .i64 b,.int .i64 o,.int .i64 s]] w fun x w'=>x=.returned (szs k l e t a b o s)∧Below w.heap.size w w':=by
 have HR0:=fun w1=>rright.right_any k l e t a b o s w1
 have HL0:=fun w1=>lists_any k l e t a b o s w1
 obtain⟨V,HV⟩:=ex_eq (szs k l e t a b o s)
 rw[HV.out]
 obtain⟨C,HC⟩:=ex_eq (#[.int .i64 k,.int .i64 l,.int .i64 e,.int .i64 t,.int .i64 a,.int .i64 b,.int .i64 o,.int .i64 s]:Array Value)
 rw[HC.out]at HR0 HL0 ⊢
 have HCs:Away ((Tryz.prog.info? 37).map (·.size)=some C.size):=⟨by rw[←HC.out];kernel_rfl⟩
 obtain⟨W,hW⟩:∃ x,w.alloc (.cells C 37)=x:=⟨_,rfl⟩
 obtain⟨r0,hWs,b0⟩:=one hW
 have CB:Away (∀ w':World,Below W.heap.size W w'→w'.heap[w.heap.size]? = some (.cells C 37 (0,0))):=⟨fun w' hb=>(hb.block _ (lt_of_row r0)).trans r0⟩
 have BW:=Away.mk b0
 have HW:=Away.mk hW
 clear hW r0 b0 hWs
 by_cases h:latt k l e t a b o s=true
 rotate_left
 ·have h:latt k l e t a b o s=false:=by simpa using h
  have hVe:Away (V=.tuple #[.int .i64 0,.int .i64 0,.int .i64 0]):=⟨by rw[←HV.out];unfold szs;rw[h];rfl⟩
  rw[h]at HR0
  have HR:=Away.mk HR0
  clear HR0 h HL0
  go_enter Tryz.func20,Tryz.ntmps20
  go_wp2_with (first
   | (rw[HW.out])
   | (refine wpList_load_row rfl 37 _ rfl w.heap.size rfl 37 _ (0,0) _ (CB.out _ (Below.refl _ _)) Tryz.underlying37 rfl HCs.out ?_))
  refine(HR.out _).mono ?_
  rintro x u1 ⟨rfl,hb1⟩
  have B1:Away (Below w.heap.size w u1):=⟨BW.out.trans (hb1.mono BW.out.size)⟩
  clear hb1
  go_wp2_with fail
  go_ret3
  exact⟨by rw[hVe.out];rfl,B1.out⟩
 rw[h]at HR0
 have HR:=Away.mk HR0
 obtain⟨⟨k1,k8⟩,⟨l1,l8⟩,he,ha,⟨o1,o8⟩,hs⟩:=latt_all h
 obtain⟨E,hE⟩:∃ E:Nat,lb (2*e).toNat=E:=⟨_,rfl⟩
 obtain⟨A,hA⟩:∃ A:Nat,lb (a-1).toNat=A:=⟨_,rfl⟩
 have hE3:E=3∨E=4:=by rcases he with rfl | rfl<;>(rw[←hE];decide +kernel)
 have hA3:A=17∨A=19:=by rcases ha with rfl | rfl<;>(rw[←hA];decide +kernel)
 have hA4:lb (2*a-1).toNat=A+1:=by rcases ha with rfl | rfl<;>(rw[←hA];decide +kernel)
 obtain⟨wd,hwd⟩:∃ wd:Nat→Nat,wd=fun r=>if r=2 then 13 else E:=⟨_,rfl⟩
 have hwl:∀ r,r<3→lb (lw e r+hg e r).toNat=wd r:=fun r hr=>by
  rw[hwd]
  rcases (show r=0∨r=1∨r=2 by omega) with rfl | rfl | rfl
  ·show lb (e+e).toNat=E;rw[(lb_eta e he).1,hE]
  ·show lb (e+e).toNat=E;rw[(lb_eta e he).1,hE]
  ·exact lb_low
 have hwb:∀ r,wd r≤13:=fun r=>by rw[hwd];show (if r=2 then 13 else E)≤13;split<;>omega
 have HZ1:Away (∀ (r:Nat) (w1:World),r<3→Calls Tryz.prog 70 #[.int .i64 (lw e r+hg e r)] w1 fun x w'=>x=.returned (.int .i64 (32*(wd r:Int)))∧w'=w1):=⟨fun r w1 hr=>size_any _ _ (by have:=lw_hg e r he;omega) (hwl r hr) (by have:=hwb r;omega) w1⟩
 have HZ2:Away (∀ w1:World,Calls Tryz.prog 70 #[.int .i64 1023] w1 fun x w'=>x=.returned (.int .i64 (32*((10:Nat):Int)))∧w'=w1):=⟨fun w1=>size_any 1023 10 (by decide) lb_1023 (by decide) w1⟩
 have HZ3:Away (∀ w1:World,Calls Tryz.prog 70 #[.int .i64 (2*a-1)] w1 fun x w'=>x=.returned (.int .i64 (32*((A+1:Nat):Int)))∧w'=w1):=⟨fun w1=>size_any _ _ (by omega) hA4 (by omega) w1⟩
 obtain⟨S,hS⟩:∃ S:Nat→Int,S=fun r=>if r=0 then 128 else if r=1 then 128+l*(32*(E:Int)) else if r=2 then 128+l*(32*(E:Int))+k*(32*(E:Int)) else 128+l*(32*(E:Int))+k*(32*(E:Int))+k*416:=⟨_,rfl⟩
 have hSb:∀ r,r≤3→0≤S r∧S r≤100000:=fun r hr=>by
  rw[hS]
  have : 0≤l*(32*(E:Int))∧l*(32*(E:Int))≤1024:=by rcases hE3 with rfl | rfl<;>(constructor<;>omega)
  have : 0≤k*(32*(E:Int))∧k*(32*(E:Int))≤1024:=by rcases hE3 with rfl | rfl<;>(constructor<;>omega)
  show 0≤(if r=0 then (128:Int) else _)∧(if r=0 then (128:Int) else _)≤100000
  split
  ·omega
  ·split
   ·omega
   ·split<;>omega
 have HS0:Away (S 0=128):=⟨by rw[hS];rfl⟩
 have HStep:Away (∀ r,r<3→S r+mn k l r*(32*(wd r:Int))=S (r+1)):=⟨fun r hr=>by
  rw[hS,hwd]
  rcases (show r=0∨r=1∨r=2 by omega) with rfl | rfl | rfl<;>rfl⟩
 have hmb:∀ r,1≤mn k l r∧mn k l r≤8:=fun r=>by unfold mn;split<;>omega
 have hEl : 32*(E:Int)*(l+k)=l*(32*(E:Int))+k*(32*(E:Int)):=by rw[Int.mul_add,Int.mul_comm _ l,Int.mul_comm _ k]
 have HS3:Away (S 3=sz2 k l e):=⟨by
  rw[hS]
  show 128+l*(32*(E:Int))+k*(32*(E:Int))+k*416=_
  unfold sz2
  rw[hE,hEl]
  omega⟩
 obtain⟨N,hN⟩:∃ N:Int,32*((A+1:Nat):Int)=N:=⟨_,rfl⟩
 rw[hN]at HZ3
 obtain⟨r,hr⟩:∃ r:Int,l*N=r:=⟨_,rfl⟩
 obtain⟨d,hd⟩:∃ d:Int,s / 4=d:=⟨_,rfl⟩
 have hrb : 0≤r∧r≤5120:=by rcases hA3 with rfl | rfl<;>(rw[←hr,←hN];omega)
 have f3:IntKind.i64.wrap (k*320)=320*k:=by rw[IntKind.wrap_i64];omega
 have f4:IntKind.i64.wrap (32+320*k)=32+320*k:=by rw[IntKind.wrap_i64];omega
 have g1:s.tdiv 4=d:=by rw[Int.tdiv_eq_ediv_of_nonneg (by omega)];exact hd
 have g1':IntKind.i64.wrap (s.tdiv 4)=d:=by rw[g1,IntKind.wrap_i64];omega
 have g1'':IntKind.i64.wrap d=d:=by rw[IntKind.wrap_i64];omega
 have g2:IntKind.i64.wrap (2*a)=2*a:=by rw[IntKind.wrap_i64];omega
 have g3:IntKind.i64.wrap (2*a-1)=2*a-1:=by rw[IntKind.wrap_i64];omega
 have g5:IntKind.i64.wrap (l*N)=r:=by rw[hr,IntKind.wrap_i64];omega
 have g6:IntKind.i64.wrap (d+r)=d+r:=by rw[IntKind.wrap_i64];omega
 have g7:IntKind.i64.wrap (d+r+o)=d+r+o:=by rw[IntKind.wrap_i64];omega
 have g8:IntKind.i64.wrap (d+r+o+k)=d+r+o+k:=by rw[IntKind.wrap_i64];omega
 have hVe:Away (V=.tuple #[.int .i64 (32+320*k),.int .i64 (S 3),.int .i64 (d+r+o+k)]):=⟨by
  rw[←HV.out]
  unfold szs
  rw[if_pos h,HS3.out]
  unfold sz1 sz3
  rw[hA,hd,←hr,←hN,Int.mul_comm l]
  rfl⟩
 have HIx:Away (∀ (r:Nat),r<3→∀ w1:World,(Instr.index 102 (.agg (lst k l e)) (.int .i64 (r:Int))).run Tryz.prog w1=.ok (.agg #[.int .i64 (mn k l r),.int .i64 (lw e r),.int .i64 (hg e r)]) w1):=⟨fun r hr w1=>index_ls k l e r hr w1⟩
 have Hlo:Away (∀ r,IntKind.i64.wrap (lw e r+hg e r)=lw e r+hg e r):=⟨fun r=>by have:=lw_hg e r he;rw[IntKind.wrap_i64];omega⟩
 obtain⟨mf,hmf⟩:=ex_eq (mn k l)
 obtain⟨lf,hlf⟩:=ex_eq (lw e)
 obtain⟨gf,hgf⟩:=ex_eq (hg e)
 obtain⟨Ls,hLs⟩:=ex_eq (lst k l e)
 simp only[hmf.out,hlf.out,hgf.out,hLs.out]at HIx Hlo HZ1 HStep hmb HL0
 have HSb:=Away.mk hSb
 have Hmb:=Away.mk hmb
 have Hwb:=Away.mk hwb
 have HL:=Away.mk HL0
 clear HR0 HL0 h he ha hs hE hA hE3 hA3 hA4 hN hr hd hrb k1 k8 l1 l8 o1 o8 hwl hwb hSb hmb hS hwd HS3 hEl hmf hlf hgf hLs
 go_enter Tryz.func20,Tryz.ntmps20
 go_wp2_with (first
  | (rw[HW.out])
  | (refine wpList_load_row rfl 37 _ rfl w.heap.size rfl 37 _ (0,0) _ (CB.out _ (Below.refl _ _)) Tryz.underlying37 rfl HCs.out ?_))
 refine(HR.out _).mono ?_
 rintro x u1 ⟨rfl,hb1⟩
 have E1:Away (Below W.heap.size W u1):=⟨hb1⟩
 clear hb1
 go_wp2_with (refine wpList_load_row rfl 37 _ rfl w.heap.size rfl 37 _ (0,0) _ (CB.out _ E1.out) Tryz.underlying37 rfl HCs.out ?_)
 refine(HL.out _).mono ?_
 rintro x u2 ⟨rfl,hb2⟩
 have E2:Away (Below W.heap.size W u2):=⟨E1.out.trans (hb2.mono E1.out.size)⟩
 clear hb2
 go_wp2_with fail
 go_loopw [15,5] (fun iv sv wr=>∃ r:Nat,r≤3∧iv=.int .i64 (r:Int)∧sv=.int .i64 (S r)∧Away (Below W.heap.size W wr)) (fun iv _ _=>3-(intOf iv).toNat)
 case atStart=>exact⟨0,by decide,rfl,by rw[HS0.out],E2⟩
 case round=>
  obtain⟨i,hi,rfl,rfl,Hb⟩:=hrel
  by_cases hlt:i<3
  ·have hiz:(i:Int)<3:=by omega
   have hix:=HIx.out i hlt
   obtain⟨m,hm⟩:=ex_eq (mf i)
   obtain⟨lo,hlo⟩:=ex_eq (lf i)
   obtain⟨hi',hhi⟩:=ex_eq (gf i)
   have HSz:=Away.mk (fun w1=>HZ1.out i w1 hlt)
   have f1:=Hlo.out i
   have hst:=HStep.out i hlt
   have hb1:=HSb.out i hi
   have hb2:=HSb.out (i+1) (by omega)
   have hb3:=Hmb.out i
   have hb4:=Hwb.out i
   rw[hm.out,hlo.out,hhi.out]at hix
   rw[hlo.out,hhi.out]at f1 HSz
   rw[hm.out]at hst hb3
   obtain⟨n,hn⟩:∃ n,32*(wd i:Int)=n:=⟨_,rfl⟩
   obtain⟨p,hp⟩:∃ p,m*n=p:=⟨_,rfl⟩
   rw[hn]at HSz hst
   rw[hp]at hst
   obtain⟨s0,hs0⟩:=ex_eq (S i)
   obtain⟨s1,hs1⟩:=ex_eq (S (i+1))
   rw[hs0.out]at hst hb1 ⊢
   rw[hs1.out]at hst hb2
   have f2:IntKind.i64.wrap (m*n)=p:=by rw[hp,IntKind.wrap_i64];omega
   have f5:IntKind.i64.wrap (s0+p)=s1:=by rw[hst,IntKind.wrap_i64];omega
   clear hst hb1 hb2 hb3 hb4 hp hn
   obtain⟨W4,hW4⟩:∃ x,wr.alloc (.cells #[.int .i64 m,.int .i64 lo,.int .i64 hi'] 101)=x:=⟨_,rfl⟩
   obtain⟨r4,hs4,b4⟩:=one hW4
   have d0:W4.cell? ⟨wr.heap.size,0,none⟩=some (.int .i64 m):=cell_at r4 rfl
   have d1:W4.cell? ⟨wr.heap.size,1,none⟩=some (.int .i64 lo):=cell_at r4 rfl
   have d2:W4.cell? ⟨wr.heap.size,2,none⟩=some (.int .i64 hi'):=cell_at r4 rfl
   have B4:Away (Below W.heap.size W W4):=⟨Hb.out.trans (b4.mono Hb.out.size)⟩
   have HW4:=Away.mk hW4
   clear r4 hs4 b4 hW4
   go_wp2_with (rw[HW4.out])
   refine still_all (by kernel_rfl) (by kernel_rfl) ?_
   repeat still_step
   still_call (HSz.out _)
   repeat still_step
   refine wpStill_nil ?_
   clear d0 d1 d2
   go_wp2_with fail
   go_roundw
   case rel=>exact⟨i+1,by omega,by go_num,by rw[hs1.out],⟨B4.out.drew⟩⟩
   case measure=>simp[intOf];omega
  ·obtain rfl:i=3:=by omega
   simp only[Int.cast_ofNat_Int]
   obtain⟨s3,hs3⟩:=ex_eq (S 3)
   rw[hs3.out]at hVe ⊢
   have hc:=CB.out wr Hb.out
   have c0:wr.cell? ⟨w.heap.size,0,none⟩=some (.int .i64 k):=cell_at hc (by rw[←HC.out];rfl)
   have c1:wr.cell? ⟨w.heap.size,1,none⟩=some (.int .i64 l):=cell_at hc (by rw[←HC.out];rfl)
   have c4:wr.cell? ⟨w.heap.size,4,none⟩=some (.int .i64 a):=cell_at hc (by rw[←HC.out];rfl)
   have c6:wr.cell? ⟨w.heap.size,6,none⟩=some (.int .i64 o):=cell_at hc (by rw[←HC.out];rfl)
   have c7:wr.cell? ⟨w.heap.size,7,none⟩=some (.int .i64 s):=cell_at hc (by rw[←HC.out];rfl)
   clear hc
   go_wp2_with fail
   refine still_all (by kernel_rfl) (by kernel_rfl) ?_
   repeat still_step
   still_call (HZ2.out _)
   repeat still_step
   refine wpStill_nil ?_
   go_wp2_with fail
   refine still_all (by kernel_rfl) (by kernel_rfl) ?_
   repeat still_step
   still_call (HZ3.out _)
   repeat still_step
   refine wpStill_nil ?_
   clear c0 c1 c4 c6 c7
   go_wp2_with fail
   go_ret3
   exact⟨by rw[hVe.out];rfl,BW.out.trans ((Hb.out.drew.drew).mono BW.out.size)⟩
end ksz
namespace ken
set_option linter.unusedSimpArgs false
open Go Go.RowKit
open arr mem stil polys polt pols rbita rbitb rbitd rbite rbitf rbitg bitp rndm saml lsl11 qrow mlkm mlkb rkpb mlkd
theorem clo_pb (f:Nat→Int) (w:World):
 Calls Tryz.prog 117 #[.agg (FL .i64 256 f)] w fun e w'=>e=.returned (if inb f 1023 then .tuple #[.string (packed f 1023),.int .i64 0] else .tuple #[.string ⟨#[]⟩,.int .i64 6])∧Below w.heap.size w w':=by
 obtain⟨hz,hsize⟩:=zero_of_info polt.infoP
 have HP:=fun w1=>ppack.pack_any f 1023 w1 (by decide) (by decide)
 obtain⟨V1,V2,HV⟩:∃ (V1:ByteArray) (V2:Int),Away ((if inb f 1023 then .tuple #[.string (packed f 1023),.int .i64 0] else .tuple #[.string ⟨#[]⟩,.int .i64 6]:Value)=.tuple #[.string V1,.int .i64 V2]):=by
  by_cases h:inb f 1023
  ·exact⟨_,_,⟨if_pos h⟩⟩
  ·exact⟨_,_,⟨if_neg h⟩⟩
 rw[HV.out]at HP ⊢
 obtain⟨F,HF⟩:=ex_eq (FL .i64 256 f)
 have Fi:Away ((Tryz.prog.info? 76).map (·.size)=some F.size):=⟨by rw[←HF.out,fl_size];exact hsize⟩
 rw[HF.out]at HP ⊢
 have HP:=Away.mk HP
 obtain⟨W,hW⟩:∃ x,w.alloc (.cells F 76)=x:=⟨_,rfl⟩
 obtain⟨r0,hWs,b0⟩:=one hW
 have R0:=Away.mk r0
 have B0:=Away.mk b0
 have HW:=Away.mk hW
 clear hz hsize hW r0 hWs b0 HV
 go_enter Tryz.func117,Tryz.ntmps117
 go_wp2_with (first
  | (rw[HW.out])
  | (refine wpList_load_row rfl 76 _ rfl w.heap.size rfl 76 F (0,0) _ R0.out Tryz.underlying76 rfl Fi.out ?_))
 refine(HP.out _).mono ?_
 rintro e w5 ⟨rfl,hb5⟩
 have D5:Away (Below w.heap.size w w5):=⟨B0.out.trans (hb5.mono B0.out.size)⟩
 clear hb5
 go_wp2_with fail
 go_ret2
 exact⟨rfl,D5.out⟩
theorem clo_sb (f:Nat→Int) (gc:Nat) (low high:Int) (w:World) (h1 : 0≤low) (h2 : 1≤high) (h3:low<4190208) (h4:high<4190208) (hg:gc<w.heap.size) (hc1:w.cell? ⟨gc,1,none⟩=some (.int .i64 low)) (hc2:w.cell? ⟨gc,2,none⟩=some (.int .i64 high)):
 Calls Tryz.prog 118 #[.agg (FL .i64 256 f),.pointer (some ⟨gc,0,none⟩)] w fun e w'=>e=.returned (if ins f low high then .tuple #[.string (packed (sg f high) (low+high)),.int .i64 0] else .tuple #[.string ⟨#[]⟩,.int .i64 6])∧Below w.heap.size w w':=by
 obtain⟨hz,hsize⟩:=zero_of_info polt.infoP
 have HP:=fun w1=>psig.signed_any f low high w1 h1 h3 h2 h4
 obtain⟨V1,V2,HV⟩:∃ (V1:ByteArray) (V2:Int),Away ((if ins f low high then .tuple #[.string (packed (sg f high) (low+high)),.int .i64 0] else .tuple #[.string ⟨#[]⟩,.int .i64 6]:Value)=.tuple #[.string V1,.int .i64 V2]):=by
  by_cases h:ins f low high
  ·exact⟨_,_,⟨if_pos h⟩⟩
  ·exact⟨_,_,⟨if_neg h⟩⟩
 rw[HV.out]at HP ⊢
 obtain⟨F,HF⟩:=ex_eq (FL .i64 256 f)
 have Fi:Away ((Tryz.prog.info? 76).map (·.size)=some F.size):=⟨by rw[←HF.out,fl_size];exact hsize⟩
 rw[HF.out]at HP ⊢
 have HP:=Away.mk HP
 obtain⟨W,hW⟩:∃ x,w.alloc (.cells F 76)=x:=⟨_,rfl⟩
 obtain⟨r0,hWs,b0⟩:=one hW
 have d1:W.cell? ⟨gc,1,none⟩=some (.int .i64 low):=(b0.cell (p:=⟨gc,1,none⟩) hg).trans hc1
 have d2:W.cell? ⟨gc,2,none⟩=some (.int .i64 high):=(b0.cell (p:=⟨gc,2,none⟩) hg).trans hc2
 have R0:=Away.mk r0
 have B0:=Away.mk b0
 have HW:=Away.mk hW
 clear hz hsize hW r0 hWs b0 HV hc1 hc2 hg h1 h2 h3 h4
 go_enter Tryz.func118,Tryz.ntmps118
 go_wp2_with (first
  | (rw[HW.out])
  | (refine wpList_load_row rfl 76 _ rfl w.heap.size rfl 76 F (0,0) _ R0.out Tryz.underlying76 rfl Fi.out ?_))
 refine(HP.out _).mono ?_
 rintro e w5 ⟨rfl,hb5⟩
 have D5:Away (Below w.heap.size w w5):=⟨B0.out.trans (hb5.mono B0.out.size)⟩
 clear hb5
 go_wp2_with fail
 go_ret2
 exact⟨rfl,D5.out⟩
theorem encode_pb (s:ByteArray) (m:Nat) (v:Value) (B:Nat) (q:Nat→Nat→Int) (X:Nat→ByteArray) (ok:Nat→Prop) (V:Value) (w:World) (hm:m≤8) (hv:Holds w B v m q) (hs:s.size≤100000) (hX:∀ i,i<m→(X i).size≤1000)
 (hV1:(∀ i,i<m→ok i)→V=.tuple #[.string (cat s X m),.int .i64 0]) (hV2:∀ i,i<m→¬ ok i→V=.tuple #[.string ⟨#[]⟩,.int .i64 6])
 (HC1:∀ i,i<m→ok i→∀ w1:World,Below w.heap.size w w1→Calls Tryz.prog 117 #[.agg (FL .i64 256 (q i))] w1 fun e w'=>e=.returned (.tuple #[.string (X i),.int .i64 0])∧Below w1.heap.size w1 w')
 (HC2:∀ i,i<m→¬ ok i→∀ w1:World,Below w.heap.size w w1→Calls Tryz.prog 117 #[.agg (FL .i64 256 (q i))] w1 fun e w'=>e=.returned (.tuple #[.string ⟨#[]⟩,.int .i64 6])∧Below w1.heap.size w1 w'):
 Calls Tryz.prog 116 #[.string s,v,.func (.func 117) #[] #[]] w fun e w'=>e=.returned V∧Below w.heap.size w w':=by
 obtain⟨hz,hsize⟩:=zero_of_info polt.infoP
 have Hsize:=Away.mk hsize
 obtain⟨g,c,hvs,-⟩:=hd_any hv
 have Hv:=Away.mk hv
 have HC1:=Away.mk HC1
 have HC2:=Away.mk HC2
 have HV1:=Away.mk hV1
 have HV2:=Away.mk hV2
 have HX:=Away.mk hX
 have Hs:=Away.mk hs
 have Hcs:Away (∀ r,r≤m→(cat s X r).size≤100000+1000*r):=⟨fun r hr=>by
  induction r with
  | zero=>show s.size≤_;omega
  | succ r ih=>
   have h1:=ih (by omega)
   have h2:=hX r (by omega)
   rw[cat,ByteArray.size_append]
   omega⟩
 subst hvs
 clear hv hz hsize hV1 hV2 hX hs
 go_enter Tryz.func116,Tryz.ntmps116
 go_wp2_with fail
 go_loopw [13,0] (fun iv sv wr=>∃ r:Nat,r≤m∧iv=.int .i64 (r:Int)∧sv=.string (cat s X r)∧Away (∀ i,i<r→ok i)∧Away (Below w.heap.size w wr)) (fun iv _ _=>m-(intOf iv).toNat)
 case atStart=>exact⟨0,Nat.zero_le _,rfl,rfl,⟨fun i hi=>by omega⟩,⟨Below.refl _ _⟩⟩
 case round=>
  obtain⟨r,hr,rfl,rfl,Hin,Hb⟩:=hrel
  by_cases hlt:r<m
  ·have hrz2:(r:Int)<(m:Int):=by omega
   have hr8:r<8:=by omega
   have hrg:=hd_row (Hv.out.later Hb.out) r hlt
   have HCa:=HC1.out r hlt
   have HCb:=HC2.out r hlt
   obtain⟨F,HF⟩:=ex_eq (FL .i64 256 (q r))
   obtain⟨o6,ho6⟩:∃ o6,r*256=o6:=⟨_,rfl⟩
   rw[HF.out,ho6]at hrg
   rw[HF.out]at HCa HCb
   have Hrg:=Away.mk hrg
   have Fi:Away ((Tryz.prog.info? 76).map (·.size)=some F.size):=⟨by rw[←HF.out,fl_size];exact Hsize.out⟩
   obtain⟨S,HS⟩:=ex_eq (cat s X r)
   have HSs:Away (S.size≤108000):=⟨by rw[←HS.out];have:=Hcs.out r hr;omega⟩
   rw[HS.out]
   have Hlt:=Away.mk hlt
   clear hrg
   by_cases hok:ok r
   ·have HPk:=Away.mk (fun w1 hb=>HCa hok w1 hb)
    have Hcat:Away (S++X r=cat s X (r+1)):=⟨by rw[←HS.out,cat]⟩
    have hxs:=HX.out r hlt
    obtain⟨Y,HY⟩:=ex_eq (X r)
    rw[HY.out]at HPk Hcat hxs
    have hsz:¬ 9223372036854775807<S.size+Y.size:=by have:=HSs.out;omega
    have Hin2:Away (∀ i,i<r+1→ok i):=⟨fun i hi=>by
     by_cases e:i=r
     ·rw[e];exact hok
     ·exact Hin.out i (by omega)⟩
    clear hok HCa HCb hxs
    go_wp2_with (first
     | ((with_reducible refine wpList_load_mid rfl 76 _ rfl g o6 ?hx F.toList _ Hrg.out Tryz.underlying76 rfl ?hi ?_);(case hx=>rfl);(case hi=>rw[Array.length_toList];exact Fi.out)))
    refine(HPk.out _ Hb.out).mono ?_
    rintro e w5 ⟨rfl,hb5⟩
    have D5:Away (Below w.heap.size w w5):=⟨Hb.out.trans (hb5.mono Hb.out.size)⟩
    clear hb5
    go_wp2_with fail
    go_roundw
    case rel=>exact⟨r+1,by have:=Hlt.out;omega,by go_num,by rw[Hcat.out],Hin2,D5⟩
    case measure=>have:=Hlt.out;simp[intOf];omega
   ·have HPk:=Away.mk (fun w1 hb=>HCb hok w1 hb)
    have hVe:Away (V=.tuple #[.string ⟨#[]⟩,.int .i64 6]):=⟨HV2.out r hlt hok⟩
    clear hok HCa HCb
    go_wp2_with (first
     | ((with_reducible refine wpList_load_mid rfl 76 _ rfl g o6 ?hx F.toList _ Hrg.out Tryz.underlying76 rfl ?hi ?_);(case hx=>rfl);(case hi=>rw[Array.length_toList];exact Fi.out)))
    refine(HPk.out _ Hb.out).mono ?_
    rintro e w5 ⟨rfl,hb5⟩
    have D5:Away (Below w.heap.size w w5):=⟨Hb.out.trans (hb5.mono Hb.out.size)⟩
    clear hb5
    go_wp2_with fail
    go_ret2
    exact⟨by rw[hVe.out];rfl,D5.out⟩
  ·obtain rfl:r=m:=by omega
   have hVe:Away (V=.tuple #[.string (cat s X r),.int .i64 0]):=⟨HV1.out fun i hi=>Hin.out i hi⟩
   obtain⟨S,HS⟩:=ex_eq (cat s X r)
   rw[HS.out]at hVe ⊢
   go_wp2_with fail
   go_ret2
   exact⟨by rw[hVe.out];rfl,Hb.out⟩
theorem encode_sb (gc:Nat) (s:ByteArray) (m:Nat) (v:Value) (B:Nat) (q:Nat→Nat→Int) (X:Nat→ByteArray) (ok:Nat→Prop) (V:Value) (w:World) (hm:m≤8) (hv:Holds w B v m q) (hs:s.size≤100000) (hX:∀ i,i<m→(X i).size≤1000)
 (hV1:(∀ i,i<m→ok i)→V=.tuple #[.string (cat s X m),.int .i64 0]) (hV2:∀ i,i<m→¬ ok i→V=.tuple #[.string ⟨#[]⟩,.int .i64 6])
 (HC1:∀ i,i<m→ok i→∀ w1:World,Below w.heap.size w w1→Calls Tryz.prog 118 #[.agg (FL .i64 256 (q i)),.pointer (some ⟨gc,0,none⟩)] w1 fun e w'=>e=.returned (.tuple #[.string (X i),.int .i64 0])∧Below w1.heap.size w1 w')
 (HC2:∀ i,i<m→¬ ok i→∀ w1:World,Below w.heap.size w w1→Calls Tryz.prog 118 #[.agg (FL .i64 256 (q i)),.pointer (some ⟨gc,0,none⟩)] w1 fun e w'=>e=.returned (.tuple #[.string ⟨#[]⟩,.int .i64 6])∧Below w1.heap.size w1 w'):
 Calls Tryz.prog 116 #[.string s,v,.func (.func 118) #[] #[.pointer (some ⟨gc,0,none⟩)]] w fun e w'=>e=.returned V∧Below w.heap.size w w':=by
 obtain⟨hz,hsize⟩:=zero_of_info polt.infoP
 have Hsize:=Away.mk hsize
 obtain⟨g,c,hvs,-⟩:=hd_any hv
 have Hv:=Away.mk hv
 have HC1:=Away.mk HC1
 have HC2:=Away.mk HC2
 have HV1:=Away.mk hV1
 have HV2:=Away.mk hV2
 have HX:=Away.mk hX
 have Hs:=Away.mk hs
 have Hcs:Away (∀ r,r≤m→(cat s X r).size≤100000+1000*r):=⟨fun r hr=>by
  induction r with
  | zero=>show s.size≤_;omega
  | succ r ih=>
   have h1:=ih (by omega)
   have h2:=hX r (by omega)
   rw[cat,ByteArray.size_append]
   omega⟩
 subst hvs
 clear hv hz hsize hV1 hV2 hX hs
 go_enter Tryz.func116,Tryz.ntmps116
 go_wp2_with fail
 go_loopw [13,0] (fun iv sv wr=>∃ r:Nat,r≤m∧iv=.int .i64 (r:Int)∧sv=.string (cat s X r)∧Away (∀ i,i<r→ok i)∧Away (Below w.heap.size w wr)) (fun iv _ _=>m-(intOf iv).toNat)
 case atStart=>exact⟨0,Nat.zero_le _,rfl,rfl,⟨fun i hi=>by omega⟩,⟨Below.refl _ _⟩⟩
 case round=>
  obtain⟨r,hr,rfl,rfl,Hin,Hb⟩:=hrel
  by_cases hlt:r<m
  ·have hrz2:(r:Int)<(m:Int):=by omega
   have hr8:r<8:=by omega
   have hrg:=hd_row (Hv.out.later Hb.out) r hlt
   have HCa:=HC1.out r hlt
   have HCb:=HC2.out r hlt
   obtain⟨F,HF⟩:=ex_eq (FL .i64 256 (q r))
   obtain⟨o6,ho6⟩:∃ o6,r*256=o6:=⟨_,rfl⟩
   rw[HF.out,ho6]at hrg
   rw[HF.out]at HCa HCb
   have Hrg:=Away.mk hrg
   have Fi:Away ((Tryz.prog.info? 76).map (·.size)=some F.size):=⟨by rw[←HF.out,fl_size];exact Hsize.out⟩
   obtain⟨S,HS⟩:=ex_eq (cat s X r)
   have HSs:Away (S.size≤108000):=⟨by rw[←HS.out];have:=Hcs.out r hr;omega⟩
   rw[HS.out]
   have Hlt:=Away.mk hlt
   clear hrg
   by_cases hok:ok r
   ·have HPk:=Away.mk (fun w1 hb=>HCa hok w1 hb)
    have Hcat:Away (S++X r=cat s X (r+1)):=⟨by rw[←HS.out,cat]⟩
    have hxs:=HX.out r hlt
    obtain⟨Y,HY⟩:=ex_eq (X r)
    rw[HY.out]at HPk Hcat hxs
    have hsz:¬ 9223372036854775807<S.size+Y.size:=by have:=HSs.out;omega
    have Hin2:Away (∀ i,i<r+1→ok i):=⟨fun i hi=>by
     by_cases e:i=r
     ·rw[e];exact hok
     ·exact Hin.out i (by omega)⟩
    clear hok HCa HCb hxs
    go_wp2_with (first
     | ((with_reducible refine wpList_load_mid rfl 76 _ rfl g o6 ?hx F.toList _ Hrg.out Tryz.underlying76 rfl ?hi ?_);(case hx=>rfl);(case hi=>rw[Array.length_toList];exact Fi.out)))
    refine(HPk.out _ Hb.out).mono ?_
    rintro e w5 ⟨rfl,hb5⟩
    have D5:Away (Below w.heap.size w w5):=⟨Hb.out.trans (hb5.mono Hb.out.size)⟩
    clear hb5
    go_wp2_with fail
    go_roundw
    case rel=>exact⟨r+1,by have:=Hlt.out;omega,by go_num,by rw[Hcat.out],Hin2,D5⟩
    case measure=>have:=Hlt.out;simp[intOf];omega
   ·have HPk:=Away.mk (fun w1 hb=>HCb hok w1 hb)
    have hVe:Away (V=.tuple #[.string ⟨#[]⟩,.int .i64 6]):=⟨HV2.out r hlt hok⟩
    clear hok HCa HCb
    go_wp2_with (first
     | ((with_reducible refine wpList_load_mid rfl 76 _ rfl g o6 ?hx F.toList _ Hrg.out Tryz.underlying76 rfl ?hi ?_);(case hx=>rfl);(case hi=>rw[Array.length_toList];exact Fi.out)))
    refine(HPk.out _ Hb.out).mono ?_
    rintro e w5 ⟨rfl,hb5⟩
    have D5:Away (Below w.heap.size w w5):=⟨Hb.out.trans (hb5.mono Hb.out.size)⟩
    clear hb5
    go_wp2_with fail
    go_ret2
    exact⟨by rw[hVe.out];rfl,D5.out⟩
  ·obtain rfl:r=m:=by omega
   have hVe:Away (V=.tuple #[.string (cat s X r),.int .i64 0]):=⟨HV1.out fun i hi=>Hin.out i hi⟩
   obtain⟨S,HS⟩:=ex_eq (cat s X r)
   rw[HS.out]at hVe ⊢
   go_wp2_with fail
   go_ret2
   exact⟨by rw[hVe.out];rfl,Hb.out⟩
end ken
namespace kde
set_option linter.unusedSimpArgs false
open Go Go.RowKit
open arr mem stil polys polt pols rbita rbitb rbitd rbite rbitf rbitg bitp rndm saml lsl11 qrow mlkm mlkb rkpb mlkd
theorem unsigned_any (s:ByteArray) (low high:Int) (w:World) (h1 : 0≤low) (h2 : 1≤high) (h3:low<4190208) (h4:high<4190208) (hs:s.size=32*lb (low+high).toNat):
 Calls Tryz.prog 108 #[.string s,.int .i64 low,.int .i64 high] w fun e w'=>e=.returned (if inb (up s (lb (low+high).toNat)) (low+high) then .tuple #[.agg (FL .i64 256 (un (up s (lb (low+high).toNat)) high)),.int .i64 0] else .tuple #[.agg (FL .i64 256 fun _=>0),.int .i64 3])∧Below w.heap.size w w':=by
 have hu:=fun w1=>punp.unpack_any s (low+high) w1 (by omega) (by omega) hs
 by_cases hin:inb (up s (lb (low+high).toNat)) (low+high)
 ·simp only[if_pos hin]at hu ⊢
  exact puns.unsigned_good s low high w _ h1 h2 h3 h4 hin hu
 ·simp only[if_neg hin]at hu ⊢
  exact puns.unsigned_err s low high w 3 h1 h2 h3 h4 (by decide) hu
theorem clo_se (x:ByteArray) (gc:Nat) (low high:Int) (w:World) (V:Array Value) (c:Int) (hVs:V.size=256) (hVo:V.all (·.oneCell')=true) (hg:gc<w.heap.size) (hc1:w.cell? ⟨gc,1,none⟩=some (.int .i64 low)) (hc2:w.cell? ⟨gc,2,none⟩=some (.int .i64 high))
 (HP:∀ w1:World,Calls Tryz.prog 108 #[.string x,.int .i64 low,.int .i64 high] w1 fun e w'=>e=.returned (.tuple #[.agg V,.int .i64 c])∧Below w1.heap.size w1 w'):
 Calls Tryz.prog 162 #[.string x,.pointer (some ⟨gc,0,none⟩)] w fun e w'=>e=.returned (.tuple #[.agg V,.int .i64 c])∧Below w.heap.size w w':=by
 obtain⟨hz,hsize⟩:=zero_of_info polt.infoP
 obtain⟨z,HZ⟩:=ex_eq (FL .i64 256 fun _=>0)
 rw[HZ.out]at hz
 have Hzs:Away (z.size=256):=⟨by rw[←HZ.out];exact fl_size _ _ _⟩
 have Vi:Away ((Tryz.prog.info? 76).map (·.size)=some V.size):=⟨by rw[hVs];exact hsize⟩
 have Vz:Away (z.size=V.size):=⟨by rw[Hzs.out,hVs]⟩
 have Vo:=Away.mk hVo
 have HP:=Away.mk HP
 obtain⟨W,hW⟩:∃ x,w.alloc (.cells z 76)=x:=⟨_,rfl⟩
 obtain⟨r0,hWs,b0⟩:=one hW
 have d1:W.cell? ⟨gc,1,none⟩=some (.int .i64 low):=(b0.cell (p:=⟨gc,1,none⟩) hg).trans hc1
 have d2:W.cell? ⟨gc,2,none⟩=some (.int .i64 high):=(b0.cell (p:=⟨gc,2,none⟩) hg).trans hc2
 have R0:Away (W.heap[w.heap.size]? = some (.cells z 76 (0,0))):=⟨r0⟩
 have B0:=Away.mk b0
 have HW:=Away.mk hW
 clear hsize hW r0 b0 hVs hVo HZ hc1 hc2 hWs hg
 go_enter Tryz.func162,Tryz.ntmps162
 go_wp2_with (rw[HW.out])
 refine(HP.out _).mono ?_
 rintro e w5 ⟨rfl,hb5⟩
 have D5:Away (Below w.heap.size w w5):=⟨B0.out.trans (hb5.mono B0.out.size)⟩
 have R5:Away (w5.heap[w.heap.size]? = some (.cells z 76 (0,0))):=⟨(hb5.block _ (lt_of_row R0.out)).trans R0.out⟩
 clear hb5
 go_wp2_with (refine wpList_store_row rfl 76 _ _ rfl w.heap.size V rfl rfl 76 _ R5.out Vi.out Vz.out Vo.out ?_)
 refine bodyPost_ret_by (v:=.tuple #[.agg V,.int .i64 c]) (rbite.results_cell_tmp rfl _ _ w.heap.size 76 _ (0,0) _ rfl (setRow_heap _ _ _ _ _ _ R5.out) Tryz.underlying76 rfl Vi.out _ rfl) rfl ?_
 exact⟨rfl,D5.out.trans (below_setRow _ _ _ (Nat.le_refl _))⟩
theorem decode_se (gc:Nat) (s:ByteArray) (m n:Nat) (q:Nat→Nat→Int) (ok:Nat→Prop) (w:World) (hm : 1≤m∧m≤8) (hn:n≤1000) (hs:s.size=m*n)
 (HC1:∀ i,i<m→ok i→∀ w1:World,Below w.heap.size w w1→Calls Tryz.prog 162 #[.string (s.extract (i*n) ((i+1)*n)),.pointer (some ⟨gc,0,none⟩)] w1 fun e w'=>e=.returned (.tuple #[.agg (FL .i64 256 (q i)),.int .i64 0])∧Below w1.heap.size w1 w')
 (HC2:∀ i,i<m→¬ ok i→∀ w1:World,Below w.heap.size w w1→Calls Tryz.prog 162 #[.string (s.extract (i*n) ((i+1)*n)),.pointer (some ⟨gc,0,none⟩)] w1 fun e w'=>e=.returned (.tuple #[.agg (FL .i64 256 fun _=>0),.int .i64 3])∧Below w1.heap.size w1 w'):
 Calls Tryz.prog 73 #[.string s,.int .i64 (m:Int),.func (.func 162) #[] #[.pointer (some ⟨gc,0,none⟩)]] w fun x w'=>(((∀ i,i<m→ok i)∧∃ v,x=.returned (.tuple #[v,.int .i64 0])∧Holds w' w.heap.size v m q)∨((¬ ∀ i,i<m→ok i)∧x=.returned (.tuple #[.slice none 0 0,.int .i64 3])))∧Below w.heap.size w w':=by
 obtain⟨i0,hi,hz0,hz1,hz2⟩:=rbitb.parts infoPoly
 obtain⟨hz,hsize⟩:=zero_of_info polt.infoP
 obtain⟨z,HZ⟩:=ex_eq (FL .i64 256 fun _=>0)
 rw[HZ.out]at hz hz0
 have HI:=Away.mk (And.intro hi (And.intro hz0 (And.intro hz1 hz2)))
 have Hzs:Away (z.size=256):=⟨by rw[←HZ.out];exact fl_size _ _ _⟩
 have Hsize:=Away.mk hsize
 have hm1:=hm.1
 have hm8:=hm.2
 have hmz:((m:Int)==0)=false:=by simp;omega
 have hmz2:¬ (m:Int)=0:=by omega
 have hmn:m*n≤8000:=Nat.le_trans (Nat.mul_le_mul hm.2 hn) (by decide)
 have hdiv:(s.size:Int).tdiv (m:Int)=(n:Int):=by
  rw[hs,Int.tdiv_eq_ediv_of_nonneg (by omega)]
  push_cast
  exact Int.mul_ediv_cancel_left _ hmz2
 have hde:(s.size:Int) / (m:Int)=(n:Int):=by
  rw[←hdiv,Int.tdiv_eq_ediv_of_nonneg (by omega)]
 have hdw:IntKind.i64.wrap ((s.size:Int) / (m:Int))=(n:Int):=by rw[hde,IntKind.wrap_i64];omega
 have HC1:=Away.mk HC1
 have HC2:=Away.mk HC2
 have Hs:=Away.mk hs
 have Hmn:=Away.mk hmn
 have Hm:=Away.mk hm
 have hn0 : 0≤(n:Int):=by omega
 clear hi hz0 hz1 hz2 hsize hs hmn hm hdiv hde
 go_enter Tryz.func73,Tryz.ntmps73
 go_wp2_with (at_make;refine wpList_make_full _ rfl (.tmp 13) (.tmp 13) 44 rfl w.heap.size 76 i0 (.agg z) 256 Tryz.underlying44 HI.out.1 HI.out.2.1 HI.out.2.2.1 .i64 .i64 m m m rfl rfl rfl rfl (by rw[HI.out.2.2.2];omega) (by unfold maxLen;omega) (Nat.le_refl _) ?_)
 intro w5 hown hgr
 obtain⟨hrow,hb5⟩:=made_row HZ.out hown hgr
 obtain⟨g,hg⟩:∃ x,w.heap.size=x:=⟨_,rfl⟩
 rw[hg]at hrow ⊢
 have A5:Away (At g (RW m (fst q 0)) 76 w5 w5):=⟨by rw[fst_zero];exact At.refl hrow⟩
 have B5:Away (Below w.heap.size w w5):=⟨hb5⟩
 have Hg:=Away.mk hg
 clear hown hgr hrow hb5 hg
 go_wp2_with fail
 go_loopw [21] (fun v wr=>∃ r:Nat,r≤m∧v=.int .i64 (r:Int)∧Away (∀ i,i<r→ok i)∧Away (At g (RW m (fst q r)) 76 w5 wr)) (fun v _=>m-(intOf v).toNat)
 case atStart=>exact⟨0,Nat.zero_le _,rfl,⟨fun i hi=>by omega⟩,A5⟩
 case round=>
  clear A5
  obtain⟨r,hr,rfl,Hin,A0⟩:=hrel
  have BU:Away (Below w.heap.size w wr):=⟨B5.out.trans (A0.out.below B5.out.size (Nat.le_of_eq Hg.out))⟩
  by_cases hlt:r<m
  ·have hrz:(r:Int)<(m:Int):=by omega
   have hr8:r<8:=by omega
   have hmul:(r+1)*n≤m*n:=Nat.mul_le_mul_right n hlt
   have hsplit:(r+1)*n=r*n+n:=Nat.succ_mul r n
   have HCa:=HC1.out r hlt
   have HCb:=HC2.out r hlt
   obtain⟨p,hp⟩:∃ p,r*n=p:=⟨_,rfl⟩
   obtain⟨p2,hp2⟩:∃ p2,(r+1)*n=p2:=⟨_,rfl⟩
   rw[hp,hp2]at HCa HCb
   have hps:p2≤s.size:=by have:=Hs.out;omega
   have hpp:p≤p2:=by omega
   have hpz:p2≤8000:=by have:=Hmn.out;omega
   have f1:IntKind.i64.wrap ((r:Int)*(n:Int))=(p:Int):=by rw[show (r:Int)*(n:Int)=((r*n:Nat):Int) by push_cast;rfl,hp,IntKind.wrap_i64];omega
   have f2:IntKind.i64.wrap (((r:Int)+1)*(n:Int))=(p2:Int):=by rw[show ((r:Int)+1)*(n:Int)=(((r+1)*n:Nat):Int) by push_cast;rfl,hp2,IntKind.wrap_i64];omega
   obtain⟨X,HX⟩:=ex_eq (s.extract p p2)
   have hex:=HX.out
   rw[HX.out]at HCa HCb
   have Hlt:=Away.mk hlt
   clear hmul hsplit hp hp2
   by_cases hok:ok r
   ·have HCr:=Away.mk (HCa hok)
    have Hin2:Away (∀ i,i<r+1→ok i):=⟨fun i hi=>by
     by_cases e:i=r
     ·rw[e];exact hok
     ·exact Hin.out i (by omega)⟩
    obtain⟨F,HF⟩:=ex_eq (FL .i64 256 (q r))
    rw[HF.out]at HCr
    have Fs:Away (F.size=256):=⟨by rw[←HF.out];exact fl_size _ _ _⟩
    have Fo:Away (F.all (·.oneCell')=true):=⟨by rw[←HF.out];exact fl_one _ _ _⟩
    have Fi:Away ((Tryz.prog.info? 76).map (·.size)=some F.size):=⟨by rw[Fs.out];exact Hsize.out⟩
    have Fz:Away (z.size=F.size):=⟨by rw[Hzs.out,Fs.out]⟩
    have Hup:Away (ups (fst q r) r (q r)=fst q (r+1)):=⟨ups_fst q r⟩
    obtain⟨o6,ho6⟩:∃ o6,r*256=o6:=⟨_,rfl⟩
    have Ho6:=Away.mk ho6
    clear hok HCa HCb
    go_wp2_with fail
    refine(HCr.out _ BU.out).mono ?_
    rintro e w3 ⟨rfl,hb3⟩
    obtain⟨W4,hW4⟩:∃ x,w3.alloc (.cells F 76)=x:=⟨_,rfl⟩
    obtain⟨r4,hs4,b4⟩:=one hW4
    have R4:=Away.mk r4
    have A4:Away (At g (RW m (fst q r)) 76 w5 W4):=⟨A0.out.later (hb3.trans (b4.mono hb3.size))⟩
    have HW4:=Away.mk hW4
    clear hb3 hW4 r4 hs4 b4
    go_wp2_with (first
     | (refine wpList_store_new rfl 76 _ _ rfl F rfl rfl Fi.out (by exact Fz.out) Fo.out rfl ?_)
     | (rw[HW4.out])
     | (refine wpList_load_row rfl 76 _ rfl w3.heap.size rfl 76 F (0,0) _ R4.out Tryz.underlying76 rfl Fi.out ?_)
     | ((with_reducible refine wpList_putp A4 HF.out Hlt.out Ho6.out rfl _ _ rfl rfl ?hx ?hy ?_);(case hx=>exact rfl);(case hy=>exact rfl);intro w7 A7;rw[Hup.out]at A7))
    go_roundw
    case rel=>exact⟨r+1,by have:=Hlt.out;omega,by go_num,Hin2,A7⟩
    case measure=>have:=Hlt.out;simp[intOf];omega
   ·have HCr:=Away.mk (HCb hok)
    rw[HZ.out]at HCr
    have Zi:Away ((Tryz.prog.info? 76).map (·.size)=some z.size):=⟨by rw[Hzs.out];exact Hsize.out⟩
    have Zo:Away (z.all (·.oneCell')=true):=⟨by rw[←HZ.out];exact fl_one _ _ _⟩
    have Hno:Away (¬ ∀ i,i<m→ok i):=⟨fun h=>hok (h r Hlt.out)⟩
    clear hok HCa HCb
    go_wp2_with fail
    refine(HCr.out _ BU.out).mono ?_
    rintro e w3 ⟨rfl,hb3⟩
    obtain⟨W4,hW4⟩:∃ x,w3.alloc (.cells z 76)=x:=⟨_,rfl⟩
    obtain⟨r4,hs4,b4⟩:=one hW4
    have B4:Away (Below w.heap.size w W4):=⟨BU.out.trans ((hb3.trans (b4.mono hb3.size)).mono BU.out.size)⟩
    have HW4:=Away.mk hW4
    clear hb3 hW4 r4 hs4 b4
    go_wp2_with (first
     | (refine wpList_store_new rfl 76 _ _ rfl z rfl rfl Zi.out rfl Zo.out rfl ?_)
     | (rw[HW4.out]))
    go_ret2
    exact⟨Or.inr ⟨Hno.out,rfl⟩,B4.out⟩
  ·obtain rfl:r=m:=by omega
   have HH:Away (Holds wr w.heap.size (.slice (some ⟨g,0,none⟩) r r) r q):=⟨row_holds A0.out.row (Nat.le_of_eq Hg.out) (fun i hi=>fst_lt q r i hi)⟩
   clear A0
   go_wp2_with fail
   go_ret2
   exact⟨Or.inl ⟨Hin.out,_,rfl,HH.out⟩,BU.out⟩
end kde
namespace krw
set_option linter.unusedSimpArgs false
open Go Go.RowKit
open arr mem stil polys polt pols rbitb nttl saml qrow mlkm rkpb rkrw
theorem reg_below {w w':World} (hC:∃ p:Regrown,w'=Go.Sort.grow (redrawn w p.d) p.os):Below w.heap.size w w':=by
 obtain⟨pp,rfl⟩:=hC
 exact below_regrown _ _ _
theorem rows_any (T:Array Value) (Z:Nat→Int) (R nv:Nat) (n:Nat→Nat) (x:Nat→Nat→Nat→Int) (y:Nat→Nat→Int) (v vv:Value) (B:Nat) (w:World) (hTs:T.size=465) (hT:nthere.ZT T Z) (hR : 1≤R∧R≤8) (hn:∀ r,r<R→n r≤8) (hv : 1≤nv∧nv≤8)
 (HM:MX w v R n x) (HV:Holds w B vv nv y):
 Calls Tryz.prog 32 #[.agg T,v,vv] w fun e w'=>(∃ v',e=.returned v'∧Holds w' w.heap.size v' R (fun r=>rowv (fun k=>Z k%8380417) (x r) y (min (n r) nv)))∧Below w.heap.size w w':=by
 obtain⟨ζ,hζ⟩:=ex_eq (fun k=>Z k%8380417)
 have HTh:Away (∀ (f:Nat→Int) (w1:World),Calls Tryz.prog 79 #[.agg T,.agg (FL .i64 256 f)] w1 fun e w'=>e=.returned (.agg (FL .i64 256 (thereR ζ 8 f)))∧Below w1.heap.size w1 w'):=⟨fun f w1=>by rw[←hζ.out];exact nthere.there_any T Z f w1 hT⟩
 have HBk:Away (∀ (f:Nat→Int) (w1:World),Calls Tryz.prog 82 #[.agg T,.agg (FL .i64 256 f)] w1 fun e w'=>e=.returned (.agg (FL .i64 256 (fun i=>(backR ζ 8 f i*8347681)%8380417)))∧Below w1.heap.size w1 w'):=⟨fun f w1=>by rw[←hζ.out];exact nback.back_any T Z f w1 hT⟩
 have HTm:=Away.mk ntimes.times_any
 have HAd:=Away.mk fadd.add_any
 rw[hζ.out]
 have HTz:Away ((Tryz.prog.info? 34).map (·.size)=some T.size):=⟨by rw[hTs];kernel_rfl⟩
 obtain⟨i0,hi,hz0,hz1,hz2⟩:=parts infoPoly
 obtain⟨hz,hsize⟩:=zero_of_info polt.infoP
 obtain⟨z,HZ⟩:=ex_eq (FL .i64 256 fun _=>0)
 rw[HZ.out]at hz hz0
 have HI:=Away.mk (And.intro hi (And.intro hz0 (And.intro hz1 hz2)))
 have Hzs:Away (z.size=256):=⟨by rw[←HZ.out];exact fl_size _ _ _⟩
 have Hsize:=Away.mk hsize
 obtain⟨G,C,rfl,hG,hrows⟩:=HM
 obtain⟨gv,cv,rfl,hgv⟩:=hd_any HV
 have HRows:=Away.mk hrows
 have HVv:=Away.mk HV
 have HGv:=Away.mk (And.intro hG hgv)
 have Hn:=Away.mk hn
 have Hv:=Away.mk hv
 have hnv8:=hv.2
 have hR8:=hR.2
 obtain⟨th,hth⟩:=ex_eq (fun j=>thereR ζ 8 (y j))
 have Hth:Away (∀ j,thereR ζ 8 (y j)=th j):=⟨fun j=>by rw[←hth.out]⟩
 obtain⟨res,hres⟩:=ex_eq (fun r=>rowv ζ (x r) y (min (n r) nv))
 have Hres:Away (∀ r k,(backR ζ 8 (rsum (x r) th (min (n r) nv)) k*8347681)%8380417=res r k):=⟨fun r k=>by rw[←hres.out,←hth.out];rfl⟩
 rw[hres.out]
 obtain⟨W,hW⟩:∃ a,w.alloc (.cells T 34)=a:=⟨_,rfl⟩
 obtain⟨r0,hWs,b0⟩:=one hW
 have T0:Away (W.heap[w.heap.size]? = some (.cells T 34 (0,0))):=⟨r0⟩
 have BW:=Away.mk b0
 have HWs:=Away.mk hWs
 have HW:=Away.mk hW
 clear hW r0 b0 hWs hi hz0 hz1 hz2 hsize hrows HV hn hv hR hth hres hζ hG hgv hT hTs
 go_enter Tryz.func32,Tryz.ntmps32
 go_wp2_with (first
  | (rw[HW.out])
  | (at_make;refine wpList_make_full _ rfl (.tmp 15) (.tmp 15) 44 rfl W.heap.size 76 i0 (.agg z) 256 Tryz.underlying44 HI.out.1 HI.out.2.1 HI.out.2.2.1 .i64 .i64 nv nv nv rfl rfl rfl rfl (by rw[HI.out.2.2.2];omega) (by unfold maxLen;omega) (Nat.le_refl _) ?_))
 intro w3 hown hgr
 obtain⟨hrow,hb3⟩:=made_row HZ.out hown hgr
 obtain⟨gt,hgt⟩:∃ a,W.heap.size=a:=⟨_,rfl⟩
 rw[hgt]at hrow ⊢
 have A3:Away (At gt (RW nv (fst th 0)) 76 w3 w3):=⟨by rw[fst_zero];exact At.refl hrow⟩
 have B3:Away (Below W.heap.size W w3):=⟨hb3⟩
 have Hgt:=Away.mk hgt
 clear hown hgr hrow hb3 hgt
 go_wp2_with fail
 go_loopw [19] (fun iv wr=>∃ r:Nat,r≤nv∧iv=.int .i64 (r:Int)∧Away (At gt (RW nv (fst th r)) 76 w3 wr)) (fun iv _=>nv-(intOf iv).toNat)
 case atStart=>exact⟨0,Nat.zero_le _,rfl,A3⟩
 case round=>
  clear A3
  obtain⟨r,hr,rfl,A0⟩:=hrel
  have BU:Away (Below W.heap.size W wr):=⟨B3.out.trans (A0.out.below B3.out.size (Nat.le_of_eq Hgt.out))⟩
  have BE:Away (Below w.heap.size w wr):=⟨BW.out.trans (BU.out.mono BW.out.size)⟩
  by_cases hlt:r<nv
  ·have hrz:(r:Int)<(nv:Int):=by omega
   have hr8:r<8:=by omega
   have hrg:=hd_row (HVv.out.later BE.out) r hlt
   obtain⟨F,HF⟩:=ex_eq (FL .i64 256 (y r))
   obtain⟨o6,ho6⟩:∃ o6,r*256=o6:=⟨_,rfl⟩
   rw[HF.out,ho6]at hrg
   have Hrg:Away (∀ w':World,Below wr.heap.size wr w'→w'.rangeAt gv o6 F.toList):=⟨fun w' hb'=>range_later hrg (Nat.lt_of_lt_of_le HGv.out.2 BE.out.size) hb'⟩
   have Fi:Away ((Tryz.prog.info? 76).map (·.size)=some F.toList.length):=⟨by rw[Array.length_toList,←HF.out,fl_size];exact Hsize.out⟩
   have T1:Away (wr.heap[w.heap.size]? = some (.cells T 34 (0,0))):=⟨(BU.out.block _ (lt_of_row T0.out)).trans T0.out⟩
   have HTr:Away (∀ w1:World,Calls Tryz.prog 79 #[.agg T,.agg F] w1 fun e w'=>e=.returned (.agg (FL .i64 256 (th r)))∧Below w1.heap.size w1 w'):=⟨fun w1=>by rw[←HF.out,←Hth.out];exact HTh.out (y r) w1⟩
   obtain⟨E,HE⟩:=ex_eq (FL .i64 256 (th r))
   rw[HE.out]at HTr
   have Hup:Away (ups (fst th r) r (th r)=fst th (r+1)):=⟨ups_fst th r⟩
   have Hlt:=Away.mk hlt
   have Ho6:=Away.mk ho6
   clear hrg hlt HF
   go_wp2_with fail
   refine qtail.region_below_tail 8 (by kernel_rfl) (by kernel_rfl) ?_
   iterate 2 (quiet_step (skip))
   refine wpQuiet_load rfl 34 _ rfl _ rfl 34 _ _ (fun w' hC=>heap_regrown T1.out hC) Tryz.underlying34 rfl HTz.out ?_
   iterate 3 (quiet_step (skip))
   refine wpQuiet_load_mid rfl 76 _ rfl gv o6 rfl F.toList _ (fun w' hC=>Hrg.out w' (reg_below hC)) Tryz.underlying76 rfl Fi.out ?_
   quiet_step (exact Calls.regrown_of (HTr.out _))
   refine wpQuiet_nil ?_
   intro wn hC
   have hbn:Below wr.heap.size wr wn:=reg_below hC
   have A6:Away (At gt (RW nv (fst th r)) 76 w3 wn):=⟨A0.out.later hbn⟩
   clear hC hbn A0 HTr Hrg T1
   simp only[List.drop_succ_cons,List.drop_zero]
   go_wp2_with ((with_reducible refine wpList_putp A6 HE.out Hlt.out Ho6.out rfl _ _ rfl rfl ?hx ?hy ?_);(case hx=>exact rfl);(case hy=>exact rfl);intro w7 A7;rw[Hup.out]at A7)
   go_roundw
   case rel=>exact⟨r+1,by have:=Hlt.out;omega,by go_num,A7⟩
   case measure=>have:=Hlt.out;simp[intOf];omega
  ·obtain rfl:r=nv:=by omega
   rename World=>w2
   have HTt:Away (Holds w2 0 (.slice (some ⟨gt,0,none⟩) r r) r th):=⟨row_holds A0.out.row (Nat.zero_le _) (fun i hi=>fst_lt th r i hi)⟩
   have Hgl:Away (gt<w2.heap.size):=⟨lt_of_row A0.out.row⟩
   clear A0 hlt
   go_wp2_with (at_make;refine wpList_make_full _ rfl (.tmp 33) (.tmp 33) 44 rfl w2.heap.size 76 i0 (.agg z) 256 Tryz.underlying44 HI.out.1 HI.out.2.1 HI.out.2.2.1 .i64 .i64 R R R rfl rfl rfl rfl (by rw[HI.out.2.2.2];omega) (by unfold maxLen;omega) (Nat.le_refl _) ?_)
   intro w5 hown hgr
   obtain⟨hrow,hb5⟩:=made_row HZ.out hown hgr
   obtain⟨go,hgo⟩:∃ a,w2.heap.size=a:=⟨_,rfl⟩
   rw[hgo]at hrow ⊢
   have A5:Away (At go (RW R (fst res 0)) 76 w5 w5):=⟨by rw[fst_zero];exact At.refl hrow⟩
   have B5:Away (Below w2.heap.size w2 w5):=⟨hb5⟩
   have Hgo:=Away.mk hgo
   clear hown hgr hrow hb5 hgo
   go_wp2_with fail
   go_loopw [37] (fun iv wr=>∃ i:Nat,i≤R∧iv=.int .i64 (i:Int)∧Away (At go (RW R (fst res i)) 76 w5 wr)) (fun iv _=>R-(intOf iv).toNat)
   case atStart=>exact⟨0,Nat.zero_le _,rfl,A5⟩
   case round=>
    clear A5
    obtain⟨i,hi,rfl,Ao⟩:=hrel
    rename World=>w3'
    have B2:Away (Below w2.heap.size w2 w3'):=⟨B5.out.trans (Ao.out.below B5.out.size (Nat.le_of_eq Hgo.out))⟩
    have BX:Away (Below w.heap.size w w3'):=⟨BE.out.trans (B2.out.mono BE.out.size)⟩
    by_cases hlt:i<R
    ·have hiz:(i:Int)<(R:Int):=by omega
     have hi8:i<8:=by omega
     obtain⟨g,c,hcell,hg,hpol⟩:=HRows.out i hlt
     have hc0:w3'.cell? ⟨G,i,none⟩=some (.slice (some ⟨g,0,none⟩) (n i) c):=(BX.out.cell (p:=⟨G,i,none⟩) HGv.out.1).trans hcell
     have Hpol:=Away.mk hpol
     have Hg:=Away.mk hg
     have hN8:=Hn.out i hlt
     obtain⟨N,hN⟩:∃ N,n i=N:=⟨_,rfl⟩
     rw[hN]at hc0 Hpol hN8
     obtain⟨M,hM⟩:∃ M,min N r=M:=⟨_,rfl⟩
     have hMz:min (N:Int) (r:Int)=(M:Int):=by omega
     have hMz2:min (r:Int) (N:Int)=(M:Int):=by omega
     have hMN:M≤N:=by omega
     have hMr:M≤r:=by omega
     obtain⟨W4,hW4⟩:∃ a,w3'.alloc (.cells z 76)=a:=⟨_,rfl⟩
     obtain⟨r4,hs4,b4⟩:=one hW4
     have HW4:=Away.mk hW4
     have A4:Away (At w3'.heap.size (FL .i64 256 (rsum (x i) th 0)) 76 W4 W4):=⟨by rw[rsum,HZ.out];exact At.refl r4⟩
     have D4:Away (Below w3'.heap.size w3' W4):=⟨b4⟩
     have Hlt:=Away.mk hlt
     have HN:Away (min (n i) r=M):=⟨by rw[hN];exact hM⟩
     clear hcell hg hpol hW4 r4 hs4 b4 hlt hN hM
     go_wp2_with (rw[HW4.out])
     clear hc0 hMz hMz2
     go_loopw [47] (fun jv wr=>∃ j:Nat,j≤M∧jv=.int .i64 (j:Int)∧Away (At w3'.heap.size (FL .i64 256 (rsum (x i) th j)) 76 W4 wr)) (fun jv _=>M-(intOf jv).toNat)
     case atStart=>exact⟨0,Nat.zero_le _,rfl,A4⟩
     case round=>
      clear A4
      obtain⟨j,hj,rfl,A5⟩:=hrel
      have D5:Away (Below w3'.heap.size w3' wr):=⟨D4.out.trans (A5.out.below D4.out.size (Nat.le_refl _))⟩
      have B6:Away (Below w.heap.size w wr):=⟨BX.out.trans (D5.out.mono BX.out.size)⟩
      by_cases hjlt:j<M
      ·have hjz:(j:Int)<(M:Int):=by omega
       have hj8:j<8:=by omega
       have hjN:(j:Int)<(N:Int):=by omega
       have hjr:(j:Int)<(r:Int):=by omega
       have hrg:=range_at (m:=j) (fun k hk=>(B6.out.cell (p:=⟨g,256*j+k,none⟩) Hg.out).trans (Hpol.out j (by omega) k hk))
       have hrt:=range_later (hd_row HTt.out j (by omega)) Hgl.out (B2.out.trans (D5.out.mono B2.out.size))
       obtain⟨F,HF⟩:=ex_eq (FL .i64 256 (x i j))
       obtain⟨E,HE⟩:=ex_eq (FL .i64 256 (th j))
       obtain⟨o6,ho6⟩:∃ o6,j*256=o6:=⟨_,rfl⟩
       rw[HF.out,ho6]at hrg
       rw[HE.out,ho6]at hrt
       have Fi:Away ((Tryz.prog.info? 76).map (·.size)=some F.toList.length):=⟨by rw[Array.length_toList,←HF.out,fl_size];exact Hsize.out⟩
       have Ei:Away ((Tryz.prog.info? 76).map (·.size)=some E.toList.length):=⟨by rw[Array.length_toList,←HE.out,fl_size];exact Hsize.out⟩
       have Hrg:Away (∀ w':World,Below wr.heap.size wr w'→w'.rangeAt g o6 F.toList):=⟨fun w' hb'=>range_later hrg (Nat.lt_of_lt_of_le Hg.out B6.out.size) hb'⟩
       have Hrt:Away (∀ w':World,Below wr.heap.size wr w'→w'.rangeAt gt o6 E.toList):=⟨fun w' hb'=>range_later hrt (Nat.lt_of_lt_of_le Hgl.out (Nat.le_trans B2.out.size D5.out.size)) hb'⟩
       have H1:Away (∀ w1:World,Calls Tryz.prog 81 #[.agg F,.agg E] w1 fun e w'=>e=.returned (.agg (FL .i64 256 fun k=>(x i j k*th j k)%8380417))∧Below w1.heap.size w1 w'):=⟨fun w1=>by rw[←HF.out,←HE.out];exact HTm.out (x i j) (th j) w1⟩
       have H2:Away (∀ w1:World,Calls Tryz.prog 80 #[.agg (FL .i64 256 (rsum (x i) th j)),.agg (FL .i64 256 fun k=>(x i j k*th j k)%8380417)] w1 fun e w'=>e=.returned (.agg (FL .i64 256 (rsum (x i) th (j+1))))∧Below w1.heap.size w1 w'):=⟨fun w1=>HAd.out _ _ w1⟩
       obtain⟨S,HS⟩:=ex_eq (FL .i64 256 (rsum (x i) th j))
       obtain⟨P,HP⟩:=ex_eq (FL .i64 256 fun k=>(x i j k*th j k)%8380417)
       obtain⟨S2,HS2⟩:=ex_eq (FL .i64 256 (rsum (x i) th (j+1)))
       rw[HS.out]at A5 H2
       rw[HP.out]at H1 H2
       rw[HS2.out]at H2
       have Si:Away ((Tryz.prog.info? 76).map (·.size)=some S.size):=⟨by rw[←HS.out,fl_size];exact Hsize.out⟩
       have Si2:Away ((Tryz.prog.info? 76).map (·.size)=some S2.size):=⟨by rw[←HS2.out,fl_size];exact Hsize.out⟩
       have So2:Away (S2.all (·.oneCell')=true):=⟨by rw[←HS2.out];exact fl_one _ _ _⟩
       have Sz2:Away (S.size=S2.size):=⟨by rw[←HS.out,←HS2.out,fl_size,fl_size]⟩
       have Hjlt:=Away.mk hjlt
       clear hrg hrt hjlt HF HE HS HP
       go_wp2_with fail
       refine qtail.region_below_tail 11 (by kernel_rfl) (by kernel_rfl) ?_
       refine wpQuiet_load rfl 76 _ rfl _ rfl 76 _ _ (fun w' hC=>heap_regrown A5.out.row hC) Tryz.underlying76 rfl Si.out ?_
       iterate 3 (quiet_step (skip))
       refine wpQuiet_load_mid rfl 76 _ rfl g o6 rfl F.toList _ (fun w' hC=>Hrg.out w' (reg_below hC)) Tryz.underlying76 rfl Fi.out ?_
       iterate 3 (quiet_step (skip))
       refine wpQuiet_load_mid rfl 76 _ rfl gt o6 rfl E.toList _ (fun w' hC=>Hrt.out w' (reg_below hC)) Tryz.underlying76 rfl Ei.out ?_
       quiet_step (exact Calls.regrown_of (H1.out _))
       quiet_step (exact Calls.regrown_of (H2.out _))
       refine wpQuiet_nil ?_
       intro w8 hC
       have hbn:Below wr.heap.size wr w8:=reg_below hC
       have A7:Away (At w3'.heap.size S 76 W4 w8):=⟨A5.out.later hbn⟩
       obtain⟨w9,hw9⟩:∃ a,w8.setRow w3'.heap.size S2=a:=⟨_,rfl⟩
       have A8:Away (At w3'.heap.size (FL .i64 256 (rsum (x i) th (j+1))) 76 W4 w9):=⟨by
        rw[HS2.out,←hw9]
        exact⟨A7.out.os,A7.out.tape,A7.out.output,by simpa [World.setRow] using A7.out.size,setRow_heap _ _ _ _ _ _ A7.out.row,fun k hk hkg=>(setRow_other _ _ _ _ hkg).trans (A7.out.block k hk hkg)⟩⟩
       have HW9:=Away.mk hw9
       clear hC hbn A5 hw9
       simp only[List.drop_succ_cons,List.drop_zero]
       refine wpList_store_row rfl 76 _ _ rfl w3'.heap.size S2 rfl rfl 76 _ A7.out.row Si2.out Sz2.out So2.out ?_
       rw[HW9.out]
       go_wp2_with fail
       go_roundw
       case rel=>exact⟨j+1,by have:=Hjlt.out;omega,by go_num,A8⟩
       case measure=>have:=Hjlt.out;simp[intOf];omega
      ·obtain rfl:j=M:=by omega
       have Hb9:Away (∀ w1:World,Calls Tryz.prog 82 #[.agg T,.agg (FL .i64 256 (rsum (x i) th j))] w1 fun e w'=>e=.returned (.agg (FL .i64 256 (res i)))∧Below w1.heap.size w1 w'):=⟨fun w1=>by
        have h:=HBk.out (rsum (x i) th j) w1
        rw[show (fun k=>(backR ζ 8 (rsum (x i) th j) k*8347681)%8380417)=res i from funext fun k=>by rw[←HN.out];exact Hres.out i k]at h
        exact h⟩
       obtain⟨S,HS⟩:=ex_eq (FL .i64 256 (rsum (x i) th j))
       rw[HS.out]at A5 Hb9
       have Si:Away ((Tryz.prog.info? 76).map (·.size)=some S.size):=⟨by rw[←HS.out,fl_size];exact Hsize.out⟩
       have T5:Away (wr.heap[w.heap.size]? = some (.cells T 34 (0,0))):=⟨by
        have h:=BU.out.trans ((B2.out.mono BU.out.size).trans (D5.out.mono (Nat.le_trans BU.out.size B2.out.size)))
        exact(h.block _ (lt_of_row T0.out)).trans T0.out⟩
       have R5:=Away.mk A5.out.row
       have Ao2:Away (At go (RW R (fst res i)) 76 w5 wr):=⟨Ao.out.later D5.out⟩
       obtain⟨E,HE⟩:=ex_eq (FL .i64 256 (res i))
       rw[HE.out]at Hb9
       have Hup:Away (ups (fst res i) i (res i)=fst res (i+1)):=⟨ups_fst res i⟩
       obtain⟨o6,ho6⟩:∃ o6,i*256=o6:=⟨_,rfl⟩
       have Ho6:=Away.mk ho6
       clear A5 hjlt Ao
       go_wp2_with (first
        | (refine wpList_load_row rfl 34 _ rfl w.heap.size rfl 34 T (0,0) _ T5.out Tryz.underlying34 rfl HTz.out ?_)
        | (refine wpList_load_row rfl 76 _ rfl w3'.heap.size rfl 76 S (0,0) _ R5.out Tryz.underlying76 rfl Si.out ?_))
       refine(Hb9.out _).mono ?_
       rintro e w6 ⟨rfl,hb6⟩
       have A6:Away (At go (RW R (fst res i)) 76 w5 w6):=⟨Ao2.out.later hb6⟩
       clear hb6 Ao2 R5 T5
       go_wp2_with ((with_reducible refine wpList_putp A6 HE.out Hlt.out Ho6.out rfl _ _ rfl rfl ?hx ?hy ?_);(case hx=>exact rfl);(case hy=>exact rfl);intro w7 A7;rw[Hup.out]at A7)
       go_roundw
       case rel=>exact⟨i+1,by have:=Hlt.out;omega,by go_num,A7⟩
       case measure=>have:=Hlt.out;simp[intOf];omega
    ·obtain rfl:i=R:=by omega
     have HH:Away (Holds w3' w.heap.size (.slice (some ⟨go,0,none⟩) i i) i res):=⟨row_holds Ao.out.row (by have:=BE.out.size;have:=Hgo.out;omega) (fun k hk=>fst_lt res i k hk)⟩
     clear Ao
     go_wp2_with fail
     go_ret
     exact⟨⟨_,rfl,HH.out⟩,BX.out⟩
end krw
namespace ksp
set_option linter.unusedSimpArgs false
open Go Go.RowKit
open arr mem stil polys polt pols rbitb rbitc rndm saml qrow helda qsec mlkm rkpb rkrw
theorem wp_putp {Q:Exit→Act→World→Prop} {K:Act→World→Prop} {op:Oper} {ac:Act} {w0 w:World} {g m i o:Nat} {t:TypeId} {p:Nat→Nat→Int} {f:Nat→Int} {F:Array Value} (H:Away (At g (RW m p) t w0 w)) (hF:FL .i64 256 f=F) (hi:i<m) (hoi:i*256=o)
 (x y:Operand) (ho:op.op=.store 76 x y) (hd:op.dst=none) (hx:ac.eval x=.pointer (some ⟨g,o,none⟩)) (hy:ac.eval y=.agg F)
 (h:∀ w',Away (At g (RW m (ups p i f)) t w0 w')→K ac w'):op.wp Tryz.prog ac w K Q:=by
 subst hF
 obtain⟨hz,hsize⟩:=zero_of_info polt.infoP
 refine wp_store_mid _ x y ho g o (FL .i64 256 f) hx hy (fun j hj=>?_) (by rw[fl_size];exact hsize) (fl_one _ _ _) ?_
 ·rw[fl_size]at hj
  rw[H.out.cell,H.out.frozen]
  have e3:(RW m p)[o+j]? = some (.int .i64 (p ((o+j) / 256) ((o+j)%256))):=fl_get .i64 (256*m) _ (o+j) (by omega)
  rw[e3]
  exact⟨rfl,rfl⟩
 ·rw[hd]
  refine h _ ⟨?_⟩
  have h1:At g (sp (RW m p) (256*i) (FL .i64 256 f).toList) t w (w.setCells g (256*i) (FL .i64 256 f).toList):=At.set H.out.row H.out.lt (Below.refl _ _)
  rw[sp_rw m p i f]at h1
  rw[show o=256*i by omega]
  exact H.out.trans h1
theorem split_any (m:Nat) (va vb:Value) (Ba Bb:Nat) (p q:Nat→Nat→Int) (w:World) (hm : 1≤m∧m≤8) (ha:Holds w Ba va m p) (hb:Holds w Bb vb m q):
 Calls Tryz.prog 64 #[va,vb] w fun x w'=>(∃ v1 v2,x=.returned (.tuple #[v1,v2])∧Holds w' w.heap.size v1 m (fun i k=>sh ((p i k+q i k)%8380417))∧Holds w' w.heap.size v2 m (fun i k=>sl ((p i k+q i k)%8380417)%8380417))∧Below w.heap.size w w':=by
 obtain⟨i0,hi0,hz0,hz1,hz2⟩:=parts infoPoly
 obtain⟨hz,hsize⟩:=zero_of_info polt.infoP
 obtain⟨z,HZ⟩:=ex_eq (FL .i64 256 fun _=>0)
 rw[HZ.out]at hz hz0
 have HI:=Away.mk (And.intro hi0 (And.intro hz0 (And.intro hz1 hz2)))
 have Hsize:=Away.mk hsize
 obtain⟨gp,cp,rfl,hgp⟩:=hd_any ha
 obtain⟨gq,cq',rfl,hgq⟩:=hd_any hb
 have HVa:=Away.mk ha
 have HVb:=Away.mk hb
 have Hga:=Away.mk hgp
 have Hgq:=Away.mk hgq
 have hm1:=hm.1
 have hm8:=hm.2
 obtain⟨tt,htt⟩:=ex_eq (fun i k=>(p i k+q i k)%8380417)
 have Htt:Away (∀ i,(fun k=>(p i k+q i k)%8380417)=tt i):=⟨fun i=>by rw[←htt.out]⟩
 obtain⟨hi,hhi⟩:=ex_eq (fun i k=>sh (tt i k))
 have Hhi:Away (∀ i,(fun k=>sh (tt i k))=hi i):=⟨fun i=>by rw[←hhi.out]⟩
 obtain⟨lo,hlo⟩:=ex_eq (fun i k=>sl (tt i k)%8380417)
 have Hlo:Away (∀ i,(fun k=>sl (tt i k)%8380417)=lo i):=⟨fun i=>by rw[←hlo.out]⟩
 have e1:(fun i k=>sh ((p i k+q i k)%8380417))=hi:=by rw[←hhi.out,←htt.out]
 have e2:(fun i k=>sl ((p i k+q i k)%8380417)%8380417)=lo:=by rw[←hlo.out,←htt.out]
 rw[e1,e2]
 clear hi0 hz0 hz1 hz2 hsize ha hb hgp hgq hm e1 e2 hhi hlo htt
 go_enter Tryz.func64,Tryz.ntmps64
 go_wp2_with fail
 obtain⟨B0,hB0⟩:∃ x,w.heap.size=x:=⟨_,rfl⟩
 refine hk_begin B0 8 [0,1,3,4,2,5,6,7] (by kernel_rfl) rfl rfl (by decide) (fun hS ops HO=>?_)
 simp only[List.filterMap_cons,List.filterMap_nil,List.getElem?_cons_succ,List.getElem?_cons_zero]
 iterate 4 ((focus (refine heldb.hk_t (v:=?_) (by rw[←HO.out];kernel_rfl) (fun _ _ _ h=>h) ?_ hS ?_;rotate_left;focus (intro w9 h9;go_simp;first | done | with_reducible rfl);all_goals skip));simp only[Act.put,heldb.pa,heldb.pb,heldb.pc])
 refine hk_two (by rw[←HO.out];kernel_rfl) (by rw[←HO.out];kernel_rfl) (by rw[←HO.out];kernel_rfl) (fun K hK=>?_) (fun K hK=>?_)
 ·refine wp_make_full (.tmp 10) (.tmp 10) 44 rfl 76 i0 (.agg z) 256 Tryz.underlying44 HI.out.1 HI.out.2.1 HI.out.2.2.1 .i64 .i64 m rfl rfl (by rw[HI.out.2.2.2];omega) (by unfold maxLen;omega) ?_
  intro w3 hown hgr
  obtain⟨hrow,hb3⟩:=made_row HZ.out hown hgr
  have h3:Below w.heap.size w w3:=(Below.refl _ _).drew.trans hb3
  refine hK _ _ (by rw[←hB0];exact h3) ?_
  clear hK K
  obtain⟨ga,hga⟩:∃ x,w.heap.size=x:=⟨_,rfl⟩
  have R1:w3.heap[ga]? = some (.cells (RW m fun _ _=>0) 76 (0,0)):=by rw[←hga];exact hrow
  have l1:ga<w3.heap.size:=lt_of_row R1
  show HK _ _ _ _ _ _ _ (Act.put _ _ (.slice (some ⟨w.heap.size,0,none⟩) m m)) _
  rw[hga]
  simp only[Act.put,heldb.pa,heldb.pb,heldb.pc]
  refine hk_swap ?_
  (focus (refine heldb.hk_t (v:=?_) (by rw[←HO.out];kernel_rfl) (fun _ _ _ h=>h) ?_ (by rw[←hB0];exact h3) ?_;rotate_left;focus (intro w9 h9;go_simp;first | done | with_reducible rfl);all_goals skip))
  simp only[Act.put,heldb.pa,heldb.pb,heldb.pc]
  refine heldb.hk_s (by rw[←HO.out];kernel_rfl) (fun K hK=>?_)
  refine wp_make_full (.tmp 13) (.tmp 13) 44 rfl 76 i0 (.agg z) 256 Tryz.underlying44 HI.out.1 HI.out.2.1 HI.out.2.2.1 .i64 .i64 m rfl rfl (by rw[HI.out.2.2.2];omega) (by unfold maxLen;omega) ?_
  intro w4 hown2 hgr2
  obtain⟨hrow2,hb4⟩:=made_row HZ.out hown2 hgr2
  have h4:Below w.heap.size w w4:=h3.trans (hb4.mono h3.size)
  have h5:Below B0 w w4:=by rw[←hB0];exact h4
  refine hK _ _ h5 ?_
  clear hK K
  obtain⟨gb,hgb⟩:∃ x,w3.heap.size=x:=⟨_,rfl⟩
  have R2:w4.heap[gb]? = some (.cells (RW m fun _ _=>0) 76 (0,0)):=by rw[←hgb];exact hrow2
  have R3:w4.heap[ga]? = some (.cells (RW m fun _ _=>0) 76 (0,0)):=(hb4.block _ l1).trans R1
  rw[hgb]
  simp only[Act.put,heldb.pa,heldb.pb,heldb.pc]
  (focus (refine heldb.hk_t (v:=?_) (by rw[←HO.out];kernel_rfl) (fun _ _ _ h=>h) ?_ h5 ?_;rotate_left;focus (intro w9 h9;go_simp;first | done | with_reducible rfl);all_goals skip))
  simp only[Act.put,heldb.pa,heldb.pb,heldb.pc]
  refine hk_nil (by rw[←HO.out];kernel_rfl) ?_
  have G1:Away (w4.heap[ga]? = some (.cells (RW m fun _ _=>0) 76 (0,0))):=⟨R3⟩
  have G2:Away (w4.heap[gb]? = some (.cells (RW m fun _ _=>0) 76 (0,0))):=⟨R2⟩
  have Hg:Away (ga≠gb∧w.heap.size≤ga∧w.heap.size≤gb):=⟨by have:=h3.size;refine⟨?_,?_,?_⟩<;>omega⟩
  have B4:=Away.mk h4
  clear hown hgr hrow hb3 h3 hown2 hgr2 hrow2 hb4 h4 R1 R2 R3 l1 HO hS h5 hB0 hga hgb
  have A0x:Away (w4.heap[ga]? = some (.cells (RW m (fst hi 0)) 76 (0,0))):=⟨by rw[fst_zero];exact G1.out⟩
  have B0x:Away (w4.heap[gb]? = some (.cells (RW m (fst lo 0)) 76 (0,0))):=⟨by rw[fst_zero];exact G2.out⟩
  go_wp2_with fail
  go_loopw [17] (fun v wr=>∃ r:Nat,r≤m∧v=.int .i64 (r:Int)∧Away (wr.heap[ga]? = some (.cells (RW m (fst hi r)) 76 (0,0)))∧Away (wr.heap[gb]? = some (.cells (RW m (fst lo r)) 76 (0,0)))∧Away (Below w.heap.size w wr)) (fun v _=>m-(intOf v).toNat)
  case atStart=>exact⟨0,Nat.zero_le _,rfl,A0x,B0x,B4⟩
  case round=>
   clear A0x B0x G1 G2
   obtain⟨r,hr,rfl,Ra,Rb,Hb⟩:=hrel
   by_cases hlt:r<m
   ·have hrz:(r:Int)<(m:Int):=by omega
    have hr8:r<8:=by omega
    obtain⟨o6,ho6⟩:∃ o6,r*256=o6:=⟨_,rfl⟩
    obtain⟨F,HF⟩:=ex_eq (FL .i64 256 (p r))
    obtain⟨G,HG⟩:=ex_eq (FL .i64 256 (q r))
    have Fi:Away ((Tryz.prog.info? 76).map (·.size)=some F.toList.length):=⟨by rw[Array.length_toList,←HF.out,fl_size];exact Hsize.out⟩
    have Gi:Away ((Tryz.prog.info? 76).map (·.size)=some G.toList.length):=⟨by rw[Array.length_toList,←HG.out,fl_size];exact Hsize.out⟩
    have Ha:∀ w':World,Below w.heap.size wr w'→w'.rangeAt gp o6 F.toList:=fun w' hb'=>by
     have h:=range_later (hd_row HVa.out r hlt) Hga.out (Hb.out.trans hb')
     rw[HF.out,ho6]at h
     exact h
    have Hbb:∀ w':World,Below w.heap.size wr w'→w'.rangeAt gq o6 G.toList:=fun w' hb'=>by
     have h:=range_later (hd_row HVb.out r hlt) Hgq.out (Hb.out.trans hb')
     rw[HG.out,ho6]at h
     exact h
    have Ha:=Away.mk Ha
    have Hbb:=Away.mk Hbb
    have HAr:Away (∀ w1:World,Calls Tryz.prog 80 #[.agg F,.agg G] w1 fun e w'=>e=.returned (.agg (FL .i64 256 (tt r)))∧Below w1.heap.size w1 w'):=⟨fun w1=>by rw[←HF.out,←HG.out,←Htt.out];exact fadd.add_any (p r) (q r) w1⟩
    have HSr:Away (∀ w1:World,Calls Tryz.prog 115 #[.agg (FL .i64 256 (tt r))] w1 fun e w'=>e=.returned (.tuple #[.agg (FL .i64 256 (hi r)),.agg (FL .i64 256 (lo r))])∧Below w1.heap.size w1 w'):=⟨fun w1=>by rw[←Hhi.out,←Hlo.out];exact rsplit.split_any (tt r) w1⟩
    have Hua:Away (ups (fst hi r) r (hi r)=fst hi (r+1)):=⟨ups_fst hi r⟩
    have Hub:Away (ups (fst lo r) r (lo r)=fst lo (r+1)):=⟨ups_fst lo r⟩
    obtain⟨S,HS⟩:=ex_eq (FL .i64 256 (tt r))
    obtain⟨X,HX⟩:=ex_eq (FL .i64 256 (hi r))
    obtain⟨Y,HY⟩:=ex_eq (FL .i64 256 (lo r))
    rw[HS.out]at HAr HSr
    rw[HX.out,HY.out]at HSr
    have Hlt:=Away.mk hlt
    have Ho6:=Away.mk ho6
    clear hlt HF HG HS
    go_wp2_with fail
    refine hk_begin w.heap.size 21 [0,1,2,3,4,5,6,7,8,9,10,11,12,13,14,15,16,17,18,19,20] (by kernel_rfl) rfl rfl (by decide) (fun hS ops HO=>?_)
    simp only[List.filterMap_cons,List.filterMap_nil,List.getElem?_cons_succ,List.getElem?_cons_zero]
    iterate 7 ((focus (refine heldb.hk_t (v:=?_) (by rw[←HO.out];kernel_rfl) (fun _ _ _ h=>h) ?_ hS ?_;rotate_left;focus (intro w9 h9;go_simp;first | done | with_reducible rfl);all_goals skip));simp only[Act.put,heldb.pa,heldb.pb,heldb.pc])
    refine fork.hk_mid (by rw[←HO.out];kernel_rfl) (by rw[←HO.out];kernel_rfl) (by rw[←HO.out];kernel_rfl) (by rw[←HO.out];kernel_rfl) (fun _ _ _ _ h=>h) 76 _ rfl gp o6 rfl F.toList _ Ha.out Tryz.underlying76 rfl Fi.out hS ?_
    iterate 3 (simp only[Act.put,heldb.pa,heldb.pb,heldb.pc];(focus (refine heldb.hk_t (v:=?_) (by rw[←HO.out];kernel_rfl) (fun _ _ _ h=>h) ?_ hS ?_;rotate_left;focus (intro w9 h9;go_simp;first | done | with_reducible rfl);all_goals skip)))
    simp only[Act.put,heldb.pa,heldb.pb,heldb.pc]
    refine fork.hk_mid (by rw[←HO.out];kernel_rfl) (by rw[←HO.out];kernel_rfl) (by rw[←HO.out];kernel_rfl) (by rw[←HO.out];kernel_rfl) (fun _ _ _ _ h=>h) 76 _ rfl gq o6 rfl G.toList _ Hbb.out Tryz.underlying76 rfl Gi.out hS ?_
    simp only[Act.put,heldb.pa,heldb.pb,heldb.pc]
    refine heldb.hk_s (by rw[←HO.out];kernel_rfl) (fun K hK=>?_)
    go_simp
    refine(HAr.out _).mono ?_
    rintro x w3 ⟨rfl,hb3⟩
    have h3:Below w.heap.size wr w3:=hS.trans (hb3.mono (Nat.le_trans Hb.out.size hS.size))
    refine hK _ _ h3 ?_
    clear hK K
    try simp only[Act.put,heldb.pa,heldb.pb,heldb.pc]
    refine heldb.hk_s (by rw[←HO.out];kernel_rfl) (fun K hK=>?_)
    go_simp
    refine(HSr.out _).mono ?_
    rintro x w5 ⟨rfl,hb5⟩
    have h5:Below w.heap.size wr w5:=h3.trans (hb5.mono (Nat.le_trans Hb.out.size h3.size))
    refine hK _ _ h5 ?_
    clear hK K
    try simp only[Act.put,heldb.pa,heldb.pb,heldb.pc]
    iterate 4 ((focus (refine heldb.hk_t (v:=?_) (by rw[←HO.out];kernel_rfl) (fun _ _ _ h=>h) ?_ h5 ?_;rotate_left;focus (intro w9 h9;go_simp;first | done | with_reducible rfl);all_goals skip));simp only[Act.put,heldb.pa,heldb.pb,heldb.pc])
    have hbn:Below wr.heap.size wr w5:=(drewn_below _ wr 1).trans (hb3.trans (hb5.mono hb3.size))
    have A6:Away (At ga (RW m (fst hi r)) 76 w5 w5):=⟨At.refl ((hbn.block _ (lt_of_row Ra.out)).trans Ra.out)⟩
    have B6:Away (w5.heap[gb]? = some (.cells (RW m (fst lo r)) 76 (0,0))):=⟨(hbn.block _ (lt_of_row Rb.out)).trans Rb.out⟩
    refine heldb.hk_s (by rw[←HO.out];kernel_rfl) (fun K hK=>?_)
    refine wp_putp A6 HX.out Hlt.out Ho6.out _ _ rfl rfl rfl rfl (fun w7 A7=>?_)
    rw[Hua.out]at A7
    have h7:Below w.heap.size wr w7:=h5.trans (A7.out.below (Nat.le_trans Hb.out.size h5.size) Hg.out.2.1)
    have A8:Away (At gb (RW m (fst lo r)) 76 w7 w7):=⟨At.refl (A7.out.other (lt_of_row B6.out) (Ne.symm Hg.out.1) B6.out)⟩
    refine hK _ _ h7 ?_
    clear hK K
    try simp only[Act.put,heldb.pa,heldb.pb,heldb.pc]
    (focus (refine heldb.hk_t (v:=?_) (by rw[←HO.out];kernel_rfl) (fun _ _ _ h=>h) ?_ h7 ?_;rotate_left;focus (intro w9 h9;go_simp;first | done | with_reducible rfl);all_goals skip))
    simp only[Act.put,heldb.pa,heldb.pb,heldb.pc]
    refine heldb.hk_s (by rw[←HO.out];kernel_rfl) (fun K hK=>?_)
    refine wp_putp A8 HY.out Hlt.out Ho6.out _ _ rfl rfl rfl rfl (fun w8 A9=>?_)
    rw[Hub.out]at A9
    have h8:Below w.heap.size wr w8:=h7.trans (A9.out.below (Nat.le_trans Hb.out.size h7.size) Hg.out.2.2)
    refine hK _ _ h8 ?_
    clear hK K
    try simp only[Act.put,heldb.pa,heldb.pb,heldb.pc]
    refine hk_nil (by rw[←HO.out];kernel_rfl) ?_
    have D8:Away (Below w.heap.size w w8):=⟨Hb.out.trans h8⟩
    have Ra8:Away (w8.heap[ga]? = some (.cells (RW m (fst hi (r+1))) 76 (0,0))):=⟨A9.out.other (lt_of_row A7.out.row) Hg.out.1 A7.out.row⟩
    have Rb8:Away (w8.heap[gb]? = some (.cells (RW m (fst lo (r+1))) 76 (0,0))):=⟨A9.out.row⟩
    clear hS HO hb3 h3 hb5 h5 hbn A6 B6 A7 A8 A9 h7 h8 Ra Rb HAr HSr Ha Hbb
    go_wp2_with fail
    go_roundw
    case rel=>exact⟨r+1,by have:=Hlt.out;omega,by go_num,Ra8,Rb8,D8⟩
    case measure=>have:=Hlt.out;simp[intOf];omega
   ·obtain rfl:r=m:=by omega
    have H1:Away (Holds wr w.heap.size (.slice (some ⟨ga,0,none⟩) r r) r hi):=⟨row_holds Ra.out Hg.out.2.1 (fun i hi'=>fst_lt hi r i hi')⟩
    have H2:Away (Holds wr w.heap.size (.slice (some ⟨gb,0,none⟩) r r) r lo):=⟨row_holds Rb.out Hg.out.2.2 (fun i hi'=>fst_lt lo r i hi')⟩
    clear Ra Rb
    go_wp2_with fail
    go_ret2
    exact⟨⟨_,_,rfl,H1.out,H2.out⟩,Hb.out⟩
 ·refine wp_make_full (.tmp 13) (.tmp 13) 44 rfl 76 i0 (.agg z) 256 Tryz.underlying44 HI.out.1 HI.out.2.1 HI.out.2.2.1 .i64 .i64 m rfl rfl (by rw[HI.out.2.2.2];omega) (by unfold maxLen;omega) ?_
  intro w3 hown hgr
  obtain⟨hrow,hb3⟩:=made_row HZ.out hown hgr
  have h3:Below w.heap.size w w3:=(Below.refl _ _).drew.trans hb3
  refine hK _ _ (by rw[←hB0];exact h3) ?_
  clear hK K
  obtain⟨gb,hgb⟩:∃ x,w.heap.size=x:=⟨_,rfl⟩
  have R1:w3.heap[gb]? = some (.cells (RW m fun _ _=>0) 76 (0,0)):=by rw[←hgb];exact hrow
  have l1:gb<w3.heap.size:=lt_of_row R1
  show HK _ _ _ _ _ _ _ (Act.put _ _ (.slice (some ⟨w.heap.size,0,none⟩) m m)) _
  rw[hgb]
  simp only[Act.put,heldb.pa,heldb.pb,heldb.pc]
  refine heldb.hk_s (by rw[←HO.out];kernel_rfl) (fun K hK=>?_)
  refine wp_make_full (.tmp 10) (.tmp 10) 44 rfl 76 i0 (.agg z) 256 Tryz.underlying44 HI.out.1 HI.out.2.1 HI.out.2.2.1 .i64 .i64 m rfl rfl (by rw[HI.out.2.2.2];omega) (by unfold maxLen;omega) ?_
  intro w4 hown2 hgr2
  obtain⟨hrow2,hb4⟩:=made_row HZ.out hown2 hgr2
  have h4:Below w.heap.size w w4:=h3.trans (hb4.mono h3.size)
  have h5:Below B0 w w4:=by rw[←hB0];exact h4
  refine hK _ _ h5 ?_
  clear hK K
  obtain⟨ga,hga⟩:∃ x,w3.heap.size=x:=⟨_,rfl⟩
  have R2:w4.heap[ga]? = some (.cells (RW m fun _ _=>0) 76 (0,0)):=by rw[←hga];exact hrow2
  have R3:w4.heap[gb]? = some (.cells (RW m fun _ _=>0) 76 (0,0)):=(hb4.block _ l1).trans R1
  rw[hga]
  iterate 2 (simp only[Act.put,heldb.pa,heldb.pb,heldb.pc];(focus (refine heldb.hk_t (v:=?_) (by rw[←HO.out];kernel_rfl) (fun _ _ _ h=>h) ?_ h5 ?_;rotate_left;focus (intro w9 h9;go_simp;first | done | with_reducible rfl);all_goals skip)))
  simp only[Act.put,heldb.pa,heldb.pb,heldb.pc]
  refine hk_nil (by rw[←HO.out];kernel_rfl) ?_
  have G2:Away (w4.heap[gb]? = some (.cells (RW m fun _ _=>0) 76 (0,0))):=⟨R3⟩
  have G1:Away (w4.heap[ga]? = some (.cells (RW m fun _ _=>0) 76 (0,0))):=⟨R2⟩
  have Hg:Away (ga≠gb∧w.heap.size≤ga∧w.heap.size≤gb):=⟨by have:=h3.size;refine⟨?_,?_,?_⟩<;>omega⟩
  have B4:=Away.mk h4
  clear hown hgr hrow hb3 h3 hown2 hgr2 hrow2 hb4 h4 R1 R2 R3 l1 HO hS h5 hB0 hga hgb
  have A0x:Away (w4.heap[ga]? = some (.cells (RW m (fst hi 0)) 76 (0,0))):=⟨by rw[fst_zero];exact G1.out⟩
  have B0x:Away (w4.heap[gb]? = some (.cells (RW m (fst lo 0)) 76 (0,0))):=⟨by rw[fst_zero];exact G2.out⟩
  go_wp2_with fail
  go_loopw [17] (fun v wr=>∃ r:Nat,r≤m∧v=.int .i64 (r:Int)∧Away (wr.heap[ga]? = some (.cells (RW m (fst hi r)) 76 (0,0)))∧Away (wr.heap[gb]? = some (.cells (RW m (fst lo r)) 76 (0,0)))∧Away (Below w.heap.size w wr)) (fun v _=>m-(intOf v).toNat)
  case atStart=>exact⟨0,Nat.zero_le _,rfl,A0x,B0x,B4⟩
  case round=>
   clear A0x B0x G1 G2
   obtain⟨r,hr,rfl,Ra,Rb,Hb⟩:=hrel
   by_cases hlt:r<m
   ·have hrz:(r:Int)<(m:Int):=by omega
    have hr8:r<8:=by omega
    obtain⟨o6,ho6⟩:∃ o6,r*256=o6:=⟨_,rfl⟩
    obtain⟨F,HF⟩:=ex_eq (FL .i64 256 (p r))
    obtain⟨G,HG⟩:=ex_eq (FL .i64 256 (q r))
    have Fi:Away ((Tryz.prog.info? 76).map (·.size)=some F.toList.length):=⟨by rw[Array.length_toList,←HF.out,fl_size];exact Hsize.out⟩
    have Gi:Away ((Tryz.prog.info? 76).map (·.size)=some G.toList.length):=⟨by rw[Array.length_toList,←HG.out,fl_size];exact Hsize.out⟩
    have Ha:∀ w':World,Below w.heap.size wr w'→w'.rangeAt gp o6 F.toList:=fun w' hb'=>by
     have h:=range_later (hd_row HVa.out r hlt) Hga.out (Hb.out.trans hb')
     rw[HF.out,ho6]at h
     exact h
    have Hbb:∀ w':World,Below w.heap.size wr w'→w'.rangeAt gq o6 G.toList:=fun w' hb'=>by
     have h:=range_later (hd_row HVb.out r hlt) Hgq.out (Hb.out.trans hb')
     rw[HG.out,ho6]at h
     exact h
    have Ha:=Away.mk Ha
    have Hbb:=Away.mk Hbb
    have HAr:Away (∀ w1:World,Calls Tryz.prog 80 #[.agg F,.agg G] w1 fun e w'=>e=.returned (.agg (FL .i64 256 (tt r)))∧Below w1.heap.size w1 w'):=⟨fun w1=>by rw[←HF.out,←HG.out,←Htt.out];exact fadd.add_any (p r) (q r) w1⟩
    have HSr:Away (∀ w1:World,Calls Tryz.prog 115 #[.agg (FL .i64 256 (tt r))] w1 fun e w'=>e=.returned (.tuple #[.agg (FL .i64 256 (hi r)),.agg (FL .i64 256 (lo r))])∧Below w1.heap.size w1 w'):=⟨fun w1=>by rw[←Hhi.out,←Hlo.out];exact rsplit.split_any (tt r) w1⟩
    have Hua:Away (ups (fst hi r) r (hi r)=fst hi (r+1)):=⟨ups_fst hi r⟩
    have Hub:Away (ups (fst lo r) r (lo r)=fst lo (r+1)):=⟨ups_fst lo r⟩
    obtain⟨S,HS⟩:=ex_eq (FL .i64 256 (tt r))
    obtain⟨X,HX⟩:=ex_eq (FL .i64 256 (hi r))
    obtain⟨Y,HY⟩:=ex_eq (FL .i64 256 (lo r))
    rw[HS.out]at HAr HSr
    rw[HX.out,HY.out]at HSr
    have Hlt:=Away.mk hlt
    have Ho6:=Away.mk ho6
    clear hlt HF HG HS
    go_wp2_with fail
    refine hk_begin w.heap.size 21 [0,1,2,3,4,5,6,7,8,9,10,11,12,13,14,15,16,17,18,19,20] (by kernel_rfl) rfl rfl (by decide) (fun hS ops HO=>?_)
    simp only[List.filterMap_cons,List.filterMap_nil,List.getElem?_cons_succ,List.getElem?_cons_zero]
    iterate 7 ((focus (refine heldb.hk_t (v:=?_) (by rw[←HO.out];kernel_rfl) (fun _ _ _ h=>h) ?_ hS ?_;rotate_left;focus (intro w9 h9;go_simp;first | done | with_reducible rfl);all_goals skip));simp only[Act.put,heldb.pa,heldb.pb,heldb.pc])
    refine fork.hk_mid (by rw[←HO.out];kernel_rfl) (by rw[←HO.out];kernel_rfl) (by rw[←HO.out];kernel_rfl) (by rw[←HO.out];kernel_rfl) (fun _ _ _ _ h=>h) 76 _ rfl gp o6 rfl F.toList _ Ha.out Tryz.underlying76 rfl Fi.out hS ?_
    iterate 3 (simp only[Act.put,heldb.pa,heldb.pb,heldb.pc];(focus (refine heldb.hk_t (v:=?_) (by rw[←HO.out];kernel_rfl) (fun _ _ _ h=>h) ?_ hS ?_;rotate_left;focus (intro w9 h9;go_simp;first | done | with_reducible rfl);all_goals skip)))
    simp only[Act.put,heldb.pa,heldb.pb,heldb.pc]
    refine fork.hk_mid (by rw[←HO.out];kernel_rfl) (by rw[←HO.out];kernel_rfl) (by rw[←HO.out];kernel_rfl) (by rw[←HO.out];kernel_rfl) (fun _ _ _ _ h=>h) 76 _ rfl gq o6 rfl G.toList _ Hbb.out Tryz.underlying76 rfl Gi.out hS ?_
    simp only[Act.put,heldb.pa,heldb.pb,heldb.pc]
    refine heldb.hk_s (by rw[←HO.out];kernel_rfl) (fun K hK=>?_)
    go_simp
    refine(HAr.out _).mono ?_
    rintro x w3 ⟨rfl,hb3⟩
    have h3:Below w.heap.size wr w3:=hS.trans (hb3.mono (Nat.le_trans Hb.out.size hS.size))
    refine hK _ _ h3 ?_
    clear hK K
    try simp only[Act.put,heldb.pa,heldb.pb,heldb.pc]
    refine heldb.hk_s (by rw[←HO.out];kernel_rfl) (fun K hK=>?_)
    go_simp
    refine(HSr.out _).mono ?_
    rintro x w5 ⟨rfl,hb5⟩
    have h5:Below w.heap.size wr w5:=h3.trans (hb5.mono (Nat.le_trans Hb.out.size h3.size))
    refine hK _ _ h5 ?_
    clear hK K
    try simp only[Act.put,heldb.pa,heldb.pb,heldb.pc]
    iterate 4 ((focus (refine heldb.hk_t (v:=?_) (by rw[←HO.out];kernel_rfl) (fun _ _ _ h=>h) ?_ h5 ?_;rotate_left;focus (intro w9 h9;go_simp;first | done | with_reducible rfl);all_goals skip));simp only[Act.put,heldb.pa,heldb.pb,heldb.pc])
    have hbn:Below wr.heap.size wr w5:=(drewn_below _ wr 1).trans (hb3.trans (hb5.mono hb3.size))
    have A6:Away (At ga (RW m (fst hi r)) 76 w5 w5):=⟨At.refl ((hbn.block _ (lt_of_row Ra.out)).trans Ra.out)⟩
    have B6:Away (w5.heap[gb]? = some (.cells (RW m (fst lo r)) 76 (0,0))):=⟨(hbn.block _ (lt_of_row Rb.out)).trans Rb.out⟩
    refine heldb.hk_s (by rw[←HO.out];kernel_rfl) (fun K hK=>?_)
    refine wp_putp A6 HX.out Hlt.out Ho6.out _ _ rfl rfl rfl rfl (fun w7 A7=>?_)
    rw[Hua.out]at A7
    have h7:Below w.heap.size wr w7:=h5.trans (A7.out.below (Nat.le_trans Hb.out.size h5.size) Hg.out.2.1)
    have A8:Away (At gb (RW m (fst lo r)) 76 w7 w7):=⟨At.refl (A7.out.other (lt_of_row B6.out) (Ne.symm Hg.out.1) B6.out)⟩
    refine hK _ _ h7 ?_
    clear hK K
    try simp only[Act.put,heldb.pa,heldb.pb,heldb.pc]
    (focus (refine heldb.hk_t (v:=?_) (by rw[←HO.out];kernel_rfl) (fun _ _ _ h=>h) ?_ h7 ?_;rotate_left;focus (intro w9 h9;go_simp;first | done | with_reducible rfl);all_goals skip))
    simp only[Act.put,heldb.pa,heldb.pb,heldb.pc]
    refine heldb.hk_s (by rw[←HO.out];kernel_rfl) (fun K hK=>?_)
    refine wp_putp A8 HY.out Hlt.out Ho6.out _ _ rfl rfl rfl rfl (fun w8 A9=>?_)
    rw[Hub.out]at A9
    have h8:Below w.heap.size wr w8:=h7.trans (A9.out.below (Nat.le_trans Hb.out.size h7.size) Hg.out.2.2)
    refine hK _ _ h8 ?_
    clear hK K
    try simp only[Act.put,heldb.pa,heldb.pb,heldb.pc]
    refine hk_nil (by rw[←HO.out];kernel_rfl) ?_
    have D8:Away (Below w.heap.size w w8):=⟨Hb.out.trans h8⟩
    have Ra8:Away (w8.heap[ga]? = some (.cells (RW m (fst hi (r+1))) 76 (0,0))):=⟨A9.out.other (lt_of_row A7.out.row) Hg.out.1 A7.out.row⟩
    have Rb8:Away (w8.heap[gb]? = some (.cells (RW m (fst lo (r+1))) 76 (0,0))):=⟨A9.out.row⟩
    clear hS HO hb3 h3 hb5 h5 hbn A6 B6 A7 A8 A9 h7 h8 Ra Rb HAr HSr Ha Hbb
    go_wp2_with fail
    go_roundw
    case rel=>exact⟨r+1,by have:=Hlt.out;omega,by go_num,Ra8,Rb8,D8⟩
    case measure=>have:=Hlt.out;simp[intOf];omega
   ·obtain rfl:r=m:=by omega
    have H1:Away (Holds wr w.heap.size (.slice (some ⟨ga,0,none⟩) r r) r hi):=⟨row_holds Ra.out Hg.out.2.1 (fun i hi'=>fst_lt hi r i hi')⟩
    have H2:Away (Holds wr w.heap.size (.slice (some ⟨gb,0,none⟩) r r) r lo):=⟨row_holds Rb.out Hg.out.2.2 (fun i hi'=>fst_lt lo r i hi')⟩
    clear Ra Rb
    go_wp2_with fail
    go_ret2
    exact⟨⟨_,_,rfl,H1.out,H2.out⟩,Hb.out⟩
end ksp
namespace ksh
open Go Go.RowKit
open arr mem keca kstep kturn spok samc rsdoc
theorem shake_any {T:Array Value} (gt:Nat) (x:ByteArray) (n:Nat) (w:World) (hK:KT T TL RL) (hP:Gp w) (hrow:w.heap[gt]? = some (.cells T 34 (0,0))) (hn:n≤50000) (hx:x.size≤1125899906842624):
 Calls Tryz.prog 62 #[.pointer (some ⟨gt,0,none⟩),.string x,.int .i64 (n:Int)] w fun e w'=>e=.returned (.string (out TL RL 2 x n))∧Below w.heap.size w w':=by
 have HS:=Away.mk (fun w1 hb=>qdoc.shake 2 x n w hK hP (Or.inr rfl) hn hx w1 hb)
 have HTz:Away ((Tryz.prog.info? 34).map (·.size)=some T.size):=⟨infoT T hK⟩
 have HR:=Away.mk hrow
 obtain⟨Y,HY⟩:=ex_eq (out TL RL 2 x n)
 rw[HY.out]at HS ⊢
 clear hK hP hrow hn hx HY
 go_enter Tryz.func62,Tryz.ntmps62
 go_wp2_with (refine wpList_load_row rfl 34 _ rfl gt rfl 34 T (0,0) _ HR.out Tryz.underlying34 rfl HTz.out ?_)
 refine(HS.out _ (Below.refl _ _)).mono ?_
 rintro e w5 ⟨rfl,hb5⟩
 go_wp2_with fail
 go_ret
 exact⟨rfl,hb5⟩
end ksh
end Go.Proofs.YtomphjajkkddkaaGreatDoor
