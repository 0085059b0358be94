/-
  What keccak's own mix does: the state behind a pointer is mixed; all other memory that was there sta
-/
import Derived.Test.YtomphjajkkddkaaGreatDoorZs03
import Derived.Test.YtomphjajkkddkaaGreatDoorProg
import Derived.Test.YtomphjajkkddkaaGreatDoorRows
import Derived.Test.YtomphjajkkddkaaGreatDoorZs02
import Derived.Test.YtomphjajkkddkaaGreatDoorZs01
import Derived.LaidMore
import Derived.OpenShut
import Derived.Stop.Joined
set_option maxRecDepth 100000
set_option maxHeartbeats 16000000
set_option linter.unusedSimpArgs false
set_option linter.unusedVariables false
open Go Go.RowKit
open Go renaming World->G,Calls->aD,Value->aE,TypeId->aH,Program->aI
open Go.RowKit renaming intOf->aG
open Go.Instr renaming index->aN
open Go.Value renaming int->O,agg->I,tuple->aA,pointer->aC
open Go.IntKind renaming i64->J
open Go.Obj renaming cells->Y
open Go.Proofs.Tryz renaming prog->aO
namespace Go.Proofs.YtomphjajkkddkaaGreatDoor
abbrev iL:=@Go.wpList_load_row
abbrev iV:=@Go.bodyPost_ret_by
abbrev iY:=@Go.zero_of_info
abbrev jD:=@Go.setRow_heap
abbrev jR:=@Go.wpStill_nil
namespace kmix
open Go.RowKit
open arr mem bJ dL
theorem rot1(x r:Nat)(w:G)(hx:x<18446744073709551616)(hr:rol x 1=r):
 aD aO 215 #[O .u64 (x:Int),O J 1] w (zE w (O .u64 (r:Int))):=by
 subst hr;exact rols.xq3 x 1 w hx (by decide)
theorem xez(ga:Nat)(a:List Nat)(w:G)(h:St a)(hA:w.heap[ga]? = some (Y (LK .u64 a) 162 (0,0))):
 aD aO 211 #[aC (some ⟨ga,0,none⟩)] w fun e w'=>e=.returned (.tuple #[])/\At ga (LK .u64 (cO a)) 162 w w':=by
 have H:=D h;have HA:=D hA;obtain⟨y0,hy0⟩:=aP (g a 0);have c0:=fH h.len hA 0 y0 (by decide) hy0;have l0:y0<18446744073709551616:=hy0 ▸ h.lt 0;obtain⟨y1,hy1⟩:=aP (g a 1);have c1:=fH h.len hA 1 y1 (by decide) hy1;have l1:y1<18446744073709551616:=hy1 ▸ h.lt 1;obtain⟨y2,hy2⟩:=aP (g a 2);have c2:=fH h.len hA 2 y2 (by decide) hy2;have l2:y2<18446744073709551616:=hy2 ▸ h.lt 2;obtain⟨y3,hy3⟩:=aP (g a 3);have c3:=fH h.len hA 3 y3 (by decide) hy3;have l3:y3<18446744073709551616:=hy3 ▸ h.lt 3;obtain⟨y4,hy4⟩:=aP (g a 4);have c4:=fH h.len hA 4 y4 (by decide) hy4;have l4:y4<18446744073709551616:=hy4 ▸ h.lt 4;obtain⟨y5,hy5⟩:=aP (g a 5);have c5:=fH h.len hA 5 y5 (by decide) hy5;have l5:y5<18446744073709551616:=hy5 ▸ h.lt 5;obtain⟨y6,hy6⟩:=aP (g a 6);have c6:=fH h.len hA 6 y6 (by decide) hy6;have l6:y6<18446744073709551616:=hy6 ▸ h.lt 6;obtain⟨y7,hy7⟩:=aP (g a 7);have c7:=fH h.len hA 7 y7 (by decide) hy7;have l7:y7<18446744073709551616:=hy7 ▸ h.lt 7;obtain⟨y8,hy8⟩:=aP (g a 8);have c8:=fH h.len hA 8 y8 (by decide) hy8;have l8:y8<18446744073709551616:=hy8 ▸ h.lt 8;obtain⟨y9,hy9⟩:=aP (g a 9);have c9:=fH h.len hA 9 y9 (by decide) hy9;have l9:y9<18446744073709551616:=hy9 ▸ h.lt 9;obtain⟨y10,hy10⟩:=aP (g a 10);have c10:=fH h.len hA 10 y10 (by decide) hy10;have l10:y10<18446744073709551616:=hy10 ▸ h.lt 10;obtain⟨y11,hy11⟩:=aP (g a 11);have c11:=fH h.len hA 11 y11 (by decide) hy11;have l11:y11<18446744073709551616:=hy11 ▸ h.lt 11;obtain⟨y12,hy12⟩:=aP (g a 12);have c12:=fH h.len hA 12 y12 (by decide) hy12;have l12:y12<18446744073709551616:=hy12 ▸ h.lt 12
 obtain⟨y13,hy13⟩:=aP (g a 13);have c13:=fH h.len hA 13 y13 (by decide) hy13;have l13:y13<18446744073709551616:=hy13 ▸ h.lt 13;obtain⟨y14,hy14⟩:=aP (g a 14);have c14:=fH h.len hA 14 y14 (by decide) hy14;have l14:y14<18446744073709551616:=hy14 ▸ h.lt 14;obtain⟨y15,hy15⟩:=aP (g a 15);have c15:=fH h.len hA 15 y15 (by decide) hy15;have l15:y15<18446744073709551616:=hy15 ▸ h.lt 15;obtain⟨y16,hy16⟩:=aP (g a 16);have c16:=fH h.len hA 16 y16 (by decide) hy16;have l16:y16<18446744073709551616:=hy16 ▸ h.lt 16;obtain⟨y17,hy17⟩:=aP (g a 17);have c17:=fH h.len hA 17 y17 (by decide) hy17;have l17:y17<18446744073709551616:=hy17 ▸ h.lt 17;obtain⟨y18,hy18⟩:=aP (g a 18);have c18:=fH h.len hA 18 y18 (by decide) hy18;have l18:y18<18446744073709551616:=hy18 ▸ h.lt 18;obtain⟨y19,hy19⟩:=aP (g a 19);have c19:=fH h.len hA 19 y19 (by decide) hy19;have l19:y19<18446744073709551616:=hy19 ▸ h.lt 19;obtain⟨y20,hy20⟩:=aP (g a 20);have c20:=fH h.len hA 20 y20 (by decide) hy20;have l20:y20<18446744073709551616:=hy20 ▸ h.lt 20;obtain⟨y21,hy21⟩:=aP (g a 21);have c21:=fH h.len hA 21 y21 (by decide) hy21;have l21:y21<18446744073709551616:=hy21 ▸ h.lt 21;obtain⟨y22,hy22⟩:=aP (g a 22);have c22:=fH h.len hA 22 y22 (by decide) hy22;have l22:y22<18446744073709551616:=hy22 ▸ h.lt 22;obtain⟨y23,hy23⟩:=aP (g a 23);have c23:=fH h.len hA 23 y23 (by decide) hy23;have l23:y23<18446744073709551616:=hy23 ▸ h.lt 23;obtain⟨y24,hy24⟩:=aP (g a 24);have c24:=fH h.len hA 24 y24 (by decide) hy24;have l24:y24<18446744073709551616:=hy24 ▸ h.lt 24
 obtain⟨k0,hk0⟩:=aP (kc a 0);have m0:k0<18446744073709551616:=hk0 ▸ xb3 h 0;have E0:=xor5 y0 y5 y10 y15 y20 k0 l0 l5 l10 l15 l20 (by rw[<-hk0];show _=g a 0 ^^^ g a 5 ^^^ g a 10 ^^^ g a 15 ^^^ g a 20;rw[hy0,hy5,hy10,hy15,hy20]);obtain⟨r0,hr0⟩:=aP (rol (kc a 0) 1);have n0:r0<18446744073709551616:=hr0 ▸ xee _ _ (xb3 h 0);obtain⟨k1,hk1⟩:=aP (kc a 1);have m1:k1<18446744073709551616:=hk1 ▸ xb3 h 1;have E1:=xor5 y1 y6 y11 y16 y21 k1 l1 l6 l11 l16 l21 (by rw[<-hk1];show _=g a 1 ^^^ g a 6 ^^^ g a 11 ^^^ g a 16 ^^^ g a 21;rw[hy1,hy6,hy11,hy16,hy21]);obtain⟨r1,hr1⟩:=aP (rol (kc a 1) 1);have n1:r1<18446744073709551616:=hr1 ▸ xee _ _ (xb3 h 1);obtain⟨k2,hk2⟩:=aP (kc a 2);have m2:k2<18446744073709551616:=hk2 ▸ xb3 h 2;have E2:=xor5 y2 y7 y12 y17 y22 k2 l2 l7 l12 l17 l22 (by rw[<-hk2];show _=g a 2 ^^^ g a 7 ^^^ g a 12 ^^^ g a 17 ^^^ g a 22;rw[hy2,hy7,hy12,hy17,hy22]);obtain⟨r2,hr2⟩:=aP (rol (kc a 2) 1);have n2:r2<18446744073709551616:=hr2 ▸ xee _ _ (xb3 h 2);obtain⟨k3,hk3⟩:=aP (kc a 3);have m3:k3<18446744073709551616:=hk3 ▸ xb3 h 3;have E3:=xor5 y3 y8 y13 y18 y23 k3 l3 l8 l13 l18 l23 (by rw[<-hk3];show _=g a 3 ^^^ g a 8 ^^^ g a 13 ^^^ g a 18 ^^^ g a 23;rw[hy3,hy8,hy13,hy18,hy23]);obtain⟨r3,hr3⟩:=aP (rol (kc a 3) 1);have n3:r3<18446744073709551616:=hr3 ▸ xee _ _ (xb3 h 3);obtain⟨k4,hk4⟩:=aP (kc a 4);have m4:k4<18446744073709551616:=hk4 ▸ xb3 h 4;have E4:=xor5 y4 y9 y14 y19 y24 k4 l4 l9 l14 l19 l24 (by rw[<-hk4];show _=g a 4 ^^^ g a 9 ^^^ g a 14 ^^^ g a 19 ^^^ g a 24;rw[hy4,hy9,hy14,hy19,hy24]);obtain⟨r4,hr4⟩:=aP (rol (kc a 4) 1)
 have n4:r4<18446744073709551616:=hr4 ▸ xee _ _ (xb3 h 4);obtain⟨d0,hd0⟩:=aP (kd a 0);have D0:=fN k4 r1 d0 m4 n1 (xfw a 0 4 1 k4 r1 d0 rfl rfl hk4 hr1 hd0);have b0:d0<18446744073709551616:=hd0 ▸ xex h 0;have Hd0:=D hd0;have R0:U (rol k0 1=r0):=⟨by rw[<-hk0,hr0]⟩;obtain⟨d1,hd1⟩:=aP (kd a 1);have D1:=fN k0 r2 d1 m0 n2 (xfw a 1 0 2 k0 r2 d1 rfl rfl hk0 hr2 hd1);have b1:d1<18446744073709551616:=hd1 ▸ xex h 1;have Hd1:=D hd1;have R1:U (rol k1 1=r1):=⟨by rw[<-hk1,hr1]⟩;obtain⟨d2,hd2⟩:=aP (kd a 2);have D2:=fN k1 r3 d2 m1 n3 (xfw a 2 1 3 k1 r3 d2 rfl rfl hk1 hr3 hd2);have b2:d2<18446744073709551616:=hd2 ▸ xex h 2;have Hd2:=D hd2;have R2:U (rol k2 1=r2):=⟨by rw[<-hk2,hr2]⟩;obtain⟨d3,hd3⟩:=aP (kd a 3);have D3:=fN k2 r4 d3 m2 n4 (xfw a 3 2 4 k2 r4 d3 rfl rfl hk2 hr4 hd3);have b3:d3<18446744073709551616:=hd3 ▸ xex h 3;have Hd3:=D hd3;have R3:U (rol k3 1=r3):=⟨by rw[<-hk3,hr3]⟩;obtain⟨d4,hd4⟩:=aP (kd a 4);have D4:=fN k3 r0 d4 m3 n0 (xfw a 4 3 0 k3 r0 d4 rfl rfl hk3 hr0 hd4);have b4:d4<18446744073709551616:=hd4 ▸ xex h 4;have Hd4:=D hd4;have R4:U (rol k4 1=r4):=⟨by rw[<-hk4,hr4]⟩;clear hy0 hy1 hy2 hy3 hy4 hy5 hy6 hy7 hy8 hy9 hy10 hy11 hy12 hy13 hy14 hy15 hy16 hy17 hy18 hy19 hy20 hy21 hy22 hy23 hy24 l0 l1 l2 l3 l4 l5 l6 l7 l8 l9 l10 l11 l12 l13 l14 l15 l16 l17 l18 l19 l20 l21 l22 l23 l24 hk0 hr0 hd0 hk1 hr1 hd1 hk2 hr2 hd2 hk3 hr3 hd3 hk4 hr4 hd4;clear h hA;go_enter Tryz.func211,Tryz.ntmps211;iterate 5 (go_wp2_with fail;refine xav (by kernel_rfl) (by kernel_rfl) ?_;(repeat still_step);refine jR ?_)
 go_wp2_with fail;clear c0 c1 c2 c3 c4 c5 c6 c7 c8 c9 c10 c11 c12 c13 c14 c15 c16 c17 c18 c19 c20 c21 c22 c23 c24 E0 E1 E2 E3 E4;refine(rot1 k1 r1 _ m1 R1.o).mono ?_;rintro e w1 ⟨rfl,rfl⟩;go_wp2_with fail;refine(rot1 k2 r2 _ m2 R2.o).mono ?_;rintro e w1 ⟨rfl,rfl⟩;go_wp2_with fail;refine(rot1 k3 r3 _ m3 R3.o).mono ?_;rintro e w1 ⟨rfl,rfl⟩;go_wp2_with fail;refine(rot1 k4 r4 _ m4 R4.o).mono ?_;rintro e w1 ⟨rfl,rfl⟩;go_wp2_with fail;refine(rot1 k0 r0 _ m0 R0.o).mono ?_;rintro e w1 ⟨rfl,rfl⟩;go_wp2_with fail;clear D0 D1 D2 D3 D4 R0 R1 R2 R3 R4 n0 m0   n1 m1   n2 m2   n3 m3   n4 m4;have hlane:∀ n:Nat,n<25->g a n<18446744073709551616:=fun n _=>H.o.lt n
 go_loopw [12] (fun i wr=>∃ n:Nat,n<=25/\n%5=0/\i=O J (n:Int)/\U (At ga (LK .u64 (bJ.part (fun i=>i) (fun i=>g a i ^^^ kd a i) (g a) n)) 162 w wr)) (fun i _=>25-(aG i).toNat)
 case atStart=>
  refine⟨0,by decide,rfl,rfl,⟨?_⟩⟩;rw[xha,xcu H.o.len];exact eN (eN (eN (eN (eN (At.refl HA.o)))))
 case round=>
  obtain⟨n,hn,hm,rfl,HR0⟩:=hrel;by_cases hlt:n<25
  ·have hn20:n<=20:=by omega
   clear hn hlt;have u0:n<25:=by omega
   have z0:(n:Int)<25:=by omega
   obtain⟨x0,hx0⟩:=aP (g a n);obtain⟨v0,hv0⟩:=aP (g a n ^^^ kd a n);have V0:=fN x0 d0 v0 (hx0 ▸ H.o.lt _) b0 (by rw[<-hv0,<-hx0,xfx a n 0 (by omega),Hd0.o]);have S0:U ((LK .u64 (bJ.part (fun i=>i) (fun i=>g a i ^^^ kd a i) (g a) n)).setIfInBounds n (O .u64 (v0:Int))=LK .u64 (bJ.part (fun i=>i) (fun i=>g a i ^^^ kd a i) (g a) (n+1))):=⟨by rw[xch n v0 u0 rfl (fun i _ e=>e) hv0]⟩;have Hx0:=D hx0;clear hv0 hx0;obtain⟨q1,hq1⟩:∃ x,x=n+1:=⟨_,rfl⟩;have wr1:J.wrap ((n:Int)+1)=(q1:Int):=bB;have u1:q1<25:=by omega
   have z1:(q1:Int)<25:=by omega
   obtain⟨x1,hx1⟩:=aP (g a q1);obtain⟨v1,hv1⟩:=aP (g a q1 ^^^ kd a q1);have V1:=fN x1 d1 v1 (hx1 ▸ H.o.lt _) b1 (by rw[<-hv1,<-hx1,xfx a q1 1 (by omega),Hd1.o]);have S1:U ((LK .u64 (bJ.part (fun i=>i) (fun i=>g a i ^^^ kd a i) (g a) q1)).setIfInBounds q1 (O .u64 (v1:Int))=LK .u64 (bJ.part (fun i=>i) (fun i=>g a i ^^^ kd a i) (g a) (n+2))):=⟨by rw[xch q1 v1 u1 rfl (fun i _ e=>e) hv1];rw[hq1]⟩;have Hx1:=D hx1;clear hv1 hx1;obtain⟨q2,hq2⟩:∃ x,x=n+2:=⟨_,rfl⟩;have wr2:J.wrap ((n:Int)+2)=(q2:Int):=bB;have u2:q2<25:=by omega
   have z2:(q2:Int)<25:=by omega
   obtain⟨x2,hx2⟩:=aP (g a q2);obtain⟨v2,hv2⟩:=aP (g a q2 ^^^ kd a q2);have V2:=fN x2 d2 v2 (hx2 ▸ H.o.lt _) b2 (by rw[<-hv2,<-hx2,xfx a q2 2 (by omega),Hd2.o]);have S2:U ((LK .u64 (bJ.part (fun i=>i) (fun i=>g a i ^^^ kd a i) (g a) q2)).setIfInBounds q2 (O .u64 (v2:Int))=LK .u64 (bJ.part (fun i=>i) (fun i=>g a i ^^^ kd a i) (g a) (n+3))):=⟨by rw[xch q2 v2 u2 rfl (fun i _ e=>e) hv2];rw[hq2]⟩;have Hx2:=D hx2;clear hv2 hx2;obtain⟨q3,hq3⟩:∃ x,x=n+3:=⟨_,rfl⟩;have wr3:J.wrap ((n:Int)+3)=(q3:Int):=bB;have u3:q3<25:=by omega
   have z3:(q3:Int)<25:=by omega
   obtain⟨x3,hx3⟩:=aP (g a q3);obtain⟨v3,hv3⟩:=aP (g a q3 ^^^ kd a q3);have V3:=fN x3 d3 v3 (hx3 ▸ H.o.lt _) b3 (by rw[<-hv3,<-hx3,xfx a q3 3 (by omega),Hd3.o]);have S3:U ((LK .u64 (bJ.part (fun i=>i) (fun i=>g a i ^^^ kd a i) (g a) q3)).setIfInBounds q3 (O .u64 (v3:Int))=LK .u64 (bJ.part (fun i=>i) (fun i=>g a i ^^^ kd a i) (g a) (n+4))):=⟨by rw[xch q3 v3 u3 rfl (fun i _ e=>e) hv3];rw[hq3]⟩;have Hx3:=D hx3;clear hv3 hx3;obtain⟨q4,hq4⟩:∃ x,x=n+4:=⟨_,rfl⟩;have wr4:J.wrap ((n:Int)+4)=(q4:Int):=bB;have u4:q4<25:=by omega
   have z4:(q4:Int)<25:=by omega
   obtain⟨x4,hx4⟩:=aP (g a q4);obtain⟨v4,hv4⟩:=aP (g a q4 ^^^ kd a q4);have V4:=fN x4 d4 v4 (hx4 ▸ H.o.lt _) b4 (by rw[<-hv4,<-hx4,xfx a q4 4 (by omega),Hd4.o]);have S4:U ((LK .u64 (bJ.part (fun i=>i) (fun i=>g a i ^^^ kd a i) (g a) q4)).setIfInBounds q4 (O .u64 (v4:Int))=LK .u64 (bJ.part (fun i=>i) (fun i=>g a i ^^^ kd a i) (g a) (n+5))):=⟨by rw[xch q4 v4 u4 rfl (fun i _ e=>e) hv4];rw[hq4]⟩;have Hx4:=D hx4;clear hv4 hx4;have Hq:U (n%5=0/\q1=n+1/\q2=n+2/\q3=n+3/\q4=n+4):=⟨hm,hq1,hq2,hq3,hq4⟩;clear hm hq1 hq2 hq3 hq4 b0 b1 b2 b3 b4;have c0:wr.cell? ⟨ga,n,none⟩=some (O .u64 (x0:Int)):=aZ HR0.o.row (by rw[xd2 (xcw _ _ _ _) _ u0,xg9 _ _ _ _ _ u0 (by first | exact iM _ | (obtain⟨_,h1,h2,h3,h4⟩:=Hq.o;omega)),Hx0.o]);have f0:wr.frozen? ⟨ga,n,none⟩=false:=HR0.o.frozen n;go_wp2_with fail;refine gZ 9 (by kernel_rfl) (by kernel_rfl) ?_;simp only[jH,jU,iW,jK];repeat still_step
   refine jR ?_;go_wp2_with fail;have HR1:U (At ga (LK .u64 (bJ.part (fun i=>i) (fun i=>g a i ^^^ kd a i) (g a) (n+1))) 162 w (wr.setCell ⟨ga,n,none⟩ (O .u64 (v0:Int))).drew):=⟨by rw[<-S0.o];exact eN (xcz (HR0.o) _ _)⟩;obtain⟨w1,hw1⟩:=aP ((wr.setCell ⟨ga,n,none⟩ (O .u64 (v0:Int))).drew);rw[hw1]at HR1;rw[hw1];clear hw1 c0 f0 V0 S0 HR0;rw[show n+1=q1 by have:=Hq.o;omega]at HR1;have c1:w1.cell? ⟨ga,q1,none⟩=some (O .u64 (x1:Int)):=aZ HR1.o.row (by rw[xd2 (xcw _ _ _ _) _ u1,xg9 _ _ _ _ _ u1 (by first | exact iM _ | (obtain⟨_,h1,h2,h3,h4⟩:=Hq.o;omega)),Hx1.o]);have f1:w1.frozen? ⟨ga,q1,none⟩=false:=HR1.o.frozen q1;skip
   refine gZ 10 (by kernel_rfl) (by kernel_rfl) ?_;simp only[jH,jU,iW,jK];repeat still_step
   refine jR ?_;go_wp2_with fail;have HR2:U (At ga (LK .u64 (bJ.part (fun i=>i) (fun i=>g a i ^^^ kd a i) (g a) (n+2))) 162 w (w1.setCell ⟨ga,q1,none⟩ (O .u64 (v1:Int))).drew):=⟨by rw[<-S1.o];exact eN (xcz (HR1.o) _ _)⟩;obtain⟨w2,hw2⟩:=aP ((w1.setCell ⟨ga,q1,none⟩ (O .u64 (v1:Int))).drew);rw[hw2]at HR2;rw[hw2];clear hw2 c1 f1 V1 S1 HR1;rw[show n+2=q2 by have:=Hq.o;omega]at HR2;have c2:w2.cell? ⟨ga,q2,none⟩=some (O .u64 (x2:Int)):=aZ HR2.o.row (by rw[xd2 (xcw _ _ _ _) _ u2,xg9 _ _ _ _ _ u2 (by first | exact iM _ | (obtain⟨_,h1,h2,h3,h4⟩:=Hq.o;omega)),Hx2.o]);have f2:w2.frozen? ⟨ga,q2,none⟩=false:=HR2.o.frozen q2;skip
   refine gZ 10 (by kernel_rfl) (by kernel_rfl) ?_;simp only[jH,jU,iW,jK];repeat still_step
   refine jR ?_;go_wp2_with fail;have HR3:U (At ga (LK .u64 (bJ.part (fun i=>i) (fun i=>g a i ^^^ kd a i) (g a) (n+3))) 162 w (w2.setCell ⟨ga,q2,none⟩ (O .u64 (v2:Int))).drew):=⟨by rw[<-S2.o];exact eN (xcz (HR2.o) _ _)⟩;obtain⟨w3,hw3⟩:=aP ((w2.setCell ⟨ga,q2,none⟩ (O .u64 (v2:Int))).drew);rw[hw3]at HR3;rw[hw3];clear hw3 c2 f2 V2 S2 HR2;rw[show n+3=q3 by have:=Hq.o;omega]at HR3;have c3:w3.cell? ⟨ga,q3,none⟩=some (O .u64 (x3:Int)):=aZ HR3.o.row (by rw[xd2 (xcw _ _ _ _) _ u3,xg9 _ _ _ _ _ u3 (by first | exact iM _ | (obtain⟨_,h1,h2,h3,h4⟩:=Hq.o;omega)),Hx3.o]);have f3:w3.frozen? ⟨ga,q3,none⟩=false:=HR3.o.frozen q3;skip
   refine gZ 10 (by kernel_rfl) (by kernel_rfl) ?_;simp only[jH,jU,iW,jK];repeat still_step
   refine jR ?_;go_wp2_with fail;have HR4:U (At ga (LK .u64 (bJ.part (fun i=>i) (fun i=>g a i ^^^ kd a i) (g a) (n+4))) 162 w (w3.setCell ⟨ga,q3,none⟩ (O .u64 (v3:Int))).drew):=⟨by rw[<-S3.o];exact eN (xcz (HR3.o) _ _)⟩;obtain⟨w4,hw4⟩:=aP ((w3.setCell ⟨ga,q3,none⟩ (O .u64 (v3:Int))).drew);rw[hw4]at HR4;rw[hw4];clear hw4 c3 f3 V3 S3 HR3;rw[show n+4=q4 by have:=Hq.o;omega]at HR4;have c4:w4.cell? ⟨ga,q4,none⟩=some (O .u64 (x4:Int)):=aZ HR4.o.row (by rw[xd2 (xcw _ _ _ _) _ u4,xg9 _ _ _ _ _ u4 (by first | exact iM _ | (obtain⟨_,h1,h2,h3,h4⟩:=Hq.o;omega)),Hx4.o]);have f4:w4.frozen? ⟨ga,q4,none⟩=false:=HR4.o.frozen q4;skip
   refine gZ 10 (by kernel_rfl) (by kernel_rfl) ?_;simp only[jH,jU,iW,jK];repeat still_step
   refine jR ?_;go_wp2_with fail;have HR5:U (At ga (LK .u64 (bJ.part (fun i=>i) (fun i=>g a i ^^^ kd a i) (g a) (n+5))) 162 w (w4.setCell ⟨ga,q4,none⟩ (O .u64 (v4:Int))).drew):=⟨by rw[<-S4.o];exact eN (xcz (HR4.o) _ _)⟩;go_roundw
   case rel=>exact⟨n+5,by have:=Hq.o;omega,by have:=Hq.o;omega,by go_num,HR5⟩
   case measure=>simp[aG];omega
  ·obtain rfl:n=25:=by omega
   simp only[jE];go_wp2_with fail;refine bodyPost_end (v:=.tuple #[]) (results_none rfl _ _ _) rfl ?_;have h:=HR0.o;rw[xg8 _ _ _ _ (fun i hi=>hi)]at h;exact⟨rfl,h⟩
end kmix
namespace bT
open Go.RowKit
open arr mem bJ dL
def PL:List Nat:=[0,10,20,5,15,16,1,11,21,6,7,17,2,12,22,23,8,18,3,13,14,24,9,19,4]
theorem pl_dst:∀ k:Fin 25,PL.getD k.val 0=dst k.val:=by decide
def Gp(w:G):Prop:=∃ t,w.heap[3]? = some (Y (LK J PL) t (0,0))
theorem xgw{w:G}(h:Gp w) : 3<w.heap.size:=by
 obtain⟨t,h⟩:=h;exact bI h
theorem Gp.later{w w':G}(h:Gp w)(hb:zb w w'):Gp w':=by
 have hl:=xgw h;obtain⟨t,h⟩:=h;exact⟨t,(hb.block _ hl).trans h⟩
theorem Gp.at{w w':G}{g:Nat}{C:Array aE}{t:aH}(h:Gp w)(hb:At g C t w w')(hg:g≠3):Gp w':=by
 have hl:=xgw h;obtain⟨tt,h⟩:=h;exact⟨tt,hb.other hl (Ne.symm hg) h⟩
def tl(ts a:List Nat)(j:Nat):Nat:=rol (g a (src j)) (ts.getD (src j) 0%64)
theorem xr7(ts a:List Nat):cW (fun i=>ts.getD i 0) a=mkS (tl ts a):=rfl
theorem xm3(gt ga gu o:Nat)(Dq a ts:List Nat)(w:G)(hD:Dq.length=25)(h:St a)(ht:∀ i,ts.getD i 0<9223372036854775808)(hP:Gp w)
 (hT:w.heap[gt]? = some (Y (LK .u64 Dq) 162 (0,0))) (hA:w.heap[ga]? = some (Y (LK .u64 a) 162 (0,0)))
 (hU:∀ i,i<25->w.cell? ⟨gu,o+i,none⟩=some (O J ((ts.getD i 0:Nat):Int))) (hga:ga≠gt) (hgu:gu≠gt) (hgl:gu<w.heap.size):
 aD aO 212 #[aC (some ⟨gt,0,none⟩),aC (some ⟨ga,0,none⟩),aC (some ⟨gu,o,none⟩)] w fun e w'=>e=.returned (.tuple #[])/\At gt (LK .u64 (cW (fun i=>ts.getD i 0) a)) 162 w w':=by
 rw[xr7];have H:=D h;have HA:=D hA;have HT:=D hT;have HD:=D hD;have HU:=D hU;have Ht:=D ht;have Hga:=D hga;have Hgu:=D hgu;have Hgl:=D hgl;have Hal:=D (bI hA);obtain⟨tp,hP1⟩:=hP;have hpl:∀ k,k<25->PL.getD k 0=dst k:=fun k hk=>pl_dst ⟨k,hk⟩
 have hpz:PL.length=25:=rfl;obtain⟨PV,HPV⟩:=aQ PL;rw[HPV.o]at hP1 hpl hpz;have HP:=D hP1;have Hpl:=D hpl;have Hpz:=D hpz;have Hps:U ((aO.info? 31).map (·.size)=some (LK J PV).size):=⟨by rw[fE,hpz];kernel_rfl⟩;clear h hA hT hD hU ht hga hgu hgl hP1 hpl hpz HPV;go_enter Tryz.func212,Tryz.ntmps212;go_wp2_with (refine iL rfl 31 _ rfl 3 rfl tp _ (0,0) _ HP.o Tryz.underlying31 rfl Hps.o ?_);go_loopw [9] (fun i wr=>∃ k:Nat,k<=25/\i=O J (k:Int)/\U (At gt (LK .u64 (bJ.part src (tl ts a) (g Dq) k)) 162 w wr)) (fun i _=>25-(aG i).toNat)
 case atStart=>
  refine⟨0,by decide,rfl,⟨?_⟩⟩;rw[xha,xcu HD.o];exact At.refl HT.o
 case round=>
  obtain⟨k,hk,rfl,HR⟩:=hrel;by_cases hlt:k<25
  ·have hag:∀ w:G,(aN 31 (I (LK J PV)) (O J (k:Int))).run aO w=.ok (O J ((dst k:Nat):Int)) w:=fun w=>
    xct Tryz.underlying31 (by kernel_rfl) (by kernel_rfl) (by kernel_rfl) _ _ k hlt (by rw[gC _ _ _ (by rw[Hpz.o];exact hlt),Hpl.o k hlt]) w
   obtain⟨j,hj⟩:=aP (dst k);rw[hj]at hag;have hj25:j<25:=hj ▸ dst_lt k hlt;have hjz:(j:Int)<25:=by omega
   have hkz:(k:Int)<25:=by omega
   have hsj:src j=k:=hj ▸ xy6 ⟨k,hlt⟩;obtain⟨x,hx⟩:=aP (g a k);have bx:x<18446744073709551616:=hx ▸ H.o.lt k;obtain⟨t,htt⟩:=aP (ts.getD k 0);have bt:t<9223372036854775808:=htt ▸ Ht.o k;have cx:=fH H.o.len (HR.o.other Hal.o Hga.o HA.o) k x hlt hx;have ct:wr.cell? ⟨gu,o+k,none⟩=some (O J (t:Int)):=by
    have h1:=HU.o k hlt;rw[htt]at h1;rw[<-h1];unfold World.cell?;rw[HR.o.block gu Hgl.o Hgu.o]
   have HS:U ((LK .u64 (bJ.part src (tl ts a) (g Dq) k)).setIfInBounds j (O .u64 ((rol x (t%64):Nat):Int))=LK .u64 (bJ.part src (tl ts a) (g Dq) (k+1))):=⟨xch j _ hj25 hsj (fun i hi e=>by have:=xkv ⟨i,hi⟩;simp only at this;rw[<-this,e,hj]) (by rw[tl,hsj,hx,htt])⟩;clear hsj hx htt hj;go_wp2_with fail;refine gZ 15 (by kernel_rfl) (by kernel_rfl) ?_;simp only[jH,jU,iW,jK];repeat still_step
   still_call (rols.xq3 x t _ bx bt)
   repeat still_step
   refine jR ?_;have HR1:U (At gt (LK .u64 (bJ.part src (tl ts a) (g Dq) k)) 162 w wr.drew):=⟨eN HR.o⟩;clear cx ct
   with_reducible refine cU HR1 rfl _ _ _ rfl rfl ?_
   refine⟨_,_,_,rfl,rfl,rfl,by rw[lk25 _ (xcw _ _ _ _)];exact hj25,?_⟩;intro wn HRn;rw[HS.o]at HRn;clear hag HS HR1;go_wp2_with fail;go_roundw
   case rel=>exact⟨k+1,by omega,by go_num,HRn⟩
   case measure=>simp[aG];omega
  ·obtain rfl:k=25:=by omega
   simp only[jE];go_wp2_with fail;refine bodyPost_end (v:=.tuple #[]) (results_none rfl _ _ _) rfl ?_;have h:=HR.o;rw[xg8 _ _ _ _ (fun i hi=>xmx i hi)]at h;exact⟨rfl,h⟩
end bT
namespace fU
open Go.RowKit
open arr mem bJ dL
def bl(a:List Nat)(i:Nat):Nat:=g a i ^^^ (eS (g a ((i%5+1)%5+5*(i / 5))) &&& g a ((i%5+2)%5+5*(i / 5)))
theorem xdu(a:List Nat)(i p q x y z r:Nat)(hp:(i%5+1)%5+5*(i / 5)=p)(hq:(i%5+2)%5+5*(i / 5)=q)(hx:g a i=x)(hy:g a p=y)(hz:g a q=z)(hr:bl a i=r):x ^^^ (eS y &&& z)=r:=by
 rw[<-hr,bl,hp,hq,hx,hy,hz]
theorem xke(gb ga:Nat)(Dq a:List Nat)(w:G)(hD:Dq.length=25)(h:St a)(hB:w.heap[gb]? = some (Y (LK .u64 Dq) 162 (0,0)))(hA:w.heap[ga]? = some (Y (LK .u64 a) 162 (0,0)))(hne:ga≠gb):
 aD aO 213 #[aC (some ⟨gb,0,none⟩),aC (some ⟨ga,0,none⟩)] w fun e w'=>e=.returned (.tuple #[])/\At gb (LK .u64 (dH a)) 162 w w':=by
 have H:=D h;have HA:=D hA;have HB:=D hB;have HD:=D hD;have Hne:=D hne;have Hlt:=D (bI hA);clear h hA hB hD hne;go_enter Tryz.func213,Tryz.ntmps213;go_wp2_with fail;go_loopw [4] (fun i wr=>∃ n:Nat,n<=25/\n%5=0/\i=O J (n:Int)/\U (At gb (LK .u64 (bJ.part (fun i=>i) (bl a) (g Dq) n)) 162 w wr)) (fun i _=>25-(aG i).toNat)
 case atStart=>
  refine⟨0,by decide,rfl,rfl,⟨?_⟩⟩;rw[xha,xcu HD.o];exact At.refl HB.o
 case round=>
  obtain⟨n,hn,hm,rfl,HR0⟩:=hrel;by_cases hlt:n<25
  ·have hn20:n<=20:=by omega
   have hA2:=HR0.o.other Hlt.o Hne.o HA.o;clear hn hlt;have u0:n<25:=by omega
   have z0:(n:Int)<25:=by omega
   obtain⟨x0,hx0⟩:=aP (g a n);have b0:x0<18446744073709551616:=hx0 ▸ H.o.lt _;have c0:=fH H.o.len hA2 n x0 u0 hx0;obtain⟨q1,hq1⟩:∃ x,x=n+1:=⟨_,rfl⟩;have wr1:J.wrap ((n:Int)+1)=(q1:Int):=bB;have ws1:(n:Int)+1=(q1:Int):=by omega
   have u1:q1<25:=by omega
   have z1:(q1:Int)<25:=by omega
   obtain⟨x1,hx1⟩:=aP (g a q1);have b1:x1<18446744073709551616:=hx1 ▸ H.o.lt _;have c1:=fH H.o.len hA2 q1 x1 u1 hx1;obtain⟨q2,hq2⟩:∃ x,x=n+2:=⟨_,rfl⟩;have wr2:J.wrap ((n:Int)+2)=(q2:Int):=bB;have ws2:(n:Int)+2=(q2:Int):=by omega
   have u2:q2<25:=by omega
   have z2:(q2:Int)<25:=by omega
   obtain⟨x2,hx2⟩:=aP (g a q2);have b2:x2<18446744073709551616:=hx2 ▸ H.o.lt _;have c2:=fH H.o.len hA2 q2 x2 u2 hx2;obtain⟨q3,hq3⟩:∃ x,x=n+3:=⟨_,rfl⟩;have wr3:J.wrap ((n:Int)+3)=(q3:Int):=bB;have ws3:(n:Int)+3=(q3:Int):=by omega
   have u3:q3<25:=by omega
   have z3:(q3:Int)<25:=by omega
   obtain⟨x3,hx3⟩:=aP (g a q3);have b3:x3<18446744073709551616:=hx3 ▸ H.o.lt _;have c3:=fH H.o.len hA2 q3 x3 u3 hx3;obtain⟨q4,hq4⟩:∃ x,x=n+4:=⟨_,rfl⟩;have wr4:J.wrap ((n:Int)+4)=(q4:Int):=bB;have ws4:(n:Int)+4=(q4:Int):=by omega
   have u4:q4<25:=by omega
   have z4:(q4:Int)<25:=by omega
   obtain⟨x4,hx4⟩:=aP (g a q4);have b4:x4<18446744073709551616:=hx4 ▸ H.o.lt _;have c4:=fH H.o.len hA2 q4 x4 u4 hx4;obtain⟨v0,hv0⟩:=aP (bl a n);have V0:=bendz x0 x1 x2 v0 b0 b2 (xdu a n q1 q2 x0 x1 x2 v0 (by omega) (by omega) hx0 hx1 hx2 hv0);have S0:U ((LK .u64 (bJ.part (fun i=>i) (bl a) (g Dq) n)).setIfInBounds n (O .u64 (v0:Int))=LK .u64 (bJ.part (fun i=>i) (bl a) (g Dq) (n+1))):=⟨by rw[xch n v0 u0 rfl (fun i _ e=>e) hv0]⟩;obtain⟨v1,hv1⟩:=aP (bl a q1);have V1:=bendz x1 x2 x3 v1 b1 b3 (xdu a q1 q2 q3 x1 x2 x3 v1 (by omega) (by omega) hx1 hx2 hx3 hv1);have S1:U ((LK .u64 (bJ.part (fun i=>i) (bl a) (g Dq) q1)).setIfInBounds q1 (O .u64 (v1:Int))=LK .u64 (bJ.part (fun i=>i) (bl a) (g Dq) (n+2))):=⟨by rw[xch q1 v1 u1 rfl (fun i _ e=>e) hv1];rw[hq1]⟩;obtain⟨v2,hv2⟩:=aP (bl a q2);have V2:=bendz x2 x3 x4 v2 b2 b4 (xdu a q2 q3 q4 x2 x3 x4 v2 (by omega) (by omega) hx2 hx3 hx4 hv2);have S2:U ((LK .u64 (bJ.part (fun i=>i) (bl a) (g Dq) q2)).setIfInBounds q2 (O .u64 (v2:Int))=LK .u64 (bJ.part (fun i=>i) (bl a) (g Dq) (n+3))):=⟨by rw[xch q2 v2 u2 rfl (fun i _ e=>e) hv2];rw[hq2]⟩;obtain⟨v3,hv3⟩:=aP (bl a q3);have V3:=bendz x3 x4 x0 v3 b3 b0 (xdu a q3 q4 n x3 x4 x0 v3 (by omega) (by omega) hx3 hx4 hx0 hv3);have S3:U ((LK .u64 (bJ.part (fun i=>i) (bl a) (g Dq) q3)).setIfInBounds q3 (O .u64 (v3:Int))=LK .u64 (bJ.part (fun i=>i) (bl a) (g Dq) (n+4))):=⟨by rw[xch q3 v3 u3 rfl (fun i _ e=>e) hv3];rw[hq3]⟩;obtain⟨v4,hv4⟩:=aP (bl a q4);have V4:=bendz x4 x0 x1 v4 b4 b1 (xdu a q4 n q1 x4 x0 x1 v4 (by omega) (by omega) hx4 hx0 hx1 hv4)
   have S4:U ((LK .u64 (bJ.part (fun i=>i) (bl a) (g Dq) q4)).setIfInBounds q4 (O .u64 (v4:Int))=LK .u64 (bJ.part (fun i=>i) (bl a) (g Dq) (n+5))):=⟨by rw[xch q4 v4 u4 rfl (fun i _ e=>e) hv4];rw[hq4]⟩;have Hq:U (n%5=0/\q1=n+1/\q2=n+2/\q3=n+3/\q4=n+4):=⟨hm,hq1,hq2,hq3,hq4⟩;clear hm hq1 ws1 hq2 ws2 hq3 ws3 hq4 ws4 hA2 hx0 hv0 hx1 hv1 hx2 hv2 hx3 hv3 hx4 hv4;go_wp2_with fail;refine xav (by kernel_rfl) (by kernel_rfl) ?_;iterate 34 still_step
   refine jR ?_;have HR0:U (At gb _ 162 w wr.drew):=⟨eN HR0.o⟩;clear c0 c1 c2 c3 c4;have ws1:(n:Int)+1=(q1:Int):=by have:=Hq.o;omega
   have ws2:(n:Int)+2=(q2:Int):=by have:=Hq.o;omega
   have ws3:(n:Int)+3=(q3:Int):=by have:=Hq.o;omega
   have ws4:(n:Int)+4=(q4:Int):=by have:=Hq.o;omega
   go_wp2_with (first | ((with_reducible refine xhx x0 b0 rfl _ _ rfl ?hx ?_);(case hx=>exact rfl)) | ((with_reducible refine xhx x1 b1 rfl _ _ rfl ?hx ?_);(case hx=>exact rfl)) | ((with_reducible refine xhx x2 b2 rfl _ _ rfl ?hx ?_);(case hx=>exact rfl)) | ((with_reducible refine xhx x3 b3 rfl _ _ rfl ?hx ?_);(case hx=>exact rfl)) | ((with_reducible refine xhx x4 b4 rfl _ _ rfl ?hx ?_);(case hx=>exact rfl)) | ((with_reducible refine cU (by assumption) rfl _ _ _ rfl rfl ?_);refine⟨_,_,_,rfl,rfl,rfl,(by simp only[nD,lk25 _ (xcw _ _ _ _)];assumption),?_⟩;intro wn HRn));have HR5:U (At gb (LK .u64 (bJ.part (fun i=>i) (bl a) (g Dq) (n+5))) 162 w wn):=by
    have h:=HRn.o;rw[S0.o]at h;rw[show n+1=q1 by have:=Hq.o;omega]at h;rw[S1.o]at h;rw[show n+2=q2 by have:=Hq.o;omega]at h;rw[S2.o]at h;rw[show n+3=q3 by have:=Hq.o;omega]at h;rw[S3.o]at h;rw[show n+4=q4 by have:=Hq.o;omega]at h;rw[S4.o]at h;exact⟨h⟩
   go_roundw
   case rel=>exact⟨n+5,by have:=Hq.o;omega,by have:=Hq.o;omega,by go_num,HR5⟩
   case measure=>simp[aG];omega
  ·obtain rfl:n=25:=by omega
   simp only[jE];go_wp2_with fail;refine bodyPost_end (v:=.tuple #[]) (results_none rfl _ _ _) rfl ?_;have h:=HR0.o;rw[xg8 _ _ _ _ (fun i hi=>hi)]at h;exact⟨rfl,h⟩
end fU
namespace bU
open Go.RowKit
open arr mem bJ dL bT
structure KT (T:Array aE) (ts rs:List Nat):Prop where
 t:∀ i,i<25->T[184+i]? = some (O J ((ts.getD i 0:Nat):Int))
 r:∀ i,i<24->T[160+i]? = some (O .u64 ((rs.getD i 0:Nat):Int))
 bt:∀ i,ts.getD i 0<9223372036854775808
 br:∀ i,rs.getD i 0<18446744073709551616
 size:T.size=465
 one:T.all (·.oneCell')=true
def Z:List Nat:=List.replicate 25 0
theorem xfe:Z.length=25:=rfl
theorem z_is:(#[O .u64 0,O .u64 0,O .u64 0,O .u64 0,O .u64 0,O .u64 0,O .u64 0,O .u64 0,O .u64 0,O .u64 0,O .u64 0,O .u64 0,O .u64 0,O .u64 0,O .u64 0,O .u64 0,O .u64 0,O .u64 0,O .u64 0,O .u64 0,O .u64 0,O .u64 0,O .u64 0,O .u64 0,O .u64 0]:Array aE)=LK .u64 Z:=rfl
theorem info25:(aO.info? 162).map (·.size)=some 25:=by kernel_rfl
theorem xgk{g gn:Nat}{C C':Array aE}{t t':aH}{a b c:G}(h:At g C t a b)(hn:a.heap.size<=gn)(hg:g≠gn)(k:At gn C' t' b c):At g C t a c:=
 ⟨k.os.trans h.os,k.tape.trans h.tape,k.output.trans h.output,jJ h.size k.size,(k.block g h.lt hg).trans h.row,fun i hi hig=>(k.block i (iZ hi h.size) (by omega)).trans (h.block i hi hig)⟩
theorem xou{s:List Nat}(c v:Nat)(hs:s.length=25)(hv:g s 0 ^^^ c=v):(LK .u64 s).setIfInBounds 0 (O .u64 (v:Int))=LK .u64 (gU c s):=by
 subst hv;rw[xdh];congr 1
 refine xhp (by rw[nN,hs]) (xcl _) fun i hi=>?_
 rw[gU,xc4 _ i hi];unfold g;rw[iO,nS];by_cases e:i=0
 ·subst e;rw[iP rfl,iP (by omega),iP rfl];rfl
 ·rw[iQ (fun x=>e x.symm),iQ e,iO]
theorem xzb(m:Nat)(hm:m<24)(gT ga:Nat)(T:Array aE)(a ts rs:List Nat)(w:G)(h:St a)(hK:KT T ts rs)(hP:Gp w)(hT:w.heap[gT]? = some (Y T 34 (0,0)))
 (hA:w.heap[ga]? = some (Y (LK .u64 a) 162 (0,0))) (hne:ga≠gT) (hgp:ga≠3):
 aD aO 209 #[aC (some ⟨gT,0,none⟩),aC (some ⟨ga,0,none⟩),O J (m:Int)] w fun e w'=>e=.returned (.tuple #[])/\At ga (LK .u64 (cR (fun i=>ts.getD i 0) (rs.getD m 0) a)) 162 w w':=by
 unfold cR;have H:=D h;have HK:=D hK;have HP:=D hP;have HT:=D hT;have HA:=D hA;have Hne:=D hne;have Hgp:=D hgp;have HlT:=D (bI hT);have HlA:=D (bI hA);obtain⟨z,HZ⟩:=aQ Z;have HZl:U (z.length=25):=⟨by rw[<-HZ.o];rfl⟩;have hz:(#[O .u64 0,O .u64 0,O .u64 0,O .u64 0,O .u64 0,O .u64 0,O .u64 0,O .u64 0,O .u64 0,O .u64 0,O .u64 0,O .u64 0,O .u64 0,O .u64 0,O .u64 0,O .u64 0,O .u64 0,O .u64 0,O .u64 0,O .u64 0,O .u64 0,O .u64 0,O .u64 0,O .u64 0,O .u64 0]:Array aE)=LK .u64 z:=by rw[<-HZ.o];exact z_is
 have Hz:=D hz;clear h hK hP hT hA hne hgp hz HZ;have hm0:(0:Int)<=(m:Int):=by omega
 have hm1:(m:Int)<24:=by omega
 have Hm:=D hm;clear hm;have Hg:U (∀ (s:List Nat) (w':G),At ga (LK .u64 (gU (rs.getD m 0) s)) 162 w w'->dH (cW (fun i=>ts.getD i 0) (cO a))=s->At ga (LK .u64 (gU (rs.getD m 0) (dH (cW (fun i=>ts.getD i 0) (cO a))))) 162 w w'):=⟨fun s w' h e=>by rw[e];exact h⟩;go_enter Tryz.func209,Tryz.ntmps209;go_wp2_with fail;rw[Hz.o];obtain⟨W0,hW0⟩:=aP (w.alloc (Y (LK .u64 z) 162));have hz0:W0.heap[w.heap.size]? = some (Y (LK .u64 z) 162 (0,0)):=by rw[<-hW0];exact cM _ _ _ rfl
 have A0:At ga (LK .u64 a) 162 w W0:=(At.refl HA.o).later (by rw[<-hW0];exact xby _ _);have hs0:W0.heap.size=w.heap.size+1:=by rw[<-hW0,size_alloc]
 rw[hW0];clear hW0;refine(kmix.xez ga a W0 H.o A0.row).mono ?_;rintro e w1 ⟨rfl,h1⟩;have hgl:=HlA.o;have hTl:=HlT.o;have A1:U (At ga (LK .u64 (cO a)) 162 w w1):=⟨A0.trans h1⟩;have z1:U (w1.heap[w.heap.size]? = some (Y (LK .u64 z) 162 (0,0))):=⟨h1.other (by omega) (by omega) hz0⟩;have t1:U (w1.heap[gT]? = some (Y T 34 (0,0))):=⟨A1.o.other hTl (Ne.symm Hne.o) HT.o⟩;have s1:U (w.heap.size<w1.heap.size):=⟨by have:=h1.size;omega⟩;clear hz0 A0 hs0 h1 hgl hTl;go_wp2_with fail;refine(bT.xm3 w.heap.size ga gT 184 z (cO a) ts w1 HZl.o (xb4 H.o) HK.o.bt (Gp.at HP.o A1.o Hgp.o) z1.o A1.o.row (fun i hi=>aZ t1.o (HK.o.t i hi)) (by have:=HlA.o;omega) (by have:=HlT.o;omega) (by have:=HlT.o;have:=s1.o;omega)).mono ?_;rintro e w2 ⟨rfl,h2⟩;have A2:U (At ga (LK .u64 (cO a)) 162 w w2):=⟨xgk A1.o (iM _) (by have:=HlA.o;omega) h2⟩;have B2:=D h2.row;clear h2 A1 z1 t1 s1;go_wp2_with fail;refine(fU.xke ga w.heap.size (cO a) (cW (fun i=>ts.getD i 0) (cO a)) w2 (xb4 H.o).len (xeg _ (xb4 H.o)) A2.o.row B2.o (by have:=HlA.o;omega)).mono ?_;rintro e w3 ⟨rfl,h3⟩;have A3:U (At ga (LK .u64 (dH (cW (fun i=>ts.getD i 0) (cO a)))) 162 w w3):=⟨A2.o.trans h3⟩;have Hst:U (St (dH (cW (fun i=>ts.getD i 0) (cO a)))):=⟨xgl (xeg _ (xb4 H.o))⟩;have T3:U (w3.heap[gT]? = some (Y T 34 (0,0))):=⟨A3.o.other HlT.o (Ne.symm Hne.o) HT.o⟩;obtain⟨s,Hs⟩:=aQ (dH (cW (fun i=>ts.getD i 0) (cO a)));rw[Hs.o]at A3 Hst;clear A2 B2 h3
 obtain⟨x,hx⟩:=aP (g s 0);obtain⟨c,hc⟩:=aP (rs.getD m 0);obtain⟨v,hv⟩:=aP (x ^^^ c);have bx:x<18446744073709551616:=hx ▸ Hst.o.lt 0;have bc:c<18446744073709551616:=hc ▸ HK.o.br m;have V:=fN x c v bx bc hv;have cx:=fH Hst.o.len A3.o.row 0 x (by decide) hx;have cr:w3.cell? ⟨gT,160+m,none⟩=some (O .u64 (c:Int)):=by rw[<-hc];exact aZ T3.o (HK.o.r m Hm.o)
 have HS:U ((LK .u64 s).setIfInBounds 0 (O .u64 (v:Int))=LK .u64 (gU c s)):=⟨xou c v Hst.o.len (by rw[hx,hv])⟩;have Hgoal:U (∀ w':G,At ga (LK .u64 (gU c s)) 162 w w'->At ga (LK .u64 (gU (rs.getD m 0) (dH (cW (fun i=>ts.getD i 0) (cO a))))) 162 w w'):=⟨fun w' h=>Hg.o s w' (by rw[hc];exact h) Hs.o⟩;clear hx hc hv Hg;go_wp2_with fail;refine gZ 13 (by kernel_rfl) (by kernel_rfl) ?_;simp only[jH,jU,iW,jK];repeat still_step
 refine jR ?_;have A4:U (At ga (LK .u64 s) 162 w w3.drew):=⟨eN A3.o⟩;clear cx cr
 with_reducible refine cU A4 rfl _ _ _ rfl rfl ?_
 refine⟨_,_,_,rfl,rfl,rfl,by rw[lk25 _ Hst.o.len];decide,?_⟩;intro w4 A5;rw[HS.o]at A5;go_wp2_with fail;refine bodyPost_end (v:=.tuple #[]) (results_none rfl _ _ _) rfl ?_;exact⟨rfl,Hgoal.o _ A5.o⟩
theorem xzd(n:Int)(hn:n<0)(gT ga:Nat)(T:Array aE)(a ts rs:List Nat)(w:G)(h:St a)(hK:KT T ts rs)(hP:Gp w)(hT:w.heap[gT]? = some (Y T 34 (0,0)))
 (hA:w.heap[ga]? = some (Y (LK .u64 a) 162 (0,0))) (hne:ga≠gT) (hgp:ga≠3):
 aD aO 209 #[aC (some ⟨gT,0,none⟩),aC (some ⟨ga,0,none⟩),O J n] w fun e w'=>e=.returned (.tuple #[])/\At ga (LK .u64 (cR (fun i=>ts.getD i 0) (0) a)) 162 w w':=by
 unfold cR;have H:=D h;have HK:=D hK;have HP:=D hP;have HT:=D hT;have HA:=D hA;have Hne:=D hne;have Hgp:=D hgp;have HlT:=D (bI hT);have HlA:=D (bI hA);obtain⟨z,HZ⟩:=aQ Z;have HZl:U (z.length=25):=⟨by rw[<-HZ.o];rfl⟩;have hz:(#[O .u64 0,O .u64 0,O .u64 0,O .u64 0,O .u64 0,O .u64 0,O .u64 0,O .u64 0,O .u64 0,O .u64 0,O .u64 0,O .u64 0,O .u64 0,O .u64 0,O .u64 0,O .u64 0,O .u64 0,O .u64 0,O .u64 0,O .u64 0,O .u64 0,O .u64 0,O .u64 0,O .u64 0,O .u64 0]:Array aE)=LK .u64 z:=by rw[<-HZ.o];exact z_is
 have Hz:=D hz;clear h hK hP hT hA hne hgp hz HZ;go_enter Tryz.func209,Tryz.ntmps209;go_wp2_with fail;rw[Hz.o];obtain⟨W0,hW0⟩:=aP (w.alloc (Y (LK .u64 z) 162));have hz0:W0.heap[w.heap.size]? = some (Y (LK .u64 z) 162 (0,0)):=by rw[<-hW0];exact cM _ _ _ rfl
 have A0:At ga (LK .u64 a) 162 w W0:=(At.refl HA.o).later (by rw[<-hW0];exact xby _ _);have hs0:W0.heap.size=w.heap.size+1:=by rw[<-hW0,size_alloc]
 rw[hW0];clear hW0;refine(kmix.xez ga a W0 H.o A0.row).mono ?_;rintro e w1 ⟨rfl,h1⟩;have hgl:=HlA.o;have hTl:=HlT.o;have A1:U (At ga (LK .u64 (cO a)) 162 w w1):=⟨A0.trans h1⟩;have z1:U (w1.heap[w.heap.size]? = some (Y (LK .u64 z) 162 (0,0))):=⟨h1.other (by omega) (by omega) hz0⟩;have t1:U (w1.heap[gT]? = some (Y T 34 (0,0))):=⟨A1.o.other hTl (Ne.symm Hne.o) HT.o⟩;have s1:U (w.heap.size<w1.heap.size):=⟨by have:=h1.size;omega⟩;clear hz0 A0 hs0 h1 hgl hTl;go_wp2_with fail;refine(bT.xm3 w.heap.size ga gT 184 z (cO a) ts w1 HZl.o (xb4 H.o) HK.o.bt (Gp.at HP.o A1.o Hgp.o) z1.o A1.o.row (fun i hi=>aZ t1.o (HK.o.t i hi)) (by have:=HlA.o;omega) (by have:=HlT.o;omega) (by have:=HlT.o;have:=s1.o;omega)).mono ?_;rintro e w2 ⟨rfl,h2⟩;have A2:U (At ga (LK .u64 (cO a)) 162 w w2):=⟨xgk A1.o (iM _) (by have:=HlA.o;omega) h2⟩;have B2:=D h2.row;clear h2 A1 z1 t1 s1;go_wp2_with fail;refine(fU.xke ga w.heap.size (cO a) (cW (fun i=>ts.getD i 0) (cO a)) w2 (xb4 H.o).len (xeg _ (xb4 H.o)) A2.o.row B2.o (by have:=HlA.o;omega)).mono ?_;rintro e w3 ⟨rfl,h3⟩;have A3:U (At ga (LK .u64 (dH (cW (fun i=>ts.getD i 0) (cO a)))) 162 w w3):=⟨A2.o.trans h3⟩;have Hst:U (St (dH (cW (fun i=>ts.getD i 0) (cO a)))):=⟨xgl (xeg _ (xb4 H.o))⟩;have T3:U (w3.heap[gT]? = some (Y T 34 (0,0))):=⟨A3.o.other HlT.o (Ne.symm Hne.o) HT.o⟩;obtain⟨s,Hs⟩:=aQ (dH (cW (fun i=>ts.getD i 0) (cO a)));rw[Hs.o]at A3 Hst;clear A2 B2 h3
 have Hgoal:U (∀ w':G,At ga (LK .u64 s) 162 w w'->At ga (LK .u64 (gU 0 (dH (cW (fun i=>ts.getD i 0) (cO a))))) 162 w w'):=⟨fun w' h=>by rw[Hs.o,xov Hst.o.len];exact h⟩;go_wp2_with fail;refine bodyPost_end (v:=.tuple #[]) (results_none rfl _ _ _) rfl ?_;exact⟨rfl,Hgoal.o _ A3.o⟩
theorem xzc(n:Int)(hn : 24<=n)(gT ga:Nat)(T:Array aE)(a ts rs:List Nat)(w:G)(h:St a)(hK:KT T ts rs)(hP:Gp w)(hT:w.heap[gT]? = some (Y T 34 (0,0)))
 (hA:w.heap[ga]? = some (Y (LK .u64 a) 162 (0,0))) (hne:ga≠gT) (hgp:ga≠3):
 aD aO 209 #[aC (some ⟨gT,0,none⟩),aC (some ⟨ga,0,none⟩),O J n] w fun e w'=>e=.returned (.tuple #[])/\At ga (LK .u64 (cR (fun i=>ts.getD i 0) (0) a)) 162 w w':=by
 unfold cR;have H:=D h;have HK:=D hK;have HP:=D hP;have HT:=D hT;have HA:=D hA;have Hne:=D hne;have Hgp:=D hgp;have HlT:=D (bI hT);have HlA:=D (bI hA);obtain⟨z,HZ⟩:=aQ Z;have HZl:U (z.length=25):=⟨by rw[<-HZ.o];rfl⟩;have hz:(#[O .u64 0,O .u64 0,O .u64 0,O .u64 0,O .u64 0,O .u64 0,O .u64 0,O .u64 0,O .u64 0,O .u64 0,O .u64 0,O .u64 0,O .u64 0,O .u64 0,O .u64 0,O .u64 0,O .u64 0,O .u64 0,O .u64 0,O .u64 0,O .u64 0,O .u64 0,O .u64 0,O .u64 0,O .u64 0]:Array aE)=LK .u64 z:=by rw[<-HZ.o];exact z_is
 have Hz:=D hz;clear h hK hP hT hA hne hgp hz HZ;go_enter Tryz.func209,Tryz.ntmps209;go_wp2_with fail;rw[Hz.o];obtain⟨W0,hW0⟩:=aP (w.alloc (Y (LK .u64 z) 162));have hz0:W0.heap[w.heap.size]? = some (Y (LK .u64 z) 162 (0,0)):=by rw[<-hW0];exact cM _ _ _ rfl
 have A0:At ga (LK .u64 a) 162 w W0:=(At.refl HA.o).later (by rw[<-hW0];exact xby _ _);have hs0:W0.heap.size=w.heap.size+1:=by rw[<-hW0,size_alloc]
 rw[hW0];clear hW0;refine(kmix.xez ga a W0 H.o A0.row).mono ?_;rintro e w1 ⟨rfl,h1⟩;have hgl:=HlA.o;have hTl:=HlT.o;have A1:U (At ga (LK .u64 (cO a)) 162 w w1):=⟨A0.trans h1⟩;have z1:U (w1.heap[w.heap.size]? = some (Y (LK .u64 z) 162 (0,0))):=⟨h1.other (by omega) (by omega) hz0⟩;have t1:U (w1.heap[gT]? = some (Y T 34 (0,0))):=⟨A1.o.other hTl (Ne.symm Hne.o) HT.o⟩;have s1:U (w.heap.size<w1.heap.size):=⟨by have:=h1.size;omega⟩;clear hz0 A0 hs0 h1 hgl hTl;go_wp2_with fail;refine(bT.xm3 w.heap.size ga gT 184 z (cO a) ts w1 HZl.o (xb4 H.o) HK.o.bt (Gp.at HP.o A1.o Hgp.o) z1.o A1.o.row (fun i hi=>aZ t1.o (HK.o.t i hi)) (by have:=HlA.o;omega) (by have:=HlT.o;omega) (by have:=HlT.o;have:=s1.o;omega)).mono ?_;rintro e w2 ⟨rfl,h2⟩;have A2:U (At ga (LK .u64 (cO a)) 162 w w2):=⟨xgk A1.o (iM _) (by have:=HlA.o;omega) h2⟩;have B2:=D h2.row;clear h2 A1 z1 t1 s1;go_wp2_with fail;refine(fU.xke ga w.heap.size (cO a) (cW (fun i=>ts.getD i 0) (cO a)) w2 (xb4 H.o).len (xeg _ (xb4 H.o)) A2.o.row B2.o (by have:=HlA.o;omega)).mono ?_;rintro e w3 ⟨rfl,h3⟩;have A3:U (At ga (LK .u64 (dH (cW (fun i=>ts.getD i 0) (cO a)))) 162 w w3):=⟨A2.o.trans h3⟩;have Hst:U (St (dH (cW (fun i=>ts.getD i 0) (cO a)))):=⟨xgl (xeg _ (xb4 H.o))⟩;have T3:U (w3.heap[gT]? = some (Y T 34 (0,0))):=⟨A3.o.other HlT.o (Ne.symm Hne.o) HT.o⟩;obtain⟨s,Hs⟩:=aQ (dH (cW (fun i=>ts.getD i 0) (cO a)));rw[Hs.o]at A3 Hst;clear A2 B2 h3
 have Hgoal:U (∀ w':G,At ga (LK .u64 s) 162 w w'->At ga (LK .u64 (gU 0 (dH (cW (fun i=>ts.getD i 0) (cO a))))) 162 w w'):=⟨fun w' h=>by rw[Hs.o,xov Hst.o.len];exact h⟩;go_wp2_with fail;refine bodyPost_end (v:=.tuple #[]) (results_none rfl _ _ _) rfl ?_;exact⟨rfl,Hgoal.o _ A3.o⟩
def cst(rs:List Nat)(n:Int):Nat:=if 0<=n/\n<24 then rs.getD n.toNat 0 else 0
theorem xza(n:Int)(gT ga:Nat)(T:Array aE)(a ts rs:List Nat)(w:G)(h:St a)(hK:KT T ts rs)(hP:Gp w)(hT:w.heap[gT]? = some (Y T 34 (0,0)))
 (hA:w.heap[ga]? = some (Y (LK .u64 a) 162 (0,0))) (hne:ga≠gT) (hgp:ga≠3):
 aD aO 209 #[aC (some ⟨gT,0,none⟩),aC (some ⟨ga,0,none⟩),O J n] w fun e w'=>e=.returned (.tuple #[])/\At ga (LK .u64 (cR (fun i=>ts.getD i 0) (cst rs n) a)) 162 w w':=by
 by_cases h0:n<0
 ·rw[cst,iQ (by omega)];exact xzd n h0 gT ga T a ts rs w h hK hP hT hA hne hgp
 ·by_cases h1 : 24<=n
  ·rw[cst,iQ (by omega)];exact xzc n h1 gT ga T a ts rs w h hK hP hT hA hne hgp
  ·obtain⟨m,rfl⟩:=kR (show 0<=n by omega);rw[cst,iP (by omega),kL];exact xzb m (by omega) gT ga T a ts rs w h hK hP hT hA hne hgp
end bU
namespace laid3
open Go Go.ChangeShapes Go.WideShapes Go.RowKit
open arr mem bT
theorem xld{P:aI}{w:G}{g n:Nat}{name:String}{t e:aH}{rest:List (String × DataW Unit)}(ds:List Nat)(h:laidMetH P ((name,.agg (ds.map fun d:Nat=>.lit (.int .i64 (d:Int)))) :: rest) w)(hr:(rest.all fun x=>x.2.handleName?.isNone)=true)(hg:P.globalNamed name=some g)(ht:(P.globals[g]?).map (·.type)=some t)
 (hu:P.underlying t=some (.array n e)) (he:P.underlying e=some (.int .i64)) (hce:P.cellsOf e=1) (hct:P.cellsOf t=n) (hl:ds.length=n) (hn : 0<n):∃ t,w.heap[g]? = some (.cells (LK .i64 ds) t (0,0)):=by
 rw[MakeChecks.laidMetH_plain _ _ _ (by rw[List.all_cons,hr,Bool.and_true];simp[DataW.handleName?])]at h;obtain⟨ps,⟨g0,t0,cs,fuel,p,q,hg0,ht0,hv,hd,hq,hps⟩,-,hb⟩:=h;obtain rfl:=kF (hg.symm.trans hg0);obtain rfl:=kF (ht.symm.trans ht0);obtain⟨xs,m,-,hx,hlen,hxs,hel⟩:=DataW.trod_array hu hd;simp only[Prod.mk.injEq,DataW.agg.injEq]at hx;have hsz:cs.size=n:=by rw[<-hct,<-hlen];simp
 have hmem:MemPlace.cell g 0∈ps:=by
  rw[hps];refine List.mem_append_left _ (List.mem_append_left _ (MemPlace.mem_row.2 ⟨0,by omega,by simp⟩))
 obtain⟨⟨c,t',hc⟩,-⟩:=hb g 0 hmem;have hcc:c=cs:=by
  simp only[World.var?,hg,Option.bind_some,hc]at hv;exact kF hv
 subst hcc;refine⟨t',?_⟩;rw[hc];congr 2
 apply Array.ext (by rw[fE,hsz,hl]);intro i h1 h2;have h3:=hel i (by omega);rw[hce,oA,nA (by simpa using h1),jH,jU,iT (by omega)]at h3;obtain⟨a,e1,e2,-⟩:=DataW.trod_int he h3;have e3:(ds.map fun d:Nat=>(DataW.lit (.int .i64 (d:Int)):DataW Unit))[i]? = (xs.map (·.1))[i]? := by rw[hx.1]
 rw[mU,mU,iT (by omega),iT (by omega),e2]at e3;simp only[nU,mT,DataW.lit.injEq,Lit.int.injEq,true_and]at e3;simp only[nV,and_true]at e1;have e4:c[i]=.int .i64 a:=by simpa using e1
 rw[e4,<-e3];simp[LK]
theorem gp_of{w : G}(h : laidMetH aO [("sigil/keccak.places", Rows.laid_sigil_keccak_places), ("unicode/utf8.acceptRanges", Rows.laid_unicode_utf8_acceptRanges), ("unicode/utf8.first", Rows.laid_unicode_utf8_first)] w) : Gp w :=
 xld (n:=25) (t:=31) (e:=3) PL h (by kernel_rfl) (by kernel_rfl) (by kernel_rfl) (by kernel_rfl) (by kernel_rfl) (by kernel_rfl) (by kernel_rfl) rfl (by decide)
end laid3
namespace rset
open arr mem aV bF
theorem gY:(aO.info? 37).map (fun i=>(i.zero,i.size))=some (some (I set0),8):=by kernel_rfl
theorem built1:aO.built 37 [(0,O J 4),(1,O J 4),(2,O J 2),(3,O J 39),(4,O J 131072),(5,O J 95232),(6,O J 80),(7,O J 128)]=some set1:=by kernel_rfl
theorem built2:aO.built 37 [(0,O J 6),(1,O J 5),(2,O J 4),(3,O J 49),(4,O J 524288),(5,O J 261888),(6,O J 55),(7,O J 192)]=some set2:=by kernel_rfl
theorem built3:aO.built 37 [(0,O J 8),(1,O J 7),(2,O J 2),(3,O J 60),(4,O J 524288),(5,O J 261888),(6,O J 75),(7,O J 256)]=some set3:=by kernel_rfl
theorem built4:aO.built 37 [(0,O J 1),(1,O J 1),(2,O J 2),(3,O J 20),(4,O J 131072),(5,O J 95232),(6,O J 60),(7,O J 128)]=some iJ:=by kernel_rfl
theorem xda{P:aI}{ops:Array Oper}{rest:List Oper}{o:Oper}{a:Act}{w:G}{Q:Exit->Act->G->Prop}(hg:o.guard=none)(t:aH)(l:List (Nat × Operand))(ho:o.op=.build t l.toArray)
 (C:Array aE) (hC:P.built t (l.map fun x=>(x.1,a.eval x.2))=some C) (h:wpList P ops Q rest (a.put o.dst (I C)) w):wpList P ops Q (o :: rest) a w:=
 xsj hg t _ ho C (by simpa using hC) h
theorem built0:aO.built 37 []=some set0:=by kernel_rfl
theorem results_cell_tmp{P:aI}{fn:Func}{p u:Tmp}{ty:aH}(h:fn.results=#[.cell p ty,.tmp u])(tmps:Array aE)(w:G)(g:Nat)(t:aH)(cs:Array aE)(fr:Nat × Nat)(d:TypeDesc)
 (hp:tmps.getD p undef=aC (some ⟨g,0,none⟩)) (hg:w.heap[g]? = some (Y cs t fr))
 (hu:P.underlying ty=some d) (hd:(match d with | .struct _ | .array _ _=>true | _=>false)=true) (hi:(P.info? ty).map (·.size)=some cs.size) (v:aE) (hv:tmps.getD u undef=v):
 (results fn tmps).run P w=.ok (aA #[I cs,v]) w:=by
 have hp':tmps[p]?.getD undef=aC (some ⟨g,0,none⟩):=by simpa using hp
 have hv':tmps[u]?.getD undef=v:=by simpa using hv
 simp[results,h,hp',hv',asAddr,nM w g t ty cs fr d hg hu hd hi]
theorem set_1(w:G):aD aO 17 #[O J 1] w (zB w (aA #[I set1,O J 0])):=by
 obtain⟨hz,hsize⟩:=iY gY;have hb:=built1;obtain⟨z,HZ⟩:=aQ set0;rw[HZ.o]at hz;have Zs:U (z.size=8):=⟨by rw[<-HZ.o];rfl⟩;obtain⟨V,HV⟩:=aQ set1;have Vi:U ((aO.info? 37).map (·.size)=some V.size):=⟨by rw[<-HV.o];exact hsize⟩;have Vz:U (z.size=V.size):=⟨by rw[Zs.o,<-HV.o];rfl⟩;have Vo:U (V.all (·.oneCell')=true):=⟨by rw[<-HV.o];simp[set1,Value.oneCell']⟩;rw[HV.o]at hb;rw[HV.o];have Hb:=D hb;obtain⟨W,hW⟩:=aP (w.alloc (Y z 37));have HW:=D hW;have Hres:U (W.heap[w.heap.size]? = some (Y z 37 (0,0))):=⟨by rw[<-hW];exact cM w _ _ rfl⟩;have HB:=zba hW;clear hb hsize hW;go_enter Tryz.func17,Tryz.ntmps17;go_wp2_with (first
  | (rw[HW.o])
  | (refine xda rfl 37 _ rfl V Hb.o ?_)
  | (refine iS rfl 37 _ _ rfl w.heap.size V rfl rfl 37 _ Hres.o Vi.o Vz.o Vo.o ?_))
 refine iV (v:=aA #[I V,O J 0]) (results_cell_tmp rfl _ _ w.heap.size 37 _ (0,0) _ rfl (jD _ _ _ _ _ _ Hres.o) zZ rfl Vi.o _ rfl) rfl ?_;exact⟨rfl,HB.o.trans (below_setRow _ _ _ (iM _))⟩
theorem set_2(w:G):aD aO 17 #[O J 2] w (zB w (aA #[I set2,O J 0])):=by
 obtain⟨hz,hsize⟩:=iY gY;have hb:=built2;obtain⟨z,HZ⟩:=aQ set0;rw[HZ.o]at hz;have Zs:U (z.size=8):=⟨by rw[<-HZ.o];rfl⟩;obtain⟨V,HV⟩:=aQ set2;have Vi:U ((aO.info? 37).map (·.size)=some V.size):=⟨by rw[<-HV.o];exact hsize⟩;have Vz:U (z.size=V.size):=⟨by rw[Zs.o,<-HV.o];rfl⟩;have Vo:U (V.all (·.oneCell')=true):=⟨by rw[<-HV.o];simp[set2,Value.oneCell']⟩;rw[HV.o]at hb;rw[HV.o];have Hb:=D hb;obtain⟨W,hW⟩:=aP (w.alloc (Y z 37));have HW:=D hW;have Hres:U (W.heap[w.heap.size]? = some (Y z 37 (0,0))):=⟨by rw[<-hW];exact cM w _ _ rfl⟩;have HB:=zba hW;clear hb hsize hW;go_enter Tryz.func17,Tryz.ntmps17;go_wp2_with (first
  | (rw[HW.o])
  | (refine xda rfl 37 _ rfl V Hb.o ?_)
  | (refine iS rfl 37 _ _ rfl w.heap.size V rfl rfl 37 _ Hres.o Vi.o Vz.o Vo.o ?_))
 refine iV (v:=aA #[I V,O J 0]) (results_cell_tmp rfl _ _ w.heap.size 37 _ (0,0) _ rfl (jD _ _ _ _ _ _ Hres.o) zZ rfl Vi.o _ rfl) rfl ?_;exact⟨rfl,HB.o.trans (below_setRow _ _ _ (iM _))⟩
theorem set_3(w:G):aD aO 17 #[O J 3] w (zB w (aA #[I set3,O J 0])):=by
 obtain⟨hz,hsize⟩:=iY gY;have hb:=built3;obtain⟨z,HZ⟩:=aQ set0;rw[HZ.o]at hz;have Zs:U (z.size=8):=⟨by rw[<-HZ.o];rfl⟩;obtain⟨V,HV⟩:=aQ set3;have Vi:U ((aO.info? 37).map (·.size)=some V.size):=⟨by rw[<-HV.o];exact hsize⟩;have Vz:U (z.size=V.size):=⟨by rw[Zs.o,<-HV.o];rfl⟩;have Vo:U (V.all (·.oneCell')=true):=⟨by rw[<-HV.o];simp[set3,Value.oneCell']⟩;rw[HV.o]at hb;rw[HV.o];have Hb:=D hb;obtain⟨W,hW⟩:=aP (w.alloc (Y z 37));have HW:=D hW;have Hres:U (W.heap[w.heap.size]? = some (Y z 37 (0,0))):=⟨by rw[<-hW];exact cM w _ _ rfl⟩;have HB:=zba hW;clear hb hsize hW;go_enter Tryz.func17,Tryz.ntmps17;go_wp2_with (first
  | (rw[HW.o])
  | (refine xda rfl 37 _ rfl V Hb.o ?_)
  | (refine iS rfl 37 _ _ rfl w.heap.size V rfl rfl 37 _ Hres.o Vi.o Vz.o Vo.o ?_))
 refine iV (v:=aA #[I V,O J 0]) (results_cell_tmp rfl _ _ w.heap.size 37 _ (0,0) _ rfl (jD _ _ _ _ _ _ Hres.o) zZ rfl Vi.o _ rfl) rfl ?_;exact⟨rfl,HB.o.trans (below_setRow _ _ _ (iM _))⟩
theorem xmr(w:G):aD aO 17 #[O J 4] w (zB w (aA #[I iJ,O J 0])):=by
 obtain⟨hz,hsize⟩:=iY gY;have hb:=built4;obtain⟨z,HZ⟩:=aQ set0;rw[HZ.o]at hz;have Zs:U (z.size=8):=⟨by rw[<-HZ.o];rfl⟩;obtain⟨V,HV⟩:=aQ iJ;have Vi:U ((aO.info? 37).map (·.size)=some V.size):=⟨by rw[<-HV.o];exact hsize⟩;have Vz:U (z.size=V.size):=⟨by rw[Zs.o,<-HV.o];rfl⟩;have Vo:U (V.all (·.oneCell')=true):=⟨by rw[<-HV.o];simp[iJ,Value.oneCell']⟩;rw[HV.o]at hb;rw[HV.o];have Hb:=D hb;obtain⟨W,hW⟩:=aP (w.alloc (Y z 37));have HW:=D hW;have Hres:U (W.heap[w.heap.size]? = some (Y z 37 (0,0))):=⟨by rw[<-hW];exact cM w _ _ rfl⟩;have HB:=zba hW;clear hb hsize hW;go_enter Tryz.func17,Tryz.ntmps17;go_wp2_with (first
  | (rw[HW.o])
  | (refine xda rfl 37 _ rfl V Hb.o ?_)
  | (refine iS rfl 37 _ _ rfl w.heap.size V rfl rfl 37 _ Hres.o Vi.o Vz.o Vo.o ?_))
 refine iV (v:=aA #[I V,O J 0]) (results_cell_tmp rfl _ _ w.heap.size 37 _ (0,0) _ rfl (jD _ _ _ _ _ _ Hres.o) zZ rfl Vi.o _ rfl) rfl ?_;exact⟨rfl,HB.o.trans (below_setRow _ _ _ (iM _))⟩
end rset
end Go.Proofs.YtomphjajkkddkaaGreatDoor
