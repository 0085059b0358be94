/-
  What round's rightGamma2 and upTo return. Conditions: none. What round's Right return. Conditions: none.
-/
import Derived.Test.YtlcafjdehcddcaaGreatDoorPuA
import Derived.Test.YtlcafjdehcddcaaGreatDoorProg
namespace Go.Proofs.YtlcafjdehcddcaaGreatDoor
namespace rpart
open Go Go.RowKit
open arr mem fldm rndm
set_option maxRecDepth 100000 in
set_option maxHeartbeats 1000000 in
theorem gamma_any (g : Int) (w : World) : Calls Tryz.prog 78 #[.int .i64 g] w fun e w' => e = .returned (.bool (okg g)) ∧ w' = w := by
 unfold okg
 cases h1 : g == 95232
 ·cases h2 : g == 261888
  ·go_enter Tryz.func78, Tryz.ntmps78
   go_wp2_with fail
   go_ret
   exact ⟨rfl, rfl⟩
  ·go_enter Tryz.func78, Tryz.ntmps78
   go_wp2_with fail
   go_ret
   exact ⟨rfl, rfl⟩
 ·go_enter Tryz.func78, Tryz.ntmps78
  go_wp2_with fail
  go_ret
  exact ⟨rfl, rfl⟩
set_option maxRecDepth 100000 in
set_option maxHeartbeats 1000000 in
theorem upto_any (n m : Int) (w : World) : Calls Tryz.prog 77 #[.int .i64 n, .int .i64 m] w fun e w' => e = .returned (.bool (upto n m)) ∧ w' = w := by
 unfold upto
 by_cases h1 : 1 ≤ n
 ·rw [decide_eq_true h1]
  by_cases h2 : n ≤ m
  ·rw [decide_eq_true h2]
   go_enter Tryz.func77, Tryz.ntmps77
   go_wp2_with fail
   go_ret
   exact ⟨rfl, rfl⟩
  ·rw [decide_eq_false h2]
   go_enter Tryz.func77, Tryz.ntmps77
   go_wp2_with fail
   go_ret
   exact ⟨rfl, rfl⟩
 ·rw [decide_eq_false h1]
  go_enter Tryz.func77, Tryz.ntmps77
  go_wp2_with fail
  go_ret
  exact ⟨rfl, rfl⟩
end rpart
namespace rright
open Go Go.RowKit
open arr mem polt rndm rpart
set_option maxRecDepth 100000 in
set_option maxHeartbeats 4000000 in
theorem right_any (k l e t a b o s : Int) (w : World) : Calls Tryz.prog 32 #[.agg #[.int .i64 k, .int .i64 l, .int .i64 e, .int .i64 t, .int .i64 a, .int .i64 b, .int .i64 o, .int .i64 s]] w fun e0 w' => e0 = .returned (.bool (latt k l e t a b o s)) ∧ Below w.heap.size w w' := by
 obtain ⟨W, hW⟩ : ∃ x, w.alloc (.cells #[.int .i64 k, .int .i64 l, .int .i64 e, .int .i64 t, .int .i64 a, .int .i64 b, .int .i64 o, .int .i64 s] 23) = x := ⟨_, rfl⟩
 have HW := Away.mk hW
 have HB : Away (Below w.heap.size w W) := ⟨by rw [← hW]; exact below_alloc _ _⟩
 have hrow : W.heap[w.heap.size]? = some (.cells #[.int .i64 k, .int .i64 l, .int .i64 e, .int .i64 t, .int .i64 a, .int .i64 b, .int .i64 o, .int .i64 s] 23 (0, 0)) := by rw [← hW]; exact heap_at _ _ _ rfl
 have c0 : W.cell? ⟨w.heap.size, 0, none⟩ = some (.int .i64 k) := cell_at hrow rfl
 have c1 : W.cell? ⟨w.heap.size, 1, none⟩ = some (.int .i64 l) := cell_at hrow rfl
 have c2 : W.cell? ⟨w.heap.size, 2, none⟩ = some (.int .i64 e) := cell_at hrow rfl
 have c3 : W.cell? ⟨w.heap.size, 3, none⟩ = some (.int .i64 t) := cell_at hrow rfl
 have c4 : W.cell? ⟨w.heap.size, 4, none⟩ = some (.int .i64 a) := cell_at hrow rfl
 have c5 : W.cell? ⟨w.heap.size, 5, none⟩ = some (.int .i64 b) := cell_at hrow rfl
 have c6 : W.cell? ⟨w.heap.size, 6, none⟩ = some (.int .i64 o) := cell_at hrow rfl
 have c7 : W.cell? ⟨w.heap.size, 7, none⟩ = some (.int .i64 s) := cell_at hrow rfl
 clear hrow hW
 cases h1 : upto k 8
 ·have Ch1 := upto_any k 8
  rw [h1] at Ch1
  have HE : latt k l e t a b o s = false := by simp [latt, h1]
  rw [HE]
  clear HE
  go_enter Tryz.func32, Tryz.ntmps32
  go_wp2_with (rw [HW.out])
  refine (Ch1 _).mono ?_
  rintro e0 w0 ⟨rfl, rfl⟩
  go_wp2_with fail
  go_ret
  exact ⟨rfl, HB.out⟩
 ·have Ch1 := upto_any k 8
  rw [h1] at Ch1
  cases h2 : upto l 8
  ·have Ch2 := upto_any l 8
   rw [h2] at Ch2
   have HE : latt k l e t a b o s = false := by simp [latt, h1, h2]
   rw [HE]
   clear HE
   go_enter Tryz.func32, Tryz.ntmps32
   go_wp2_with (rw [HW.out])
   refine (Ch1 _).mono ?_
   rintro e0 w0 ⟨rfl, rfl⟩
   go_wp2_with fail
   refine (Ch2 _).mono ?_
   rintro e0 w0 ⟨rfl, rfl⟩
   go_wp2_with fail
   go_ret
   exact ⟨rfl, HB.out⟩
  ·have Ch2 := upto_any l 8
   rw [h2] at Ch2
   cases h3 : upto t 64
   ·have Ch3 := upto_any t 64
    rw [h3] at Ch3
    have HE : latt k l e t a b o s = false := by simp [latt, h1, h2, h3]
    rw [HE]
    clear HE
    go_enter Tryz.func32, Tryz.ntmps32
    go_wp2_with (rw [HW.out])
    refine (Ch1 _).mono ?_
    rintro e0 w0 ⟨rfl, rfl⟩
    go_wp2_with fail
    refine (Ch2 _).mono ?_
    rintro e0 w0 ⟨rfl, rfl⟩
    go_wp2_with fail
    refine (Ch3 _).mono ?_
    rintro e0 w0 ⟨rfl, rfl⟩
    go_wp2_with fail
    go_ret
    exact ⟨rfl, HB.out⟩
   ·have Ch3 := upto_any t 64
    rw [h3] at Ch3
    cases h4 : upto o 100
    ·have Ch4 := upto_any o 100
     rw [h4] at Ch4
     have HE : latt k l e t a b o s = false := by simp [latt, h1, h2, h3, h4]
     rw [HE]
     clear HE
     go_enter Tryz.func32, Tryz.ntmps32
     go_wp2_with (rw [HW.out])
     refine (Ch1 _).mono ?_
     rintro e0 w0 ⟨rfl, rfl⟩
     go_wp2_with fail
     refine (Ch2 _).mono ?_
     rintro e0 w0 ⟨rfl, rfl⟩
     go_wp2_with fail
     refine (Ch3 _).mono ?_
     rintro e0 w0 ⟨rfl, rfl⟩
     go_wp2_with fail
     refine (Ch4 _).mono ?_
     rintro e0 w0 ⟨rfl, rfl⟩
     go_wp2_with fail
     go_ret
     exact ⟨rfl, HB.out⟩
    ·have Ch4 := upto_any o 100
     rw [h4] at Ch4
     cases h5 : e == 2
     ·cases h6 : e == 4
      ·have HE : latt k l e t a b o s = false := by simp [latt, h1, h2, h3, h4, h5, h6]
       rw [HE]
       clear HE
       go_enter Tryz.func32, Tryz.ntmps32
       go_wp2_with (rw [HW.out])
       refine (Ch1 _).mono ?_
       rintro e0 w0 ⟨rfl, rfl⟩
       go_wp2_with fail
       refine (Ch2 _).mono ?_
       rintro e0 w0 ⟨rfl, rfl⟩
       go_wp2_with fail
       refine (Ch3 _).mono ?_
       rintro e0 w0 ⟨rfl, rfl⟩
       go_wp2_with fail
       refine (Ch4 _).mono ?_
       rintro e0 w0 ⟨rfl, rfl⟩
       go_wp2_with fail
       go_ret
       exact ⟨rfl, HB.out⟩
      ·cases h7 : a == 131072
       ·cases h8 : a == 524288
        ·have HE : latt k l e t a b o s = false := by simp [latt, h1, h2, h3, h4, h5, h6, h7, h8]
         rw [HE]
         clear HE
         go_enter Tryz.func32, Tryz.ntmps32
         go_wp2_with (rw [HW.out])
         refine (Ch1 _).mono ?_
         rintro e0 w0 ⟨rfl, rfl⟩
         go_wp2_with fail
         refine (Ch2 _).mono ?_
         rintro e0 w0 ⟨rfl, rfl⟩
         go_wp2_with fail
         refine (Ch3 _).mono ?_
         rintro e0 w0 ⟨rfl, rfl⟩
         go_wp2_with fail
         refine (Ch4 _).mono ?_
         rintro e0 w0 ⟨rfl, rfl⟩
         go_wp2_with fail
         go_ret
         exact ⟨rfl, HB.out⟩
        ·cases h9 : okg b
         ·have Ch9 := gamma_any b
          rw [h9] at Ch9
          have HE : latt k l e t a b o s = false := by simp [latt, h1, h2, h3, h4, h5, h6, h7, h8, h9]
          rw [HE]
          clear HE
          go_enter Tryz.func32, Tryz.ntmps32
          go_wp2_with (rw [HW.out])
          refine (Ch1 _).mono ?_
          rintro e0 w0 ⟨rfl, rfl⟩
          go_wp2_with fail
          refine (Ch2 _).mono ?_
          rintro e0 w0 ⟨rfl, rfl⟩
          go_wp2_with fail
          refine (Ch3 _).mono ?_
          rintro e0 w0 ⟨rfl, rfl⟩
          go_wp2_with fail
          refine (Ch4 _).mono ?_
          rintro e0 w0 ⟨rfl, rfl⟩
          go_wp2_with fail
          refine (Ch9 _).mono ?_
          rintro e0 w0 ⟨rfl, rfl⟩
          go_wp2_with fail
          go_ret
          exact ⟨rfl, HB.out⟩
         ·have Ch9 := gamma_any b
          rw [h9] at Ch9
          cases h10 : s == 128
          ·cases h11 : s == 192
           ·cases h12 : s == 256
            ·have HE : latt k l e t a b o s = false := by simp [latt, h1, h2, h3, h4, h5, h6, h7, h8, h9, h10, h11, h12]
             rw [HE]
             clear HE
             go_enter Tryz.func32, Tryz.ntmps32
             go_wp2_with (rw [HW.out])
             refine (Ch1 _).mono ?_
             rintro e0 w0 ⟨rfl, rfl⟩
             go_wp2_with fail
             refine (Ch2 _).mono ?_
             rintro e0 w0 ⟨rfl, rfl⟩
             go_wp2_with fail
             refine (Ch3 _).mono ?_
             rintro e0 w0 ⟨rfl, rfl⟩
             go_wp2_with fail
             refine (Ch4 _).mono ?_
             rintro e0 w0 ⟨rfl, rfl⟩
             go_wp2_with fail
             refine (Ch9 _).mono ?_
             rintro e0 w0 ⟨rfl, rfl⟩
             go_wp2_with fail
             go_ret
             exact ⟨rfl, HB.out⟩
            ·have HE : latt k l e t a b o s = true := by simp [latt, h1, h2, h3, h4, h5, h6, h7, h8, h9, h10, h11, h12]
             rw [HE]
             clear HE
             go_enter Tryz.func32, Tryz.ntmps32
             go_wp2_with (rw [HW.out])
             refine (Ch1 _).mono ?_
             rintro e0 w0 ⟨rfl, rfl⟩
             go_wp2_with fail
             refine (Ch2 _).mono ?_
             rintro e0 w0 ⟨rfl, rfl⟩
             go_wp2_with fail
             refine (Ch3 _).mono ?_
             rintro e0 w0 ⟨rfl, rfl⟩
             go_wp2_with fail
             refine (Ch4 _).mono ?_
             rintro e0 w0 ⟨rfl, rfl⟩
             go_wp2_with fail
             refine (Ch9 _).mono ?_
             rintro e0 w0 ⟨rfl, rfl⟩
             go_wp2_with fail
             go_ret
             exact ⟨rfl, HB.out⟩
           ·have HE : latt k l e t a b o s = true := by simp [latt, h1, h2, h3, h4, h5, h6, h7, h8, h9, h10, h11]
            rw [HE]
            clear HE
            go_enter Tryz.func32, Tryz.ntmps32
            go_wp2_with (rw [HW.out])
            refine (Ch1 _).mono ?_
            rintro e0 w0 ⟨rfl, rfl⟩
            go_wp2_with fail
            refine (Ch2 _).mono ?_
            rintro e0 w0 ⟨rfl, rfl⟩
            go_wp2_with fail
            refine (Ch3 _).mono ?_
            rintro e0 w0 ⟨rfl, rfl⟩
            go_wp2_with fail
            refine (Ch4 _).mono ?_
            rintro e0 w0 ⟨rfl, rfl⟩
            go_wp2_with fail
            refine (Ch9 _).mono ?_
            rintro e0 w0 ⟨rfl, rfl⟩
            go_wp2_with fail
            go_ret
            exact ⟨rfl, HB.out⟩
          ·have HE : latt k l e t a b o s = true := by simp [latt, h1, h2, h3, h4, h5, h6, h7, h8, h9, h10]
           rw [HE]
           clear HE
           go_enter Tryz.func32, Tryz.ntmps32
           go_wp2_with (rw [HW.out])
           refine (Ch1 _).mono ?_
           rintro e0 w0 ⟨rfl, rfl⟩
           go_wp2_with fail
           refine (Ch2 _).mono ?_
           rintro e0 w0 ⟨rfl, rfl⟩
           go_wp2_with fail
           refine (Ch3 _).mono ?_
           rintro e0 w0 ⟨rfl, rfl⟩
           go_wp2_with fail
           refine (Ch4 _).mono ?_
           rintro e0 w0 ⟨rfl, rfl⟩
           go_wp2_with fail
           refine (Ch9 _).mono ?_
           rintro e0 w0 ⟨rfl, rfl⟩
           go_wp2_with fail
           go_ret
           exact ⟨rfl, HB.out⟩
       ·cases h13 : okg b
        ·have Ch13 := gamma_any b
         rw [h13] at Ch13
         have HE : latt k l e t a b o s = false := by simp [latt, h1, h2, h3, h4, h5, h6, h7, h13]
         rw [HE]
         clear HE
         go_enter Tryz.func32, Tryz.ntmps32
         go_wp2_with (rw [HW.out])
         refine (Ch1 _).mono ?_
         rintro e0 w0 ⟨rfl, rfl⟩
         go_wp2_with fail
         refine (Ch2 _).mono ?_
         rintro e0 w0 ⟨rfl, rfl⟩
         go_wp2_with fail
         refine (Ch3 _).mono ?_
         rintro e0 w0 ⟨rfl, rfl⟩
         go_wp2_with fail
         refine (Ch4 _).mono ?_
         rintro e0 w0 ⟨rfl, rfl⟩
         go_wp2_with fail
         refine (Ch13 _).mono ?_
         rintro e0 w0 ⟨rfl, rfl⟩
         go_wp2_with fail
         go_ret
         exact ⟨rfl, HB.out⟩
        ·have Ch13 := gamma_any b
         rw [h13] at Ch13
         cases h14 : s == 128
         ·cases h15 : s == 192
          ·cases h16 : s == 256
           ·have HE : latt k l e t a b o s = false := by simp [latt, h1, h2, h3, h4, h5, h6, h7, h13, h14, h15, h16]
            rw [HE]
            clear HE
            go_enter Tryz.func32, Tryz.ntmps32
            go_wp2_with (rw [HW.out])
            refine (Ch1 _).mono ?_
            rintro e0 w0 ⟨rfl, rfl⟩
            go_wp2_with fail
            refine (Ch2 _).mono ?_
            rintro e0 w0 ⟨rfl, rfl⟩
            go_wp2_with fail
            refine (Ch3 _).mono ?_
            rintro e0 w0 ⟨rfl, rfl⟩
            go_wp2_with fail
            refine (Ch4 _).mono ?_
            rintro e0 w0 ⟨rfl, rfl⟩
            go_wp2_with fail
            refine (Ch13 _).mono ?_
            rintro e0 w0 ⟨rfl, rfl⟩
            go_wp2_with fail
            go_ret
            exact ⟨rfl, HB.out⟩
           ·have HE : latt k l e t a b o s = true := by simp [latt, h1, h2, h3, h4, h5, h6, h7, h13, h14, h15, h16]
            rw [HE]
            clear HE
            go_enter Tryz.func32, Tryz.ntmps32
            go_wp2_with (rw [HW.out])
            refine (Ch1 _).mono ?_
            rintro e0 w0 ⟨rfl, rfl⟩
            go_wp2_with fail
            refine (Ch2 _).mono ?_
            rintro e0 w0 ⟨rfl, rfl⟩
            go_wp2_with fail
            refine (Ch3 _).mono ?_
            rintro e0 w0 ⟨rfl, rfl⟩
            go_wp2_with fail
            refine (Ch4 _).mono ?_
            rintro e0 w0 ⟨rfl, rfl⟩
            go_wp2_with fail
            refine (Ch13 _).mono ?_
            rintro e0 w0 ⟨rfl, rfl⟩
            go_wp2_with fail
            go_ret
            exact ⟨rfl, HB.out⟩
          ·have HE : latt k l e t a b o s = true := by simp [latt, h1, h2, h3, h4, h5, h6, h7, h13, h14, h15]
           rw [HE]
           clear HE
           go_enter Tryz.func32, Tryz.ntmps32
           go_wp2_with (rw [HW.out])
           refine (Ch1 _).mono ?_
           rintro e0 w0 ⟨rfl, rfl⟩
           go_wp2_with fail
           refine (Ch2 _).mono ?_
           rintro e0 w0 ⟨rfl, rfl⟩
           go_wp2_with fail
           refine (Ch3 _).mono ?_
           rintro e0 w0 ⟨rfl, rfl⟩
           go_wp2_with fail
           refine (Ch4 _).mono ?_
           rintro e0 w0 ⟨rfl, rfl⟩
           go_wp2_with fail
           refine (Ch13 _).mono ?_
           rintro e0 w0 ⟨rfl, rfl⟩
           go_wp2_with fail
           go_ret
           exact ⟨rfl, HB.out⟩
         ·have HE : latt k l e t a b o s = true := by simp [latt, h1, h2, h3, h4, h5, h6, h7, h13, h14]
          rw [HE]
          clear HE
          go_enter Tryz.func32, Tryz.ntmps32
          go_wp2_with (rw [HW.out])
          refine (Ch1 _).mono ?_
          rintro e0 w0 ⟨rfl, rfl⟩
          go_wp2_with fail
          refine (Ch2 _).mono ?_
          rintro e0 w0 ⟨rfl, rfl⟩
          go_wp2_with fail
          refine (Ch3 _).mono ?_
          rintro e0 w0 ⟨rfl, rfl⟩
          go_wp2_with fail
          refine (Ch4 _).mono ?_
          rintro e0 w0 ⟨rfl, rfl⟩
          go_wp2_with fail
          refine (Ch13 _).mono ?_
          rintro e0 w0 ⟨rfl, rfl⟩
          go_wp2_with fail
          go_ret
          exact ⟨rfl, HB.out⟩
     ·cases h17 : a == 131072
      ·cases h18 : a == 524288
       ·have HE : latt k l e t a b o s = false := by simp [latt, h1, h2, h3, h4, h5, h17, h18]
        rw [HE]
        clear HE
        go_enter Tryz.func32, Tryz.ntmps32
        go_wp2_with (rw [HW.out])
        refine (Ch1 _).mono ?_
        rintro e0 w0 ⟨rfl, rfl⟩
        go_wp2_with fail
        refine (Ch2 _).mono ?_
        rintro e0 w0 ⟨rfl, rfl⟩
        go_wp2_with fail
        refine (Ch3 _).mono ?_
        rintro e0 w0 ⟨rfl, rfl⟩
        go_wp2_with fail
        refine (Ch4 _).mono ?_
        rintro e0 w0 ⟨rfl, rfl⟩
        go_wp2_with fail
        go_ret
        exact ⟨rfl, HB.out⟩
       ·cases h19 : okg b
        ·have Ch19 := gamma_any b
         rw [h19] at Ch19
         have HE : latt k l e t a b o s = false := by simp [latt, h1, h2, h3, h4, h5, h17, h18, h19]
         rw [HE]
         clear HE
         go_enter Tryz.func32, Tryz.ntmps32
         go_wp2_with (rw [HW.out])
         refine (Ch1 _).mono ?_
         rintro e0 w0 ⟨rfl, rfl⟩
         go_wp2_with fail
         refine (Ch2 _).mono ?_
         rintro e0 w0 ⟨rfl, rfl⟩
         go_wp2_with fail
         refine (Ch3 _).mono ?_
         rintro e0 w0 ⟨rfl, rfl⟩
         go_wp2_with fail
         refine (Ch4 _).mono ?_
         rintro e0 w0 ⟨rfl, rfl⟩
         go_wp2_with fail
         refine (Ch19 _).mono ?_
         rintro e0 w0 ⟨rfl, rfl⟩
         go_wp2_with fail
         go_ret
         exact ⟨rfl, HB.out⟩
        ·have Ch19 := gamma_any b
         rw [h19] at Ch19
         cases h20 : s == 128
         ·cases h21 : s == 192
          ·cases h22 : s == 256
           ·have HE : latt k l e t a b o s = false := by simp [latt, h1, h2, h3, h4, h5, h17, h18, h19, h20, h21, h22]
            rw [HE]
            clear HE
            go_enter Tryz.func32, Tryz.ntmps32
            go_wp2_with (rw [HW.out])
            refine (Ch1 _).mono ?_
            rintro e0 w0 ⟨rfl, rfl⟩
            go_wp2_with fail
            refine (Ch2 _).mono ?_
            rintro e0 w0 ⟨rfl, rfl⟩
            go_wp2_with fail
            refine (Ch3 _).mono ?_
            rintro e0 w0 ⟨rfl, rfl⟩
            go_wp2_with fail
            refine (Ch4 _).mono ?_
            rintro e0 w0 ⟨rfl, rfl⟩
            go_wp2_with fail
            refine (Ch19 _).mono ?_
            rintro e0 w0 ⟨rfl, rfl⟩
            go_wp2_with fail
            go_ret
            exact ⟨rfl, HB.out⟩
           ·have HE : latt k l e t a b o s = true := by simp [latt, h1, h2, h3, h4, h5, h17, h18, h19, h20, h21, h22]
            rw [HE]
            clear HE
            go_enter Tryz.func32, Tryz.ntmps32
            go_wp2_with (rw [HW.out])
            refine (Ch1 _).mono ?_
            rintro e0 w0 ⟨rfl, rfl⟩
            go_wp2_with fail
            refine (Ch2 _).mono ?_
            rintro e0 w0 ⟨rfl, rfl⟩
            go_wp2_with fail
            refine (Ch3 _).mono ?_
            rintro e0 w0 ⟨rfl, rfl⟩
            go_wp2_with fail
            refine (Ch4 _).mono ?_
            rintro e0 w0 ⟨rfl, rfl⟩
            go_wp2_with fail
            refine (Ch19 _).mono ?_
            rintro e0 w0 ⟨rfl, rfl⟩
            go_wp2_with fail
            go_ret
            exact ⟨rfl, HB.out⟩
          ·have HE : latt k l e t a b o s = true := by simp [latt, h1, h2, h3, h4, h5, h17, h18, h19, h20, h21]
           rw [HE]
           clear HE
           go_enter Tryz.func32, Tryz.ntmps32
           go_wp2_with (rw [HW.out])
           refine (Ch1 _).mono ?_
           rintro e0 w0 ⟨rfl, rfl⟩
           go_wp2_with fail
           refine (Ch2 _).mono ?_
           rintro e0 w0 ⟨rfl, rfl⟩
           go_wp2_with fail
           refine (Ch3 _).mono ?_
           rintro e0 w0 ⟨rfl, rfl⟩
           go_wp2_with fail
           refine (Ch4 _).mono ?_
           rintro e0 w0 ⟨rfl, rfl⟩
           go_wp2_with fail
           refine (Ch19 _).mono ?_
           rintro e0 w0 ⟨rfl, rfl⟩
           go_wp2_with fail
           go_ret
           exact ⟨rfl, HB.out⟩
         ·have HE : latt k l e t a b o s = true := by simp [latt, h1, h2, h3, h4, h5, h17, h18, h19, h20]
          rw [HE]
          clear HE
          go_enter Tryz.func32, Tryz.ntmps32
          go_wp2_with (rw [HW.out])
          refine (Ch1 _).mono ?_
          rintro e0 w0 ⟨rfl, rfl⟩
          go_wp2_with fail
          refine (Ch2 _).mono ?_
          rintro e0 w0 ⟨rfl, rfl⟩
          go_wp2_with fail
          refine (Ch3 _).mono ?_
          rintro e0 w0 ⟨rfl, rfl⟩
          go_wp2_with fail
          refine (Ch4 _).mono ?_
          rintro e0 w0 ⟨rfl, rfl⟩
          go_wp2_with fail
          refine (Ch19 _).mono ?_
          rintro e0 w0 ⟨rfl, rfl⟩
          go_wp2_with fail
          go_ret
          exact ⟨rfl, HB.out⟩
      ·cases h23 : okg b
       ·have Ch23 := gamma_any b
        rw [h23] at Ch23
        have HE : latt k l e t a b o s = false := by simp [latt, h1, h2, h3, h4, h5, h17, h23]
        rw [HE]
        clear HE
        go_enter Tryz.func32, Tryz.ntmps32
        go_wp2_with (rw [HW.out])
        refine (Ch1 _).mono ?_
        rintro e0 w0 ⟨rfl, rfl⟩
        go_wp2_with fail
        refine (Ch2 _).mono ?_
        rintro e0 w0 ⟨rfl, rfl⟩
        go_wp2_with fail
        refine (Ch3 _).mono ?_
        rintro e0 w0 ⟨rfl, rfl⟩
        go_wp2_with fail
        refine (Ch4 _).mono ?_
        rintro e0 w0 ⟨rfl, rfl⟩
        go_wp2_with fail
        refine (Ch23 _).mono ?_
        rintro e0 w0 ⟨rfl, rfl⟩
        go_wp2_with fail
        go_ret
        exact ⟨rfl, HB.out⟩
       ·have Ch23 := gamma_any b
        rw [h23] at Ch23
        cases h24 : s == 128
        ·cases h25 : s == 192
         ·cases h26 : s == 256
          ·have HE : latt k l e t a b o s = false := by simp [latt, h1, h2, h3, h4, h5, h17, h23, h24, h25, h26]
           rw [HE]
           clear HE
           go_enter Tryz.func32, Tryz.ntmps32
           go_wp2_with (rw [HW.out])
           refine (Ch1 _).mono ?_
           rintro e0 w0 ⟨rfl, rfl⟩
           go_wp2_with fail
           refine (Ch2 _).mono ?_
           rintro e0 w0 ⟨rfl, rfl⟩
           go_wp2_with fail
           refine (Ch3 _).mono ?_
           rintro e0 w0 ⟨rfl, rfl⟩
           go_wp2_with fail
           refine (Ch4 _).mono ?_
           rintro e0 w0 ⟨rfl, rfl⟩
           go_wp2_with fail
           refine (Ch23 _).mono ?_
           rintro e0 w0 ⟨rfl, rfl⟩
           go_wp2_with fail
           go_ret
           exact ⟨rfl, HB.out⟩
          ·have HE : latt k l e t a b o s = true := by simp [latt, h1, h2, h3, h4, h5, h17, h23, h24, h25, h26]
           rw [HE]
           clear HE
           go_enter Tryz.func32, Tryz.ntmps32
           go_wp2_with (rw [HW.out])
           refine (Ch1 _).mono ?_
           rintro e0 w0 ⟨rfl, rfl⟩
           go_wp2_with fail
           refine (Ch2 _).mono ?_
           rintro e0 w0 ⟨rfl, rfl⟩
           go_wp2_with fail
           refine (Ch3 _).mono ?_
           rintro e0 w0 ⟨rfl, rfl⟩
           go_wp2_with fail
           refine (Ch4 _).mono ?_
           rintro e0 w0 ⟨rfl, rfl⟩
           go_wp2_with fail
           refine (Ch23 _).mono ?_
           rintro e0 w0 ⟨rfl, rfl⟩
           go_wp2_with fail
           go_ret
           exact ⟨rfl, HB.out⟩
         ·have HE : latt k l e t a b o s = true := by simp [latt, h1, h2, h3, h4, h5, h17, h23, h24, h25]
          rw [HE]
          clear HE
          go_enter Tryz.func32, Tryz.ntmps32
          go_wp2_with (rw [HW.out])
          refine (Ch1 _).mono ?_
          rintro e0 w0 ⟨rfl, rfl⟩
          go_wp2_with fail
          refine (Ch2 _).mono ?_
          rintro e0 w0 ⟨rfl, rfl⟩
          go_wp2_with fail
          refine (Ch3 _).mono ?_
          rintro e0 w0 ⟨rfl, rfl⟩
          go_wp2_with fail
          refine (Ch4 _).mono ?_
          rintro e0 w0 ⟨rfl, rfl⟩
          go_wp2_with fail
          refine (Ch23 _).mono ?_
          rintro e0 w0 ⟨rfl, rfl⟩
          go_wp2_with fail
          go_ret
          exact ⟨rfl, HB.out⟩
        ·have HE : latt k l e t a b o s = true := by simp [latt, h1, h2, h3, h4, h5, h17, h23, h24]
         rw [HE]
         clear HE
         go_enter Tryz.func32, Tryz.ntmps32
         go_wp2_with (rw [HW.out])
         refine (Ch1 _).mono ?_
         rintro e0 w0 ⟨rfl, rfl⟩
         go_wp2_with fail
         refine (Ch2 _).mono ?_
         rintro e0 w0 ⟨rfl, rfl⟩
         go_wp2_with fail
         refine (Ch3 _).mono ?_
         rintro e0 w0 ⟨rfl, rfl⟩
         go_wp2_with fail
         refine (Ch4 _).mono ?_
         rintro e0 w0 ⟨rfl, rfl⟩
         go_wp2_with fail
         refine (Ch23 _).mono ?_
         rintro e0 w0 ⟨rfl, rfl⟩
         go_wp2_with fail
         go_ret
         exact ⟨rfl, HB.out⟩
end rright
end Go.Proofs.YtlcafjdehcddcaaGreatDoor
