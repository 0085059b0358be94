/-
  What the document's own gap and Right of layer 9 return. Conditions: none.
-/
import Derived.Test.YtlcafjdehcddcaaGreatDoorPuA
namespace Go.Proofs.YtlcafjdehcddcaaGreatDoor
namespace rfright
open Go Go.RowKit
open arr mem polt rndm
set_option maxRecDepth 100000 in
set_option maxHeartbeats 1000000 in
theorem gap_any (g : Int) (w : World) : Calls Tryz.prog 80 #[.int .i64 g] w fun e w' => e = .returned (.bool (okg g)) ∧ w' = w := by
 unfold okg
 cases h1 : g == 95232
 ·cases h2 : g == 261888
  ·go_enter Tryz.func80, Tryz.ntmps80
   go_wp2_with fail
   go_ret
   exact ⟨rfl, rfl⟩
  ·go_enter Tryz.func80, Tryz.ntmps80
   go_wp2_with fail
   go_ret
   exact ⟨rfl, rfl⟩
 ·go_enter Tryz.func80, Tryz.ntmps80
  go_wp2_with fail
  go_ret
  exact ⟨rfl, rfl⟩
set_option maxRecDepth 100000 in
set_option maxHeartbeats 4000000 in
theorem right_any (k l e t a b o s : Int) (w : World) : Calls Tryz.prog 35 #[.agg #[.int .i64 k, .int .i64 l, .int .i64 e, .int .i64 t, .int .i64 a, .int .i64 b, .int .i64 o, .int .i64 s]] w fun e0 w' => e0 = .returned (.bool (latt k l e t a b o s)) ∧ Below w.heap.size w w' := by
 obtain ⟨W, hW⟩ : ∃ x, w.alloc (.cells #[.int .i64 k, .int .i64 l, .int .i64 e, .int .i64 t, .int .i64 a, .int .i64 b, .int .i64 o, .int .i64 s] 23) = x := ⟨_, rfl⟩
 have HW := Away.mk hW
 have HB : Away (Below w.heap.size w W) := ⟨by rw [← hW]; exact below_alloc _ _⟩
 have hrow : W.heap[w.heap.size]? = some (.cells #[.int .i64 k, .int .i64 l, .int .i64 e, .int .i64 t, .int .i64 a, .int .i64 b, .int .i64 o, .int .i64 s] 23 (0, 0)) := by rw [← hW]; exact heap_at _ _ _ rfl
 have c0 : W.cell? ⟨w.heap.size, 0, none⟩ = some (.int .i64 k) := cell_at hrow rfl
 have c1 : W.cell? ⟨w.heap.size, 1, none⟩ = some (.int .i64 l) := cell_at hrow rfl
 have c2 : W.cell? ⟨w.heap.size, 2, none⟩ = some (.int .i64 e) := cell_at hrow rfl
 have c3 : W.cell? ⟨w.heap.size, 3, none⟩ = some (.int .i64 t) := cell_at hrow rfl
 have c4 : W.cell? ⟨w.heap.size, 4, none⟩ = some (.int .i64 a) := cell_at hrow rfl
 have c5 : W.cell? ⟨w.heap.size, 5, none⟩ = some (.int .i64 b) := cell_at hrow rfl
 have c6 : W.cell? ⟨w.heap.size, 6, none⟩ = some (.int .i64 o) := cell_at hrow rfl
 have c7 : W.cell? ⟨w.heap.size, 7, none⟩ = some (.int .i64 s) := cell_at hrow rfl
 clear hrow hW
 by_cases h1 : ¬ 1 ≤ k
 ·have HE : latt k l e t a b o s = false := by simp [latt, upto, h1]
  rw [HE]
  clear HE
  go_enter Tryz.func35, Tryz.ntmps35
  simp only [List.append_eq, List.cons_append, List.nil_append]
  go_wp2_with (rw [HW.out])
  go_ret
  exact ⟨rfl, HB.out⟩
 ·rw [Decidable.not_not] at h1
  by_cases h2 : ¬ k ≤ 8
  ·have HE : latt k l e t a b o s = false := by simp [latt, upto, h1, h2]
   rw [HE]
   clear HE
   go_enter Tryz.func35, Tryz.ntmps35
   simp only [List.append_eq, List.cons_append, List.nil_append]
   go_wp2_with (rw [HW.out])
   go_ret
   exact ⟨rfl, HB.out⟩
  ·rw [Decidable.not_not] at h2
   by_cases h3 : ¬ 1 ≤ l
   ·have HE : latt k l e t a b o s = false := by simp [latt, upto, h1, h2, h3]
    rw [HE]
    clear HE
    go_enter Tryz.func35, Tryz.ntmps35
    simp only [List.append_eq, List.cons_append, List.nil_append]
    go_wp2_with (rw [HW.out])
    go_ret
    exact ⟨rfl, HB.out⟩
   ·rw [Decidable.not_not] at h3
    by_cases h4 : ¬ l ≤ 8
    ·have HE : latt k l e t a b o s = false := by simp [latt, upto, h1, h2, h3, h4]
     rw [HE]
     clear HE
     go_enter Tryz.func35, Tryz.ntmps35
     simp only [List.append_eq, List.cons_append, List.nil_append]
     go_wp2_with (rw [HW.out])
     go_ret
     exact ⟨rfl, HB.out⟩
    ·rw [Decidable.not_not] at h4
     cases h5 : e == 2
     ·cases h6 : e == 4
      ·have HE : latt k l e t a b o s = false := by simp [latt, upto, h1, h2, h3, h4, h5, h6]
       rw [HE]
       clear HE
       go_enter Tryz.func35, Tryz.ntmps35
       simp only [List.append_eq, List.cons_append, List.nil_append]
       go_wp2_with (rw [HW.out])
       go_ret
       exact ⟨rfl, HB.out⟩
      ·by_cases h7 : ¬ 1 ≤ t
       ·have HE : latt k l e t a b o s = false := by simp [latt, upto, h1, h2, h3, h4, h5, h6, h7]
        rw [HE]
        clear HE
        go_enter Tryz.func35, Tryz.ntmps35
        simp only [List.append_eq, List.cons_append, List.nil_append]
        go_wp2_with (rw [HW.out])
        go_ret
        exact ⟨rfl, HB.out⟩
       ·rw [Decidable.not_not] at h7
        by_cases h8 : ¬ t ≤ 64
        ·have HE : latt k l e t a b o s = false := by simp [latt, upto, h1, h2, h3, h4, h5, h6, h7, h8]
         rw [HE]
         clear HE
         go_enter Tryz.func35, Tryz.ntmps35
         simp only [List.append_eq, List.cons_append, List.nil_append]
         go_wp2_with (rw [HW.out])
         go_ret
         exact ⟨rfl, HB.out⟩
        ·rw [Decidable.not_not] at h8
         cases h9 : a == 131072
         ·cases h10 : a == 524288
          ·have HE : latt k l e t a b o s = false := by simp [latt, upto, h1, h2, h3, h4, h5, h6, h7, h8, h9, h10]
           rw [HE]
           clear HE
           go_enter Tryz.func35, Tryz.ntmps35
           simp only [List.append_eq, List.cons_append, List.nil_append]
           go_wp2_with (rw [HW.out])
           go_ret
           exact ⟨rfl, HB.out⟩
          ·cases h11 : okg b
           ·have Ch11 := gap_any b
            rw [h11] at Ch11
            have HE : latt k l e t a b o s = false := by simp [latt, upto, h1, h2, h3, h4, h5, h6, h7, h8, h9, h10, h11]
            rw [HE]
            clear HE
            go_enter Tryz.func35, Tryz.ntmps35
            simp only [List.append_eq, List.cons_append, List.nil_append]
            go_wp2_with (rw [HW.out])
            refine (Ch11 _).mono ?_
            rintro e0 w0 ⟨rfl, rfl⟩
            go_wp2_with fail
            go_ret
            exact ⟨rfl, HB.out⟩
           ·have Ch11 := gap_any b
            rw [h11] at Ch11
            by_cases h12 : ¬ 1 ≤ o
            ·have HE : latt k l e t a b o s = false := by simp [latt, upto, h1, h2, h3, h4, h5, h6, h7, h8, h9, h10, h11, h12]
             rw [HE]
             clear HE
             go_enter Tryz.func35, Tryz.ntmps35
             simp only [List.append_eq, List.cons_append, List.nil_append]
             go_wp2_with (rw [HW.out])
             refine (Ch11 _).mono ?_
             rintro e0 w0 ⟨rfl, rfl⟩
             go_wp2_with fail
             go_ret
             exact ⟨rfl, HB.out⟩
            ·rw [Decidable.not_not] at h12
             by_cases h13 : ¬ o ≤ 100
             ·have HE : latt k l e t a b o s = false := by simp [latt, upto, h1, h2, h3, h4, h5, h6, h7, h8, h9, h10, h11, h12, h13]
              rw [HE]
              clear HE
              go_enter Tryz.func35, Tryz.ntmps35
              simp only [List.append_eq, List.cons_append, List.nil_append]
              go_wp2_with (rw [HW.out])
              refine (Ch11 _).mono ?_
              rintro e0 w0 ⟨rfl, rfl⟩
              go_wp2_with fail
              go_ret
              exact ⟨rfl, HB.out⟩
             ·rw [Decidable.not_not] at h13
              cases h14 : s == 128
              ·cases h15 : s == 192
               ·cases h16 : s == 256
                ·have HE : latt k l e t a b o s = false := by simp [latt, upto, h1, h2, h3, h4, h5, h6, h7, h8, h9, h10, h11, h12, h13, h14, h15, h16]
                 rw [HE]
                 clear HE
                 go_enter Tryz.func35, Tryz.ntmps35
                 simp only [List.append_eq, List.cons_append, List.nil_append]
                 go_wp2_with (rw [HW.out])
                 refine (Ch11 _).mono ?_
                 rintro e0 w0 ⟨rfl, rfl⟩
                 go_wp2_with fail
                 go_ret
                 exact ⟨rfl, HB.out⟩
                ·have HE : latt k l e t a b o s = true := by simp [latt, upto, h1, h2, h3, h4, h5, h6, h7, h8, h9, h10, h11, h12, h13, h14, h15, h16]
                 rw [HE]
                 clear HE
                 go_enter Tryz.func35, Tryz.ntmps35
                 simp only [List.append_eq, List.cons_append, List.nil_append]
                 go_wp2_with (rw [HW.out])
                 refine (Ch11 _).mono ?_
                 rintro e0 w0 ⟨rfl, rfl⟩
                 go_wp2_with fail
                 go_ret
                 exact ⟨rfl, HB.out⟩
               ·have HE : latt k l e t a b o s = true := by simp [latt, upto, h1, h2, h3, h4, h5, h6, h7, h8, h9, h10, h11, h12, h13, h14, h15]
                rw [HE]
                clear HE
                go_enter Tryz.func35, Tryz.ntmps35
                simp only [List.append_eq, List.cons_append, List.nil_append]
                go_wp2_with (rw [HW.out])
                refine (Ch11 _).mono ?_
                rintro e0 w0 ⟨rfl, rfl⟩
                go_wp2_with fail
                go_ret
                exact ⟨rfl, HB.out⟩
              ·have HE : latt k l e t a b o s = true := by simp [latt, upto, h1, h2, h3, h4, h5, h6, h7, h8, h9, h10, h11, h12, h13, h14]
               rw [HE]
               clear HE
               go_enter Tryz.func35, Tryz.ntmps35
               simp only [List.append_eq, List.cons_append, List.nil_append]
               go_wp2_with (rw [HW.out])
               refine (Ch11 _).mono ?_
               rintro e0 w0 ⟨rfl, rfl⟩
               go_wp2_with fail
               go_ret
               exact ⟨rfl, HB.out⟩
         ·cases h17 : okg b
          ·have Ch17 := gap_any b
           rw [h17] at Ch17
           have HE : latt k l e t a b o s = false := by simp [latt, upto, h1, h2, h3, h4, h5, h6, h7, h8, h9, h17]
           rw [HE]
           clear HE
           go_enter Tryz.func35, Tryz.ntmps35
           simp only [List.append_eq, List.cons_append, List.nil_append]
           go_wp2_with (rw [HW.out])
           refine (Ch17 _).mono ?_
           rintro e0 w0 ⟨rfl, rfl⟩
           go_wp2_with fail
           go_ret
           exact ⟨rfl, HB.out⟩
          ·have Ch17 := gap_any b
           rw [h17] at Ch17
           by_cases h18 : ¬ 1 ≤ o
           ·have HE : latt k l e t a b o s = false := by simp [latt, upto, h1, h2, h3, h4, h5, h6, h7, h8, h9, h17, h18]
            rw [HE]
            clear HE
            go_enter Tryz.func35, Tryz.ntmps35
            simp only [List.append_eq, List.cons_append, List.nil_append]
            go_wp2_with (rw [HW.out])
            refine (Ch17 _).mono ?_
            rintro e0 w0 ⟨rfl, rfl⟩
            go_wp2_with fail
            go_ret
            exact ⟨rfl, HB.out⟩
           ·rw [Decidable.not_not] at h18
            by_cases h19 : ¬ o ≤ 100
            ·have HE : latt k l e t a b o s = false := by simp [latt, upto, h1, h2, h3, h4, h5, h6, h7, h8, h9, h17, h18, h19]
             rw [HE]
             clear HE
             go_enter Tryz.func35, Tryz.ntmps35
             simp only [List.append_eq, List.cons_append, List.nil_append]
             go_wp2_with (rw [HW.out])
             refine (Ch17 _).mono ?_
             rintro e0 w0 ⟨rfl, rfl⟩
             go_wp2_with fail
             go_ret
             exact ⟨rfl, HB.out⟩
            ·rw [Decidable.not_not] at h19
             cases h20 : s == 128
             ·cases h21 : s == 192
              ·cases h22 : s == 256
               ·have HE : latt k l e t a b o s = false := by simp [latt, upto, h1, h2, h3, h4, h5, h6, h7, h8, h9, h17, h18, h19, h20, h21, h22]
                rw [HE]
                clear HE
                go_enter Tryz.func35, Tryz.ntmps35
                simp only [List.append_eq, List.cons_append, List.nil_append]
                go_wp2_with (rw [HW.out])
                refine (Ch17 _).mono ?_
                rintro e0 w0 ⟨rfl, rfl⟩
                go_wp2_with fail
                go_ret
                exact ⟨rfl, HB.out⟩
               ·have HE : latt k l e t a b o s = true := by simp [latt, upto, h1, h2, h3, h4, h5, h6, h7, h8, h9, h17, h18, h19, h20, h21, h22]
                rw [HE]
                clear HE
                go_enter Tryz.func35, Tryz.ntmps35
                simp only [List.append_eq, List.cons_append, List.nil_append]
                go_wp2_with (rw [HW.out])
                refine (Ch17 _).mono ?_
                rintro e0 w0 ⟨rfl, rfl⟩
                go_wp2_with fail
                go_ret
                exact ⟨rfl, HB.out⟩
              ·have HE : latt k l e t a b o s = true := by simp [latt, upto, h1, h2, h3, h4, h5, h6, h7, h8, h9, h17, h18, h19, h20, h21]
               rw [HE]
               clear HE
               go_enter Tryz.func35, Tryz.ntmps35
               simp only [List.append_eq, List.cons_append, List.nil_append]
               go_wp2_with (rw [HW.out])
               refine (Ch17 _).mono ?_
               rintro e0 w0 ⟨rfl, rfl⟩
               go_wp2_with fail
               go_ret
               exact ⟨rfl, HB.out⟩
             ·have HE : latt k l e t a b o s = true := by simp [latt, upto, h1, h2, h3, h4, h5, h6, h7, h8, h9, h17, h18, h19, h20]
              rw [HE]
              clear HE
              go_enter Tryz.func35, Tryz.ntmps35
              simp only [List.append_eq, List.cons_append, List.nil_append]
              go_wp2_with (rw [HW.out])
              refine (Ch17 _).mono ?_
              rintro e0 w0 ⟨rfl, rfl⟩
              go_wp2_with fail
              go_ret
              exact ⟨rfl, HB.out⟩
     ·by_cases h23 : ¬ 1 ≤ t
      ·have HE : latt k l e t a b o s = false := by simp [latt, upto, h1, h2, h3, h4, h5, h23]
       rw [HE]
       clear HE
       go_enter Tryz.func35, Tryz.ntmps35
       simp only [List.append_eq, List.cons_append, List.nil_append]
       go_wp2_with (rw [HW.out])
       go_ret
       exact ⟨rfl, HB.out⟩
      ·rw [Decidable.not_not] at h23
       by_cases h24 : ¬ t ≤ 64
       ·have HE : latt k l e t a b o s = false := by simp [latt, upto, h1, h2, h3, h4, h5, h23, h24]
        rw [HE]
        clear HE
        go_enter Tryz.func35, Tryz.ntmps35
        simp only [List.append_eq, List.cons_append, List.nil_append]
        go_wp2_with (rw [HW.out])
        go_ret
        exact ⟨rfl, HB.out⟩
       ·rw [Decidable.not_not] at h24
        cases h25 : a == 131072
        ·cases h26 : a == 524288
         ·have HE : latt k l e t a b o s = false := by simp [latt, upto, h1, h2, h3, h4, h5, h23, h24, h25, h26]
          rw [HE]
          clear HE
          go_enter Tryz.func35, Tryz.ntmps35
          simp only [List.append_eq, List.cons_append, List.nil_append]
          go_wp2_with (rw [HW.out])
          go_ret
          exact ⟨rfl, HB.out⟩
         ·cases h27 : okg b
          ·have Ch27 := gap_any b
           rw [h27] at Ch27
           have HE : latt k l e t a b o s = false := by simp [latt, upto, h1, h2, h3, h4, h5, h23, h24, h25, h26, h27]
           rw [HE]
           clear HE
           go_enter Tryz.func35, Tryz.ntmps35
           simp only [List.append_eq, List.cons_append, List.nil_append]
           go_wp2_with (rw [HW.out])
           refine (Ch27 _).mono ?_
           rintro e0 w0 ⟨rfl, rfl⟩
           go_wp2_with fail
           go_ret
           exact ⟨rfl, HB.out⟩
          ·have Ch27 := gap_any b
           rw [h27] at Ch27
           by_cases h28 : ¬ 1 ≤ o
           ·have HE : latt k l e t a b o s = false := by simp [latt, upto, h1, h2, h3, h4, h5, h23, h24, h25, h26, h27, h28]
            rw [HE]
            clear HE
            go_enter Tryz.func35, Tryz.ntmps35
            simp only [List.append_eq, List.cons_append, List.nil_append]
            go_wp2_with (rw [HW.out])
            refine (Ch27 _).mono ?_
            rintro e0 w0 ⟨rfl, rfl⟩
            go_wp2_with fail
            go_ret
            exact ⟨rfl, HB.out⟩
           ·rw [Decidable.not_not] at h28
            by_cases h29 : ¬ o ≤ 100
            ·have HE : latt k l e t a b o s = false := by simp [latt, upto, h1, h2, h3, h4, h5, h23, h24, h25, h26, h27, h28, h29]
             rw [HE]
             clear HE
             go_enter Tryz.func35, Tryz.ntmps35
             simp only [List.append_eq, List.cons_append, List.nil_append]
             go_wp2_with (rw [HW.out])
             refine (Ch27 _).mono ?_
             rintro e0 w0 ⟨rfl, rfl⟩
             go_wp2_with fail
             go_ret
             exact ⟨rfl, HB.out⟩
            ·rw [Decidable.not_not] at h29
             cases h30 : s == 128
             ·cases h31 : s == 192
              ·cases h32 : s == 256
               ·have HE : latt k l e t a b o s = false := by simp [latt, upto, h1, h2, h3, h4, h5, h23, h24, h25, h26, h27, h28, h29, h30, h31, h32]
                rw [HE]
                clear HE
                go_enter Tryz.func35, Tryz.ntmps35
                simp only [List.append_eq, List.cons_append, List.nil_append]
                go_wp2_with (rw [HW.out])
                refine (Ch27 _).mono ?_
                rintro e0 w0 ⟨rfl, rfl⟩
                go_wp2_with fail
                go_ret
                exact ⟨rfl, HB.out⟩
               ·have HE : latt k l e t a b o s = true := by simp [latt, upto, h1, h2, h3, h4, h5, h23, h24, h25, h26, h27, h28, h29, h30, h31, h32]
                rw [HE]
                clear HE
                go_enter Tryz.func35, Tryz.ntmps35
                simp only [List.append_eq, List.cons_append, List.nil_append]
                go_wp2_with (rw [HW.out])
                refine (Ch27 _).mono ?_
                rintro e0 w0 ⟨rfl, rfl⟩
                go_wp2_with fail
                go_ret
                exact ⟨rfl, HB.out⟩
              ·have HE : latt k l e t a b o s = true := by simp [latt, upto, h1, h2, h3, h4, h5, h23, h24, h25, h26, h27, h28, h29, h30, h31]
               rw [HE]
               clear HE
               go_enter Tryz.func35, Tryz.ntmps35
               simp only [List.append_eq, List.cons_append, List.nil_append]
               go_wp2_with (rw [HW.out])
               refine (Ch27 _).mono ?_
               rintro e0 w0 ⟨rfl, rfl⟩
               go_wp2_with fail
               go_ret
               exact ⟨rfl, HB.out⟩
             ·have HE : latt k l e t a b o s = true := by simp [latt, upto, h1, h2, h3, h4, h5, h23, h24, h25, h26, h27, h28, h29, h30]
              rw [HE]
              clear HE
              go_enter Tryz.func35, Tryz.ntmps35
              simp only [List.append_eq, List.cons_append, List.nil_append]
              go_wp2_with (rw [HW.out])
              refine (Ch27 _).mono ?_
              rintro e0 w0 ⟨rfl, rfl⟩
              go_wp2_with fail
              go_ret
              exact ⟨rfl, HB.out⟩
        ·cases h33 : okg b
         ·have Ch33 := gap_any b
          rw [h33] at Ch33
          have HE : latt k l e t a b o s = false := by simp [latt, upto, h1, h2, h3, h4, h5, h23, h24, h25, h33]
          rw [HE]
          clear HE
          go_enter Tryz.func35, Tryz.ntmps35
          simp only [List.append_eq, List.cons_append, List.nil_append]
          go_wp2_with (rw [HW.out])
          refine (Ch33 _).mono ?_
          rintro e0 w0 ⟨rfl, rfl⟩
          go_wp2_with fail
          go_ret
          exact ⟨rfl, HB.out⟩
         ·have Ch33 := gap_any b
          rw [h33] at Ch33
          by_cases h34 : ¬ 1 ≤ o
          ·have HE : latt k l e t a b o s = false := by simp [latt, upto, h1, h2, h3, h4, h5, h23, h24, h25, h33, h34]
           rw [HE]
           clear HE
           go_enter Tryz.func35, Tryz.ntmps35
           simp only [List.append_eq, List.cons_append, List.nil_append]
           go_wp2_with (rw [HW.out])
           refine (Ch33 _).mono ?_
           rintro e0 w0 ⟨rfl, rfl⟩
           go_wp2_with fail
           go_ret
           exact ⟨rfl, HB.out⟩
          ·rw [Decidable.not_not] at h34
           by_cases h35 : ¬ o ≤ 100
           ·have HE : latt k l e t a b o s = false := by simp [latt, upto, h1, h2, h3, h4, h5, h23, h24, h25, h33, h34, h35]
            rw [HE]
            clear HE
            go_enter Tryz.func35, Tryz.ntmps35
            simp only [List.append_eq, List.cons_append, List.nil_append]
            go_wp2_with (rw [HW.out])
            refine (Ch33 _).mono ?_
            rintro e0 w0 ⟨rfl, rfl⟩
            go_wp2_with fail
            go_ret
            exact ⟨rfl, HB.out⟩
           ·rw [Decidable.not_not] at h35
            cases h36 : s == 128
            ·cases h37 : s == 192
             ·cases h38 : s == 256
              ·have HE : latt k l e t a b o s = false := by simp [latt, upto, h1, h2, h3, h4, h5, h23, h24, h25, h33, h34, h35, h36, h37, h38]
               rw [HE]
               clear HE
               go_enter Tryz.func35, Tryz.ntmps35
               simp only [List.append_eq, List.cons_append, List.nil_append]
               go_wp2_with (rw [HW.out])
               refine (Ch33 _).mono ?_
               rintro e0 w0 ⟨rfl, rfl⟩
               go_wp2_with fail
               go_ret
               exact ⟨rfl, HB.out⟩
              ·have HE : latt k l e t a b o s = true := by simp [latt, upto, h1, h2, h3, h4, h5, h23, h24, h25, h33, h34, h35, h36, h37, h38]
               rw [HE]
               clear HE
               go_enter Tryz.func35, Tryz.ntmps35
               simp only [List.append_eq, List.cons_append, List.nil_append]
               go_wp2_with (rw [HW.out])
               refine (Ch33 _).mono ?_
               rintro e0 w0 ⟨rfl, rfl⟩
               go_wp2_with fail
               go_ret
               exact ⟨rfl, HB.out⟩
             ·have HE : latt k l e t a b o s = true := by simp [latt, upto, h1, h2, h3, h4, h5, h23, h24, h25, h33, h34, h35, h36, h37]
              rw [HE]
              clear HE
              go_enter Tryz.func35, Tryz.ntmps35
              simp only [List.append_eq, List.cons_append, List.nil_append]
              go_wp2_with (rw [HW.out])
              refine (Ch33 _).mono ?_
              rintro e0 w0 ⟨rfl, rfl⟩
              go_wp2_with fail
              go_ret
              exact ⟨rfl, HB.out⟩
            ·have HE : latt k l e t a b o s = true := by simp [latt, upto, h1, h2, h3, h4, h5, h23, h24, h25, h33, h34, h35, h36]
             rw [HE]
             clear HE
             go_enter Tryz.func35, Tryz.ntmps35
             simp only [List.append_eq, List.cons_append, List.nil_append]
             go_wp2_with (rw [HW.out])
             refine (Ch33 _).mono ?_
             rintro e0 w0 ⟨rfl, rfl⟩
             go_wp2_with fail
             go_ret
             exact ⟨rfl, HB.out⟩
end rfright
end Go.Proofs.YtlcafjdehcddcaaGreatDoor
