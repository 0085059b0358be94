/-
  What the document's own gap and Right of layer 9 return. Conditions: none. What the document's own Long of layer 10 returns. Conditions: none. What the document's own bytes of layer 10 returns: numbers of a fixed width laid bit by bit. Conditions: each number fits into the width, the slice holds them. What the document's own Pack of layer 10 returns. Conditions: none. What the document's own Reduce and Centre of layer 7 return. Conditions: none. What the document's own Signed and Unpack of layer 10 return. Conditions: none.
-/
import Derived.Test.YtlcafjdehcddcaaGreatDoorZs03
import Derived.Test.YtlcafjdehcddcaaGreatDoorProg
namespace Go.Proofs.YtlcafjdehcddcaaGreatDoor
namespace rfright
open Go Go.RowKit
open arr mem polt rndm
set_option maxRecDepth 100000 in
set_option maxHeartbeats 1000000 in
theorem gap_any (g : Int) (w : World) : Calls Tryz.prog 80 #[.int .i64 g] w fun e w' => e = .returned (.bool (okg g)) ∧ w' = w := by
 unfold okg
 cases h1 : g == 95232
 ·cases h2 : g == 261888
  ·go_enter Tryz.func80, Tryz.ntmps80
   go_wp2_with fail
   go_ret
   exact ⟨rfl, rfl⟩
  ·go_enter Tryz.func80, Tryz.ntmps80
   go_wp2_with fail
   go_ret
   exact ⟨rfl, rfl⟩
 ·go_enter Tryz.func80, Tryz.ntmps80
  go_wp2_with fail
  go_ret
  exact ⟨rfl, rfl⟩
set_option maxRecDepth 100000 in
set_option maxHeartbeats 4000000 in
theorem right_any (k l e t a b o s : Int) (w : World) : Calls Tryz.prog 35 #[.agg #[.int .i64 k, .int .i64 l, .int .i64 e, .int .i64 t, .int .i64 a, .int .i64 b, .int .i64 o, .int .i64 s]] w fun e0 w' => e0 = .returned (.bool (latt k l e t a b o s)) ∧ Below w.heap.size w w' := by
 obtain ⟨W, hW⟩ : ∃ x, w.alloc (.cells #[.int .i64 k, .int .i64 l, .int .i64 e, .int .i64 t, .int .i64 a, .int .i64 b, .int .i64 o, .int .i64 s] 23) = x := ⟨_, rfl⟩
 have HW := Away.mk hW
 have HB : Away (Below w.heap.size w W) := ⟨by rw [← hW]; exact below_alloc _ _⟩
 have hrow : W.heap[w.heap.size]? = some (.cells #[.int .i64 k, .int .i64 l, .int .i64 e, .int .i64 t, .int .i64 a, .int .i64 b, .int .i64 o, .int .i64 s] 23 (0, 0)) := by rw [← hW]; exact heap_at _ _ _ rfl
 have c0 : W.cell? ⟨w.heap.size, 0, none⟩ = some (.int .i64 k) := cell_at hrow rfl
 have c1 : W.cell? ⟨w.heap.size, 1, none⟩ = some (.int .i64 l) := cell_at hrow rfl
 have c2 : W.cell? ⟨w.heap.size, 2, none⟩ = some (.int .i64 e) := cell_at hrow rfl
 have c3 : W.cell? ⟨w.heap.size, 3, none⟩ = some (.int .i64 t) := cell_at hrow rfl
 have c4 : W.cell? ⟨w.heap.size, 4, none⟩ = some (.int .i64 a) := cell_at hrow rfl
 have c5 : W.cell? ⟨w.heap.size, 5, none⟩ = some (.int .i64 b) := cell_at hrow rfl
 have c6 : W.cell? ⟨w.heap.size, 6, none⟩ = some (.int .i64 o) := cell_at hrow rfl
 have c7 : W.cell? ⟨w.heap.size, 7, none⟩ = some (.int .i64 s) := cell_at hrow rfl
 clear hrow hW
 by_cases h1 : ¬ 1 ≤ k
 ·have HE : latt k l e t a b o s = false := by simp [latt, upto, h1]
  rw [HE]
  clear HE
  go_enter Tryz.func35, Tryz.ntmps35
  simp only [List.append_eq, List.cons_append, List.nil_append]
  go_wp2_with (rw [HW.out])
  go_ret
  exact ⟨rfl, HB.out⟩
 ·rw [Decidable.not_not] at h1
  by_cases h2 : ¬ k ≤ 8
  ·have HE : latt k l e t a b o s = false := by simp [latt, upto, h1, h2]
   rw [HE]
   clear HE
   go_enter Tryz.func35, Tryz.ntmps35
   simp only [List.append_eq, List.cons_append, List.nil_append]
   go_wp2_with (rw [HW.out])
   go_ret
   exact ⟨rfl, HB.out⟩
  ·rw [Decidable.not_not] at h2
   by_cases h3 : ¬ 1 ≤ l
   ·have HE : latt k l e t a b o s = false := by simp [latt, upto, h1, h2, h3]
    rw [HE]
    clear HE
    go_enter Tryz.func35, Tryz.ntmps35
    simp only [List.append_eq, List.cons_append, List.nil_append]
    go_wp2_with (rw [HW.out])
    go_ret
    exact ⟨rfl, HB.out⟩
   ·rw [Decidable.not_not] at h3
    by_cases h4 : ¬ l ≤ 8
    ·have HE : latt k l e t a b o s = false := by simp [latt, upto, h1, h2, h3, h4]
     rw [HE]
     clear HE
     go_enter Tryz.func35, Tryz.ntmps35
     simp only [List.append_eq, List.cons_append, List.nil_append]
     go_wp2_with (rw [HW.out])
     go_ret
     exact ⟨rfl, HB.out⟩
    ·rw [Decidable.not_not] at h4
     cases h5 : e == 2
     ·cases h6 : e == 4
      ·have HE : latt k l e t a b o s = false := by simp [latt, upto, h1, h2, h3, h4, h5, h6]
       rw [HE]
       clear HE
       go_enter Tryz.func35, Tryz.ntmps35
       simp only [List.append_eq, List.cons_append, List.nil_append]
       go_wp2_with (rw [HW.out])
       go_ret
       exact ⟨rfl, HB.out⟩
      ·by_cases h7 : ¬ 1 ≤ t
       ·have HE : latt k l e t a b o s = false := by simp [latt, upto, h1, h2, h3, h4, h5, h6, h7]
        rw [HE]
        clear HE
        go_enter Tryz.func35, Tryz.ntmps35
        simp only [List.append_eq, List.cons_append, List.nil_append]
        go_wp2_with (rw [HW.out])
        go_ret
        exact ⟨rfl, HB.out⟩
       ·rw [Decidable.not_not] at h7
        by_cases h8 : ¬ t ≤ 64
        ·have HE : latt k l e t a b o s = false := by simp [latt, upto, h1, h2, h3, h4, h5, h6, h7, h8]
         rw [HE]
         clear HE
         go_enter Tryz.func35, Tryz.ntmps35
         simp only [List.append_eq, List.cons_append, List.nil_append]
         go_wp2_with (rw [HW.out])
         go_ret
         exact ⟨rfl, HB.out⟩
        ·rw [Decidable.not_not] at h8
         cases h9 : a == 131072
         ·cases h10 : a == 524288
          ·have HE : latt k l e t a b o s = false := by simp [latt, upto, h1, h2, h3, h4, h5, h6, h7, h8, h9, h10]
           rw [HE]
           clear HE
           go_enter Tryz.func35, Tryz.ntmps35
           simp only [List.append_eq, List.cons_append, List.nil_append]
           go_wp2_with (rw [HW.out])
           go_ret
           exact ⟨rfl, HB.out⟩
          ·cases h11 : okg b
           ·have Ch11 := gap_any b
            rw [h11] at Ch11
            have HE : latt k l e t a b o s = false := by simp [latt, upto, h1, h2, h3, h4, h5, h6, h7, h8, h9, h10, h11]
            rw [HE]
            clear HE
            go_enter Tryz.func35, Tryz.ntmps35
            simp only [List.append_eq, List.cons_append, List.nil_append]
            go_wp2_with (rw [HW.out])
            refine (Ch11 _).mono ?_
            rintro e0 w0 ⟨rfl, rfl⟩
            go_wp2_with fail
            go_ret
            exact ⟨rfl, HB.out⟩
           ·have Ch11 := gap_any b
            rw [h11] at Ch11
            by_cases h12 : ¬ 1 ≤ o
            ·have HE : latt k l e t a b o s = false := by simp [latt, upto, h1, h2, h3, h4, h5, h6, h7, h8, h9, h10, h11, h12]
             rw [HE]
             clear HE
             go_enter Tryz.func35, Tryz.ntmps35
             simp only [List.append_eq, List.cons_append, List.nil_append]
             go_wp2_with (rw [HW.out])
             refine (Ch11 _).mono ?_
             rintro e0 w0 ⟨rfl, rfl⟩
             go_wp2_with fail
             go_ret
             exact ⟨rfl, HB.out⟩
            ·rw [Decidable.not_not] at h12
             by_cases h13 : ¬ o ≤ 100
             ·have HE : latt k l e t a b o s = false := by simp [latt, upto, h1, h2, h3, h4, h5, h6, h7, h8, h9, h10, h11, h12, h13]
              rw [HE]
              clear HE
              go_enter Tryz.func35, Tryz.ntmps35
              simp only [List.append_eq, List.cons_append, List.nil_append]
              go_wp2_with (rw [HW.out])
              refine (Ch11 _).mono ?_
              rintro e0 w0 ⟨rfl, rfl⟩
              go_wp2_with fail
              go_ret
              exact ⟨rfl, HB.out⟩
             ·rw [Decidable.not_not] at h13
              cases h14 : s == 128
              ·cases h15 : s == 192
               ·cases h16 : s == 256
                ·have HE : latt k l e t a b o s = false := by simp [latt, upto, h1, h2, h3, h4, h5, h6, h7, h8, h9, h10, h11, h12, h13, h14, h15, h16]
                 rw [HE]
                 clear HE
                 go_enter Tryz.func35, Tryz.ntmps35
                 simp only [List.append_eq, List.cons_append, List.nil_append]
                 go_wp2_with (rw [HW.out])
                 refine (Ch11 _).mono ?_
                 rintro e0 w0 ⟨rfl, rfl⟩
                 go_wp2_with fail
                 go_ret
                 exact ⟨rfl, HB.out⟩
                ·have HE : latt k l e t a b o s = true := by simp [latt, upto, h1, h2, h3, h4, h5, h6, h7, h8, h9, h10, h11, h12, h13, h14, h15, h16]
                 rw [HE]
                 clear HE
                 go_enter Tryz.func35, Tryz.ntmps35
                 simp only [List.append_eq, List.cons_append, List.nil_append]
                 go_wp2_with (rw [HW.out])
                 refine (Ch11 _).mono ?_
                 rintro e0 w0 ⟨rfl, rfl⟩
                 go_wp2_with fail
                 go_ret
                 exact ⟨rfl, HB.out⟩
               ·have HE : latt k l e t a b o s = true := by simp [latt, upto, h1, h2, h3, h4, h5, h6, h7, h8, h9, h10, h11, h12, h13, h14, h15]
                rw [HE]
                clear HE
                go_enter Tryz.func35, Tryz.ntmps35
                simp only [List.append_eq, List.cons_append, List.nil_append]
                go_wp2_with (rw [HW.out])
                refine (Ch11 _).mono ?_
                rintro e0 w0 ⟨rfl, rfl⟩
                go_wp2_with fail
                go_ret
                exact ⟨rfl, HB.out⟩
              ·have HE : latt k l e t a b o s = true := by simp [latt, upto, h1, h2, h3, h4, h5, h6, h7, h8, h9, h10, h11, h12, h13, h14]
               rw [HE]
               clear HE
               go_enter Tryz.func35, Tryz.ntmps35
               simp only [List.append_eq, List.cons_append, List.nil_append]
               go_wp2_with (rw [HW.out])
               refine (Ch11 _).mono ?_
               rintro e0 w0 ⟨rfl, rfl⟩
               go_wp2_with fail
               go_ret
               exact ⟨rfl, HB.out⟩
         ·cases h17 : okg b
          ·have Ch17 := gap_any b
           rw [h17] at Ch17
           have HE : latt k l e t a b o s = false := by simp [latt, upto, h1, h2, h3, h4, h5, h6, h7, h8, h9, h17]
           rw [HE]
           clear HE
           go_enter Tryz.func35, Tryz.ntmps35
           simp only [List.append_eq, List.cons_append, List.nil_append]
           go_wp2_with (rw [HW.out])
           refine (Ch17 _).mono ?_
           rintro e0 w0 ⟨rfl, rfl⟩
           go_wp2_with fail
           go_ret
           exact ⟨rfl, HB.out⟩
          ·have Ch17 := gap_any b
           rw [h17] at Ch17
           by_cases h18 : ¬ 1 ≤ o
           ·have HE : latt k l e t a b o s = false := by simp [latt, upto, h1, h2, h3, h4, h5, h6, h7, h8, h9, h17, h18]
            rw [HE]
            clear HE
            go_enter Tryz.func35, Tryz.ntmps35
            simp only [List.append_eq, List.cons_append, List.nil_append]
            go_wp2_with (rw [HW.out])
            refine (Ch17 _).mono ?_
            rintro e0 w0 ⟨rfl, rfl⟩
            go_wp2_with fail
            go_ret
            exact ⟨rfl, HB.out⟩
           ·rw [Decidable.not_not] at h18
            by_cases h19 : ¬ o ≤ 100
            ·have HE : latt k l e t a b o s = false := by simp [latt, upto, h1, h2, h3, h4, h5, h6, h7, h8, h9, h17, h18, h19]
             rw [HE]
             clear HE
             go_enter Tryz.func35, Tryz.ntmps35
             simp only [List.append_eq, List.cons_append, List.nil_append]
             go_wp2_with (rw [HW.out])
             refine (Ch17 _).mono ?_
             rintro e0 w0 ⟨rfl, rfl⟩
             go_wp2_with fail
             go_ret
             exact ⟨rfl, HB.out⟩
            ·rw [Decidable.not_not] at h19
             cases h20 : s == 128
             ·cases h21 : s == 192
              ·cases h22 : s == 256
               ·have HE : latt k l e t a b o s = false := by simp [latt, upto, h1, h2, h3, h4, h5, h6, h7, h8, h9, h17, h18, h19, h20, h21, h22]
                rw [HE]
                clear HE
                go_enter Tryz.func35, Tryz.ntmps35
                simp only [List.append_eq, List.cons_append, List.nil_append]
                go_wp2_with (rw [HW.out])
                refine (Ch17 _).mono ?_
                rintro e0 w0 ⟨rfl, rfl⟩
                go_wp2_with fail
                go_ret
                exact ⟨rfl, HB.out⟩
               ·have HE : latt k l e t a b o s = true := by simp [latt, upto, h1, h2, h3, h4, h5, h6, h7, h8, h9, h17, h18, h19, h20, h21, h22]
                rw [HE]
                clear HE
                go_enter Tryz.func35, Tryz.ntmps35
                simp only [List.append_eq, List.cons_append, List.nil_append]
                go_wp2_with (rw [HW.out])
                refine (Ch17 _).mono ?_
                rintro e0 w0 ⟨rfl, rfl⟩
                go_wp2_with fail
                go_ret
                exact ⟨rfl, HB.out⟩
              ·have HE : latt k l e t a b o s = true := by simp [latt, upto, h1, h2, h3, h4, h5, h6, h7, h8, h9, h17, h18, h19, h20, h21]
               rw [HE]
               clear HE
               go_enter Tryz.func35, Tryz.ntmps35
               simp only [List.append_eq, List.cons_append, List.nil_append]
               go_wp2_with (rw [HW.out])
               refine (Ch17 _).mono ?_
               rintro e0 w0 ⟨rfl, rfl⟩
               go_wp2_with fail
               go_ret
               exact ⟨rfl, HB.out⟩
             ·have HE : latt k l e t a b o s = true := by simp [latt, upto, h1, h2, h3, h4, h5, h6, h7, h8, h9, h17, h18, h19, h20]
              rw [HE]
              clear HE
              go_enter Tryz.func35, Tryz.ntmps35
              simp only [List.append_eq, List.cons_append, List.nil_append]
              go_wp2_with (rw [HW.out])
              refine (Ch17 _).mono ?_
              rintro e0 w0 ⟨rfl, rfl⟩
              go_wp2_with fail
              go_ret
              exact ⟨rfl, HB.out⟩
     ·by_cases h23 : ¬ 1 ≤ t
      ·have HE : latt k l e t a b o s = false := by simp [latt, upto, h1, h2, h3, h4, h5, h23]
       rw [HE]
       clear HE
       go_enter Tryz.func35, Tryz.ntmps35
       simp only [List.append_eq, List.cons_append, List.nil_append]
       go_wp2_with (rw [HW.out])
       go_ret
       exact ⟨rfl, HB.out⟩
      ·rw [Decidable.not_not] at h23
       by_cases h24 : ¬ t ≤ 64
       ·have HE : latt k l e t a b o s = false := by simp [latt, upto, h1, h2, h3, h4, h5, h23, h24]
        rw [HE]
        clear HE
        go_enter Tryz.func35, Tryz.ntmps35
        simp only [List.append_eq, List.cons_append, List.nil_append]
        go_wp2_with (rw [HW.out])
        go_ret
        exact ⟨rfl, HB.out⟩
       ·rw [Decidable.not_not] at h24
        cases h25 : a == 131072
        ·cases h26 : a == 524288
         ·have HE : latt k l e t a b o s = false := by simp [latt, upto, h1, h2, h3, h4, h5, h23, h24, h25, h26]
          rw [HE]
          clear HE
          go_enter Tryz.func35, Tryz.ntmps35
          simp only [List.append_eq, List.cons_append, List.nil_append]
          go_wp2_with (rw [HW.out])
          go_ret
          exact ⟨rfl, HB.out⟩
         ·cases h27 : okg b
          ·have Ch27 := gap_any b
           rw [h27] at Ch27
           have HE : latt k l e t a b o s = false := by simp [latt, upto, h1, h2, h3, h4, h5, h23, h24, h25, h26, h27]
           rw [HE]
           clear HE
           go_enter Tryz.func35, Tryz.ntmps35
           simp only [List.append_eq, List.cons_append, List.nil_append]
           go_wp2_with (rw [HW.out])
           refine (Ch27 _).mono ?_
           rintro e0 w0 ⟨rfl, rfl⟩
           go_wp2_with fail
           go_ret
           exact ⟨rfl, HB.out⟩
          ·have Ch27 := gap_any b
           rw [h27] at Ch27
           by_cases h28 : ¬ 1 ≤ o
           ·have HE : latt k l e t a b o s = false := by simp [latt, upto, h1, h2, h3, h4, h5, h23, h24, h25, h26, h27, h28]
            rw [HE]
            clear HE
            go_enter Tryz.func35, Tryz.ntmps35
            simp only [List.append_eq, List.cons_append, List.nil_append]
            go_wp2_with (rw [HW.out])
            refine (Ch27 _).mono ?_
            rintro e0 w0 ⟨rfl, rfl⟩
            go_wp2_with fail
            go_ret
            exact ⟨rfl, HB.out⟩
           ·rw [Decidable.not_not] at h28
            by_cases h29 : ¬ o ≤ 100
            ·have HE : latt k l e t a b o s = false := by simp [latt, upto, h1, h2, h3, h4, h5, h23, h24, h25, h26, h27, h28, h29]
             rw [HE]
             clear HE
             go_enter Tryz.func35, Tryz.ntmps35
             simp only [List.append_eq, List.cons_append, List.nil_append]
             go_wp2_with (rw [HW.out])
             refine (Ch27 _).mono ?_
             rintro e0 w0 ⟨rfl, rfl⟩
             go_wp2_with fail
             go_ret
             exact ⟨rfl, HB.out⟩
            ·rw [Decidable.not_not] at h29
             cases h30 : s == 128
             ·cases h31 : s == 192
              ·cases h32 : s == 256
               ·have HE : latt k l e t a b o s = false := by simp [latt, upto, h1, h2, h3, h4, h5, h23, h24, h25, h26, h27, h28, h29, h30, h31, h32]
                rw [HE]
                clear HE
                go_enter Tryz.func35, Tryz.ntmps35
                simp only [List.append_eq, List.cons_append, List.nil_append]
                go_wp2_with (rw [HW.out])
                refine (Ch27 _).mono ?_
                rintro e0 w0 ⟨rfl, rfl⟩
                go_wp2_with fail
                go_ret
                exact ⟨rfl, HB.out⟩
               ·have HE : latt k l e t a b o s = true := by simp [latt, upto, h1, h2, h3, h4, h5, h23, h24, h25, h26, h27, h28, h29, h30, h31, h32]
                rw [HE]
                clear HE
                go_enter Tryz.func35, Tryz.ntmps35
                simp only [List.append_eq, List.cons_append, List.nil_append]
                go_wp2_with (rw [HW.out])
                refine (Ch27 _).mono ?_
                rintro e0 w0 ⟨rfl, rfl⟩
                go_wp2_with fail
                go_ret
                exact ⟨rfl, HB.out⟩
              ·have HE : latt k l e t a b o s = true := by simp [latt, upto, h1, h2, h3, h4, h5, h23, h24, h25, h26, h27, h28, h29, h30, h31]
               rw [HE]
               clear HE
               go_enter Tryz.func35, Tryz.ntmps35
               simp only [List.append_eq, List.cons_append, List.nil_append]
               go_wp2_with (rw [HW.out])
               refine (Ch27 _).mono ?_
               rintro e0 w0 ⟨rfl, rfl⟩
               go_wp2_with fail
               go_ret
               exact ⟨rfl, HB.out⟩
             ·have HE : latt k l e t a b o s = true := by simp [latt, upto, h1, h2, h3, h4, h5, h23, h24, h25, h26, h27, h28, h29, h30]
              rw [HE]
              clear HE
              go_enter Tryz.func35, Tryz.ntmps35
              simp only [List.append_eq, List.cons_append, List.nil_append]
              go_wp2_with (rw [HW.out])
              refine (Ch27 _).mono ?_
              rintro e0 w0 ⟨rfl, rfl⟩
              go_wp2_with fail
              go_ret
              exact ⟨rfl, HB.out⟩
        ·cases h33 : okg b
         ·have Ch33 := gap_any b
          rw [h33] at Ch33
          have HE : latt k l e t a b o s = false := by simp [latt, upto, h1, h2, h3, h4, h5, h23, h24, h25, h33]
          rw [HE]
          clear HE
          go_enter Tryz.func35, Tryz.ntmps35
          simp only [List.append_eq, List.cons_append, List.nil_append]
          go_wp2_with (rw [HW.out])
          refine (Ch33 _).mono ?_
          rintro e0 w0 ⟨rfl, rfl⟩
          go_wp2_with fail
          go_ret
          exact ⟨rfl, HB.out⟩
         ·have Ch33 := gap_any b
          rw [h33] at Ch33
          by_cases h34 : ¬ 1 ≤ o
          ·have HE : latt k l e t a b o s = false := by simp [latt, upto, h1, h2, h3, h4, h5, h23, h24, h25, h33, h34]
           rw [HE]
           clear HE
           go_enter Tryz.func35, Tryz.ntmps35
           simp only [List.append_eq, List.cons_append, List.nil_append]
           go_wp2_with (rw [HW.out])
           refine (Ch33 _).mono ?_
           rintro e0 w0 ⟨rfl, rfl⟩
           go_wp2_with fail
           go_ret
           exact ⟨rfl, HB.out⟩
          ·rw [Decidable.not_not] at h34
           by_cases h35 : ¬ o ≤ 100
           ·have HE : latt k l e t a b o s = false := by simp [latt, upto, h1, h2, h3, h4, h5, h23, h24, h25, h33, h34, h35]
            rw [HE]
            clear HE
            go_enter Tryz.func35, Tryz.ntmps35
            simp only [List.append_eq, List.cons_append, List.nil_append]
            go_wp2_with (rw [HW.out])
            refine (Ch33 _).mono ?_
            rintro e0 w0 ⟨rfl, rfl⟩
            go_wp2_with fail
            go_ret
            exact ⟨rfl, HB.out⟩
           ·rw [Decidable.not_not] at h35
            cases h36 : s == 128
            ·cases h37 : s == 192
             ·cases h38 : s == 256
              ·have HE : latt k l e t a b o s = false := by simp [latt, upto, h1, h2, h3, h4, h5, h23, h24, h25, h33, h34, h35, h36, h37, h38]
               rw [HE]
               clear HE
               go_enter Tryz.func35, Tryz.ntmps35
               simp only [List.append_eq, List.cons_append, List.nil_append]
               go_wp2_with (rw [HW.out])
               refine (Ch33 _).mono ?_
               rintro e0 w0 ⟨rfl, rfl⟩
               go_wp2_with fail
               go_ret
               exact ⟨rfl, HB.out⟩
              ·have HE : latt k l e t a b o s = true := by simp [latt, upto, h1, h2, h3, h4, h5, h23, h24, h25, h33, h34, h35, h36, h37, h38]
               rw [HE]
               clear HE
               go_enter Tryz.func35, Tryz.ntmps35
               simp only [List.append_eq, List.cons_append, List.nil_append]
               go_wp2_with (rw [HW.out])
               refine (Ch33 _).mono ?_
               rintro e0 w0 ⟨rfl, rfl⟩
               go_wp2_with fail
               go_ret
               exact ⟨rfl, HB.out⟩
             ·have HE : latt k l e t a b o s = true := by simp [latt, upto, h1, h2, h3, h4, h5, h23, h24, h25, h33, h34, h35, h36, h37]
              rw [HE]
              clear HE
              go_enter Tryz.func35, Tryz.ntmps35
              simp only [List.append_eq, List.cons_append, List.nil_append]
              go_wp2_with (rw [HW.out])
              refine (Ch33 _).mono ?_
              rintro e0 w0 ⟨rfl, rfl⟩
              go_wp2_with fail
              go_ret
              exact ⟨rfl, HB.out⟩
            ·have HE : latt k l e t a b o s = true := by simp [latt, upto, h1, h2, h3, h4, h5, h23, h24, h25, h33, h34, h35, h36]
             rw [HE]
             clear HE
             go_enter Tryz.func35, Tryz.ntmps35
             simp only [List.append_eq, List.cons_append, List.nil_append]
             go_wp2_with (rw [HW.out])
             refine (Ch33 _).mono ?_
             rintro e0 w0 ⟨rfl, rfl⟩
             go_wp2_with fail
             go_ret
             exact ⟨rfl, HB.out⟩
end rfright
end Go.Proofs.YtlcafjdehcddcaaGreatDoor
namespace Go.Proofs.YtlcafjdehcddcaaGreatDoor
namespace rbita
open Go Go.RowKit
open arr mem
set_option maxRecDepth 100000 in
set_option maxHeartbeats 1000000 in
theorem long_any (n : Int) (hn : n < 9223372036854775808) (w : World) : Calls Tryz.prog 36 #[.int .i64 n] w fun e w' => e = .returned (.int .i64 ((lb n.toNat : Nat) : Int)) ∧ w' = w := by
 go_enter Tryz.func36, Tryz.ntmps36
 go_wp2_with fail
 go_loopw [0, 3] (fun v k wr => wr = w ∧ ∃ (z : Int) (c : Nat), v = .int .i64 z ∧ k = .int .i64 (c : Int) ∧ z < 9223372036854775808 ∧ c + lb z.toNat = lb n.toNat ∧ c ≤ 64) (fun v _ _ => (intOf v).toNat)
 case atStart => exact ⟨rfl, n, 0, rfl, rfl, hn, by omega, by omega⟩
 case round =>
  obtain ⟨rfl, z, c, rfl, rfl, hz, hc, hc64⟩ := hrel
  by_cases h0 : 0 < z
  ·have hb := lb_half z.toNat (by omega) (by omega)
   have hs := (lbf_spec 64 z.toNat (by omega)).2.2
   have hn64 := (lbf_spec 64 n.toNat (by omega)).2.2
   have hn64' : lb n.toNat ≤ 64 := hn64
   go_wp2_with fail
   go_roundw
   case rel => exact ⟨by first | trivial | rfl, z / 2, c + 1, by go_num, by go_num, by omega, by rw [show (z / 2).toNat = z.toNat / 2 by omega]; omega, by omega⟩
   case measure => simp [intOf]; omega
  ·have hz0 : z.toNat = 0 := by omega
   have hl : lb 0 = 0 := rfl
   rw [hz0, hl, Nat.add_zero] at hc
   go_wp2_with fail
   go_ret
   exact ⟨rfl, rfl⟩
end rbita
end Go.Proofs.YtlcafjdehcddcaaGreatDoor
namespace Go.Proofs.YtlcafjdehcddcaaGreatDoor
namespace rbitb
open Go Go.RowKit
open arr mem stil bitm rbita
set_option maxRecDepth 100000 in
set_option maxHeartbeats 4000000 in
theorem bytes_any (g cap n wd M : Nat) (L : List Nat) (w : World) (hl : L.length = n) (hn : n ≤ 256) (hw : wd ≤ 23) (hM0 : 0 < M) (hM : (n * wd + 7) / 8 = M) (hL : ∀ x ∈ L, x < 2 ^ wd) (hg : g < w.heap.size) (hcell : ∀ i, i < n → w.cell? ⟨g, i, none⟩ = some (.int .i64 ((L.getD i 0 : Nat) : Int))) :
 Calls Tryz.prog 99 #[.slice (some ⟨g, 0, none⟩) n cap, .int .i64 (wd : Int)] w fun e w' => e = .returned (.string ⟨(u8s (nb 8 M (pk wd L))).toArray⟩) ∧ Below w.heap.size w w' := by
 obtain ⟨i0, hi, hz0, hz1, hz2⟩ := parts infoByte
 have HI := Away.mk (And.intro hi (And.intro hz0 (And.intro hz1 hz2)))
 have hnw : n * wd ≤ 256 * 23 := Nat.mul_le_mul hn hw
 obtain ⟨nw, hnw2⟩ : ∃ x, n * wd = x := ⟨_, rfl⟩
 have fnw : (n : Int) * (wd : Int) = (nw : Int) := by rw [← hnw2, Int.natCast_mul]
 have fnww : IntKind.i64.wrap ((n : Int) * (wd : Int)) = (nw : Int) := by rw [fnw, IntKind.wrap_i64]; omega
 rw [hnw2] at hM hnw
 have HnwM : Away (wd * n ≤ 8 * M) := ⟨by rw [Nat.mul_comm, hnw2]; omega⟩
 have fM : ((nw : Int) + 7).tdiv 8 = (M : Int) := by rw [Int.tdiv_eq_ediv_of_nonneg (by omega)]; omega
 have fM2 : ((nw : Int) + 7) / 8 = (M : Int) := by omega
 have Hcell := Away.mk hcell
 have HL := Away.mk hL
 have Hl := Away.mk hl
 obtain ⟨R, HR⟩ := ex_eq (u8s (nb 8 M (pk wd L)))
 have HRn : Away (pk wd L % 2 ^ (wd * n) = pk wd L) := ⟨Nat.mod_eq_of_lt (by rw [← hl]; exact pk_lt wd L hL)⟩
 rw [HR.out]
 clear hi hz0 hz1 hz2 hcell hL hl hnw2
 go_enter Tryz.func99, Tryz.ntmps99
 go_wp2_with (at_make; refine wpList_make_full _ rfl (.tmp 15) (.tmp 15) 78 rfl w.heap.size 5 i0 (.int .u8 0) 1 Tryz.underlying78 HI.out.1 HI.out.2.1 HI.out.2.2.1 .i64 .i64 M M M rfl rfl rfl rfl (by rw [HI.out.2.2.2]; omega) (by unfold maxLen; omega) (Nat.le_refl _) ?_)
 intro w3 hown hgr
 have hb3 : Below w.heap.size w w3 := (Below.refl _ _).grown hgr (Nat.le_refl _) (fun k hk => by simp at hk)
 obtain ⟨cur, hcur, hcl⟩ := own_row hown
 have e0 : cur = LK .u8 (nb 8 M (pk wd L % 2 ^ (wd * 0))) := by
  apply Array.ext'
  rw [hcl, Nat.mul_zero, Nat.pow_zero, Nat.mod_one, nb_zero]
  simp only [toList_madeCells_one]
  simp [LK]
 rw [e0] at hcur
 have A3 : Away (At w.heap.size (LK .u8 (nb 8 M (pk wd L % 2 ^ (wd * 0)))) 5 w3 w3) := ⟨At.refl hcur⟩
 have HB3 := Away.mk hb3
 have h38 := lt_of_row hcur
 clear hown hgr hb3 hcl e0 hcur fM fM2 fnw fnww
 go_wp2_with fail
 go_loopw [19] (fun v wr => ∃ i : Nat, i ≤ n ∧ v = .int .i64 (i : Int) ∧ Away (At w.heap.size (LK .u8 (nb 8 M (pk wd L % 2 ^ (wd * i)))) 5 w3 wr)) (fun v _ => n - (intOf v).toNat)
 case atStart => exact ⟨0, Nat.zero_le _, rfl, A3⟩
 case round =>
  clear A3
  obtain ⟨i, hi, rfl, A0⟩ := hrel
  by_cases hlt : i < n
  ·have hiz : (i : Int) < (n : Int) := by omega
   have BW : Away (Below w.heap.size w wr) := ⟨HB3.out.trans (A0.out.below (by omega) (Nat.le_refl _))⟩
   obtain ⟨x, hx⟩ : ∃ x, L.getD i 0 = x := ⟨_, rfl⟩
   have hxl : x < 2 ^ wd := by
    rw [← hx, List.getD_eq_getElem?_getD, List.getElem?_eq_getElem (by rw [Hl.out]; exact hlt)]
    exact HL.out _ (List.getElem_mem _)
   have hx23 : x < 8388608 := Nat.lt_of_lt_of_le hxl (Nat.pow_le_pow_right (by decide) hw)
   have cx : wr.cell? ⟨g, i, none⟩ = some (.int .i64 (x : Int)) := by
    rw [← hx, BW.out.cell (p := ⟨g, i, none⟩) hg]; exact Hcell.out i hlt
   have Hx := Away.mk hx
   have hiw : wd * i ≤ 23 * 256 := Nat.mul_le_mul hw (by omega)
   obtain ⟨iw, hiw2⟩ : ∃ y, wd * i = y := ⟨_, rfl⟩
   have fi : (i : Int) * (wd : Int) = (iw : Int) := by rw [← hiw2, Int.natCast_mul, Int.mul_comm]
   have fiw : IntKind.i64.wrap ((i : Int) * (wd : Int)) = (iw : Int) := by rw [fi, IntKind.wrap_i64]; omega
   have Hiw := Away.mk hiw2
   have hiwM : iw + wd ≤ 8 * M := by
    have h1 : wd * (i + 1) ≤ wd * n := Nat.mul_le_mul_left _ hlt
    rw [Nat.mul_succ, hiw2] at h1
    have := HnwM.out
    omega
   rw [hiw2] at hiw
   clear hx hxl hiw2
   go_wp2_with fail
   clear cx
   go_loopw [25] (fun v wr => ∃ k : Nat, k ≤ wd ∧ v = .int .i64 (k : Int) ∧ Away (At w.heap.size (LK .u8 (nb 8 M (pk wd L % 2 ^ (wd * i + k)))) 5 w3 wr)) (fun v _ => wd - (intOf v).toNat)
   case atStart => exact ⟨0, Nat.zero_le _, rfl, A0⟩
   case round =>
    clear A0
    obtain ⟨k, hk, rfl, A0⟩ := hrel
    by_cases hklt : k < wd
    ·have hkz : (k : Int) < (wd : Int) := by omega
     obtain ⟨m, hm⟩ : ∃ m, iw + k = m := ⟨_, rfl⟩
     obtain ⟨j, hj⟩ : ∃ j, m / 8 = j := ⟨_, rfl⟩
     obtain ⟨r, hr⟩ : ∃ r, m % 8 = r := ⟨_, rfl⟩
     obtain ⟨y, hy⟩ : ∃ y, x / 2 ^ k = y := ⟨_, rfl⟩
     have hyx : y ≤ x := by rw [← hy]; exact Nat.div_le_self _ _
     obtain ⟨b, hb⟩ : ∃ b, y % 2 = b := ⟨_, rfl⟩
     obtain ⟨β, hβ⟩ : ∃ β, pk wd L % 2 ^ m / 2 ^ (8 * j) % 2 ^ 8 = β := ⟨_, rfl⟩
     have hβ8 : β < 256 := by rw [← hβ]; exact Nat.mod_lt _ (by decide)
     obtain ⟨c, hc⟩ : ∃ c, b * 2 ^ r = c := ⟨_, rfl⟩
     have hr7 : r ≤ 7 := by omega
     have hc8 : c < 256 := by
      rw [← hc]
      have h1 : 2 ^ r ≤ 2 ^ 7 := Nat.pow_le_pow_right (by decide) hr7
      have h2 : b * 2 ^ r ≤ 1 * 2 ^ r := Nat.mul_le_mul_right _ (by omega)
      omega
     obtain ⟨v, hv⟩ : ∃ v, β ||| c = v := ⟨_, rfl⟩
     have V := or_u8 β c hβ8 hc8
     rw [hv] at V
     have HS : Away ((nb 8 M (pk wd L % 2 ^ (wd * i + k))).set j v = nb 8 M (pk wd L % 2 ^ (wd * i + (k + 1)))) := ⟨by
      have h9 := low_step wd n M L Hl.out HL.out i k hlt hklt v (by rw [Hiw.out, hm, hj, hr, hβ, Hx.out, hy, hb, hc, hv])
      rw [Hiw.out, hm, hj] at h9
      rw [Hiw.out, hm]; exact h9⟩
     have fk : (x : Int) / 2 ^ k = (y : Int) := by rw [← hy]; simp
     have fm : (iw : Int) + (k : Int) = (m : Int) := by omega
     have fmw : IntKind.i64.wrap ((iw : Int) + (k : Int)) = (m : Int) := by rw [fm, IntKind.wrap_i64]; omega
     have fj : (m : Int).tdiv 8 = (j : Int) := by rw [Int.tdiv_eq_ediv_of_nonneg (by omega)]; omega
     have fj2 : (m : Int) / 8 = (j : Int) := by omega
     have fr : (m : Int).tmod 8 = (r : Int) := by rw [Int.tmod_eq_emod_of_nonneg (by omega)]; omega
     have fr2 : (m : Int) % 8 = (r : Int) := by omega
     have fku : IntKind.u64.wrap (k : Int) = (k : Int) := by rw [IntKind.wrap_u64]; omega
     have fru : IntKind.u64.wrap (r : Int) = (r : Int) := by rw [IntKind.wrap_u64]; omega
     have fand := and_one y (by omega)
     rw [hb] at fand
     have fb8 : IntKind.u8.wrap (b : Int) = (b : Int) := by rw [IntKind.wrap_u8]; omega
     have fb82 : (b : Int) % 256 = (b : Int) := by omega
     have fc : (b : Int) * 2 ^ r = (c : Int) := by rw [← hc, Int.natCast_mul, Int.natCast_pow]; rfl
     have fc2 : (c : Int) % 256 = (c : Int) := by omega
     have fcw : IntKind.u8.wrap (c : Int) = (c : Int) := by rw [IntKind.wrap_u8]; omega
     have hjM : j < M := by omega
     have cb : wr.cell? ⟨w.heap.size, j, none⟩ = some (.int .u8 (β : Int)) := by
      rw [A0.out.cell, lk_get .u8 _ j (by rw [nb_length]; exact hjM), List.getD_eq_getElem?_getD, nb_get 8 M _ j hjM, Hiw.out, hm, hβ]
      rfl
     have HjM := Away.mk hjM
     have hk63 : k < 64 := by omega
     clear hm hj hr hy hb hβ hc hv
     go_wp2_with ((with_reducible refine wpList_put2 A0 rfl _ _ _ rfl rfl ?_); refine ⟨_, _, _, rfl, rfl, rfl, (by rw [lk_size, nb_length]; exact HjM.out), ?_⟩; intro wn HR; rw [lk_set, HS.out] at HR)
     go_roundw
     case rel => exact ⟨k + 1, by omega, by go_num, HR⟩
     case measure => simp [intOf]; omega
    ·obtain rfl : k = wd := by omega
     have A1 : Away (At w.heap.size (LK .u8 (nb 8 M (pk k L % 2 ^ (k * (i + 1))))) 5 w3 wr) := ⟨by rw [Nat.mul_succ]; exact A0.out⟩
     clear A0
     go_wp2_with fail
     go_roundw
     case rel => exact ⟨i + 1, by omega, by go_num, A1⟩
     case measure => simp [intOf]; omega
  ·obtain rfl : i = n := by omega
   rw [HRn.out] at A0
   have hcv := conv_lk (cap := M) (nb_length 8 M _) (fun x hx => nb_lt 8 M _ x hx) A0.out.row
   rw [HR.out] at hcv
   have BW : Away (Below w.heap.size w wr) := ⟨HB3.out.trans (A0.out.below (by omega) (Nat.le_refl _))⟩
   clear A0
   go_wp2_with fail
   go_ret
   exact ⟨rfl, BW.out⟩
end rbitb
end Go.Proofs.YtlcafjdehcddcaaGreatDoor
namespace Go.Proofs.YtlcafjdehcddcaaGreatDoor
namespace rbitd
open Go Go.RowKit
open arr mem stil bitm polys rbita rbitb rbitc
set_option maxRecDepth 100000 in
set_option maxHeartbeats 4000000 in
theorem pack_any (f : Nat → Int) (most : Int) (w : World) (h1 : 1 ≤ most) (h2 : most < 8380417) :
 Calls Tryz.prog 59 #[.agg (FL .i64 256 f), .int .i64 most] w fun e w' => e = .returned (if inb f most then .tuple #[.string (packed f most), .int .i64 0] else .tuple #[.string ⟨#[]⟩, .int .i64 6]) ∧ Below w.heap.size w w' := by
 obtain ⟨i0, hi, hz0, hz1, hz2⟩ := parts infoInt
 have HI := Away.mk (And.intro hi (And.intro hz0 (And.intro hz1 hz2)))
 obtain ⟨wd, hwd⟩ : ∃ x, lb most.toNat = x := ⟨_, rfl⟩
 have hsp := lbf_spec 64 most.toNat (by omega)
 have hw23 : wd ≤ 23 := by
  have h3 : most.toNat < 2 ^ 23 := by omega
  have h4 : lb most.toNat = lbf 23 most.toNat := lbf_more 23 64 _ h3 (by decide)
  rw [← hwd, h4]
  exact (lbf_spec 23 _ h3).2.2
 have hlt2 : most.toNat < 2 ^ wd := by rw [← hwd]; exact hsp.1
 have hpos : 0 < wd := by rw [← hwd]; exact (hsp.2.1 (by omega)).1
 obtain ⟨O, HO⟩ := ex_eq (packed f most)
 have HB : Away (∀ (g cap : Nat) (w1 : World), inb f most → g < w1.heap.size → (∀ i, i < 256 → w1.cell? ⟨g, i, none⟩ = some (.int .i64 (f i))) → Calls Tryz.prog 99 #[.slice (some ⟨g, 0, none⟩) 256 cap, .int .i64 (wd : Int)] w1 fun e w' => e = .returned (.string O) ∧ Below w1.heap.size w1 w') := ⟨fun g cap w1 hin hg hc => by
  rw [← HO.out, packed, hwd]
  have hM : (256 * wd + 7) / 8 = 32 * wd := by omega
  refine rbitb.bytes_any g cap 256 wd (32 * wd) (ns f) w1 (by simp [ns]) (by decide) hw23 (by omega) hM (fun x hx => ?_) hg (fun i hi => ?_)
  ·obtain ⟨i, hi, rfl⟩ := List.mem_map.1 hx
   have := hin i (List.mem_range.1 hi)
   omega
  ·have h9 := (hin i hi).1
   have e : (ns f).getD i 0 = (f i).toNat := by
    unfold ns
    rw [List.getD_eq_getElem?_getD, List.getElem?_map, List.getElem?_range hi]
    rfl
   rw [e, Int.toNat_of_nonneg h9]
   exact hc i hi⟩
 have HLg : Away (∀ w1 : World, Calls Tryz.prog 36 #[.int .i64 most] w1 fun e w' => e = .returned (.int .i64 (wd : Int)) ∧ w' = w1) := ⟨fun w1 => by rw [← hwd]; exact long_any most (by omega) w1⟩
 rw [HO.out]
 have Hidx : Away (∀ i : Nat, i < 256 → ∀ w1, (Instr.index 25 (.agg (FL .i64 256 f)) (.int .i64 (i : Int))).run Tryz.prog w1 = .ok (.int .i64 (f i)) w1) := ⟨fun i hi w1 => index_row (P := Tryz.prog) Tryz.underlying25 (by kernel_rfl) (by kernel_rfl) (by kernel_rfl) _ _ i hi (fl_get .i64 256 f i hi) w1⟩
 have Fi : Away ((Tryz.prog.info? 25).map (·.size) = some (FL .i64 256 f).size) := ⟨by rw [fl_size]; exact sizeP⟩
 obtain ⟨F, HF⟩ := ex_eq (FL .i64 256 f)
 rw [HF.out] at Hidx Fi ⊢
 obtain ⟨W, hW⟩ : ∃ x, w.alloc (.cells F 25) = x := ⟨_, rfl⟩
 have HW := Away.mk hW
 have BW : Away (Below w.heap.size w W) := ⟨by rw [← hW]; exact below_alloc _ _⟩
 have hrow : Away (W.heap[w.heap.size]? = some (.cells F 25 (0, 0))) := ⟨by rw [← hW]; exact heap_at _ _ _ rfl⟩
 have h1' : ¬ most < 1 := by omega
 have h2' : ¬ 8380417 ≤ most := by omega
 obtain ⟨V, HV⟩ := ex_eq (if inb f most then Value.tuple #[.string O, .int .i64 0] else .tuple #[.string ⟨#[]⟩, .int .i64 6])
 rw [HV.out]
 have H12 := Away.mk (And.intro h1 h2)
 clear hW hi hz0 hz1 hz2 hwd hsp hlt2 HF HO h1 h2
 go_enter Tryz.func59, Tryz.ntmps59
 go_wp2_with (first
  | (rw [HW.out])
  | (refine wpList_load_row rfl 25 _ rfl w.heap.size rfl 25 F (0, 0) _ hrow.out Tryz.underlying25 rfl Fi.out ?_))
 go_loopw [6, 16] (fun v c wr => ∃ j : Nat, j ≤ 256 ∧ c = .int .i64 (j : Int) ∧ Away (∀ i, i < j → 0 ≤ f i ∧ f i ≤ most) ∧ Away (wr.ownsRow W.heap.size 3 1 v j (cs f j)) ∧ Away (Below W.heap.size W wr)) (fun _ c _ => 256 - (intOf c).toNat)
 case atStart => exact ⟨0, Nat.zero_le _, rfl, ⟨fun i hi => by omega⟩, ⟨⟨rfl, Or.inl ⟨rfl, rfl⟩⟩⟩, ⟨Below.refl _ _⟩⟩
 case round =>
  obtain ⟨j, hj, rfl, Hin, Ho, Hb⟩ := hrel
  by_cases hlt : j < 256
  ·have hjz : (j : Int) < 256 := by omega
   have hidx := Hidx.out j hlt
   obtain ⟨x, hx⟩ : ∃ x, f j = x := ⟨_, rfl⟩
   rw [hx] at hidx
   by_cases hbad : x < 0 ∨ most < x
   ·have hV : Away (V = .tuple #[.string ⟨#[]⟩, .int .i64 6]) := ⟨by rw [← HV.out, if_neg]; intro hall; have := hall j hlt; rw [hx] at this; omega⟩
    have BE : Away (Below w.heap.size w wr) := ⟨BW.out.trans (Hb.out.mono BW.out.size)⟩
    clear hx
    rcases hbad with hb1 | hb1
    ·go_wp2_with fail
     go_ret2
     exact ⟨by rw [hV.out]; rfl, BE.out⟩
    ·by_cases hb0 : x < 0
     ·go_wp2_with fail
      go_ret2
      exact ⟨by rw [hV.out]; rfl, BE.out⟩
     ·go_wp2_with fail
      go_ret2
      exact ⟨by rw [hV.out]; rfl, BE.out⟩
   ·have hb0 : ¬ x < 0 := by omega
    have hb1 : ¬ most < x := by omega
    have Hin2 : Away (∀ i, i < j + 1 → 0 ≤ f i ∧ f i ≤ most) := ⟨fun i hi => by
     by_cases e : i = j
     ·subst e; rw [hx]; omega
     ·exact Hin.out i (by omega)⟩
    have Hc : Away (cs f (j + 1) = cs f j ++ [.int .i64 x]) := ⟨by rw [cs_succ, hx]⟩
    have hwx := Hb.out.size
    clear hx hbad
    go_wp2_with (at_builtin; refine wpList_append_own _ rfl _ _ 63 rfl W.heap.size 3 i0 (.int .i64 0) 1 8 Tryz.underlying63 HI.out.1 HI.out.2.1 HI.out.2.2.1 HI.out.2.2.2 rfl (by decide) _ _ _ rfl (Ho.out.alloc _) ⟨wr.heap.size, 0, none⟩ 1 1 [.int .i64 x] rfl rfl news_at (fun u hu => by simp at hu; subst hu; rfl) (by unfold maxLen; omega) (by omega) (by rw [size_alloc]; omega) ?_)
    intro v' w4 hown' hgrow _
    have hb4 : Below W.heap.size wr w4 := ((Below.refl W.heap.size wr).alloc hwx _).grown hgrow (by rw [size_alloc]; omega) (fun k hk => (Ho.out.lt k hk).1)
    have HB4 : Away (Below W.heap.size W w4) := ⟨Hb.out.trans hb4⟩
    have OY : Away (w4.ownsRow W.heap.size 3 1 v' (j + 1) (cs f (j + 1))) := ⟨by rw [Hc.out]; exact hown'⟩
    clear hown' hgrow hb4 hidx
    go_wp2_with fail
    go_roundw
    case rel => exact ⟨j + 1, by omega, by go_num, Hin2, OY, HB4⟩
    case measure => simp [intOf]; omega
  ·obtain rfl : j = 256 := by omega
   simp only [Int.cast_ofNat_Int]
   obtain ⟨g', cap', rfl⟩ := owns_some (by decide) Ho.out
   have hall : inb f most := Hin.out
   have hV : Away (V = .tuple #[.string O, .int .i64 0]) := ⟨by rw [← HV.out, if_pos hall]⟩
   have C1 := Away.mk (HB.out g' cap' wr hall (Ho.out.lt g' rfl).2 (fun i hi => by
    have h9 := Ho.out.cellAt i (by omega)
    rw [h9]
    unfold cs
    rw [List.getElem?_map, List.getElem?_range hi]
    rfl))
   have BE : Away (Below w.heap.size w wr) := ⟨BW.out.trans (Hb.out.mono BW.out.size)⟩
   clear hall hj hlt
   go_wp2_with fail
   refine (HLg.out _).mono ?_
   rintro e w5 ⟨rfl, rfl⟩
   go_wp2_with fail
   refine C1.out.mono ?_
   rintro e w6 ⟨rfl, h6⟩
   have BF : Away (Below w.heap.size w w6) := ⟨BE.out.trans (h6.mono BE.out.size)⟩
   clear h6
   go_wp2_with fail
   go_ret2
   exact ⟨by rw [hV.out]; rfl, BF.out⟩
end rbitd
end Go.Proofs.YtlcafjdehcddcaaGreatDoor
namespace Go.Proofs.YtlcafjdehcddcaaGreatDoor
namespace rfld
open Go Go.RowKit
open arr mem fldm
set_option maxRecDepth 100000 in
set_option maxHeartbeats 1000000 in
theorem centre_any (x m : Int) (w : World) : Calls Tryz.prog 90 #[.int .i64 x, .int .i64 m] w fun e w' => e = .returned (.int .i64 (ce m x)) ∧ w' = w := by
 unfold ce
 by_cases h0 : m < 1
 ·rw [if_pos (Or.inl h0)]
  go_enter Tryz.func90, Tryz.ntmps90
  go_wp2_with fail
  go_ret
  exact ⟨rfl, rfl⟩
 ·by_cases h1 : 1125899906842624 < m
  ·rw [if_pos (Or.inr h1)]
   go_enter Tryz.func90, Tryz.ntmps90
   go_wp2_with fail
   go_ret
   exact ⟨rfl, rfl⟩
  ·rw [if_neg (by omega)]
   obtain ⟨z, hz⟩ : ∃ z, x % m = z := ⟨_, rfl⟩
   obtain ⟨y, hy⟩ : ∃ y, x.tmod m = y := ⟨_, rfl⟩
   have h := tmod_is x m (by omega)
   have hb : 0 ≤ z ∧ z < m := by rw [← hz]; exact ⟨Int.emod_nonneg _ (by omega), Int.emod_lt_of_pos _ (by omega)⟩
   rw [hz, hy] at h
   rw [hz]
   obtain ⟨d, hd⟩ : ∃ d, m / 2 = d := ⟨_, rfl⟩
   have fd : m.tdiv 2 = d := by rw [Int.tdiv_eq_ediv_of_nonneg (by omega)]; exact hd
   have fdw : IntKind.i64.wrap (m.tdiv 2) = d := by rw [fd, IntKind.wrap_i64]; omega
   have hm0 : ¬ m = 0 := by omega
   have hm1 : (m == 0) = false := beq_eq_false_iff_ne.2 hm0
   rw [hd]
   rcases h with ⟨h2, h3⟩ | ⟨h2, h3⟩
   ·subst h3
    have h4 : ¬ y < 0 := by omega
    by_cases h5 : d < y
    ·rw [if_pos h5]
     have hw : IntKind.i64.wrap (y - m) = y - m := by rw [IntKind.wrap_i64]; omega
     clear hz
     go_enter Tryz.func90, Tryz.ntmps90
     go_wp2_with fail
     go_ret
     exact ⟨rfl, rfl⟩
    ·rw [if_neg h5]
     clear hz
     go_enter Tryz.func90, Tryz.ntmps90
     go_wp2_with fail
     go_ret
     exact ⟨rfl, rfl⟩
   ·have hw : IntKind.i64.wrap (y + m) = z := by rw [IntKind.wrap_i64]; omega
    have hw0 : y + m = z := h3
    by_cases h5 : d < z
    ·rw [if_pos h5]
     have hw2 : IntKind.i64.wrap (z - m) = z - m := by rw [IntKind.wrap_i64]; omega
     clear hz h3
     go_enter Tryz.func90, Tryz.ntmps90
     go_wp2_with fail
     go_ret
     exact ⟨rfl, rfl⟩
    ·rw [if_neg h5]
     clear hz h3
     go_enter Tryz.func90, Tryz.ntmps90
     go_wp2_with fail
     go_ret
     exact ⟨rfl, rfl⟩
end rfld
end Go.Proofs.YtlcafjdehcddcaaGreatDoor
namespace Go.Proofs.YtlcafjdehcddcaaGreatDoor
namespace rbite
open Go Go.RowKit
open arr mem stil bitm polys fldm rbita rbitb rbitc rbitd rfld
set_option maxRecDepth 100000 in
set_option maxHeartbeats 4000000 in
theorem signed_any (f : Nat → Int) (low high : Int) (w : World) (h1 : 0 ≤ low) (h2 : 1 ≤ high) (h3 : low < 4190208) (h4 : high < 4190208) :
 Calls Tryz.prog 102 #[.agg (FL .i64 256 f), .int .i64 low, .int .i64 high] w fun e w' => e = .returned (if ins f low high then .tuple #[.string (packed (sg f high) (low + high)), .int .i64 0] else .tuple #[.string ⟨#[]⟩, .int .i64 6]) ∧ Below w.heap.size w w' := by
 have HPk : Away (ins f low high → ∀ w1 : World, Calls Tryz.prog 59 #[.agg (FL .i64 256 (sg f high)), .int .i64 (low + high)] w1 fun e w' => e = .returned (.tuple #[.string (packed (sg f high) (low + high)), .int .i64 0]) ∧ Below w1.heap.size w1 w') := ⟨fun hin w1 => by
  have h9 := pack_any (sg f high) (low + high) w1 (by omega) (by omega)
  rw [if_pos (show inb (sg f high) (low + high) from fun i hi => by have := hin i hi; unfold sg; omega)] at h9
  exact h9⟩
 obtain ⟨O, HO⟩ := ex_eq (packed (sg f high) (low + high))
 obtain ⟨G, HG⟩ := ex_eq (FL .i64 256 (sg f high))
 rw [HO.out, HG.out] at HPk
 rw [HO.out]
 obtain ⟨V, HV⟩ := ex_eq (if ins f low high then Value.tuple #[.string O, .int .i64 0] else .tuple #[.string ⟨#[]⟩, .int .i64 6])
 rw [HV.out]
 have Hidx : Away (∀ i : Nat, i < 256 → ∀ w1, (Instr.index 25 (.agg (FL .i64 256 f)) (.int .i64 (i : Int))).run Tryz.prog w1 = .ok (.int .i64 (f i)) w1) := ⟨fun i hi w1 => index_row (P := Tryz.prog) Tryz.underlying25 (by kernel_rfl) (by kernel_rfl) (by kernel_rfl) _ _ i hi (fl_get .i64 256 f i hi) w1⟩
 have Fi : Away ((Tryz.prog.info? 25).map (·.size) = some (FL .i64 256 f).size) := ⟨by rw [fl_size]; exact sizeP⟩
 have Gi : Away ((Tryz.prog.info? 25).map (·.size) = some G.size) := ⟨by rw [← HG.out, fl_size]; exact sizeP⟩
 obtain ⟨F, HF⟩ := ex_eq (FL .i64 256 f)
 rw [HF.out] at Hidx Fi ⊢
 obtain ⟨W, hW⟩ : ∃ x, w.alloc (.cells F 25) = x := ⟨_, rfl⟩
 have HW := Away.mk hW
 have BW : Away (Below w.heap.size w W) := ⟨by rw [← hW]; exact below_alloc _ _⟩
 have hrow : Away (W.heap[w.heap.size]? = some (.cells F 25 (0, 0))) := ⟨by rw [← hW]; exact heap_at _ _ _ rfl⟩
 have A0 : Away (At w.heap.size (FL .i64 256 (pt (sg f high) f 0)) 25 W W) := ⟨by rw [pt_zero, HF.out]; exact At.refl hrow.out⟩
 have g1 : ¬ low < 0 := by omega
 have g2 : ¬ high < 1 := by omega
 have g3 : ¬ 4190208 ≤ low := by omega
 have g4 : ¬ 4190208 ≤ high := by omega
 have fl1 : IntKind.i64.wrap (-low) = -low := by rw [IntKind.wrap_i64]; omega
 have fl2 : IntKind.i64.wrap (low + high) = low + high := by rw [IntKind.wrap_i64]; omega
 have HL := Away.mk (And.intro h1 (And.intro h2 (And.intro h3 h4)))
 clear hW HF HO h1 h2 h3 h4
 go_enter Tryz.func102, Tryz.ntmps102
 go_wp2_with (first
  | (rw [HW.out])
  | (refine wpList_load_row rfl 25 _ rfl w.heap.size rfl 25 F (0, 0) _ hrow.out Tryz.underlying25 rfl Fi.out ?_))
 go_loopw [26] (fun c wr => ∃ j : Nat, j ≤ 256 ∧ c = .int .i64 (j : Int) ∧ Away (∀ i, i < j → -low ≤ ce 8380417 (f i) ∧ ce 8380417 (f i) ≤ high) ∧ Away (At w.heap.size (FL .i64 256 (pt (sg f high) f j)) 25 W wr)) (fun c _ => 256 - (intOf c).toNat)
 case atStart => exact ⟨0, Nat.zero_le _, rfl, ⟨fun i hi => by omega⟩, A0⟩
 case round =>
  clear A0
  obtain ⟨j, hj, rfl, Hin, A0⟩ := hrel
  have BE : Away (Below w.heap.size w wr) := ⟨BW.out.trans (A0.out.below (by have := BW.out.size; omega) (Nat.le_refl _))⟩
  by_cases hlt : j < 256
  ·have hjz : (j : Int) < 256 := by omega
   have hidx := Hidx.out j hlt
   have Hce := Away.mk (fun w1 => centre_any (f j) 8380417 w1)
   obtain ⟨c, hc⟩ : ∃ c, ce 8380417 (f j) = c := ⟨_, rfl⟩
   have hcs := ce_small (f j)
   rw [hc] at Hce hcs
   have Hc := Away.mk hc
   have Hcs := Away.mk hcs
   clear hc hcs
   go_wp2_with fail
   refine (Hce.out _).mono ?_
   rintro e w2 ⟨rfl, rfl⟩
   clear hidx
   by_cases hbad : c < -low ∨ high < c
   ·have hV : Away (V = .tuple #[.string ⟨#[]⟩, .int .i64 6]) := ⟨by rw [← HV.out, if_neg]; intro hall; have := hall j hlt; rw [Hc.out] at this; omega⟩
    rcases hbad with hb1 | hb1
    ·go_wp2_with fail
     go_ret2
     exact ⟨by rw [hV.out]; rfl, BE.out⟩
    ·by_cases hb0 : c < -low
     ·go_wp2_with fail
      go_ret2
      exact ⟨by rw [hV.out]; rfl, BE.out⟩
     ·go_wp2_with fail
      go_ret2
      exact ⟨by rw [hV.out]; rfl, BE.out⟩
   ·have hb0 : ¬ c < -low := by omega
    have hb1 : ¬ high < c := by omega
    have Hin2 : Away (∀ i, i < j + 1 → -low ≤ ce 8380417 (f i) ∧ ce 8380417 (f i) ≤ high) := ⟨fun i hi => by
     by_cases e : i = j
     ·subst e; rw [Hc.out]; omega
     ·exact Hin.out i (by omega)⟩
    have fs : IntKind.i64.wrap (high - c) = high - c := by rw [IntKind.wrap_i64]; have := Hcs.out; have := HL.out; omega
    have hsg : Away (high - c = sg f high j) := ⟨by unfold sg; rw [Hc.out]⟩
    clear hbad
    go_wp2_with ((with_reducible refine wpList_put2 A0 rfl _ _ _ rfl rfl ?_); refine ⟨_, _, _, rfl, rfl, rfl, (by rw [fl_size]; exact hlt), ?_⟩; intro wn HR; rw [fl_set, pt_upd _ _ _ _ hsg.out] at HR)
    go_roundw
    case rel => exact ⟨j + 1, by omega, by go_num, Hin2, HR⟩
    case measure => simp [intOf]; omega
  ·obtain rfl : j = 256 := by omega
   simp only [Int.cast_ofNat_Int]
   have hall : ins f low high := Hin.out
   have hV : Away (V = .tuple #[.string O, .int .i64 0]) := ⟨by rw [← HV.out, if_pos hall]⟩
   have C1 := Away.mk (HPk.out hall wr)
   rw [fl_all, HG.out] at A0
   have Hrow := Away.mk A0.out.row
   clear hall A0
   go_wp2_with (refine wpList_load_row rfl 25 _ rfl w.heap.size rfl 25 G (0, 0) _ Hrow.out Tryz.underlying25 rfl Gi.out ?_)
   refine C1.out.mono ?_
   rintro e w6 ⟨rfl, h6⟩
   have BF : Away (Below w.heap.size w w6) := ⟨BE.out.trans (h6.mono BE.out.size)⟩
   clear h6
   go_wp2_with fail
   go_ret2
   exact ⟨by rw [hV.out]; rfl, BF.out⟩
end rbite
end Go.Proofs.YtlcafjdehcddcaaGreatDoor
