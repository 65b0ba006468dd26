import Derived.Test.YtjedggkiiplohaaRnD0
import Derived.Test.YtjedggkiiplohaaEvD
namespace Go.Proofs.Rg
open Go Go.Ev Go.RowKit
set_option linter.unusedSimpArgs false

/-! ## Sums -/
theorem addAt_0 (l : List Int) (k : Nat) : addAt l k 0 = l := ext_getD (addAt_len _ _ _) fun j _ => by
  rw [getD_addAt]; split <;> omega
variable {pr : Prim} {R : ExT}
theorem bnd_sum {B : Int} : ∀ {l : List Int}, bnd B l → -(B * l.length) ≤ l.sum ∧ l.sum ≤ B * l.length
  | [], _ => by simp
  | x :: l, h => by
    have h1 := h x (by simp)
    have h2 := bnd_sum (l := l) fun y hy => h y (by simp [hy])
    rw [List.sum_cons, List.length_cons, Int.natCast_add, Int.mul_add]
    omega
def IT (l : List Int) (h0 : AHeap) (v : Value) (k : Nat) (t : T Value) (h : AHeap) : Prop :=
  k ≤ l.length ∧ h = h0 ∧ tget t 0 = v ∧ tget t 3 = iv (l.take k).sum ∧ tget t 4 = iv (k : Int)
set_option maxHeartbeats 8000000 in
theorem total_y (S : Ev.Steps Try.prog pr R) (h0 : AHeap) (v : Value) (l : List Int) (hl : IAt h0 v l) (hsz : l.length ≤ 1000) (hb : bnd 10000000 l) :
    Brings Try.prog R 23 [v] h0 fun u h => u = iv l.sum ∧ h = h0 := by
  refine brings_of (fn := Try.f23) (c := (Try.f23.body).getD .skip) (by kernel_rfl) rfl (by kernel_rfl) rfl (fun K hK => ?_)
  generalize hF : finish Try.prog Try.f23 K = KF
  simp only [Try.f23, Option.getD_some, argsT, setArgs, fV1_eq, T.setK_eq, id]
  have hlen := fun t h1 o => hl.len isI t h1 o
  repeat refine S.seq ?_
  refine S.region ?_
  simp (disch := first | omega | (simp only [G8, O8, res_nx, putAt_nx] <;> omega) | decide) only [O0,U0,X0,Y0,O1,U1,Y1,U2,Y2,x9,y9,A_,B_,C_,J3,O3,Q3,U3,V3,X3,Y3,I4,J4,O4,Q4,U4,V4,X4,Y4,Z4,D5,E5,F5,G5,I5,J5,O5,P5,Q5,U5,V5,X5,Y5,Z5,o5,y5,D6,F6,G6,J6,L6,O6,P6,U6,V6,X6,Y6,o6,A7,D7,F7,G7,I7,J7,N7,O7,P7,Q7,U7,V7,X7,Y7,Z7,l7,o7,y7,A8,D8,E8,F8,G8,I8,J8,L8,N8,↓reduceIte,Nat.reduceEqDiff,O8,P8,Q8,U8,V8,X8,Y8,Z8,o8,x8,y8,C9,D9,E9,F9,G9,I9,J9,L9,N9,O9,P9,Q9,S9,Nat.reduceAdd,D_,E_,F_,G_,H_,U9,V9,I_,J_]
  repeat refine S.seq ?_
  refine S.region ?_
  simp (disch := first | omega | (simp only [G8, O8, res_nx, putAt_nx] <;> omega) | decide) only [O0,U0,X0,Y0,O1,U1,Y1,U2,Y2,x9,y9,A_,B_,C_,J3,O3,Q3,U3,V3,X3,Y3,I4,J4,O4,Q4,U4,V4,X4,Y4,Z4,D5,E5,F5,G5,I5,J5,O5,P5,Q5,U5,V5,X5,Y5,Z5,o5,y5,D6,F6,G6,J6,L6,O6,P6,U6,V6,X6,Y6,o6,A7,D7,F7,G7,I7,J7,N7,O7,P7,Q7,U7,V7,X7,Y7,Z7,l7,o7,y7,A8,D8,E8,F8,G8,I8,J8,L8,N8,↓reduceIte,Nat.reduceEqDiff,O8,P8,Q8,U8,V8,X8,Y8,Z8,o8,x8,y8,C9,D9,E9,F9,G9,I9,J9,L9,N9,O9,P9,Q9,S9,Nat.reduceAdd,D_,E_,F_,G_,H_,U9,V9,I_,J_]
  repeat refine S.seq ?_
  refine S.region ?_
  simp (disch := first | omega | (simp only [G8, O8, res_nx, putAt_nx] <;> omega) | decide) only [O0,U0,X0,Y0,O1,U1,Y1,U2,Y2,x9,y9,A_,B_,C_,J3,O3,Q3,U3,V3,X3,Y3,I4,J4,O4,Q4,U4,V4,X4,Y4,Z4,D5,E5,F5,G5,I5,J5,O5,P5,Q5,U5,V5,X5,Y5,Z5,o5,y5,D6,F6,G6,J6,L6,O6,P6,U6,V6,X6,Y6,o6,A7,D7,F7,G7,I7,J7,N7,O7,P7,Q7,U7,V7,X7,Y7,Z7,l7,o7,y7,A8,D8,E8,F8,G8,I8,J8,L8,N8,↓reduceIte,Nat.reduceEqDiff,O8,P8,Q8,U8,V8,X8,Y8,Z8,o8,x8,y8,C9,D9,E9,F9,G9,I9,J9,L9,N9,O9,P9,Q9,S9,Nat.reduceAdd,D_,E_,F_,G_,H_,U9,V9,I_,J_]
  repeat refine S.seq ?_
  refine S.block ?_
  refine S.loop (ι := Nat) (IT l h0 v) (fun k => l.length - k) ?_ 0 _ _ ?_
  · intro k t h ⟨hk, hh, t0, t3, t4⟩ K' hn he
    subst hh
    repeat refine S.seq ?_
    refine S.region ?_
    simp (disch := first | omega | (simp only [G8, O8, res_nx, putAt_nx] <;> omega) | decide) only [O0,U0,X0,Y0,O1,U1,Y1,U2,Y2,x9,y9,A_,B_,C_,J3,O3,Q3,U3,V3,X3,Y3,I4,J4,O4,Q4,U4,V4,X4,Y4,Z4,D5,E5,F5,G5,I5,J5,O5,P5,Q5,U5,V5,X5,Y5,Z5,o5,y5,D6,F6,G6,J6,L6,O6,P6,U6,V6,X6,Y6,o6,A7,D7,F7,G7,I7,J7,N7,O7,P7,Q7,U7,V7,X7,Y7,Z7,l7,o7,y7,A8,D8,E8,F8,G8,I8,J8,L8,N8,↓reduceIte,Nat.reduceEqDiff,O8,P8,Q8,U8,V8,X8,Y8,Z8,o8,x8,y8,C9,D9,E9,F9,G9,I9,J9,L9,N9,O9,P9,Q9,S9,Nat.reduceAdd,D_,E_,F_,G_,H_,U9,V9,I_,J_,t0,t4,hlen]
    repeat refine S.seq ?_
    refine S.cond (v := decide ((k : Int) < (l.length : Int))) (by first | rfl | (simp (disch := first | omega | (simp only [G8, O8, res_nx, putAt_nx] <;> omega) | decide) only [O0,U0,X0,Y0,O1,U1,Y1,U2,Y2,x9,y9,A_,B_,C_,J3,O3,Q3,U3,V3,X3,Y3,I4,J4,O4,Q4,U4,V4,X4,Y4,Z4,D5,E5,F5,G5,I5,J5,O5,P5,Q5,U5,V5,X5,Y5,Z5,o5,y5,D6,F6,G6,J6,L6,O6,P6,U6,V6,X6,Y6,o6,A7,D7,F7,G7,I7,J7,N7,O7,P7,Q7,U7,V7,X7,Y7,Z7,l7,o7,y7,A8,D8,E8,F8,G8,I8,J8,L8,N8,↓reduceIte,Nat.reduceEqDiff,O8,P8,Q8,U8,V8,X8,Y8,Z8,o8,x8,y8,C9,D9,E9,F9,G9,I9,J9,L9,N9,O9,P9,Q9,S9,Nat.reduceAdd,D_,E_,F_,G_,H_,U9,V9,I_,J_] <;> rfl)) (fun e => ?_) (fun e => ?_)
    · have hkn : k < l.length := by have := of_decide_eq_true e; omega
      clear e
      obtain ⟨b, f, ro, q1, q2, q3, q4⟩ := hl.idx slI s3' hkn
      have hx := hb l[k] (List.getElem_mem hkn)
      have hbt := bnd_sum (l := l.take k) (B := 10000000) fun y hy => hb y (List.mem_of_mem_take hy)
      have hlt : ((l.take k).length : Int) ≤ 1000 := by rw [List.length_take]; omega
      have hs : (l.take (k + 1)).sum = (l.take k).sum + l[k] := by
        rw [List.take_add_one, List.getElem?_eq_getElem hkn]
        show (l.take k ++ [l[k]]).sum = _
        rw [List.sum_append, List.sum_cons, List.sum_nil, Int.add_zero]
      repeat refine S.seq ?_
      refine S.skip ?_
      simp (disch := first | omega | (simp only [G8, O8, res_nx, putAt_nx] <;> omega) | decide) only [O0,U0,X0,Y0,O1,U1,Y1,U2,Y2,x9,y9,A_,B_,C_,J3,O3,Q3,U3,V3,X3,Y3,I4,J4,O4,Q4,U4,V4,X4,Y4,Z4,D5,E5,F5,G5,I5,J5,O5,P5,Q5,U5,V5,X5,Y5,Z5,o5,y5,D6,F6,G6,J6,L6,O6,P6,U6,V6,X6,Y6,o6,A7,D7,F7,G7,I7,J7,N7,O7,P7,Q7,U7,V7,X7,Y7,Z7,l7,o7,y7,A8,D8,E8,F8,G8,I8,J8,L8,N8,↓reduceIte,Nat.reduceEqDiff,O8,P8,Q8,U8,V8,X8,Y8,Z8,o8,x8,y8,C9,D9,E9,F9,G9,I9,J9,L9,N9,O9,P9,Q9,S9,Nat.reduceAdd,D_,E_,F_,G_,H_,U9,V9,I_,J_]
      repeat refine S.seq ?_
      refine S.block ?_
      repeat refine S.seq ?_
      refine S.region ?_
      simp (disch := first | omega | (simp only [G8, O8, res_nx, putAt_nx] <;> omega) | decide) only [O0,U0,X0,Y0,O1,U1,Y1,U2,Y2,x9,y9,A_,B_,C_,J3,O3,Q3,U3,V3,X3,Y3,I4,J4,O4,Q4,U4,V4,X4,Y4,Z4,D5,E5,F5,G5,I5,J5,O5,P5,Q5,U5,V5,X5,Y5,Z5,o5,y5,D6,F6,G6,J6,L6,O6,P6,U6,V6,X6,Y6,o6,A7,D7,F7,G7,I7,J7,N7,O7,P7,Q7,U7,V7,X7,Y7,Z7,l7,o7,y7,A8,D8,E8,F8,G8,I8,J8,L8,N8,↓reduceIte,Nat.reduceEqDiff,O8,P8,Q8,U8,V8,X8,Y8,Z8,o8,x8,y8,C9,D9,E9,F9,G9,I9,J9,L9,N9,O9,P9,Q9,S9,Nat.reduceAdd,D_,E_,F_,G_,H_,U9,V9,I_,J_,t0,t3,t4,q1,q3,q4,p3]
      repeat refine S.seq ?_
      refine S.region ?_
      simp (disch := first | omega | (simp only [G8, O8, res_nx, putAt_nx] <;> omega) | decide) only [O0,U0,X0,Y0,O1,U1,Y1,U2,Y2,x9,y9,A_,B_,C_,J3,O3,Q3,U3,V3,X3,Y3,I4,J4,O4,Q4,U4,V4,X4,Y4,Z4,D5,E5,F5,G5,I5,J5,O5,P5,Q5,U5,V5,X5,Y5,Z5,o5,y5,D6,F6,G6,J6,L6,O6,P6,U6,V6,X6,Y6,o6,A7,D7,F7,G7,I7,J7,N7,O7,P7,Q7,U7,V7,X7,Y7,Z7,l7,o7,y7,A8,D8,E8,F8,G8,I8,J8,L8,N8,↓reduceIte,Nat.reduceEqDiff,O8,P8,Q8,U8,V8,X8,Y8,Z8,o8,x8,y8,C9,D9,E9,F9,G9,I9,J9,L9,N9,O9,P9,Q9,S9,Nat.reduceAdd,D_,E_,F_,G_,H_,U9,V9,I_,J_,t4]
      refine hn (k + 1) _ _ (by omega) ⟨by omega, rfl, ?_, ?_, ?_⟩
      rotate_right
      all_goals (try rw [hs])
      all_goals (first | rfl | (simp (disch := first | omega | (simp only [G8, O8, res_nx, putAt_nx] <;> omega) | decide) only [O0,U0,X0,Y0,O1,U1,Y1,U2,Y2,x9,y9,A_,B_,C_,J3,O3,Q3,U3,V3,X3,Y3,I4,J4,O4,Q4,U4,V4,X4,Y4,Z4,D5,E5,F5,G5,I5,J5,O5,P5,Q5,U5,V5,X5,Y5,Z5,o5,y5,D6,F6,G6,J6,L6,O6,P6,U6,V6,X6,Y6,o6,A7,D7,F7,G7,I7,J7,N7,O7,P7,Q7,U7,V7,X7,Y7,Z7,l7,o7,y7,A8,D8,E8,F8,G8,I8,J8,L8,N8,↓reduceIte,Nat.reduceEqDiff,O8,P8,Q8,U8,V8,X8,Y8,Z8,o8,x8,y8,C9,D9,E9,F9,G9,I9,J9,L9,N9,O9,P9,Q9,S9,Nat.reduceAdd,D_,E_,F_,G_,H_,U9,V9,I_,J_,t0,t3,t4]; done) | (simp (disch := first | omega | (simp only [G8, O8, res_nx, putAt_nx] <;> omega) | decide) only [O0,U0,X0,Y0,O1,U1,Y1,U2,Y2,x9,y9,A_,B_,C_,J3,O3,Q3,U3,V3,X3,Y3,I4,J4,O4,Q4,U4,V4,X4,Y4,Z4,D5,E5,F5,G5,I5,J5,O5,P5,Q5,U5,V5,X5,Y5,Z5,o5,y5,D6,F6,G6,J6,L6,O6,P6,U6,V6,X6,Y6,o6,A7,D7,F7,G7,I7,J7,N7,O7,P7,Q7,U7,V7,X7,Y7,Z7,l7,o7,y7,A8,D8,E8,F8,G8,I8,J8,L8,N8,↓reduceIte,Nat.reduceEqDiff,O8,P8,Q8,U8,V8,X8,Y8,Z8,o8,x8,y8,C9,D9,E9,F9,G9,I9,J9,L9,N9,O9,P9,Q9,S9,Nat.reduceAdd,D_,E_,F_,G_,H_,U9,V9,I_,J_,t0,t3,t4]; rfl))
    · have hkn : k = l.length := by have := of_decide_eq_false e; omega
      subst hkn
      rw [List.take_of_length_le (Nat.le_refl _)] at t3
      refine S.exit (he _ _ _ _ (fun e => by cases e) ?_)
      simp (disch := first | omega | (simp only [G8, O8, res_nx, putAt_nx] <;> omega) | decide) only [O0,U0,X0,Y0,O1,U1,Y1,U2,Y2,x9,y9,A_,B_,C_,J3,O3,Q3,U3,V3,X3,Y3,I4,J4,O4,Q4,U4,V4,X4,Y4,Z4,D5,E5,F5,G5,I5,J5,O5,P5,Q5,U5,V5,X5,Y5,Z5,o5,y5,D6,F6,G6,J6,L6,O6,P6,U6,V6,X6,Y6,o6,A7,D7,F7,G7,I7,J7,N7,O7,P7,Q7,U7,V7,X7,Y7,Z7,l7,o7,y7,A8,D8,E8,F8,G8,I8,J8,L8,N8,↓reduceIte,Nat.reduceEqDiff,O8,P8,Q8,U8,V8,X8,Y8,Z8,o8,x8,y8,C9,D9,E9,F9,G9,I9,J9,L9,N9,O9,P9,Q9,S9,Nat.reduceAdd,D_,E_,F_,G_,H_,U9,V9,I_,J_]
      repeat refine S.seq ?_
      refine S.region ?_
      simp (disch := first | omega | (simp only [G8, O8, res_nx, putAt_nx] <;> omega) | decide) only [O0,U0,X0,Y0,O1,U1,Y1,U2,Y2,x9,y9,A_,B_,C_,J3,O3,Q3,U3,V3,X3,Y3,I4,J4,O4,Q4,U4,V4,X4,Y4,Z4,D5,E5,F5,G5,I5,J5,O5,P5,Q5,U5,V5,X5,Y5,Z5,o5,y5,D6,F6,G6,J6,L6,O6,P6,U6,V6,X6,Y6,o6,A7,D7,F7,G7,I7,J7,N7,O7,P7,Q7,U7,V7,X7,Y7,Z7,l7,o7,y7,A8,D8,E8,F8,G8,I8,J8,L8,N8,↓reduceIte,Nat.reduceEqDiff,O8,P8,Q8,U8,V8,X8,Y8,Z8,o8,x8,y8,C9,D9,E9,F9,G9,I9,J9,L9,N9,O9,P9,Q9,S9,Nat.reduceAdd,D_,E_,F_,G_,H_,U9,V9,I_,J_,t3]
      refine S.ret ?_
      try simp only [Q4, V4]
      subst hF
      simp only [finish, endMarks]
      rw [show Try.f23.results.toList = [.tmp 2] from rfl]
      simp (disch := first | omega | (simp only [G8, O8, res_nx, putAt_nx] <;> omega) | decide) only [resA, y5, O6, L6, U6, P6, Q8, U8, I8, J8, result1]
      exact hK _ _ Kp.refl ⟨rfl, rfl⟩
  · refine ⟨Nat.zero_le _, rfl, ?_, ?_, ?_⟩
    all_goals (first | rfl | (simp (disch := first | omega | (simp only [G8, O8, res_nx, putAt_nx] <;> omega) | decide) only [O0,U0,X0,Y0,O1,U1,Y1,U2,Y2,x9,y9,A_,B_,C_,J3,O3,Q3,U3,V3,X3,Y3,I4,J4,O4,Q4,U4,V4,X4,Y4,Z4,D5,E5,F5,G5,I5,J5,O5,P5,Q5,U5,V5,X5,Y5,Z5,o5,y5,D6,F6,G6,J6,L6,O6,P6,U6,V6,X6,Y6,o6,A7,D7,F7,G7,I7,J7,N7,O7,P7,Q7,U7,V7,X7,Y7,Z7,l7,o7,y7,A8,D8,E8,F8,G8,I8,J8,L8,N8,↓reduceIte,Nat.reduceEqDiff,O8,P8,Q8,U8,V8,X8,Y8,Z8,o8,x8,y8,C9,D9,E9,F9,G9,I9,J9,L9,N9,O9,P9,Q9,S9,Nat.reduceAdd,D_,E_,F_,G_,H_,U9,V9,I_,J_,List.take_zero,List.sum_nil]; done) | (simp (disch := first | omega | (simp only [G8, O8, res_nx, putAt_nx] <;> omega) | decide) only [O0,U0,X0,Y0,O1,U1,Y1,U2,Y2,x9,y9,A_,B_,C_,J3,O3,Q3,U3,V3,X3,Y3,I4,J4,O4,Q4,U4,V4,X4,Y4,Z4,D5,E5,F5,G5,I5,J5,O5,P5,Q5,U5,V5,X5,Y5,Z5,o5,y5,D6,F6,G6,J6,L6,O6,P6,U6,V6,X6,Y6,o6,A7,D7,F7,G7,I7,J7,N7,O7,P7,Q7,U7,V7,X7,Y7,Z7,l7,o7,y7,A8,D8,E8,F8,G8,I8,J8,L8,N8,↓reduceIte,Nat.reduceEqDiff,O8,P8,Q8,U8,V8,X8,Y8,Z8,o8,x8,y8,C9,D9,E9,F9,G9,I9,J9,L9,N9,O9,P9,Q9,S9,Nat.reduceAdd,D_,E_,F_,G_,H_,U9,V9,I_,J_,List.take_zero,List.sum_nil]; rfl))

set_option maxHeartbeats 8000000 in
theorem ready_y (S : Ev.Steps Try.prog pr R) (hoff : Off pr) (h0 : AHeap) (hs : Int) (cv : Value) (cs : List C4) (hc : CAt h0 cv cs) : Brings Try.prog R 22 [.agg ⟨[iv hs, cv]⟩] h0 fun v _ => v = .bool (decide ((cs.length : Int) ≤ 12) && decide (faultZ hs cs = 0)) := by
  refine brings_of (fn := Try.f22) (c := (Try.f22.body).getD .skip) (by kernel_rfl) rfl (by kernel_rfl) rfl (fun K hK => ?_)
  generalize hF : finish Try.prog Try.f22 K = KF
  simp only [Try.f22, Option.getD_some, argsT, setArgs, fV1_eq, T.setK_eq, id]
  repeat refine S.seq ?_
  refine S.region ?_
  simp (disch := first | omega | (simp only [G8, O8, res_nx, putAt_nx] <;> omega) | decide) only [O0,U0,X0,Y0,O1,U1,Y1,U2,Y2,x9,y9,A_,B_,C_,J3,O3,Q3,U3,V3,X3,Y3,I4,J4,O4,Q4,U4,V4,X4,Y4,Z4,D5,E5,F5,G5,I5,J5,O5,P5,Q5,U5,V5,X5,Y5,Z5,o5,y5,D6,F6,G6,J6,L6,O6,P6,U6,V6,X6,Y6,o6,A7,D7,F7,G7,I7,J7,N7,O7,P7,Q7,U7,V7,X7,Y7,Z7,l7,o7,y7,A8,D8,E8,F8,G8,I8,J8,L8,N8,↓reduceIte,Nat.reduceEqDiff,O8,P8,Q8,U8,V8,X8,Y8,Z8,o8,x8,y8,C9,D9,E9,F9,G9,I9,J9,L9,N9,O9,P9,Q9,S9,Nat.reduceAdd,D_,E_,F_,G_,H_,U9,V9,I_,J_]
  have hb3 : (h0.add [iv hs, cv]).bl.get h0.nx = some (.cells [iv hs, cv] h0.nx false) := I8 rfl
  have hk1 : Kp h0 (h0.add [iv hs, cv]) := Kp.refl.add
  have hlt : h0.nx < (h0.add [iv hs, cv]).nx := Nat.lt_succ_self _
  generalize h0.add [iv hs, cv] = H1 at hb3 hk1 hlt ⊢
  repeat refine S.seq ?_
  refine S.region ?_
  simp (disch := first | omega | (simp only [G8, O8, res_nx, putAt_nx] <;> omega) | decide) only [O0,U0,X0,Y0,O1,U1,Y1,U2,Y2,x9,y9,A_,B_,C_,J3,O3,Q3,U3,V3,X3,Y3,I4,J4,O4,Q4,U4,V4,X4,Y4,Z4,D5,E5,F5,G5,I5,J5,O5,P5,Q5,U5,V5,X5,Y5,Z5,o5,y5,D6,F6,G6,J6,L6,O6,P6,U6,V6,X6,Y6,o6,A7,D7,F7,G7,I7,J7,N7,O7,P7,Q7,U7,V7,X7,Y7,Z7,l7,o7,y7,A8,D8,E8,F8,G8,I8,J8,L8,N8,↓reduceIte,Nat.reduceEqDiff,O8,P8,Q8,U8,V8,X8,Y8,Z8,o8,x8,y8,C9,D9,E9,F9,G9,I9,J9,L9,N9,O9,P9,Q9,S9,Nat.reduceAdd,D_,E_,F_,G_,H_,U9,V9,I_,J_,hb3,pA]
  refine wr_brings (fid := 8) (first := #[]) (captured := #[]) (Post := fun v _ => v = .bool (decide ((cs.length : Int) ≤ 12))) (by first | rfl | (simp (disch := first | omega | (simp only [G8, O8, res_nx, putAt_nx] <;> omega) | decide) only [O0,U0,X0,Y0,O1,U1,Y1,U2,Y2,x9,y9,A_,B_,C_,J3,O3,Q3,U3,V3,X3,Y3,I4,J4,O4,Q4,U4,V4,X4,Y4,Z4,D5,E5,F5,G5,I5,J5,O5,P5,Q5,U5,V5,X5,Y5,Z5,o5,y5,D6,F6,G6,J6,L6,O6,P6,U6,V6,X6,Y6,o6,A7,D7,F7,G7,I7,J7,N7,O7,P7,Q7,U7,V7,X7,Y7,Z7,l7,o7,y7,A8,D8,E8,F8,G8,I8,J8,L8,N8,↓reduceIte,Nat.reduceEqDiff,O8,P8,Q8,U8,V8,X8,Y8,Z8,o8,x8,y8,C9,D9,E9,F9,G9,I9,J9,L9,N9,O9,P9,Q9,S9,Nat.reduceAdd,D_,E_,F_,G_,H_,U9,V9,I_,J_] <;> rfl)) (hoff _ _ _ rfl) (by simp (disch := first | omega | (simp only [G8, O8, res_nx, putAt_nx] <;> omega) | decide) only [O0,U0,X0,Y0,O1,U1,Y1,U2,Y2,x9,y9,A_,B_,C_,J3,O3,Q3,U3,V3,X3,Y3,I4,J4,O4,Q4,U4,V4,X4,Y4,Z4,D5,E5,F5,G5,I5,J5,O5,P5,Q5,U5,V5,X5,Y5,Z5,o5,y5,D6,F6,G6,J6,L6,O6,P6,U6,V6,X6,Y6,o6,A7,D7,F7,G7,I7,J7,N7,O7,P7,Q7,U7,V7,X7,Y7,Z7,l7,o7,y7,A8,D8,E8,F8,G8,I8,J8,L8,N8,↓reduceIte,Nat.reduceEqDiff,O8,P8,Q8,U8,V8,X8,Y8,Z8,o8,x8,y8,C9,D9,E9,F9,G9,I9,J9,L9,N9,O9,P9,Q9,S9,Nat.reduceAdd,D_,E_,F_,G_,H_,U9,V9,I_,J_]; exact thin_y S _ hs cv cs (hc.mono hk1)) ?_
  rintro v g hk rfl
  have hb := (hk.get hlt).trans hb3
  by_cases h12 : (cs.length : Int) ≤ 12
  · rw [decide_eq_true h12, Bool.true_and] at hK
    simp (disch := first | omega | (simp only [G8, O8, res_nx, putAt_nx] <;> omega) | decide) only [O0,U0,X0,Y0,O1,U1,Y1,U2,Y2,x9,y9,A_,B_,C_,J3,O3,Q3,U3,V3,X3,Y3,I4,J4,O4,Q4,U4,V4,X4,Y4,Z4,D5,E5,F5,G5,I5,J5,O5,P5,Q5,U5,V5,X5,Y5,Z5,o5,y5,D6,F6,G6,J6,L6,O6,P6,U6,V6,X6,Y6,o6,A7,D7,F7,G7,I7,J7,N7,O7,P7,Q7,U7,V7,X7,Y7,Z7,l7,o7,y7,A8,D8,E8,F8,G8,I8,J8,L8,N8,↓reduceIte,Nat.reduceEqDiff,O8,P8,Q8,U8,V8,X8,Y8,Z8,o8,x8,y8,C9,D9,E9,F9,G9,I9,J9,L9,N9,O9,P9,Q9,S9,Nat.reduceAdd,D_,E_,F_,G_,H_,U9,V9,I_,J_,decide_eq_true h12,hb,pA]
    refine wr_brings (fid := 24) (first := #[]) (captured := #[]) (Post := fun v _ => v = iv (faultZ hs cs)) (by first | rfl | (simp (disch := first | omega | (simp only [G8, O8, res_nx, putAt_nx] <;> omega) | decide) only [O0,U0,X0,Y0,O1,U1,Y1,U2,Y2,x9,y9,A_,B_,C_,J3,O3,Q3,U3,V3,X3,Y3,I4,J4,O4,Q4,U4,V4,X4,Y4,Z4,D5,E5,F5,G5,I5,J5,O5,P5,Q5,U5,V5,X5,Y5,Z5,o5,y5,D6,F6,G6,J6,L6,O6,P6,U6,V6,X6,Y6,o6,A7,D7,F7,G7,I7,J7,N7,O7,P7,Q7,U7,V7,X7,Y7,Z7,l7,o7,y7,A8,D8,E8,F8,G8,I8,J8,L8,N8,↓reduceIte,Nat.reduceEqDiff,O8,P8,Q8,U8,V8,X8,Y8,Z8,o8,x8,y8,C9,D9,E9,F9,G9,I9,J9,L9,N9,O9,P9,Q9,S9,Nat.reduceAdd,D_,E_,F_,G_,H_,U9,V9,I_,J_] <;> rfl)) (hoff _ _ _ rfl) (by simp (disch := first | omega | (simp only [G8, O8, res_nx, putAt_nx] <;> omega) | decide) only [O0,U0,X0,Y0,O1,U1,Y1,U2,Y2,x9,y9,A_,B_,C_,J3,O3,Q3,U3,V3,X3,Y3,I4,J4,O4,Q4,U4,V4,X4,Y4,Z4,D5,E5,F5,G5,I5,J5,O5,P5,Q5,U5,V5,X5,Y5,Z5,o5,y5,D6,F6,G6,J6,L6,O6,P6,U6,V6,X6,Y6,o6,A7,D7,F7,G7,I7,J7,N7,O7,P7,Q7,U7,V7,X7,Y7,Z7,l7,o7,y7,A8,D8,E8,F8,G8,I8,J8,L8,N8,↓reduceIte,Nat.reduceEqDiff,O8,P8,Q8,U8,V8,X8,Y8,Z8,o8,x8,y8,C9,D9,E9,F9,G9,I9,J9,L9,N9,O9,P9,Q9,S9,Nat.reduceAdd,D_,E_,F_,G_,H_,U9,V9,I_,J_]; exact fault_y S hoff _ hs cv cs (hc.mono (hk1.trans hk)) (by omega)) ?_
    rintro v g2 hk2 rfl
    simp (disch := first | omega | (simp only [G8, O8, res_nx, putAt_nx] <;> omega) | decide) only [O0,U0,X0,Y0,O1,U1,Y1,U2,Y2,x9,y9,A_,B_,C_,J3,O3,Q3,U3,V3,X3,Y3,I4,J4,O4,Q4,U4,V4,X4,Y4,Z4,D5,E5,F5,G5,I5,J5,O5,P5,Q5,U5,V5,X5,Y5,Z5,o5,y5,D6,F6,G6,J6,L6,O6,P6,U6,V6,X6,Y6,o6,A7,D7,F7,G7,I7,J7,N7,O7,P7,Q7,U7,V7,X7,Y7,Z7,l7,o7,y7,A8,D8,E8,F8,G8,I8,J8,L8,N8,↓reduceIte,Nat.reduceEqDiff,O8,P8,Q8,U8,V8,X8,Y8,Z8,o8,x8,y8,C9,D9,E9,F9,G9,I9,J9,L9,N9,O9,P9,Q9,S9,Nat.reduceAdd,D_,E_,F_,G_,H_,U9,V9,I_,J_]
    refine S.ret ?_
    try simp only [Q4, V4]
    subst hF
    simp only [finish, endMarks]
    rw [show Try.f22.results.toList = [.tmp 2] from rfl]
    simp (disch := first | omega | (simp only [G8, O8, res_nx, putAt_nx] <;> omega) | decide) only [resA, y5, O6, L6, U6, P6, Q8, U8, I8, J8, result1]
    exact hK _ _ (hk1.trans (hk.trans hk2)) rfl
  · rw [decide_eq_false h12, Bool.false_and] at hK
    simp (disch := first | omega | (simp only [G8, O8, res_nx, putAt_nx] <;> omega) | decide) only [O0,U0,X0,Y0,O1,U1,Y1,U2,Y2,x9,y9,A_,B_,C_,J3,O3,Q3,U3,V3,X3,Y3,I4,J4,O4,Q4,U4,V4,X4,Y4,Z4,D5,E5,F5,G5,I5,J5,O5,P5,Q5,U5,V5,X5,Y5,Z5,o5,y5,D6,F6,G6,J6,L6,O6,P6,U6,V6,X6,Y6,o6,A7,D7,F7,G7,I7,J7,N7,O7,P7,Q7,U7,V7,X7,Y7,Z7,l7,o7,y7,A8,D8,E8,F8,G8,I8,J8,L8,N8,↓reduceIte,Nat.reduceEqDiff,O8,P8,Q8,U8,V8,X8,Y8,Z8,o8,x8,y8,C9,D9,E9,F9,G9,I9,J9,L9,N9,O9,P9,Q9,S9,Nat.reduceAdd,D_,E_,F_,G_,H_,U9,V9,I_,J_,decide_eq_false h12]
    refine S.ret ?_
    try simp only [Q4, V4]
    subst hF
    simp only [finish, endMarks]
    rw [show Try.f22.results.toList = [.tmp 2] from rfl]
    simp (disch := first | omega | (simp only [G8, O8, res_nx, putAt_nx] <;> omega) | decide) only [resA, y5, O6, L6, U6, P6, Q8, U8, I8, J8, result1]
    exact hK _ _ (hk1.trans hk) rfl

/-! ## The money is none's loss -/
theorem sum_set : ∀ (l : List Int) (k : Nat) (x : Int), k < l.length → (l.set k x).sum = l.sum - l.getD k 0 + x
  | [], _, _, h => by simp at h
  | a :: l, 0, x, _ => by simp; omega
  | a :: l, k + 1, x, h => by
    have := sum_set l k x (by simpa using h)
    simp only [List.set_cons_succ, List.sum_cons, List.getD_cons_succ, this]; omega
theorem sum_addAt (l : List Int) (k : Nat) (d : Int) (h : k < l.length) : (addAt l k d).sum = l.sum + d := by
  unfold addAt; rw [sum_set _ _ _ h]; omega
theorem sum_stepB {n : Nat} {cs : List C4} (hv : Hs n cs) {c : C4} (hc : c ∈ cs) {acc : List Int} (hl : acc.length = n) (a : Int) : (stepB acc c a).sum = acc.sum := by
  obtain ⟨⟨f, t, hf, ht, h1, h2, _⟩, _⟩ := hv c hc
  unfold stepB
  rw [hf, ht, Int.toNat_natCast, Int.toNat_natCast, sum_addAt _ _ _ (by rw [addAt_len]; omega), sum_addAt _ _ _ (by omega)]; omega
theorem sum_balG {n : Nat} {cs : List C4} (hv : Hs n cs) : ∀ (l : List C4) (am acc : List Int), (∀ c, c ∈ l → c ∈ cs) → acc.length = n → (balG l am acc).sum = acc.sum
  | [], _, _, _, _ => by simp only [balG]
  | _ :: _, [], _, _, _ => by simp only [balG]
  | c :: l, a :: am, acc, h, hl => by
    simp only [balG]
    rw [sum_balG hv l am _ (fun x hx => h x (by simp [hx])) (by rw [stepB_len]; exact hl), sum_stepB hv (h c (by simp)) hl]
theorem sum_zero (n : Nat) : (List.replicate n (0 : Int)).sum = 0 := by simp
theorem sum_bal {n : Nat} {cs : List C4} (hv : Hs n cs) (am : List Int) : (bal n cs am).sum = 0 := by
  rw [bal, sum_balG hv cs am _ (fun c h => h) List.length_replicate, sum_zero]
/-- At a house only its own contracts count. -/
theorem stepB_at {n : Nat} {cs : List C4} (hv : Hs n cs) {c : C4} (hc : c ∈ cs) (kh : Nat) (p : Int) {x y : List Int} (hl : x.length = y.length) (he : x.getD kh 0 = y.getD kh 0) : (stepB x c (payT kh p c)).getD kh 0 = (stepB y c (payC p c)).getD kh 0 := by
  obtain ⟨⟨f, t, hf, ht, _, _, hne⟩, _⟩ := hv c hc
  unfold stepB payT tou
  rw [hf, ht, Int.toNat_natCast, Int.toNat_natCast]
  simp only [getD_addAt, addAt_len, hl, he]
  by_cases h1 : f = kh
  · have h2 : ¬ t = kh := by omega
    have h3 : ¬ (t : Int) = (kh : Int) := by omega
    simp [h1, h2]
  · by_cases h2 : t = kh
    · simp [h1, h2]
    · have h3 : ¬ (f : Int) = (kh : Int) := by omega
      have h4 : ¬ (t : Int) = (kh : Int) := by omega
      simp [h1, h2]
theorem balG_at {n : Nat} {cs : List C4} (hv : Hs n cs) (kh : Nat) (p : Int) : ∀ (l : List C4) (x y : List Int), (∀ c, c ∈ l → c ∈ cs) → x.length = y.length → x.getD kh 0 = y.getD kh 0 → (balG l (l.map (payT kh p)) x).getD kh 0 = (balG l (pays p l) y).getD kh 0
  | [], _, _, _, _, he => by simp only [List.map_nil, pays, balG]; exact he
  | c :: l, x, y, h, hl, he => by
    simp only [List.map_cons, pays, balG]
    exact balG_at hv kh p l _ _ (fun z hz => h z (by simp [hz])) (by rw [stepB_len, stepB_len]; exact hl) (stepB_at hv (h c (by simp)) kh p hl he)
theorem max2_ge (x : Int) : x ≤ max2 0 x ∧ 0 ≤ max2 0 x := by unfold max2; split <;> omega
theorem sum_max2 : ∀ (l : List Int), l.sum ≤ (l.map (max2 0)).sum
  | [] => by simp
  | x :: l => by
    have h1 := sum_max2 l
    have h2 := max2_ge x
    simp only [List.map_cons, List.sum_cons]; omega
theorem lossP_sum {n : Nat} {cs : List C4} (hv : Hs n cs) {kh : Nat} (hk : kh < n) (p : Int) : -((bal n cs (pays p cs)).getD kh 0) ≤ (lossP n cs kh p).sum := by
  unfold lossP
  have h1 := sum_max2 ((bal n cs (cs.map (payT kh p))).set kh 0)
  rw [sum_set _ _ _ (by rw [bal_len]; exact hk), sum_bal hv] at h1
  have h2 := balG_at hv kh p cs (List.replicate n 0) (List.replicate n 0) (fun c h => h) rfl rfl
  have h3 : (bal n cs (cs.map (payT kh p))).getD kh 0 = (bal n cs (pays p cs)).getD kh 0 := h2
  rw [h3] at h1
  omega
theorem lossP_len (n : Nat) (cs : List C4) (kh : Nat) (p : Int) : (lossP n cs kh p).length = n := by rw [lossP, List.length_map, List.length_set, bal_len]
theorem lossP_nonneg (n : Nat) (cs : List C4) (kh : Nat) (p : Int) : ∀ x, x ∈ lossP n cs kh p → 0 ≤ x := fun x hx => by
  obtain ⟨y, _, rfl⟩ := List.mem_map.1 hx
  exact (max2_ge y).2
theorem lossP_at {n : Nat} {cs : List C4} {kh : Nat} (hk : kh < n) (p : Int) : (lossP n cs kh p).getD kh 0 = 0 := by
  unfold lossP
  rw [List.getD_eq_getElem?_getD, List.getElem?_map, List.getElem?_set_self (by rw [bal_len]; exact hk)]
  rfl
theorem lossP_bnd {n : Nat} {cs : List C4} (hv : Hs n cs) (hcl : cs.length ≤ 8) {kh : Nat} {p : Int} (hp1 : 1 ≤ p) (hp2 : p ≤ 1000) : bnd 10000000 (lossP n cs kh p) := by
  have hpb : bnd 200000 (cs.map (payT kh p)) := fun x hx => by
    obtain ⟨c, hc, rfl⟩ := List.mem_map.1 hx
    have := payC_bnd hv hp1 hp2 hc
    show -200000 ≤ payT kh p c ∧ payT kh p c ≤ 200000
    unfold payT payC
    cases tou kh c
    · show -200000 ≤ 0 ∧ 0 ≤ 200000; omega
    · show -200000 ≤ c.2.2.1 * (p - c.2.2.2) ∧ c.2.2.1 * (p - c.2.2.2) ≤ 200000; omega
  have hb := balG_bnd (by omega : (0 : Int) ≤ 200000) (cs := cs) (bnd_zero n) (Int.le_refl 0) hpb
  intro x hx
  obtain ⟨y, hy, rfl⟩ := List.mem_map.1 hx
  have h1 : -10000000 ≤ y ∧ y ≤ 10000000 := by
    rcases List.mem_or_eq_of_mem_set hy with hy | rfl
    · have := hb y hy; omega
    · omega
  unfold max2
  split <;> omega
theorem bal_bnd {n : Nat} {cs : List C4} (hcl : cs.length ≤ 8) {am : List Int} (h : bnd 200000 am) : bnd 10000000 (bal n cs am) := by
  have hb := balG_bnd (by omega : (0 : Int) ≤ 200000) (cs := cs) (bnd_zero n) (Int.le_refl 0) h
  exact bnd_mono hb (by omega)

/-! ## Other prices -/
def xC (d : Int) (c : C4) : C4 := (c.1, c.2.1, c.2.2.1, c.2.2.2 + d)
def yC (k p : Int) (c : C4) : C4 := bif tou k c then (c.1, c.2.1, c.2.2.1, p) else c
theorem pays_x (p d : Int) (cs : List C4) : pays (p + d) (cs.map (xC d)) = pays p cs := by
  simp only [pays, List.map_map]
  refine List.map_congr_left fun c _ => ?_
  show c.2.2.1 * (p + d - (c.2.2.2 + d)) = c.2.2.1 * (p - c.2.2.2)
  congr 1; omega
theorem balG_x (d : Int) : ∀ (cs : List C4) (am acc : List Int), balG (cs.map (xC d)) am acc = balG cs am acc
  | [], _, _ => by simp [balG]
  | _ :: _, [], _ => by simp [balG]
  | c :: cs, a :: am, acc => by
    simp only [List.map_cons, balG]
    rw [balG_x d cs am]; rfl
theorem money_x (n : Nat) (p d : Int) (cs : List C4) : bal n (cs.map (xC d)) (pays (p + d) (cs.map (xC d))) = bal n cs (pays p cs) := by
  rw [pays_x, bal, balG_x]; rfl
theorem fault_y0 {hs : Int} {cs : List C4} (h : faultZ hs cs = 0) (k : Int) {p : Int} (hp1 : 1 ≤ p) (hp2 : p ≤ 1000) : faultZ hs (cs.map (yC k p)) = 0 := by
  obtain ⟨n, rfl, hn1, hn6, hcl, hv⟩ := Hs.of_fault h
  unfold faultZ
  rw [List.length_map, decide_eq_false (by omega), decide_eq_false (by omega), Bool.false_or, cond_false, decide_eq_false (by omega), cond_false]
  have : (cs.map (yC k p)).all (okC (n : Int)) = true := by
    rw [List.all_eq_true]
    intro x hx
    obtain ⟨c, hc, rfl⟩ := List.mem_map.1 hx
    obtain ⟨⟨f, t, hf, ht, h1, h2, h3⟩, k1, k2, k3, k4⟩ := hv c hc
    unfold yC
    cases tou k c
    · simp only [cond_false, okC, inB, Bool.and_eq_true, decide_eq_true_eq, Bool.not_eq_true', decide_eq_false_iff_not]
      exact ⟨by omega, by omega, by omega, by omega, by omega⟩
    · simp only [cond_true, okC, inB, Bool.and_eq_true, decide_eq_true_eq, Bool.not_eq_true', decide_eq_false_iff_not]
      exact ⟨by omega, by omega, by omega, by omega, by omega⟩
  rw [this]; rfl
theorem none_zero {n : Nat} (cs : List C4) (kh : Nat) (p : Int) : lossP n (cs.map (yC kh p)) kh p = List.replicate n 0 := by
  have h1 : (cs.map (yC kh p)).map (payT kh p) = List.replicate cs.length 0 := by
    rw [List.map_map, List.eq_replicate_iff]
    refine ⟨List.length_map .., fun x hx => ?_⟩
    obtain ⟨c, _, rfl⟩ := List.mem_map.1 hx
    show payT kh p (yC kh p c) = 0
    unfold yC
    cases h : tou kh c with
    | false => rw [cond_false]; unfold payT; rw [h]; rfl
    | true =>
      rw [cond_true]
      unfold payT payC
      simp only [Int.sub_self, Int.mul_zero]
      cases tou (kh : Int) _ <;> rfl
  have h2 : ∀ (l : List C4) (m : Nat) (acc : List Int), balG l (List.replicate m 0) acc = acc := by
    intro l
    induction l with
    | nil => intro m acc; simp [balG]
    | cons c l ih =>
      intro m acc
      cases m with
      | zero => simp [balG]
      | succ m => rw [List.replicate_succ]; simp only [balG]; rw [ih]; unfold stepB; rw [Int.neg_zero, addAt_0, addAt_0]
  unfold lossP bal
  rw [h1, h2]
  refine ext_getD (by simp) fun j hj => ?_
  rw [List.length_map, List.length_set, List.length_replicate] at hj
  simp only [List.getD_eq_getElem?_getD, List.getElem?_map, List.getElem?_set, List.getElem?_replicate, List.length_replicate, hj, if_true]
  by_cases h : kh = j <;> simp [h, hj, max2]
end Go.Proofs.Rg
