import Derived.Test.YtlneoecgbbbahaaGreatDoorHs5
namespace Go.Proofs.Hs
open Go Go.Ev
set_option linter.unusedSimpArgs false

/-! ## lists.All over the pairs of a clerk -/
theorem p102 (c : List Value) (o : Nat) : partL Tryz.prog 102 c o = c[o]? := by kernel_rfl
theorem p78 (c : List Value) (o : Nat) : partL Tryz.prog 78 c o = bif Nat.ble (Nat.add o 2) c.length then some (.agg ⟨(c.drop o).take 2⟩) else none := by kernel_rfl
theorem part78 {c : List Value} {i : Nat} {l : List Value} (h1 : (c.drop (i * 2)).take 2 = l) (h2 : i * 2 + 2 ≤ c.length) : partL Tryz.prog 78 c (i * 2) = some (.agg ⟨l⟩) := by
  rw [p78, Nat.ble_eq_true_of_le (by show i * 2 + 2 ≤ c.length; exact h2), cond_true, h1]
theorem part780 {a b : Value} : partL Tryz.prog 78 [a, b] 0 = some (.agg ⟨[a, b]⟩) := by rw [p78]; rfl

def IP (n : Nat) (q : Int × Int → Bool) (ps : Prs) (H : AHeap) (sv fv : Value) (k : Nat) (t : T Value) (h : AHeap) : Prop :=
  k ≤ n ∧ firstBad q ps 0 = firstBad q (ps.drop k) k ∧ Kp H h ∧ tget t 0 = sv ∧ tget t 1 = fv ∧ tget t 7 = .int .i64 (n : Int) ∧ tget t 8 = .int .i64 (k : Int)

variable {pr : Prim} {R : ExT}
set_option maxHeartbeats 4000000 in
theorem clos78_y (S : Ev.Steps Tryz.prog pr R) (hoff : Off pr) (h : AHeap) (Bf f : Nat) (ro : Bool) (G : FuncId) (hG : offB G = true) (mv : Value) (p : Int × Int) (b : Bool) (hlt : Bf < h.nx) (hb : h.bl.get Bf = some (.cells [.func (.func G) #[mv] #[]] f ro))
    (hq : ∀ h', Kp h h' → Brings Tryz.prog R G [mv, .agg ⟨pc p⟩] h' fun u _ => u = .bool b) :
    Brings Tryz.prog R 70 [.agg ⟨pc p⟩, ptr0 Bf] h fun u _ => u = .bool (!b) := by
  refine brings_of (fn := Tryz.f70) (c := (Tryz.f70.body).getD .skip) (by kernel_rfl) rfl (by kernel_rfl) rfl (fun K hK => ?_)
  generalize hF : finish Tryz.prog Tryz.f70 K = KF
  simp only [Tryz.f70, Option.getD_some, argsT, setArgs, fV1_eq, T.setK_eq, id]
  have hpc : pc p = [.int .i64 p.1, .int .i64 p.2] := rfl
  rw [hpc] at hq ⊢
  repeat refine S.seq ?_
  refine S.region ?_
  simp (disch := first | omega | (simp only [D8, I8] <;> omega) | decide) only [O0,U0,X0,Y0,O1,U1,Y1,U2,Y2,Y9,Z9,l9,o9,x9,J3,O3,Q3,U3,V3,X3,Y3,I4,J4,O4,Q4,U4,V4,X4,Y4,Z4,D5,E5,F5,G5,H5,I5,J5,O5,P5,Q5,U5,V5,X5,Y5,Z5,o5,y5,D6,F6,G6,H6,J6,L6,O6,P6,U6,V6,X6,Y6,o6,A7,D7,F7,G7,H7,I7,J7,N7,O7,P7,Q7,U7,V7,X7,Y7,Z7,l7,o7,y7,A8,D8,E8,F8,G8,H8,↓reduceIte,Nat.reduceEqDiff,I8,J8,L8,N8,O8,P8,Q8,U8,V8,X8,Y8,Z8,o8,y8,C9,D9,E9,F9,G9,H9,I9,J9,L9,N9,Nat.reduceAdd,y9,A_,B_,C_,D_,O9,P9,E_,F_]
  repeat refine S.seq ?_
  refine S.region ?_
  simp (disch := first | omega | (simp only [D8, I8] <;> omega) | decide) only [O0,U0,X0,Y0,O1,U1,Y1,U2,Y2,Y9,Z9,l9,o9,x9,J3,O3,Q3,U3,V3,X3,Y3,I4,J4,O4,Q4,U4,V4,X4,Y4,Z4,D5,E5,F5,G5,H5,I5,J5,O5,P5,Q5,U5,V5,X5,Y5,Z5,o5,y5,D6,F6,G6,H6,J6,L6,O6,P6,U6,V6,X6,Y6,o6,A7,D7,F7,G7,H7,I7,J7,N7,O7,P7,Q7,U7,V7,X7,Y7,Z7,l7,o7,y7,A8,D8,E8,F8,G8,H8,↓reduceIte,Nat.reduceEqDiff,I8,J8,L8,N8,O8,P8,Q8,U8,V8,X8,Y8,Z8,o8,y8,C9,D9,E9,F9,G9,H9,I9,J9,L9,N9,Nat.reduceAdd,y9,A_,B_,C_,D_,O9,P9,E_,F_,hb,p102,part780]
  refine wr_brings (fid := G) (first := #[mv]) (captured := #[]) (Post := fun u _ => u = .bool b) (by simp (disch := first | omega | (simp only [D8, I8] <;> omega) | decide) only [O0,U0,X0,Y0,O1,U1,Y1,U2,Y2,Y9,Z9,l9,o9,x9,J3,O3,Q3,U3,V3,X3,Y3,I4,J4,O4,Q4,U4,V4,X4,Y4,Z4,D5,E5,F5,G5,H5,I5,J5,O5,P5,Q5,U5,V5,X5,Y5,Z5,o5,y5,D6,F6,G6,H6,J6,L6,O6,P6,U6,V6,X6,Y6,o6,A7,D7,F7,G7,H7,I7,J7,N7,O7,P7,Q7,U7,V7,X7,Y7,Z7,l7,o7,y7,A8,D8,E8,F8,G8,H8,↓reduceIte,Nat.reduceEqDiff,I8,J8,L8,N8,O8,P8,Q8,U8,V8,X8,Y8,Z8,o8,y8,C9,D9,E9,F9,G9,H9,I9,J9,L9,N9,Nat.reduceAdd,y9,A_,B_,C_,D_,O9,P9,E_,F_]) (hoff _ _ _ hG) (by simp (disch := first | omega | (simp only [D8, I8] <;> omega) | decide) only [O0,U0,X0,Y0,O1,U1,Y1,U2,Y2,Y9,Z9,l9,o9,x9,J3,O3,Q3,U3,V3,X3,Y3,I4,J4,O4,Q4,U4,V4,X4,Y4,Z4,D5,E5,F5,G5,H5,I5,J5,O5,P5,Q5,U5,V5,X5,Y5,Z5,o5,y5,D6,F6,G6,H6,J6,L6,O6,P6,U6,V6,X6,Y6,o6,A7,D7,F7,G7,H7,I7,J7,N7,O7,P7,Q7,U7,V7,X7,Y7,Z7,l7,o7,y7,A8,D8,E8,F8,G8,H8,↓reduceIte,Nat.reduceEqDiff,I8,J8,L8,N8,O8,P8,Q8,U8,V8,X8,Y8,Z8,o8,y8,C9,D9,E9,F9,G9,H9,I9,J9,L9,N9,Nat.reduceAdd,y9,A_,B_,C_,D_,O9,P9,E_,F_,List.cons_append]; exact hq _ Kp.refl.add) ?_
  rintro u g hk rfl
  simp (disch := first | omega | (simp only [D8, I8] <;> omega) | decide) only [O0,U0,X0,Y0,O1,U1,Y1,U2,Y2,Y9,Z9,l9,o9,x9,J3,O3,Q3,U3,V3,X3,Y3,I4,J4,O4,Q4,U4,V4,X4,Y4,Z4,D5,E5,F5,G5,H5,I5,J5,O5,P5,Q5,U5,V5,X5,Y5,Z5,o5,y5,D6,F6,G6,H6,J6,L6,O6,P6,U6,V6,X6,Y6,o6,A7,D7,F7,G7,H7,I7,J7,N7,O7,P7,Q7,U7,V7,X7,Y7,Z7,l7,o7,y7,A8,D8,E8,F8,G8,H8,↓reduceIte,Nat.reduceEqDiff,I8,J8,L8,N8,O8,P8,Q8,U8,V8,X8,Y8,Z8,o8,y8,C9,D9,E9,F9,G9,H9,I9,J9,L9,N9,Nat.reduceAdd,y9,A_,B_,C_,D_,O9,P9,E_,F_,V7]
  refine S.ret ?_
  try simp only [Q4, V4]
  subst hF
  simp only [finish, endMarks]
  rw [show Tryz.f70.results.toList = [.tmp 3] from rfl]
  simp (disch := first | omega | (simp only [D8, I8] <;> omega) | decide) only [resA, o5, J6, H6, O6, L6, L8, N8, E8, F8, result1]
  exact hK _ _ (Kp.refl.add.trans hk) rfl

set_option maxHeartbeats 4000000 in
theorem idx78_y (S : Ev.Steps Tryz.prog pr R) (hoff : Off pr) (h0 : AHeap) (sv : Value) (ps : Prs) (hc : SlAt h0 2 sv (ps.map pc)) (hsz : (ps.length : Int) ≤ 1000000) (Bf f : Nat) (ro : Bool) (G : FuncId) (hG : offB G = true) (mv : Value) (q : Int × Int → Bool) (hlt : Bf < h0.nx) (hb : h0.bl.get Bf = some (.cells [.func (.func G) #[mv] #[]] f ro))
    (hq : ∀ h', Kp h0 h' → ∀ p, p ∈ ps → Brings Tryz.prog R G [mv, .agg ⟨pc p⟩] h' fun u _ => u = .bool (q p)) :
    Brings Tryz.prog R 90 [sv, .func (.func 70) #[] #[ptr0 Bf]] h0 fun u _ => u = .int .i64 (firstBad q ps 0) := by
  refine brings_of (fn := Tryz.f90) (c := (Tryz.f90.body).getD .skip) (by kernel_rfl) rfl (by kernel_rfl) rfl (fun K hK => ?_)
  generalize hF : finish Tryz.prog Tryz.f90 K = KF
  simp only [Tryz.f90, Option.getD_some, argsT, setArgs, fV1_eq, T.setK_eq, id]
  have hlen := fun t h1 o => hc.len (P := Tryz.prog) is74 (t := t) h1 o
  repeat refine S.seq ?_
  refine S.region ?_
  simp (disch := first | omega | (simp only [D8, I8] <;> omega) | decide) only [O0,U0,X0,Y0,O1,U1,Y1,U2,Y2,Y9,Z9,l9,o9,x9,J3,O3,Q3,U3,V3,X3,Y3,I4,J4,O4,Q4,U4,V4,X4,Y4,Z4,D5,E5,F5,G5,H5,I5,J5,O5,P5,Q5,U5,V5,X5,Y5,Z5,o5,y5,D6,F6,G6,H6,J6,L6,O6,P6,U6,V6,X6,Y6,o6,A7,D7,F7,G7,H7,I7,J7,N7,O7,P7,Q7,U7,V7,X7,Y7,Z7,l7,o7,y7,A8,D8,E8,F8,G8,H8,↓reduceIte,Nat.reduceEqDiff,I8,J8,L8,N8,O8,P8,Q8,U8,V8,X8,Y8,Z8,o8,y8,C9,D9,E9,F9,G9,H9,I9,J9,L9,N9,Nat.reduceAdd,y9,A_,B_,C_,D_,O9,P9,E_,F_]
  repeat refine S.seq ?_
  refine S.region ?_
  simp (disch := first | omega | (simp only [D8, I8] <;> omega) | decide) only [O0,U0,X0,Y0,O1,U1,Y1,U2,Y2,Y9,Z9,l9,o9,x9,J3,O3,Q3,U3,V3,X3,Y3,I4,J4,O4,Q4,U4,V4,X4,Y4,Z4,D5,E5,F5,G5,H5,I5,J5,O5,P5,Q5,U5,V5,X5,Y5,Z5,o5,y5,D6,F6,G6,H6,J6,L6,O6,P6,U6,V6,X6,Y6,o6,A7,D7,F7,G7,H7,I7,J7,N7,O7,P7,Q7,U7,V7,X7,Y7,Z7,l7,o7,y7,A8,D8,E8,F8,G8,H8,↓reduceIte,Nat.reduceEqDiff,I8,J8,L8,N8,O8,P8,Q8,U8,V8,X8,Y8,Z8,o8,y8,C9,D9,E9,F9,G9,H9,I9,J9,L9,N9,Nat.reduceAdd,y9,A_,B_,C_,D_,O9,P9,E_,F_,hlen,List.length_map]
  repeat refine S.seq ?_
  refine S.block ?_
  refine S.loop (ι := Nat) (IP ps.length q ps h0 sv (.func (.func 70) #[] #[ptr0 Bf])) (fun k => ps.length - k) ?_ 0 _ _ ?_
  · intro k t h ⟨hk, hfb, hkp, t0, t1, t7, t8⟩ K' hn he
    repeat refine S.seq ?_
    refine S.region ?_
    simp (disch := first | omega | (simp only [D8, I8] <;> omega) | decide) only [O0,U0,X0,Y0,O1,U1,Y1,U2,Y2,Y9,Z9,l9,o9,x9,J3,O3,Q3,U3,V3,X3,Y3,I4,J4,O4,Q4,U4,V4,X4,Y4,Z4,D5,E5,F5,G5,H5,I5,J5,O5,P5,Q5,U5,V5,X5,Y5,Z5,o5,y5,D6,F6,G6,H6,J6,L6,O6,P6,U6,V6,X6,Y6,o6,A7,D7,F7,G7,H7,I7,J7,N7,O7,P7,Q7,U7,V7,X7,Y7,Z7,l7,o7,y7,A8,D8,E8,F8,G8,H8,↓reduceIte,Nat.reduceEqDiff,I8,J8,L8,N8,O8,P8,Q8,U8,V8,X8,Y8,Z8,o8,y8,C9,D9,E9,F9,G9,H9,I9,J9,L9,N9,Nat.reduceAdd,y9,A_,B_,C_,D_,O9,P9,E_,F_,t7,t8]
    repeat refine S.seq ?_
    refine S.cond (v := decide ((k : Int) < (ps.length : Int))) (by first | rfl | (simp (disch := first | omega | (simp only [D8, I8] <;> omega) | decide) only [O0,U0,X0,Y0,O1,U1,Y1,U2,Y2,Y9,Z9,l9,o9,x9,J3,O3,Q3,U3,V3,X3,Y3,I4,J4,O4,Q4,U4,V4,X4,Y4,Z4,D5,E5,F5,G5,H5,I5,J5,O5,P5,Q5,U5,V5,X5,Y5,Z5,o5,y5,D6,F6,G6,H6,J6,L6,O6,P6,U6,V6,X6,Y6,o6,A7,D7,F7,G7,H7,I7,J7,N7,O7,P7,Q7,U7,V7,X7,Y7,Z7,l7,o7,y7,A8,D8,E8,F8,G8,H8,↓reduceIte,Nat.reduceEqDiff,I8,J8,L8,N8,O8,P8,Q8,U8,V8,X8,Y8,Z8,o8,y8,C9,D9,E9,F9,G9,H9,I9,J9,L9,N9,Nat.reduceAdd,y9,A_,B_,C_,D_,O9,P9,E_,F_] <;> rfl)) (fun e => ?_) (fun e => ?_)
    · have hkn : k < ps.length := by have := of_decide_eq_true e; omega
      clear e
      have hp : ps[k]? = some ps[k] := List.getElem?_eq_getElem hkn
      have hmem : ps[k] ∈ ps := List.getElem_mem hkn
      generalize hpe : ps[k] = p at hp hmem
      have hck := hc.mono hkp
      obtain ⟨b2, f2, ro2, u1, u2, u3⟩ := hck.idx sl74 s78 (i := k) (by rw [List.length_map]; exact hkn)
      obtain ⟨u4, u5⟩ := flat_part hck.sized (i := k) (c := pc p) (by rw [List.getElem?_map, hp]; rfl)
      have upart := part78 u4 u5
      rw [List.drop_eq_getElem_cons hkn, hpe] at hfb
      simp only [firstBad] at hfb
      repeat refine S.seq ?_
      refine S.skip ?_
      simp (disch := first | omega | (simp only [D8, I8] <;> omega) | decide) only [O0,U0,X0,Y0,O1,U1,Y1,U2,Y2,Y9,Z9,l9,o9,x9,J3,O3,Q3,U3,V3,X3,Y3,I4,J4,O4,Q4,U4,V4,X4,Y4,Z4,D5,E5,F5,G5,H5,I5,J5,O5,P5,Q5,U5,V5,X5,Y5,Z5,o5,y5,D6,F6,G6,H6,J6,L6,O6,P6,U6,V6,X6,Y6,o6,A7,D7,F7,G7,H7,I7,J7,N7,O7,P7,Q7,U7,V7,X7,Y7,Z7,l7,o7,y7,A8,D8,E8,F8,G8,H8,↓reduceIte,Nat.reduceEqDiff,I8,J8,L8,N8,O8,P8,Q8,U8,V8,X8,Y8,Z8,o8,y8,C9,D9,E9,F9,G9,H9,I9,J9,L9,N9,Nat.reduceAdd,y9,A_,B_,C_,D_,O9,P9,E_,F_]
      repeat refine S.seq ?_
      refine S.block ?_
      repeat refine S.seq ?_
      refine S.region ?_
      simp (disch := first | omega | (simp only [D8, I8] <;> omega) | decide) only [O0,U0,X0,Y0,O1,U1,Y1,U2,Y2,Y9,Z9,l9,o9,x9,J3,O3,Q3,U3,V3,X3,Y3,I4,J4,O4,Q4,U4,V4,X4,Y4,Z4,D5,E5,F5,G5,H5,I5,J5,O5,P5,Q5,U5,V5,X5,Y5,Z5,o5,y5,D6,F6,G6,H6,J6,L6,O6,P6,U6,V6,X6,Y6,o6,A7,D7,F7,G7,H7,I7,J7,N7,O7,P7,Q7,U7,V7,X7,Y7,Z7,l7,o7,y7,A8,D8,E8,F8,G8,H8,↓reduceIte,Nat.reduceEqDiff,I8,J8,L8,N8,O8,P8,Q8,U8,V8,X8,Y8,Z8,o8,y8,C9,D9,E9,F9,G9,H9,I9,J9,L9,N9,Nat.reduceAdd,y9,A_,B_,C_,D_,O9,P9,E_,F_,t8]
      repeat refine S.seq ?_
      refine S.region ?_
      simp (disch := first | omega | (simp only [D8, I8] <;> omega) | decide) only [O0,U0,X0,Y0,O1,U1,Y1,U2,Y2,Y9,Z9,l9,o9,x9,J3,O3,Q3,U3,V3,X3,Y3,I4,J4,O4,Q4,U4,V4,X4,Y4,Z4,D5,E5,F5,G5,H5,I5,J5,O5,P5,Q5,U5,V5,X5,Y5,Z5,o5,y5,D6,F6,G6,H6,J6,L6,O6,P6,U6,V6,X6,Y6,o6,A7,D7,F7,G7,H7,I7,J7,N7,O7,P7,Q7,U7,V7,X7,Y7,Z7,l7,o7,y7,A8,D8,E8,F8,G8,H8,↓reduceIte,Nat.reduceEqDiff,I8,J8,L8,N8,O8,P8,Q8,U8,V8,X8,Y8,Z8,o8,y8,C9,D9,E9,F9,G9,H9,I9,J9,L9,N9,Nat.reduceAdd,y9,A_,B_,C_,D_,O9,P9,E_,F_,t0,t1,t8,u1,u3,upart]
      refine wr_brings (fid := 70) (first := #[]) (captured := #[ptr0 Bf]) (Post := fun u _ => u = .bool (!(q p))) (by simp (disch := first | omega | (simp only [D8, I8] <;> omega) | decide) only [O0,U0,X0,Y0,O1,U1,Y1,U2,Y2,Y9,Z9,l9,o9,x9,J3,O3,Q3,U3,V3,X3,Y3,I4,J4,O4,Q4,U4,V4,X4,Y4,Z4,D5,E5,F5,G5,H5,I5,J5,O5,P5,Q5,U5,V5,X5,Y5,Z5,o5,y5,D6,F6,G6,H6,J6,L6,O6,P6,U6,V6,X6,Y6,o6,A7,D7,F7,G7,H7,I7,J7,N7,O7,P7,Q7,U7,V7,X7,Y7,Z7,l7,o7,y7,A8,D8,E8,F8,G8,H8,↓reduceIte,Nat.reduceEqDiff,I8,J8,L8,N8,O8,P8,Q8,U8,V8,X8,Y8,Z8,o8,y8,C9,D9,E9,F9,G9,H9,I9,J9,L9,N9,Nat.reduceAdd,y9,A_,B_,C_,D_,O9,P9,E_,F_,t1]) (hoff _ _ _ rfl) (by simp (disch := first | omega | (simp only [D8, I8] <;> omega) | decide) only [O0,U0,X0,Y0,O1,U1,Y1,U2,Y2,Y9,Z9,l9,o9,x9,J3,O3,Q3,U3,V3,X3,Y3,I4,J4,O4,Q4,U4,V4,X4,Y4,Z4,D5,E5,F5,G5,H5,I5,J5,O5,P5,Q5,U5,V5,X5,Y5,Z5,o5,y5,D6,F6,G6,H6,J6,L6,O6,P6,U6,V6,X6,Y6,o6,A7,D7,F7,G7,H7,I7,J7,N7,O7,P7,Q7,U7,V7,X7,Y7,Z7,l7,o7,y7,A8,D8,E8,F8,G8,H8,↓reduceIte,Nat.reduceEqDiff,I8,J8,L8,N8,O8,P8,Q8,U8,V8,X8,Y8,Z8,o8,y8,C9,D9,E9,F9,G9,H9,I9,J9,L9,N9,Nat.reduceAdd,y9,A_,B_,C_,D_,O9,P9,E_,F_]; exact clos78_y S hoff h Bf f ro G hG mv p (q p) (Nat.lt_of_lt_of_le hlt hkp.1) ((hkp.get hlt).trans hb) (fun h' hk' => hq h' (hkp.trans hk') p hmem)) ?_
      rintro u g hk2 rfl
      simp (disch := first | omega | (simp only [D8, I8] <;> omega) | decide) only [O0,U0,X0,Y0,O1,U1,Y1,U2,Y2,Y9,Z9,l9,o9,x9,J3,O3,Q3,U3,V3,X3,Y3,I4,J4,O4,Q4,U4,V4,X4,Y4,Z4,D5,E5,F5,G5,H5,I5,J5,O5,P5,Q5,U5,V5,X5,Y5,Z5,o5,y5,D6,F6,G6,H6,J6,L6,O6,P6,U6,V6,X6,Y6,o6,A7,D7,F7,G7,H7,I7,J7,N7,O7,P7,Q7,U7,V7,X7,Y7,Z7,l7,o7,y7,A8,D8,E8,F8,G8,H8,↓reduceIte,Nat.reduceEqDiff,I8,J8,L8,N8,O8,P8,Q8,U8,V8,X8,Y8,Z8,o8,y8,C9,D9,E9,F9,G9,H9,I9,J9,L9,N9,Nat.reduceAdd,y9,A_,B_,C_,D_,O9,P9,E_,F_]
      cases hqp : q p with
      | true =>
        rw [hqp, cond_true] at hfb
        repeat refine S.seq ?_
        refine S.cond (v := false) (by first | rfl | (simp (disch := first | omega | (simp only [D8, I8] <;> omega) | decide) only [O0,U0,X0,Y0,O1,U1,Y1,U2,Y2,Y9,Z9,l9,o9,x9,J3,O3,Q3,U3,V3,X3,Y3,I4,J4,O4,Q4,U4,V4,X4,Y4,Z4,D5,E5,F5,G5,H5,I5,J5,O5,P5,Q5,U5,V5,X5,Y5,Z5,o5,y5,D6,F6,G6,H6,J6,L6,O6,P6,U6,V6,X6,Y6,o6,A7,D7,F7,G7,H7,I7,J7,N7,O7,P7,Q7,U7,V7,X7,Y7,Z7,l7,o7,y7,A8,D8,E8,F8,G8,H8,↓reduceIte,Nat.reduceEqDiff,I8,J8,L8,N8,O8,P8,Q8,U8,V8,X8,Y8,Z8,o8,y8,C9,D9,E9,F9,G9,H9,I9,J9,L9,N9,Nat.reduceAdd,y9,A_,B_,C_,D_,O9,P9,E_,F_,hqp,Bool.not_true] <;> rfl)) (fun e => by cases e) (fun _ => ?_)
        repeat refine S.seq ?_
        refine S.skip ?_
        simp (disch := first | omega | (simp only [D8, I8] <;> omega) | decide) only [O0,U0,X0,Y0,O1,U1,Y1,U2,Y2,Y9,Z9,l9,o9,x9,J3,O3,Q3,U3,V3,X3,Y3,I4,J4,O4,Q4,U4,V4,X4,Y4,Z4,D5,E5,F5,G5,H5,I5,J5,O5,P5,Q5,U5,V5,X5,Y5,Z5,o5,y5,D6,F6,G6,H6,J6,L6,O6,P6,U6,V6,X6,Y6,o6,A7,D7,F7,G7,H7,I7,J7,N7,O7,P7,Q7,U7,V7,X7,Y7,Z7,l7,o7,y7,A8,D8,E8,F8,G8,H8,↓reduceIte,Nat.reduceEqDiff,I8,J8,L8,N8,O8,P8,Q8,U8,V8,X8,Y8,Z8,o8,y8,C9,D9,E9,F9,G9,H9,I9,J9,L9,N9,Nat.reduceAdd,y9,A_,B_,C_,D_,O9,P9,E_,F_]
        repeat refine S.seq ?_
        refine S.region ?_
        simp (disch := first | omega | (simp only [D8, I8] <;> omega) | decide) only [O0,U0,X0,Y0,O1,U1,Y1,U2,Y2,Y9,Z9,l9,o9,x9,J3,O3,Q3,U3,V3,X3,Y3,I4,J4,O4,Q4,U4,V4,X4,Y4,Z4,D5,E5,F5,G5,H5,I5,J5,O5,P5,Q5,U5,V5,X5,Y5,Z5,o5,y5,D6,F6,G6,H6,J6,L6,O6,P6,U6,V6,X6,Y6,o6,A7,D7,F7,G7,H7,I7,J7,N7,O7,P7,Q7,U7,V7,X7,Y7,Z7,l7,o7,y7,A8,D8,E8,F8,G8,H8,↓reduceIte,Nat.reduceEqDiff,I8,J8,L8,N8,O8,P8,Q8,U8,V8,X8,Y8,Z8,o8,y8,C9,D9,E9,F9,G9,H9,I9,J9,L9,N9,Nat.reduceAdd,y9,A_,B_,C_,D_,O9,P9,E_,F_,t8]
        refine hn (k + 1) _ _ (by omega) ⟨by omega, hfb, hkp.trans hk2, ?_, ?_, ?_, ?_⟩
        all_goals (first | rfl | (simp (disch := first | omega | (simp only [D8, I8] <;> omega) | decide) only [O0,U0,X0,Y0,O1,U1,Y1,U2,Y2,Y9,Z9,l9,o9,x9,J3,O3,Q3,U3,V3,X3,Y3,I4,J4,O4,Q4,U4,V4,X4,Y4,Z4,D5,E5,F5,G5,H5,I5,J5,O5,P5,Q5,U5,V5,X5,Y5,Z5,o5,y5,D6,F6,G6,H6,J6,L6,O6,P6,U6,V6,X6,Y6,o6,A7,D7,F7,G7,H7,I7,J7,N7,O7,P7,Q7,U7,V7,X7,Y7,Z7,l7,o7,y7,A8,D8,E8,F8,G8,H8,↓reduceIte,Nat.reduceEqDiff,I8,J8,L8,N8,O8,P8,Q8,U8,V8,X8,Y8,Z8,o8,y8,C9,D9,E9,F9,G9,H9,I9,J9,L9,N9,Nat.reduceAdd,y9,A_,B_,C_,D_,O9,P9,E_,F_,t0,t1,t7,t8]; done) | (simp (disch := first | omega | (simp only [D8, I8] <;> omega) | decide) only [O0,U0,X0,Y0,O1,U1,Y1,U2,Y2,Y9,Z9,l9,o9,x9,J3,O3,Q3,U3,V3,X3,Y3,I4,J4,O4,Q4,U4,V4,X4,Y4,Z4,D5,E5,F5,G5,H5,I5,J5,O5,P5,Q5,U5,V5,X5,Y5,Z5,o5,y5,D6,F6,G6,H6,J6,L6,O6,P6,U6,V6,X6,Y6,o6,A7,D7,F7,G7,H7,I7,J7,N7,O7,P7,Q7,U7,V7,X7,Y7,Z7,l7,o7,y7,A8,D8,E8,F8,G8,H8,↓reduceIte,Nat.reduceEqDiff,I8,J8,L8,N8,O8,P8,Q8,U8,V8,X8,Y8,Z8,o8,y8,C9,D9,E9,F9,G9,H9,I9,J9,L9,N9,Nat.reduceAdd,y9,A_,B_,C_,D_,O9,P9,E_,F_,t0,t1,t7,t8]; rfl))
      | false =>
        rw [hqp, cond_false] at hfb
        repeat refine S.seq ?_
        refine S.cond (v := true) (by first | rfl | (simp (disch := first | omega | (simp only [D8, I8] <;> omega) | decide) only [O0,U0,X0,Y0,O1,U1,Y1,U2,Y2,Y9,Z9,l9,o9,x9,J3,O3,Q3,U3,V3,X3,Y3,I4,J4,O4,Q4,U4,V4,X4,Y4,Z4,D5,E5,F5,G5,H5,I5,J5,O5,P5,Q5,U5,V5,X5,Y5,Z5,o5,y5,D6,F6,G6,H6,J6,L6,O6,P6,U6,V6,X6,Y6,o6,A7,D7,F7,G7,H7,I7,J7,N7,O7,P7,Q7,U7,V7,X7,Y7,Z7,l7,o7,y7,A8,D8,E8,F8,G8,H8,↓reduceIte,Nat.reduceEqDiff,I8,J8,L8,N8,O8,P8,Q8,U8,V8,X8,Y8,Z8,o8,y8,C9,D9,E9,F9,G9,H9,I9,J9,L9,N9,Nat.reduceAdd,y9,A_,B_,C_,D_,O9,P9,E_,F_,hqp,Bool.not_false] <;> rfl)) (fun _ => ?_) (fun e => by cases e)
        repeat refine S.seq ?_
        refine S.region ?_
        simp (disch := first | omega | (simp only [D8, I8] <;> omega) | decide) only [O0,U0,X0,Y0,O1,U1,Y1,U2,Y2,Y9,Z9,l9,o9,x9,J3,O3,Q3,U3,V3,X3,Y3,I4,J4,O4,Q4,U4,V4,X4,Y4,Z4,D5,E5,F5,G5,H5,I5,J5,O5,P5,Q5,U5,V5,X5,Y5,Z5,o5,y5,D6,F6,G6,H6,J6,L6,O6,P6,U6,V6,X6,Y6,o6,A7,D7,F7,G7,H7,I7,J7,N7,O7,P7,Q7,U7,V7,X7,Y7,Z7,l7,o7,y7,A8,D8,E8,F8,G8,H8,↓reduceIte,Nat.reduceEqDiff,I8,J8,L8,N8,O8,P8,Q8,U8,V8,X8,Y8,Z8,o8,y8,C9,D9,E9,F9,G9,H9,I9,J9,L9,N9,Nat.reduceAdd,y9,A_,B_,C_,D_,O9,P9,E_,F_,t8]
        refine S.ret ?_
        simp only [Q4, V4]
        refine he _ _ _ _ (fun e => by cases e) ?_
        simp only [Q4, V4]
        subst hF
        simp only [finish, endMarks]
        rw [show Tryz.f90.results.toList = [.tmp 4] from rfl]
        simp (disch := omega) only [resA, o5, J6, H6, result1]
        exact hK _ _ (hkp.trans hk2) (by rw [hfb])
    · have hkn : k = ps.length := by have := of_decide_eq_false e; omega
      subst hkn
      rw [List.drop_of_length_le (Nat.le_refl _)] at hfb
      refine S.exit (he _ _ _ _ (fun e => by cases e) ?_)
      simp (disch := first | omega | (simp only [D8, I8] <;> omega) | decide) only [O0,U0,X0,Y0,O1,U1,Y1,U2,Y2,Y9,Z9,l9,o9,x9,J3,O3,Q3,U3,V3,X3,Y3,I4,J4,O4,Q4,U4,V4,X4,Y4,Z4,D5,E5,F5,G5,H5,I5,J5,O5,P5,Q5,U5,V5,X5,Y5,Z5,o5,y5,D6,F6,G6,H6,J6,L6,O6,P6,U6,V6,X6,Y6,o6,A7,D7,F7,G7,H7,I7,J7,N7,O7,P7,Q7,U7,V7,X7,Y7,Z7,l7,o7,y7,A8,D8,E8,F8,G8,H8,↓reduceIte,Nat.reduceEqDiff,I8,J8,L8,N8,O8,P8,Q8,U8,V8,X8,Y8,Z8,o8,y8,C9,D9,E9,F9,G9,H9,I9,J9,L9,N9,Nat.reduceAdd,y9,A_,B_,C_,D_,O9,P9,E_,F_]
      repeat refine S.seq ?_
      refine S.region ?_
      simp (disch := first | omega | (simp only [D8, I8] <;> omega) | decide) only [O0,U0,X0,Y0,O1,U1,Y1,U2,Y2,Y9,Z9,l9,o9,x9,J3,O3,Q3,U3,V3,X3,Y3,I4,J4,O4,Q4,U4,V4,X4,Y4,Z4,D5,E5,F5,G5,H5,I5,J5,O5,P5,Q5,U5,V5,X5,Y5,Z5,o5,y5,D6,F6,G6,H6,J6,L6,O6,P6,U6,V6,X6,Y6,o6,A7,D7,F7,G7,H7,I7,J7,N7,O7,P7,Q7,U7,V7,X7,Y7,Z7,l7,o7,y7,A8,D8,E8,F8,G8,H8,↓reduceIte,Nat.reduceEqDiff,I8,J8,L8,N8,O8,P8,Q8,U8,V8,X8,Y8,Z8,o8,y8,C9,D9,E9,F9,G9,H9,I9,J9,L9,N9,Nat.reduceAdd,y9,A_,B_,C_,D_,O9,P9,E_,F_]
      refine S.ret ?_
      try simp only [Q4, V4]
      subst hF
      simp only [finish, endMarks]
      rw [show Tryz.f90.results.toList = [.tmp 4] from rfl]
      simp (disch := first | omega | (simp only [D8, I8] <;> omega) | decide) only [resA, o5, J6, H6, O6, L6, L8, N8, E8, F8, result1]
      exact hK _ _ hkp (by rw [hfb]; rfl)
  · refine ⟨Nat.zero_le _, rfl, Kp.refl, ?_, ?_, ?_, ?_⟩
    all_goals (first | rfl | (simp (disch := first | omega | (simp only [D8, I8] <;> omega) | decide) only [O0,U0,X0,Y0,O1,U1,Y1,U2,Y2,Y9,Z9,l9,o9,x9,J3,O3,Q3,U3,V3,X3,Y3,I4,J4,O4,Q4,U4,V4,X4,Y4,Z4,D5,E5,F5,G5,H5,I5,J5,O5,P5,Q5,U5,V5,X5,Y5,Z5,o5,y5,D6,F6,G6,H6,J6,L6,O6,P6,U6,V6,X6,Y6,o6,A7,D7,F7,G7,H7,I7,J7,N7,O7,P7,Q7,U7,V7,X7,Y7,Z7,l7,o7,y7,A8,D8,E8,F8,G8,H8,↓reduceIte,Nat.reduceEqDiff,I8,J8,L8,N8,O8,P8,Q8,U8,V8,X8,Y8,Z8,o8,y8,C9,D9,E9,F9,G9,H9,I9,J9,L9,N9,Nat.reduceAdd,y9,A_,B_,C_,D_,O9,P9,E_,F_]; done) | (simp (disch := first | omega | (simp only [D8, I8] <;> omega) | decide) only [O0,U0,X0,Y0,O1,U1,Y1,U2,Y2,Y9,Z9,l9,o9,x9,J3,O3,Q3,U3,V3,X3,Y3,I4,J4,O4,Q4,U4,V4,X4,Y4,Z4,D5,E5,F5,G5,H5,I5,J5,O5,P5,Q5,U5,V5,X5,Y5,Z5,o5,y5,D6,F6,G6,H6,J6,L6,O6,P6,U6,V6,X6,Y6,o6,A7,D7,F7,G7,H7,I7,J7,N7,O7,P7,Q7,U7,V7,X7,Y7,Z7,l7,o7,y7,A8,D8,E8,F8,G8,H8,↓reduceIte,Nat.reduceEqDiff,I8,J8,L8,N8,O8,P8,Q8,U8,V8,X8,Y8,Z8,o8,y8,C9,D9,E9,F9,G9,H9,I9,J9,L9,N9,Nat.reduceAdd,y9,A_,B_,C_,D_,O9,P9,E_,F_]; rfl))

set_option maxHeartbeats 4000000 in
theorem all78_y (S : Ev.Steps Tryz.prog pr R) (hoff : Off pr) (h0 : AHeap) (sv : Value) (ps : Prs) (hc : SlAt h0 2 sv (ps.map pc)) (hsz : (ps.length : Int) ≤ 1000000) (G : FuncId) (hG : offB G = true) (mv : Value) (q : Int × Int → Bool)
    (hq : ∀ h', Kp h0 h' → ∀ p, p ∈ ps → Brings Tryz.prog R G [mv, .agg ⟨pc p⟩] h' fun u _ => u = .bool (q p)) :
    Brings Tryz.prog R 49 [sv, .func (.func G) #[mv] #[]] h0 fun u _ => u = .bool (ps.all q) := by
  refine brings_of (fn := Tryz.f49) (c := (Tryz.f49.body).getD .skip) (by kernel_rfl) rfl (by kernel_rfl) rfl (fun K hK => ?_)
  generalize hF : finish Tryz.prog Tryz.f49 K = KF
  simp only [Tryz.f49, Option.getD_some, argsT, setArgs, fV1_eq, T.setK_eq, id]
  repeat refine S.seq ?_
  refine S.region ?_
  simp (disch := first | omega | (simp only [D8, I8] <;> omega) | decide) only [O0,U0,X0,Y0,O1,U1,Y1,U2,Y2,Y9,Z9,l9,o9,x9,J3,O3,Q3,U3,V3,X3,Y3,I4,J4,O4,Q4,U4,V4,X4,Y4,Z4,D5,E5,F5,G5,H5,I5,J5,O5,P5,Q5,U5,V5,X5,Y5,Z5,o5,y5,D6,F6,G6,H6,J6,L6,O6,P6,U6,V6,X6,Y6,o6,A7,D7,F7,G7,H7,I7,J7,N7,O7,P7,Q7,U7,V7,X7,Y7,Z7,l7,o7,y7,A8,D8,E8,F8,G8,H8,↓reduceIte,Nat.reduceEqDiff,I8,J8,L8,N8,O8,P8,Q8,U8,V8,X8,Y8,Z8,o8,y8,C9,D9,E9,F9,G9,H9,I9,J9,L9,N9,Nat.reduceAdd,y9,A_,B_,C_,D_,O9,P9,E_,F_]
  repeat refine S.seq ?_
  refine S.region ?_
  simp (disch := first | omega | (simp only [D8, I8] <;> omega) | decide) only [O0,U0,X0,Y0,O1,U1,Y1,U2,Y2,Y9,Z9,l9,o9,x9,J3,O3,Q3,U3,V3,X3,Y3,I4,J4,O4,Q4,U4,V4,X4,Y4,Z4,D5,E5,F5,G5,H5,I5,J5,O5,P5,Q5,U5,V5,X5,Y5,Z5,o5,y5,D6,F6,G6,H6,J6,L6,O6,P6,U6,V6,X6,Y6,o6,A7,D7,F7,G7,H7,I7,J7,N7,O7,P7,Q7,U7,V7,X7,Y7,Z7,l7,o7,y7,A8,D8,E8,F8,G8,H8,↓reduceIte,Nat.reduceEqDiff,I8,J8,L8,N8,O8,P8,Q8,U8,V8,X8,Y8,Z8,o8,y8,C9,D9,E9,F9,G9,H9,I9,J9,L9,N9,Nat.reduceAdd,y9,A_,B_,C_,D_,O9,P9,E_,F_]
  have hidx := idx78_y S hoff (h0.add [.func (.func G) #[mv] #[]]) sv ps (hc.mono Kp.refl.add) hsz h0.nx h0.nx false G hG mv q (Nat.lt_succ_self _) (E8 rfl) (fun h' hk => hq h' (Kp.refl.add.trans hk))
  have hcf : Brings Tryz.prog R 69 [sv, .func (.func 70) #[] #[ptr0 h0.nx]] (h0.add [.func (.func G) #[mv] #[]]) fun u _ => u = .bool (!(ps.all q)) := by
    clear hK hF K KF
    refine brings_of (fn := Tryz.f69) (c := (Tryz.f69.body).getD .skip) (by kernel_rfl) rfl (by kernel_rfl) rfl (fun K hK => ?_)
    generalize hF : finish Tryz.prog Tryz.f69 K = KF
    simp only [Tryz.f69, Option.getD_some, argsT, setArgs, fV1_eq, T.setK_eq, id]
    repeat refine S.seq ?_
    refine S.region ?_
    simp (disch := first | omega | (simp only [D8, I8] <;> omega) | decide) only [O0,U0,X0,Y0,O1,U1,Y1,U2,Y2,Y9,Z9,l9,o9,x9,J3,O3,Q3,U3,V3,X3,Y3,I4,J4,O4,Q4,U4,V4,X4,Y4,Z4,D5,E5,F5,G5,H5,I5,J5,O5,P5,Q5,U5,V5,X5,Y5,Z5,o5,y5,D6,F6,G6,H6,J6,L6,O6,P6,U6,V6,X6,Y6,o6,A7,D7,F7,G7,H7,I7,J7,N7,O7,P7,Q7,U7,V7,X7,Y7,Z7,l7,o7,y7,A8,D8,E8,F8,G8,H8,↓reduceIte,Nat.reduceEqDiff,I8,J8,L8,N8,O8,P8,Q8,U8,V8,X8,Y8,Z8,o8,y8,C9,D9,E9,F9,G9,H9,I9,J9,L9,N9,Nat.reduceAdd,y9,A_,B_,C_,D_,O9,P9,E_,F_]
    repeat refine S.seq ?_
    refine S.region ?_
    simp (disch := first | omega | (simp only [D8, I8] <;> omega) | decide) only [O0,U0,X0,Y0,O1,U1,Y1,U2,Y2,Y9,Z9,l9,o9,x9,J3,O3,Q3,U3,V3,X3,Y3,I4,J4,O4,Q4,U4,V4,X4,Y4,Z4,D5,E5,F5,G5,H5,I5,J5,O5,P5,Q5,U5,V5,X5,Y5,Z5,o5,y5,D6,F6,G6,H6,J6,L6,O6,P6,U6,V6,X6,Y6,o6,A7,D7,F7,G7,H7,I7,J7,N7,O7,P7,Q7,U7,V7,X7,Y7,Z7,l7,o7,y7,A8,D8,E8,F8,G8,H8,↓reduceIte,Nat.reduceEqDiff,I8,J8,L8,N8,O8,P8,Q8,U8,V8,X8,Y8,Z8,o8,y8,C9,D9,E9,F9,G9,H9,I9,J9,L9,N9,Nat.reduceAdd,y9,A_,B_,C_,D_,O9,P9,E_,F_]
    refine wr_brings (fid := 90) (first := #[]) (captured := #[]) (Post := fun u _ => u = .int .i64 (firstBad q ps 0)) rfl (hoff _ _ _ rfl) (by simp (disch := first | omega | (simp only [D8, I8] <;> omega) | decide) only [O0,U0,X0,Y0,O1,U1,Y1,U2,Y2,Y9,Z9,l9,o9,x9,J3,O3,Q3,U3,V3,X3,Y3,I4,J4,O4,Q4,U4,V4,X4,Y4,Z4,D5,E5,F5,G5,H5,I5,J5,O5,P5,Q5,U5,V5,X5,Y5,Z5,o5,y5,D6,F6,G6,H6,J6,L6,O6,P6,U6,V6,X6,Y6,o6,A7,D7,F7,G7,H7,I7,J7,N7,O7,P7,Q7,U7,V7,X7,Y7,Z7,l7,o7,y7,A8,D8,E8,F8,G8,H8,↓reduceIte,Nat.reduceEqDiff,I8,J8,L8,N8,O8,P8,Q8,U8,V8,X8,Y8,Z8,o8,y8,C9,D9,E9,F9,G9,H9,I9,J9,L9,N9,Nat.reduceAdd,y9,A_,B_,C_,D_,O9,P9,E_,F_]; exact hidx) ?_
    rintro u g hk rfl
    simp (disch := first | omega | (simp only [D8, I8] <;> omega) | decide) only [O0,U0,X0,Y0,O1,U1,Y1,U2,Y2,Y9,Z9,l9,o9,x9,J3,O3,Q3,U3,V3,X3,Y3,I4,J4,O4,Q4,U4,V4,X4,Y4,Z4,D5,E5,F5,G5,H5,I5,J5,O5,P5,Q5,U5,V5,X5,Y5,Z5,o5,y5,D6,F6,G6,H6,J6,L6,O6,P6,U6,V6,X6,Y6,o6,A7,D7,F7,G7,H7,I7,J7,N7,O7,P7,Q7,U7,V7,X7,Y7,Z7,l7,o7,y7,A8,D8,E8,F8,G8,H8,↓reduceIte,Nat.reduceEqDiff,I8,J8,L8,N8,O8,P8,Q8,U8,V8,X8,Y8,Z8,o8,y8,C9,D9,E9,F9,G9,H9,I9,J9,L9,N9,Nat.reduceAdd,y9,A_,B_,C_,D_,O9,P9,E_,F_,firstBad_ge q ps 0 (Int.le_refl _)]
    refine S.ret ?_
    try simp only [Q4, V4]
    subst hF
    simp only [finish, endMarks]
    rw [show Tryz.f69.results.toList = [.tmp 4] from rfl]
    simp (disch := first | omega | (simp only [D8, I8] <;> omega) | decide) only [resA, o5, J6, H6, O6, L6, L8, N8, E8, F8, result1]
    exact hK _ _ hk rfl
  refine wr_brings (fid := 69) (first := #[]) (captured := #[]) (Post := fun u _ => u = .bool (!(ps.all q))) rfl (hoff _ _ _ rfl) (by simp (disch := first | omega | (simp only [D8, I8] <;> omega) | decide) only [O0,U0,X0,Y0,O1,U1,Y1,U2,Y2,Y9,Z9,l9,o9,x9,J3,O3,Q3,U3,V3,X3,Y3,I4,J4,O4,Q4,U4,V4,X4,Y4,Z4,D5,E5,F5,G5,H5,I5,J5,O5,P5,Q5,U5,V5,X5,Y5,Z5,o5,y5,D6,F6,G6,H6,J6,L6,O6,P6,U6,V6,X6,Y6,o6,A7,D7,F7,G7,H7,I7,J7,N7,O7,P7,Q7,U7,V7,X7,Y7,Z7,l7,o7,y7,A8,D8,E8,F8,G8,H8,↓reduceIte,Nat.reduceEqDiff,I8,J8,L8,N8,O8,P8,Q8,U8,V8,X8,Y8,Z8,o8,y8,C9,D9,E9,F9,G9,H9,I9,J9,L9,N9,Nat.reduceAdd,y9,A_,B_,C_,D_,O9,P9,E_,F_]; exact hcf) ?_
  rintro u g hk rfl
  simp (disch := first | omega | (simp only [D8, I8] <;> omega) | decide) only [O0,U0,X0,Y0,O1,U1,Y1,U2,Y2,Y9,Z9,l9,o9,x9,J3,O3,Q3,U3,V3,X3,Y3,I4,J4,O4,Q4,U4,V4,X4,Y4,Z4,D5,E5,F5,G5,H5,I5,J5,O5,P5,Q5,U5,V5,X5,Y5,Z5,o5,y5,D6,F6,G6,H6,J6,L6,O6,P6,U6,V6,X6,Y6,o6,A7,D7,F7,G7,H7,I7,J7,N7,O7,P7,Q7,U7,V7,X7,Y7,Z7,l7,o7,y7,A8,D8,E8,F8,G8,H8,↓reduceIte,Nat.reduceEqDiff,I8,J8,L8,N8,O8,P8,Q8,U8,V8,X8,Y8,Z8,o8,y8,C9,D9,E9,F9,G9,H9,I9,J9,L9,N9,Nat.reduceAdd,y9,A_,B_,C_,D_,O9,P9,E_,F_,V7,Bool.not_not]
  refine S.ret ?_
  try simp only [Q4, V4]
  subst hF
  simp only [finish, endMarks]
  rw [show Tryz.f49.results.toList = [.tmp 4] from rfl]
  simp (disch := first | omega | (simp only [D8, I8] <;> omega) | decide) only [resA, o5, J6, H6, O6, L6, L8, N8, E8, F8, result1]
  exact hK _ _ (Kp.refl.add.trans hk) rfl

/-! ## Few pairs, and a range -/
set_option maxHeartbeats 4000000 in
theorem few_y (S : Ev.Steps Tryz.prog pr R) (h0 : AHeap) (sv : Value) (ps : Prs) (hc : SlAt h0 2 sv (ps.map pc)) : Brings Tryz.prog R 28 [sv] h0 fun u _ => u = .bool (few ps) := by
  refine brings_of (fn := Tryz.f28) (c := (Tryz.f28.body).getD .skip) (by kernel_rfl) rfl (by kernel_rfl) rfl (fun K hK => ?_)
  generalize hF : finish Tryz.prog Tryz.f28 K = KF
  simp only [Tryz.f28, Option.getD_some, argsT, setArgs, fV1_eq, T.setK_eq, id]
  have hlen := fun t h1 o => hc.len (P := Tryz.prog) is74 (t := t) h1 o
  repeat refine S.seq ?_
  refine S.region ?_
  simp (disch := first | omega | (simp only [D8, I8] <;> omega) | decide) only [O0,U0,X0,Y0,O1,U1,Y1,U2,Y2,Y9,Z9,l9,o9,x9,J3,O3,Q3,U3,V3,X3,Y3,I4,J4,O4,Q4,U4,V4,X4,Y4,Z4,D5,E5,F5,G5,H5,I5,J5,O5,P5,Q5,U5,V5,X5,Y5,Z5,o5,y5,D6,F6,G6,H6,J6,L6,O6,P6,U6,V6,X6,Y6,o6,A7,D7,F7,G7,H7,I7,J7,N7,O7,P7,Q7,U7,V7,X7,Y7,Z7,l7,o7,y7,A8,D8,E8,F8,G8,H8,↓reduceIte,Nat.reduceEqDiff,I8,J8,L8,N8,O8,P8,Q8,U8,V8,X8,Y8,Z8,o8,y8,C9,D9,E9,F9,G9,H9,I9,J9,L9,N9,Nat.reduceAdd,y9,A_,B_,C_,D_,O9,P9,E_,F_]
  repeat refine S.seq ?_
  refine S.region ?_
  simp (disch := first | omega | (simp only [D8, I8] <;> omega) | decide) only [O0,U0,X0,Y0,O1,U1,Y1,U2,Y2,Y9,Z9,l9,o9,x9,J3,O3,Q3,U3,V3,X3,Y3,I4,J4,O4,Q4,U4,V4,X4,Y4,Z4,D5,E5,F5,G5,H5,I5,J5,O5,P5,Q5,U5,V5,X5,Y5,Z5,o5,y5,D6,F6,G6,H6,J6,L6,O6,P6,U6,V6,X6,Y6,o6,A7,D7,F7,G7,H7,I7,J7,N7,O7,P7,Q7,U7,V7,X7,Y7,Z7,l7,o7,y7,A8,D8,E8,F8,G8,H8,↓reduceIte,Nat.reduceEqDiff,I8,J8,L8,N8,O8,P8,Q8,U8,V8,X8,Y8,Z8,o8,y8,C9,D9,E9,F9,G9,H9,I9,J9,L9,N9,Nat.reduceAdd,y9,A_,B_,C_,D_,O9,P9,E_,F_,hlen,List.length_map]
  refine S.ret ?_
  try simp only [Q4, V4]
  subst hF
  simp only [finish, endMarks]
  rw [show Tryz.f28.results.toList = [.tmp 2] from rfl]
  simp (disch := first | omega | (simp only [D8, I8] <;> omega) | decide) only [resA, o5, J6, H6, O6, L6, L8, N8, E8, F8, result1]
  exact hK _ _ Kp.refl rfl

theorem hr0 : fieldOf Tryz.prog 58 0 = some (0, 3) := by kernel_rfl
theorem hr1 : fieldOf Tryz.prog 58 1 = some (1, 3) := by kernel_rfl
set_option maxHeartbeats 4000000 in
theorem has_y (S : Ev.Steps Tryz.prog pr R) (h0 : AHeap) (lo hi i : Int) : Brings Tryz.prog R 25 [.agg ⟨[.int .i64 lo, .int .i64 hi]⟩, .int .i64 i] h0 fun u _ => u = .bool (inB i lo hi) := by
  refine brings_of (fn := Tryz.f25) (c := (Tryz.f25.body).getD .skip) (by kernel_rfl) rfl (by kernel_rfl) rfl (fun K hK => ?_)
  generalize hF : finish Tryz.prog Tryz.f25 K = KF
  simp only [Tryz.f25, Option.getD_some, argsT, setArgs, fV1_eq, T.setK_eq, id]
  unfold inB at hK
  repeat refine S.seq ?_
  refine S.region ?_
  simp (disch := first | omega | (simp only [D8, I8] <;> omega) | decide) only [O0,U0,X0,Y0,O1,U1,Y1,U2,Y2,Y9,Z9,l9,o9,x9,J3,O3,Q3,U3,V3,X3,Y3,I4,J4,O4,Q4,U4,V4,X4,Y4,Z4,D5,E5,F5,G5,H5,I5,J5,O5,P5,Q5,U5,V5,X5,Y5,Z5,o5,y5,D6,F6,G6,H6,J6,L6,O6,P6,U6,V6,X6,Y6,o6,A7,D7,F7,G7,H7,I7,J7,N7,O7,P7,Q7,U7,V7,X7,Y7,Z7,l7,o7,y7,A8,D8,E8,F8,G8,H8,↓reduceIte,Nat.reduceEqDiff,I8,J8,L8,N8,O8,P8,Q8,U8,V8,X8,Y8,Z8,o8,y8,C9,D9,E9,F9,G9,H9,I9,J9,L9,N9,Nat.reduceAdd,y9,A_,B_,C_,D_,O9,P9,E_,F_]
  by_cases h1 : lo ≤ i
  · have hd : decide (lo ≤ i) = true := decide_eq_true h1
    rw [hd, Bool.true_and] at hK
    repeat refine S.seq ?_
    refine S.region ?_
    simp (disch := first | omega | (simp only [D8, I8] <;> omega) | decide) only [O0,U0,X0,Y0,O1,U1,Y1,U2,Y2,Y9,Z9,l9,o9,x9,J3,O3,Q3,U3,V3,X3,Y3,I4,J4,O4,Q4,U4,V4,X4,Y4,Z4,D5,E5,F5,G5,H5,I5,J5,O5,P5,Q5,U5,V5,X5,Y5,Z5,o5,y5,D6,F6,G6,H6,J6,L6,O6,P6,U6,V6,X6,Y6,o6,A7,D7,F7,G7,H7,I7,J7,N7,O7,P7,Q7,U7,V7,X7,Y7,Z7,l7,o7,y7,A8,D8,E8,F8,G8,H8,↓reduceIte,Nat.reduceEqDiff,I8,J8,L8,N8,O8,P8,Q8,U8,V8,X8,Y8,Z8,o8,y8,C9,D9,E9,F9,G9,H9,I9,J9,L9,N9,Nat.reduceAdd,y9,A_,B_,C_,D_,O9,P9,E_,F_,fieldAddr_ptr hr0 s3,fieldAddr_ptr hr1 s3,p3,hd]
    refine S.ret ?_
    try simp only [Q4, V4]
    subst hF
    simp only [finish, endMarks]
    rw [show Tryz.f25.results.toList = [.tmp 4] from rfl]
    simp (disch := first | omega | (simp only [D8, I8] <;> omega) | decide) only [resA, o5, J6, H6, O6, L6, L8, N8, E8, F8, result1]
    exact hK _ _ Kp.refl.add rfl
  · have hd : decide (lo ≤ i) = false := decide_eq_false h1
    rw [hd, Bool.false_and] at hK
    repeat refine S.seq ?_
    refine S.region ?_
    simp (disch := first | omega | (simp only [D8, I8] <;> omega) | decide) only [O0,U0,X0,Y0,O1,U1,Y1,U2,Y2,Y9,Z9,l9,o9,x9,J3,O3,Q3,U3,V3,X3,Y3,I4,J4,O4,Q4,U4,V4,X4,Y4,Z4,D5,E5,F5,G5,H5,I5,J5,O5,P5,Q5,U5,V5,X5,Y5,Z5,o5,y5,D6,F6,G6,H6,J6,L6,O6,P6,U6,V6,X6,Y6,o6,A7,D7,F7,G7,H7,I7,J7,N7,O7,P7,Q7,U7,V7,X7,Y7,Z7,l7,o7,y7,A8,D8,E8,F8,G8,H8,↓reduceIte,Nat.reduceEqDiff,I8,J8,L8,N8,O8,P8,Q8,U8,V8,X8,Y8,Z8,o8,y8,C9,D9,E9,F9,G9,H9,I9,J9,L9,N9,Nat.reduceAdd,y9,A_,B_,C_,D_,O9,P9,E_,F_,fieldAddr_ptr hr0 s3,fieldAddr_ptr hr1 s3,p3,hd]
    refine S.ret ?_
    try simp only [Q4, V4]
    subst hF
    simp only [finish, endMarks]
    rw [show Tryz.f25.results.toList = [.tmp 4] from rfl]
    simp (disch := first | omega | (simp only [D8, I8] <;> omega) | decide) only [resA, o5, J6, H6, O6, L6, L8, N8, E8, F8, result1]
    exact hK _ _ Kp.refl.add rfl
end Go.Proofs.Hs
