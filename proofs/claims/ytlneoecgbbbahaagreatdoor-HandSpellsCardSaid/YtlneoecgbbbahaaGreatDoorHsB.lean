import Derived.Test.YtlneoecgbbbahaaGreatDoorHsA
namespace Go.Proofs.Hs
open Go Go.Ev
set_option linter.unusedSimpArgs false

theorem st9 : isStrTy Tryz.prog 9 = true := by kernel_rfl
theorem u5 : Tryz.prog.underlying 5 = some (.int .u8) := by kernel_rfl
theorem u3 : Tryz.prog.underlying 3 = some (.int .i64) := by kernel_rfl
theorem nd53 : isDig Tryz.prog 5 3 = false := by kernel_rfl
theorem nd35 : isDig Tryz.prog 3 5 = false := by kernel_rfl
theorem conv53 {t : T Value} {h : AHeap} {o : Oper} (b : UInt8) : rConv Tryz.prog t h o 5 3 (.int .u8 (b.toNat : Int)) = some (.int .i64 (b.toNat : Int)) := by
  show rConvInt Tryz.prog t o 5 3 (b.toNat : Int) = _
  simp only [rConvInt, u5, u3]
  have := b.toNat_lt
  rw [wrap64 _ (by omega) (by omega)]

def dig (b : UInt8) : Bool := inB (b.toNat : Int) 48 57
def nDig : List UInt8 → Nat
  | [] => 0
  | b :: r => bif dig b then nDig r + 1 else 0
theorem nDig_le : ∀ s : List UInt8, nDig s ≤ s.length
  | [] => Nat.le_refl _
  | b :: r => by
    have := nDig_le r
    simp only [nDig, List.length_cons]
    cases dig b <;> simp <;> omega
def shapeL (s : List UInt8) : Int × Bool × Bool :=
  bif inB (nDig s : Int) 1 4 then
    (bif decide ((nDig s : Int) = (s.length : Int)) then ((nDig s : Int), false, true)
     else ((nDig s : Int), true, decide ((s.length : Int) = (nDig s : Int) + 2) && (decide (((s[nDig s]?.getD 0).toNat : Int) = 47) && dig (s[nDig s + 1]?.getD 0))))
  else (0, false, false)
def shapeV (x : Int × Bool × Bool) : Value := .tuple #[.int .i64 x.1, .bool x.2.1, .bool x.2.2]

def IS (s : List UInt8) (H : AHeap) (k : Nat) (t : T Value) (h : AHeap) : Prop :=
  k ≤ s.length ∧ nDig s = k + nDig (s.drop k) ∧ h = H ∧ tget t 0 = .string ⟨⟨s⟩⟩ ∧ tget t 5 = .int .i64 (k : Int)

variable {pr : Prim} {R : ExT}
set_option maxHeartbeats 8000000 in
theorem shape_y (S : Ev.Steps Tryz.prog pr R) (hoff : Off pr) (h0 : AHeap) (s : List UInt8) (hs : s.length ≤ 9) :
    Brings Tryz.prog R 31 [.string ⟨⟨s⟩⟩] h0 fun u h => u = shapeV (shapeL s) ∧ h = h0 := by
  refine brings_of (fn := Tryz.f31) (c := (Tryz.f31.body).getD .skip) (by kernel_rfl) rfl (by kernel_rfl) rfl (fun K hK => ?_)
  generalize hF : finish Tryz.prog Tryz.f31 K = KF
  simp only [Tryz.f31, Option.getD_some, argsT, setArgs, fV1_eq, T.setK_eq, id]
  have hls : ∀ (t : T Value) (h1 : AHeap) (o : Oper), rLen Tryz.prog t h1 o 9 (.string ⟨⟨s⟩⟩) = some (.int .i64 (s.length : Int)) := fun t h1 o => len_str st9
  have hKr : ∀ x : Int × Bool × Bool, shapeL s = x → K (.tuple #[.int .i64 x.1, .bool x.2.1, .bool x.2.2]) h0 = true := fun x e => hK _ _ Kp.refl ⟨by rw [e]; rfl, rfl⟩
  clear hK
  repeat refine S.seq ?_
  refine S.region ?_
  simp (disch := first | omega | (simp only [D8, I8] <;> omega) | decide) only [O0,U0,X0,Y0,O1,U1,Y1,U2,Y2,Y9,Z9,l9,o9,x9,J3,O3,Q3,U3,V3,X3,Y3,I4,J4,O4,Q4,U4,V4,X4,Y4,Z4,D5,E5,F5,G5,H5,I5,J5,O5,P5,Q5,U5,V5,X5,Y5,Z5,o5,y5,D6,F6,G6,H6,J6,L6,O6,P6,U6,V6,X6,Y6,o6,A7,D7,F7,G7,H7,I7,J7,N7,O7,P7,Q7,U7,V7,X7,Y7,Z7,l7,o7,y7,A8,D8,E8,F8,G8,H8,↓reduceIte,Nat.reduceEqDiff,I8,J8,L8,N8,O8,P8,Q8,U8,V8,X8,Y8,Z8,o8,y8,C9,D9,E9,F9,G9,H9,I9,J9,L9,N9,Nat.reduceAdd,y9,A_,B_,C_,D_,O9,P9,E_,F_]
  repeat refine S.seq ?_
  refine S.region ?_
  simp (disch := first | omega | (simp only [D8, I8] <;> omega) | decide) only [O0,U0,X0,Y0,O1,U1,Y1,U2,Y2,Y9,Z9,l9,o9,x9,J3,O3,Q3,U3,V3,X3,Y3,I4,J4,O4,Q4,U4,V4,X4,Y4,Z4,D5,E5,F5,G5,H5,I5,J5,O5,P5,Q5,U5,V5,X5,Y5,Z5,o5,y5,D6,F6,G6,H6,J6,L6,O6,P6,U6,V6,X6,Y6,o6,A7,D7,F7,G7,H7,I7,J7,N7,O7,P7,Q7,U7,V7,X7,Y7,Z7,l7,o7,y7,A8,D8,E8,F8,G8,H8,↓reduceIte,Nat.reduceEqDiff,I8,J8,L8,N8,O8,P8,Q8,U8,V8,X8,Y8,Z8,o8,y8,C9,D9,E9,F9,G9,H9,I9,J9,L9,N9,Nat.reduceAdd,y9,A_,B_,C_,D_,O9,P9,E_,F_]
  repeat refine S.seq ?_
  refine S.block ?_
  generalize hKK : BlockK 0 (seqK R 47 none _ KF) = KB
  have hKB : ∀ t : T Value, tget t 0 = .string ⟨⟨s⟩⟩ → tget t 5 = .int .i64 (nDig s : Int) → KB (.exit 0) t h0 [] = true := by
    intro t t0 t5
    subst hKK
    have hnl := nDig_le s
    simp (disch := first | omega | (simp only [D8, I8] <;> omega) | decide) only [O0,U0,X0,Y0,O1,U1,Y1,U2,Y2,Y9,Z9,l9,o9,x9,J3,O3,Q3,U3,V3,X3,Y3,I4,J4,O4,Q4,U4,V4,X4,Y4,Z4,D5,E5,F5,G5,H5,I5,J5,O5,P5,Q5,U5,V5,X5,Y5,Z5,o5,y5,D6,F6,G6,H6,J6,L6,O6,P6,U6,V6,X6,Y6,o6,A7,D7,F7,G7,H7,I7,J7,N7,O7,P7,Q7,U7,V7,X7,Y7,Z7,l7,o7,y7,A8,D8,E8,F8,G8,H8,↓reduceIte,Nat.reduceEqDiff,I8,J8,L8,N8,O8,P8,Q8,U8,V8,X8,Y8,Z8,o8,y8,C9,D9,E9,F9,G9,H9,I9,J9,L9,N9,Nat.reduceAdd,y9,A_,B_,C_,D_,O9,P9,E_,F_]
    repeat refine S.seq ?_
    refine S.region ?_
    simp (disch := first | omega | (simp only [D8, I8] <;> omega) | decide) only [O0,U0,X0,Y0,O1,U1,Y1,U2,Y2,Y9,Z9,l9,o9,x9,J3,O3,Q3,U3,V3,X3,Y3,I4,J4,O4,Q4,U4,V4,X4,Y4,Z4,D5,E5,F5,G5,H5,I5,J5,O5,P5,Q5,U5,V5,X5,Y5,Z5,o5,y5,D6,F6,G6,H6,J6,L6,O6,P6,U6,V6,X6,Y6,o6,A7,D7,F7,G7,H7,I7,J7,N7,O7,P7,Q7,U7,V7,X7,Y7,Z7,l7,o7,y7,A8,D8,E8,F8,G8,H8,↓reduceIte,Nat.reduceEqDiff,I8,J8,L8,N8,O8,P8,Q8,U8,V8,X8,Y8,Z8,o8,y8,C9,D9,E9,F9,G9,H9,I9,J9,L9,N9,Nat.reduceAdd,y9,A_,B_,C_,D_,O9,P9,E_,F_,t5]
    refine wr_brings (fid := 12) (first := #[]) (captured := #[]) (Post := fun v g => v = .bool (inB (nDig s : Int) 1 4) ∧ g = h0) (by first | rfl | (simp (disch := first | omega | (simp only [D8, I8] <;> omega) | decide) only [O0,U0,X0,Y0,O1,U1,Y1,U2,Y2,Y9,Z9,l9,o9,x9,J3,O3,Q3,U3,V3,X3,Y3,I4,J4,O4,Q4,U4,V4,X4,Y4,Z4,D5,E5,F5,G5,H5,I5,J5,O5,P5,Q5,U5,V5,X5,Y5,Z5,o5,y5,D6,F6,G6,H6,J6,L6,O6,P6,U6,V6,X6,Y6,o6,A7,D7,F7,G7,H7,I7,J7,N7,O7,P7,Q7,U7,V7,X7,Y7,Z7,l7,o7,y7,A8,D8,E8,F8,G8,H8,↓reduceIte,Nat.reduceEqDiff,I8,J8,L8,N8,O8,P8,Q8,U8,V8,X8,Y8,Z8,o8,y8,C9,D9,E9,F9,G9,H9,I9,J9,L9,N9,Nat.reduceAdd,y9,A_,B_,C_,D_,O9,P9,E_,F_] <;> rfl)) (hoff _ _ _ rfl) (by simp (disch := first | omega | (simp only [D8, I8] <;> omega) | decide) only [O0,U0,X0,Y0,O1,U1,Y1,U2,Y2,Y9,Z9,l9,o9,x9,J3,O3,Q3,U3,V3,X3,Y3,I4,J4,O4,Q4,U4,V4,X4,Y4,Z4,D5,E5,F5,G5,H5,I5,J5,O5,P5,Q5,U5,V5,X5,Y5,Z5,o5,y5,D6,F6,G6,H6,J6,L6,O6,P6,U6,V6,X6,Y6,o6,A7,D7,F7,G7,H7,I7,J7,N7,O7,P7,Q7,U7,V7,X7,Y7,Z7,l7,o7,y7,A8,D8,E8,F8,G8,H8,↓reduceIte,Nat.reduceEqDiff,I8,J8,L8,N8,O8,P8,Q8,U8,V8,X8,Y8,Z8,o8,y8,C9,D9,E9,F9,G9,H9,I9,J9,L9,N9,Nat.reduceAdd,y9,A_,B_,C_,D_,O9,P9,E_,F_]; exact in_y S _ _ _ _) ?_
    rintro v g - ⟨e1, e2⟩
    subst e1
    rw [e2]
    clear e2 g
    cases hi : inB (nDig s : Int) 1 4 with
    | false =>
      simp (disch := first | omega | (simp only [D8, I8] <;> omega) | decide) only [O0,U0,X0,Y0,O1,U1,Y1,U2,Y2,Y9,Z9,l9,o9,x9,J3,O3,Q3,U3,V3,X3,Y3,I4,J4,O4,Q4,U4,V4,X4,Y4,Z4,D5,E5,F5,G5,H5,I5,J5,O5,P5,Q5,U5,V5,X5,Y5,Z5,o5,y5,D6,F6,G6,H6,J6,L6,O6,P6,U6,V6,X6,Y6,o6,A7,D7,F7,G7,H7,I7,J7,N7,O7,P7,Q7,U7,V7,X7,Y7,Z7,l7,o7,y7,A8,D8,E8,F8,G8,H8,↓reduceIte,Nat.reduceEqDiff,I8,J8,L8,N8,O8,P8,Q8,U8,V8,X8,Y8,Z8,o8,y8,C9,D9,E9,F9,G9,H9,I9,J9,L9,N9,Nat.reduceAdd,y9,A_,B_,C_,D_,O9,P9,E_,F_,hi,V7,Bool.not_false]
      repeat refine S.seq ?_
      refine S.cond (v := true) (by first | rfl | (simp (disch := first | omega | (simp only [D8, I8] <;> omega) | decide) only [O0,U0,X0,Y0,O1,U1,Y1,U2,Y2,Y9,Z9,l9,o9,x9,J3,O3,Q3,U3,V3,X3,Y3,I4,J4,O4,Q4,U4,V4,X4,Y4,Z4,D5,E5,F5,G5,H5,I5,J5,O5,P5,Q5,U5,V5,X5,Y5,Z5,o5,y5,D6,F6,G6,H6,J6,L6,O6,P6,U6,V6,X6,Y6,o6,A7,D7,F7,G7,H7,I7,J7,N7,O7,P7,Q7,U7,V7,X7,Y7,Z7,l7,o7,y7,A8,D8,E8,F8,G8,H8,↓reduceIte,Nat.reduceEqDiff,I8,J8,L8,N8,O8,P8,Q8,U8,V8,X8,Y8,Z8,o8,y8,C9,D9,E9,F9,G9,H9,I9,J9,L9,N9,Nat.reduceAdd,y9,A_,B_,C_,D_,O9,P9,E_,F_] <;> rfl)) (fun _ => ?_) (fun e => by cases e)
      repeat refine S.seq ?_
      refine S.region ?_
      simp (disch := first | omega | (simp only [D8, I8] <;> omega) | decide) only [O0,U0,X0,Y0,O1,U1,Y1,U2,Y2,Y9,Z9,l9,o9,x9,J3,O3,Q3,U3,V3,X3,Y3,I4,J4,O4,Q4,U4,V4,X4,Y4,Z4,D5,E5,F5,G5,H5,I5,J5,O5,P5,Q5,U5,V5,X5,Y5,Z5,o5,y5,D6,F6,G6,H6,J6,L6,O6,P6,U6,V6,X6,Y6,o6,A7,D7,F7,G7,H7,I7,J7,N7,O7,P7,Q7,U7,V7,X7,Y7,Z7,l7,o7,y7,A8,D8,E8,F8,G8,H8,↓reduceIte,Nat.reduceEqDiff,I8,J8,L8,N8,O8,P8,Q8,U8,V8,X8,Y8,Z8,o8,y8,C9,D9,E9,F9,G9,H9,I9,J9,L9,N9,Nat.reduceAdd,y9,A_,B_,C_,D_,O9,P9,E_,F_]
      refine S.ret ?_
      try simp only [Q4, V4]
      subst hF
      simp only [finish, endMarks]
      rw [show Tryz.f31.results.toList = [.tmp 2, .tmp 3, .tmp 4] from rfl]
      simp (disch := first | omega | (simp only [D8, I8] <;> omega) | decide) only [resA, o5, J6, H6, O6, L6, L8, N8, E8, F8, result1]
      exact hKr (0, false, false) (by unfold shapeL; rw [hi, cond_false])
    | true =>
      have hi4 : 1 ≤ (nDig s : Int) ∧ (nDig s : Int) ≤ 4 := by
        unfold inB at hi
        simpa using hi
      simp (disch := first | omega | (simp only [D8, I8] <;> omega) | decide) only [O0,U0,X0,Y0,O1,U1,Y1,U2,Y2,Y9,Z9,l9,o9,x9,J3,O3,Q3,U3,V3,X3,Y3,I4,J4,O4,Q4,U4,V4,X4,Y4,Z4,D5,E5,F5,G5,H5,I5,J5,O5,P5,Q5,U5,V5,X5,Y5,Z5,o5,y5,D6,F6,G6,H6,J6,L6,O6,P6,U6,V6,X6,Y6,o6,A7,D7,F7,G7,H7,I7,J7,N7,O7,P7,Q7,U7,V7,X7,Y7,Z7,l7,o7,y7,A8,D8,E8,F8,G8,H8,↓reduceIte,Nat.reduceEqDiff,I8,J8,L8,N8,O8,P8,Q8,U8,V8,X8,Y8,Z8,o8,y8,C9,D9,E9,F9,G9,H9,I9,J9,L9,N9,Nat.reduceAdd,y9,A_,B_,C_,D_,O9,P9,E_,F_,hi,V7,Bool.not_true]
      repeat refine S.seq ?_
      refine S.cond (v := false) (by first | rfl | (simp (disch := first | omega | (simp only [D8, I8] <;> omega) | decide) only [O0,U0,X0,Y0,O1,U1,Y1,U2,Y2,Y9,Z9,l9,o9,x9,J3,O3,Q3,U3,V3,X3,Y3,I4,J4,O4,Q4,U4,V4,X4,Y4,Z4,D5,E5,F5,G5,H5,I5,J5,O5,P5,Q5,U5,V5,X5,Y5,Z5,o5,y5,D6,F6,G6,H6,J6,L6,O6,P6,U6,V6,X6,Y6,o6,A7,D7,F7,G7,H7,I7,J7,N7,O7,P7,Q7,U7,V7,X7,Y7,Z7,l7,o7,y7,A8,D8,E8,F8,G8,H8,↓reduceIte,Nat.reduceEqDiff,I8,J8,L8,N8,O8,P8,Q8,U8,V8,X8,Y8,Z8,o8,y8,C9,D9,E9,F9,G9,H9,I9,J9,L9,N9,Nat.reduceAdd,y9,A_,B_,C_,D_,O9,P9,E_,F_] <;> rfl)) (fun e => by cases e) (fun _ => ?_)
      repeat refine S.seq ?_
      refine S.skip ?_
      simp (disch := first | omega | (simp only [D8, I8] <;> omega) | decide) only [O0,U0,X0,Y0,O1,U1,Y1,U2,Y2,Y9,Z9,l9,o9,x9,J3,O3,Q3,U3,V3,X3,Y3,I4,J4,O4,Q4,U4,V4,X4,Y4,Z4,D5,E5,F5,G5,H5,I5,J5,O5,P5,Q5,U5,V5,X5,Y5,Z5,o5,y5,D6,F6,G6,H6,J6,L6,O6,P6,U6,V6,X6,Y6,o6,A7,D7,F7,G7,H7,I7,J7,N7,O7,P7,Q7,U7,V7,X7,Y7,Z7,l7,o7,y7,A8,D8,E8,F8,G8,H8,↓reduceIte,Nat.reduceEqDiff,I8,J8,L8,N8,O8,P8,Q8,U8,V8,X8,Y8,Z8,o8,y8,C9,D9,E9,F9,G9,H9,I9,J9,L9,N9,Nat.reduceAdd,y9,A_,B_,C_,D_,O9,P9,E_,F_]
      by_cases hl : (nDig s : Int) = (s.length : Int)
      · repeat refine S.seq ?_
        refine S.region ?_
        simp (disch := first | omega | (simp only [D8, I8] <;> omega) | decide) only [O0,U0,X0,Y0,O1,U1,Y1,U2,Y2,Y9,Z9,l9,o9,x9,J3,O3,Q3,U3,V3,X3,Y3,I4,J4,O4,Q4,U4,V4,X4,Y4,Z4,D5,E5,F5,G5,H5,I5,J5,O5,P5,Q5,U5,V5,X5,Y5,Z5,o5,y5,D6,F6,G6,H6,J6,L6,O6,P6,U6,V6,X6,Y6,o6,A7,D7,F7,G7,H7,I7,J7,N7,O7,P7,Q7,U7,V7,X7,Y7,Z7,l7,o7,y7,A8,D8,E8,F8,G8,H8,↓reduceIte,Nat.reduceEqDiff,I8,J8,L8,N8,O8,P8,Q8,U8,V8,X8,Y8,Z8,o8,y8,C9,D9,E9,F9,G9,H9,I9,J9,L9,N9,Nat.reduceAdd,y9,A_,B_,C_,D_,O9,P9,E_,F_,t5,t0,hls,decide_eq_true hl]
        repeat refine S.seq ?_
        refine S.cond (v := true) (by first | rfl | (simp (disch := first | omega | (simp only [D8, I8] <;> omega) | decide) only [O0,U0,X0,Y0,O1,U1,Y1,U2,Y2,Y9,Z9,l9,o9,x9,J3,O3,Q3,U3,V3,X3,Y3,I4,J4,O4,Q4,U4,V4,X4,Y4,Z4,D5,E5,F5,G5,H5,I5,J5,O5,P5,Q5,U5,V5,X5,Y5,Z5,o5,y5,D6,F6,G6,H6,J6,L6,O6,P6,U6,V6,X6,Y6,o6,A7,D7,F7,G7,H7,I7,J7,N7,O7,P7,Q7,U7,V7,X7,Y7,Z7,l7,o7,y7,A8,D8,E8,F8,G8,H8,↓reduceIte,Nat.reduceEqDiff,I8,J8,L8,N8,O8,P8,Q8,U8,V8,X8,Y8,Z8,o8,y8,C9,D9,E9,F9,G9,H9,I9,J9,L9,N9,Nat.reduceAdd,y9,A_,B_,C_,D_,O9,P9,E_,F_] <;> rfl)) (fun _ => ?_) (fun e => by cases e)
        repeat refine S.seq ?_
        refine S.region ?_
        simp (disch := first | omega | (simp only [D8, I8] <;> omega) | decide) only [O0,U0,X0,Y0,O1,U1,Y1,U2,Y2,Y9,Z9,l9,o9,x9,J3,O3,Q3,U3,V3,X3,Y3,I4,J4,O4,Q4,U4,V4,X4,Y4,Z4,D5,E5,F5,G5,H5,I5,J5,O5,P5,Q5,U5,V5,X5,Y5,Z5,o5,y5,D6,F6,G6,H6,J6,L6,O6,P6,U6,V6,X6,Y6,o6,A7,D7,F7,G7,H7,I7,J7,N7,O7,P7,Q7,U7,V7,X7,Y7,Z7,l7,o7,y7,A8,D8,E8,F8,G8,H8,↓reduceIte,Nat.reduceEqDiff,I8,J8,L8,N8,O8,P8,Q8,U8,V8,X8,Y8,Z8,o8,y8,C9,D9,E9,F9,G9,H9,I9,J9,L9,N9,Nat.reduceAdd,y9,A_,B_,C_,D_,O9,P9,E_,F_,t5]
        refine S.ret ?_
        try simp only [Q4, V4]
        subst hF
        simp only [finish, endMarks]
        rw [show Tryz.f31.results.toList = [.tmp 2, .tmp 3, .tmp 4] from rfl]
        simp (disch := first | omega | (simp only [D8, I8] <;> omega) | decide) only [resA, o5, J6, H6, O6, L6, L8, N8, E8, F8, result1]
        exact hKr ((nDig s : Int), false, true) (by unfold shapeL; rw [hi, cond_true, decide_eq_true hl, cond_true])
      · repeat refine S.seq ?_
        refine S.region ?_
        simp (disch := first | omega | (simp only [D8, I8] <;> omega) | decide) only [O0,U0,X0,Y0,O1,U1,Y1,U2,Y2,Y9,Z9,l9,o9,x9,J3,O3,Q3,U3,V3,X3,Y3,I4,J4,O4,Q4,U4,V4,X4,Y4,Z4,D5,E5,F5,G5,H5,I5,J5,O5,P5,Q5,U5,V5,X5,Y5,Z5,o5,y5,D6,F6,G6,H6,J6,L6,O6,P6,U6,V6,X6,Y6,o6,A7,D7,F7,G7,H7,I7,J7,N7,O7,P7,Q7,U7,V7,X7,Y7,Z7,l7,o7,y7,A8,D8,E8,F8,G8,H8,↓reduceIte,Nat.reduceEqDiff,I8,J8,L8,N8,O8,P8,Q8,U8,V8,X8,Y8,Z8,o8,y8,C9,D9,E9,F9,G9,H9,I9,J9,L9,N9,Nat.reduceAdd,y9,A_,B_,C_,D_,O9,P9,E_,F_,t5,t0,hls,decide_eq_false hl]
        repeat refine S.seq ?_
        refine S.cond (v := false) (by first | rfl | (simp (disch := first | omega | (simp only [D8, I8] <;> omega) | decide) only [O0,U0,X0,Y0,O1,U1,Y1,U2,Y2,Y9,Z9,l9,o9,x9,J3,O3,Q3,U3,V3,X3,Y3,I4,J4,O4,Q4,U4,V4,X4,Y4,Z4,D5,E5,F5,G5,H5,I5,J5,O5,P5,Q5,U5,V5,X5,Y5,Z5,o5,y5,D6,F6,G6,H6,J6,L6,O6,P6,U6,V6,X6,Y6,o6,A7,D7,F7,G7,H7,I7,J7,N7,O7,P7,Q7,U7,V7,X7,Y7,Z7,l7,o7,y7,A8,D8,E8,F8,G8,H8,↓reduceIte,Nat.reduceEqDiff,I8,J8,L8,N8,O8,P8,Q8,U8,V8,X8,Y8,Z8,o8,y8,C9,D9,E9,F9,G9,H9,I9,J9,L9,N9,Nat.reduceAdd,y9,A_,B_,C_,D_,O9,P9,E_,F_] <;> rfl)) (fun e => by cases e) (fun _ => ?_)
        repeat refine S.seq ?_
        refine S.skip ?_
        simp (disch := first | omega | (simp only [D8, I8] <;> omega) | decide) only [O0,U0,X0,Y0,O1,U1,Y1,U2,Y2,Y9,Z9,l9,o9,x9,J3,O3,Q3,U3,V3,X3,Y3,I4,J4,O4,Q4,U4,V4,X4,Y4,Z4,D5,E5,F5,G5,H5,I5,J5,O5,P5,Q5,U5,V5,X5,Y5,Z5,o5,y5,D6,F6,G6,H6,J6,L6,O6,P6,U6,V6,X6,Y6,o6,A7,D7,F7,G7,H7,I7,J7,N7,O7,P7,Q7,U7,V7,X7,Y7,Z7,l7,o7,y7,A8,D8,E8,F8,G8,H8,↓reduceIte,Nat.reduceEqDiff,I8,J8,L8,N8,O8,P8,Q8,U8,V8,X8,Y8,Z8,o8,y8,C9,D9,E9,F9,G9,H9,I9,J9,L9,N9,Nat.reduceAdd,y9,A_,B_,C_,D_,O9,P9,E_,F_]
        have hKr2 : ∀ b, (decide ((s.length : Int) = (nDig s : Int) + 2) && (decide (((s[nDig s]?.getD 0).toNat : Int) = 47) && dig (s[nDig s + 1]?.getD 0))) = b → K (.tuple #[.int .i64 (nDig s : Int), .bool true, .bool b]) h0 = true := fun b e => hKr ((nDig s : Int), true, b) (by unfold shapeL; rw [hi, cond_true, decide_eq_false hl, cond_false, e])
        by_cases h2 : (s.length : Int) = (nDig s : Int) + 2
        · obtain ⟨b0, hb0⟩ : ∃ b, s[nDig s]? = some b := ⟨s[nDig s]'(by omega), List.getElem?_eq_getElem _⟩
          obtain ⟨b1, hb1⟩ : ∃ b, s[nDig s + 1]? = some b := ⟨s[nDig s + 1]'(by omega), List.getElem?_eq_getElem _⟩
          have hix1 : ∀ (t : T Value) (o : Oper), rIndex Tryz.prog t o 9 (.int .i64 ((nDig s : Int) + 1)) (.string ⟨⟨s⟩⟩) = some (.int .u8 (b1.toNat : Int)) := fun t o => index_str (i := nDig s + 1) st9 hb1
          rw [decide_eq_true h2, hb0, hb1, Option.getD_some, Option.getD_some, Bool.true_and] at hKr2
          by_cases h3 : (b0.toNat : Int) = 47
          · rw [decide_eq_true h3, Bool.true_and] at hKr2
            repeat refine S.seq ?_
            refine S.region ?_
            simp (disch := first | omega | (simp only [D8, I8] <;> omega) | decide) only [O0,U0,X0,Y0,O1,U1,Y1,U2,Y2,Y9,Z9,l9,o9,x9,J3,O3,Q3,U3,V3,X3,Y3,I4,J4,O4,Q4,U4,V4,X4,Y4,Z4,D5,E5,F5,G5,H5,I5,J5,O5,P5,Q5,U5,V5,X5,Y5,Z5,o5,y5,D6,F6,G6,H6,J6,L6,O6,P6,U6,V6,X6,Y6,o6,A7,D7,F7,G7,H7,I7,J7,N7,O7,P7,Q7,U7,V7,X7,Y7,Z7,l7,o7,y7,A8,D8,E8,F8,G8,H8,↓reduceIte,Nat.reduceEqDiff,I8,J8,L8,N8,O8,P8,Q8,U8,V8,X8,Y8,Z8,o8,y8,C9,D9,E9,F9,G9,H9,I9,J9,L9,N9,Nat.reduceAdd,y9,A_,B_,C_,D_,O9,P9,E_,F_,t5,t0,hls,decide_eq_true h2,rd_index,index_str st9 hb0,decide_eq_true h3,hix1,w_convert,nd53,rd_conv,conv53]
            refine wr_brings (fid := 12) (first := #[]) (captured := #[]) (Post := fun v g => v = .bool (inB (b1.toNat : Int) 48 57) ∧ g = h0) (by first | rfl | (simp (disch := first | omega | (simp only [D8, I8] <;> omega) | decide) only [O0,U0,X0,Y0,O1,U1,Y1,U2,Y2,Y9,Z9,l9,o9,x9,J3,O3,Q3,U3,V3,X3,Y3,I4,J4,O4,Q4,U4,V4,X4,Y4,Z4,D5,E5,F5,G5,H5,I5,J5,O5,P5,Q5,U5,V5,X5,Y5,Z5,o5,y5,D6,F6,G6,H6,J6,L6,O6,P6,U6,V6,X6,Y6,o6,A7,D7,F7,G7,H7,I7,J7,N7,O7,P7,Q7,U7,V7,X7,Y7,Z7,l7,o7,y7,A8,D8,E8,F8,G8,H8,↓reduceIte,Nat.reduceEqDiff,I8,J8,L8,N8,O8,P8,Q8,U8,V8,X8,Y8,Z8,o8,y8,C9,D9,E9,F9,G9,H9,I9,J9,L9,N9,Nat.reduceAdd,y9,A_,B_,C_,D_,O9,P9,E_,F_] <;> rfl)) (hoff _ _ _ rfl) (by simp (disch := first | omega | (simp only [D8, I8] <;> omega) | decide) only [O0,U0,X0,Y0,O1,U1,Y1,U2,Y2,Y9,Z9,l9,o9,x9,J3,O3,Q3,U3,V3,X3,Y3,I4,J4,O4,Q4,U4,V4,X4,Y4,Z4,D5,E5,F5,G5,H5,I5,J5,O5,P5,Q5,U5,V5,X5,Y5,Z5,o5,y5,D6,F6,G6,H6,J6,L6,O6,P6,U6,V6,X6,Y6,o6,A7,D7,F7,G7,H7,I7,J7,N7,O7,P7,Q7,U7,V7,X7,Y7,Z7,l7,o7,y7,A8,D8,E8,F8,G8,H8,↓reduceIte,Nat.reduceEqDiff,I8,J8,L8,N8,O8,P8,Q8,U8,V8,X8,Y8,Z8,o8,y8,C9,D9,E9,F9,G9,H9,I9,J9,L9,N9,Nat.reduceAdd,y9,A_,B_,C_,D_,O9,P9,E_,F_]; exact in_y S _ _ _ _) ?_
            rintro v g - ⟨e1, e2⟩
            subst e1
            rw [e2]
            clear e2 g
            simp (disch := first | omega | (simp only [D8, I8] <;> omega) | decide) only [O0,U0,X0,Y0,O1,U1,Y1,U2,Y2,Y9,Z9,l9,o9,x9,J3,O3,Q3,U3,V3,X3,Y3,I4,J4,O4,Q4,U4,V4,X4,Y4,Z4,D5,E5,F5,G5,H5,I5,J5,O5,P5,Q5,U5,V5,X5,Y5,Z5,o5,y5,D6,F6,G6,H6,J6,L6,O6,P6,U6,V6,X6,Y6,o6,A7,D7,F7,G7,H7,I7,J7,N7,O7,P7,Q7,U7,V7,X7,Y7,Z7,l7,o7,y7,A8,D8,E8,F8,G8,H8,↓reduceIte,Nat.reduceEqDiff,I8,J8,L8,N8,O8,P8,Q8,U8,V8,X8,Y8,Z8,o8,y8,C9,D9,E9,F9,G9,H9,I9,J9,L9,N9,Nat.reduceAdd,y9,A_,B_,C_,D_,O9,P9,E_,F_]
            refine S.ret ?_
            try simp only [Q4, V4]
            subst hF
            simp only [finish, endMarks]
            rw [show Tryz.f31.results.toList = [.tmp 2, .tmp 3, .tmp 4] from rfl]
            simp (disch := first | omega | (simp only [D8, I8] <;> omega) | decide) only [resA, o5, J6, H6, O6, L6, L8, N8, E8, F8, result1]
            exact hKr2 _ rfl
          · rw [decide_eq_false h3, Bool.false_and] at hKr2
            repeat refine S.seq ?_
            refine S.region ?_
            simp (disch := first | omega | (simp only [D8, I8] <;> omega) | decide) only [O0,U0,X0,Y0,O1,U1,Y1,U2,Y2,Y9,Z9,l9,o9,x9,J3,O3,Q3,U3,V3,X3,Y3,I4,J4,O4,Q4,U4,V4,X4,Y4,Z4,D5,E5,F5,G5,H5,I5,J5,O5,P5,Q5,U5,V5,X5,Y5,Z5,o5,y5,D6,F6,G6,H6,J6,L6,O6,P6,U6,V6,X6,Y6,o6,A7,D7,F7,G7,H7,I7,J7,N7,O7,P7,Q7,U7,V7,X7,Y7,Z7,l7,o7,y7,A8,D8,E8,F8,G8,H8,↓reduceIte,Nat.reduceEqDiff,I8,J8,L8,N8,O8,P8,Q8,U8,V8,X8,Y8,Z8,o8,y8,C9,D9,E9,F9,G9,H9,I9,J9,L9,N9,Nat.reduceAdd,y9,A_,B_,C_,D_,O9,P9,E_,F_,t5,t0,hls,decide_eq_true h2,rd_index,index_str st9 hb0,decide_eq_false h3]
            refine S.ret ?_
            try simp only [Q4, V4]
            subst hF
            simp only [finish, endMarks]
            rw [show Tryz.f31.results.toList = [.tmp 2, .tmp 3, .tmp 4] from rfl]
            simp (disch := first | omega | (simp only [D8, I8] <;> omega) | decide) only [resA, o5, J6, H6, O6, L6, L8, N8, E8, F8, result1]
            exact hKr2 _ rfl
        · rw [decide_eq_false h2, Bool.false_and] at hKr2
          repeat refine S.seq ?_
          refine S.region ?_
          simp (disch := first | omega | (simp only [D8, I8] <;> omega) | decide) only [O0,U0,X0,Y0,O1,U1,Y1,U2,Y2,Y9,Z9,l9,o9,x9,J3,O3,Q3,U3,V3,X3,Y3,I4,J4,O4,Q4,U4,V4,X4,Y4,Z4,D5,E5,F5,G5,H5,I5,J5,O5,P5,Q5,U5,V5,X5,Y5,Z5,o5,y5,D6,F6,G6,H6,J6,L6,O6,P6,U6,V6,X6,Y6,o6,A7,D7,F7,G7,H7,I7,J7,N7,O7,P7,Q7,U7,V7,X7,Y7,Z7,l7,o7,y7,A8,D8,E8,F8,G8,H8,↓reduceIte,Nat.reduceEqDiff,I8,J8,L8,N8,O8,P8,Q8,U8,V8,X8,Y8,Z8,o8,y8,C9,D9,E9,F9,G9,H9,I9,J9,L9,N9,Nat.reduceAdd,y9,A_,B_,C_,D_,O9,P9,E_,F_,t5,t0,hls,decide_eq_false h2]
          refine S.ret ?_
          try simp only [Q4, V4]
          subst hF
          simp only [finish, endMarks]
          rw [show Tryz.f31.results.toList = [.tmp 2, .tmp 3, .tmp 4] from rfl]
          simp (disch := first | omega | (simp only [D8, I8] <;> omega) | decide) only [resA, o5, J6, H6, O6, L6, L8, N8, E8, F8, result1]
          exact hKr2 _ rfl
  clear hKK
  refine S.loop (ι := Nat) (IS s h0) (fun k => s.length - k) ?_ 0 _ _ ?_
  · intro k t h ⟨hk, hn0, hh, t0, t5⟩ K' hn he
    subst hh
    by_cases hkn : k < s.length
    · obtain ⟨b, hb⟩ : ∃ b, s[k]? = some b := ⟨s[k], List.getElem?_eq_getElem hkn⟩
      have hdk : s.drop k = b :: s.drop (k + 1) := by
        obtain ⟨h1, h2⟩ := List.getElem?_eq_some_iff.1 hb
        rw [List.drop_eq_getElem_cons h1, h2]
      rw [hdk] at hn0
      simp only [nDig] at hn0
      have hlt : decide ((k : Int) < (s.length : Int)) = true := decide_eq_true (by omega)
      repeat refine S.seq ?_
      refine S.region ?_
      simp (disch := first | omega | (simp only [D8, I8] <;> omega) | decide) only [O0,U0,X0,Y0,O1,U1,Y1,U2,Y2,Y9,Z9,l9,o9,x9,J3,O3,Q3,U3,V3,X3,Y3,I4,J4,O4,Q4,U4,V4,X4,Y4,Z4,D5,E5,F5,G5,H5,I5,J5,O5,P5,Q5,U5,V5,X5,Y5,Z5,o5,y5,D6,F6,G6,H6,J6,L6,O6,P6,U6,V6,X6,Y6,o6,A7,D7,F7,G7,H7,I7,J7,N7,O7,P7,Q7,U7,V7,X7,Y7,Z7,l7,o7,y7,A8,D8,E8,F8,G8,H8,↓reduceIte,Nat.reduceEqDiff,I8,J8,L8,N8,O8,P8,Q8,U8,V8,X8,Y8,Z8,o8,y8,C9,D9,E9,F9,G9,H9,I9,J9,L9,N9,Nat.reduceAdd,y9,A_,B_,C_,D_,O9,P9,E_,F_,t0,t5,hls,hlt,rd_index,index_str st9 hb,w_convert,nd53,rd_conv,conv53]
      refine wr_brings (fid := 12) (first := #[]) (captured := #[]) (Post := fun v g => v = .bool (inB (b.toNat : Int) 48 57) ∧ g = h) (by first | rfl | (simp (disch := first | omega | (simp only [D8, I8] <;> omega) | decide) only [O0,U0,X0,Y0,O1,U1,Y1,U2,Y2,Y9,Z9,l9,o9,x9,J3,O3,Q3,U3,V3,X3,Y3,I4,J4,O4,Q4,U4,V4,X4,Y4,Z4,D5,E5,F5,G5,H5,I5,J5,O5,P5,Q5,U5,V5,X5,Y5,Z5,o5,y5,D6,F6,G6,H6,J6,L6,O6,P6,U6,V6,X6,Y6,o6,A7,D7,F7,G7,H7,I7,J7,N7,O7,P7,Q7,U7,V7,X7,Y7,Z7,l7,o7,y7,A8,D8,E8,F8,G8,H8,↓reduceIte,Nat.reduceEqDiff,I8,J8,L8,N8,O8,P8,Q8,U8,V8,X8,Y8,Z8,o8,y8,C9,D9,E9,F9,G9,H9,I9,J9,L9,N9,Nat.reduceAdd,y9,A_,B_,C_,D_,O9,P9,E_,F_] <;> rfl)) (hoff _ _ _ rfl) (by simp (disch := first | omega | (simp only [D8, I8] <;> omega) | decide) only [O0,U0,X0,Y0,O1,U1,Y1,U2,Y2,Y9,Z9,l9,o9,x9,J3,O3,Q3,U3,V3,X3,Y3,I4,J4,O4,Q4,U4,V4,X4,Y4,Z4,D5,E5,F5,G5,H5,I5,J5,O5,P5,Q5,U5,V5,X5,Y5,Z5,o5,y5,D6,F6,G6,H6,J6,L6,O6,P6,U6,V6,X6,Y6,o6,A7,D7,F7,G7,H7,I7,J7,N7,O7,P7,Q7,U7,V7,X7,Y7,Z7,l7,o7,y7,A8,D8,E8,F8,G8,H8,↓reduceIte,Nat.reduceEqDiff,I8,J8,L8,N8,O8,P8,Q8,U8,V8,X8,Y8,Z8,o8,y8,C9,D9,E9,F9,G9,H9,I9,J9,L9,N9,Nat.reduceAdd,y9,A_,B_,C_,D_,O9,P9,E_,F_]; exact in_y S _ _ _ _) ?_
      rintro v g - ⟨e1, e2⟩
      subst e1
      rw [e2]
      clear e2 g
      cases hd : inB (b.toNat : Int) 48 57 with
      | true =>
        rw [show dig b = true from hd, cond_true] at hn0
        simp (disch := first | omega | (simp only [D8, I8] <;> omega) | decide) only [O0,U0,X0,Y0,O1,U1,Y1,U2,Y2,Y9,Z9,l9,o9,x9,J3,O3,Q3,U3,V3,X3,Y3,I4,J4,O4,Q4,U4,V4,X4,Y4,Z4,D5,E5,F5,G5,H5,I5,J5,O5,P5,Q5,U5,V5,X5,Y5,Z5,o5,y5,D6,F6,G6,H6,J6,L6,O6,P6,U6,V6,X6,Y6,o6,A7,D7,F7,G7,H7,I7,J7,N7,O7,P7,Q7,U7,V7,X7,Y7,Z7,l7,o7,y7,A8,D8,E8,F8,G8,H8,↓reduceIte,Nat.reduceEqDiff,I8,J8,L8,N8,O8,P8,Q8,U8,V8,X8,Y8,Z8,o8,y8,C9,D9,E9,F9,G9,H9,I9,J9,L9,N9,Nat.reduceAdd,y9,A_,B_,C_,D_,O9,P9,E_,F_,hd]
        repeat refine S.seq ?_
        refine S.cond (v := true) (by first | rfl | (simp (disch := first | omega | (simp only [D8, I8] <;> omega) | decide) only [O0,U0,X0,Y0,O1,U1,Y1,U2,Y2,Y9,Z9,l9,o9,x9,J3,O3,Q3,U3,V3,X3,Y3,I4,J4,O4,Q4,U4,V4,X4,Y4,Z4,D5,E5,F5,G5,H5,I5,J5,O5,P5,Q5,U5,V5,X5,Y5,Z5,o5,y5,D6,F6,G6,H6,J6,L6,O6,P6,U6,V6,X6,Y6,o6,A7,D7,F7,G7,H7,I7,J7,N7,O7,P7,Q7,U7,V7,X7,Y7,Z7,l7,o7,y7,A8,D8,E8,F8,G8,H8,↓reduceIte,Nat.reduceEqDiff,I8,J8,L8,N8,O8,P8,Q8,U8,V8,X8,Y8,Z8,o8,y8,C9,D9,E9,F9,G9,H9,I9,J9,L9,N9,Nat.reduceAdd,y9,A_,B_,C_,D_,O9,P9,E_,F_] <;> rfl)) (fun _ => ?_) (fun e => by cases e)
        repeat refine S.seq ?_
        refine S.skip ?_
        simp (disch := first | omega | (simp only [D8, I8] <;> omega) | decide) only [O0,U0,X0,Y0,O1,U1,Y1,U2,Y2,Y9,Z9,l9,o9,x9,J3,O3,Q3,U3,V3,X3,Y3,I4,J4,O4,Q4,U4,V4,X4,Y4,Z4,D5,E5,F5,G5,H5,I5,J5,O5,P5,Q5,U5,V5,X5,Y5,Z5,o5,y5,D6,F6,G6,H6,J6,L6,O6,P6,U6,V6,X6,Y6,o6,A7,D7,F7,G7,H7,I7,J7,N7,O7,P7,Q7,U7,V7,X7,Y7,Z7,l7,o7,y7,A8,D8,E8,F8,G8,H8,↓reduceIte,Nat.reduceEqDiff,I8,J8,L8,N8,O8,P8,Q8,U8,V8,X8,Y8,Z8,o8,y8,C9,D9,E9,F9,G9,H9,I9,J9,L9,N9,Nat.reduceAdd,y9,A_,B_,C_,D_,O9,P9,E_,F_]
        repeat refine S.seq ?_
        refine S.block ?_
        repeat refine S.seq ?_
        refine S.region ?_
        simp (disch := first | omega | (simp only [D8, I8] <;> omega) | decide) only [O0,U0,X0,Y0,O1,U1,Y1,U2,Y2,Y9,Z9,l9,o9,x9,J3,O3,Q3,U3,V3,X3,Y3,I4,J4,O4,Q4,U4,V4,X4,Y4,Z4,D5,E5,F5,G5,H5,I5,J5,O5,P5,Q5,U5,V5,X5,Y5,Z5,o5,y5,D6,F6,G6,H6,J6,L6,O6,P6,U6,V6,X6,Y6,o6,A7,D7,F7,G7,H7,I7,J7,N7,O7,P7,Q7,U7,V7,X7,Y7,Z7,l7,o7,y7,A8,D8,E8,F8,G8,H8,↓reduceIte,Nat.reduceEqDiff,I8,J8,L8,N8,O8,P8,Q8,U8,V8,X8,Y8,Z8,o8,y8,C9,D9,E9,F9,G9,H9,I9,J9,L9,N9,Nat.reduceAdd,y9,A_,B_,C_,D_,O9,P9,E_,F_,t5]
        refine hn (k + 1) _ _ (by omega) ⟨by omega, by omega, rfl, ?_, ?_⟩
        all_goals (first | rfl | (simp (disch := first | omega | (simp only [D8, I8] <;> omega) | decide) only [O0,U0,X0,Y0,O1,U1,Y1,U2,Y2,Y9,Z9,l9,o9,x9,J3,O3,Q3,U3,V3,X3,Y3,I4,J4,O4,Q4,U4,V4,X4,Y4,Z4,D5,E5,F5,G5,H5,I5,J5,O5,P5,Q5,U5,V5,X5,Y5,Z5,o5,y5,D6,F6,G6,H6,J6,L6,O6,P6,U6,V6,X6,Y6,o6,A7,D7,F7,G7,H7,I7,J7,N7,O7,P7,Q7,U7,V7,X7,Y7,Z7,l7,o7,y7,A8,D8,E8,F8,G8,H8,↓reduceIte,Nat.reduceEqDiff,I8,J8,L8,N8,O8,P8,Q8,U8,V8,X8,Y8,Z8,o8,y8,C9,D9,E9,F9,G9,H9,I9,J9,L9,N9,Nat.reduceAdd,y9,A_,B_,C_,D_,O9,P9,E_,F_,t0,t5]; done) | (simp (disch := first | omega | (simp only [D8, I8] <;> omega) | decide) only [O0,U0,X0,Y0,O1,U1,Y1,U2,Y2,Y9,Z9,l9,o9,x9,J3,O3,Q3,U3,V3,X3,Y3,I4,J4,O4,Q4,U4,V4,X4,Y4,Z4,D5,E5,F5,G5,H5,I5,J5,O5,P5,Q5,U5,V5,X5,Y5,Z5,o5,y5,D6,F6,G6,H6,J6,L6,O6,P6,U6,V6,X6,Y6,o6,A7,D7,F7,G7,H7,I7,J7,N7,O7,P7,Q7,U7,V7,X7,Y7,Z7,l7,o7,y7,A8,D8,E8,F8,G8,H8,↓reduceIte,Nat.reduceEqDiff,I8,J8,L8,N8,O8,P8,Q8,U8,V8,X8,Y8,Z8,o8,y8,C9,D9,E9,F9,G9,H9,I9,J9,L9,N9,Nat.reduceAdd,y9,A_,B_,C_,D_,O9,P9,E_,F_,t0,t5]; rfl))
      | false =>
        rw [show dig b = false from hd, cond_false, Nat.add_zero] at hn0
        simp (disch := first | omega | (simp only [D8, I8] <;> omega) | decide) only [O0,U0,X0,Y0,O1,U1,Y1,U2,Y2,Y9,Z9,l9,o9,x9,J3,O3,Q3,U3,V3,X3,Y3,I4,J4,O4,Q4,U4,V4,X4,Y4,Z4,D5,E5,F5,G5,H5,I5,J5,O5,P5,Q5,U5,V5,X5,Y5,Z5,o5,y5,D6,F6,G6,H6,J6,L6,O6,P6,U6,V6,X6,Y6,o6,A7,D7,F7,G7,H7,I7,J7,N7,O7,P7,Q7,U7,V7,X7,Y7,Z7,l7,o7,y7,A8,D8,E8,F8,G8,H8,↓reduceIte,Nat.reduceEqDiff,I8,J8,L8,N8,O8,P8,Q8,U8,V8,X8,Y8,Z8,o8,y8,C9,D9,E9,F9,G9,H9,I9,J9,L9,N9,Nat.reduceAdd,y9,A_,B_,C_,D_,O9,P9,E_,F_,hd]
        repeat refine S.seq ?_
        refine S.cond (v := false) (by first | rfl | (simp (disch := first | omega | (simp only [D8, I8] <;> omega) | decide) only [O0,U0,X0,Y0,O1,U1,Y1,U2,Y2,Y9,Z9,l9,o9,x9,J3,O3,Q3,U3,V3,X3,Y3,I4,J4,O4,Q4,U4,V4,X4,Y4,Z4,D5,E5,F5,G5,H5,I5,J5,O5,P5,Q5,U5,V5,X5,Y5,Z5,o5,y5,D6,F6,G6,H6,J6,L6,O6,P6,U6,V6,X6,Y6,o6,A7,D7,F7,G7,H7,I7,J7,N7,O7,P7,Q7,U7,V7,X7,Y7,Z7,l7,o7,y7,A8,D8,E8,F8,G8,H8,↓reduceIte,Nat.reduceEqDiff,I8,J8,L8,N8,O8,P8,Q8,U8,V8,X8,Y8,Z8,o8,y8,C9,D9,E9,F9,G9,H9,I9,J9,L9,N9,Nat.reduceAdd,y9,A_,B_,C_,D_,O9,P9,E_,F_] <;> rfl)) (fun e => by cases e) (fun _ => ?_)
        refine S.exit (he _ _ _ _ (fun e => by cases e) ?_)
        refine hKB _ ?_ ?_
        · simp (disch := first | omega | (simp only [D8, I8] <;> omega) | decide) only [O0,U0,X0,Y0,O1,U1,Y1,U2,Y2,Y9,Z9,l9,o9,x9,J3,O3,Q3,U3,V3,X3,Y3,I4,J4,O4,Q4,U4,V4,X4,Y4,Z4,D5,E5,F5,G5,H5,I5,J5,O5,P5,Q5,U5,V5,X5,Y5,Z5,o5,y5,D6,F6,G6,H6,J6,L6,O6,P6,U6,V6,X6,Y6,o6,A7,D7,F7,G7,H7,I7,J7,N7,O7,P7,Q7,U7,V7,X7,Y7,Z7,l7,o7,y7,A8,D8,E8,F8,G8,H8,↓reduceIte,Nat.reduceEqDiff,I8,J8,L8,N8,O8,P8,Q8,U8,V8,X8,Y8,Z8,o8,y8,C9,D9,E9,F9,G9,H9,I9,J9,L9,N9,Nat.reduceAdd,y9,A_,B_,C_,D_,O9,P9,E_,F_,t0]
        · rw [hn0]
          simp (disch := first | omega | (simp only [D8, I8] <;> omega) | decide) only [O0,U0,X0,Y0,O1,U1,Y1,U2,Y2,Y9,Z9,l9,o9,x9,J3,O3,Q3,U3,V3,X3,Y3,I4,J4,O4,Q4,U4,V4,X4,Y4,Z4,D5,E5,F5,G5,H5,I5,J5,O5,P5,Q5,U5,V5,X5,Y5,Z5,o5,y5,D6,F6,G6,H6,J6,L6,O6,P6,U6,V6,X6,Y6,o6,A7,D7,F7,G7,H7,I7,J7,N7,O7,P7,Q7,U7,V7,X7,Y7,Z7,l7,o7,y7,A8,D8,E8,F8,G8,H8,↓reduceIte,Nat.reduceEqDiff,I8,J8,L8,N8,O8,P8,Q8,U8,V8,X8,Y8,Z8,o8,y8,C9,D9,E9,F9,G9,H9,I9,J9,L9,N9,Nat.reduceAdd,y9,A_,B_,C_,D_,O9,P9,E_,F_,t5]
    · have hkl : k = s.length := by omega
      subst hkl
      rw [List.drop_of_length_le (Nat.le_refl _)] at hn0
      simp only [nDig, Nat.add_zero] at hn0
      have hlt : decide ((s.length : Int) < (s.length : Int)) = false := decide_eq_false (by omega)
      repeat refine S.seq ?_
      refine S.region ?_
      simp (disch := first | omega | (simp only [D8, I8] <;> omega) | decide) only [O0,U0,X0,Y0,O1,U1,Y1,U2,Y2,Y9,Z9,l9,o9,x9,J3,O3,Q3,U3,V3,X3,Y3,I4,J4,O4,Q4,U4,V4,X4,Y4,Z4,D5,E5,F5,G5,H5,I5,J5,O5,P5,Q5,U5,V5,X5,Y5,Z5,o5,y5,D6,F6,G6,H6,J6,L6,O6,P6,U6,V6,X6,Y6,o6,A7,D7,F7,G7,H7,I7,J7,N7,O7,P7,Q7,U7,V7,X7,Y7,Z7,l7,o7,y7,A8,D8,E8,F8,G8,H8,↓reduceIte,Nat.reduceEqDiff,I8,J8,L8,N8,O8,P8,Q8,U8,V8,X8,Y8,Z8,o8,y8,C9,D9,E9,F9,G9,H9,I9,J9,L9,N9,Nat.reduceAdd,y9,A_,B_,C_,D_,O9,P9,E_,F_,t0,t5,hls,hlt]
      repeat refine S.seq ?_
      refine S.cond (v := false) (by first | rfl | (simp (disch := first | omega | (simp only [D8, I8] <;> omega) | decide) only [O0,U0,X0,Y0,O1,U1,Y1,U2,Y2,Y9,Z9,l9,o9,x9,J3,O3,Q3,U3,V3,X3,Y3,I4,J4,O4,Q4,U4,V4,X4,Y4,Z4,D5,E5,F5,G5,H5,I5,J5,O5,P5,Q5,U5,V5,X5,Y5,Z5,o5,y5,D6,F6,G6,H6,J6,L6,O6,P6,U6,V6,X6,Y6,o6,A7,D7,F7,G7,H7,I7,J7,N7,O7,P7,Q7,U7,V7,X7,Y7,Z7,l7,o7,y7,A8,D8,E8,F8,G8,H8,↓reduceIte,Nat.reduceEqDiff,I8,J8,L8,N8,O8,P8,Q8,U8,V8,X8,Y8,Z8,o8,y8,C9,D9,E9,F9,G9,H9,I9,J9,L9,N9,Nat.reduceAdd,y9,A_,B_,C_,D_,O9,P9,E_,F_] <;> rfl)) (fun e => by cases e) (fun _ => ?_)
      refine S.exit (he _ _ _ _ (fun e => by cases e) ?_)
      refine hKB _ ?_ ?_
      · simp (disch := first | omega | (simp only [D8, I8] <;> omega) | decide) only [O0,U0,X0,Y0,O1,U1,Y1,U2,Y2,Y9,Z9,l9,o9,x9,J3,O3,Q3,U3,V3,X3,Y3,I4,J4,O4,Q4,U4,V4,X4,Y4,Z4,D5,E5,F5,G5,H5,I5,J5,O5,P5,Q5,U5,V5,X5,Y5,Z5,o5,y5,D6,F6,G6,H6,J6,L6,O6,P6,U6,V6,X6,Y6,o6,A7,D7,F7,G7,H7,I7,J7,N7,O7,P7,Q7,U7,V7,X7,Y7,Z7,l7,o7,y7,A8,D8,E8,F8,G8,H8,↓reduceIte,Nat.reduceEqDiff,I8,J8,L8,N8,O8,P8,Q8,U8,V8,X8,Y8,Z8,o8,y8,C9,D9,E9,F9,G9,H9,I9,J9,L9,N9,Nat.reduceAdd,y9,A_,B_,C_,D_,O9,P9,E_,F_,t0]
      · rw [hn0]
        simp (disch := first | omega | (simp only [D8, I8] <;> omega) | decide) only [O0,U0,X0,Y0,O1,U1,Y1,U2,Y2,Y9,Z9,l9,o9,x9,J3,O3,Q3,U3,V3,X3,Y3,I4,J4,O4,Q4,U4,V4,X4,Y4,Z4,D5,E5,F5,G5,H5,I5,J5,O5,P5,Q5,U5,V5,X5,Y5,Z5,o5,y5,D6,F6,G6,H6,J6,L6,O6,P6,U6,V6,X6,Y6,o6,A7,D7,F7,G7,H7,I7,J7,N7,O7,P7,Q7,U7,V7,X7,Y7,Z7,l7,o7,y7,A8,D8,E8,F8,G8,H8,↓reduceIte,Nat.reduceEqDiff,I8,J8,L8,N8,O8,P8,Q8,U8,V8,X8,Y8,Z8,o8,y8,C9,D9,E9,F9,G9,H9,I9,J9,L9,N9,Nat.reduceAdd,y9,A_,B_,C_,D_,O9,P9,E_,F_,t5]
  · refine ⟨Nat.zero_le _, ?_, rfl, ?_, ?_⟩
    · simp
    all_goals (first | rfl | (simp (disch := first | omega | (simp only [D8, I8] <;> omega) | decide) only [O0,U0,X0,Y0,O1,U1,Y1,U2,Y2,Y9,Z9,l9,o9,x9,J3,O3,Q3,U3,V3,X3,Y3,I4,J4,O4,Q4,U4,V4,X4,Y4,Z4,D5,E5,F5,G5,H5,I5,J5,O5,P5,Q5,U5,V5,X5,Y5,Z5,o5,y5,D6,F6,G6,H6,J6,L6,O6,P6,U6,V6,X6,Y6,o6,A7,D7,F7,G7,H7,I7,J7,N7,O7,P7,Q7,U7,V7,X7,Y7,Z7,l7,o7,y7,A8,D8,E8,F8,G8,H8,↓reduceIte,Nat.reduceEqDiff,I8,J8,L8,N8,O8,P8,Q8,U8,V8,X8,Y8,Z8,o8,y8,C9,D9,E9,F9,G9,H9,I9,J9,L9,N9,Nat.reduceAdd,y9,A_,B_,C_,D_,O9,P9,E_,F_]; done) | (simp (disch := first | omega | (simp only [D8, I8] <;> omega) | decide) only [O0,U0,X0,Y0,O1,U1,Y1,U2,Y2,Y9,Z9,l9,o9,x9,J3,O3,Q3,U3,V3,X3,Y3,I4,J4,O4,Q4,U4,V4,X4,Y4,Z4,D5,E5,F5,G5,H5,I5,J5,O5,P5,Q5,U5,V5,X5,Y5,Z5,o5,y5,D6,F6,G6,H6,J6,L6,O6,P6,U6,V6,X6,Y6,o6,A7,D7,F7,G7,H7,I7,J7,N7,O7,P7,Q7,U7,V7,X7,Y7,Z7,l7,o7,y7,A8,D8,E8,F8,G8,H8,↓reduceIte,Nat.reduceEqDiff,I8,J8,L8,N8,O8,P8,Q8,U8,V8,X8,Y8,Z8,o8,y8,C9,D9,E9,F9,G9,H9,I9,J9,L9,N9,Nat.reduceAdd,y9,A_,B_,C_,D_,O9,P9,E_,F_]; rfl))
end Go.Proofs.Hs
