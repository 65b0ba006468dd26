import Derived.Test.YtlneoecgbbbahaaGreatDoorHsB
namespace Go.Proofs.Hs
open Go Go.Ev
set_option linter.unusedSimpArgs false

def numD (l : List UInt8) : Int := l.foldl (fun v b => 10 * v + (b.toNat : Int) - 48) 0
theorem numD_snoc (l : List UInt8) (b : UInt8) : numD (l ++ [b]) = 10 * numD l + (b.toNat : Int) - 48 := by simp [numD]
def refV (s : List UInt8) : Int :=
  bif !(shapeL s).2.2 then -1
  else bif decide (1 < (shapeL s).1) && decide (((s[0]?.getD 0).toNat : Int) = 48) then -1
  else bif (shapeL s).2.1 then
    (bif inB ((s[nDig s + 1]?.getD 0).toNat : Int) 49 55 then 8 * numD (s.take (nDig s)) + (((s[nDig s + 1]?.getD 0).toNat : Int) - 48) else -1)
  else 8 * numD (s.take (nDig s))

theorem shape_true {s : List UInt8} (h : (shapeL s).2.2 = true) : (shapeL s).1 = (nDig s : Int) ∧ 1 ≤ nDig s ∧ nDig s ≤ 4 ∧ ((shapeL s).2.1 = true → s.length = nDig s + 2) := by
  unfold shapeL at h ⊢
  cases hi : inB (nDig s : Int) 1 4 with
  | false => rw [hi] at h; cases h
  | true =>
    have hi4 : 1 ≤ (nDig s : Int) ∧ (nDig s : Int) ≤ 4 := by
      unfold inB at hi
      simpa using hi
    rw [hi, cond_true] at h
    rw [cond_true]
    by_cases hl : (nDig s : Int) = (s.length : Int)
    · rw [decide_eq_true hl, cond_true]
      exact ⟨rfl, by omega, by omega, fun e => by cases e⟩
    · rw [decide_eq_false hl, cond_false] at h
      rw [decide_eq_false hl, cond_false]
      simp only [Bool.and_eq_true, decide_eq_true_eq] at h
      exact ⟨rfl, by omega, by omega, fun _ => by omega⟩

def bnd : Nat → Int
  | 0 => 0
  | k + 1 => 10 * bnd k + 300
theorem bnd_le : ∀ k, k ≤ 4 → bnd k ≤ 10000000
  | 0, _ => by decide
  | 1, _ => by decide
  | 2, _ => by decide
  | 3, _ => by decide
  | 4, _ => by decide
  | k + 5, h => by omega
theorem numD_bnd (s : List UInt8) : ∀ k, k ≤ s.length → -(bnd k) ≤ numD (s.take k) ∧ numD (s.take k) ≤ bnd k
  | 0, _ => by simp [numD, bnd]
  | k + 1, h => by
    have ih := numD_bnd s k (by omega)
    obtain ⟨b, hb⟩ : ∃ b, s[k]? = some b := ⟨s[k]'(by omega), List.getElem?_eq_getElem _⟩
    rw [List.take_add_one, hb, show (some b).toList = [b] from rfl, numD_snoc]
    have := b.toNat_lt
    simp only [bnd]
    omega

def IV (s : List UInt8) (H : AHeap) (n : Nat) (pv : Value) (k : Nat) (t : T Value) (h : AHeap) : Prop :=
  k ≤ n ∧ h = H ∧ tget t 0 = .string ⟨⟨s⟩⟩ ∧ tget t 3 = .int .i64 (n : Int) ∧ tget t 4 = pv ∧ tget t 6 = .int .i64 (numD (s.take k)) ∧ tget t 7 = .int .i64 (k : Int)

variable {pr : Prim} {R : ExT}
set_option maxHeartbeats 8000000 in
theorem value_y (S : Ev.Steps Tryz.prog pr R) (hoff : Off pr) (h0 : AHeap) (s : List UInt8) (hs : s.length ≤ 9) :
    Brings Tryz.prog R 11 [.string ⟨⟨s⟩⟩] h0 fun u h => u = .int .i64 (refV s) ∧ h = h0 := by
  refine brings_of (fn := Tryz.f11) (c := (Tryz.f11.body).getD .skip) (by kernel_rfl) rfl (by kernel_rfl) rfl (fun K hK => ?_)
  generalize hF : finish Tryz.prog Tryz.f11 K = KF
  simp only [Tryz.f11, Option.getD_some, argsT, setArgs, fV1_eq, T.setK_eq, id]
  have hKr : ∀ x : Int, refV s = x → K (.int .i64 x) h0 = true := fun x e => hK _ _ Kp.refl ⟨by rw [e], rfl⟩
  clear hK
  have hnl := nDig_le s
  repeat refine S.seq ?_
  refine S.region ?_
  simp (disch := first | omega | (simp only [D8, I8] <;> omega) | decide) only [O0,U0,X0,Y0,O1,U1,Y1,U2,Y2,Y9,Z9,l9,o9,x9,J3,O3,Q3,U3,V3,X3,Y3,I4,J4,O4,Q4,U4,V4,X4,Y4,Z4,D5,E5,F5,G5,H5,I5,J5,O5,P5,Q5,U5,V5,X5,Y5,Z5,o5,y5,D6,F6,G6,H6,J6,L6,O6,P6,U6,V6,X6,Y6,o6,A7,D7,F7,G7,H7,I7,J7,N7,O7,P7,Q7,U7,V7,X7,Y7,Z7,l7,o7,y7,A8,D8,E8,F8,G8,H8,↓reduceIte,Nat.reduceEqDiff,I8,J8,L8,N8,O8,P8,Q8,U8,V8,X8,Y8,Z8,o8,y8,C9,D9,E9,F9,G9,H9,I9,J9,L9,N9,Nat.reduceAdd,y9,A_,B_,C_,D_,O9,P9,E_,F_]
  repeat refine S.seq ?_
  refine S.region ?_
  simp (disch := first | omega | (simp only [D8, I8] <;> omega) | decide) only [O0,U0,X0,Y0,O1,U1,Y1,U2,Y2,Y9,Z9,l9,o9,x9,J3,O3,Q3,U3,V3,X3,Y3,I4,J4,O4,Q4,U4,V4,X4,Y4,Z4,D5,E5,F5,G5,H5,I5,J5,O5,P5,Q5,U5,V5,X5,Y5,Z5,o5,y5,D6,F6,G6,H6,J6,L6,O6,P6,U6,V6,X6,Y6,o6,A7,D7,F7,G7,H7,I7,J7,N7,O7,P7,Q7,U7,V7,X7,Y7,Z7,l7,o7,y7,A8,D8,E8,F8,G8,H8,↓reduceIte,Nat.reduceEqDiff,I8,J8,L8,N8,O8,P8,Q8,U8,V8,X8,Y8,Z8,o8,y8,C9,D9,E9,F9,G9,H9,I9,J9,L9,N9,Nat.reduceAdd,y9,A_,B_,C_,D_,O9,P9,E_,F_]
  refine wr_brings (fid := 31) (first := #[]) (captured := #[]) (Post := fun v g => v = shapeV (shapeL s) ∧ g = h0) (by first | rfl | (simp (disch := first | omega | (simp only [D8, I8] <;> omega) | decide) only [O0,U0,X0,Y0,O1,U1,Y1,U2,Y2,Y9,Z9,l9,o9,x9,J3,O3,Q3,U3,V3,X3,Y3,I4,J4,O4,Q4,U4,V4,X4,Y4,Z4,D5,E5,F5,G5,H5,I5,J5,O5,P5,Q5,U5,V5,X5,Y5,Z5,o5,y5,D6,F6,G6,H6,J6,L6,O6,P6,U6,V6,X6,Y6,o6,A7,D7,F7,G7,H7,I7,J7,N7,O7,P7,Q7,U7,V7,X7,Y7,Z7,l7,o7,y7,A8,D8,E8,F8,G8,H8,↓reduceIte,Nat.reduceEqDiff,I8,J8,L8,N8,O8,P8,Q8,U8,V8,X8,Y8,Z8,o8,y8,C9,D9,E9,F9,G9,H9,I9,J9,L9,N9,Nat.reduceAdd,y9,A_,B_,C_,D_,O9,P9,E_,F_] <;> rfl)) (hoff _ _ _ rfl) (by simp (disch := first | omega | (simp only [D8, I8] <;> omega) | decide) only [O0,U0,X0,Y0,O1,U1,Y1,U2,Y2,Y9,Z9,l9,o9,x9,J3,O3,Q3,U3,V3,X3,Y3,I4,J4,O4,Q4,U4,V4,X4,Y4,Z4,D5,E5,F5,G5,H5,I5,J5,O5,P5,Q5,U5,V5,X5,Y5,Z5,o5,y5,D6,F6,G6,H6,J6,L6,O6,P6,U6,V6,X6,Y6,o6,A7,D7,F7,G7,H7,I7,J7,N7,O7,P7,Q7,U7,V7,X7,Y7,Z7,l7,o7,y7,A8,D8,E8,F8,G8,H8,↓reduceIte,Nat.reduceEqDiff,I8,J8,L8,N8,O8,P8,Q8,U8,V8,X8,Y8,Z8,o8,y8,C9,D9,E9,F9,G9,H9,I9,J9,L9,N9,Nat.reduceAdd,y9,A_,B_,C_,D_,O9,P9,E_,F_]; exact shape_y S hoff _ s hs) ?_
  rintro v g - ⟨e1, e2⟩
  subst e1
  rw [e2]
  clear e2 g
  have x0 : (#[Value.int .i64 (shapeL s).1, .bool (shapeL s).2.1, .bool (shapeL s).2.2] : Array Value)[0]? = some (.int .i64 (shapeL s).1) := rfl
  have x1 : (#[Value.int .i64 (shapeL s).1, .bool (shapeL s).2.1, .bool (shapeL s).2.2] : Array Value)[1]? = some (.bool (shapeL s).2.1) := rfl
  have x2 : (#[Value.int .i64 (shapeL s).1, .bool (shapeL s).2.1, .bool (shapeL s).2.2] : Array Value)[2]? = some (.bool (shapeL s).2.2) := rfl
  unfold shapeV
  simp (disch := first | omega | (simp only [D8, I8] <;> omega) | decide) only [O0,U0,X0,Y0,O1,U1,Y1,U2,Y2,Y9,Z9,l9,o9,x9,J3,O3,Q3,U3,V3,X3,Y3,I4,J4,O4,Q4,U4,V4,X4,Y4,Z4,D5,E5,F5,G5,H5,I5,J5,O5,P5,Q5,U5,V5,X5,Y5,Z5,o5,y5,D6,F6,G6,H6,J6,L6,O6,P6,U6,V6,X6,Y6,o6,A7,D7,F7,G7,H7,I7,J7,N7,O7,P7,Q7,U7,V7,X7,Y7,Z7,l7,o7,y7,A8,D8,E8,F8,G8,H8,↓reduceIte,Nat.reduceEqDiff,I8,J8,L8,N8,O8,P8,Q8,U8,V8,X8,Y8,Z8,o8,y8,C9,D9,E9,F9,G9,H9,I9,J9,L9,N9,Nat.reduceAdd,y9,A_,B_,C_,D_,O9,P9,E_,F_,x0,x1,x2]
  clear x0 x1 x2
  unfold refV at hKr
  cases hi : (shapeL s).2.2 with
  | false =>
    rw [hi, Bool.not_false, cond_true] at hKr
    repeat refine S.seq ?_
    refine S.region ?_
    simp (disch := first | omega | (simp only [D8, I8] <;> omega) | decide) only [O0,U0,X0,Y0,O1,U1,Y1,U2,Y2,Y9,Z9,l9,o9,x9,J3,O3,Q3,U3,V3,X3,Y3,I4,J4,O4,Q4,U4,V4,X4,Y4,Z4,D5,E5,F5,G5,H5,I5,J5,O5,P5,Q5,U5,V5,X5,Y5,Z5,o5,y5,D6,F6,G6,H6,J6,L6,O6,P6,U6,V6,X6,Y6,o6,A7,D7,F7,G7,H7,I7,J7,N7,O7,P7,Q7,U7,V7,X7,Y7,Z7,l7,o7,y7,A8,D8,E8,F8,G8,H8,↓reduceIte,Nat.reduceEqDiff,I8,J8,L8,N8,O8,P8,Q8,U8,V8,X8,Y8,Z8,o8,y8,C9,D9,E9,F9,G9,H9,I9,J9,L9,N9,Nat.reduceAdd,y9,A_,B_,C_,D_,O9,P9,E_,F_,hi,V7,Bool.not_false]
    repeat refine S.seq ?_
    refine S.cond (v := true) (by first | rfl | (simp (disch := first | omega | (simp only [D8, I8] <;> omega) | decide) only [O0,U0,X0,Y0,O1,U1,Y1,U2,Y2,Y9,Z9,l9,o9,x9,J3,O3,Q3,U3,V3,X3,Y3,I4,J4,O4,Q4,U4,V4,X4,Y4,Z4,D5,E5,F5,G5,H5,I5,J5,O5,P5,Q5,U5,V5,X5,Y5,Z5,o5,y5,D6,F6,G6,H6,J6,L6,O6,P6,U6,V6,X6,Y6,o6,A7,D7,F7,G7,H7,I7,J7,N7,O7,P7,Q7,U7,V7,X7,Y7,Z7,l7,o7,y7,A8,D8,E8,F8,G8,H8,↓reduceIte,Nat.reduceEqDiff,I8,J8,L8,N8,O8,P8,Q8,U8,V8,X8,Y8,Z8,o8,y8,C9,D9,E9,F9,G9,H9,I9,J9,L9,N9,Nat.reduceAdd,y9,A_,B_,C_,D_,O9,P9,E_,F_] <;> rfl)) (fun _ => ?_) (fun e => by cases e)
    repeat refine S.seq ?_
    refine S.region ?_
    simp (disch := first | omega | (simp only [D8, I8] <;> omega) | decide) only [O0,U0,X0,Y0,O1,U1,Y1,U2,Y2,Y9,Z9,l9,o9,x9,J3,O3,Q3,U3,V3,X3,Y3,I4,J4,O4,Q4,U4,V4,X4,Y4,Z4,D5,E5,F5,G5,H5,I5,J5,O5,P5,Q5,U5,V5,X5,Y5,Z5,o5,y5,D6,F6,G6,H6,J6,L6,O6,P6,U6,V6,X6,Y6,o6,A7,D7,F7,G7,H7,I7,J7,N7,O7,P7,Q7,U7,V7,X7,Y7,Z7,l7,o7,y7,A8,D8,E8,F8,G8,H8,↓reduceIte,Nat.reduceEqDiff,I8,J8,L8,N8,O8,P8,Q8,U8,V8,X8,Y8,Z8,o8,y8,C9,D9,E9,F9,G9,H9,I9,J9,L9,N9,Nat.reduceAdd,y9,A_,B_,C_,D_,O9,P9,E_,F_]
    refine S.ret ?_
    try simp only [Q4, V4]
    subst hF
    simp only [finish, endMarks]
    rw [show Tryz.f11.results.toList = [.tmp 2] from rfl]
    simp (disch := first | omega | (simp only [D8, I8] <;> omega) | decide) only [resA, o5, J6, H6, O6, L6, L8, N8, E8, F8, result1]
    exact hKr _ rfl
  | true =>
  rw [hi, Bool.not_true, cond_false] at hKr
  obtain ⟨hn1, hn2, hn3, hn4⟩ := shape_true hi
  rw [hn1] at hKr ⊢
  obtain ⟨b0, hb0⟩ : ∃ b, s[0]? = some b := ⟨s[0]'(by omega), List.getElem?_eq_getElem _⟩
  rw [hb0, Option.getD_some] at hKr
  -- what comes behind the tests
  have rest : ∀ (t : T Value), tget t 0 = .string ⟨⟨s⟩⟩ → tget t 3 = .int .i64 (nDig s : Int) → tget t 4 = .bool (shapeL s).2.1 →
      (∀ x : Int, (bif (shapeL s).2.1 then 8 * numD (s.take (nDig s)) + (((s[nDig s + 1]?.getD 0).toNat : Int) - 48) else 8 * numD (s.take (nDig s))) = x → K (.int .i64 x) h0 = true) →
      R 62 none (restC 3 ((Tryz.f11.body).getD .skip)) t h0 [] KF = true := by
    intro t t0 t3 t4 hKx
    simp only [Tryz.f11, Option.getD_some, restC]
    repeat refine S.seq ?_
    refine S.region ?_
    simp (disch := first | omega | (simp only [D8, I8] <;> omega) | decide) only [O0,U0,X0,Y0,O1,U1,Y1,U2,Y2,Y9,Z9,l9,o9,x9,J3,O3,Q3,U3,V3,X3,Y3,I4,J4,O4,Q4,U4,V4,X4,Y4,Z4,D5,E5,F5,G5,H5,I5,J5,O5,P5,Q5,U5,V5,X5,Y5,Z5,o5,y5,D6,F6,G6,H6,J6,L6,O6,P6,U6,V6,X6,Y6,o6,A7,D7,F7,G7,H7,I7,J7,N7,O7,P7,Q7,U7,V7,X7,Y7,Z7,l7,o7,y7,A8,D8,E8,F8,G8,H8,↓reduceIte,Nat.reduceEqDiff,I8,J8,L8,N8,O8,P8,Q8,U8,V8,X8,Y8,Z8,o8,y8,C9,D9,E9,F9,G9,H9,I9,J9,L9,N9,Nat.reduceAdd,y9,A_,B_,C_,D_,O9,P9,E_,F_]
    repeat refine S.seq ?_
    refine S.region ?_
    simp (disch := first | omega | (simp only [D8, I8] <;> omega) | decide) only [O0,U0,X0,Y0,O1,U1,Y1,U2,Y2,Y9,Z9,l9,o9,x9,J3,O3,Q3,U3,V3,X3,Y3,I4,J4,O4,Q4,U4,V4,X4,Y4,Z4,D5,E5,F5,G5,H5,I5,J5,O5,P5,Q5,U5,V5,X5,Y5,Z5,o5,y5,D6,F6,G6,H6,J6,L6,O6,P6,U6,V6,X6,Y6,o6,A7,D7,F7,G7,H7,I7,J7,N7,O7,P7,Q7,U7,V7,X7,Y7,Z7,l7,o7,y7,A8,D8,E8,F8,G8,H8,↓reduceIte,Nat.reduceEqDiff,I8,J8,L8,N8,O8,P8,Q8,U8,V8,X8,Y8,Z8,o8,y8,C9,D9,E9,F9,G9,H9,I9,J9,L9,N9,Nat.reduceAdd,y9,A_,B_,C_,D_,O9,P9,E_,F_]
    repeat refine S.seq ?_
    refine S.block ?_
    generalize hKK : BlockK 0 (seqK R 62 none _ KF) = KB
    have hKB : ∀ t : T Value, tget t 0 = .string ⟨⟨s⟩⟩ → tget t 3 = .int .i64 (nDig s : Int) → tget t 4 = .bool (shapeL s).2.1 → tget t 6 = .int .i64 (numD (s.take (nDig s))) → KB (.exit 0) t h0 [] = true := by
      intro t t0 t3 t4 t6
      subst hKK
      have hb1 := numD_bnd s (nDig s) hnl
      have hb2 := bnd_le (nDig s) hn3
      simp (disch := first | omega | (simp only [D8, I8] <;> omega) | decide) only [O0,U0,X0,Y0,O1,U1,Y1,U2,Y2,Y9,Z9,l9,o9,x9,J3,O3,Q3,U3,V3,X3,Y3,I4,J4,O4,Q4,U4,V4,X4,Y4,Z4,D5,E5,F5,G5,H5,I5,J5,O5,P5,Q5,U5,V5,X5,Y5,Z5,o5,y5,D6,F6,G6,H6,J6,L6,O6,P6,U6,V6,X6,Y6,o6,A7,D7,F7,G7,H7,I7,J7,N7,O7,P7,Q7,U7,V7,X7,Y7,Z7,l7,o7,y7,A8,D8,E8,F8,G8,H8,↓reduceIte,Nat.reduceEqDiff,I8,J8,L8,N8,O8,P8,Q8,U8,V8,X8,Y8,Z8,o8,y8,C9,D9,E9,F9,G9,H9,I9,J9,L9,N9,Nat.reduceAdd,y9,A_,B_,C_,D_,O9,P9,E_,F_]
      repeat refine S.seq ?_
      refine S.region ?_
      simp (disch := first | omega | (simp only [D8, I8] <;> omega) | decide) only [O0,U0,X0,Y0,O1,U1,Y1,U2,Y2,Y9,Z9,l9,o9,x9,J3,O3,Q3,U3,V3,X3,Y3,I4,J4,O4,Q4,U4,V4,X4,Y4,Z4,D5,E5,F5,G5,H5,I5,J5,O5,P5,Q5,U5,V5,X5,Y5,Z5,o5,y5,D6,F6,G6,H6,J6,L6,O6,P6,U6,V6,X6,Y6,o6,A7,D7,F7,G7,H7,I7,J7,N7,O7,P7,Q7,U7,V7,X7,Y7,Z7,l7,o7,y7,A8,D8,E8,F8,G8,H8,↓reduceIte,Nat.reduceEqDiff,I8,J8,L8,N8,O8,P8,Q8,U8,V8,X8,Y8,Z8,o8,y8,C9,D9,E9,F9,G9,H9,I9,J9,L9,N9,Nat.reduceAdd,y9,A_,B_,C_,D_,O9,P9,E_,F_,t6]
      repeat refine S.seq ?_
      refine S.region ?_
      simp (disch := first | omega | (simp only [D8, I8] <;> omega) | decide) only [O0,U0,X0,Y0,O1,U1,Y1,U2,Y2,Y9,Z9,l9,o9,x9,J3,O3,Q3,U3,V3,X3,Y3,I4,J4,O4,Q4,U4,V4,X4,Y4,Z4,D5,E5,F5,G5,H5,I5,J5,O5,P5,Q5,U5,V5,X5,Y5,Z5,o5,y5,D6,F6,G6,H6,J6,L6,O6,P6,U6,V6,X6,Y6,o6,A7,D7,F7,G7,H7,I7,J7,N7,O7,P7,Q7,U7,V7,X7,Y7,Z7,l7,o7,y7,A8,D8,E8,F8,G8,H8,↓reduceIte,Nat.reduceEqDiff,I8,J8,L8,N8,O8,P8,Q8,U8,V8,X8,Y8,Z8,o8,y8,C9,D9,E9,F9,G9,H9,I9,J9,L9,N9,Nat.reduceAdd,y9,A_,B_,C_,D_,O9,P9,E_,F_,t4]
      cases hp : (shapeL s).2.1 with
      | false =>
        rw [hp, cond_false] at hKx
        repeat refine S.seq ?_
        refine S.cond (v := false) (by first | rfl | (simp (disch := first | omega | (simp only [D8, I8] <;> omega) | decide) only [O0,U0,X0,Y0,O1,U1,Y1,U2,Y2,Y9,Z9,l9,o9,x9,J3,O3,Q3,U3,V3,X3,Y3,I4,J4,O4,Q4,U4,V4,X4,Y4,Z4,D5,E5,F5,G5,H5,I5,J5,O5,P5,Q5,U5,V5,X5,Y5,Z5,o5,y5,D6,F6,G6,H6,J6,L6,O6,P6,U6,V6,X6,Y6,o6,A7,D7,F7,G7,H7,I7,J7,N7,O7,P7,Q7,U7,V7,X7,Y7,Z7,l7,o7,y7,A8,D8,E8,F8,G8,H8,↓reduceIte,Nat.reduceEqDiff,I8,J8,L8,N8,O8,P8,Q8,U8,V8,X8,Y8,Z8,o8,y8,C9,D9,E9,F9,G9,H9,I9,J9,L9,N9,Nat.reduceAdd,y9,A_,B_,C_,D_,O9,P9,E_,F_,hp] <;> rfl)) (fun e => by cases e) (fun _ => ?_)
        repeat refine S.seq ?_
        refine S.skip ?_
        simp (disch := first | omega | (simp only [D8, I8] <;> omega) | decide) only [O0,U0,X0,Y0,O1,U1,Y1,U2,Y2,Y9,Z9,l9,o9,x9,J3,O3,Q3,U3,V3,X3,Y3,I4,J4,O4,Q4,U4,V4,X4,Y4,Z4,D5,E5,F5,G5,H5,I5,J5,O5,P5,Q5,U5,V5,X5,Y5,Z5,o5,y5,D6,F6,G6,H6,J6,L6,O6,P6,U6,V6,X6,Y6,o6,A7,D7,F7,G7,H7,I7,J7,N7,O7,P7,Q7,U7,V7,X7,Y7,Z7,l7,o7,y7,A8,D8,E8,F8,G8,H8,↓reduceIte,Nat.reduceEqDiff,I8,J8,L8,N8,O8,P8,Q8,U8,V8,X8,Y8,Z8,o8,y8,C9,D9,E9,F9,G9,H9,I9,J9,L9,N9,Nat.reduceAdd,y9,A_,B_,C_,D_,O9,P9,E_,F_]
        repeat refine S.seq ?_
        refine S.region ?_
        simp (disch := first | omega | (simp only [D8, I8] <;> omega) | decide) only [O0,U0,X0,Y0,O1,U1,Y1,U2,Y2,Y9,Z9,l9,o9,x9,J3,O3,Q3,U3,V3,X3,Y3,I4,J4,O4,Q4,U4,V4,X4,Y4,Z4,D5,E5,F5,G5,H5,I5,J5,O5,P5,Q5,U5,V5,X5,Y5,Z5,o5,y5,D6,F6,G6,H6,J6,L6,O6,P6,U6,V6,X6,Y6,o6,A7,D7,F7,G7,H7,I7,J7,N7,O7,P7,Q7,U7,V7,X7,Y7,Z7,l7,o7,y7,A8,D8,E8,F8,G8,H8,↓reduceIte,Nat.reduceEqDiff,I8,J8,L8,N8,O8,P8,Q8,U8,V8,X8,Y8,Z8,o8,y8,C9,D9,E9,F9,G9,H9,I9,J9,L9,N9,Nat.reduceAdd,y9,A_,B_,C_,D_,O9,P9,E_,F_]
        refine S.ret ?_
        try simp only [Q4, V4]
        subst hF
        simp only [finish, endMarks]
        rw [show Tryz.f11.results.toList = [.tmp 2] from rfl]
        simp (disch := first | omega | (simp only [D8, I8] <;> omega) | decide) only [resA, o5, J6, H6, O6, L6, L8, N8, E8, F8, result1]
        exact hKx _ rfl
      | true =>
        rw [hp, cond_true] at hKx
        have hl2 := hn4 hp
        obtain ⟨b1, hb1x⟩ : ∃ b, s[nDig s + 1]? = some b := ⟨s[nDig s + 1]'(by omega), List.getElem?_eq_getElem _⟩
        rw [hb1x, Option.getD_some] at hKx
        have hlt1 := b1.toNat_lt
        have hix1 : ∀ (t : T Value) (o : Oper), rIndex Tryz.prog t o 9 (.int .i64 ((nDig s : Int) + 1)) (.string ⟨⟨s⟩⟩) = some (.int .u8 (b1.toNat : Int)) := fun t o => index_str (i := nDig s + 1) st9 hb1x
        repeat refine S.seq ?_
        refine S.cond (v := true) (by first | rfl | (simp (disch := first | omega | (simp only [D8, I8] <;> omega) | decide) only [O0,U0,X0,Y0,O1,U1,Y1,U2,Y2,Y9,Z9,l9,o9,x9,J3,O3,Q3,U3,V3,X3,Y3,I4,J4,O4,Q4,U4,V4,X4,Y4,Z4,D5,E5,F5,G5,H5,I5,J5,O5,P5,Q5,U5,V5,X5,Y5,Z5,o5,y5,D6,F6,G6,H6,J6,L6,O6,P6,U6,V6,X6,Y6,o6,A7,D7,F7,G7,H7,I7,J7,N7,O7,P7,Q7,U7,V7,X7,Y7,Z7,l7,o7,y7,A8,D8,E8,F8,G8,H8,↓reduceIte,Nat.reduceEqDiff,I8,J8,L8,N8,O8,P8,Q8,U8,V8,X8,Y8,Z8,o8,y8,C9,D9,E9,F9,G9,H9,I9,J9,L9,N9,Nat.reduceAdd,y9,A_,B_,C_,D_,O9,P9,E_,F_,hp] <;> rfl)) (fun _ => ?_) (fun e => by cases e)
        repeat refine S.seq ?_
        refine S.region ?_
        simp (disch := first | omega | (simp only [D8, I8] <;> omega) | decide) only [O0,U0,X0,Y0,O1,U1,Y1,U2,Y2,Y9,Z9,l9,o9,x9,J3,O3,Q3,U3,V3,X3,Y3,I4,J4,O4,Q4,U4,V4,X4,Y4,Z4,D5,E5,F5,G5,H5,I5,J5,O5,P5,Q5,U5,V5,X5,Y5,Z5,o5,y5,D6,F6,G6,H6,J6,L6,O6,P6,U6,V6,X6,Y6,o6,A7,D7,F7,G7,H7,I7,J7,N7,O7,P7,Q7,U7,V7,X7,Y7,Z7,l7,o7,y7,A8,D8,E8,F8,G8,H8,↓reduceIte,Nat.reduceEqDiff,I8,J8,L8,N8,O8,P8,Q8,U8,V8,X8,Y8,Z8,o8,y8,C9,D9,E9,F9,G9,H9,I9,J9,L9,N9,Nat.reduceAdd,y9,A_,B_,C_,D_,O9,P9,E_,F_,t0,t3,rd_index,hix1,w_convert,nd53,rd_conv,conv53]
        repeat refine S.seq ?_
        refine S.region ?_
        simp (disch := first | omega | (simp only [D8, I8] <;> omega) | decide) only [O0,U0,X0,Y0,O1,U1,Y1,U2,Y2,Y9,Z9,l9,o9,x9,J3,O3,Q3,U3,V3,X3,Y3,I4,J4,O4,Q4,U4,V4,X4,Y4,Z4,D5,E5,F5,G5,H5,I5,J5,O5,P5,Q5,U5,V5,X5,Y5,Z5,o5,y5,D6,F6,G6,H6,J6,L6,O6,P6,U6,V6,X6,Y6,o6,A7,D7,F7,G7,H7,I7,J7,N7,O7,P7,Q7,U7,V7,X7,Y7,Z7,l7,o7,y7,A8,D8,E8,F8,G8,H8,↓reduceIte,Nat.reduceEqDiff,I8,J8,L8,N8,O8,P8,Q8,U8,V8,X8,Y8,Z8,o8,y8,C9,D9,E9,F9,G9,H9,I9,J9,L9,N9,Nat.reduceAdd,y9,A_,B_,C_,D_,O9,P9,E_,F_]
        refine S.ret ?_
        try simp only [Q4, V4]
        subst hF
        simp only [finish, endMarks]
        rw [show Tryz.f11.results.toList = [.tmp 2] from rfl]
        simp (disch := first | omega | (simp only [D8, I8] <;> omega) | decide) only [resA, o5, J6, H6, O6, L6, L8, N8, E8, F8, result1]
        exact hKx _ rfl
    clear hKK
    refine S.loop (ι := Nat) (IV s h0 (nDig s) (.bool (shapeL s).2.1)) (fun k => nDig s - k) ?_ 0 _ _ ?_
    · intro k t h ⟨hk, hh, t0, t3, t4, t6, t7⟩ K' hn he
      subst hh
      repeat refine S.seq ?_
      refine S.region ?_
      simp (disch := first | omega | (simp only [D8, I8] <;> omega) | decide) only [O0,U0,X0,Y0,O1,U1,Y1,U2,Y2,Y9,Z9,l9,o9,x9,J3,O3,Q3,U3,V3,X3,Y3,I4,J4,O4,Q4,U4,V4,X4,Y4,Z4,D5,E5,F5,G5,H5,I5,J5,O5,P5,Q5,U5,V5,X5,Y5,Z5,o5,y5,D6,F6,G6,H6,J6,L6,O6,P6,U6,V6,X6,Y6,o6,A7,D7,F7,G7,H7,I7,J7,N7,O7,P7,Q7,U7,V7,X7,Y7,Z7,l7,o7,y7,A8,D8,E8,F8,G8,H8,↓reduceIte,Nat.reduceEqDiff,I8,J8,L8,N8,O8,P8,Q8,U8,V8,X8,Y8,Z8,o8,y8,C9,D9,E9,F9,G9,H9,I9,J9,L9,N9,Nat.reduceAdd,y9,A_,B_,C_,D_,O9,P9,E_,F_,t3,t7]
      repeat refine S.seq ?_
      refine S.cond (v := decide ((k : Int) < (nDig s : Int))) (by first | rfl | (simp (disch := first | omega | (simp only [D8, I8] <;> omega) | decide) only [O0,U0,X0,Y0,O1,U1,Y1,U2,Y2,Y9,Z9,l9,o9,x9,J3,O3,Q3,U3,V3,X3,Y3,I4,J4,O4,Q4,U4,V4,X4,Y4,Z4,D5,E5,F5,G5,H5,I5,J5,O5,P5,Q5,U5,V5,X5,Y5,Z5,o5,y5,D6,F6,G6,H6,J6,L6,O6,P6,U6,V6,X6,Y6,o6,A7,D7,F7,G7,H7,I7,J7,N7,O7,P7,Q7,U7,V7,X7,Y7,Z7,l7,o7,y7,A8,D8,E8,F8,G8,H8,↓reduceIte,Nat.reduceEqDiff,I8,J8,L8,N8,O8,P8,Q8,U8,V8,X8,Y8,Z8,o8,y8,C9,D9,E9,F9,G9,H9,I9,J9,L9,N9,Nat.reduceAdd,y9,A_,B_,C_,D_,O9,P9,E_,F_] <;> rfl)) (fun e => ?_) (fun e => ?_)
      · have hkn : k < nDig s := by have := of_decide_eq_true e; omega
        clear e
        obtain ⟨b, hb⟩ : ∃ b, s[k]? = some b := ⟨s[k]'(by omega), List.getElem?_eq_getElem _⟩
        have hb1 := numD_bnd s k (by omega)
        have hb2 := bnd_le k (by omega)
        have hltb := b.toNat_lt
        have hnx : 10 * numD (s.take k) + (b.toNat : Int) - 48 = numD (s.take (k + 1)) := by
          rw [List.take_add_one, hb, show (some b).toList = [b] from rfl, numD_snoc]
        repeat refine S.seq ?_
        refine S.skip ?_
        simp (disch := first | omega | (simp only [D8, I8] <;> omega) | decide) only [O0,U0,X0,Y0,O1,U1,Y1,U2,Y2,Y9,Z9,l9,o9,x9,J3,O3,Q3,U3,V3,X3,Y3,I4,J4,O4,Q4,U4,V4,X4,Y4,Z4,D5,E5,F5,G5,H5,I5,J5,O5,P5,Q5,U5,V5,X5,Y5,Z5,o5,y5,D6,F6,G6,H6,J6,L6,O6,P6,U6,V6,X6,Y6,o6,A7,D7,F7,G7,H7,I7,J7,N7,O7,P7,Q7,U7,V7,X7,Y7,Z7,l7,o7,y7,A8,D8,E8,F8,G8,H8,↓reduceIte,Nat.reduceEqDiff,I8,J8,L8,N8,O8,P8,Q8,U8,V8,X8,Y8,Z8,o8,y8,C9,D9,E9,F9,G9,H9,I9,J9,L9,N9,Nat.reduceAdd,y9,A_,B_,C_,D_,O9,P9,E_,F_]
        repeat refine S.seq ?_
        refine S.block ?_
        repeat refine S.seq ?_
        refine S.region ?_
        simp (disch := first | omega | (simp only [D8, I8] <;> omega) | decide) only [O0,U0,X0,Y0,O1,U1,Y1,U2,Y2,Y9,Z9,l9,o9,x9,J3,O3,Q3,U3,V3,X3,Y3,I4,J4,O4,Q4,U4,V4,X4,Y4,Z4,D5,E5,F5,G5,H5,I5,J5,O5,P5,Q5,U5,V5,X5,Y5,Z5,o5,y5,D6,F6,G6,H6,J6,L6,O6,P6,U6,V6,X6,Y6,o6,A7,D7,F7,G7,H7,I7,J7,N7,O7,P7,Q7,U7,V7,X7,Y7,Z7,l7,o7,y7,A8,D8,E8,F8,G8,H8,↓reduceIte,Nat.reduceEqDiff,I8,J8,L8,N8,O8,P8,Q8,U8,V8,X8,Y8,Z8,o8,y8,C9,D9,E9,F9,G9,H9,I9,J9,L9,N9,Nat.reduceAdd,y9,A_,B_,C_,D_,O9,P9,E_,F_,t0,t6,t7,rd_index,index_str st9 hb,w_convert,nd53,rd_conv,conv53]
        rw [hnx]
        repeat refine S.seq ?_
        refine S.region ?_
        simp (disch := first | omega | (simp only [D8, I8] <;> omega) | decide) only [O0,U0,X0,Y0,O1,U1,Y1,U2,Y2,Y9,Z9,l9,o9,x9,J3,O3,Q3,U3,V3,X3,Y3,I4,J4,O4,Q4,U4,V4,X4,Y4,Z4,D5,E5,F5,G5,H5,I5,J5,O5,P5,Q5,U5,V5,X5,Y5,Z5,o5,y5,D6,F6,G6,H6,J6,L6,O6,P6,U6,V6,X6,Y6,o6,A7,D7,F7,G7,H7,I7,J7,N7,O7,P7,Q7,U7,V7,X7,Y7,Z7,l7,o7,y7,A8,D8,E8,F8,G8,H8,↓reduceIte,Nat.reduceEqDiff,I8,J8,L8,N8,O8,P8,Q8,U8,V8,X8,Y8,Z8,o8,y8,C9,D9,E9,F9,G9,H9,I9,J9,L9,N9,Nat.reduceAdd,y9,A_,B_,C_,D_,O9,P9,E_,F_,t7]
        refine hn (k + 1) _ _ (by omega) ⟨by omega, rfl, ?_, ?_, ?_, ?_, ?_⟩
        all_goals (first | rfl | (simp (disch := first | omega | (simp only [D8, I8] <;> omega) | decide) only [O0,U0,X0,Y0,O1,U1,Y1,U2,Y2,Y9,Z9,l9,o9,x9,J3,O3,Q3,U3,V3,X3,Y3,I4,J4,O4,Q4,U4,V4,X4,Y4,Z4,D5,E5,F5,G5,H5,I5,J5,O5,P5,Q5,U5,V5,X5,Y5,Z5,o5,y5,D6,F6,G6,H6,J6,L6,O6,P6,U6,V6,X6,Y6,o6,A7,D7,F7,G7,H7,I7,J7,N7,O7,P7,Q7,U7,V7,X7,Y7,Z7,l7,o7,y7,A8,D8,E8,F8,G8,H8,↓reduceIte,Nat.reduceEqDiff,I8,J8,L8,N8,O8,P8,Q8,U8,V8,X8,Y8,Z8,o8,y8,C9,D9,E9,F9,G9,H9,I9,J9,L9,N9,Nat.reduceAdd,y9,A_,B_,C_,D_,O9,P9,E_,F_,t0,t3,t4,t6,t7]; done) | (simp (disch := first | omega | (simp only [D8, I8] <;> omega) | decide) only [O0,U0,X0,Y0,O1,U1,Y1,U2,Y2,Y9,Z9,l9,o9,x9,J3,O3,Q3,U3,V3,X3,Y3,I4,J4,O4,Q4,U4,V4,X4,Y4,Z4,D5,E5,F5,G5,H5,I5,J5,O5,P5,Q5,U5,V5,X5,Y5,Z5,o5,y5,D6,F6,G6,H6,J6,L6,O6,P6,U6,V6,X6,Y6,o6,A7,D7,F7,G7,H7,I7,J7,N7,O7,P7,Q7,U7,V7,X7,Y7,Z7,l7,o7,y7,A8,D8,E8,F8,G8,H8,↓reduceIte,Nat.reduceEqDiff,I8,J8,L8,N8,O8,P8,Q8,U8,V8,X8,Y8,Z8,o8,y8,C9,D9,E9,F9,G9,H9,I9,J9,L9,N9,Nat.reduceAdd,y9,A_,B_,C_,D_,O9,P9,E_,F_,t0,t3,t4,t6,t7]; rfl))
      · have hkn : k = nDig s := by have := of_decide_eq_false e; omega
        subst hkn
        refine S.exit (he _ _ _ _ (fun e => by cases e) ?_)
        refine hKB _ ?_ ?_ ?_ ?_
        all_goals (first | rfl | (simp (disch := first | omega | (simp only [D8, I8] <;> omega) | decide) only [O0,U0,X0,Y0,O1,U1,Y1,U2,Y2,Y9,Z9,l9,o9,x9,J3,O3,Q3,U3,V3,X3,Y3,I4,J4,O4,Q4,U4,V4,X4,Y4,Z4,D5,E5,F5,G5,H5,I5,J5,O5,P5,Q5,U5,V5,X5,Y5,Z5,o5,y5,D6,F6,G6,H6,J6,L6,O6,P6,U6,V6,X6,Y6,o6,A7,D7,F7,G7,H7,I7,J7,N7,O7,P7,Q7,U7,V7,X7,Y7,Z7,l7,o7,y7,A8,D8,E8,F8,G8,H8,↓reduceIte,Nat.reduceEqDiff,I8,J8,L8,N8,O8,P8,Q8,U8,V8,X8,Y8,Z8,o8,y8,C9,D9,E9,F9,G9,H9,I9,J9,L9,N9,Nat.reduceAdd,y9,A_,B_,C_,D_,O9,P9,E_,F_,t0,t3,t4,t6]; done) | (simp (disch := first | omega | (simp only [D8, I8] <;> omega) | decide) only [O0,U0,X0,Y0,O1,U1,Y1,U2,Y2,Y9,Z9,l9,o9,x9,J3,O3,Q3,U3,V3,X3,Y3,I4,J4,O4,Q4,U4,V4,X4,Y4,Z4,D5,E5,F5,G5,H5,I5,J5,O5,P5,Q5,U5,V5,X5,Y5,Z5,o5,y5,D6,F6,G6,H6,J6,L6,O6,P6,U6,V6,X6,Y6,o6,A7,D7,F7,G7,H7,I7,J7,N7,O7,P7,Q7,U7,V7,X7,Y7,Z7,l7,o7,y7,A8,D8,E8,F8,G8,H8,↓reduceIte,Nat.reduceEqDiff,I8,J8,L8,N8,O8,P8,Q8,U8,V8,X8,Y8,Z8,o8,y8,C9,D9,E9,F9,G9,H9,I9,J9,L9,N9,Nat.reduceAdd,y9,A_,B_,C_,D_,O9,P9,E_,F_,t0,t3,t4,t6]; rfl))
    · refine ⟨Nat.zero_le _, rfl, ?_, ?_, ?_, ?_, ?_⟩
      all_goals (first | rfl | (simp (disch := first | omega | (simp only [D8, I8] <;> omega) | decide) only [O0,U0,X0,Y0,O1,U1,Y1,U2,Y2,Y9,Z9,l9,o9,x9,J3,O3,Q3,U3,V3,X3,Y3,I4,J4,O4,Q4,U4,V4,X4,Y4,Z4,D5,E5,F5,G5,H5,I5,J5,O5,P5,Q5,U5,V5,X5,Y5,Z5,o5,y5,D6,F6,G6,H6,J6,L6,O6,P6,U6,V6,X6,Y6,o6,A7,D7,F7,G7,H7,I7,J7,N7,O7,P7,Q7,U7,V7,X7,Y7,Z7,l7,o7,y7,A8,D8,E8,F8,G8,H8,↓reduceIte,Nat.reduceEqDiff,I8,J8,L8,N8,O8,P8,Q8,U8,V8,X8,Y8,Z8,o8,y8,C9,D9,E9,F9,G9,H9,I9,J9,L9,N9,Nat.reduceAdd,y9,A_,B_,C_,D_,O9,P9,E_,F_,t0,t3,t4]; done) | (simp (disch := first | omega | (simp only [D8, I8] <;> omega) | decide) only [O0,U0,X0,Y0,O1,U1,Y1,U2,Y2,Y9,Z9,l9,o9,x9,J3,O3,Q3,U3,V3,X3,Y3,I4,J4,O4,Q4,U4,V4,X4,Y4,Z4,D5,E5,F5,G5,H5,I5,J5,O5,P5,Q5,U5,V5,X5,Y5,Z5,o5,y5,D6,F6,G6,H6,J6,L6,O6,P6,U6,V6,X6,Y6,o6,A7,D7,F7,G7,H7,I7,J7,N7,O7,P7,Q7,U7,V7,X7,Y7,Z7,l7,o7,y7,A8,D8,E8,F8,G8,H8,↓reduceIte,Nat.reduceEqDiff,I8,J8,L8,N8,O8,P8,Q8,U8,V8,X8,Y8,Z8,o8,y8,C9,D9,E9,F9,G9,H9,I9,J9,L9,N9,Nat.reduceAdd,y9,A_,B_,C_,D_,O9,P9,E_,F_,t0,t3,t4]; rfl))
  by_cases hA : (1 : Int) < (nDig s : Int)
  · rw [decide_eq_true hA, Bool.true_and] at hKr
    by_cases hB : (b0.toNat : Int) = 48
    · rw [decide_eq_true hB, cond_true] at hKr
      repeat refine S.seq ?_
      refine S.region ?_
      simp (disch := first | omega | (simp only [D8, I8] <;> omega) | decide) only [O0,U0,X0,Y0,O1,U1,Y1,U2,Y2,Y9,Z9,l9,o9,x9,J3,O3,Q3,U3,V3,X3,Y3,I4,J4,O4,Q4,U4,V4,X4,Y4,Z4,D5,E5,F5,G5,H5,I5,J5,O5,P5,Q5,U5,V5,X5,Y5,Z5,o5,y5,D6,F6,G6,H6,J6,L6,O6,P6,U6,V6,X6,Y6,o6,A7,D7,F7,G7,H7,I7,J7,N7,O7,P7,Q7,U7,V7,X7,Y7,Z7,l7,o7,y7,A8,D8,E8,F8,G8,H8,↓reduceIte,Nat.reduceEqDiff,I8,J8,L8,N8,O8,P8,Q8,U8,V8,X8,Y8,Z8,o8,y8,C9,D9,E9,F9,G9,H9,I9,J9,L9,N9,Nat.reduceAdd,y9,A_,B_,C_,D_,O9,P9,E_,F_,hi,V7,Bool.not_true,decide_eq_true hA,rd_index,index_str0 st9 hb0,decide_eq_true hB]
      repeat refine S.seq ?_
      refine S.cond (v := true) (by first | rfl | (simp (disch := first | omega | (simp only [D8, I8] <;> omega) | decide) only [O0,U0,X0,Y0,O1,U1,Y1,U2,Y2,Y9,Z9,l9,o9,x9,J3,O3,Q3,U3,V3,X3,Y3,I4,J4,O4,Q4,U4,V4,X4,Y4,Z4,D5,E5,F5,G5,H5,I5,J5,O5,P5,Q5,U5,V5,X5,Y5,Z5,o5,y5,D6,F6,G6,H6,J6,L6,O6,P6,U6,V6,X6,Y6,o6,A7,D7,F7,G7,H7,I7,J7,N7,O7,P7,Q7,U7,V7,X7,Y7,Z7,l7,o7,y7,A8,D8,E8,F8,G8,H8,↓reduceIte,Nat.reduceEqDiff,I8,J8,L8,N8,O8,P8,Q8,U8,V8,X8,Y8,Z8,o8,y8,C9,D9,E9,F9,G9,H9,I9,J9,L9,N9,Nat.reduceAdd,y9,A_,B_,C_,D_,O9,P9,E_,F_] <;> rfl)) (fun _ => ?_) (fun e => by cases e)
      repeat refine S.seq ?_
      refine S.region ?_
      simp (disch := first | omega | (simp only [D8, I8] <;> omega) | decide) only [O0,U0,X0,Y0,O1,U1,Y1,U2,Y2,Y9,Z9,l9,o9,x9,J3,O3,Q3,U3,V3,X3,Y3,I4,J4,O4,Q4,U4,V4,X4,Y4,Z4,D5,E5,F5,G5,H5,I5,J5,O5,P5,Q5,U5,V5,X5,Y5,Z5,o5,y5,D6,F6,G6,H6,J6,L6,O6,P6,U6,V6,X6,Y6,o6,A7,D7,F7,G7,H7,I7,J7,N7,O7,P7,Q7,U7,V7,X7,Y7,Z7,l7,o7,y7,A8,D8,E8,F8,G8,H8,↓reduceIte,Nat.reduceEqDiff,I8,J8,L8,N8,O8,P8,Q8,U8,V8,X8,Y8,Z8,o8,y8,C9,D9,E9,F9,G9,H9,I9,J9,L9,N9,Nat.reduceAdd,y9,A_,B_,C_,D_,O9,P9,E_,F_]
      refine S.ret ?_
      try simp only [Q4, V4]
      subst hF
      simp only [finish, endMarks]
      rw [show Tryz.f11.results.toList = [.tmp 2] from rfl]
      simp (disch := first | omega | (simp only [D8, I8] <;> omega) | decide) only [resA, o5, J6, H6, O6, L6, L8, N8, E8, F8, result1]
      exact hKr _ rfl
    rw [decide_eq_false hB, cond_false] at hKr
    cases hp : (shapeL s).2.1 with
    | false =>
      rw [hp, cond_false] at hKr
      repeat refine S.seq ?_
      refine S.region ?_
      simp (disch := first | omega | (simp only [D8, I8] <;> omega) | decide) only [O0,U0,X0,Y0,O1,U1,Y1,U2,Y2,Y9,Z9,l9,o9,x9,J3,O3,Q3,U3,V3,X3,Y3,I4,J4,O4,Q4,U4,V4,X4,Y4,Z4,D5,E5,F5,G5,H5,I5,J5,O5,P5,Q5,U5,V5,X5,Y5,Z5,o5,y5,D6,F6,G6,H6,J6,L6,O6,P6,U6,V6,X6,Y6,o6,A7,D7,F7,G7,H7,I7,J7,N7,O7,P7,Q7,U7,V7,X7,Y7,Z7,l7,o7,y7,A8,D8,E8,F8,G8,H8,↓reduceIte,Nat.reduceEqDiff,I8,J8,L8,N8,O8,P8,Q8,U8,V8,X8,Y8,Z8,o8,y8,C9,D9,E9,F9,G9,H9,I9,J9,L9,N9,Nat.reduceAdd,y9,A_,B_,C_,D_,O9,P9,E_,F_,hi,V7,Bool.not_true,decide_eq_true hA,rd_index,index_str0 st9 hb0,decide_eq_false hB,hp]
      repeat refine S.seq ?_
      refine S.cond (v := false) (by first | rfl | (simp (disch := first | omega | (simp only [D8, I8] <;> omega) | decide) only [O0,U0,X0,Y0,O1,U1,Y1,U2,Y2,Y9,Z9,l9,o9,x9,J3,O3,Q3,U3,V3,X3,Y3,I4,J4,O4,Q4,U4,V4,X4,Y4,Z4,D5,E5,F5,G5,H5,I5,J5,O5,P5,Q5,U5,V5,X5,Y5,Z5,o5,y5,D6,F6,G6,H6,J6,L6,O6,P6,U6,V6,X6,Y6,o6,A7,D7,F7,G7,H7,I7,J7,N7,O7,P7,Q7,U7,V7,X7,Y7,Z7,l7,o7,y7,A8,D8,E8,F8,G8,H8,↓reduceIte,Nat.reduceEqDiff,I8,J8,L8,N8,O8,P8,Q8,U8,V8,X8,Y8,Z8,o8,y8,C9,D9,E9,F9,G9,H9,I9,J9,L9,N9,Nat.reduceAdd,y9,A_,B_,C_,D_,O9,P9,E_,F_] <;> rfl)) (fun e => by cases e) (fun _ => ?_)
      repeat refine S.seq ?_
      refine S.skip ?_
      simp (disch := first | omega | (simp only [D8, I8] <;> omega) | decide) only [O0,U0,X0,Y0,O1,U1,Y1,U2,Y2,Y9,Z9,l9,o9,x9,J3,O3,Q3,U3,V3,X3,Y3,I4,J4,O4,Q4,U4,V4,X4,Y4,Z4,D5,E5,F5,G5,H5,I5,J5,O5,P5,Q5,U5,V5,X5,Y5,Z5,o5,y5,D6,F6,G6,H6,J6,L6,O6,P6,U6,V6,X6,Y6,o6,A7,D7,F7,G7,H7,I7,J7,N7,O7,P7,Q7,U7,V7,X7,Y7,Z7,l7,o7,y7,A8,D8,E8,F8,G8,H8,↓reduceIte,Nat.reduceEqDiff,I8,J8,L8,N8,O8,P8,Q8,U8,V8,X8,Y8,Z8,o8,y8,C9,D9,E9,F9,G9,H9,I9,J9,L9,N9,Nat.reduceAdd,y9,A_,B_,C_,D_,O9,P9,E_,F_]
      refine rest _ ?_ ?_ ?_ (fun x e => hKr x (by rw [hp, cond_false] at e; exact e))
      all_goals (first | rfl | (simp (disch := first | omega | (simp only [D8, I8] <;> omega) | decide) only [O0,U0,X0,Y0,O1,U1,Y1,U2,Y2,Y9,Z9,l9,o9,x9,J3,O3,Q3,U3,V3,X3,Y3,I4,J4,O4,Q4,U4,V4,X4,Y4,Z4,D5,E5,F5,G5,H5,I5,J5,O5,P5,Q5,U5,V5,X5,Y5,Z5,o5,y5,D6,F6,G6,H6,J6,L6,O6,P6,U6,V6,X6,Y6,o6,A7,D7,F7,G7,H7,I7,J7,N7,O7,P7,Q7,U7,V7,X7,Y7,Z7,l7,o7,y7,A8,D8,E8,F8,G8,H8,↓reduceIte,Nat.reduceEqDiff,I8,J8,L8,N8,O8,P8,Q8,U8,V8,X8,Y8,Z8,o8,y8,C9,D9,E9,F9,G9,H9,I9,J9,L9,N9,Nat.reduceAdd,y9,A_,B_,C_,D_,O9,P9,E_,F_,hp]; done) | (simp (disch := first | omega | (simp only [D8, I8] <;> omega) | decide) only [O0,U0,X0,Y0,O1,U1,Y1,U2,Y2,Y9,Z9,l9,o9,x9,J3,O3,Q3,U3,V3,X3,Y3,I4,J4,O4,Q4,U4,V4,X4,Y4,Z4,D5,E5,F5,G5,H5,I5,J5,O5,P5,Q5,U5,V5,X5,Y5,Z5,o5,y5,D6,F6,G6,H6,J6,L6,O6,P6,U6,V6,X6,Y6,o6,A7,D7,F7,G7,H7,I7,J7,N7,O7,P7,Q7,U7,V7,X7,Y7,Z7,l7,o7,y7,A8,D8,E8,F8,G8,H8,↓reduceIte,Nat.reduceEqDiff,I8,J8,L8,N8,O8,P8,Q8,U8,V8,X8,Y8,Z8,o8,y8,C9,D9,E9,F9,G9,H9,I9,J9,L9,N9,Nat.reduceAdd,y9,A_,B_,C_,D_,O9,P9,E_,F_,hp]; rfl))
    | true =>
      rw [hp, cond_true] at hKr
      have hl2 := hn4 hp
      obtain ⟨b1, hb1x⟩ : ∃ b, s[nDig s + 1]? = some b := ⟨s[nDig s + 1]'(by omega), List.getElem?_eq_getElem _⟩
      have hix1 : ∀ (t : T Value) (o : Oper), rIndex Tryz.prog t o 9 (.int .i64 ((nDig s : Int) + 1)) (.string ⟨⟨s⟩⟩) = some (.int .u8 (b1.toNat : Int)) := fun t o => index_str (i := nDig s + 1) st9 hb1x
      rw [hb1x, Option.getD_some] at hKr
      repeat refine S.seq ?_
      refine S.region ?_
      simp (disch := first | omega | (simp only [D8, I8] <;> omega) | decide) only [O0,U0,X0,Y0,O1,U1,Y1,U2,Y2,Y9,Z9,l9,o9,x9,J3,O3,Q3,U3,V3,X3,Y3,I4,J4,O4,Q4,U4,V4,X4,Y4,Z4,D5,E5,F5,G5,H5,I5,J5,O5,P5,Q5,U5,V5,X5,Y5,Z5,o5,y5,D6,F6,G6,H6,J6,L6,O6,P6,U6,V6,X6,Y6,o6,A7,D7,F7,G7,H7,I7,J7,N7,O7,P7,Q7,U7,V7,X7,Y7,Z7,l7,o7,y7,A8,D8,E8,F8,G8,H8,↓reduceIte,Nat.reduceEqDiff,I8,J8,L8,N8,O8,P8,Q8,U8,V8,X8,Y8,Z8,o8,y8,C9,D9,E9,F9,G9,H9,I9,J9,L9,N9,Nat.reduceAdd,y9,A_,B_,C_,D_,O9,P9,E_,F_,hi,V7,Bool.not_true,decide_eq_true hA,rd_index,index_str0 st9 hb0,decide_eq_false hB,hp,hix1,w_convert,nd53,rd_conv,conv53]
      refine wr_brings (fid := 12) (first := #[]) (captured := #[]) (Post := fun v g => v = .bool (inB (b1.toNat : Int) 49 55) ∧ g = h0) (by first | rfl | (simp (disch := first | omega | (simp only [D8, I8] <;> omega) | decide) only [O0,U0,X0,Y0,O1,U1,Y1,U2,Y2,Y9,Z9,l9,o9,x9,J3,O3,Q3,U3,V3,X3,Y3,I4,J4,O4,Q4,U4,V4,X4,Y4,Z4,D5,E5,F5,G5,H5,I5,J5,O5,P5,Q5,U5,V5,X5,Y5,Z5,o5,y5,D6,F6,G6,H6,J6,L6,O6,P6,U6,V6,X6,Y6,o6,A7,D7,F7,G7,H7,I7,J7,N7,O7,P7,Q7,U7,V7,X7,Y7,Z7,l7,o7,y7,A8,D8,E8,F8,G8,H8,↓reduceIte,Nat.reduceEqDiff,I8,J8,L8,N8,O8,P8,Q8,U8,V8,X8,Y8,Z8,o8,y8,C9,D9,E9,F9,G9,H9,I9,J9,L9,N9,Nat.reduceAdd,y9,A_,B_,C_,D_,O9,P9,E_,F_] <;> rfl)) (hoff _ _ _ rfl) (by simp (disch := first | omega | (simp only [D8, I8] <;> omega) | decide) only [O0,U0,X0,Y0,O1,U1,Y1,U2,Y2,Y9,Z9,l9,o9,x9,J3,O3,Q3,U3,V3,X3,Y3,I4,J4,O4,Q4,U4,V4,X4,Y4,Z4,D5,E5,F5,G5,H5,I5,J5,O5,P5,Q5,U5,V5,X5,Y5,Z5,o5,y5,D6,F6,G6,H6,J6,L6,O6,P6,U6,V6,X6,Y6,o6,A7,D7,F7,G7,H7,I7,J7,N7,O7,P7,Q7,U7,V7,X7,Y7,Z7,l7,o7,y7,A8,D8,E8,F8,G8,H8,↓reduceIte,Nat.reduceEqDiff,I8,J8,L8,N8,O8,P8,Q8,U8,V8,X8,Y8,Z8,o8,y8,C9,D9,E9,F9,G9,H9,I9,J9,L9,N9,Nat.reduceAdd,y9,A_,B_,C_,D_,O9,P9,E_,F_]; exact in_y S _ _ _ _) ?_
      rintro v g - ⟨e1, e2⟩
      subst e1
      rw [e2]
      clear e2 g
      cases hin : inB (b1.toNat : Int) 49 55 with
      | false =>
        rw [hin, cond_false] at hKr
        simp (disch := first | omega | (simp only [D8, I8] <;> omega) | decide) only [O0,U0,X0,Y0,O1,U1,Y1,U2,Y2,Y9,Z9,l9,o9,x9,J3,O3,Q3,U3,V3,X3,Y3,I4,J4,O4,Q4,U4,V4,X4,Y4,Z4,D5,E5,F5,G5,H5,I5,J5,O5,P5,Q5,U5,V5,X5,Y5,Z5,o5,y5,D6,F6,G6,H6,J6,L6,O6,P6,U6,V6,X6,Y6,o6,A7,D7,F7,G7,H7,I7,J7,N7,O7,P7,Q7,U7,V7,X7,Y7,Z7,l7,o7,y7,A8,D8,E8,F8,G8,H8,↓reduceIte,Nat.reduceEqDiff,I8,J8,L8,N8,O8,P8,Q8,U8,V8,X8,Y8,Z8,o8,y8,C9,D9,E9,F9,G9,H9,I9,J9,L9,N9,Nat.reduceAdd,y9,A_,B_,C_,D_,O9,P9,E_,F_,hin,V7,Bool.not_false]
        repeat refine S.seq ?_
        refine S.cond (v := true) (by first | rfl | (simp (disch := first | omega | (simp only [D8, I8] <;> omega) | decide) only [O0,U0,X0,Y0,O1,U1,Y1,U2,Y2,Y9,Z9,l9,o9,x9,J3,O3,Q3,U3,V3,X3,Y3,I4,J4,O4,Q4,U4,V4,X4,Y4,Z4,D5,E5,F5,G5,H5,I5,J5,O5,P5,Q5,U5,V5,X5,Y5,Z5,o5,y5,D6,F6,G6,H6,J6,L6,O6,P6,U6,V6,X6,Y6,o6,A7,D7,F7,G7,H7,I7,J7,N7,O7,P7,Q7,U7,V7,X7,Y7,Z7,l7,o7,y7,A8,D8,E8,F8,G8,H8,↓reduceIte,Nat.reduceEqDiff,I8,J8,L8,N8,O8,P8,Q8,U8,V8,X8,Y8,Z8,o8,y8,C9,D9,E9,F9,G9,H9,I9,J9,L9,N9,Nat.reduceAdd,y9,A_,B_,C_,D_,O9,P9,E_,F_] <;> rfl)) (fun _ => ?_) (fun e => by cases e)
        repeat refine S.seq ?_
        refine S.region ?_
        simp (disch := first | omega | (simp only [D8, I8] <;> omega) | decide) only [O0,U0,X0,Y0,O1,U1,Y1,U2,Y2,Y9,Z9,l9,o9,x9,J3,O3,Q3,U3,V3,X3,Y3,I4,J4,O4,Q4,U4,V4,X4,Y4,Z4,D5,E5,F5,G5,H5,I5,J5,O5,P5,Q5,U5,V5,X5,Y5,Z5,o5,y5,D6,F6,G6,H6,J6,L6,O6,P6,U6,V6,X6,Y6,o6,A7,D7,F7,G7,H7,I7,J7,N7,O7,P7,Q7,U7,V7,X7,Y7,Z7,l7,o7,y7,A8,D8,E8,F8,G8,H8,↓reduceIte,Nat.reduceEqDiff,I8,J8,L8,N8,O8,P8,Q8,U8,V8,X8,Y8,Z8,o8,y8,C9,D9,E9,F9,G9,H9,I9,J9,L9,N9,Nat.reduceAdd,y9,A_,B_,C_,D_,O9,P9,E_,F_]
        refine S.ret ?_
        try simp only [Q4, V4]
        subst hF
        simp only [finish, endMarks]
        rw [show Tryz.f11.results.toList = [.tmp 2] from rfl]
        simp (disch := first | omega | (simp only [D8, I8] <;> omega) | decide) only [resA, o5, J6, H6, O6, L6, L8, N8, E8, F8, result1]
        exact hKr _ rfl
      | true =>
        rw [hin, cond_true] at hKr
        simp (disch := first | omega | (simp only [D8, I8] <;> omega) | decide) only [O0,U0,X0,Y0,O1,U1,Y1,U2,Y2,Y9,Z9,l9,o9,x9,J3,O3,Q3,U3,V3,X3,Y3,I4,J4,O4,Q4,U4,V4,X4,Y4,Z4,D5,E5,F5,G5,H5,I5,J5,O5,P5,Q5,U5,V5,X5,Y5,Z5,o5,y5,D6,F6,G6,H6,J6,L6,O6,P6,U6,V6,X6,Y6,o6,A7,D7,F7,G7,H7,I7,J7,N7,O7,P7,Q7,U7,V7,X7,Y7,Z7,l7,o7,y7,A8,D8,E8,F8,G8,H8,↓reduceIte,Nat.reduceEqDiff,I8,J8,L8,N8,O8,P8,Q8,U8,V8,X8,Y8,Z8,o8,y8,C9,D9,E9,F9,G9,H9,I9,J9,L9,N9,Nat.reduceAdd,y9,A_,B_,C_,D_,O9,P9,E_,F_,hin,V7,Bool.not_true]
        repeat refine S.seq ?_
        refine S.cond (v := false) (by first | rfl | (simp (disch := first | omega | (simp only [D8, I8] <;> omega) | decide) only [O0,U0,X0,Y0,O1,U1,Y1,U2,Y2,Y9,Z9,l9,o9,x9,J3,O3,Q3,U3,V3,X3,Y3,I4,J4,O4,Q4,U4,V4,X4,Y4,Z4,D5,E5,F5,G5,H5,I5,J5,O5,P5,Q5,U5,V5,X5,Y5,Z5,o5,y5,D6,F6,G6,H6,J6,L6,O6,P6,U6,V6,X6,Y6,o6,A7,D7,F7,G7,H7,I7,J7,N7,O7,P7,Q7,U7,V7,X7,Y7,Z7,l7,o7,y7,A8,D8,E8,F8,G8,H8,↓reduceIte,Nat.reduceEqDiff,I8,J8,L8,N8,O8,P8,Q8,U8,V8,X8,Y8,Z8,o8,y8,C9,D9,E9,F9,G9,H9,I9,J9,L9,N9,Nat.reduceAdd,y9,A_,B_,C_,D_,O9,P9,E_,F_] <;> rfl)) (fun e => by cases e) (fun _ => ?_)
        repeat refine S.seq ?_
        refine S.skip ?_
        simp (disch := first | omega | (simp only [D8, I8] <;> omega) | decide) only [O0,U0,X0,Y0,O1,U1,Y1,U2,Y2,Y9,Z9,l9,o9,x9,J3,O3,Q3,U3,V3,X3,Y3,I4,J4,O4,Q4,U4,V4,X4,Y4,Z4,D5,E5,F5,G5,H5,I5,J5,O5,P5,Q5,U5,V5,X5,Y5,Z5,o5,y5,D6,F6,G6,H6,J6,L6,O6,P6,U6,V6,X6,Y6,o6,A7,D7,F7,G7,H7,I7,J7,N7,O7,P7,Q7,U7,V7,X7,Y7,Z7,l7,o7,y7,A8,D8,E8,F8,G8,H8,↓reduceIte,Nat.reduceEqDiff,I8,J8,L8,N8,O8,P8,Q8,U8,V8,X8,Y8,Z8,o8,y8,C9,D9,E9,F9,G9,H9,I9,J9,L9,N9,Nat.reduceAdd,y9,A_,B_,C_,D_,O9,P9,E_,F_]
        refine rest _ ?_ ?_ ?_ (fun x e => hKr x (by rw [hp, cond_true, hb1x, Option.getD_some] at e; exact e))
        all_goals (first | rfl | (simp (disch := first | omega | (simp only [D8, I8] <;> omega) | decide) only [O0,U0,X0,Y0,O1,U1,Y1,U2,Y2,Y9,Z9,l9,o9,x9,J3,O3,Q3,U3,V3,X3,Y3,I4,J4,O4,Q4,U4,V4,X4,Y4,Z4,D5,E5,F5,G5,H5,I5,J5,O5,P5,Q5,U5,V5,X5,Y5,Z5,o5,y5,D6,F6,G6,H6,J6,L6,O6,P6,U6,V6,X6,Y6,o6,A7,D7,F7,G7,H7,I7,J7,N7,O7,P7,Q7,U7,V7,X7,Y7,Z7,l7,o7,y7,A8,D8,E8,F8,G8,H8,↓reduceIte,Nat.reduceEqDiff,I8,J8,L8,N8,O8,P8,Q8,U8,V8,X8,Y8,Z8,o8,y8,C9,D9,E9,F9,G9,H9,I9,J9,L9,N9,Nat.reduceAdd,y9,A_,B_,C_,D_,O9,P9,E_,F_,hp]; done) | (simp (disch := first | omega | (simp only [D8, I8] <;> omega) | decide) only [O0,U0,X0,Y0,O1,U1,Y1,U2,Y2,Y9,Z9,l9,o9,x9,J3,O3,Q3,U3,V3,X3,Y3,I4,J4,O4,Q4,U4,V4,X4,Y4,Z4,D5,E5,F5,G5,H5,I5,J5,O5,P5,Q5,U5,V5,X5,Y5,Z5,o5,y5,D6,F6,G6,H6,J6,L6,O6,P6,U6,V6,X6,Y6,o6,A7,D7,F7,G7,H7,I7,J7,N7,O7,P7,Q7,U7,V7,X7,Y7,Z7,l7,o7,y7,A8,D8,E8,F8,G8,H8,↓reduceIte,Nat.reduceEqDiff,I8,J8,L8,N8,O8,P8,Q8,U8,V8,X8,Y8,Z8,o8,y8,C9,D9,E9,F9,G9,H9,I9,J9,L9,N9,Nat.reduceAdd,y9,A_,B_,C_,D_,O9,P9,E_,F_,hp]; rfl))
  · rw [decide_eq_false hA, Bool.false_and, cond_false] at hKr
    cases hp : (shapeL s).2.1 with
    | false =>
      rw [hp, cond_false] at hKr
      repeat refine S.seq ?_
      refine S.region ?_
      simp (disch := first | omega | (simp only [D8, I8] <;> omega) | decide) only [O0,U0,X0,Y0,O1,U1,Y1,U2,Y2,Y9,Z9,l9,o9,x9,J3,O3,Q3,U3,V3,X3,Y3,I4,J4,O4,Q4,U4,V4,X4,Y4,Z4,D5,E5,F5,G5,H5,I5,J5,O5,P5,Q5,U5,V5,X5,Y5,Z5,o5,y5,D6,F6,G6,H6,J6,L6,O6,P6,U6,V6,X6,Y6,o6,A7,D7,F7,G7,H7,I7,J7,N7,O7,P7,Q7,U7,V7,X7,Y7,Z7,l7,o7,y7,A8,D8,E8,F8,G8,H8,↓reduceIte,Nat.reduceEqDiff,I8,J8,L8,N8,O8,P8,Q8,U8,V8,X8,Y8,Z8,o8,y8,C9,D9,E9,F9,G9,H9,I9,J9,L9,N9,Nat.reduceAdd,y9,A_,B_,C_,D_,O9,P9,E_,F_,hi,V7,Bool.not_true,decide_eq_false hA,hp]
      repeat refine S.seq ?_
      refine S.cond (v := false) (by first | rfl | (simp (disch := first | omega | (simp only [D8, I8] <;> omega) | decide) only [O0,U0,X0,Y0,O1,U1,Y1,U2,Y2,Y9,Z9,l9,o9,x9,J3,O3,Q3,U3,V3,X3,Y3,I4,J4,O4,Q4,U4,V4,X4,Y4,Z4,D5,E5,F5,G5,H5,I5,J5,O5,P5,Q5,U5,V5,X5,Y5,Z5,o5,y5,D6,F6,G6,H6,J6,L6,O6,P6,U6,V6,X6,Y6,o6,A7,D7,F7,G7,H7,I7,J7,N7,O7,P7,Q7,U7,V7,X7,Y7,Z7,l7,o7,y7,A8,D8,E8,F8,G8,H8,↓reduceIte,Nat.reduceEqDiff,I8,J8,L8,N8,O8,P8,Q8,U8,V8,X8,Y8,Z8,o8,y8,C9,D9,E9,F9,G9,H9,I9,J9,L9,N9,Nat.reduceAdd,y9,A_,B_,C_,D_,O9,P9,E_,F_] <;> rfl)) (fun e => by cases e) (fun _ => ?_)
      repeat refine S.seq ?_
      refine S.skip ?_
      simp (disch := first | omega | (simp only [D8, I8] <;> omega) | decide) only [O0,U0,X0,Y0,O1,U1,Y1,U2,Y2,Y9,Z9,l9,o9,x9,J3,O3,Q3,U3,V3,X3,Y3,I4,J4,O4,Q4,U4,V4,X4,Y4,Z4,D5,E5,F5,G5,H5,I5,J5,O5,P5,Q5,U5,V5,X5,Y5,Z5,o5,y5,D6,F6,G6,H6,J6,L6,O6,P6,U6,V6,X6,Y6,o6,A7,D7,F7,G7,H7,I7,J7,N7,O7,P7,Q7,U7,V7,X7,Y7,Z7,l7,o7,y7,A8,D8,E8,F8,G8,H8,↓reduceIte,Nat.reduceEqDiff,I8,J8,L8,N8,O8,P8,Q8,U8,V8,X8,Y8,Z8,o8,y8,C9,D9,E9,F9,G9,H9,I9,J9,L9,N9,Nat.reduceAdd,y9,A_,B_,C_,D_,O9,P9,E_,F_]
      refine rest _ ?_ ?_ ?_ (fun x e => hKr x (by rw [hp, cond_false] at e; exact e))
      all_goals (first | rfl | (simp (disch := first | omega | (simp only [D8, I8] <;> omega) | decide) only [O0,U0,X0,Y0,O1,U1,Y1,U2,Y2,Y9,Z9,l9,o9,x9,J3,O3,Q3,U3,V3,X3,Y3,I4,J4,O4,Q4,U4,V4,X4,Y4,Z4,D5,E5,F5,G5,H5,I5,J5,O5,P5,Q5,U5,V5,X5,Y5,Z5,o5,y5,D6,F6,G6,H6,J6,L6,O6,P6,U6,V6,X6,Y6,o6,A7,D7,F7,G7,H7,I7,J7,N7,O7,P7,Q7,U7,V7,X7,Y7,Z7,l7,o7,y7,A8,D8,E8,F8,G8,H8,↓reduceIte,Nat.reduceEqDiff,I8,J8,L8,N8,O8,P8,Q8,U8,V8,X8,Y8,Z8,o8,y8,C9,D9,E9,F9,G9,H9,I9,J9,L9,N9,Nat.reduceAdd,y9,A_,B_,C_,D_,O9,P9,E_,F_,hp]; done) | (simp (disch := first | omega | (simp only [D8, I8] <;> omega) | decide) only [O0,U0,X0,Y0,O1,U1,Y1,U2,Y2,Y9,Z9,l9,o9,x9,J3,O3,Q3,U3,V3,X3,Y3,I4,J4,O4,Q4,U4,V4,X4,Y4,Z4,D5,E5,F5,G5,H5,I5,J5,O5,P5,Q5,U5,V5,X5,Y5,Z5,o5,y5,D6,F6,G6,H6,J6,L6,O6,P6,U6,V6,X6,Y6,o6,A7,D7,F7,G7,H7,I7,J7,N7,O7,P7,Q7,U7,V7,X7,Y7,Z7,l7,o7,y7,A8,D8,E8,F8,G8,H8,↓reduceIte,Nat.reduceEqDiff,I8,J8,L8,N8,O8,P8,Q8,U8,V8,X8,Y8,Z8,o8,y8,C9,D9,E9,F9,G9,H9,I9,J9,L9,N9,Nat.reduceAdd,y9,A_,B_,C_,D_,O9,P9,E_,F_,hp]; rfl))
    | true =>
      rw [hp, cond_true] at hKr
      have hl2 := hn4 hp
      obtain ⟨b1, hb1x⟩ : ∃ b, s[nDig s + 1]? = some b := ⟨s[nDig s + 1]'(by omega), List.getElem?_eq_getElem _⟩
      have hix1 : ∀ (t : T Value) (o : Oper), rIndex Tryz.prog t o 9 (.int .i64 ((nDig s : Int) + 1)) (.string ⟨⟨s⟩⟩) = some (.int .u8 (b1.toNat : Int)) := fun t o => index_str (i := nDig s + 1) st9 hb1x
      rw [hb1x, Option.getD_some] at hKr
      repeat refine S.seq ?_
      refine S.region ?_
      simp (disch := first | omega | (simp only [D8, I8] <;> omega) | decide) only [O0,U0,X0,Y0,O1,U1,Y1,U2,Y2,Y9,Z9,l9,o9,x9,J3,O3,Q3,U3,V3,X3,Y3,I4,J4,O4,Q4,U4,V4,X4,Y4,Z4,D5,E5,F5,G5,H5,I5,J5,O5,P5,Q5,U5,V5,X5,Y5,Z5,o5,y5,D6,F6,G6,H6,J6,L6,O6,P6,U6,V6,X6,Y6,o6,A7,D7,F7,G7,H7,I7,J7,N7,O7,P7,Q7,U7,V7,X7,Y7,Z7,l7,o7,y7,A8,D8,E8,F8,G8,H8,↓reduceIte,Nat.reduceEqDiff,I8,J8,L8,N8,O8,P8,Q8,U8,V8,X8,Y8,Z8,o8,y8,C9,D9,E9,F9,G9,H9,I9,J9,L9,N9,Nat.reduceAdd,y9,A_,B_,C_,D_,O9,P9,E_,F_,hi,V7,Bool.not_true,decide_eq_false hA,hp,rd_index,hix1,w_convert,nd53,rd_conv,conv53]
      refine wr_brings (fid := 12) (first := #[]) (captured := #[]) (Post := fun v g => v = .bool (inB (b1.toNat : Int) 49 55) ∧ g = h0) (by first | rfl | (simp (disch := first | omega | (simp only [D8, I8] <;> omega) | decide) only [O0,U0,X0,Y0,O1,U1,Y1,U2,Y2,Y9,Z9,l9,o9,x9,J3,O3,Q3,U3,V3,X3,Y3,I4,J4,O4,Q4,U4,V4,X4,Y4,Z4,D5,E5,F5,G5,H5,I5,J5,O5,P5,Q5,U5,V5,X5,Y5,Z5,o5,y5,D6,F6,G6,H6,J6,L6,O6,P6,U6,V6,X6,Y6,o6,A7,D7,F7,G7,H7,I7,J7,N7,O7,P7,Q7,U7,V7,X7,Y7,Z7,l7,o7,y7,A8,D8,E8,F8,G8,H8,↓reduceIte,Nat.reduceEqDiff,I8,J8,L8,N8,O8,P8,Q8,U8,V8,X8,Y8,Z8,o8,y8,C9,D9,E9,F9,G9,H9,I9,J9,L9,N9,Nat.reduceAdd,y9,A_,B_,C_,D_,O9,P9,E_,F_] <;> rfl)) (hoff _ _ _ rfl) (by simp (disch := first | omega | (simp only [D8, I8] <;> omega) | decide) only [O0,U0,X0,Y0,O1,U1,Y1,U2,Y2,Y9,Z9,l9,o9,x9,J3,O3,Q3,U3,V3,X3,Y3,I4,J4,O4,Q4,U4,V4,X4,Y4,Z4,D5,E5,F5,G5,H5,I5,J5,O5,P5,Q5,U5,V5,X5,Y5,Z5,o5,y5,D6,F6,G6,H6,J6,L6,O6,P6,U6,V6,X6,Y6,o6,A7,D7,F7,G7,H7,I7,J7,N7,O7,P7,Q7,U7,V7,X7,Y7,Z7,l7,o7,y7,A8,D8,E8,F8,G8,H8,↓reduceIte,Nat.reduceEqDiff,I8,J8,L8,N8,O8,P8,Q8,U8,V8,X8,Y8,Z8,o8,y8,C9,D9,E9,F9,G9,H9,I9,J9,L9,N9,Nat.reduceAdd,y9,A_,B_,C_,D_,O9,P9,E_,F_]; exact in_y S _ _ _ _) ?_
      rintro v g - ⟨e1, e2⟩
      subst e1
      rw [e2]
      clear e2 g
      cases hin : inB (b1.toNat : Int) 49 55 with
      | false =>
        rw [hin, cond_false] at hKr
        simp (disch := first | omega | (simp only [D8, I8] <;> omega) | decide) only [O0,U0,X0,Y0,O1,U1,Y1,U2,Y2,Y9,Z9,l9,o9,x9,J3,O3,Q3,U3,V3,X3,Y3,I4,J4,O4,Q4,U4,V4,X4,Y4,Z4,D5,E5,F5,G5,H5,I5,J5,O5,P5,Q5,U5,V5,X5,Y5,Z5,o5,y5,D6,F6,G6,H6,J6,L6,O6,P6,U6,V6,X6,Y6,o6,A7,D7,F7,G7,H7,I7,J7,N7,O7,P7,Q7,U7,V7,X7,Y7,Z7,l7,o7,y7,A8,D8,E8,F8,G8,H8,↓reduceIte,Nat.reduceEqDiff,I8,J8,L8,N8,O8,P8,Q8,U8,V8,X8,Y8,Z8,o8,y8,C9,D9,E9,F9,G9,H9,I9,J9,L9,N9,Nat.reduceAdd,y9,A_,B_,C_,D_,O9,P9,E_,F_,hin,V7,Bool.not_false]
        repeat refine S.seq ?_
        refine S.cond (v := true) (by first | rfl | (simp (disch := first | omega | (simp only [D8, I8] <;> omega) | decide) only [O0,U0,X0,Y0,O1,U1,Y1,U2,Y2,Y9,Z9,l9,o9,x9,J3,O3,Q3,U3,V3,X3,Y3,I4,J4,O4,Q4,U4,V4,X4,Y4,Z4,D5,E5,F5,G5,H5,I5,J5,O5,P5,Q5,U5,V5,X5,Y5,Z5,o5,y5,D6,F6,G6,H6,J6,L6,O6,P6,U6,V6,X6,Y6,o6,A7,D7,F7,G7,H7,I7,J7,N7,O7,P7,Q7,U7,V7,X7,Y7,Z7,l7,o7,y7,A8,D8,E8,F8,G8,H8,↓reduceIte,Nat.reduceEqDiff,I8,J8,L8,N8,O8,P8,Q8,U8,V8,X8,Y8,Z8,o8,y8,C9,D9,E9,F9,G9,H9,I9,J9,L9,N9,Nat.reduceAdd,y9,A_,B_,C_,D_,O9,P9,E_,F_] <;> rfl)) (fun _ => ?_) (fun e => by cases e)
        repeat refine S.seq ?_
        refine S.region ?_
        simp (disch := first | omega | (simp only [D8, I8] <;> omega) | decide) only [O0,U0,X0,Y0,O1,U1,Y1,U2,Y2,Y9,Z9,l9,o9,x9,J3,O3,Q3,U3,V3,X3,Y3,I4,J4,O4,Q4,U4,V4,X4,Y4,Z4,D5,E5,F5,G5,H5,I5,J5,O5,P5,Q5,U5,V5,X5,Y5,Z5,o5,y5,D6,F6,G6,H6,J6,L6,O6,P6,U6,V6,X6,Y6,o6,A7,D7,F7,G7,H7,I7,J7,N7,O7,P7,Q7,U7,V7,X7,Y7,Z7,l7,o7,y7,A8,D8,E8,F8,G8,H8,↓reduceIte,Nat.reduceEqDiff,I8,J8,L8,N8,O8,P8,Q8,U8,V8,X8,Y8,Z8,o8,y8,C9,D9,E9,F9,G9,H9,I9,J9,L9,N9,Nat.reduceAdd,y9,A_,B_,C_,D_,O9,P9,E_,F_]
        refine S.ret ?_
        try simp only [Q4, V4]
        subst hF
        simp only [finish, endMarks]
        rw [show Tryz.f11.results.toList = [.tmp 2] from rfl]
        simp (disch := first | omega | (simp only [D8, I8] <;> omega) | decide) only [resA, o5, J6, H6, O6, L6, L8, N8, E8, F8, result1]
        exact hKr _ rfl
      | true =>
        rw [hin, cond_true] at hKr
        simp (disch := first | omega | (simp only [D8, I8] <;> omega) | decide) only [O0,U0,X0,Y0,O1,U1,Y1,U2,Y2,Y9,Z9,l9,o9,x9,J3,O3,Q3,U3,V3,X3,Y3,I4,J4,O4,Q4,U4,V4,X4,Y4,Z4,D5,E5,F5,G5,H5,I5,J5,O5,P5,Q5,U5,V5,X5,Y5,Z5,o5,y5,D6,F6,G6,H6,J6,L6,O6,P6,U6,V6,X6,Y6,o6,A7,D7,F7,G7,H7,I7,J7,N7,O7,P7,Q7,U7,V7,X7,Y7,Z7,l7,o7,y7,A8,D8,E8,F8,G8,H8,↓reduceIte,Nat.reduceEqDiff,I8,J8,L8,N8,O8,P8,Q8,U8,V8,X8,Y8,Z8,o8,y8,C9,D9,E9,F9,G9,H9,I9,J9,L9,N9,Nat.reduceAdd,y9,A_,B_,C_,D_,O9,P9,E_,F_,hin,V7,Bool.not_true]
        repeat refine S.seq ?_
        refine S.cond (v := false) (by first | rfl | (simp (disch := first | omega | (simp only [D8, I8] <;> omega) | decide) only [O0,U0,X0,Y0,O1,U1,Y1,U2,Y2,Y9,Z9,l9,o9,x9,J3,O3,Q3,U3,V3,X3,Y3,I4,J4,O4,Q4,U4,V4,X4,Y4,Z4,D5,E5,F5,G5,H5,I5,J5,O5,P5,Q5,U5,V5,X5,Y5,Z5,o5,y5,D6,F6,G6,H6,J6,L6,O6,P6,U6,V6,X6,Y6,o6,A7,D7,F7,G7,H7,I7,J7,N7,O7,P7,Q7,U7,V7,X7,Y7,Z7,l7,o7,y7,A8,D8,E8,F8,G8,H8,↓reduceIte,Nat.reduceEqDiff,I8,J8,L8,N8,O8,P8,Q8,U8,V8,X8,Y8,Z8,o8,y8,C9,D9,E9,F9,G9,H9,I9,J9,L9,N9,Nat.reduceAdd,y9,A_,B_,C_,D_,O9,P9,E_,F_] <;> rfl)) (fun e => by cases e) (fun _ => ?_)
        repeat refine S.seq ?_
        refine S.skip ?_
        simp (disch := first | omega | (simp only [D8, I8] <;> omega) | decide) only [O0,U0,X0,Y0,O1,U1,Y1,U2,Y2,Y9,Z9,l9,o9,x9,J3,O3,Q3,U3,V3,X3,Y3,I4,J4,O4,Q4,U4,V4,X4,Y4,Z4,D5,E5,F5,G5,H5,I5,J5,O5,P5,Q5,U5,V5,X5,Y5,Z5,o5,y5,D6,F6,G6,H6,J6,L6,O6,P6,U6,V6,X6,Y6,o6,A7,D7,F7,G7,H7,I7,J7,N7,O7,P7,Q7,U7,V7,X7,Y7,Z7,l7,o7,y7,A8,D8,E8,F8,G8,H8,↓reduceIte,Nat.reduceEqDiff,I8,J8,L8,N8,O8,P8,Q8,U8,V8,X8,Y8,Z8,o8,y8,C9,D9,E9,F9,G9,H9,I9,J9,L9,N9,Nat.reduceAdd,y9,A_,B_,C_,D_,O9,P9,E_,F_]
        refine rest _ ?_ ?_ ?_ (fun x e => hKr x (by rw [hp, cond_true, hb1x, Option.getD_some] at e; exact e))
        all_goals (first | rfl | (simp (disch := first | omega | (simp only [D8, I8] <;> omega) | decide) only [O0,U0,X0,Y0,O1,U1,Y1,U2,Y2,Y9,Z9,l9,o9,x9,J3,O3,Q3,U3,V3,X3,Y3,I4,J4,O4,Q4,U4,V4,X4,Y4,Z4,D5,E5,F5,G5,H5,I5,J5,O5,P5,Q5,U5,V5,X5,Y5,Z5,o5,y5,D6,F6,G6,H6,J6,L6,O6,P6,U6,V6,X6,Y6,o6,A7,D7,F7,G7,H7,I7,J7,N7,O7,P7,Q7,U7,V7,X7,Y7,Z7,l7,o7,y7,A8,D8,E8,F8,G8,H8,↓reduceIte,Nat.reduceEqDiff,I8,J8,L8,N8,O8,P8,Q8,U8,V8,X8,Y8,Z8,o8,y8,C9,D9,E9,F9,G9,H9,I9,J9,L9,N9,Nat.reduceAdd,y9,A_,B_,C_,D_,O9,P9,E_,F_,hp]; done) | (simp (disch := first | omega | (simp only [D8, I8] <;> omega) | decide) only [O0,U0,X0,Y0,O1,U1,Y1,U2,Y2,Y9,Z9,l9,o9,x9,J3,O3,Q3,U3,V3,X3,Y3,I4,J4,O4,Q4,U4,V4,X4,Y4,Z4,D5,E5,F5,G5,H5,I5,J5,O5,P5,Q5,U5,V5,X5,Y5,Z5,o5,y5,D6,F6,G6,H6,J6,L6,O6,P6,U6,V6,X6,Y6,o6,A7,D7,F7,G7,H7,I7,J7,N7,O7,P7,Q7,U7,V7,X7,Y7,Z7,l7,o7,y7,A8,D8,E8,F8,G8,H8,↓reduceIte,Nat.reduceEqDiff,I8,J8,L8,N8,O8,P8,Q8,U8,V8,X8,Y8,Z8,o8,y8,C9,D9,E9,F9,G9,H9,I9,J9,L9,N9,Nat.reduceAdd,y9,A_,B_,C_,D_,O9,P9,E_,F_,hp]; rfl))
end Go.Proofs.Hs
