import Derived.Test.YtlneoecgbbbahaaGreatDoorProg
import Derived.Test.YtlneoecgbbbahaaGreatDoorEvD
import Derived.IntWalk
namespace Go.Proofs
open Go Go.Ev
set_option linter.unusedSimpArgs false

theorem s3 : sizeB Tryz.prog 3 = some (0 + 1) := by kernel_rfl
theorem s3' : sizeB Tryz.prog 3 = some 1 := by kernel_rfl
theorem p3 (c : List Value) (o : Nat) : partL Tryz.prog 3 c o = c[o]? := by kernel_rfl
theorem hr0 : fieldOf Tryz.prog 58 0 = some (0, 3) := by kernel_rfl
theorem hr1 : fieldOf Tryz.prog 58 1 = some (1, 3) := by kernel_rfl
theorem nd53 : isDig Tryz.prog 5 3 = false := by kernel_rfl
theorem afg : arrOf Tryz.prog 68 = some (5, 3) := by kernel_rfl

/-! ## Text and figures -/
def sign (b : Int) : Bool := decide (48 ≤ b) && decide (b ≤ 57)
def isTextB (a b e : Int) : Bool := bif decide (a = 0) && !decide (b = -1) then false else !decide (e = 0) && decide (e < 8)

variable {pr : Prim} {R : ExT}
set_option maxHeartbeats 4000000 in
theorem has_run (S : Ev.Steps Tryz.prog pr R) (lo hi i : Int) (K : KV) (hK : ∀ h, K (.bool (decide (lo ≤ i) && decide (i ≤ hi))) h = true) :
    R 15 none ((Tryz.f25.body).getD .skip) (argsT [.agg #[.int .i64 lo, .int .i64 hi], .int .i64 i]) ⟨.leaf, Tryz.prog.globals.size, .leaf⟩ [] (finish Tryz.prog Tryz.f25 K) = true := by
  rw [show Tryz.prog.globals.size = 4 from by kernel_rfl]
  generalize hF : finish Tryz.prog Tryz.f25 K = KF
  simp only [Tryz.f25, Option.getD_some, argsT, setArgs, fV1_eq, T.setK_eq, id]
  refine S.seq (S.region ?_)
  simp (disch := omega) only [O0,U0,X0,Y0,O1,U1,Y1,U2,Y2,Y9,Z9,l9,o9,x9,J3,O3,Q3,U3,V3,X3,Y3,I4,J4,O4,Q4,U4,V4,X4,Y4,Z4,D5,E5,F5,G5,H5,I5,J5,O5,P5,Q5,U5,V5,X5,Y5,Z5,o5,y5,D6,F6,G6,H6,J6,L6,O6,P6,U6,V6,X6,Y6,o6,A7,D7,F7,G7,H7,I7,J7,N7,O7,P7,Q7,U7,V7,X7,Y7,Z7,l7,o7,y7,A8,D8,add_get,add_fget,↓reduceIte,Nat.reduceEqDiff,I8,J8,L8,N8,O8,P8,Q8,U8,V8,X8,Y8,Z8,o8,y8,C9,D9,E9,F9,G9,H9,I9,J9,L9,N9,Nat.reduceAdd,y9,A_,B_,C_,D_]
  refine S.seq (S.region ?_)
  by_cases h1 : lo ≤ i
  · have hd : decide (lo ≤ i) = true := decide_eq_true h1
    rw [hd, Bool.true_and] at hK
    simp (disch := omega) only [O0,U0,X0,Y0,O1,U1,Y1,U2,Y2,Y9,Z9,l9,o9,x9,J3,O3,Q3,U3,V3,X3,Y3,I4,J4,O4,Q4,U4,V4,X4,Y4,Z4,D5,E5,F5,G5,H5,I5,J5,O5,P5,Q5,U5,V5,X5,Y5,Z5,o5,y5,D6,F6,G6,H6,J6,L6,O6,P6,U6,V6,X6,Y6,o6,A7,D7,F7,G7,H7,I7,J7,N7,O7,P7,Q7,U7,V7,X7,Y7,Z7,l7,o7,y7,A8,D8,add_get,add_fget,↓reduceIte,Nat.reduceEqDiff,I8,J8,L8,N8,O8,P8,Q8,U8,V8,X8,Y8,Z8,o8,y8,C9,D9,E9,F9,G9,H9,I9,J9,L9,N9,Nat.reduceAdd,y9,A_,B_,C_,D_,fieldAddr_ptr hr0 s3,fieldAddr_ptr hr1 s3,p3,hd]
    refine S.ret ?_
    try simp only [Q4, V4]
    subst hF
    simp only [finish, endMarks]
    rw [show Tryz.f25.results.toList = [.tmp 4] from rfl]
    simp (disch := omega) only [resA, o5, J6, H6, O6, L6, L8, N8, add_get, result1]
    exact hK _
  · have hd : decide (lo ≤ i) = false := decide_eq_false h1
    rw [hd, Bool.false_and] at hK
    simp (disch := omega) only [O0,U0,X0,Y0,O1,U1,Y1,U2,Y2,Y9,Z9,l9,o9,x9,J3,O3,Q3,U3,V3,X3,Y3,I4,J4,O4,Q4,U4,V4,X4,Y4,Z4,D5,E5,F5,G5,H5,I5,J5,O5,P5,Q5,U5,V5,X5,Y5,Z5,o5,y5,D6,F6,G6,H6,J6,L6,O6,P6,U6,V6,X6,Y6,o6,A7,D7,F7,G7,H7,I7,J7,N7,O7,P7,Q7,U7,V7,X7,Y7,Z7,l7,o7,y7,A8,D8,add_get,add_fget,↓reduceIte,Nat.reduceEqDiff,I8,J8,L8,N8,O8,P8,Q8,U8,V8,X8,Y8,Z8,o8,y8,C9,D9,E9,F9,G9,H9,I9,J9,L9,N9,Nat.reduceAdd,y9,A_,B_,C_,D_,fieldAddr_ptr hr0 s3,fieldAddr_ptr hr1 s3,p3,hd]
    refine S.ret ?_
    try simp only [Q4, V4]
    subst hF
    simp only [finish, endMarks]
    rw [show Tryz.f25.results.toList = [.tmp 4] from rfl]
    simp (disch := omega) only [resA, o5, J6, H6, O6, L6, L8, N8, add_get, result1]
    exact hK _

set_option maxHeartbeats 4000000 in
theorem in_run (S : Ev.Steps Tryz.prog pr R) (i lo hi : Int) (K : KV) (hK : ∀ h, K (.bool (decide (lo ≤ i) && decide (i ≤ hi))) h = true) :
    R 15 none ((Tryz.f12.body).getD .skip) (argsT [.int .i64 i, .int .i64 lo, .int .i64 hi]) ⟨.leaf, Tryz.prog.globals.size, .leaf⟩ [] (finish Tryz.prog Tryz.f12 K) = true := by
  rw [show Tryz.prog.globals.size = 4 from by kernel_rfl]
  generalize hF : finish Tryz.prog Tryz.f12 K = KF
  simp only [Tryz.f12, Option.getD_some, argsT, setArgs, fV1_eq, T.setK_eq, id]
  refine S.seq (S.region ?_)
  simp (disch := omega) only [O0,U0,X0,Y0,O1,U1,Y1,U2,Y2,Y9,Z9,l9,o9,x9,J3,O3,Q3,U3,V3,X3,Y3,I4,J4,O4,Q4,U4,V4,X4,Y4,Z4,D5,E5,F5,G5,H5,I5,J5,O5,P5,Q5,U5,V5,X5,Y5,Z5,o5,y5,D6,F6,G6,H6,J6,L6,O6,P6,U6,V6,X6,Y6,o6,A7,D7,F7,G7,H7,I7,J7,N7,O7,P7,Q7,U7,V7,X7,Y7,Z7,l7,o7,y7,A8,D8,add_get,add_fget,↓reduceIte,Nat.reduceEqDiff,I8,J8,L8,N8,O8,P8,Q8,U8,V8,X8,Y8,Z8,o8,y8,C9,D9,E9,F9,G9,H9,I9,J9,L9,N9,Nat.reduceAdd,y9,A_,B_,C_,D_]
  refine S.seq (S.region ?_)
  by_cases h1 : lo ≤ i
  · have hd : decide (lo ≤ i) = true := decide_eq_true h1
    rw [hd, Bool.true_and] at hK
    simp (disch := omega) only [O0,U0,X0,Y0,O1,U1,Y1,U2,Y2,Y9,Z9,l9,o9,x9,J3,O3,Q3,U3,V3,X3,Y3,I4,J4,O4,Q4,U4,V4,X4,Y4,Z4,D5,E5,F5,G5,H5,I5,J5,O5,P5,Q5,U5,V5,X5,Y5,Z5,o5,y5,D6,F6,G6,H6,J6,L6,O6,P6,U6,V6,X6,Y6,o6,A7,D7,F7,G7,H7,I7,J7,N7,O7,P7,Q7,U7,V7,X7,Y7,Z7,l7,o7,y7,A8,D8,add_get,add_fget,↓reduceIte,Nat.reduceEqDiff,I8,J8,L8,N8,O8,P8,Q8,U8,V8,X8,Y8,Z8,o8,y8,C9,D9,E9,F9,G9,H9,I9,J9,L9,N9,Nat.reduceAdd,y9,A_,B_,C_,D_,hd]
    refine S.ret ?_
    try simp only [Q4, V4]
    subst hF
    simp only [finish, endMarks]
    rw [show Tryz.f12.results.toList = [.tmp 6] from rfl]
    simp (disch := omega) only [resA, o5, J6, H6, O6, L6, L8, N8, add_get, result1]
    exact hK _
  · have hd : decide (lo ≤ i) = false := decide_eq_false h1
    rw [hd, Bool.false_and] at hK
    simp (disch := omega) only [O0,U0,X0,Y0,O1,U1,Y1,U2,Y2,Y9,Z9,l9,o9,x9,J3,O3,Q3,U3,V3,X3,Y3,I4,J4,O4,Q4,U4,V4,X4,Y4,Z4,D5,E5,F5,G5,H5,I5,J5,O5,P5,Q5,U5,V5,X5,Y5,Z5,o5,y5,D6,F6,G6,H6,J6,L6,O6,P6,U6,V6,X6,Y6,o6,A7,D7,F7,G7,H7,I7,J7,N7,O7,P7,Q7,U7,V7,X7,Y7,Z7,l7,o7,y7,A8,D8,add_get,add_fget,↓reduceIte,Nat.reduceEqDiff,I8,J8,L8,N8,O8,P8,Q8,U8,V8,X8,Y8,Z8,o8,y8,C9,D9,E9,F9,G9,H9,I9,J9,L9,N9,Nat.reduceAdd,y9,A_,B_,C_,D_,hd]
    refine S.ret ?_
    try simp only [Q4, V4]
    subst hF
    simp only [finish, endMarks]
    rw [show Tryz.f12.results.toList = [.tmp 6] from rfl]
    simp (disch := omega) only [resA, o5, J6, H6, O6, L6, L8, N8, add_get, result1]
    exact hK _

set_option maxHeartbeats 4000000 in
theorem isSign_run (S : Ev.Steps Tryz.prog pr R) (b : Int) (K : KV) (hK : ∀ h, K (.bool (sign b)) h = true) :
    R 9 none ((Tryz.f65.body).getD .skip) (argsT [.int .u8 b]) ⟨.leaf, Tryz.prog.globals.size, .leaf⟩ [] (finish Tryz.prog Tryz.f65 K) = true := by
  rw [show Tryz.prog.globals.size = 4 from by kernel_rfl]
  generalize hF : finish Tryz.prog Tryz.f65 K = KF
  simp only [Tryz.f65, Option.getD_some, argsT, setArgs, fV1_eq, T.setK_eq, id]
  unfold sign at hK
  refine S.seq (S.region ?_)
  simp (disch := omega) only [O0,U0,X0,Y0,O1,U1,Y1,U2,Y2,Y9,Z9,l9,o9,x9,J3,O3,Q3,U3,V3,X3,Y3,I4,J4,O4,Q4,U4,V4,X4,Y4,Z4,D5,E5,F5,G5,H5,I5,J5,O5,P5,Q5,U5,V5,X5,Y5,Z5,o5,y5,D6,F6,G6,H6,J6,L6,O6,P6,U6,V6,X6,Y6,o6,A7,D7,F7,G7,H7,I7,J7,N7,O7,P7,Q7,U7,V7,X7,Y7,Z7,l7,o7,y7,A8,D8,add_get,add_fget,↓reduceIte,Nat.reduceEqDiff,I8,J8,L8,N8,O8,P8,Q8,U8,V8,X8,Y8,Z8,o8,y8,C9,D9,E9,F9,G9,H9,I9,J9,L9,N9,Nat.reduceAdd,y9,A_,B_,C_,D_]
  refine S.seq (S.region ?_)
  by_cases h1 : (48 : Int) ≤ b
  · have hd : decide ((48 : Int) ≤ b) = true := decide_eq_true h1
    rw [hd, Bool.true_and] at hK
    simp (disch := omega) only [O0,U0,X0,Y0,O1,U1,Y1,U2,Y2,Y9,Z9,l9,o9,x9,J3,O3,Q3,U3,V3,X3,Y3,I4,J4,O4,Q4,U4,V4,X4,Y4,Z4,D5,E5,F5,G5,H5,I5,J5,O5,P5,Q5,U5,V5,X5,Y5,Z5,o5,y5,D6,F6,G6,H6,J6,L6,O6,P6,U6,V6,X6,Y6,o6,A7,D7,F7,G7,H7,I7,J7,N7,O7,P7,Q7,U7,V7,X7,Y7,Z7,l7,o7,y7,A8,D8,add_get,add_fget,↓reduceIte,Nat.reduceEqDiff,I8,J8,L8,N8,O8,P8,Q8,U8,V8,X8,Y8,Z8,o8,y8,C9,D9,E9,F9,G9,H9,I9,J9,L9,N9,Nat.reduceAdd,y9,A_,B_,C_,D_,hd]
    refine S.ret ?_
    try simp only [Q4, V4]
    subst hF
    simp only [finish, endMarks]
    rw [show Tryz.f65.results.toList = [.tmp 2] from rfl]
    simp (disch := omega) only [resA, o5, J6, H6, O6, L6, L8, N8, add_get, result1]
    exact hK _
  · have hd : decide ((48 : Int) ≤ b) = false := decide_eq_false h1
    rw [hd, Bool.false_and] at hK
    simp (disch := omega) only [O0,U0,X0,Y0,O1,U1,Y1,U2,Y2,Y9,Z9,l9,o9,x9,J3,O3,Q3,U3,V3,X3,Y3,I4,J4,O4,Q4,U4,V4,X4,Y4,Z4,D5,E5,F5,G5,H5,I5,J5,O5,P5,Q5,U5,V5,X5,Y5,Z5,o5,y5,D6,F6,G6,H6,J6,L6,O6,P6,U6,V6,X6,Y6,o6,A7,D7,F7,G7,H7,I7,J7,N7,O7,P7,Q7,U7,V7,X7,Y7,Z7,l7,o7,y7,A8,D8,add_get,add_fget,↓reduceIte,Nat.reduceEqDiff,I8,J8,L8,N8,O8,P8,Q8,U8,V8,X8,Y8,Z8,o8,y8,C9,D9,E9,F9,G9,H9,I9,J9,L9,N9,Nat.reduceAdd,y9,A_,B_,C_,D_,hd]
    refine S.ret ?_
    try simp only [Q4, V4]
    subst hF
    simp only [finish, endMarks]
    rw [show Tryz.f65.results.toList = [.tmp 2] from rfl]
    simp (disch := omega) only [resA, o5, J6, H6, O6, L6, L8, N8, add_get, result1]
    exact hK _

set_option maxHeartbeats 4000000 in
theorem figure_run (S : Ev.Steps Tryz.prog pr R) (b : Nat) (hb : b < 256) (K : KV) (hK : ∀ h, K (.int .i64 ((b : Int) - 48)) h = true) :
    R 6 none ((Tryz.f66.body).getD .skip) (argsT [.int .u8 (b : Int)]) ⟨.leaf, Tryz.prog.globals.size, .leaf⟩ [] (finish Tryz.prog Tryz.f66 K) = true := by
  rw [show Tryz.prog.globals.size = 4 from by kernel_rfl]
  generalize hF : finish Tryz.prog Tryz.f66 K = KF
  simp only [Tryz.f66, Option.getD_some, argsT, setArgs, fV1_eq, T.setK_eq, id]
  have e1 : ∀ (o : Oper) (t : T Value) (h : AHeap), rConv Tryz.prog t h o 5 3 (.int .u8 (b : Int)) = some (.int .i64 (b : Int)) := fun o t h => by
    show rConvInt Tryz.prog t o 5 3 (b : Int) = _
    have : ∀ i : Int, rConvInt Tryz.prog t o 5 3 i = some (.int .i64 (wrapF .i64 i)) := fun i => by kernel_rfl
    rw [this, wrap64 _ (by omega) (by omega)]
  refine S.seq (S.region ?_)
  simp (disch := omega) only [O0,U0,X0,Y0,O1,U1,Y1,U2,Y2,Y9,Z9,l9,o9,x9,J3,O3,Q3,U3,V3,X3,Y3,I4,J4,O4,Q4,U4,V4,X4,Y4,Z4,D5,E5,F5,G5,H5,I5,J5,O5,P5,Q5,U5,V5,X5,Y5,Z5,o5,y5,D6,F6,G6,H6,J6,L6,O6,P6,U6,V6,X6,Y6,o6,A7,D7,F7,G7,H7,I7,J7,N7,O7,P7,Q7,U7,V7,X7,Y7,Z7,l7,o7,y7,A8,D8,add_get,add_fget,↓reduceIte,Nat.reduceEqDiff,I8,J8,L8,N8,O8,P8,Q8,U8,V8,X8,Y8,Z8,o8,y8,C9,D9,E9,F9,G9,H9,I9,J9,L9,N9,Nat.reduceAdd,y9,A_,B_,C_,D_]
  refine S.seq (S.region ?_)
  simp (disch := omega) only [O0,U0,X0,Y0,O1,U1,Y1,U2,Y2,Y9,Z9,l9,o9,x9,J3,O3,Q3,U3,V3,X3,Y3,I4,J4,O4,Q4,U4,V4,X4,Y4,Z4,D5,E5,F5,G5,H5,I5,J5,O5,P5,Q5,U5,V5,X5,Y5,Z5,o5,y5,D6,F6,G6,H6,J6,L6,O6,P6,U6,V6,X6,Y6,o6,A7,D7,F7,G7,H7,I7,J7,N7,O7,P7,Q7,U7,V7,X7,Y7,Z7,l7,o7,y7,A8,D8,add_get,add_fget,↓reduceIte,Nat.reduceEqDiff,I8,J8,L8,N8,O8,P8,Q8,U8,V8,X8,Y8,Z8,o8,y8,C9,D9,E9,F9,G9,H9,I9,J9,L9,N9,Nat.reduceAdd,y9,A_,B_,C_,D_,w_convert,rd_conv,e1,nd53]
  refine S.ret ?_
  try simp only [Q4, V4]
  subst hF
  simp only [finish, endMarks]
  rw [show Tryz.f66.results.toList = [.tmp 2] from rfl]
  simp (disch := omega) only [resA, o5, J6, H6, O6, L6, L8, N8, add_get, result1]
  exact hK _

set_option maxHeartbeats 4000000 in
theorem isText_run (S : Ev.Steps Tryz.prog pr R) (a b c d e : Int) (K : KV) (hK : ∀ h, K (.bool (isTextB a b e)) h = true) :
    R 19 none ((Tryz.f45.body).getD .skip) (argsT [.agg ⟨[.int .i64 a, .int .i64 b, .int .i64 c, .int .i64 d, .int .i64 e]⟩]) ⟨.leaf, Tryz.prog.globals.size, .leaf⟩ [] (finish Tryz.prog Tryz.f45 K) = true := by
  rw [show Tryz.prog.globals.size = 4 from by kernel_rfl]
  generalize hF : finish Tryz.prog Tryz.f45 K = KF
  simp only [Tryz.f45, Option.getD_some, argsT, setArgs, fV1_eq, T.setK_eq, id]
  have i0 : rIndexAddr Tryz.prog 68 (.pointer (some ⟨4, 0, none⟩)) (.int .i64 0) = some (.pointer (some ⟨4, 0, none⟩)) := indexAddr_arr (i := 0) afg s3' (by omega)
  have i1 : rIndexAddr Tryz.prog 68 (.pointer (some ⟨4, 0, none⟩)) (.int .i64 1) = some (.pointer (some ⟨4, 1, none⟩)) := indexAddr_arr (i := 1) afg s3' (by omega)
  have i4 : rIndexAddr Tryz.prog 68 (.pointer (some ⟨4, 0, none⟩)) (.int .i64 4) = some (.pointer (some ⟨4, 4, none⟩)) := indexAddr_arr (i := 4) afg s3' (by omega)
  refine S.seq (S.region ?_)
  simp (disch := omega) only [O0,U0,X0,Y0,O1,U1,Y1,U2,Y2,Y9,Z9,l9,o9,x9,J3,O3,Q3,U3,V3,X3,Y3,I4,J4,O4,Q4,U4,V4,X4,Y4,Z4,D5,E5,F5,G5,H5,I5,J5,O5,P5,Q5,U5,V5,X5,Y5,Z5,o5,y5,D6,F6,G6,H6,J6,L6,O6,P6,U6,V6,X6,Y6,o6,A7,D7,F7,G7,H7,I7,J7,N7,O7,P7,Q7,U7,V7,X7,Y7,Z7,l7,o7,y7,A8,D8,add_get,add_fget,↓reduceIte,Nat.reduceEqDiff,I8,J8,L8,N8,O8,P8,Q8,U8,V8,X8,Y8,Z8,o8,y8,C9,D9,E9,F9,G9,H9,I9,J9,L9,N9,Nat.reduceAdd,y9,A_,B_,C_,D_]
  have tail : isTextB a b e = (!decide (e = 0) && decide (e < 8)) → ∀ (t : T Value) (h : AHeap), tget t 1 = .pointer (some ⟨4, 0, none⟩) → h.bl.get 4 = some (.cells [.int .i64 a, .int .i64 b, .int .i64 c, .int .i64 d, .int .i64 e] 4 false) →
      seqK R 19 none (restC 2 ((Tryz.f45.body).getD .skip)) KF .normal t h [] = true := by
    intro hh t h h1 hb
    rw [hh] at hK
    simp only [Tryz.f45, Option.getD_some, restC, seqK]
    refine S.seq (S.region ?_)
    by_cases h2 : e = 0
    · have hd : decide (e = 0) = true := decide_eq_true h2
      rw [hd] at hK
      simp (disch := omega) only [O0,U0,X0,Y0,O1,U1,Y1,U2,Y2,Y9,Z9,l9,o9,x9,J3,O3,Q3,U3,V3,X3,Y3,I4,J4,O4,Q4,U4,V4,X4,Y4,Z4,D5,E5,F5,G5,H5,I5,J5,O5,P5,Q5,U5,V5,X5,Y5,Z5,o5,y5,D6,F6,G6,H6,J6,L6,O6,P6,U6,V6,X6,Y6,o6,A7,D7,F7,G7,H7,I7,J7,N7,O7,P7,Q7,U7,V7,X7,Y7,Z7,l7,o7,y7,A8,D8,add_get,add_fget,↓reduceIte,Nat.reduceEqDiff,I8,J8,L8,N8,O8,P8,Q8,U8,V8,X8,Y8,Z8,o8,y8,C9,D9,E9,F9,G9,H9,I9,J9,L9,N9,Nat.reduceAdd,y9,A_,B_,C_,D_,h1,hb,i4,p3,hd,Bool.not_true]
      refine S.ret ?_
      try simp only [Q4, V4]
      subst hF
      simp only [finish, endMarks]
      rw [show Tryz.f45.results.toList = [.tmp 2] from rfl]
      simp (disch := omega) only [resA, o5, J6, H6, O6, L6, L8, N8, add_get, result1]
      exact hK _
    · have hd : decide (e = 0) = false := decide_eq_false h2
      rw [hd] at hK
      simp (disch := omega) only [O0,U0,X0,Y0,O1,U1,Y1,U2,Y2,Y9,Z9,l9,o9,x9,J3,O3,Q3,U3,V3,X3,Y3,I4,J4,O4,Q4,U4,V4,X4,Y4,Z4,D5,E5,F5,G5,H5,I5,J5,O5,P5,Q5,U5,V5,X5,Y5,Z5,o5,y5,D6,F6,G6,H6,J6,L6,O6,P6,U6,V6,X6,Y6,o6,A7,D7,F7,G7,H7,I7,J7,N7,O7,P7,Q7,U7,V7,X7,Y7,Z7,l7,o7,y7,A8,D8,add_get,add_fget,↓reduceIte,Nat.reduceEqDiff,I8,J8,L8,N8,O8,P8,Q8,U8,V8,X8,Y8,Z8,o8,y8,C9,D9,E9,F9,G9,H9,I9,J9,L9,N9,Nat.reduceAdd,y9,A_,B_,C_,D_,h1,hb,i4,p3,hd,Bool.not_false]
      refine S.ret ?_
      try simp only [Q4, V4]
      subst hF
      simp only [finish, endMarks]
      rw [show Tryz.f45.results.toList = [.tmp 2] from rfl]
      simp (disch := omega) only [resA, o5, J6, H6, O6, L6, L8, N8, add_get, result1]
      exact hK _
  refine S.seq (S.seq (S.region ?_))
  by_cases h1 : a = 0
  · have hd : decide (a = 0) = true := decide_eq_true h1
    by_cases h2 : b = -1
    · have hd2 : decide (b = -1) = true := decide_eq_true h2
      simp (disch := omega) only [O0,U0,X0,Y0,O1,U1,Y1,U2,Y2,Y9,Z9,l9,o9,x9,J3,O3,Q3,U3,V3,X3,Y3,I4,J4,O4,Q4,U4,V4,X4,Y4,Z4,D5,E5,F5,G5,H5,I5,J5,O5,P5,Q5,U5,V5,X5,Y5,Z5,o5,y5,D6,F6,G6,H6,J6,L6,O6,P6,U6,V6,X6,Y6,o6,A7,D7,F7,G7,H7,I7,J7,N7,O7,P7,Q7,U7,V7,X7,Y7,Z7,l7,o7,y7,A8,D8,add_get,add_fget,↓reduceIte,Nat.reduceEqDiff,I8,J8,L8,N8,O8,P8,Q8,U8,V8,X8,Y8,Z8,o8,y8,C9,D9,E9,F9,G9,H9,I9,J9,L9,N9,Nat.reduceAdd,y9,A_,B_,C_,D_,i0,i1,p3,hd,hd2,Bool.not_true]
      refine S.cond (v := false) (by simp (disch := omega) only [O0,U0,X0,Y0,O1,U1,Y1,U2,Y2,Y9,Z9,l9,o9,x9,J3,O3,Q3,U3,V3,X3,Y3,I4,J4,O4,Q4,U4,V4,X4,Y4,Z4,D5,E5,F5,G5,H5,I5,J5,O5,P5,Q5,U5,V5,X5,Y5,Z5,o5,y5,D6,F6,G6,H6,J6,L6,O6,P6,U6,V6,X6,Y6,o6,A7,D7,F7,G7,H7,I7,J7,N7,O7,P7,Q7,U7,V7,X7,Y7,Z7,l7,o7,y7,A8,D8,add_get,add_fget,↓reduceIte,Nat.reduceEqDiff,I8,J8,L8,N8,O8,P8,Q8,U8,V8,X8,Y8,Z8,o8,y8,C9,D9,E9,F9,G9,H9,I9,J9,L9,N9,Nat.reduceAdd,y9,A_,B_,C_,D_]) (fun e => by cases e) (fun _ => ?_)
      refine S.skip ?_
      refine tail (by simp only [isTextB, hd, hd2]; rfl) _ _ ?_ ?_
      · simp (disch := omega) only [O0,U0,X0,Y0,O1,U1,Y1,U2,Y2,Y9,Z9,l9,o9,x9,J3,O3,Q3,U3,V3,X3,Y3,I4,J4,O4,Q4,U4,V4,X4,Y4,Z4,D5,E5,F5,G5,H5,I5,J5,O5,P5,Q5,U5,V5,X5,Y5,Z5,o5,y5,D6,F6,G6,H6,J6,L6,O6,P6,U6,V6,X6,Y6,o6,A7,D7,F7,G7,H7,I7,J7,N7,O7,P7,Q7,U7,V7,X7,Y7,Z7,l7,o7,y7,A8,D8,add_get,add_fget,↓reduceIte,Nat.reduceEqDiff,I8,J8,L8,N8,O8,P8,Q8,U8,V8,X8,Y8,Z8,o8,y8,C9,D9,E9,F9,G9,H9,I9,J9,L9,N9,Nat.reduceAdd,y9,A_,B_,C_,D_]
      · simp (disch := omega) only [O0,U0,X0,Y0,O1,U1,Y1,U2,Y2,Y9,Z9,l9,o9,x9,J3,O3,Q3,U3,V3,X3,Y3,I4,J4,O4,Q4,U4,V4,X4,Y4,Z4,D5,E5,F5,G5,H5,I5,J5,O5,P5,Q5,U5,V5,X5,Y5,Z5,o5,y5,D6,F6,G6,H6,J6,L6,O6,P6,U6,V6,X6,Y6,o6,A7,D7,F7,G7,H7,I7,J7,N7,O7,P7,Q7,U7,V7,X7,Y7,Z7,l7,o7,y7,A8,D8,add_get,add_fget,↓reduceIte,Nat.reduceEqDiff,I8,J8,L8,N8,O8,P8,Q8,U8,V8,X8,Y8,Z8,o8,y8,C9,D9,E9,F9,G9,H9,I9,J9,L9,N9,Nat.reduceAdd,y9,A_,B_,C_,D_]
    · have hd2 : decide (b = -1) = false := decide_eq_false h2
      simp (disch := omega) only [O0,U0,X0,Y0,O1,U1,Y1,U2,Y2,Y9,Z9,l9,o9,x9,J3,O3,Q3,U3,V3,X3,Y3,I4,J4,O4,Q4,U4,V4,X4,Y4,Z4,D5,E5,F5,G5,H5,I5,J5,O5,P5,Q5,U5,V5,X5,Y5,Z5,o5,y5,D6,F6,G6,H6,J6,L6,O6,P6,U6,V6,X6,Y6,o6,A7,D7,F7,G7,H7,I7,J7,N7,O7,P7,Q7,U7,V7,X7,Y7,Z7,l7,o7,y7,A8,D8,add_get,add_fget,↓reduceIte,Nat.reduceEqDiff,I8,J8,L8,N8,O8,P8,Q8,U8,V8,X8,Y8,Z8,o8,y8,C9,D9,E9,F9,G9,H9,I9,J9,L9,N9,Nat.reduceAdd,y9,A_,B_,C_,D_,i0,i1,p3,hd,hd2,Bool.not_false]
      refine S.cond (v := true) (by simp (disch := omega) only [O0,U0,X0,Y0,O1,U1,Y1,U2,Y2,Y9,Z9,l9,o9,x9,J3,O3,Q3,U3,V3,X3,Y3,I4,J4,O4,Q4,U4,V4,X4,Y4,Z4,D5,E5,F5,G5,H5,I5,J5,O5,P5,Q5,U5,V5,X5,Y5,Z5,o5,y5,D6,F6,G6,H6,J6,L6,O6,P6,U6,V6,X6,Y6,o6,A7,D7,F7,G7,H7,I7,J7,N7,O7,P7,Q7,U7,V7,X7,Y7,Z7,l7,o7,y7,A8,D8,add_get,add_fget,↓reduceIte,Nat.reduceEqDiff,I8,J8,L8,N8,O8,P8,Q8,U8,V8,X8,Y8,Z8,o8,y8,C9,D9,E9,F9,G9,H9,I9,J9,L9,N9,Nat.reduceAdd,y9,A_,B_,C_,D_]) (fun _ => ?_) (fun e => by cases e)
      refine S.seq (S.region ?_)
      simp (disch := omega) only [O0,U0,X0,Y0,O1,U1,Y1,U2,Y2,Y9,Z9,l9,o9,x9,J3,O3,Q3,U3,V3,X3,Y3,I4,J4,O4,Q4,U4,V4,X4,Y4,Z4,D5,E5,F5,G5,H5,I5,J5,O5,P5,Q5,U5,V5,X5,Y5,Z5,o5,y5,D6,F6,G6,H6,J6,L6,O6,P6,U6,V6,X6,Y6,o6,A7,D7,F7,G7,H7,I7,J7,N7,O7,P7,Q7,U7,V7,X7,Y7,Z7,l7,o7,y7,A8,D8,add_get,add_fget,↓reduceIte,Nat.reduceEqDiff,I8,J8,L8,N8,O8,P8,Q8,U8,V8,X8,Y8,Z8,o8,y8,C9,D9,E9,F9,G9,H9,I9,J9,L9,N9,Nat.reduceAdd,y9,A_,B_,C_,D_]
      refine S.ret ?_
      try simp only [Q4, V4]
      subst hF
      simp only [finish, endMarks]
      rw [show Tryz.f45.results.toList = [.tmp 2] from rfl]
      simp (disch := omega) only [resA, o5, J6, H6, O6, L6, L8, N8, add_get, result1]
      have : isTextB a b e = false := by simp only [isTextB, hd, hd2]; rfl
      rw [this] at hK
      exact hK _
  · have hd : decide (a = 0) = false := decide_eq_false h1
    simp (disch := omega) only [O0,U0,X0,Y0,O1,U1,Y1,U2,Y2,Y9,Z9,l9,o9,x9,J3,O3,Q3,U3,V3,X3,Y3,I4,J4,O4,Q4,U4,V4,X4,Y4,Z4,D5,E5,F5,G5,H5,I5,J5,O5,P5,Q5,U5,V5,X5,Y5,Z5,o5,y5,D6,F6,G6,H6,J6,L6,O6,P6,U6,V6,X6,Y6,o6,A7,D7,F7,G7,H7,I7,J7,N7,O7,P7,Q7,U7,V7,X7,Y7,Z7,l7,o7,y7,A8,D8,add_get,add_fget,↓reduceIte,Nat.reduceEqDiff,I8,J8,L8,N8,O8,P8,Q8,U8,V8,X8,Y8,Z8,o8,y8,C9,D9,E9,F9,G9,H9,I9,J9,L9,N9,Nat.reduceAdd,y9,A_,B_,C_,D_,i0,i1,p3,hd]
    refine S.cond (v := false) (by simp (disch := omega) only [O0,U0,X0,Y0,O1,U1,Y1,U2,Y2,Y9,Z9,l9,o9,x9,J3,O3,Q3,U3,V3,X3,Y3,I4,J4,O4,Q4,U4,V4,X4,Y4,Z4,D5,E5,F5,G5,H5,I5,J5,O5,P5,Q5,U5,V5,X5,Y5,Z5,o5,y5,D6,F6,G6,H6,J6,L6,O6,P6,U6,V6,X6,Y6,o6,A7,D7,F7,G7,H7,I7,J7,N7,O7,P7,Q7,U7,V7,X7,Y7,Z7,l7,o7,y7,A8,D8,add_get,add_fget,↓reduceIte,Nat.reduceEqDiff,I8,J8,L8,N8,O8,P8,Q8,U8,V8,X8,Y8,Z8,o8,y8,C9,D9,E9,F9,G9,H9,I9,J9,L9,N9,Nat.reduceAdd,y9,A_,B_,C_,D_]) (fun e => by cases e) (fun _ => ?_)
    refine S.skip ?_
    refine tail (by simp only [isTextB, hd]; rfl) _ _ ?_ ?_
    · simp (disch := omega) only [O0,U0,X0,Y0,O1,U1,Y1,U2,Y2,Y9,Z9,l9,o9,x9,J3,O3,Q3,U3,V3,X3,Y3,I4,J4,O4,Q4,U4,V4,X4,Y4,Z4,D5,E5,F5,G5,H5,I5,J5,O5,P5,Q5,U5,V5,X5,Y5,Z5,o5,y5,D6,F6,G6,H6,J6,L6,O6,P6,U6,V6,X6,Y6,o6,A7,D7,F7,G7,H7,I7,J7,N7,O7,P7,Q7,U7,V7,X7,Y7,Z7,l7,o7,y7,A8,D8,add_get,add_fget,↓reduceIte,Nat.reduceEqDiff,I8,J8,L8,N8,O8,P8,Q8,U8,V8,X8,Y8,Z8,o8,y8,C9,D9,E9,F9,G9,H9,I9,J9,L9,N9,Nat.reduceAdd,y9,A_,B_,C_,D_]
    · simp (disch := omega) only [O0,U0,X0,Y0,O1,U1,Y1,U2,Y2,Y9,Z9,l9,o9,x9,J3,O3,Q3,U3,V3,X3,Y3,I4,J4,O4,Q4,U4,V4,X4,Y4,Z4,D5,E5,F5,G5,H5,I5,J5,O5,P5,Q5,U5,V5,X5,Y5,Z5,o5,y5,D6,F6,G6,H6,J6,L6,O6,P6,U6,V6,X6,Y6,o6,A7,D7,F7,G7,H7,I7,J7,N7,O7,P7,Q7,U7,V7,X7,Y7,Z7,l7,o7,y7,A8,D8,add_get,add_fget,↓reduceIte,Nat.reduceEqDiff,I8,J8,L8,N8,O8,P8,Q8,U8,V8,X8,Y8,Z8,o8,y8,C9,D9,E9,F9,G9,H9,I9,J9,L9,N9,Nat.reduceAdd,y9,A_,B_,C_,D_]

/-! ## The value of a text -/
def num1 (n x : Int) : Int := if x = -1 then n else 10 * n + x
def valI (a b c d e : Int) : Int := let n := num1 (num1 (num1 (num1 0 a) b) c) d; if e = -1 then 8 * n else 8 * n + e
def smallI (x : Int) : Prop := -1 ≤ x ∧ x ≤ 9
def numK (l : List Int) : Nat → Int
  | 0 => 0
  | k + 1 => num1 (numK l k) (l[k]?.getD 0)
theorem numK_bound (l : List Int) (hl : ∀ x, x ∈ l → smallI x) : ∀ k, k ≤ 4 → 0 ≤ numK l k + 2 * 10 ^ k ∧ numK l k < 2 * 10 ^ k
  | 0, _ => by simp [numK]
  | k + 1, hk => by
    obtain ⟨h1, h2⟩ := numK_bound l hl k (by omega)
    have h3 : smallI (l[k]?.getD 0) := by
      cases hq : l[k]? with
      | none => exact ⟨by decide, by decide⟩
      | some x => exact hl x (List.mem_of_getElem? hq)
    obtain ⟨h4, h5⟩ := h3
    simp only [numK, num1]
    rw [Int.pow_succ]
    split <;> constructor <;> omega

def IV (l : List Int) (H : AHeap) (k : Nat) (t : T Value) (h : AHeap) : Prop :=
  k ≤ 4 ∧ h = H ∧ tget t 1 = .pointer (some ⟨4, 0, none⟩) ∧ tget t 3 = .int .i64 (numK l k) ∧ tget t 5 = .int .i64 (k : Int)

set_option maxHeartbeats 4000000 in
theorem value_run (S : Ev.Steps Tryz.prog pr R) (l : List Int) (hl5 : l.length = 5) (hl : ∀ x, x ∈ l → smallI x) (K : KV) (hK : ∀ h, K (.int .i64 (if l[4]?.getD 0 = -1 then 8 * numK l 4 else 8 * numK l 4 + l[4]?.getD 0)) h = true) :
    R 29 none ((Tryz.f24.body).getD .skip) (argsT [.agg ⟨l.map (.int .i64)⟩]) ⟨.leaf, Tryz.prog.globals.size, .leaf⟩ [] (finish Tryz.prog Tryz.f24 K) = true := by
  rw [show Tryz.prog.globals.size = 4 from by kernel_rfl]
  generalize hF : finish Tryz.prog Tryz.f24 K = KF
  simp only [Tryz.f24, Option.getD_some, argsT, setArgs, fV1_eq, T.setK_eq, id]
  have hget : ∀ k, k < 5 → (l.map (Value.int .i64))[k]? = some (.int .i64 (l[k]?.getD 0)) := fun k hk => by
    rw [List.getElem?_map, List.getElem?_eq_getElem (by omega)]; rfl
  have i4 : rIndexAddr Tryz.prog 68 (.pointer (some ⟨4, 0, none⟩)) (.int .i64 4) = some (.pointer (some ⟨4, 4, none⟩)) := indexAddr_arr (i := 4) afg s3' (by omega)
  have h4 := hget 4 (by omega)
  obtain ⟨b1, b2⟩ := numK_bound l hl 4 (by omega)
  have hs4 : smallI (l[4]?.getD 0) := by
    rw [List.getElem?_eq_getElem (by omega)]; exact hl _ (List.getElem_mem _)
  refine S.seq (S.region ?_)
  simp (disch := omega) only [O0,U0,X0,Y0,O1,U1,Y1,U2,Y2,Y9,Z9,l9,o9,x9,J3,O3,Q3,U3,V3,X3,Y3,I4,J4,O4,Q4,U4,V4,X4,Y4,Z4,D5,E5,F5,G5,H5,I5,J5,O5,P5,Q5,U5,V5,X5,Y5,Z5,o5,y5,D6,F6,G6,H6,J6,L6,O6,P6,U6,V6,X6,Y6,o6,A7,D7,F7,G7,H7,I7,J7,N7,O7,P7,Q7,U7,V7,X7,Y7,Z7,l7,o7,y7,A8,D8,add_get,add_fget,↓reduceIte,Nat.reduceEqDiff,I8,J8,L8,N8,O8,P8,Q8,U8,V8,X8,Y8,Z8,o8,y8,C9,D9,E9,F9,G9,H9,I9,J9,L9,N9,Nat.reduceAdd,y9,A_,B_,C_,D_]
  refine S.seq (S.region ?_)
  simp (disch := omega) only [O0,U0,X0,Y0,O1,U1,Y1,U2,Y2,Y9,Z9,l9,o9,x9,J3,O3,Q3,U3,V3,X3,Y3,I4,J4,O4,Q4,U4,V4,X4,Y4,Z4,D5,E5,F5,G5,H5,I5,J5,O5,P5,Q5,U5,V5,X5,Y5,Z5,o5,y5,D6,F6,G6,H6,J6,L6,O6,P6,U6,V6,X6,Y6,o6,A7,D7,F7,G7,H7,I7,J7,N7,O7,P7,Q7,U7,V7,X7,Y7,Z7,l7,o7,y7,A8,D8,add_get,add_fget,↓reduceIte,Nat.reduceEqDiff,I8,J8,L8,N8,O8,P8,Q8,U8,V8,X8,Y8,Z8,o8,y8,C9,D9,E9,F9,G9,H9,I9,J9,L9,N9,Nat.reduceAdd,y9,A_,B_,C_,D_]
  refine S.seq (S.seq (S.region ?_))
  simp (disch := omega) only [O0,U0,X0,Y0,O1,U1,Y1,U2,Y2,Y9,Z9,l9,o9,x9,J3,O3,Q3,U3,V3,X3,Y3,I4,J4,O4,Q4,U4,V4,X4,Y4,Z4,D5,E5,F5,G5,H5,I5,J5,O5,P5,Q5,U5,V5,X5,Y5,Z5,o5,y5,D6,F6,G6,H6,J6,L6,O6,P6,U6,V6,X6,Y6,o6,A7,D7,F7,G7,H7,I7,J7,N7,O7,P7,Q7,U7,V7,X7,Y7,Z7,l7,o7,y7,A8,D8,add_get,add_fget,↓reduceIte,Nat.reduceEqDiff,I8,J8,L8,N8,O8,P8,Q8,U8,V8,X8,Y8,Z8,o8,y8,C9,D9,E9,F9,G9,H9,I9,J9,L9,N9,Nat.reduceAdd,y9,A_,B_,C_,D_]
  refine S.block ?_
  refine S.loop (ι := Nat) (IV l ((AHeap.mk .leaf 4 .leaf).add (l.map (Value.int .i64)))) (fun k => 4 - k) ?_ 0 _ _ ?_
  · intro k t h ⟨hk, hh, h1, h3, h5⟩ K' hn he
    subst hh
    refine S.seq (S.region ?_)
    simp (disch := omega) only [O0,U0,X0,Y0,O1,U1,Y1,U2,Y2,Y9,Z9,l9,o9,x9,J3,O3,Q3,U3,V3,X3,Y3,I4,J4,O4,Q4,U4,V4,X4,Y4,Z4,D5,E5,F5,G5,H5,I5,J5,O5,P5,Q5,U5,V5,X5,Y5,Z5,o5,y5,D6,F6,G6,H6,J6,L6,O6,P6,U6,V6,X6,Y6,o6,A7,D7,F7,G7,H7,I7,J7,N7,O7,P7,Q7,U7,V7,X7,Y7,Z7,l7,o7,y7,A8,D8,add_get,add_fget,↓reduceIte,Nat.reduceEqDiff,I8,J8,L8,N8,O8,P8,Q8,U8,V8,X8,Y8,Z8,o8,y8,C9,D9,E9,F9,G9,H9,I9,J9,L9,N9,Nat.reduceAdd,y9,A_,B_,C_,D_,h5]
    refine S.seq (S.cond (v := decide ((k : Int) < 4)) (by simp (disch := omega) only [O0,U0,X0,Y0,O1,U1,Y1,U2,Y2,Y9,Z9,l9,o9,x9,J3,O3,Q3,U3,V3,X3,Y3,I4,J4,O4,Q4,U4,V4,X4,Y4,Z4,D5,E5,F5,G5,H5,I5,J5,O5,P5,Q5,U5,V5,X5,Y5,Z5,o5,y5,D6,F6,G6,H6,J6,L6,O6,P6,U6,V6,X6,Y6,o6,A7,D7,F7,G7,H7,I7,J7,N7,O7,P7,Q7,U7,V7,X7,Y7,Z7,l7,o7,y7,A8,D8,add_get,add_fget,↓reduceIte,Nat.reduceEqDiff,I8,J8,L8,N8,O8,P8,Q8,U8,V8,X8,Y8,Z8,o8,y8,C9,D9,E9,F9,G9,H9,I9,J9,L9,N9,Nat.reduceAdd,y9,A_,B_,C_,D_,h5]) (fun e => ?_) (fun e => ?_))
    · have hk4 : k < 4 := by have := of_decide_eq_true e; omega
      clear e
      refine S.skip ?_
      simp (disch := omega) only [O0,U0,X0,Y0,O1,U1,Y1,U2,Y2,Y9,Z9,l9,o9,x9,J3,O3,Q3,U3,V3,X3,Y3,I4,J4,O4,Q4,U4,V4,X4,Y4,Z4,D5,E5,F5,G5,H5,I5,J5,O5,P5,Q5,U5,V5,X5,Y5,Z5,o5,y5,D6,F6,G6,H6,J6,L6,O6,P6,U6,V6,X6,Y6,o6,A7,D7,F7,G7,H7,I7,J7,N7,O7,P7,Q7,U7,V7,X7,Y7,Z7,l7,o7,y7,A8,D8,add_get,add_fget,↓reduceIte,Nat.reduceEqDiff,I8,J8,L8,N8,O8,P8,Q8,U8,V8,X8,Y8,Z8,o8,y8,C9,D9,E9,F9,G9,H9,I9,J9,L9,N9,Nat.reduceAdd,y9,A_,B_,C_,D_]
      refine S.seq (S.block (S.seq (S.region ?_)))
      simp (disch := omega) only [O0,U0,X0,Y0,O1,U1,Y1,U2,Y2,Y9,Z9,l9,o9,x9,J3,O3,Q3,U3,V3,X3,Y3,I4,J4,O4,Q4,U4,V4,X4,Y4,Z4,D5,E5,F5,G5,H5,I5,J5,O5,P5,Q5,U5,V5,X5,Y5,Z5,o5,y5,D6,F6,G6,H6,J6,L6,O6,P6,U6,V6,X6,Y6,o6,A7,D7,F7,G7,H7,I7,J7,N7,O7,P7,Q7,U7,V7,X7,Y7,Z7,l7,o7,y7,A8,D8,add_get,add_fget,↓reduceIte,Nat.reduceEqDiff,I8,J8,L8,N8,O8,P8,Q8,U8,V8,X8,Y8,Z8,o8,y8,C9,D9,E9,F9,G9,H9,I9,J9,L9,N9,Nat.reduceAdd,y9,A_,B_,C_,D_,h5]
      refine S.seq (S.region ?_)
      have ik : rIndexAddr Tryz.prog 68 (.pointer (some ⟨4, 0, none⟩)) (.int .i64 (k : Int)) = some (.pointer (some ⟨4, 0 + k * 1, none⟩)) := indexAddr_arr (i := k) afg s3' (by omega)
      rw [Nat.mul_one, Nat.zero_add] at ik
      have hgk := hget k (by omega)
      obtain ⟨c1, c2⟩ := numK_bound l hl k (by omega)
      have hc : (2 : Int) * 10 ^ k ≤ 2000 := by
        have : k = 0 ∨ k = 1 ∨ k = 2 ∨ k = 3 := by omega
        rcases this with rfl | rfl | rfl | rfl <;> decide
      have hsk : smallI (l[k]?.getD 0) := by
        rw [List.getElem?_eq_getElem (by omega)]; exact hl _ (List.getElem_mem _)
      obtain ⟨s1, s2⟩ := hsk
      by_cases hx : l[k]?.getD 0 = -1
      · have hd : decide (l[k]?.getD 0 = -1) = true := decide_eq_true hx
        simp (disch := omega) only [O0,U0,X0,Y0,O1,U1,Y1,U2,Y2,Y9,Z9,l9,o9,x9,J3,O3,Q3,U3,V3,X3,Y3,I4,J4,O4,Q4,U4,V4,X4,Y4,Z4,D5,E5,F5,G5,H5,I5,J5,O5,P5,Q5,U5,V5,X5,Y5,Z5,o5,y5,D6,F6,G6,H6,J6,L6,O6,P6,U6,V6,X6,Y6,o6,A7,D7,F7,G7,H7,I7,J7,N7,O7,P7,Q7,U7,V7,X7,Y7,Z7,l7,o7,y7,A8,D8,add_get,add_fget,↓reduceIte,Nat.reduceEqDiff,I8,J8,L8,N8,O8,P8,Q8,U8,V8,X8,Y8,Z8,o8,y8,C9,D9,E9,F9,G9,H9,I9,J9,L9,N9,Nat.reduceAdd,y9,A_,B_,C_,D_,h1,h3,h5,ik,p3,hgk,hd,Bool.not_true]
        refine S.cond (v := false) (by simp (disch := omega) only [O0,U0,X0,Y0,O1,U1,Y1,U2,Y2,Y9,Z9,l9,o9,x9,J3,O3,Q3,U3,V3,X3,Y3,I4,J4,O4,Q4,U4,V4,X4,Y4,Z4,D5,E5,F5,G5,H5,I5,J5,O5,P5,Q5,U5,V5,X5,Y5,Z5,o5,y5,D6,F6,G6,H6,J6,L6,O6,P6,U6,V6,X6,Y6,o6,A7,D7,F7,G7,H7,I7,J7,N7,O7,P7,Q7,U7,V7,X7,Y7,Z7,l7,o7,y7,A8,D8,add_get,add_fget,↓reduceIte,Nat.reduceEqDiff,I8,J8,L8,N8,O8,P8,Q8,U8,V8,X8,Y8,Z8,o8,y8,C9,D9,E9,F9,G9,H9,I9,J9,L9,N9,Nat.reduceAdd,y9,A_,B_,C_,D_]) (fun e => by cases e) (fun _ => ?_)
        refine S.skip ?_
        simp (disch := omega) only [O0,U0,X0,Y0,O1,U1,Y1,U2,Y2,Y9,Z9,l9,o9,x9,J3,O3,Q3,U3,V3,X3,Y3,I4,J4,O4,Q4,U4,V4,X4,Y4,Z4,D5,E5,F5,G5,H5,I5,J5,O5,P5,Q5,U5,V5,X5,Y5,Z5,o5,y5,D6,F6,G6,H6,J6,L6,O6,P6,U6,V6,X6,Y6,o6,A7,D7,F7,G7,H7,I7,J7,N7,O7,P7,Q7,U7,V7,X7,Y7,Z7,l7,o7,y7,A8,D8,add_get,add_fget,↓reduceIte,Nat.reduceEqDiff,I8,J8,L8,N8,O8,P8,Q8,U8,V8,X8,Y8,Z8,o8,y8,C9,D9,E9,F9,G9,H9,I9,J9,L9,N9,Nat.reduceAdd,y9,A_,B_,C_,D_]
        refine S.region ?_
        simp (disch := omega) only [O0,U0,X0,Y0,O1,U1,Y1,U2,Y2,Y9,Z9,l9,o9,x9,J3,O3,Q3,U3,V3,X3,Y3,I4,J4,O4,Q4,U4,V4,X4,Y4,Z4,D5,E5,F5,G5,H5,I5,J5,O5,P5,Q5,U5,V5,X5,Y5,Z5,o5,y5,D6,F6,G6,H6,J6,L6,O6,P6,U6,V6,X6,Y6,o6,A7,D7,F7,G7,H7,I7,J7,N7,O7,P7,Q7,U7,V7,X7,Y7,Z7,l7,o7,y7,A8,D8,add_get,add_fget,↓reduceIte,Nat.reduceEqDiff,I8,J8,L8,N8,O8,P8,Q8,U8,V8,X8,Y8,Z8,o8,y8,C9,D9,E9,F9,G9,H9,I9,J9,L9,N9,Nat.reduceAdd,y9,A_,B_,C_,D_,h5]
        refine hn (k + 1) _ _ (by omega) ⟨by omega, rfl, ?_, ?_, ?_⟩
        · simp (disch := omega) only [O0,U0,X0,Y0,O1,U1,Y1,U2,Y2,Y9,Z9,l9,o9,x9,J3,O3,Q3,U3,V3,X3,Y3,I4,J4,O4,Q4,U4,V4,X4,Y4,Z4,D5,E5,F5,G5,H5,I5,J5,O5,P5,Q5,U5,V5,X5,Y5,Z5,o5,y5,D6,F6,G6,H6,J6,L6,O6,P6,U6,V6,X6,Y6,o6,A7,D7,F7,G7,H7,I7,J7,N7,O7,P7,Q7,U7,V7,X7,Y7,Z7,l7,o7,y7,A8,D8,add_get,add_fget,↓reduceIte,Nat.reduceEqDiff,I8,J8,L8,N8,O8,P8,Q8,U8,V8,X8,Y8,Z8,o8,y8,C9,D9,E9,F9,G9,H9,I9,J9,L9,N9,Nat.reduceAdd,y9,A_,B_,C_,D_,h1]
        · simp (disch := omega) only [O0,U0,X0,Y0,O1,U1,Y1,U2,Y2,Y9,Z9,l9,o9,x9,J3,O3,Q3,U3,V3,X3,Y3,I4,J4,O4,Q4,U4,V4,X4,Y4,Z4,D5,E5,F5,G5,H5,I5,J5,O5,P5,Q5,U5,V5,X5,Y5,Z5,o5,y5,D6,F6,G6,H6,J6,L6,O6,P6,U6,V6,X6,Y6,o6,A7,D7,F7,G7,H7,I7,J7,N7,O7,P7,Q7,U7,V7,X7,Y7,Z7,l7,o7,y7,A8,D8,add_get,add_fget,↓reduceIte,Nat.reduceEqDiff,I8,J8,L8,N8,O8,P8,Q8,U8,V8,X8,Y8,Z8,o8,y8,C9,D9,E9,F9,G9,H9,I9,J9,L9,N9,Nat.reduceAdd,y9,A_,B_,C_,D_,h3]
          simp only [numK, num1, hx, if_pos]
        · simp (disch := omega) only [O0,U0,X0,Y0,O1,U1,Y1,U2,Y2,Y9,Z9,l9,o9,x9,J3,O3,Q3,U3,V3,X3,Y3,I4,J4,O4,Q4,U4,V4,X4,Y4,Z4,D5,E5,F5,G5,H5,I5,J5,O5,P5,Q5,U5,V5,X5,Y5,Z5,o5,y5,D6,F6,G6,H6,J6,L6,O6,P6,U6,V6,X6,Y6,o6,A7,D7,F7,G7,H7,I7,J7,N7,O7,P7,Q7,U7,V7,X7,Y7,Z7,l7,o7,y7,A8,D8,add_get,add_fget,↓reduceIte,Nat.reduceEqDiff,I8,J8,L8,N8,O8,P8,Q8,U8,V8,X8,Y8,Z8,o8,y8,C9,D9,E9,F9,G9,H9,I9,J9,L9,N9,Nat.reduceAdd,y9,A_,B_,C_,D_,h5]
      · have hd : decide (l[k]?.getD 0 = -1) = false := decide_eq_false hx
        simp (disch := omega) only [O0,U0,X0,Y0,O1,U1,Y1,U2,Y2,Y9,Z9,l9,o9,x9,J3,O3,Q3,U3,V3,X3,Y3,I4,J4,O4,Q4,U4,V4,X4,Y4,Z4,D5,E5,F5,G5,H5,I5,J5,O5,P5,Q5,U5,V5,X5,Y5,Z5,o5,y5,D6,F6,G6,H6,J6,L6,O6,P6,U6,V6,X6,Y6,o6,A7,D7,F7,G7,H7,I7,J7,N7,O7,P7,Q7,U7,V7,X7,Y7,Z7,l7,o7,y7,A8,D8,add_get,add_fget,↓reduceIte,Nat.reduceEqDiff,I8,J8,L8,N8,O8,P8,Q8,U8,V8,X8,Y8,Z8,o8,y8,C9,D9,E9,F9,G9,H9,I9,J9,L9,N9,Nat.reduceAdd,y9,A_,B_,C_,D_,h1,h3,h5,ik,p3,hgk,hd,Bool.not_false]
        refine S.cond (v := true) (by simp (disch := omega) only [O0,U0,X0,Y0,O1,U1,Y1,U2,Y2,Y9,Z9,l9,o9,x9,J3,O3,Q3,U3,V3,X3,Y3,I4,J4,O4,Q4,U4,V4,X4,Y4,Z4,D5,E5,F5,G5,H5,I5,J5,O5,P5,Q5,U5,V5,X5,Y5,Z5,o5,y5,D6,F6,G6,H6,J6,L6,O6,P6,U6,V6,X6,Y6,o6,A7,D7,F7,G7,H7,I7,J7,N7,O7,P7,Q7,U7,V7,X7,Y7,Z7,l7,o7,y7,A8,D8,add_get,add_fget,↓reduceIte,Nat.reduceEqDiff,I8,J8,L8,N8,O8,P8,Q8,U8,V8,X8,Y8,Z8,o8,y8,C9,D9,E9,F9,G9,H9,I9,J9,L9,N9,Nat.reduceAdd,y9,A_,B_,C_,D_]) (fun _ => ?_) (fun e => by cases e)
        refine S.region ?_
        generalize hy : l[k]?.getD 0 = y at *
        generalize hz : numK l k = z at *
        simp (disch := omega) only [O0,U0,X0,Y0,O1,U1,Y1,U2,Y2,Y9,Z9,l9,o9,x9,J3,O3,Q3,U3,V3,X3,Y3,I4,J4,O4,Q4,U4,V4,X4,Y4,Z4,D5,E5,F5,G5,H5,I5,J5,O5,P5,Q5,U5,V5,X5,Y5,Z5,o5,y5,D6,F6,G6,H6,J6,L6,O6,P6,U6,V6,X6,Y6,o6,A7,D7,F7,G7,H7,I7,J7,N7,O7,P7,Q7,U7,V7,X7,Y7,Z7,l7,o7,y7,A8,D8,add_get,add_fget,↓reduceIte,Nat.reduceEqDiff,I8,J8,L8,N8,O8,P8,Q8,U8,V8,X8,Y8,Z8,o8,y8,C9,D9,E9,F9,G9,H9,I9,J9,L9,N9,Nat.reduceAdd,y9,A_,B_,C_,D_,h1,h3,h5,ik,p3,hgk]
        refine S.region ?_
        simp (disch := omega) only [O0,U0,X0,Y0,O1,U1,Y1,U2,Y2,Y9,Z9,l9,o9,x9,J3,O3,Q3,U3,V3,X3,Y3,I4,J4,O4,Q4,U4,V4,X4,Y4,Z4,D5,E5,F5,G5,H5,I5,J5,O5,P5,Q5,U5,V5,X5,Y5,Z5,o5,y5,D6,F6,G6,H6,J6,L6,O6,P6,U6,V6,X6,Y6,o6,A7,D7,F7,G7,H7,I7,J7,N7,O7,P7,Q7,U7,V7,X7,Y7,Z7,l7,o7,y7,A8,D8,add_get,add_fget,↓reduceIte,Nat.reduceEqDiff,I8,J8,L8,N8,O8,P8,Q8,U8,V8,X8,Y8,Z8,o8,y8,C9,D9,E9,F9,G9,H9,I9,J9,L9,N9,Nat.reduceAdd,y9,A_,B_,C_,D_,h5]
        refine hn (k + 1) _ _ (by omega) ⟨by omega, rfl, ?_, ?_, ?_⟩
        · simp (disch := omega) only [O0,U0,X0,Y0,O1,U1,Y1,U2,Y2,Y9,Z9,l9,o9,x9,J3,O3,Q3,U3,V3,X3,Y3,I4,J4,O4,Q4,U4,V4,X4,Y4,Z4,D5,E5,F5,G5,H5,I5,J5,O5,P5,Q5,U5,V5,X5,Y5,Z5,o5,y5,D6,F6,G6,H6,J6,L6,O6,P6,U6,V6,X6,Y6,o6,A7,D7,F7,G7,H7,I7,J7,N7,O7,P7,Q7,U7,V7,X7,Y7,Z7,l7,o7,y7,A8,D8,add_get,add_fget,↓reduceIte,Nat.reduceEqDiff,I8,J8,L8,N8,O8,P8,Q8,U8,V8,X8,Y8,Z8,o8,y8,C9,D9,E9,F9,G9,H9,I9,J9,L9,N9,Nat.reduceAdd,y9,A_,B_,C_,D_,h1]
        · simp (disch := omega) only [O0,U0,X0,Y0,O1,U1,Y1,U2,Y2,Y9,Z9,l9,o9,x9,J3,O3,Q3,U3,V3,X3,Y3,I4,J4,O4,Q4,U4,V4,X4,Y4,Z4,D5,E5,F5,G5,H5,I5,J5,O5,P5,Q5,U5,V5,X5,Y5,Z5,o5,y5,D6,F6,G6,H6,J6,L6,O6,P6,U6,V6,X6,Y6,o6,A7,D7,F7,G7,H7,I7,J7,N7,O7,P7,Q7,U7,V7,X7,Y7,Z7,l7,o7,y7,A8,D8,add_get,add_fget,↓reduceIte,Nat.reduceEqDiff,I8,J8,L8,N8,O8,P8,Q8,U8,V8,X8,Y8,Z8,o8,y8,C9,D9,E9,F9,G9,H9,I9,J9,L9,N9,Nat.reduceAdd,y9,A_,B_,C_,D_]
          simp only [numK, num1, hy, hz, if_neg hx]
        · simp (disch := omega) only [O0,U0,X0,Y0,O1,U1,Y1,U2,Y2,Y9,Z9,l9,o9,x9,J3,O3,Q3,U3,V3,X3,Y3,I4,J4,O4,Q4,U4,V4,X4,Y4,Z4,D5,E5,F5,G5,H5,I5,J5,O5,P5,Q5,U5,V5,X5,Y5,Z5,o5,y5,D6,F6,G6,H6,J6,L6,O6,P6,U6,V6,X6,Y6,o6,A7,D7,F7,G7,H7,I7,J7,N7,O7,P7,Q7,U7,V7,X7,Y7,Z7,l7,o7,y7,A8,D8,add_get,add_fget,↓reduceIte,Nat.reduceEqDiff,I8,J8,L8,N8,O8,P8,Q8,U8,V8,X8,Y8,Z8,o8,y8,C9,D9,E9,F9,G9,H9,I9,J9,L9,N9,Nat.reduceAdd,y9,A_,B_,C_,D_,h5]
    · have hk4 : k = 4 := by have := of_decide_eq_false e; omega
      subst hk4
      refine S.exit ?_
      refine he _ _ _ _ (fun e => by cases e) ?_
      simp (disch := omega) only [O0,U0,X0,Y0,O1,U1,Y1,U2,Y2,Y9,Z9,l9,o9,x9,J3,O3,Q3,U3,V3,X3,Y3,I4,J4,O4,Q4,U4,V4,X4,Y4,Z4,D5,E5,F5,G5,H5,I5,J5,O5,P5,Q5,U5,V5,X5,Y5,Z5,o5,y5,D6,F6,G6,H6,J6,L6,O6,P6,U6,V6,X6,Y6,o6,A7,D7,F7,G7,H7,I7,J7,N7,O7,P7,Q7,U7,V7,X7,Y7,Z7,l7,o7,y7,A8,D8,add_get,add_fget,↓reduceIte,Nat.reduceEqDiff,I8,J8,L8,N8,O8,P8,Q8,U8,V8,X8,Y8,Z8,o8,y8,C9,D9,E9,F9,G9,H9,I9,J9,L9,N9,Nat.reduceAdd,y9,A_,B_,C_,D_]
      refine S.seq (S.seq (S.region ?_))
      generalize hy : l[4]?.getD 0 = y at *
      generalize hz : numK l 4 = z at *
      have : (2 : Int) * 10 ^ 4 = 20000 := by decide
      obtain ⟨s1, s2⟩ := hs4
      by_cases hx : y = -1
      · have hd : decide (y = -1) = true := decide_eq_true hx
        simp (disch := omega) only [O0,U0,X0,Y0,O1,U1,Y1,U2,Y2,Y9,Z9,l9,o9,x9,J3,O3,Q3,U3,V3,X3,Y3,I4,J4,O4,Q4,U4,V4,X4,Y4,Z4,D5,E5,F5,G5,H5,I5,J5,O5,P5,Q5,U5,V5,X5,Y5,Z5,o5,y5,D6,F6,G6,H6,J6,L6,O6,P6,U6,V6,X6,Y6,o6,A7,D7,F7,G7,H7,I7,J7,N7,O7,P7,Q7,U7,V7,X7,Y7,Z7,l7,o7,y7,A8,D8,add_get,add_fget,↓reduceIte,Nat.reduceEqDiff,I8,J8,L8,N8,O8,P8,Q8,U8,V8,X8,Y8,Z8,o8,y8,C9,D9,E9,F9,G9,H9,I9,J9,L9,N9,Nat.reduceAdd,y9,A_,B_,C_,D_,h1,i4,p3,h4,hd]
        refine S.cond (v := true) (by simp (disch := omega) only [O0,U0,X0,Y0,O1,U1,Y1,U2,Y2,Y9,Z9,l9,o9,x9,J3,O3,Q3,U3,V3,X3,Y3,I4,J4,O4,Q4,U4,V4,X4,Y4,Z4,D5,E5,F5,G5,H5,I5,J5,O5,P5,Q5,U5,V5,X5,Y5,Z5,o5,y5,D6,F6,G6,H6,J6,L6,O6,P6,U6,V6,X6,Y6,o6,A7,D7,F7,G7,H7,I7,J7,N7,O7,P7,Q7,U7,V7,X7,Y7,Z7,l7,o7,y7,A8,D8,add_get,add_fget,↓reduceIte,Nat.reduceEqDiff,I8,J8,L8,N8,O8,P8,Q8,U8,V8,X8,Y8,Z8,o8,y8,C9,D9,E9,F9,G9,H9,I9,J9,L9,N9,Nat.reduceAdd,y9,A_,B_,C_,D_]) (fun _ => ?_) (fun e => by cases e)
        refine S.seq (S.region ?_)
        simp (disch := omega) only [O0,U0,X0,Y0,O1,U1,Y1,U2,Y2,Y9,Z9,l9,o9,x9,J3,O3,Q3,U3,V3,X3,Y3,I4,J4,O4,Q4,U4,V4,X4,Y4,Z4,D5,E5,F5,G5,H5,I5,J5,O5,P5,Q5,U5,V5,X5,Y5,Z5,o5,y5,D6,F6,G6,H6,J6,L6,O6,P6,U6,V6,X6,Y6,o6,A7,D7,F7,G7,H7,I7,J7,N7,O7,P7,Q7,U7,V7,X7,Y7,Z7,l7,o7,y7,A8,D8,add_get,add_fget,↓reduceIte,Nat.reduceEqDiff,I8,J8,L8,N8,O8,P8,Q8,U8,V8,X8,Y8,Z8,o8,y8,C9,D9,E9,F9,G9,H9,I9,J9,L9,N9,Nat.reduceAdd,y9,A_,B_,C_,D_,h3]
        refine S.ret ?_
        try simp only [Q4, V4]
        subst hF
        simp only [finish, endMarks]
        rw [show Tryz.f24.results.toList = [.tmp 2] from rfl]
        simp (disch := omega) only [resA, o5, J6, H6, O6, L6, L8, N8, add_get, result1]
        rw [if_pos hx] at hK
        exact hK _
      · have hd : decide (y = -1) = false := decide_eq_false hx
        simp (disch := omega) only [O0,U0,X0,Y0,O1,U1,Y1,U2,Y2,Y9,Z9,l9,o9,x9,J3,O3,Q3,U3,V3,X3,Y3,I4,J4,O4,Q4,U4,V4,X4,Y4,Z4,D5,E5,F5,G5,H5,I5,J5,O5,P5,Q5,U5,V5,X5,Y5,Z5,o5,y5,D6,F6,G6,H6,J6,L6,O6,P6,U6,V6,X6,Y6,o6,A7,D7,F7,G7,H7,I7,J7,N7,O7,P7,Q7,U7,V7,X7,Y7,Z7,l7,o7,y7,A8,D8,add_get,add_fget,↓reduceIte,Nat.reduceEqDiff,I8,J8,L8,N8,O8,P8,Q8,U8,V8,X8,Y8,Z8,o8,y8,C9,D9,E9,F9,G9,H9,I9,J9,L9,N9,Nat.reduceAdd,y9,A_,B_,C_,D_,h1,i4,p3,h4,hd]
        refine S.cond (v := false) (by simp (disch := omega) only [O0,U0,X0,Y0,O1,U1,Y1,U2,Y2,Y9,Z9,l9,o9,x9,J3,O3,Q3,U3,V3,X3,Y3,I4,J4,O4,Q4,U4,V4,X4,Y4,Z4,D5,E5,F5,G5,H5,I5,J5,O5,P5,Q5,U5,V5,X5,Y5,Z5,o5,y5,D6,F6,G6,H6,J6,L6,O6,P6,U6,V6,X6,Y6,o6,A7,D7,F7,G7,H7,I7,J7,N7,O7,P7,Q7,U7,V7,X7,Y7,Z7,l7,o7,y7,A8,D8,add_get,add_fget,↓reduceIte,Nat.reduceEqDiff,I8,J8,L8,N8,O8,P8,Q8,U8,V8,X8,Y8,Z8,o8,y8,C9,D9,E9,F9,G9,H9,I9,J9,L9,N9,Nat.reduceAdd,y9,A_,B_,C_,D_]) (fun e => by cases e) (fun _ => ?_)
        refine S.skip ?_
        simp (disch := omega) only [O0,U0,X0,Y0,O1,U1,Y1,U2,Y2,Y9,Z9,l9,o9,x9,J3,O3,Q3,U3,V3,X3,Y3,I4,J4,O4,Q4,U4,V4,X4,Y4,Z4,D5,E5,F5,G5,H5,I5,J5,O5,P5,Q5,U5,V5,X5,Y5,Z5,o5,y5,D6,F6,G6,H6,J6,L6,O6,P6,U6,V6,X6,Y6,o6,A7,D7,F7,G7,H7,I7,J7,N7,O7,P7,Q7,U7,V7,X7,Y7,Z7,l7,o7,y7,A8,D8,add_get,add_fget,↓reduceIte,Nat.reduceEqDiff,I8,J8,L8,N8,O8,P8,Q8,U8,V8,X8,Y8,Z8,o8,y8,C9,D9,E9,F9,G9,H9,I9,J9,L9,N9,Nat.reduceAdd,y9,A_,B_,C_,D_]
        refine S.seq (S.region ?_)
        simp (disch := omega) only [O0,U0,X0,Y0,O1,U1,Y1,U2,Y2,Y9,Z9,l9,o9,x9,J3,O3,Q3,U3,V3,X3,Y3,I4,J4,O4,Q4,U4,V4,X4,Y4,Z4,D5,E5,F5,G5,H5,I5,J5,O5,P5,Q5,U5,V5,X5,Y5,Z5,o5,y5,D6,F6,G6,H6,J6,L6,O6,P6,U6,V6,X6,Y6,o6,A7,D7,F7,G7,H7,I7,J7,N7,O7,P7,Q7,U7,V7,X7,Y7,Z7,l7,o7,y7,A8,D8,add_get,add_fget,↓reduceIte,Nat.reduceEqDiff,I8,J8,L8,N8,O8,P8,Q8,U8,V8,X8,Y8,Z8,o8,y8,C9,D9,E9,F9,G9,H9,I9,J9,L9,N9,Nat.reduceAdd,y9,A_,B_,C_,D_,h1,h3,i4,p3,h4]
        refine S.ret ?_
        try simp only [Q4, V4]
        subst hF
        simp only [finish, endMarks]
        rw [show Tryz.f24.results.toList = [.tmp 2] from rfl]
        simp (disch := omega) only [resA, o5, J6, H6, O6, L6, L8, N8, add_get, result1]
        rw [if_neg hx] at hK
        exact hK _
  · refine ⟨by omega, rfl, ?_, ?_, ?_⟩
    · simp (disch := omega) only [O0,U0,X0,Y0,O1,U1,Y1,U2,Y2,Y9,Z9,l9,o9,x9,J3,O3,Q3,U3,V3,X3,Y3,I4,J4,O4,Q4,U4,V4,X4,Y4,Z4,D5,E5,F5,G5,H5,I5,J5,O5,P5,Q5,U5,V5,X5,Y5,Z5,o5,y5,D6,F6,G6,H6,J6,L6,O6,P6,U6,V6,X6,Y6,o6,A7,D7,F7,G7,H7,I7,J7,N7,O7,P7,Q7,U7,V7,X7,Y7,Z7,l7,o7,y7,A8,D8,add_get,add_fget,↓reduceIte,Nat.reduceEqDiff,I8,J8,L8,N8,O8,P8,Q8,U8,V8,X8,Y8,Z8,o8,y8,C9,D9,E9,F9,G9,H9,I9,J9,L9,N9,Nat.reduceAdd,y9,A_,B_,C_,D_]
    · simp (disch := omega) only [O0,U0,X0,Y0,O1,U1,Y1,U2,Y2,Y9,Z9,l9,o9,x9,J3,O3,Q3,U3,V3,X3,Y3,I4,J4,O4,Q4,U4,V4,X4,Y4,Z4,D5,E5,F5,G5,H5,I5,J5,O5,P5,Q5,U5,V5,X5,Y5,Z5,o5,y5,D6,F6,G6,H6,J6,L6,O6,P6,U6,V6,X6,Y6,o6,A7,D7,F7,G7,H7,I7,J7,N7,O7,P7,Q7,U7,V7,X7,Y7,Z7,l7,o7,y7,A8,D8,add_get,add_fget,↓reduceIte,Nat.reduceEqDiff,I8,J8,L8,N8,O8,P8,Q8,U8,V8,X8,Y8,Z8,o8,y8,C9,D9,E9,F9,G9,H9,I9,J9,L9,N9,Nat.reduceAdd,y9,A_,B_,C_,D_]
      rfl
    · simp (disch := omega) only [O0,U0,X0,Y0,O1,U1,Y1,U2,Y2,Y9,Z9,l9,o9,x9,J3,O3,Q3,U3,V3,X3,Y3,I4,J4,O4,Q4,U4,V4,X4,Y4,Z4,D5,E5,F5,G5,H5,I5,J5,O5,P5,Q5,U5,V5,X5,Y5,Z5,o5,y5,D6,F6,G6,H6,J6,L6,O6,P6,U6,V6,X6,Y6,o6,A7,D7,F7,G7,H7,I7,J7,N7,O7,P7,Q7,U7,V7,X7,Y7,Z7,l7,o7,y7,A8,D8,add_get,add_fget,↓reduceIte,Nat.reduceEqDiff,I8,J8,L8,N8,O8,P8,Q8,U8,V8,X8,Y8,Z8,o8,y8,C9,D9,E9,F9,G9,H9,I9,J9,L9,N9,Nat.reduceAdd,y9,A_,B_,C_,D_]
      rfl
end Go.Proofs
