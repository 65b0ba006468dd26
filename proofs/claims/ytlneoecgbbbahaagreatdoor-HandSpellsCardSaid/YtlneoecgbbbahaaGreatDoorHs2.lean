import Derived.Test.YtlneoecgbbbahaaGreatDoorHs1
import Derived.Test.YtlneoecgbbbahaaGreatDoorEvD
namespace Go.Proofs.Hs
open Go Go.Ev
set_option linter.unusedSimpArgs false

theorem z77 : zeroOf Tryz.prog 77 = some (.agg ⟨[.int .i64 0, .int .i64 0]⟩) := by kernel_rfl
theorem f77_0 : fieldOf Tryz.prog 77 0 = some (0, 3) := by kernel_rfl
theorem f77_1 : fieldOf Tryz.prog 77 1 = some (1, 3) := by kernel_rfl
theorem p77 (c : List Value) (o : Nat) : partL Tryz.prog 77 c o = bif Nat.ble (Nat.add o 2) c.length then some (.agg ⟨(c.drop o).take 2⟩) else none := by kernel_rfl
theorem k77 : intKey Tryz.prog 77 = some 2 := by kernel_rfl
theorem g77 : Tryz.prog.eqGuardType Tryz.prog.depth 77 = false := by kernel_rfl
theorem part_at {c : List Value} {i : Nat} {l : List Value} (h1 : (c.drop (i * 2)).take 2 = l) (h2 : i * 2 + 2 ≤ c.length) : partL Tryz.prog 77 c (i * 2) = some (.agg ⟨l⟩) := by
  rw [p77, Nat.ble_eq_true_of_le (by show i * 2 + 2 ≤ c.length; exact h2), cond_true, h1]
theorem part0 {a b : Value} : partL Tryz.prog 77 [a, b] 0 = some (.agg ⟨[a, b]⟩) := by rw [p77]; rfl

theorem eq_pair {t : T Value} {dst : Option Tmp} {pos : String} {af : Array Edge} {g : Option (Nat × Bool)} {a' b' : TypeId} {x y : Operand} {a b c d : Int} (hx : ev Tryz.prog t x = .agg ⟨[.int .i64 a, .int .i64 b]⟩) (hy : ev Tryz.prog t y = .agg ⟨[.int .i64 c, .int .i64 d]⟩) :
    rBin Tryz.prog t ⟨dst, .binOp .eql 77 x y b', a', pos, af, g⟩ .eql 77 (.agg ⟨[.int .i64 c, .int .i64 d]⟩) (.agg ⟨[.int .i64 a, .int .i64 b]⟩) = some (.bool (decide (a = c) && decide (b = d))) := by
  refine bin_eqInts k77 g77 rfl ?_ rfl rfl hx hy
  simp only [eqInts, beqKind, cond_true, beqI_eq]
  by_cases h1 : a = c <;> by_cases h2 : b = d <;> simp [h1, h2]

/-! ## The pure side -/
def inB (i lo hi : Int) : Bool := decide (lo ≤ i) && decide (i ≤ hi)
def goodP (p : Int × Int) : Bool := inB p.1 0 9 && (inB p.2 0 9 && !decide (p.1 = p.2))
def okG : Prs → Prs → Bool
  | _, [] => true
  | s, p :: r => (goodP p && !(s.contains p)) && okG (s ++ [p]) r
def few (ps : Prs) : Bool := decide ((ps.length : Int) ≤ 8)
def W2 (cl : List Prs) (er : Int) : Int := bif decide ((cl.length : Int) = 0) || !inB er 0 3 then 1 else bif cl.all (okG []) then 0 else 1
def faultZ (cl : List Prs) (er : Int) : Int := bif decide (3 < (cl.length : Int)) then 3 else bif cl.all few then W2 cl er else 3

variable {pr : Prim} {R : ExT}
set_option maxHeartbeats 4000000 in
theorem in_y (S : Ev.Steps Tryz.prog pr R) (h0 : AHeap) (i lo hi : Int) : Brings Tryz.prog R 12 [.int .i64 i, .int .i64 lo, .int .i64 hi] h0 fun v h => v = .bool (inB i lo hi) ∧ h = h0 := by
  refine brings_of (fn := Tryz.f12) (c := (Tryz.f12.body).getD .skip) (by kernel_rfl) rfl (by kernel_rfl) rfl (fun K hK => ?_)
  generalize hF : finish Tryz.prog Tryz.f12 K = KF
  simp only [Tryz.f12, Option.getD_some, argsT, setArgs, fV1_eq, T.setK_eq, id]
  repeat refine S.seq ?_
  refine S.region ?_
  simp (disch := first | omega | (simp only [D8, I8] <;> omega) | decide) only [O0,U0,X0,Y0,O1,U1,Y1,U2,Y2,Y9,Z9,l9,o9,x9,J3,O3,Q3,U3,V3,X3,Y3,I4,J4,O4,Q4,U4,V4,X4,Y4,Z4,D5,E5,F5,G5,H5,I5,J5,O5,P5,Q5,U5,V5,X5,Y5,Z5,o5,y5,D6,F6,G6,H6,J6,L6,O6,P6,U6,V6,X6,Y6,o6,A7,D7,F7,G7,H7,I7,J7,N7,O7,P7,Q7,U7,V7,X7,Y7,Z7,l7,o7,y7,A8,D8,E8,F8,G8,H8,↓reduceIte,Nat.reduceEqDiff,I8,J8,L8,N8,O8,P8,Q8,U8,V8,X8,Y8,Z8,o8,y8,C9,D9,E9,F9,G9,H9,I9,J9,L9,N9,Nat.reduceAdd,y9,A_,B_,C_,D_,O9,P9,E_,F_]
  unfold inB at hK
  by_cases h1 : lo ≤ i
  · have hd : decide (lo ≤ i) = true := decide_eq_true h1
    rw [hd, Bool.true_and] at hK
    repeat refine S.seq ?_
    refine S.region ?_
    simp (disch := first | omega | (simp only [D8, I8] <;> omega) | decide) only [O0,U0,X0,Y0,O1,U1,Y1,U2,Y2,Y9,Z9,l9,o9,x9,J3,O3,Q3,U3,V3,X3,Y3,I4,J4,O4,Q4,U4,V4,X4,Y4,Z4,D5,E5,F5,G5,H5,I5,J5,O5,P5,Q5,U5,V5,X5,Y5,Z5,o5,y5,D6,F6,G6,H6,J6,L6,O6,P6,U6,V6,X6,Y6,o6,A7,D7,F7,G7,H7,I7,J7,N7,O7,P7,Q7,U7,V7,X7,Y7,Z7,l7,o7,y7,A8,D8,E8,F8,G8,H8,↓reduceIte,Nat.reduceEqDiff,I8,J8,L8,N8,O8,P8,Q8,U8,V8,X8,Y8,Z8,o8,y8,C9,D9,E9,F9,G9,H9,I9,J9,L9,N9,Nat.reduceAdd,y9,A_,B_,C_,D_,O9,P9,E_,F_,hd]
    refine S.ret ?_
    try simp only [Q4, V4]
    subst hF
    simp only [finish, endMarks]
    rw [show Tryz.f12.results.toList = [.tmp 6] from rfl]
    simp (disch := first | omega | (simp only [D8, I8] <;> omega) | decide) only [resA, o5, J6, H6, O6, L6, L8, N8, E8, F8, result1]
    exact hK _ _ Kp.refl ⟨rfl, rfl⟩
  · have hd : decide (lo ≤ i) = false := decide_eq_false h1
    rw [hd, Bool.false_and] at hK
    repeat refine S.seq ?_
    refine S.region ?_
    simp (disch := first | omega | (simp only [D8, I8] <;> omega) | decide) only [O0,U0,X0,Y0,O1,U1,Y1,U2,Y2,Y9,Z9,l9,o9,x9,J3,O3,Q3,U3,V3,X3,Y3,I4,J4,O4,Q4,U4,V4,X4,Y4,Z4,D5,E5,F5,G5,H5,I5,J5,O5,P5,Q5,U5,V5,X5,Y5,Z5,o5,y5,D6,F6,G6,H6,J6,L6,O6,P6,U6,V6,X6,Y6,o6,A7,D7,F7,G7,H7,I7,J7,N7,O7,P7,Q7,U7,V7,X7,Y7,Z7,l7,o7,y7,A8,D8,E8,F8,G8,H8,↓reduceIte,Nat.reduceEqDiff,I8,J8,L8,N8,O8,P8,Q8,U8,V8,X8,Y8,Z8,o8,y8,C9,D9,E9,F9,G9,H9,I9,J9,L9,N9,Nat.reduceAdd,y9,A_,B_,C_,D_,O9,P9,E_,F_,hd]
    refine S.ret ?_
    try simp only [Q4, V4]
    subst hF
    simp only [finish, endMarks]
    rw [show Tryz.f12.results.toList = [.tmp 6] from rfl]
    simp (disch := first | omega | (simp only [D8, I8] <;> omega) | decide) only [resA, o5, J6, H6, O6, L6, L8, N8, E8, F8, result1]
    exact hK _ _ Kp.refl ⟨rfl, rfl⟩
end Go.Proofs.Hs
