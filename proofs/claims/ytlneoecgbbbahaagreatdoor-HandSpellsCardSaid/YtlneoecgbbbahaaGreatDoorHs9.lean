import Derived.Test.YtlneoecgbbbahaaGreatDoorHs8
namespace Go.Proofs.Hs
open Go Go.Ev
set_option linter.unusedSimpArgs false

theorem z58 : zeroOf Tryz.prog 58 = some (.agg ⟨[.int .i64 0, .int .i64 0]⟩) := by kernel_rfl
theorem s58 : sizeB Tryz.prog 58 = some 2 := by kernel_rfl
theorem p58 (a b : Value) : partL Tryz.prog 58 [a, b] 0 = some (.agg ⟨[a, b]⟩) := by kernel_rfl
theorem b58 (a b : Int) : rBuild Tryz.prog 58 [(0, .int .i64 a), (1, .int .i64 b)] = some (.agg ⟨[.int .i64 a, .int .i64 b]⟩) := by kernel_rfl
theorem f78_0 : fieldOf Tryz.prog 78 0 = some (0, 3) := by kernel_rfl
theorem f78_1 : fieldOf Tryz.prog 78 1 = some (1, 3) := by kernel_rfl

def validB (ps : Prs) (p : Int × Int) : Bool := inB p.1 0 9 && (inB p.2 0 9 && (!decide (p.1 = p.2) && decide (((ps.count p : Nat) : Int) = 1)))

variable {pr : Prim} {R : ExT}
set_option maxHeartbeats 8000000 in
theorem valid_y (S : Ev.Steps Tryz.prog pr R) (hoff : Off pr) (h0 : AHeap) (r n : Nat) (ps : Prs) (p : Int × Int) (hr : r < h0.nx) (hm : h0.bl.get r = some (.map (mkE (cntOf ps) 0) n)) :
    Brings Tryz.prog R 51 [.map (some r), .agg ⟨pc p⟩] h0 fun u _ => u = .bool (validB ps p) := by
  refine brings_of (fn := Tryz.f51) (c := (Tryz.f51.body).getD .skip) (by kernel_rfl) rfl (by kernel_rfl) rfl (fun K hK => ?_)
  generalize hF : finish Tryz.prog Tryz.f51 K = KF
  simp only [Tryz.f51, Option.getD_some, argsT, setArgs, fV1_eq, T.setK_eq, id]
  have hpc : pc p = [.int .i64 p.1, .int .i64 p.2] := rfl
  rw [hpc]
  unfold validB at hK
  repeat refine S.seq ?_
  refine S.region ?_
  simp (disch := first | omega | (simp only [D8, I8] <;> omega) | decide) only [O0,U0,X0,Y0,O1,U1,Y1,U2,Y2,Y9,Z9,l9,o9,x9,J3,O3,Q3,U3,V3,X3,Y3,I4,J4,O4,Q4,U4,V4,X4,Y4,Z4,D5,E5,F5,G5,H5,I5,J5,O5,P5,Q5,U5,V5,X5,Y5,Z5,o5,y5,D6,F6,G6,H6,J6,L6,O6,P6,U6,V6,X6,Y6,o6,A7,D7,F7,G7,H7,I7,J7,N7,O7,P7,Q7,U7,V7,X7,Y7,Z7,l7,o7,y7,A8,D8,E8,F8,G8,H8,↓reduceIte,Nat.reduceEqDiff,I8,J8,L8,N8,O8,P8,Q8,U8,V8,X8,Y8,Z8,o8,y8,C9,D9,E9,F9,G9,H9,I9,J9,L9,N9,Nat.reduceAdd,y9,A_,B_,C_,D_,O9,P9,E_,F_]
  repeat refine S.seq ?_
  refine S.region ?_
  simp (disch := first | omega | (simp only [D8, I8] <;> omega) | decide) only [O0,U0,X0,Y0,O1,U1,Y1,U2,Y2,Y9,Z9,l9,o9,x9,J3,O3,Q3,U3,V3,X3,Y3,I4,J4,O4,Q4,U4,V4,X4,Y4,Z4,D5,E5,F5,G5,H5,I5,J5,O5,P5,Q5,U5,V5,X5,Y5,Z5,o5,y5,D6,F6,G6,H6,J6,L6,O6,P6,U6,V6,X6,Y6,o6,A7,D7,F7,G7,H7,I7,J7,N7,O7,P7,Q7,U7,V7,X7,Y7,Z7,l7,o7,y7,A8,D8,E8,F8,G8,H8,↓reduceIte,Nat.reduceEqDiff,I8,J8,L8,N8,O8,P8,Q8,U8,V8,X8,Y8,Z8,o8,y8,C9,D9,E9,F9,G9,H9,I9,J9,L9,N9,Nat.reduceAdd,y9,A_,B_,C_,D_,O9,P9,E_,F_,O7,U7,List.map_cons,List.map_nil,b58,wr_alloc z58]
  refine wr_storeN (B := h0.nx + 1) (c := [.int .i64 0, .int .i64 0]) (fam := h0.nx + 1) (k := h0.nx + 1) (l := [.int .i64 0, .int .i64 9]) (by simp (disch := first | omega | (simp only [D8, I8] <;> omega) | decide) only [O0,U0,X0,Y0,O1,U1,Y1,U2,Y2,Y9,Z9,l9,o9,x9,J3,O3,Q3,U3,V3,X3,Y3,I4,J4,O4,Q4,U4,V4,X4,Y4,Z4,D5,E5,F5,G5,H5,I5,J5,O5,P5,Q5,U5,V5,X5,Y5,Z5,o5,y5,D6,F6,G6,H6,J6,L6,O6,P6,U6,V6,X6,Y6,o6,A7,D7,F7,G7,H7,I7,J7,N7,O7,P7,Q7,U7,V7,X7,Y7,Z7,l7,o7,y7,A8,D8,E8,F8,G8,H8,↓reduceIte,Nat.reduceEqDiff,I8,J8,L8,N8,O8,P8,Q8,U8,V8,X8,Y8,Z8,o8,y8,C9,D9,E9,F9,G9,H9,I9,J9,L9,N9,Nat.reduceAdd,y9,A_,B_,C_,D_,O9,P9,E_,F_]) (by simp (disch := first | omega | (simp only [D8, I8] <;> omega) | decide) only [O0,U0,X0,Y0,O1,U1,Y1,U2,Y2,Y9,Z9,l9,o9,x9,J3,O3,Q3,U3,V3,X3,Y3,I4,J4,O4,Q4,U4,V4,X4,Y4,Z4,D5,E5,F5,G5,H5,I5,J5,O5,P5,Q5,U5,V5,X5,Y5,Z5,o5,y5,D6,F6,G6,H6,J6,L6,O6,P6,U6,V6,X6,Y6,o6,A7,D7,F7,G7,H7,I7,J7,N7,O7,P7,Q7,U7,V7,X7,Y7,Z7,l7,o7,y7,A8,D8,E8,F8,G8,H8,↓reduceIte,Nat.reduceEqDiff,I8,J8,L8,N8,O8,P8,Q8,U8,V8,X8,Y8,Z8,o8,y8,C9,D9,E9,F9,G9,H9,I9,J9,L9,N9,Nat.reduceAdd,y9,A_,B_,C_,D_,O9,P9,E_,F_]) s58 (by omega) rfl (by simp (disch := first | omega | (simp only [D8, I8] <;> omega) | decide) only [O0,U0,X0,Y0,O1,U1,Y1,U2,Y2,Y9,Z9,l9,o9,x9,J3,O3,Q3,U3,V3,X3,Y3,I4,J4,O4,Q4,U4,V4,X4,Y4,Z4,D5,E5,F5,G5,H5,I5,J5,O5,P5,Q5,U5,V5,X5,Y5,Z5,o5,y5,D6,F6,G6,H6,J6,L6,O6,P6,U6,V6,X6,Y6,o6,A7,D7,F7,G7,H7,I7,J7,N7,O7,P7,Q7,U7,V7,X7,Y7,Z7,l7,o7,y7,A8,D8,E8,F8,G8,H8,↓reduceIte,Nat.reduceEqDiff,I8,J8,L8,N8,O8,P8,Q8,U8,V8,X8,Y8,Z8,o8,y8,C9,D9,E9,F9,G9,H9,I9,J9,L9,N9,Nat.reduceAdd,y9,A_,B_,C_,D_,O9,P9,E_,F_]) (by simp (disch := first | omega | (simp only [D8, I8] <;> omega) | decide) only [O0,U0,X0,Y0,O1,U1,Y1,U2,Y2,Y9,Z9,l9,o9,x9,J3,O3,Q3,U3,V3,X3,Y3,I4,J4,O4,Q4,U4,V4,X4,Y4,Z4,D5,E5,F5,G5,H5,I5,J5,O5,P5,Q5,U5,V5,X5,Y5,Z5,o5,y5,D6,F6,G6,H6,J6,L6,O6,P6,U6,V6,X6,Y6,o6,A7,D7,F7,G7,H7,I7,J7,N7,O7,P7,Q7,U7,V7,X7,Y7,Z7,l7,o7,y7,A8,D8,E8,F8,G8,H8,↓reduceIte,Nat.reduceEqDiff,I8,J8,L8,N8,O8,P8,Q8,U8,V8,X8,Y8,Z8,o8,y8,C9,D9,E9,F9,G9,H9,I9,J9,L9,N9,Nat.reduceAdd,y9,A_,B_,C_,D_,O9,P9,E_,F_]) rfl ?_
  simp (disch := first | omega | (simp only [D8, I8] <;> omega) | decide) only [O0,U0,X0,Y0,O1,U1,Y1,U2,Y2,Y9,Z9,l9,o9,x9,J3,O3,Q3,U3,V3,X3,Y3,I4,J4,O4,Q4,U4,V4,X4,Y4,Z4,D5,E5,F5,G5,H5,I5,J5,O5,P5,Q5,U5,V5,X5,Y5,Z5,o5,y5,D6,F6,G6,H6,J6,L6,O6,P6,U6,V6,X6,Y6,o6,A7,D7,F7,G7,H7,I7,J7,N7,O7,P7,Q7,U7,V7,X7,Y7,Z7,l7,o7,y7,A8,D8,E8,F8,G8,H8,↓reduceIte,Nat.reduceEqDiff,I8,J8,L8,N8,O8,P8,Q8,U8,V8,X8,Y8,Z8,o8,y8,C9,D9,E9,F9,G9,H9,I9,J9,L9,N9,Nat.reduceAdd,y9,A_,B_,C_,D_,O9,P9,E_,F_]
  have hb3 : (((h0.add [Value.int .i64 p.1, .int .i64 p.2]).add [.int .i64 0, .int .i64 0]).upd (h0.nx + 1) [.int .i64 0, .int .i64 9] (h0.nx + 1)).bl.get h0.nx = some (.cells [.int .i64 p.1, .int .i64 p.2] h0.nx false) := by simp (disch := first | omega | (simp only [D8, I8] <;> omega) | decide) only [O0,U0,X0,Y0,O1,U1,Y1,U2,Y2,Y9,Z9,l9,o9,x9,J3,O3,Q3,U3,V3,X3,Y3,I4,J4,O4,Q4,U4,V4,X4,Y4,Z4,D5,E5,F5,G5,H5,I5,J5,O5,P5,Q5,U5,V5,X5,Y5,Z5,o5,y5,D6,F6,G6,H6,J6,L6,O6,P6,U6,V6,X6,Y6,o6,A7,D7,F7,G7,H7,I7,J7,N7,O7,P7,Q7,U7,V7,X7,Y7,Z7,l7,o7,y7,A8,D8,E8,F8,G8,H8,↓reduceIte,Nat.reduceEqDiff,I8,J8,L8,N8,O8,P8,Q8,U8,V8,X8,Y8,Z8,o8,y8,C9,D9,E9,F9,G9,H9,I9,J9,L9,N9,Nat.reduceAdd,y9,A_,B_,C_,D_,O9,P9,E_,F_]
  have hb5 : (((h0.add [Value.int .i64 p.1, .int .i64 p.2]).add [.int .i64 0, .int .i64 0]).upd (h0.nx + 1) [.int .i64 0, .int .i64 9] (h0.nx + 1)).bl.get (h0.nx + 1) = some (.cells [.int .i64 0, .int .i64 9] (h0.nx + 1) false) := by simp (disch := first | omega | (simp only [D8, I8] <;> omega) | decide) only [O0,U0,X0,Y0,O1,U1,Y1,U2,Y2,Y9,Z9,l9,o9,x9,J3,O3,Q3,U3,V3,X3,Y3,I4,J4,O4,Q4,U4,V4,X4,Y4,Z4,D5,E5,F5,G5,H5,I5,J5,O5,P5,Q5,U5,V5,X5,Y5,Z5,o5,y5,D6,F6,G6,H6,J6,L6,O6,P6,U6,V6,X6,Y6,o6,A7,D7,F7,G7,H7,I7,J7,N7,O7,P7,Q7,U7,V7,X7,Y7,Z7,l7,o7,y7,A8,D8,E8,F8,G8,H8,↓reduceIte,Nat.reduceEqDiff,I8,J8,L8,N8,O8,P8,Q8,U8,V8,X8,Y8,Z8,o8,y8,C9,D9,E9,F9,G9,H9,I9,J9,L9,N9,Nat.reduceAdd,y9,A_,B_,C_,D_,O9,P9,E_,F_]
  have hk2 : Kp h0 (((h0.add [Value.int .i64 p.1, .int .i64 p.2]).add [.int .i64 0, .int .i64 0]).upd (h0.nx + 1) [.int .i64 0, .int .i64 9] (h0.nx + 1)) := Kp.refl.add.add.upd (by omega)
  have hlt : h0.nx + 1 < (((h0.add [Value.int .i64 p.1, .int .i64 p.2]).add [.int .i64 0, .int .i64 0]).upd (h0.nx + 1) [.int .i64 0, .int .i64 9] (h0.nx + 1)).nx := by show h0.nx + 1 < h0.nx + 2; omega
  generalize (((h0.add [Value.int .i64 p.1, .int .i64 p.2]).add [.int .i64 0, .int .i64 0]).upd (h0.nx + 1) [.int .i64 0, .int .i64 9] (h0.nx + 1)) = h2 at hb3 hb5 hk2 hlt ⊢
  repeat refine S.seq ?_
  refine S.region ?_
  simp (disch := first | omega | (simp only [D8, I8] <;> omega) | decide) only [O0,U0,X0,Y0,O1,U1,Y1,U2,Y2,Y9,Z9,l9,o9,x9,J3,O3,Q3,U3,V3,X3,Y3,I4,J4,O4,Q4,U4,V4,X4,Y4,Z4,D5,E5,F5,G5,H5,I5,J5,O5,P5,Q5,U5,V5,X5,Y5,Z5,o5,y5,D6,F6,G6,H6,J6,L6,O6,P6,U6,V6,X6,Y6,o6,A7,D7,F7,G7,H7,I7,J7,N7,O7,P7,Q7,U7,V7,X7,Y7,Z7,l7,o7,y7,A8,D8,E8,F8,G8,H8,↓reduceIte,Nat.reduceEqDiff,I8,J8,L8,N8,O8,P8,Q8,U8,V8,X8,Y8,Z8,o8,y8,C9,D9,E9,F9,G9,H9,I9,J9,L9,N9,Nat.reduceAdd,y9,A_,B_,C_,D_,O9,P9,E_,F_,hb5,p58,hb3,fieldAddr_ptr f78_0 s3,p3]
  refine wr_brings (fid := 25) (first := #[]) (captured := #[]) (Post := fun u _ => u = .bool (inB p.1 0 9)) rfl (hoff _ _ _ rfl) (by simp (disch := first | omega | (simp only [D8, I8] <;> omega) | decide) only [O0,U0,X0,Y0,O1,U1,Y1,U2,Y2,Y9,Z9,l9,o9,x9,J3,O3,Q3,U3,V3,X3,Y3,I4,J4,O4,Q4,U4,V4,X4,Y4,Z4,D5,E5,F5,G5,H5,I5,J5,O5,P5,Q5,U5,V5,X5,Y5,Z5,o5,y5,D6,F6,G6,H6,J6,L6,O6,P6,U6,V6,X6,Y6,o6,A7,D7,F7,G7,H7,I7,J7,N7,O7,P7,Q7,U7,V7,X7,Y7,Z7,l7,o7,y7,A8,D8,E8,F8,G8,H8,↓reduceIte,Nat.reduceEqDiff,I8,J8,L8,N8,O8,P8,Q8,U8,V8,X8,Y8,Z8,o8,y8,C9,D9,E9,F9,G9,H9,I9,J9,L9,N9,Nat.reduceAdd,y9,A_,B_,C_,D_,O9,P9,E_,F_]; exact has_y S h2 0 9 p.1) ?_
  rintro u g hkg rfl
  have hb3g := (hkg.get (by omega)).trans hb3
  have hb5g := (hkg.get hlt).trans hb5
  have hnxg := hkg.1
  have hkg' := hk2.trans hkg
  clear hkg hb3 hb5
  cases h1 : inB p.1 0 9 with
  | false =>
    rw [h1, Bool.false_and] at hK
    simp (disch := first | omega | (simp only [D8, I8] <;> omega) | decide) only [O0,U0,X0,Y0,O1,U1,Y1,U2,Y2,Y9,Z9,l9,o9,x9,J3,O3,Q3,U3,V3,X3,Y3,I4,J4,O4,Q4,U4,V4,X4,Y4,Z4,D5,E5,F5,G5,H5,I5,J5,O5,P5,Q5,U5,V5,X5,Y5,Z5,o5,y5,D6,F6,G6,H6,J6,L6,O6,P6,U6,V6,X6,Y6,o6,A7,D7,F7,G7,H7,I7,J7,N7,O7,P7,Q7,U7,V7,X7,Y7,Z7,l7,o7,y7,A8,D8,E8,F8,G8,H8,↓reduceIte,Nat.reduceEqDiff,I8,J8,L8,N8,O8,P8,Q8,U8,V8,X8,Y8,Z8,o8,y8,C9,D9,E9,F9,G9,H9,I9,J9,L9,N9,Nat.reduceAdd,y9,A_,B_,C_,D_,O9,P9,E_,F_,h1]
    refine S.ret ?_
    try simp only [Q4, V4]
    subst hF
    simp only [finish, endMarks]
    rw [show Tryz.f51.results.toList = [.tmp 4] from rfl]
    simp (disch := first | omega | (simp only [D8, I8] <;> omega) | decide) only [resA, o5, J6, H6, O6, L6, L8, N8, E8, F8, result1]
    exact hK _ _ hkg' rfl
  | true =>
    rw [h1, Bool.true_and] at hK
    simp (disch := first | omega | (simp only [D8, I8] <;> omega) | decide) only [O0,U0,X0,Y0,O1,U1,Y1,U2,Y2,Y9,Z9,l9,o9,x9,J3,O3,Q3,U3,V3,X3,Y3,I4,J4,O4,Q4,U4,V4,X4,Y4,Z4,D5,E5,F5,G5,H5,I5,J5,O5,P5,Q5,U5,V5,X5,Y5,Z5,o5,y5,D6,F6,G6,H6,J6,L6,O6,P6,U6,V6,X6,Y6,o6,A7,D7,F7,G7,H7,I7,J7,N7,O7,P7,Q7,U7,V7,X7,Y7,Z7,l7,o7,y7,A8,D8,E8,F8,G8,H8,↓reduceIte,Nat.reduceEqDiff,I8,J8,L8,N8,O8,P8,Q8,U8,V8,X8,Y8,Z8,o8,y8,C9,D9,E9,F9,G9,H9,I9,J9,L9,N9,Nat.reduceAdd,y9,A_,B_,C_,D_,O9,P9,E_,F_,h1,hb5g,p58,hb3g,fieldAddr_ptr f78_1 s3,p3]
    refine wr_brings (fid := 25) (first := #[]) (captured := #[]) (Post := fun u _ => u = .bool (inB p.2 0 9)) rfl (hoff _ _ _ rfl) (by simp (disch := first | omega | (simp only [D8, I8] <;> omega) | decide) only [O0,U0,X0,Y0,O1,U1,Y1,U2,Y2,Y9,Z9,l9,o9,x9,J3,O3,Q3,U3,V3,X3,Y3,I4,J4,O4,Q4,U4,V4,X4,Y4,Z4,D5,E5,F5,G5,H5,I5,J5,O5,P5,Q5,U5,V5,X5,Y5,Z5,o5,y5,D6,F6,G6,H6,J6,L6,O6,P6,U6,V6,X6,Y6,o6,A7,D7,F7,G7,H7,I7,J7,N7,O7,P7,Q7,U7,V7,X7,Y7,Z7,l7,o7,y7,A8,D8,E8,F8,G8,H8,↓reduceIte,Nat.reduceEqDiff,I8,J8,L8,N8,O8,P8,Q8,U8,V8,X8,Y8,Z8,o8,y8,C9,D9,E9,F9,G9,H9,I9,J9,L9,N9,Nat.reduceAdd,y9,A_,B_,C_,D_,O9,P9,E_,F_]; exact has_y S g 0 9 p.2) ?_
    rintro u g2 hkg2 rfl
    have hb3h := (hkg2.get (by omega)).trans hb3g
    have hk3 := hkg'.trans hkg2
    have hm3 := (hk3.get hr).trans hm
    cases h2x : inB p.2 0 9 with
    | false =>
      rw [h2x, Bool.false_and] at hK
      simp (disch := first | omega | (simp only [D8, I8] <;> omega) | decide) only [O0,U0,X0,Y0,O1,U1,Y1,U2,Y2,Y9,Z9,l9,o9,x9,J3,O3,Q3,U3,V3,X3,Y3,I4,J4,O4,Q4,U4,V4,X4,Y4,Z4,D5,E5,F5,G5,H5,I5,J5,O5,P5,Q5,U5,V5,X5,Y5,Z5,o5,y5,D6,F6,G6,H6,J6,L6,O6,P6,U6,V6,X6,Y6,o6,A7,D7,F7,G7,H7,I7,J7,N7,O7,P7,Q7,U7,V7,X7,Y7,Z7,l7,o7,y7,A8,D8,E8,F8,G8,H8,↓reduceIte,Nat.reduceEqDiff,I8,J8,L8,N8,O8,P8,Q8,U8,V8,X8,Y8,Z8,o8,y8,C9,D9,E9,F9,G9,H9,I9,J9,L9,N9,Nat.reduceAdd,y9,A_,B_,C_,D_,O9,P9,E_,F_,h2x]
      refine S.ret ?_
      try simp only [Q4, V4]
      subst hF
      simp only [finish, endMarks]
      rw [show Tryz.f51.results.toList = [.tmp 4] from rfl]
      simp (disch := first | omega | (simp only [D8, I8] <;> omega) | decide) only [resA, o5, J6, H6, O6, L6, L8, N8, E8, F8, result1]
      exact hK _ _ hk3 rfl
    | true =>
      rw [h2x, Bool.true_and] at hK
      by_cases he : p.1 = p.2
      · have hd : decide (p.1 = p.2) = true := decide_eq_true he
        rw [hd, Bool.not_true, Bool.false_and] at hK
        simp (disch := first | omega | (simp only [D8, I8] <;> omega) | decide) only [O0,U0,X0,Y0,O1,U1,Y1,U2,Y2,Y9,Z9,l9,o9,x9,J3,O3,Q3,U3,V3,X3,Y3,I4,J4,O4,Q4,U4,V4,X4,Y4,Z4,D5,E5,F5,G5,H5,I5,J5,O5,P5,Q5,U5,V5,X5,Y5,Z5,o5,y5,D6,F6,G6,H6,J6,L6,O6,P6,U6,V6,X6,Y6,o6,A7,D7,F7,G7,H7,I7,J7,N7,O7,P7,Q7,U7,V7,X7,Y7,Z7,l7,o7,y7,A8,D8,E8,F8,G8,H8,↓reduceIte,Nat.reduceEqDiff,I8,J8,L8,N8,O8,P8,Q8,U8,V8,X8,Y8,Z8,o8,y8,C9,D9,E9,F9,G9,H9,I9,J9,L9,N9,Nat.reduceAdd,y9,A_,B_,C_,D_,O9,P9,E_,F_,h2x,hb3h,fieldAddr_ptr f78_0 s3,fieldAddr_ptr f78_1 s3,p3,hd,Bool.not_true]
        refine S.ret ?_
        try simp only [Q4, V4]
        subst hF
        simp only [finish, endMarks]
        rw [show Tryz.f51.results.toList = [.tmp 4] from rfl]
        simp (disch := first | omega | (simp only [D8, I8] <;> omega) | decide) only [resA, o5, J6, H6, O6, L6, L8, N8, E8, F8, result1]
        exact hK _ _ hk3 rfl
      · have hd : decide (p.1 = p.2) = false := decide_eq_false he
        rw [hd, Bool.not_false, Bool.true_and] at hK
        simp (disch := first | omega | (simp only [D8, I8] <;> omega) | decide) only [O0,U0,X0,Y0,O1,U1,Y1,U2,Y2,Y9,Z9,l9,o9,x9,J3,O3,Q3,U3,V3,X3,Y3,I4,J4,O4,Q4,U4,V4,X4,Y4,Z4,D5,E5,F5,G5,H5,I5,J5,O5,P5,Q5,U5,V5,X5,Y5,Z5,o5,y5,D6,F6,G6,H6,J6,L6,O6,P6,U6,V6,X6,Y6,o6,A7,D7,F7,G7,H7,I7,J7,N7,O7,P7,Q7,U7,V7,X7,Y7,Z7,l7,o7,y7,A8,D8,E8,F8,G8,H8,↓reduceIte,Nat.reduceEqDiff,I8,J8,L8,N8,O8,P8,Q8,U8,V8,X8,Y8,Z8,o8,y8,C9,D9,E9,F9,G9,H9,I9,J9,L9,N9,Nat.reduceAdd,y9,A_,B_,C_,D_,O9,P9,E_,F_,h2x,hb3h,fieldAddr_ptr f78_0 s3,fieldAddr_ptr f78_1 s3,p3,hd,Bool.not_false,part780,rd_lookup,w_lookup,lookup_cnt hm3,look_cntOf]
        refine S.ret ?_
        try simp only [Q4, V4]
        subst hF
        simp only [finish, endMarks]
        rw [show Tryz.f51.results.toList = [.tmp 4] from rfl]
        simp (disch := first | omega | (simp only [D8, I8] <;> omega) | decide) only [resA, o5, J6, H6, O6, L6, L8, N8, E8, F8, result1]
        exact hK _ _ hk3 rfl

set_option maxHeartbeats 4000000 in
theorem vpairs_y (S : Ev.Steps Tryz.prog pr R) (hoff : Off pr) (h0 : AHeap) (sv : Value) (ps : Prs) (hc : SlAt h0 2 sv (ps.map pc)) (hsz : (ps.length : Int) ≤ 1000000) :
    Brings Tryz.prog R 29 [sv] h0 fun u _ => u = .bool (ps.all (validB ps)) := by
  refine brings_of (fn := Tryz.f29) (c := (Tryz.f29.body).getD .skip) (by kernel_rfl) rfl (by kernel_rfl) rfl (fun K hK => ?_)
  generalize hF : finish Tryz.prog Tryz.f29 K = KF
  simp only [Tryz.f29, Option.getD_some, argsT, setArgs, fV1_eq, T.setK_eq, id]
  repeat refine S.seq ?_
  refine S.region ?_
  simp (disch := first | omega | (simp only [D8, I8] <;> omega) | decide) only [O0,U0,X0,Y0,O1,U1,Y1,U2,Y2,Y9,Z9,l9,o9,x9,J3,O3,Q3,U3,V3,X3,Y3,I4,J4,O4,Q4,U4,V4,X4,Y4,Z4,D5,E5,F5,G5,H5,I5,J5,O5,P5,Q5,U5,V5,X5,Y5,Z5,o5,y5,D6,F6,G6,H6,J6,L6,O6,P6,U6,V6,X6,Y6,o6,A7,D7,F7,G7,H7,I7,J7,N7,O7,P7,Q7,U7,V7,X7,Y7,Z7,l7,o7,y7,A8,D8,E8,F8,G8,H8,↓reduceIte,Nat.reduceEqDiff,I8,J8,L8,N8,O8,P8,Q8,U8,V8,X8,Y8,Z8,o8,y8,C9,D9,E9,F9,G9,H9,I9,J9,L9,N9,Nat.reduceAdd,y9,A_,B_,C_,D_,O9,P9,E_,F_]
  repeat refine S.seq ?_
  refine S.region ?_
  simp (disch := first | omega | (simp only [D8, I8] <;> omega) | decide) only [O0,U0,X0,Y0,O1,U1,Y1,U2,Y2,Y9,Z9,l9,o9,x9,J3,O3,Q3,U3,V3,X3,Y3,I4,J4,O4,Q4,U4,V4,X4,Y4,Z4,D5,E5,F5,G5,H5,I5,J5,O5,P5,Q5,U5,V5,X5,Y5,Z5,o5,y5,D6,F6,G6,H6,J6,L6,O6,P6,U6,V6,X6,Y6,o6,A7,D7,F7,G7,H7,I7,J7,N7,O7,P7,Q7,U7,V7,X7,Y7,Z7,l7,o7,y7,A8,D8,E8,F8,G8,H8,↓reduceIte,Nat.reduceEqDiff,I8,J8,L8,N8,O8,P8,Q8,U8,V8,X8,Y8,Z8,o8,y8,C9,D9,E9,F9,G9,H9,I9,J9,L9,N9,Nat.reduceAdd,y9,A_,B_,C_,D_,O9,P9,E_,F_]
  refine wr_brings (fid := 50) (first := #[]) (captured := #[]) (Post := fun u h => ∃ r n, u = .map (some r) ∧ h0.nx ≤ r ∧ r < h.nx ∧ h.bl.get r = some (.map (mkE (cntOf ps) 0) n)) rfl (hoff _ _ _ rfl) (by simp (disch := first | omega | (simp only [D8, I8] <;> omega) | decide) only [O0,U0,X0,Y0,O1,U1,Y1,U2,Y2,Y9,Z9,l9,o9,x9,J3,O3,Q3,U3,V3,X3,Y3,I4,J4,O4,Q4,U4,V4,X4,Y4,Z4,D5,E5,F5,G5,H5,I5,J5,O5,P5,Q5,U5,V5,X5,Y5,Z5,o5,y5,D6,F6,G6,H6,J6,L6,O6,P6,U6,V6,X6,Y6,o6,A7,D7,F7,G7,H7,I7,J7,N7,O7,P7,Q7,U7,V7,X7,Y7,Z7,l7,o7,y7,A8,D8,E8,F8,G8,H8,↓reduceIte,Nat.reduceEqDiff,I8,J8,L8,N8,O8,P8,Q8,U8,V8,X8,Y8,Z8,o8,y8,C9,D9,E9,F9,G9,H9,I9,J9,L9,N9,Nat.reduceAdd,y9,A_,B_,C_,D_,O9,P9,E_,F_]; exact count_y S h0 sv ps hc hsz) ?_
  rintro u g hkg ⟨r, n, rfl, _, hr, hm⟩
  simp (disch := first | omega | (simp only [D8, I8] <;> omega) | decide) only [O0,U0,X0,Y0,O1,U1,Y1,U2,Y2,Y9,Z9,l9,o9,x9,J3,O3,Q3,U3,V3,X3,Y3,I4,J4,O4,Q4,U4,V4,X4,Y4,Z4,D5,E5,F5,G5,H5,I5,J5,O5,P5,Q5,U5,V5,X5,Y5,Z5,o5,y5,D6,F6,G6,H6,J6,L6,O6,P6,U6,V6,X6,Y6,o6,A7,D7,F7,G7,H7,I7,J7,N7,O7,P7,Q7,U7,V7,X7,Y7,Z7,l7,o7,y7,A8,D8,E8,F8,G8,H8,↓reduceIte,Nat.reduceEqDiff,I8,J8,L8,N8,O8,P8,Q8,U8,V8,X8,Y8,Z8,o8,y8,C9,D9,E9,F9,G9,H9,I9,J9,L9,N9,Nat.reduceAdd,y9,A_,B_,C_,D_,O9,P9,E_,F_]
  refine wr_brings (fid := 49) (first := #[]) (captured := #[]) (Post := fun u _ => u = .bool (ps.all (validB ps))) rfl (hoff _ _ _ rfl) (by simp (disch := first | omega | (simp only [D8, I8] <;> omega) | decide) only [O0,U0,X0,Y0,O1,U1,Y1,U2,Y2,Y9,Z9,l9,o9,x9,J3,O3,Q3,U3,V3,X3,Y3,I4,J4,O4,Q4,U4,V4,X4,Y4,Z4,D5,E5,F5,G5,H5,I5,J5,O5,P5,Q5,U5,V5,X5,Y5,Z5,o5,y5,D6,F6,G6,H6,J6,L6,O6,P6,U6,V6,X6,Y6,o6,A7,D7,F7,G7,H7,I7,J7,N7,O7,P7,Q7,U7,V7,X7,Y7,Z7,l7,o7,y7,A8,D8,E8,F8,G8,H8,↓reduceIte,Nat.reduceEqDiff,I8,J8,L8,N8,O8,P8,Q8,U8,V8,X8,Y8,Z8,o8,y8,C9,D9,E9,F9,G9,H9,I9,J9,L9,N9,Nat.reduceAdd,y9,A_,B_,C_,D_,O9,P9,E_,F_]; exact all78_y S hoff g sv ps (hc.mono hkg) hsz 51 rfl (.map (some r)) (validB ps) (fun h' hk p _ => valid_y S hoff h' r n ps p (Nat.lt_of_lt_of_le hr hk.1) ((hk.get hr).trans hm))) ?_
  rintro u g2 hkg2 rfl
  simp (disch := first | omega | (simp only [D8, I8] <;> omega) | decide) only [O0,U0,X0,Y0,O1,U1,Y1,U2,Y2,Y9,Z9,l9,o9,x9,J3,O3,Q3,U3,V3,X3,Y3,I4,J4,O4,Q4,U4,V4,X4,Y4,Z4,D5,E5,F5,G5,H5,I5,J5,O5,P5,Q5,U5,V5,X5,Y5,Z5,o5,y5,D6,F6,G6,H6,J6,L6,O6,P6,U6,V6,X6,Y6,o6,A7,D7,F7,G7,H7,I7,J7,N7,O7,P7,Q7,U7,V7,X7,Y7,Z7,l7,o7,y7,A8,D8,E8,F8,G8,H8,↓reduceIte,Nat.reduceEqDiff,I8,J8,L8,N8,O8,P8,Q8,U8,V8,X8,Y8,Z8,o8,y8,C9,D9,E9,F9,G9,H9,I9,J9,L9,N9,Nat.reduceAdd,y9,A_,B_,C_,D_,O9,P9,E_,F_]
  refine S.ret ?_
  try simp only [Q4, V4]
  subst hF
  simp only [finish, endMarks]
  rw [show Tryz.f29.results.toList = [.tmp 2] from rfl]
  simp (disch := first | omega | (simp only [D8, I8] <;> omega) | decide) only [resA, o5, J6, H6, O6, L6, L8, N8, E8, F8, result1]
  exact hK _ _ (hkg.trans hkg2) rfl
end Go.Proofs.Hs
