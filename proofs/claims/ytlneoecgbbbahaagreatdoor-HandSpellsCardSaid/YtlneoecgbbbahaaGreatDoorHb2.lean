import Derived.Test.YtlneoecgbbbahaaGreatDoorHb1
namespace Go.Proofs
open Go Go.Ev
set_option linter.unusedSimpArgs false

/-! ## All signs of a string -/
def u8v (b : UInt8) : Value := .int .u8 (b.toNat : Int)
def bad : List UInt8 → Int → Int
  | [], _ => -1
  | b :: r, i => if sign b.toNat then bad r (i + 1) else i
theorem bad_ge : ∀ (l : List UInt8) (i : Int), 0 ≤ i → (0 ≤ bad l i ↔ (l.all fun b => sign b.toNat) = false)
  | [], i, _ => by simp [bad]
  | b :: r, i, hi => by
    simp only [bad, List.all_cons]
    by_cases hb : sign b.toNat = true
    · rw [if_pos hb, bad_ge r (i + 1) (by omega), hb, Bool.true_and]
    · rw [if_neg hb, Bool.eq_false_iff.2 hb, Bool.false_and]
      simp [hi]

theorem s5 : sizeB Tryz.prog 5 = some 1 := by kernel_rfl
theorem p5 (c : List Value) (o : Nat) : partL Tryz.prog 5 c o = c[o]? := by kernel_rfl
theorem pfn (c : List Value) (o : Nat) : partL Tryz.prog 128 c o = c[o]? := by kernel_rfl
theorem slB : slOf Tryz.prog 82 = some 5 := by kernel_rfl
theorem tyB : isSlTy Tryz.prog 82 = true := by kernel_rfl

def IB (bs : List UInt8) (sv fv : Value) (H : AHeap) (k : Nat) (t : T Value) (h : AHeap) : Prop :=
  k ≤ bs.length ∧ bad bs 0 = bad (bs.drop k) k ∧ h = H ∧ tget t 0 = sv ∧ tget t 1 = fv ∧ tget t 7 = .int .i64 (bs.length : Int) ∧ tget t 8 = .int .i64 (k : Int)

variable {pr : Prim} {R : ExT}
set_option maxHeartbeats 4000000 in
theorem index_run (S : Ev.Steps Tryz.prog pr R) (bs : List UInt8) (hn0 : bs.length ≤ 2000) (B C fam fC : Nat) (ro roC : Bool) (H : AHeap) (hB : H.bl.get B = some (.cells (bs.map u8v) fam ro))
    (hC : H.bl.get C = some (.cells [.func (.func 65) #[] #[]] fC roC)) (hp : ∀ b : UInt8, pr 65 [.int .u8 (b.toNat : Int)] H = some (.bool (sign b.toNat))) (hp2 : ∀ l, pr 85 l H = none)
    (K : KV) (hK : K (.int .i64 (bad bs 0)) H = true) :
    R 19 none ((Tryz.f112.body).getD .skip) (argsT [.slice (some ⟨B, 0, none⟩) bs.length bs.length, .func (.func 85) #[] #[.pointer (some ⟨C, 0, none⟩)]]) H [] (finish Tryz.prog Tryz.f112 K) = true := by
  generalize hF : finish Tryz.prog Tryz.f112 K = KF
  simp only [Tryz.f112, Option.getD_some, argsT, setArgs, fV1_eq, T.setK_eq, id]
  generalize hnl : bs.length = n at *
  refine S.seq (S.region ?_)
  simp (disch := omega) only [O0,U0,X0,Y0,O1,U1,Y1,U2,Y2,Y9,Z9,l9,o9,x9,J3,O3,Q3,U3,V3,X3,Y3,I4,J4,O4,Q4,U4,V4,X4,Y4,Z4,D5,E5,F5,G5,H5,I5,J5,O5,P5,Q5,U5,V5,X5,Y5,Z5,o5,y5,D6,F6,G6,H6,J6,L6,O6,P6,U6,V6,X6,Y6,o6,A7,D7,F7,G7,H7,I7,J7,N7,O7,P7,Q7,U7,V7,X7,Y7,Z7,l7,o7,y7,A8,D8,add_get,add_fget,↓reduceIte,Nat.reduceEqDiff,I8,J8,L8,N8,O8,P8,Q8,U8,V8,X8,Y8,Z8,o8,y8,C9,D9,E9,F9,G9,H9,I9,J9,L9,N9,Nat.reduceAdd,y9,A_,B_,C_,D_]
  refine S.seq (S.seq (S.region ?_))
  simp (disch := omega) only [O0,U0,X0,Y0,O1,U1,Y1,U2,Y2,Y9,Z9,l9,o9,x9,J3,O3,Q3,U3,V3,X3,Y3,I4,J4,O4,Q4,U4,V4,X4,Y4,Z4,D5,E5,F5,G5,H5,I5,J5,O5,P5,Q5,U5,V5,X5,Y5,Z5,o5,y5,D6,F6,G6,H6,J6,L6,O6,P6,U6,V6,X6,Y6,o6,A7,D7,F7,G7,H7,I7,J7,N7,O7,P7,Q7,U7,V7,X7,Y7,Z7,l7,o7,y7,A8,D8,add_get,add_fget,↓reduceIte,Nat.reduceEqDiff,I8,J8,L8,N8,O8,P8,Q8,U8,V8,X8,Y8,Z8,o8,y8,C9,D9,E9,F9,G9,H9,I9,J9,L9,N9,Nat.reduceAdd,y9,A_,B_,C_,D_,len_sl tyB]
  refine S.block ?_
  refine S.loop (ι := Nat) (IB bs (.slice (some ⟨B, 0, none⟩) n n) (.func (.func 85) #[] #[.pointer (some ⟨C, 0, none⟩)]) H) (fun k => n - k) ?_ 0 _ _ ?_
  · intro k t h ⟨hk, hfi, hh, h0, h1, h7, h8⟩ K' hn he
    subst hh
    rw [hnl] at h7 hk
    refine S.seq (S.region ?_)
    simp (disch := omega) only [O0,U0,X0,Y0,O1,U1,Y1,U2,Y2,Y9,Z9,l9,o9,x9,J3,O3,Q3,U3,V3,X3,Y3,I4,J4,O4,Q4,U4,V4,X4,Y4,Z4,D5,E5,F5,G5,H5,I5,J5,O5,P5,Q5,U5,V5,X5,Y5,Z5,o5,y5,D6,F6,G6,H6,J6,L6,O6,P6,U6,V6,X6,Y6,o6,A7,D7,F7,G7,H7,I7,J7,N7,O7,P7,Q7,U7,V7,X7,Y7,Z7,l7,o7,y7,A8,D8,add_get,add_fget,↓reduceIte,Nat.reduceEqDiff,I8,J8,L8,N8,O8,P8,Q8,U8,V8,X8,Y8,Z8,o8,y8,C9,D9,E9,F9,G9,H9,I9,J9,L9,N9,Nat.reduceAdd,y9,A_,B_,C_,D_,h8,h7]
    refine S.seq (S.cond (v := decide ((k : Int) < (n : Int))) (by simp (disch := omega) only [O0,U0,X0,Y0,O1,U1,Y1,U2,Y2,Y9,Z9,l9,o9,x9,J3,O3,Q3,U3,V3,X3,Y3,I4,J4,O4,Q4,U4,V4,X4,Y4,Z4,D5,E5,F5,G5,H5,I5,J5,O5,P5,Q5,U5,V5,X5,Y5,Z5,o5,y5,D6,F6,G6,H6,J6,L6,O6,P6,U6,V6,X6,Y6,o6,A7,D7,F7,G7,H7,I7,J7,N7,O7,P7,Q7,U7,V7,X7,Y7,Z7,l7,o7,y7,A8,D8,add_get,add_fget,↓reduceIte,Nat.reduceEqDiff,I8,J8,L8,N8,O8,P8,Q8,U8,V8,X8,Y8,Z8,o8,y8,C9,D9,E9,F9,G9,H9,I9,J9,L9,N9,Nat.reduceAdd,y9,A_,B_,C_,D_,h8]) (fun e => ?_) (fun e => ?_))
    · have hkn : k < n := by have := of_decide_eq_true e; omega
      clear e
      obtain ⟨x, hx⟩ : ∃ x, bs[k]? = some x := ⟨bs[k], List.getElem?_eq_getElem (by omega)⟩
      have hx' : (bs.map u8v)[k]? = some (.int .u8 (x.toNat : Int)) := by simp [hx, u8v]
      have hd : bs.drop k = x :: bs.drop (k + 1) := by
        obtain ⟨h1, h2⟩ := List.getElem?_eq_some_iff.1 hx
        rw [List.drop_eq_getElem_cons h1, h2]
      rw [hd] at hfi
      simp only [bad] at hfi
      refine S.skip ?_
      simp (disch := omega) only [O0,U0,X0,Y0,O1,U1,Y1,U2,Y2,Y9,Z9,l9,o9,x9,J3,O3,Q3,U3,V3,X3,Y3,I4,J4,O4,Q4,U4,V4,X4,Y4,Z4,D5,E5,F5,G5,H5,I5,J5,O5,P5,Q5,U5,V5,X5,Y5,Z5,o5,y5,D6,F6,G6,H6,J6,L6,O6,P6,U6,V6,X6,Y6,o6,A7,D7,F7,G7,H7,I7,J7,N7,O7,P7,Q7,U7,V7,X7,Y7,Z7,l7,o7,y7,A8,D8,add_get,add_fget,↓reduceIte,Nat.reduceEqDiff,I8,J8,L8,N8,O8,P8,Q8,U8,V8,X8,Y8,Z8,o8,y8,C9,D9,E9,F9,G9,H9,I9,J9,L9,N9,Nat.reduceAdd,y9,A_,B_,C_,D_]
      refine S.seq (S.block (S.seq (S.region ?_)))
      simp (disch := omega) only [O0,U0,X0,Y0,O1,U1,Y1,U2,Y2,Y9,Z9,l9,o9,x9,J3,O3,Q3,U3,V3,X3,Y3,I4,J4,O4,Q4,U4,V4,X4,Y4,Z4,D5,E5,F5,G5,H5,I5,J5,O5,P5,Q5,U5,V5,X5,Y5,Z5,o5,y5,D6,F6,G6,H6,J6,L6,O6,P6,U6,V6,X6,Y6,o6,A7,D7,F7,G7,H7,I7,J7,N7,O7,P7,Q7,U7,V7,X7,Y7,Z7,l7,o7,y7,A8,D8,add_get,add_fget,↓reduceIte,Nat.reduceEqDiff,I8,J8,L8,N8,O8,P8,Q8,U8,V8,X8,Y8,Z8,o8,y8,C9,D9,E9,F9,G9,H9,I9,J9,L9,N9,Nat.reduceAdd,y9,A_,B_,C_,D_,h8]
      refine S.seq (S.region ?_)
      simp (disch := omega) only [O0,U0,X0,Y0,O1,U1,Y1,U2,Y2,Y9,Z9,l9,o9,x9,J3,O3,Q3,U3,V3,X3,Y3,I4,J4,O4,Q4,U4,V4,X4,Y4,Z4,D5,E5,F5,G5,H5,I5,J5,O5,P5,Q5,U5,V5,X5,Y5,Z5,o5,y5,D6,F6,G6,H6,J6,L6,O6,P6,U6,V6,X6,Y6,o6,A7,D7,F7,G7,H7,I7,J7,N7,O7,P7,Q7,U7,V7,X7,Y7,Z7,l7,o7,y7,A8,D8,add_get,add_fget,↓reduceIte,Nat.reduceEqDiff,I8,J8,L8,N8,O8,P8,Q8,U8,V8,X8,Y8,Z8,o8,y8,C9,D9,E9,F9,G9,H9,I9,J9,L9,N9,Nat.reduceAdd,y9,A_,B_,C_,D_,h8,h1,h0,indexAddr_sl slB s5,hB,p5,hx']
      refine wr_inline (fid := 85) (first := #[]) (captured := #[.pointer (some ⟨C, 0, none⟩)]) (fn := Tryz.f85) (c := (Tryz.f85.body).getD .skip) (by simp (disch := omega) only [O0,U0,X0,Y0,O1,U1,Y1,U2,Y2,Y9,Z9,l9,o9,x9,J3,O3,Q3,U3,V3,X3,Y3,I4,J4,O4,Q4,U4,V4,X4,Y4,Z4,D5,E5,F5,G5,H5,I5,J5,O5,P5,Q5,U5,V5,X5,Y5,Z5,o5,y5,D6,F6,G6,H6,J6,L6,O6,P6,U6,V6,X6,Y6,o6,A7,D7,F7,G7,H7,I7,J7,N7,O7,P7,Q7,U7,V7,X7,Y7,Z7,l7,o7,y7,A8,D8,add_get,add_fget,↓reduceIte,Nat.reduceEqDiff,I8,J8,L8,N8,O8,P8,Q8,U8,V8,X8,Y8,Z8,o8,y8,C9,D9,E9,F9,G9,H9,I9,J9,L9,N9,Nat.reduceAdd,y9,A_,B_,C_,D_]) (hp2 _) (by kernel_rfl) rfl (by kernel_rfl) rfl ?_
      simp (disch := omega) only [O0,U0,X0,Y0,O1,U1,Y1,U2,Y2,Y9,Z9,l9,o9,x9,J3,O3,Q3,U3,V3,X3,Y3,I4,J4,O4,Q4,U4,V4,X4,Y4,Z4,D5,E5,F5,G5,H5,I5,J5,O5,P5,Q5,U5,V5,X5,Y5,Z5,o5,y5,D6,F6,G6,H6,J6,L6,O6,P6,U6,V6,X6,Y6,o6,A7,D7,F7,G7,H7,I7,J7,N7,O7,P7,Q7,U7,V7,X7,Y7,Z7,l7,o7,y7,A8,D8,add_get,add_fget,↓reduceIte,Nat.reduceEqDiff,I8,J8,L8,N8,O8,P8,Q8,U8,V8,X8,Y8,Z8,o8,y8,C9,D9,E9,F9,G9,H9,I9,J9,L9,N9,Nat.reduceAdd,y9,A_,B_,C_,D_,O9,P9]
      generalize hF2 : finish Tryz.prog Tryz.f85 _ = KF2
      simp only [Tryz.f85, Option.getD_some, List.nil_append, List.cons_append, List.append_eq, argsT, setArgs, fV1_eq, T.setK_eq, id]
      have hsx := hp x
      refine S.seq (S.region ?_)
      simp (disch := omega) only [O0,U0,X0,Y0,O1,U1,Y1,U2,Y2,Y9,Z9,l9,o9,x9,J3,O3,Q3,U3,V3,X3,Y3,I4,J4,O4,Q4,U4,V4,X4,Y4,Z4,D5,E5,F5,G5,H5,I5,J5,O5,P5,Q5,U5,V5,X5,Y5,Z5,o5,y5,D6,F6,G6,H6,J6,L6,O6,P6,U6,V6,X6,Y6,o6,A7,D7,F7,G7,H7,I7,J7,N7,O7,P7,Q7,U7,V7,X7,Y7,Z7,l7,o7,y7,A8,D8,add_get,add_fget,↓reduceIte,Nat.reduceEqDiff,I8,J8,L8,N8,O8,P8,Q8,U8,V8,X8,Y8,Z8,o8,y8,C9,D9,E9,F9,G9,H9,I9,J9,L9,N9,Nat.reduceAdd,y9,A_,B_,C_,D_]
      refine S.seq (S.region ?_)
      simp (disch := omega) only [O0,U0,X0,Y0,O1,U1,Y1,U2,Y2,Y9,Z9,l9,o9,x9,J3,O3,Q3,U3,V3,X3,Y3,I4,J4,O4,Q4,U4,V4,X4,Y4,Z4,D5,E5,F5,G5,H5,I5,J5,O5,P5,Q5,U5,V5,X5,Y5,Z5,o5,y5,D6,F6,G6,H6,J6,L6,O6,P6,U6,V6,X6,Y6,o6,A7,D7,F7,G7,H7,I7,J7,N7,O7,P7,Q7,U7,V7,X7,Y7,Z7,l7,o7,y7,A8,D8,add_get,add_fget,↓reduceIte,Nat.reduceEqDiff,I8,J8,L8,N8,O8,P8,Q8,U8,V8,X8,Y8,Z8,o8,y8,C9,D9,E9,F9,G9,H9,I9,J9,L9,N9,Nat.reduceAdd,y9,A_,B_,C_,D_,hC,pfn]
      refine wr_prim (fid := 65) (first := #[]) (captured := #[]) (v := .bool (sign x.toNat)) (by simp (disch := omega) only [O0,U0,X0,Y0,O1,U1,Y1,U2,Y2,Y9,Z9,l9,o9,x9,J3,O3,Q3,U3,V3,X3,Y3,I4,J4,O4,Q4,U4,V4,X4,Y4,Z4,D5,E5,F5,G5,H5,I5,J5,O5,P5,Q5,U5,V5,X5,Y5,Z5,o5,y5,D6,F6,G6,H6,J6,L6,O6,P6,U6,V6,X6,Y6,o6,A7,D7,F7,G7,H7,I7,J7,N7,O7,P7,Q7,U7,V7,X7,Y7,Z7,l7,o7,y7,A8,D8,add_get,add_fget,↓reduceIte,Nat.reduceEqDiff,I8,J8,L8,N8,O8,P8,Q8,U8,V8,X8,Y8,Z8,o8,y8,C9,D9,E9,F9,G9,H9,I9,J9,L9,N9,Nat.reduceAdd,y9,A_,B_,C_,D_]) ?_ ?_
      · simp (disch := omega) only [O0,U0,X0,Y0,O1,U1,Y1,U2,Y2,Y9,Z9,l9,o9,x9,J3,O3,Q3,U3,V3,X3,Y3,I4,J4,O4,Q4,U4,V4,X4,Y4,Z4,D5,E5,F5,G5,H5,I5,J5,O5,P5,Q5,U5,V5,X5,Y5,Z5,o5,y5,D6,F6,G6,H6,J6,L6,O6,P6,U6,V6,X6,Y6,o6,A7,D7,F7,G7,H7,I7,J7,N7,O7,P7,Q7,U7,V7,X7,Y7,Z7,l7,o7,y7,A8,D8,add_get,add_fget,↓reduceIte,Nat.reduceEqDiff,I8,J8,L8,N8,O8,P8,Q8,U8,V8,X8,Y8,Z8,o8,y8,C9,D9,E9,F9,G9,H9,I9,J9,L9,N9,Nat.reduceAdd,y9,A_,B_,C_,D_,O9,P9]
        exact hsx
      simp (disch := omega) only [O0,U0,X0,Y0,O1,U1,Y1,U2,Y2,Y9,Z9,l9,o9,x9,J3,O3,Q3,U3,V3,X3,Y3,I4,J4,O4,Q4,U4,V4,X4,Y4,Z4,D5,E5,F5,G5,H5,I5,J5,O5,P5,Q5,U5,V5,X5,Y5,Z5,o5,y5,D6,F6,G6,H6,J6,L6,O6,P6,U6,V6,X6,Y6,o6,A7,D7,F7,G7,H7,I7,J7,N7,O7,P7,Q7,U7,V7,X7,Y7,Z7,l7,o7,y7,A8,D8,add_get,add_fget,↓reduceIte,Nat.reduceEqDiff,I8,J8,L8,N8,O8,P8,Q8,U8,V8,X8,Y8,Z8,o8,y8,C9,D9,E9,F9,G9,H9,I9,J9,L9,N9,Nat.reduceAdd,y9,A_,B_,C_,D_,V7]
      refine S.ret ?_
      subst hF2
      simp only [finish, endMarks]
      rw [show Tryz.f85.results.toList = [.tmp 3] from rfl]
      simp (disch := omega) only [resA, o5, J6, H6, result1]
      by_cases hsg : sign x.toNat = true
      · rw [if_pos hsg] at hfi
        refine S.cond (v := !sign x.toNat) (by simp (disch := omega) only [O0,U0,X0,Y0,O1,U1,Y1,U2,Y2,Y9,Z9,l9,o9,x9,J3,O3,Q3,U3,V3,X3,Y3,I4,J4,O4,Q4,U4,V4,X4,Y4,Z4,D5,E5,F5,G5,H5,I5,J5,O5,P5,Q5,U5,V5,X5,Y5,Z5,o5,y5,D6,F6,G6,H6,J6,L6,O6,P6,U6,V6,X6,Y6,o6,A7,D7,F7,G7,H7,I7,J7,N7,O7,P7,Q7,U7,V7,X7,Y7,Z7,l7,o7,y7,A8,D8,add_get,add_fget,↓reduceIte,Nat.reduceEqDiff,I8,J8,L8,N8,O8,P8,Q8,U8,V8,X8,Y8,Z8,o8,y8,C9,D9,E9,F9,G9,H9,I9,J9,L9,N9,Nat.reduceAdd,y9,A_,B_,C_,D_]) (fun e => by rw [hsg] at e; cases e) (fun _ => ?_)
        refine S.skip ?_
        simp (disch := omega) only [O0,U0,X0,Y0,O1,U1,Y1,U2,Y2,Y9,Z9,l9,o9,x9,J3,O3,Q3,U3,V3,X3,Y3,I4,J4,O4,Q4,U4,V4,X4,Y4,Z4,D5,E5,F5,G5,H5,I5,J5,O5,P5,Q5,U5,V5,X5,Y5,Z5,o5,y5,D6,F6,G6,H6,J6,L6,O6,P6,U6,V6,X6,Y6,o6,A7,D7,F7,G7,H7,I7,J7,N7,O7,P7,Q7,U7,V7,X7,Y7,Z7,l7,o7,y7,A8,D8,add_get,add_fget,↓reduceIte,Nat.reduceEqDiff,I8,J8,L8,N8,O8,P8,Q8,U8,V8,X8,Y8,Z8,o8,y8,C9,D9,E9,F9,G9,H9,I9,J9,L9,N9,Nat.reduceAdd,y9,A_,B_,C_,D_]
        refine S.region ?_
        simp (disch := omega) only [O0,U0,X0,Y0,O1,U1,Y1,U2,Y2,Y9,Z9,l9,o9,x9,J3,O3,Q3,U3,V3,X3,Y3,I4,J4,O4,Q4,U4,V4,X4,Y4,Z4,D5,E5,F5,G5,H5,I5,J5,O5,P5,Q5,U5,V5,X5,Y5,Z5,o5,y5,D6,F6,G6,H6,J6,L6,O6,P6,U6,V6,X6,Y6,o6,A7,D7,F7,G7,H7,I7,J7,N7,O7,P7,Q7,U7,V7,X7,Y7,Z7,l7,o7,y7,A8,D8,add_get,add_fget,↓reduceIte,Nat.reduceEqDiff,I8,J8,L8,N8,O8,P8,Q8,U8,V8,X8,Y8,Z8,o8,y8,C9,D9,E9,F9,G9,H9,I9,J9,L9,N9,Nat.reduceAdd,y9,A_,B_,C_,D_,h8]
        refine hn (k + 1) _ _ (by omega) ⟨by omega, ?_, rfl, ?_, ?_, ?_, ?_⟩
        · rw [hfi]; rfl
        all_goals (simp (disch := omega) only [O0,U0,X0,Y0,O1,U1,Y1,U2,Y2,Y9,Z9,l9,o9,x9,J3,O3,Q3,U3,V3,X3,Y3,I4,J4,O4,Q4,U4,V4,X4,Y4,Z4,D5,E5,F5,G5,H5,I5,J5,O5,P5,Q5,U5,V5,X5,Y5,Z5,o5,y5,D6,F6,G6,H6,J6,L6,O6,P6,U6,V6,X6,Y6,o6,A7,D7,F7,G7,H7,I7,J7,N7,O7,P7,Q7,U7,V7,X7,Y7,Z7,l7,o7,y7,A8,D8,add_get,add_fget,↓reduceIte,Nat.reduceEqDiff,I8,J8,L8,N8,O8,P8,Q8,U8,V8,X8,Y8,Z8,o8,y8,C9,D9,E9,F9,G9,H9,I9,J9,L9,N9,Nat.reduceAdd,y9,A_,B_,C_,D_,h0,h1,h7,h8,hnl]; done)
      · rw [if_neg hsg] at hfi
        refine S.cond (v := !sign x.toNat) (by simp (disch := omega) only [O0,U0,X0,Y0,O1,U1,Y1,U2,Y2,Y9,Z9,l9,o9,x9,J3,O3,Q3,U3,V3,X3,Y3,I4,J4,O4,Q4,U4,V4,X4,Y4,Z4,D5,E5,F5,G5,H5,I5,J5,O5,P5,Q5,U5,V5,X5,Y5,Z5,o5,y5,D6,F6,G6,H6,J6,L6,O6,P6,U6,V6,X6,Y6,o6,A7,D7,F7,G7,H7,I7,J7,N7,O7,P7,Q7,U7,V7,X7,Y7,Z7,l7,o7,y7,A8,D8,add_get,add_fget,↓reduceIte,Nat.reduceEqDiff,I8,J8,L8,N8,O8,P8,Q8,U8,V8,X8,Y8,Z8,o8,y8,C9,D9,E9,F9,G9,H9,I9,J9,L9,N9,Nat.reduceAdd,y9,A_,B_,C_,D_]) (fun _ => ?_) (fun e => by rw [Bool.eq_false_iff.2 hsg] at e; cases e)
        refine S.seq (S.region ?_)
        simp (disch := omega) only [O0,U0,X0,Y0,O1,U1,Y1,U2,Y2,Y9,Z9,l9,o9,x9,J3,O3,Q3,U3,V3,X3,Y3,I4,J4,O4,Q4,U4,V4,X4,Y4,Z4,D5,E5,F5,G5,H5,I5,J5,O5,P5,Q5,U5,V5,X5,Y5,Z5,o5,y5,D6,F6,G6,H6,J6,L6,O6,P6,U6,V6,X6,Y6,o6,A7,D7,F7,G7,H7,I7,J7,N7,O7,P7,Q7,U7,V7,X7,Y7,Z7,l7,o7,y7,A8,D8,add_get,add_fget,↓reduceIte,Nat.reduceEqDiff,I8,J8,L8,N8,O8,P8,Q8,U8,V8,X8,Y8,Z8,o8,y8,C9,D9,E9,F9,G9,H9,I9,J9,L9,N9,Nat.reduceAdd,y9,A_,B_,C_,D_]
        refine S.ret ?_
        simp only [Q4, V4]
        refine he _ _ _ _ (fun e => by cases e) ?_
        simp (disch := omega) only [O0,U0,X0,Y0,O1,U1,Y1,U2,Y2,Y9,Z9,l9,o9,x9,J3,O3,Q3,U3,V3,X3,Y3,I4,J4,O4,Q4,U4,V4,X4,Y4,Z4,D5,E5,F5,G5,H5,I5,J5,O5,P5,Q5,U5,V5,X5,Y5,Z5,o5,y5,D6,F6,G6,H6,J6,L6,O6,P6,U6,V6,X6,Y6,o6,A7,D7,F7,G7,H7,I7,J7,N7,O7,P7,Q7,U7,V7,X7,Y7,Z7,l7,o7,y7,A8,D8,add_get,add_fget,↓reduceIte,Nat.reduceEqDiff,I8,J8,L8,N8,O8,P8,Q8,U8,V8,X8,Y8,Z8,o8,y8,C9,D9,E9,F9,G9,H9,I9,J9,L9,N9,Nat.reduceAdd,y9,A_,B_,C_,D_]
        subst hF
        simp only [finish, endMarks]
        rw [show Tryz.f112.results.toList = [.tmp 4] from rfl]
        simp (disch := omega) only [resA, o5, J6, H6, result1]
        rw [hfi] at hK
        exact hK
    · have hkn : k = n := by have := of_decide_eq_false e; omega
      subst hkn
      refine S.exit (he _ _ _ _ (fun e => by cases e) ?_)
      simp (disch := omega) only [O0,U0,X0,Y0,O1,U1,Y1,U2,Y2,Y9,Z9,l9,o9,x9,J3,O3,Q3,U3,V3,X3,Y3,I4,J4,O4,Q4,U4,V4,X4,Y4,Z4,D5,E5,F5,G5,H5,I5,J5,O5,P5,Q5,U5,V5,X5,Y5,Z5,o5,y5,D6,F6,G6,H6,J6,L6,O6,P6,U6,V6,X6,Y6,o6,A7,D7,F7,G7,H7,I7,J7,N7,O7,P7,Q7,U7,V7,X7,Y7,Z7,l7,o7,y7,A8,D8,add_get,add_fget,↓reduceIte,Nat.reduceEqDiff,I8,J8,L8,N8,O8,P8,Q8,U8,V8,X8,Y8,Z8,o8,y8,C9,D9,E9,F9,G9,H9,I9,J9,L9,N9,Nat.reduceAdd,y9,A_,B_,C_,D_]
      rw [List.drop_of_length_le (by omega)] at hfi
      refine S.seq (S.region ?_)
      simp (disch := omega) only [O0,U0,X0,Y0,O1,U1,Y1,U2,Y2,Y9,Z9,l9,o9,x9,J3,O3,Q3,U3,V3,X3,Y3,I4,J4,O4,Q4,U4,V4,X4,Y4,Z4,D5,E5,F5,G5,H5,I5,J5,O5,P5,Q5,U5,V5,X5,Y5,Z5,o5,y5,D6,F6,G6,H6,J6,L6,O6,P6,U6,V6,X6,Y6,o6,A7,D7,F7,G7,H7,I7,J7,N7,O7,P7,Q7,U7,V7,X7,Y7,Z7,l7,o7,y7,A8,D8,add_get,add_fget,↓reduceIte,Nat.reduceEqDiff,I8,J8,L8,N8,O8,P8,Q8,U8,V8,X8,Y8,Z8,o8,y8,C9,D9,E9,F9,G9,H9,I9,J9,L9,N9,Nat.reduceAdd,y9,A_,B_,C_,D_]
      refine S.ret ?_
      try simp only [Q4, V4]
      subst hF
      simp only [finish, endMarks]
      rw [show Tryz.f112.results.toList = [.tmp 4] from rfl]
      simp (disch := omega) only [resA, o5, J6, H6, O6, L6, L8, N8, add_get, result1]
      rw [hfi] at hK
      exact hK
  · refine ⟨by omega, rfl, rfl, ?_, ?_, ?_, ?_⟩
    all_goals (first | (simp (disch := omega) only [O0,U0,X0,Y0,O1,U1,Y1,U2,Y2,Y9,Z9,l9,o9,x9,J3,O3,Q3,U3,V3,X3,Y3,I4,J4,O4,Q4,U4,V4,X4,Y4,Z4,D5,E5,F5,G5,H5,I5,J5,O5,P5,Q5,U5,V5,X5,Y5,Z5,o5,y5,D6,F6,G6,H6,J6,L6,O6,P6,U6,V6,X6,Y6,o6,A7,D7,F7,G7,H7,I7,J7,N7,O7,P7,Q7,U7,V7,X7,Y7,Z7,l7,o7,y7,A8,D8,add_get,add_fget,↓reduceIte,Nat.reduceEqDiff,I8,J8,L8,N8,O8,P8,Q8,U8,V8,X8,Y8,Z8,o8,y8,C9,D9,E9,F9,G9,H9,I9,J9,L9,N9,Nat.reduceAdd,y9,A_,B_,C_,D_,hnl]; done) | (simp (disch := omega) only [O0,U0,X0,Y0,O1,U1,Y1,U2,Y2,Y9,Z9,l9,o9,x9,J3,O3,Q3,U3,V3,X3,Y3,I4,J4,O4,Q4,U4,V4,X4,Y4,Z4,D5,E5,F5,G5,H5,I5,J5,O5,P5,Q5,U5,V5,X5,Y5,Z5,o5,y5,D6,F6,G6,H6,J6,L6,O6,P6,U6,V6,X6,Y6,o6,A7,D7,F7,G7,H7,I7,J7,N7,O7,P7,Q7,U7,V7,X7,Y7,Z7,l7,o7,y7,A8,D8,add_get,add_fget,↓reduceIte,Nat.reduceEqDiff,I8,J8,L8,N8,O8,P8,Q8,U8,V8,X8,Y8,Z8,o8,y8,C9,D9,E9,F9,G9,H9,I9,J9,L9,N9,Nat.reduceAdd,y9,A_,B_,C_,D_,hnl]; rfl))

set_option maxHeartbeats 4000000 in
theorem all_run (S : Ev.Steps Tryz.prog pr R) (bs : List UInt8) (hn0 : bs.length ≤ 2000) (B fam : Nat) (ro : Bool) (H : AHeap) (hB : H.bl.get B = some (.cells (bs.map u8v) fam ro)) (hne : B ≠ H.nx)
    (hp : ∀ (b : UInt8) h, pr 65 [.int .u8 (b.toNat : Int)] h = some (.bool (sign b.toNat))) (hp2 : ∀ l h, pr 85 l h = none) (hp3 : ∀ l h, pr 112 l h = none) (hp4 : ∀ l h, pr 84 l h = none)
    (K : KV) (hK : K (.bool (bs.all fun b => sign b.toNat)) (H.add [.func (.func 65) #[] #[]]) = true) :
    R 9 none ((Tryz.f64.body).getD .skip) (argsT [.slice (some ⟨B, 0, none⟩) bs.length bs.length, .func (.func 65) #[] #[]]) H [] (finish Tryz.prog Tryz.f64 K) = true := by
  generalize hF : finish Tryz.prog Tryz.f64 K = KF
  simp only [Tryz.f64, Option.getD_some, argsT, setArgs, fV1_eq, T.setK_eq, id]
  refine S.seq (S.region ?_)
  simp (disch := omega) only [O0,U0,X0,Y0,O1,U1,Y1,U2,Y2,Y9,Z9,l9,o9,x9,J3,O3,Q3,U3,V3,X3,Y3,I4,J4,O4,Q4,U4,V4,X4,Y4,Z4,D5,E5,F5,G5,H5,I5,J5,O5,P5,Q5,U5,V5,X5,Y5,Z5,o5,y5,D6,F6,G6,H6,J6,L6,O6,P6,U6,V6,X6,Y6,o6,A7,D7,F7,G7,H7,I7,J7,N7,O7,P7,Q7,U7,V7,X7,Y7,Z7,l7,o7,y7,A8,D8,add_get,add_fget,↓reduceIte,Nat.reduceEqDiff,I8,J8,L8,N8,O8,P8,Q8,U8,V8,X8,Y8,Z8,o8,y8,C9,D9,E9,F9,G9,H9,I9,J9,L9,N9,Nat.reduceAdd,y9,A_,B_,C_,D_]
  refine S.seq (S.region ?_)
  simp (disch := omega) only [O0,U0,X0,Y0,O1,U1,Y1,U2,Y2,Y9,Z9,l9,o9,x9,J3,O3,Q3,U3,V3,X3,Y3,I4,J4,O4,Q4,U4,V4,X4,Y4,Z4,D5,E5,F5,G5,H5,I5,J5,O5,P5,Q5,U5,V5,X5,Y5,Z5,o5,y5,D6,F6,G6,H6,J6,L6,O6,P6,U6,V6,X6,Y6,o6,A7,D7,F7,G7,H7,I7,J7,N7,O7,P7,Q7,U7,V7,X7,Y7,Z7,l7,o7,y7,A8,D8,add_get,add_fget,↓reduceIte,Nat.reduceEqDiff,I8,J8,L8,N8,O8,P8,Q8,U8,V8,X8,Y8,Z8,o8,y8,C9,D9,E9,F9,G9,H9,I9,J9,L9,N9,Nat.reduceAdd,y9,A_,B_,C_,D_,O9,P9]
  refine wr_inline (fid := 84) (first := #[]) (captured := #[]) (fn := Tryz.f84) (c := (Tryz.f84.body).getD .skip) rfl (hp4 _ _) (by kernel_rfl) rfl (by kernel_rfl) rfl ?_
  simp (disch := omega) only [O0,U0,X0,Y0,O1,U1,Y1,U2,Y2,Y9,Z9,l9,o9,x9,J3,O3,Q3,U3,V3,X3,Y3,I4,J4,O4,Q4,U4,V4,X4,Y4,Z4,D5,E5,F5,G5,H5,I5,J5,O5,P5,Q5,U5,V5,X5,Y5,Z5,o5,y5,D6,F6,G6,H6,J6,L6,O6,P6,U6,V6,X6,Y6,o6,A7,D7,F7,G7,H7,I7,J7,N7,O7,P7,Q7,U7,V7,X7,Y7,Z7,l7,o7,y7,A8,D8,add_get,add_fget,↓reduceIte,Nat.reduceEqDiff,I8,J8,L8,N8,O8,P8,Q8,U8,V8,X8,Y8,Z8,o8,y8,C9,D9,E9,F9,G9,H9,I9,J9,L9,N9,Nat.reduceAdd,y9,A_,B_,C_,D_,O9,P9]
  generalize hF2 : finish Tryz.prog Tryz.f84 _ = KF2
  simp only [Tryz.f84, Option.getD_some, List.nil_append, List.append_nil, List.cons_append, List.append_eq, argsT, setArgs, fV1_eq, T.setK_eq, id]
  refine S.seq (S.region ?_)
  simp (disch := omega) only [O0,U0,X0,Y0,O1,U1,Y1,U2,Y2,Y9,Z9,l9,o9,x9,J3,O3,Q3,U3,V3,X3,Y3,I4,J4,O4,Q4,U4,V4,X4,Y4,Z4,D5,E5,F5,G5,H5,I5,J5,O5,P5,Q5,U5,V5,X5,Y5,Z5,o5,y5,D6,F6,G6,H6,J6,L6,O6,P6,U6,V6,X6,Y6,o6,A7,D7,F7,G7,H7,I7,J7,N7,O7,P7,Q7,U7,V7,X7,Y7,Z7,l7,o7,y7,A8,D8,add_get,add_fget,↓reduceIte,Nat.reduceEqDiff,I8,J8,L8,N8,O8,P8,Q8,U8,V8,X8,Y8,Z8,o8,y8,C9,D9,E9,F9,G9,H9,I9,J9,L9,N9,Nat.reduceAdd,y9,A_,B_,C_,D_]
  refine S.seq (S.region ?_)
  simp (disch := omega) only [O0,U0,X0,Y0,O1,U1,Y1,U2,Y2,Y9,Z9,l9,o9,x9,J3,O3,Q3,U3,V3,X3,Y3,I4,J4,O4,Q4,U4,V4,X4,Y4,Z4,D5,E5,F5,G5,H5,I5,J5,O5,P5,Q5,U5,V5,X5,Y5,Z5,o5,y5,D6,F6,G6,H6,J6,L6,O6,P6,U6,V6,X6,Y6,o6,A7,D7,F7,G7,H7,I7,J7,N7,O7,P7,Q7,U7,V7,X7,Y7,Z7,l7,o7,y7,A8,D8,add_get,add_fget,↓reduceIte,Nat.reduceEqDiff,I8,J8,L8,N8,O8,P8,Q8,U8,V8,X8,Y8,Z8,o8,y8,C9,D9,E9,F9,G9,H9,I9,J9,L9,N9,Nat.reduceAdd,y9,A_,B_,C_,D_]
  refine wr_inline (fid := 112) (first := #[]) (captured := #[]) (fn := Tryz.f112) (c := (Tryz.f112.body).getD .skip) rfl (hp3 _ _) (by kernel_rfl) rfl (by kernel_rfl) rfl ?_
  simp (disch := omega) only [O0,U0,X0,Y0,O1,U1,Y1,U2,Y2,Y9,Z9,l9,o9,x9,J3,O3,Q3,U3,V3,X3,Y3,I4,J4,O4,Q4,U4,V4,X4,Y4,Z4,D5,E5,F5,G5,H5,I5,J5,O5,P5,Q5,U5,V5,X5,Y5,Z5,o5,y5,D6,F6,G6,H6,J6,L6,O6,P6,U6,V6,X6,Y6,o6,A7,D7,F7,G7,H7,I7,J7,N7,O7,P7,Q7,U7,V7,X7,Y7,Z7,l7,o7,y7,A8,D8,add_get,add_fget,↓reduceIte,Nat.reduceEqDiff,I8,J8,L8,N8,O8,P8,Q8,U8,V8,X8,Y8,Z8,o8,y8,C9,D9,E9,F9,G9,H9,I9,J9,L9,N9,Nat.reduceAdd,y9,A_,B_,C_,D_,O9,P9]
  simp only [List.nil_append, List.append_nil]
  refine index_run S bs hn0 B H.nx fam H.nx ro false _ ?_ ?_ (fun b => hp b _) (fun l => hp2 l _) _ ?_
  · rw [add_get, if_neg hne]; exact hB
  · rw [add_get, if_pos rfl]
  simp (disch := omega) only [O0,U0,X0,Y0,O1,U1,Y1,U2,Y2,Y9,Z9,l9,o9,x9,J3,O3,Q3,U3,V3,X3,Y3,I4,J4,O4,Q4,U4,V4,X4,Y4,Z4,D5,E5,F5,G5,H5,I5,J5,O5,P5,Q5,U5,V5,X5,Y5,Z5,o5,y5,D6,F6,G6,H6,J6,L6,O6,P6,U6,V6,X6,Y6,o6,A7,D7,F7,G7,H7,I7,J7,N7,O7,P7,Q7,U7,V7,X7,Y7,Z7,l7,o7,y7,A8,D8,add_get,add_fget,↓reduceIte,Nat.reduceEqDiff,I8,J8,L8,N8,O8,P8,Q8,U8,V8,X8,Y8,Z8,o8,y8,C9,D9,E9,F9,G9,H9,I9,J9,L9,N9,Nat.reduceAdd,y9,A_,B_,C_,D_,J9]
  refine S.ret ?_
  subst hF2
  simp only [finish, endMarks]
  rw [show Tryz.f84.results.toList = [.tmp 4] from rfl]
  simp (disch := omega) only [resA, o5, J6, H6, result1]
  simp (disch := omega) only [O0,U0,X0,Y0,O1,U1,Y1,U2,Y2,Y9,Z9,l9,o9,x9,J3,O3,Q3,U3,V3,X3,Y3,I4,J4,O4,Q4,U4,V4,X4,Y4,Z4,D5,E5,F5,G5,H5,I5,J5,O5,P5,Q5,U5,V5,X5,Y5,Z5,o5,y5,D6,F6,G6,H6,J6,L6,O6,P6,U6,V6,X6,Y6,o6,A7,D7,F7,G7,H7,I7,J7,N7,O7,P7,Q7,U7,V7,X7,Y7,Z7,l7,o7,y7,A8,D8,add_get,add_fget,↓reduceIte,Nat.reduceEqDiff,I8,J8,L8,N8,O8,P8,Q8,U8,V8,X8,Y8,Z8,o8,y8,C9,D9,E9,F9,G9,H9,I9,J9,L9,N9,Nat.reduceAdd,y9,A_,B_,C_,D_,V7]
  refine S.ret ?_
  subst hF
  simp only [finish, endMarks]
  rw [show Tryz.f64.results.toList = [.tmp 4] from rfl]
  simp (disch := omega) only [resA, o5, J6, H6, result1]
  have hb := bad_ge bs 0 (by omega)
  have : (!decide (0 ≤ bad bs 0)) = (bs.all fun b => sign b.toNat) := by
    cases hq : (bs.all fun b => sign b.toNat) with
    | true => rw [hq] at hb; simp at hb; simp [Int.not_le.2 hb]
    | false => rw [hq] at hb; simp at hb; simp [hb]
  rw [this]
  exact hK
end Go.Proofs
