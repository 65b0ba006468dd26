import Derived.Test.YtjedggkiiplohaaRnA
namespace Go.Proofs.Rg
open Go Go.Ev
set_option linter.unusedSimpArgs false

/-! ## The money, and what is lost, by the other side -/
variable {pr : Prim} {R : ExT}
theorem neg_pay (N P p : Int) : N * (P - p) = -(N * (p - P)) := by rw [← Int.mul_neg, Int.neg_sub]
def IM (n : Nat) (cs : List C4) (p : Int) (h0 : AHeap) (B2 B5 : Nat) (cv : Value) (k : Nat) (t : T Value) (h : AHeap) : Prop :=
  k ≤ cs.length ∧ Kp h0 h ∧ B2 < B5 ∧ h.bl.get B2 = some (.cells [iv (n : Int), cv] B2 false) ∧ tget t 1 = iv p ∧ tget t 2 = ptr0 B2 ∧ tget t 5 = .slice (some ⟨B5, 0, none⟩) n n ∧ tget t 6 = iv (k : Int) ∧
  ∃ acc, Own h B5 acc ∧ acc.length = n ∧ bnd (400000 * k) acc ∧ balG (cs.drop k) (pays p (cs.drop k)) acc = bal n cs (pays p cs)
set_option maxHeartbeats 16000000 in
theorem rmoney_y (S : Ev.Steps Try.prog pr R) (h0 : AHeap) (n : Nat) (hn6 : n ≤ 6) (cv : Value) (cs : List C4) (hc : CAt h0 cv cs) (hsz : cs.length ≤ 12) (hv : Hs n cs) (p : Int) (hp1 : 1 ≤ p) (hp2 : p ≤ 1000) :
    Brings Try.prog R 20 [.agg ⟨[iv (n : Int), cv]⟩, iv p] h0 fun v h => IAt h v (bal n cs (pays p cs)) := by
  refine brings_of (fn := Try.f20) (c := (Try.f20.body).getD .skip) (by kernel_rfl) rfl (by kernel_rfl) rfl (fun K hK => ?_)
  generalize hF : finish Try.prog Try.f20 K = KF
  simp only [Try.f20, Option.getD_some, argsT, setArgs, fV1_eq, T.setK_eq, id]
  have hlen := fun t h1 o => hc.len isA t h1 o
  repeat refine S.seq ?_
  refine S.region ?_
  simp (disch := first | omega | (simp only [G8, O8] <;> omega) | decide) only [O0,U0,X0,Y0,O1,U1,Y1,U2,Y2,x9,y9,A_,B_,C_,J3,O3,Q3,U3,V3,X3,Y3,I4,J4,O4,Q4,U4,V4,X4,Y4,Z4,D5,E5,F5,G5,I5,J5,O5,P5,Q5,U5,V5,X5,Y5,Z5,o5,y5,D6,F6,G6,J6,L6,O6,P6,U6,V6,X6,Y6,o6,A7,D7,F7,G7,I7,J7,N7,O7,P7,Q7,U7,V7,X7,Y7,Z7,l7,o7,y7,A8,D8,E8,F8,G8,I8,J8,L8,N8,↓reduceIte,Nat.reduceEqDiff,O8,P8,Q8,U8,V8,X8,Y8,Z8,o8,x8,y8,C9,D9,E9,F9,G9,I9,J9,L9,N9,O9,P9,Q9,S9,Nat.reduceAdd,D_,E_,F_,G_,H_,U9,V9,I_,J_]
  repeat refine S.seq ?_
  refine S.region ?_
  simp (disch := first | omega | (simp only [G8, O8] <;> omega) | decide) only [O0,U0,X0,Y0,O1,U1,Y1,U2,Y2,x9,y9,A_,B_,C_,J3,O3,Q3,U3,V3,X3,Y3,I4,J4,O4,Q4,U4,V4,X4,Y4,Z4,D5,E5,F5,G5,I5,J5,O5,P5,Q5,U5,V5,X5,Y5,Z5,o5,y5,D6,F6,G6,J6,L6,O6,P6,U6,V6,X6,Y6,o6,A7,D7,F7,G7,I7,J7,N7,O7,P7,Q7,U7,V7,X7,Y7,Z7,l7,o7,y7,A8,D8,E8,F8,G8,I8,J8,L8,N8,↓reduceIte,Nat.reduceEqDiff,O8,P8,Q8,U8,V8,X8,Y8,Z8,o8,x8,y8,C9,D9,E9,F9,G9,I9,J9,L9,N9,O9,P9,Q9,S9,Nat.reduceAdd,D_,E_,F_,G_,H_,U9,V9,I_,J_,fieldAddr_ptr fA0 s3,p3,w_makeSlice]
  refine wr_makeInts (k := n) slI info3 z3 info3b info3s (by simp (disch := first | omega | (simp only [G8, O8] <;> omega) | decide) only [O0,U0,X0,Y0,O1,U1,Y1,U2,Y2,x9,y9,A_,B_,C_,J3,O3,Q3,U3,V3,X3,Y3,I4,J4,O4,Q4,U4,V4,X4,Y4,Z4,D5,E5,F5,G5,I5,J5,O5,P5,Q5,U5,V5,X5,Y5,Z5,o5,y5,D6,F6,G6,J6,L6,O6,P6,U6,V6,X6,Y6,o6,A7,D7,F7,G7,I7,J7,N7,O7,P7,Q7,U7,V7,X7,Y7,Z7,l7,o7,y7,A8,D8,E8,F8,G8,I8,J8,L8,N8,↓reduceIte,Nat.reduceEqDiff,O8,P8,Q8,U8,V8,X8,Y8,Z8,o8,x8,y8,C9,D9,E9,F9,G9,I9,J9,L9,N9,O9,P9,Q9,S9,Nat.reduceAdd,D_,E_,F_,G_,H_,U9,V9,I_,J_]) (by simp (disch := first | omega | (simp only [G8, O8] <;> omega) | decide) only [O0,U0,X0,Y0,O1,U1,Y1,U2,Y2,x9,y9,A_,B_,C_,J3,O3,Q3,U3,V3,X3,Y3,I4,J4,O4,Q4,U4,V4,X4,Y4,Z4,D5,E5,F5,G5,I5,J5,O5,P5,Q5,U5,V5,X5,Y5,Z5,o5,y5,D6,F6,G6,J6,L6,O6,P6,U6,V6,X6,Y6,o6,A7,D7,F7,G7,I7,J7,N7,O7,P7,Q7,U7,V7,X7,Y7,Z7,l7,o7,y7,A8,D8,E8,F8,G8,I8,J8,L8,N8,↓reduceIte,Nat.reduceEqDiff,O8,P8,Q8,U8,V8,X8,Y8,Z8,o8,x8,y8,C9,D9,E9,F9,G9,I9,J9,L9,N9,O9,P9,Q9,S9,Nat.reduceAdd,D_,E_,F_,G_,H_,U9,V9,I_,J_]) (by omega) (fun hown => ?_)
  have hk1 : Kp h0 ((h0.add [iv (n : Int), cv]).add ((List.replicate n 0).map iv)) := Kp.refl.add.add
  have hb2 : ((h0.add [iv (n : Int), cv]).add ((List.replicate n 0).map iv)).bl.get h0.nx = some (.cells [iv (n : Int), cv] h0.nx false) := by rw [J8 (by show h0.nx ≠ h0.nx + 1; omega)]; exact I8 rfl
  simp (disch := first | omega | (simp only [G8, O8] <;> omega) | decide) only [O0,U0,X0,Y0,O1,U1,Y1,U2,Y2,x9,y9,A_,B_,C_,J3,O3,Q3,U3,V3,X3,Y3,I4,J4,O4,Q4,U4,V4,X4,Y4,Z4,D5,E5,F5,G5,I5,J5,O5,P5,Q5,U5,V5,X5,Y5,Z5,o5,y5,D6,F6,G6,J6,L6,O6,P6,U6,V6,X6,Y6,o6,A7,D7,F7,G7,I7,J7,N7,O7,P7,Q7,U7,V7,X7,Y7,Z7,l7,o7,y7,A8,D8,E8,F8,G8,I8,J8,L8,N8,↓reduceIte,Nat.reduceEqDiff,O8,P8,Q8,U8,V8,X8,Y8,Z8,o8,x8,y8,C9,D9,E9,F9,G9,I9,J9,L9,N9,O9,P9,Q9,S9,Nat.reduceAdd,D_,E_,F_,G_,H_,U9,V9,I_,J_]
  have hB5 : h0.nx < h0.nx + 1 := Nat.lt_succ_self _
  rw [G8] at hown
  generalize ((h0.add [iv (n : Int), cv]).add ((List.replicate n 0).map iv)) = H1 at hown hk1 hb2 ⊢
  generalize h0.nx + 1 = B5 at hown hB5 ⊢
  repeat refine S.seq ?_
  refine S.region ?_
  simp (disch := first | omega | (simp only [G8, O8] <;> omega) | decide) only [O0,U0,X0,Y0,O1,U1,Y1,U2,Y2,x9,y9,A_,B_,C_,J3,O3,Q3,U3,V3,X3,Y3,I4,J4,O4,Q4,U4,V4,X4,Y4,Z4,D5,E5,F5,G5,I5,J5,O5,P5,Q5,U5,V5,X5,Y5,Z5,o5,y5,D6,F6,G6,J6,L6,O6,P6,U6,V6,X6,Y6,o6,A7,D7,F7,G7,I7,J7,N7,O7,P7,Q7,U7,V7,X7,Y7,Z7,l7,o7,y7,A8,D8,E8,F8,G8,I8,J8,L8,N8,↓reduceIte,Nat.reduceEqDiff,O8,P8,Q8,U8,V8,X8,Y8,Z8,o8,x8,y8,C9,D9,E9,F9,G9,I9,J9,L9,N9,O9,P9,Q9,S9,Nat.reduceAdd,D_,E_,F_,G_,H_,U9,V9,I_,J_]
  repeat refine S.seq ?_
  refine S.block ?_
  refine S.loop (ι := Nat) (IM n cs p h0 h0.nx B5 cv) (fun k => cs.length - k) ?_ 0 _ _ ?_
  · clear hown hk1 hb2 H1
    intro k t h ⟨hk, hkp, hBB, hb2, t1, t2, t5, t6, acc, how, hal', hbd, hbal⟩ K' hn he
    have hnx := hkp.1
    repeat refine S.seq ?_
    refine S.region ?_
    simp (disch := first | omega | (simp only [G8, O8] <;> omega) | decide) only [O0,U0,X0,Y0,O1,U1,Y1,U2,Y2,x9,y9,A_,B_,C_,J3,O3,Q3,U3,V3,X3,Y3,I4,J4,O4,Q4,U4,V4,X4,Y4,Z4,D5,E5,F5,G5,I5,J5,O5,P5,Q5,U5,V5,X5,Y5,Z5,o5,y5,D6,F6,G6,J6,L6,O6,P6,U6,V6,X6,Y6,o6,A7,D7,F7,G7,I7,J7,N7,O7,P7,Q7,U7,V7,X7,Y7,Z7,l7,o7,y7,A8,D8,E8,F8,G8,I8,J8,L8,N8,↓reduceIte,Nat.reduceEqDiff,O8,P8,Q8,U8,V8,X8,Y8,Z8,o8,x8,y8,C9,D9,E9,F9,G9,I9,J9,L9,N9,O9,P9,Q9,S9,Nat.reduceAdd,D_,E_,F_,G_,H_,U9,V9,I_,J_,t2,t6,hb2,fieldAddr_ptr fA1 sAc,pAc,hlen]
    repeat refine S.seq ?_
    refine S.cond (v := decide ((k : Int) < (cs.length : Int))) (by first | rfl | (simp (disch := first | omega | (simp only [G8, O8] <;> omega) | decide) only [O0,U0,X0,Y0,O1,U1,Y1,U2,Y2,x9,y9,A_,B_,C_,J3,O3,Q3,U3,V3,X3,Y3,I4,J4,O4,Q4,U4,V4,X4,Y4,Z4,D5,E5,F5,G5,I5,J5,O5,P5,Q5,U5,V5,X5,Y5,Z5,o5,y5,D6,F6,G6,J6,L6,O6,P6,U6,V6,X6,Y6,o6,A7,D7,F7,G7,I7,J7,N7,O7,P7,Q7,U7,V7,X7,Y7,Z7,l7,o7,y7,A8,D8,E8,F8,G8,I8,J8,L8,N8,↓reduceIte,Nat.reduceEqDiff,O8,P8,Q8,U8,V8,X8,Y8,Z8,o8,x8,y8,C9,D9,E9,F9,G9,I9,J9,L9,N9,O9,P9,Q9,S9,Nat.reduceAdd,D_,E_,F_,G_,H_,U9,V9,I_,J_] <;> rfl)) (fun e => ?_) (fun e => ?_)
    · have hkn : k < cs.length := by have := of_decide_eq_true e; omega
      clear e
      have hps : cs[k]? = some cs[k] := List.getElem?_eq_getElem hkn
      have hmem : cs[k] ∈ cs := List.getElem_mem hkn
      rw [List.drop_eq_getElem_cons hkn] at hbal
      simp only [pays, List.map_cons, balG] at hbal
      generalize cs[k] = c at hps hmem hbal
      obtain ⟨⟨f, to, hf, hto, hfn, htn, hne⟩, hc1, hc2, hc3, hc4⟩ := hv c hmem
      obtain ⟨b, fb, ro, cells, q1, q2, q3, q4, q5, _⟩ := (hc.mono hkp).idx slA sK hps
      have qp := part_cc pK q4 q5
      have hpb := payC_bnd hv hp1 hp2 hmem
      have hnp := neg_pay c.2.2.1 c.2.2.2 p
      have hpb2 : -999 ≤ c.2.2.2 - p ∧ c.2.2.2 - p ≤ 999 := by omega
      have hpb3 : -100000 ≤ c.2.2.1 * (c.2.2.2 - p) ∧ c.2.2.1 * (c.2.2.2 - p) ≤ 100000 := by rw [hnp]; omega
      have hy : payC p c = -(c.2.2.1 * (c.2.2.2 - p)) := by rw [hnp, Int.neg_neg]; rfl
      rw [hy] at hbal
      have cf0 : (cc c)[0]? = some (iv (f : Int)) := by rw [cc0, hf]
      have cf1 : (cc c)[1]? = some (iv (to : Int)) := by rw [cc1, hto]
      repeat refine S.seq ?_
      refine S.skip ?_
      simp (disch := first | omega | (simp only [G8, O8] <;> omega) | decide) only [O0,U0,X0,Y0,O1,U1,Y1,U2,Y2,x9,y9,A_,B_,C_,J3,O3,Q3,U3,V3,X3,Y3,I4,J4,O4,Q4,U4,V4,X4,Y4,Z4,D5,E5,F5,G5,I5,J5,O5,P5,Q5,U5,V5,X5,Y5,Z5,o5,y5,D6,F6,G6,J6,L6,O6,P6,U6,V6,X6,Y6,o6,A7,D7,F7,G7,I7,J7,N7,O7,P7,Q7,U7,V7,X7,Y7,Z7,l7,o7,y7,A8,D8,E8,F8,G8,I8,J8,L8,N8,↓reduceIte,Nat.reduceEqDiff,O8,P8,Q8,U8,V8,X8,Y8,Z8,o8,x8,y8,C9,D9,E9,F9,G9,I9,J9,L9,N9,O9,P9,Q9,S9,Nat.reduceAdd,D_,E_,F_,G_,H_,U9,V9,I_,J_]
      repeat refine S.seq ?_
      refine S.block ?_
      repeat refine S.seq ?_
      refine S.region ?_
      simp (disch := first | omega | (simp only [G8, O8] <;> omega) | decide) only [O0,U0,X0,Y0,O1,U1,Y1,U2,Y2,x9,y9,A_,B_,C_,J3,O3,Q3,U3,V3,X3,Y3,I4,J4,O4,Q4,U4,V4,X4,Y4,Z4,D5,E5,F5,G5,I5,J5,O5,P5,Q5,U5,V5,X5,Y5,Z5,o5,y5,D6,F6,G6,J6,L6,O6,P6,U6,V6,X6,Y6,o6,A7,D7,F7,G7,I7,J7,N7,O7,P7,Q7,U7,V7,X7,Y7,Z7,l7,o7,y7,A8,D8,E8,F8,G8,I8,J8,L8,N8,↓reduceIte,Nat.reduceEqDiff,O8,P8,Q8,U8,V8,X8,Y8,Z8,o8,x8,y8,C9,D9,E9,F9,G9,I9,J9,L9,N9,O9,P9,Q9,S9,Nat.reduceAdd,D_,E_,F_,G_,H_,U9,V9,I_,J_,t2,t6,hb2,fieldAddr_ptr fA1 sAc,pAc,q1,q3,qp,wr_alloc zK]
      refine wr_storeN (B := h.nx) (c := [iv 0, iv 0, iv 0, iv 0]) (fam := h.nx) (k := h.nx) (l := cc c) (by simp (disch := first | omega | (simp only [G8, O8] <;> omega) | decide) only [O0,U0,X0,Y0,O1,U1,Y1,U2,Y2,x9,y9,A_,B_,C_,J3,O3,Q3,U3,V3,X3,Y3,I4,J4,O4,Q4,U4,V4,X4,Y4,Z4,D5,E5,F5,G5,I5,J5,O5,P5,Q5,U5,V5,X5,Y5,Z5,o5,y5,D6,F6,G6,J6,L6,O6,P6,U6,V6,X6,Y6,o6,A7,D7,F7,G7,I7,J7,N7,O7,P7,Q7,U7,V7,X7,Y7,Z7,l7,o7,y7,A8,D8,E8,F8,G8,I8,J8,L8,N8,↓reduceIte,Nat.reduceEqDiff,O8,P8,Q8,U8,V8,X8,Y8,Z8,o8,x8,y8,C9,D9,E9,F9,G9,I9,J9,L9,N9,O9,P9,Q9,S9,Nat.reduceAdd,D_,E_,F_,G_,H_,U9,V9,I_,J_]) (by simp (disch := first | omega | (simp only [G8, O8] <;> omega) | decide) only [O0,U0,X0,Y0,O1,U1,Y1,U2,Y2,x9,y9,A_,B_,C_,J3,O3,Q3,U3,V3,X3,Y3,I4,J4,O4,Q4,U4,V4,X4,Y4,Z4,D5,E5,F5,G5,I5,J5,O5,P5,Q5,U5,V5,X5,Y5,Z5,o5,y5,D6,F6,G6,J6,L6,O6,P6,U6,V6,X6,Y6,o6,A7,D7,F7,G7,I7,J7,N7,O7,P7,Q7,U7,V7,X7,Y7,Z7,l7,o7,y7,A8,D8,E8,F8,G8,I8,J8,L8,N8,↓reduceIte,Nat.reduceEqDiff,O8,P8,Q8,U8,V8,X8,Y8,Z8,o8,x8,y8,C9,D9,E9,F9,G9,I9,J9,L9,N9,O9,P9,Q9,S9,Nat.reduceAdd,D_,E_,F_,G_,H_,U9,V9,I_,J_]) sK (by omega) rfl (I8 rfl) (L8 rfl) rfl ?_
      have hk4 : Kp h ((h.add [iv 0, iv 0, iv 0, iv 0]).upd h.nx (cc c) h.nx) := Kp.refl.add.upd (Nat.le_refl _)
      have hg4 : ((h.add [iv 0, iv 0, iv 0, iv 0]).upd h.nx (cc c) h.nx).bl.get h.nx = some (.cells (cc c) h.nx false) := Q8 _ _ _
      simp (disch := first | omega | (simp only [G8, O8] <;> omega) | decide) only [O0,U0,X0,Y0,O1,U1,Y1,U2,Y2,x9,y9,A_,B_,C_,J3,O3,Q3,U3,V3,X3,Y3,I4,J4,O4,Q4,U4,V4,X4,Y4,Z4,D5,E5,F5,G5,I5,J5,O5,P5,Q5,U5,V5,X5,Y5,Z5,o5,y5,D6,F6,G6,J6,L6,O6,P6,U6,V6,X6,Y6,o6,A7,D7,F7,G7,I7,J7,N7,O7,P7,Q7,U7,V7,X7,Y7,Z7,l7,o7,y7,A8,D8,E8,F8,G8,I8,J8,L8,N8,↓reduceIte,Nat.reduceEqDiff,O8,P8,Q8,U8,V8,X8,Y8,Z8,o8,x8,y8,C9,D9,E9,F9,G9,I9,J9,L9,N9,O9,P9,Q9,S9,Nat.reduceAdd,D_,E_,F_,G_,H_,U9,V9,I_,J_]
      have hblt := how.1
      generalize (h.add [iv 0, iv 0, iv 0, iv 0]).upd h.nx (cc c) h.nx = h4 at hk4 hg4 ⊢
      have hb24 := (hk4.get (by omega : h0.nx < h.nx)).trans hb2
      have hkp4 := hkp.trans hk4
      have how4 := how.mono hk4
      generalize h.nx = B7 at hg4 hblt ⊢
      clear q1 q2 q3 q4 q5 qp hk4 hkp how hnx hb2
      generalize hD : c.2.2.1 * (c.2.2.2 - p) = D at hpb3 hbal ⊢
      have hg1 : (acc.map iv)[f]? = some (iv (acc.getD f 0)) := by rw [pI3 acc (by omega : f < acc.length), getD_of]
      have hd1 := bnd_getD hbd (by omega) f
      have hl1 : f < (acc.map iv).length := by rw [List.length_map]; omega
      have hst1 : (acc.map iv).set f (iv (acc.getD f 0 + D)) = (addAt acc f D).map iv := by rw [addAt, List.map_set]
      have hbd1 := bnd_addAt (k := f) hbd (by omega) (by omega : (0 : Int) ≤ 200000) (by omega : -200000 ≤ D) (by omega)
      have hln1 := addAt_len acc f D
      repeat refine S.seq ?_
      refine S.ordered (by kernel_rfl) (by kernel_rfl) (by kernel_rfl) (by kernel_rfl) ?_
      simp (disch := first | omega | (simp only [G8, O8] <;> omega) | decide) only [O0,U0,X0,Y0,O1,U1,Y1,U2,Y2,x9,y9,A_,B_,C_,J3,O3,Q3,U3,V3,X3,Y3,I4,J4,O4,Q4,U4,V4,X4,Y4,Z4,D5,E5,F5,G5,I5,J5,O5,P5,Q5,U5,V5,X5,Y5,Z5,o5,y5,D6,F6,G6,J6,L6,O6,P6,U6,V6,X6,Y6,o6,A7,D7,F7,G7,I7,J7,N7,O7,P7,Q7,U7,V7,X7,Y7,Z7,l7,o7,y7,A8,D8,E8,F8,G8,I8,J8,L8,N8,↓reduceIte,Nat.reduceEqDiff,O8,P8,Q8,U8,V8,X8,Y8,Z8,o8,x8,y8,C9,D9,E9,F9,G9,I9,J9,L9,N9,O9,P9,Q9,S9,Nat.reduceAdd,D_,E_,F_,G_,H_,U9,V9,I_,J_,t1,t5,hg4,fieldAddr_ptr fK0 s3,fieldAddr_ptr fK2 s3,fieldAddr_ptr fK3 s3,p3,cf0,cc2,cc3,indexAddr_sl slI s3' hfn,how4.2.1,hg1,hD]
      refine wr_store s3' ?_
      simp (disch := first | omega | (simp only [G8, O8] <;> omega) | decide) only [O0,U0,X0,Y0,O1,U1,Y1,U2,Y2,x9,y9,A_,B_,C_,J3,O3,Q3,U3,V3,X3,Y3,I4,J4,O4,Q4,U4,V4,X4,Y4,Z4,D5,E5,F5,G5,I5,J5,O5,P5,Q5,U5,V5,X5,Y5,Z5,o5,y5,D6,F6,G6,J6,L6,O6,P6,U6,V6,X6,Y6,o6,A7,D7,F7,G7,I7,J7,N7,O7,P7,Q7,U7,V7,X7,Y7,Z7,l7,o7,y7,A8,D8,E8,F8,G8,I8,J8,L8,N8,↓reduceIte,Nat.reduceEqDiff,O8,P8,Q8,U8,V8,X8,Y8,Z8,o8,x8,y8,C9,D9,E9,F9,G9,I9,J9,L9,N9,O9,P9,Q9,S9,Nat.reduceAdd,D_,E_,F_,G_,H_,U9,V9,I_,J_,how4.2.1,how4.2.2,hl1]
      rw [hst1]
      have how1 : Own (h4.upd B5 ((addAt acc f D).map iv) B5) B5 (addAt acc f D) := ⟨how4.1, Q8 _ _ _, how4.2.2⟩
      have hkp1 : Kp h0 (h4.upd B5 ((addAt acc f D).map iv) B5) := hkp4.upd (by omega)
      have hb21 : (h4.upd B5 ((addAt acc f D).map iv) B5).bl.get h0.nx = some (.cells [iv (n : Int), cv] h0.nx false) := by rw [U8 _ _ _ (by omega)]; exact hb24
      have hg41 : (h4.upd B5 ((addAt acc f D).map iv) B5).bl.get B7 = some (.cells (cc c) B7 false) := by rw [U8 _ _ _ (by omega)]; exact hg4
      generalize h4.upd B5 ((addAt acc f D).map iv) B5 = h5 at how1 hkp1 hb21 hg41 ⊢
      generalize hA1 : addAt acc f D = acc1 at how1 hbd1 hln1
      clear hst1 hg1 hl1 how4 hb24 hg4 hkp4
      have hg2 : (acc1.map iv)[to]? = some (iv (acc1.getD to 0)) := by rw [pI3 acc1 (by omega : to < acc1.length), getD_of]
      have hd2 := bnd_getD hbd1 (by omega) to
      have hl2 : to < (acc1.map iv).length := by rw [List.length_map]; omega
      have hst2 : (acc1.map iv).set to (iv (acc1.getD to 0 - D)) = (addAt acc1 to (-D)).map iv := by rw [addAt, List.map_set, Int.sub_eq_add_neg]
      repeat refine S.seq ?_
      refine S.ordered (by kernel_rfl) (by kernel_rfl) (by kernel_rfl) (by kernel_rfl) ?_
      simp (disch := first | omega | (simp only [G8, O8] <;> omega) | decide) only [O0,U0,X0,Y0,O1,U1,Y1,U2,Y2,x9,y9,A_,B_,C_,J3,O3,Q3,U3,V3,X3,Y3,I4,J4,O4,Q4,U4,V4,X4,Y4,Z4,D5,E5,F5,G5,I5,J5,O5,P5,Q5,U5,V5,X5,Y5,Z5,o5,y5,D6,F6,G6,J6,L6,O6,P6,U6,V6,X6,Y6,o6,A7,D7,F7,G7,I7,J7,N7,O7,P7,Q7,U7,V7,X7,Y7,Z7,l7,o7,y7,A8,D8,E8,F8,G8,I8,J8,L8,N8,↓reduceIte,Nat.reduceEqDiff,O8,P8,Q8,U8,V8,X8,Y8,Z8,o8,x8,y8,C9,D9,E9,F9,G9,I9,J9,L9,N9,O9,P9,Q9,S9,Nat.reduceAdd,D_,E_,F_,G_,H_,U9,V9,I_,J_,t1,t5,hg41,fieldAddr_ptr fK1 s3,fieldAddr_ptr fK2 s3,fieldAddr_ptr fK3 s3,p3,cf1,cc2,cc3,indexAddr_sl slI s3' htn,how1.2.1,hg2,hD]
      refine wr_store s3' ?_
      simp (disch := first | omega | (simp only [G8, O8] <;> omega) | decide) only [O0,U0,X0,Y0,O1,U1,Y1,U2,Y2,x9,y9,A_,B_,C_,J3,O3,Q3,U3,V3,X3,Y3,I4,J4,O4,Q4,U4,V4,X4,Y4,Z4,D5,E5,F5,G5,I5,J5,O5,P5,Q5,U5,V5,X5,Y5,Z5,o5,y5,D6,F6,G6,J6,L6,O6,P6,U6,V6,X6,Y6,o6,A7,D7,F7,G7,I7,J7,N7,O7,P7,Q7,U7,V7,X7,Y7,Z7,l7,o7,y7,A8,D8,E8,F8,G8,I8,J8,L8,N8,↓reduceIte,Nat.reduceEqDiff,O8,P8,Q8,U8,V8,X8,Y8,Z8,o8,x8,y8,C9,D9,E9,F9,G9,I9,J9,L9,N9,O9,P9,Q9,S9,Nat.reduceAdd,D_,E_,F_,G_,H_,U9,V9,I_,J_,how1.2.1,how1.2.2,hl2]
      rw [hst2]
      have how2 : Own (h5.upd B5 ((addAt acc1 to (-D)).map iv) B5) B5 (addAt acc1 to (-D)) := ⟨how1.1, Q8 _ _ _, how1.2.2⟩
      have hsb : addAt acc1 to (-D) = stepB acc c (-D) := by rw [← hA1, stepB, hf, hto, Int.toNat_natCast, Int.toNat_natCast, Int.neg_neg]
      repeat refine S.seq ?_
      refine S.region ?_
      simp (disch := first | omega | (simp only [G8, O8] <;> omega) | decide) only [O0,U0,X0,Y0,O1,U1,Y1,U2,Y2,x9,y9,A_,B_,C_,J3,O3,Q3,U3,V3,X3,Y3,I4,J4,O4,Q4,U4,V4,X4,Y4,Z4,D5,E5,F5,G5,I5,J5,O5,P5,Q5,U5,V5,X5,Y5,Z5,o5,y5,D6,F6,G6,J6,L6,O6,P6,U6,V6,X6,Y6,o6,A7,D7,F7,G7,I7,J7,N7,O7,P7,Q7,U7,V7,X7,Y7,Z7,l7,o7,y7,A8,D8,E8,F8,G8,I8,J8,L8,N8,↓reduceIte,Nat.reduceEqDiff,O8,P8,Q8,U8,V8,X8,Y8,Z8,o8,x8,y8,C9,D9,E9,F9,G9,I9,J9,L9,N9,O9,P9,Q9,S9,Nat.reduceAdd,D_,E_,F_,G_,H_,U9,V9,I_,J_,t6]
      refine hn (k + 1) _ _ (by omega) ⟨by omega, hkp1.upd (by omega), hBB, by rw [U8 _ _ _ (by omega)]; exact hb21, ?_, ?_, ?_, ?_, stepB acc c (-D), by rw [← hsb]; exact how2, by rw [stepB_len]; exact hal', ?_, hbal⟩
      rotate_right
      · exact bnd_mono (stepB_bnd (M := 200000) hbd (by omega) (by omega) (by omega)) (by omega)
      all_goals (first | rfl | (simp (disch := first | omega | (simp only [G8, O8] <;> omega) | decide) only [O0,U0,X0,Y0,O1,U1,Y1,U2,Y2,x9,y9,A_,B_,C_,J3,O3,Q3,U3,V3,X3,Y3,I4,J4,O4,Q4,U4,V4,X4,Y4,Z4,D5,E5,F5,G5,I5,J5,O5,P5,Q5,U5,V5,X5,Y5,Z5,o5,y5,D6,F6,G6,J6,L6,O6,P6,U6,V6,X6,Y6,o6,A7,D7,F7,G7,I7,J7,N7,O7,P7,Q7,U7,V7,X7,Y7,Z7,l7,o7,y7,A8,D8,E8,F8,G8,I8,J8,L8,N8,↓reduceIte,Nat.reduceEqDiff,O8,P8,Q8,U8,V8,X8,Y8,Z8,o8,x8,y8,C9,D9,E9,F9,G9,I9,J9,L9,N9,O9,P9,Q9,S9,Nat.reduceAdd,D_,E_,F_,G_,H_,U9,V9,I_,J_,t1,t2,t5,t6]; done) | (simp (disch := first | omega | (simp only [G8, O8] <;> omega) | decide) only [O0,U0,X0,Y0,O1,U1,Y1,U2,Y2,x9,y9,A_,B_,C_,J3,O3,Q3,U3,V3,X3,Y3,I4,J4,O4,Q4,U4,V4,X4,Y4,Z4,D5,E5,F5,G5,I5,J5,O5,P5,Q5,U5,V5,X5,Y5,Z5,o5,y5,D6,F6,G6,J6,L6,O6,P6,U6,V6,X6,Y6,o6,A7,D7,F7,G7,I7,J7,N7,O7,P7,Q7,U7,V7,X7,Y7,Z7,l7,o7,y7,A8,D8,E8,F8,G8,I8,J8,L8,N8,↓reduceIte,Nat.reduceEqDiff,O8,P8,Q8,U8,V8,X8,Y8,Z8,o8,x8,y8,C9,D9,E9,F9,G9,I9,J9,L9,N9,O9,P9,Q9,S9,Nat.reduceAdd,D_,E_,F_,G_,H_,U9,V9,I_,J_,t1,t2,t5,t6]; rfl))
    · have hkn : k = cs.length := by have := of_decide_eq_false e; omega
      subst hkn
      rw [List.drop_of_length_le (Nat.le_refl _)] at hbal
      have hbal' : acc = bal n cs (pays p cs) := by rw [← hbal]; simp only [balG]
      subst hbal'
      refine S.exit (he _ _ _ _ (fun e => by cases e) ?_)
      simp (disch := first | omega | (simp only [G8, O8] <;> omega) | decide) only [O0,U0,X0,Y0,O1,U1,Y1,U2,Y2,x9,y9,A_,B_,C_,J3,O3,Q3,U3,V3,X3,Y3,I4,J4,O4,Q4,U4,V4,X4,Y4,Z4,D5,E5,F5,G5,I5,J5,O5,P5,Q5,U5,V5,X5,Y5,Z5,o5,y5,D6,F6,G6,J6,L6,O6,P6,U6,V6,X6,Y6,o6,A7,D7,F7,G7,I7,J7,N7,O7,P7,Q7,U7,V7,X7,Y7,Z7,l7,o7,y7,A8,D8,E8,F8,G8,I8,J8,L8,N8,↓reduceIte,Nat.reduceEqDiff,O8,P8,Q8,U8,V8,X8,Y8,Z8,o8,x8,y8,C9,D9,E9,F9,G9,I9,J9,L9,N9,O9,P9,Q9,S9,Nat.reduceAdd,D_,E_,F_,G_,H_,U9,V9,I_,J_]
      repeat refine S.seq ?_
      refine S.region ?_
      simp (disch := first | omega | (simp only [G8, O8] <;> omega) | decide) only [O0,U0,X0,Y0,O1,U1,Y1,U2,Y2,x9,y9,A_,B_,C_,J3,O3,Q3,U3,V3,X3,Y3,I4,J4,O4,Q4,U4,V4,X4,Y4,Z4,D5,E5,F5,G5,I5,J5,O5,P5,Q5,U5,V5,X5,Y5,Z5,o5,y5,D6,F6,G6,J6,L6,O6,P6,U6,V6,X6,Y6,o6,A7,D7,F7,G7,I7,J7,N7,O7,P7,Q7,U7,V7,X7,Y7,Z7,l7,o7,y7,A8,D8,E8,F8,G8,I8,J8,L8,N8,↓reduceIte,Nat.reduceEqDiff,O8,P8,Q8,U8,V8,X8,Y8,Z8,o8,x8,y8,C9,D9,E9,F9,G9,I9,J9,L9,N9,O9,P9,Q9,S9,Nat.reduceAdd,D_,E_,F_,G_,H_,U9,V9,I_,J_,t5]
      refine S.ret ?_
      try simp only [Q4, V4]
      subst hF
      simp only [finish, endMarks]
      rw [show Try.f20.results.toList = [.tmp 4] from rfl]
      simp (disch := first | omega | (simp only [G8, O8] <;> omega) | decide) only [resA, y5, O6, L6, U6, P6, Q8, U8, I8, J8, result1]
      exact hK _ _ hkp (how.at' (by rw [bal_len]))
  · refine ⟨Nat.zero_le _, hk1, hB5, hb2, ?_, ?_, ?_, ?_, List.replicate n 0, hown, List.length_replicate, bnd_zero n, rfl⟩
    all_goals (first | rfl | (simp (disch := first | omega | (simp only [G8, O8] <;> omega) | decide) only [O0,U0,X0,Y0,O1,U1,Y1,U2,Y2,x9,y9,A_,B_,C_,J3,O3,Q3,U3,V3,X3,Y3,I4,J4,O4,Q4,U4,V4,X4,Y4,Z4,D5,E5,F5,G5,I5,J5,O5,P5,Q5,U5,V5,X5,Y5,Z5,o5,y5,D6,F6,G6,J6,L6,O6,P6,U6,V6,X6,Y6,o6,A7,D7,F7,G7,I7,J7,N7,O7,P7,Q7,U7,V7,X7,Y7,Z7,l7,o7,y7,A8,D8,E8,F8,G8,I8,J8,L8,N8,↓reduceIte,Nat.reduceEqDiff,O8,P8,Q8,U8,V8,X8,Y8,Z8,o8,x8,y8,C9,D9,E9,F9,G9,I9,J9,L9,N9,O9,P9,Q9,S9,Nat.reduceAdd,D_,E_,F_,G_,H_,U9,V9,I_,J_]; done) | (simp (disch := first | omega | (simp only [G8, O8] <;> omega) | decide) only [O0,U0,X0,Y0,O1,U1,Y1,U2,Y2,x9,y9,A_,B_,C_,J3,O3,Q3,U3,V3,X3,Y3,I4,J4,O4,Q4,U4,V4,X4,Y4,Z4,D5,E5,F5,G5,I5,J5,O5,P5,Q5,U5,V5,X5,Y5,Z5,o5,y5,D6,F6,G6,J6,L6,O6,P6,U6,V6,X6,Y6,o6,A7,D7,F7,G7,I7,J7,N7,O7,P7,Q7,U7,V7,X7,Y7,Z7,l7,o7,y7,A8,D8,E8,F8,G8,I8,J8,L8,N8,↓reduceIte,Nat.reduceEqDiff,O8,P8,Q8,U8,V8,X8,Y8,Z8,o8,x8,y8,C9,D9,E9,F9,G9,I9,J9,L9,N9,O9,P9,Q9,S9,Nat.reduceAdd,D_,E_,F_,G_,H_,U9,V9,I_,J_]; rfl))

/-! ## What is lost -/
def stepF (kh : Nat) (p : Int) (acc : List Int) (c : C4) : List Int :=
  let a1 := if c.1 = (kh : Int) then addAt acc c.2.1.toNat (-(c.2.2.1 * (c.2.2.2 - p))) else acc
  if c.2.1 = (kh : Int) then addAt a1 c.1.toNat (c.2.2.1 * (c.2.2.2 - p)) else a1
theorem addAt_zero (l : List Int) (k : Nat) : addAt l k 0 = l := ext_getD (addAt_len _ _ _) fun j _ => by
  rw [getD_addAt]; split <;> omega
theorem set_addAt_ne (l : List Int) {i k : Nat} (d : Int) (h : i ≠ k) : addAt (l.set k 0) i d = (addAt l i d).set k 0 := by
  unfold addAt
  rw [List.set_comm _ _ h]
  congr 2
  simp only [List.getD_eq_getElem?_getD, List.getElem?_set_ne (Ne.symm h)]
theorem set_addAt_eq (l : List Int) (k : Nat) (d : Int) : (addAt l k d).set k 0 = l.set k 0 := by
  unfold addAt; rw [List.set_set]
theorem stepF_eq {n : Nat} {cs : List C4} (hv : Hs n cs) {c : C4} (hc : c ∈ cs) (kh : Nat) (p : Int) (acc : List Int) : stepF kh p (acc.set kh 0) c = (stepB acc c (payT kh p c)).set kh 0 := by
  obtain ⟨⟨f, t, hf, ht, _, _, hne⟩, _⟩ := hv c hc
  unfold stepF stepB payT payC tou
  rw [hf, ht, Int.toNat_natCast, Int.toNat_natCast, neg_pay c.2.2.1 c.2.2.2 p]
  generalize c.2.2.1 * (p - c.2.2.2) = y
  by_cases h1 : (f : Int) = (kh : Int)
  · have h2 : ¬ (t : Int) = (kh : Int) := by omega
    have h3 : f = kh := by omega
    rw [if_pos h1, if_neg h2, decide_eq_true h1, Bool.true_or, cond_true, Int.neg_neg, addAt_comm, set_addAt_ne _ _ (by omega), ← h3, set_addAt_eq]
  · by_cases h2 : (t : Int) = (kh : Int)
    · have h3 : t = kh := by omega
      rw [if_neg h1, if_pos h2, decide_eq_false h1, decide_eq_true h2, Bool.or_true, cond_true, set_addAt_ne _ _ (by omega), ← h3, set_addAt_eq]
    · rw [if_neg h1, if_neg h2, decide_eq_false h1, decide_eq_false h2, Bool.or_false, cond_false, Int.neg_zero, addAt_zero, addAt_zero]
theorem foldF_eq {n : Nat} {cs : List C4} (hv : Hs n cs) (kh : Nat) (p : Int) : ∀ (l : List C4), (∀ c, c ∈ l → c ∈ cs) → ∀ acc, l.foldl (stepF kh p) (acc.set kh 0) = (balG l (l.map (payT kh p)) acc).set kh 0
  | [], _, acc => by simp only [List.foldl_nil, List.map_nil, balG]
  | c :: l, h, acc => by
    simp only [List.foldl_cons, List.map_cons, balG]
    rw [stepF_eq hv (h c (by simp)), foldF_eq hv kh p l fun x hx => h x (by simp [hx])]
theorem lossP_eq {n : Nat} {cs : List C4} (hv : Hs n cs) (kh : Nat) (p : Int) : (cs.foldl (stepF kh p) (List.replicate n 0)).map (max2 0) = lossP n cs kh p := by
  unfold lossP bal
  rw [← foldF_eq hv kh p cs (fun c h => h)]
  congr 2
  refine ext_getD (by simp) fun j _ => ?_
  simp only [List.getD_eq_getElem?_getD, List.getElem?_set, List.getElem?_replicate, List.length_replicate]
  by_cases h : kh = j
  · subst h
    by_cases h2 : kh < n <;> simp [h2]
  · simp [h]
theorem stepF_len (kh : Nat) (p : Int) (acc : List Int) (c : C4) : (stepF kh p acc c).length = acc.length := by
  unfold stepF
  split <;> split <;> simp only [addAt_len]
theorem foldF_len (kh : Nat) (p : Int) : ∀ (l : List C4) (acc : List Int), (l.foldl (stepF kh p) acc).length = acc.length
  | [], _ => rfl
  | c :: l, acc => by rw [List.foldl_cons, foldF_len kh p l, stepF_len]
end Go.Proofs.Rg
