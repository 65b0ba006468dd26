import Derived.Test.YtjedggkiiplohaaRnB
namespace Go.Proofs.Rg
open Go Go.Ev
set_option linter.unusedSimpArgs false

variable {pr : Prim} {R : ExT}
theorem stepF_bnd {n : Nat} {cs : List C4} (hv : Hs n cs) {c : C4} (hc : c ∈ cs) {p : Int} (hp1 : 1 ≤ p) (hp2 : p ≤ 1000) (kh : Nat) {B : Int} {acc : List Int} (h : bnd B acc) (hB : 0 ≤ B) : bnd (B + 200000 + 200000) (stepF kh p acc c) := by
  have hnp := neg_pay c.2.2.1 c.2.2.2 p
  have hpb := payC_bnd hv hp1 hp2 hc
  have hpb3 : -100000 ≤ c.2.2.1 * (c.2.2.2 - p) ∧ c.2.2.1 * (c.2.2.2 - p) ≤ 100000 := by rw [hnp]; omega
  unfold stepF
  generalize c.2.2.1 * (c.2.2.2 - p) = D at hpb3 ⊢
  have h1 : bnd (B + 200000) (if c.1 = (kh : Int) then addAt acc c.2.1.toNat (-D) else acc) := by
    split
    · exact bnd_addAt h hB (by omega) (by omega) (by omega)
    · exact bnd_mono h (by omega)
  show bnd _ (if c.2.1 = (kh : Int) then addAt (if c.1 = (kh : Int) then addAt acc c.2.1.toNat (-D) else acc) c.1.toNat D else (if c.1 = (kh : Int) then addAt acc c.2.1.toNat (-D) else acc))
  split
  · exact bnd_addAt h1 (by omega) (by omega) (by omega) (by omega)
  · exact bnd_mono h1 (by omega)

def IFa (n : Nat) (cs : List C4) (kh : Nat) (p : Int) (h0 : AHeap) (B3 B7 : Nat) (cv : Value) (k : Nat) (t : T Value) (h : AHeap) : Prop :=
  k ≤ cs.length ∧ Kp h0 h ∧ B3 < B7 ∧ h.bl.get B3 = some (.cells [iv (n : Int), cv] B3 false) ∧ tget t 1 = iv (kh : Int) ∧ tget t 2 = iv p ∧ tget t 3 = ptr0 B3 ∧ tget t 7 = .slice (some ⟨B7, 0, none⟩) n n ∧ tget t 8 = iv (k : Int) ∧
  ∃ acc, Own h B7 acc ∧ acc.length = n ∧ bnd (400000 * k) acc ∧ (cs.drop k).foldl (stepF kh p) acc = cs.foldl (stepF kh p) (List.replicate n 0)
def IFb (n : Nat) (l : List Int) (h0 : AHeap) (B3 B7 : Nat) (cv : Value) (k : Nat) (t : T Value) (h : AHeap) : Prop :=
  k ≤ n ∧ Kp h0 h ∧ B3 < B7 ∧ h.bl.get B3 = some (.cells [iv (n : Int), cv] B3 false) ∧ tget t 3 = ptr0 B3 ∧ tget t 7 = .slice (some ⟨B7, 0, none⟩) n n ∧ tget t 10 = iv (k : Int) ∧ Own h B7 (mixP (max2 0) id l k)

set_option maxHeartbeats 16000000 in
theorem rfails_y (S : Ev.Steps Try.prog pr R) (h0 : AHeap) (n : Nat) (hn6 : n ≤ 6) (cv : Value) (cs : List C4) (hc : CAt h0 cv cs) (hsz : cs.length ≤ 12) (hv : Hs n cs) (kh : Nat) (p : Int) (hp1 : 1 ≤ p) (hp2 : p ≤ 1000) :
    Brings Try.prog R 21 [.agg ⟨[iv (n : Int), cv]⟩, iv (kh : Int), iv p] h0 fun v h => IAt h v (lossP n cs kh p) := by
  refine brings_of (fn := Try.f21) (c := (Try.f21.body).getD .skip) (by kernel_rfl) rfl (by kernel_rfl) rfl (fun K hK => ?_)
  generalize hF : finish Try.prog Try.f21 K = KF
  simp only [Try.f21, Option.getD_some, argsT, setArgs, fV1_eq, T.setK_eq, id]
  rw [← lossP_eq hv kh p] at hK
  have hlen := fun t h1 o => hc.len isA t h1 o
  repeat refine S.seq ?_
  refine S.region ?_
  simp (disch := first | omega | (simp only [G8, O8] <;> omega) | decide) only [O0,U0,X0,Y0,O1,U1,Y1,U2,Y2,x9,y9,A_,B_,C_,J3,O3,Q3,U3,V3,X3,Y3,I4,J4,O4,Q4,U4,V4,X4,Y4,Z4,D5,E5,F5,G5,I5,J5,O5,P5,Q5,U5,V5,X5,Y5,Z5,o5,y5,D6,F6,G6,J6,L6,O6,P6,U6,V6,X6,Y6,o6,A7,D7,F7,G7,I7,J7,N7,O7,P7,Q7,U7,V7,X7,Y7,Z7,l7,o7,y7,A8,D8,E8,F8,G8,I8,J8,L8,N8,↓reduceIte,Nat.reduceEqDiff,O8,P8,Q8,U8,V8,X8,Y8,Z8,o8,x8,y8,C9,D9,E9,F9,G9,I9,J9,L9,N9,O9,P9,Q9,S9,Nat.reduceAdd,D_,E_,F_,G_,H_,U9,V9,I_,J_]
  repeat refine S.seq ?_
  refine S.region ?_
  simp (disch := first | omega | (simp only [G8, O8] <;> omega) | decide) only [O0,U0,X0,Y0,O1,U1,Y1,U2,Y2,x9,y9,A_,B_,C_,J3,O3,Q3,U3,V3,X3,Y3,I4,J4,O4,Q4,U4,V4,X4,Y4,Z4,D5,E5,F5,G5,I5,J5,O5,P5,Q5,U5,V5,X5,Y5,Z5,o5,y5,D6,F6,G6,J6,L6,O6,P6,U6,V6,X6,Y6,o6,A7,D7,F7,G7,I7,J7,N7,O7,P7,Q7,U7,V7,X7,Y7,Z7,l7,o7,y7,A8,D8,E8,F8,G8,I8,J8,L8,N8,↓reduceIte,Nat.reduceEqDiff,O8,P8,Q8,U8,V8,X8,Y8,Z8,o8,x8,y8,C9,D9,E9,F9,G9,I9,J9,L9,N9,O9,P9,Q9,S9,Nat.reduceAdd,D_,E_,F_,G_,H_,U9,V9,I_,J_,fieldAddr_ptr fA0 s3,p3,w_makeSlice]
  refine wr_makeInts (k := n) slI info3 z3 info3b info3s (by simp (disch := first | omega | (simp only [G8, O8] <;> omega) | decide) only [O0,U0,X0,Y0,O1,U1,Y1,U2,Y2,x9,y9,A_,B_,C_,J3,O3,Q3,U3,V3,X3,Y3,I4,J4,O4,Q4,U4,V4,X4,Y4,Z4,D5,E5,F5,G5,I5,J5,O5,P5,Q5,U5,V5,X5,Y5,Z5,o5,y5,D6,F6,G6,J6,L6,O6,P6,U6,V6,X6,Y6,o6,A7,D7,F7,G7,I7,J7,N7,O7,P7,Q7,U7,V7,X7,Y7,Z7,l7,o7,y7,A8,D8,E8,F8,G8,I8,J8,L8,N8,↓reduceIte,Nat.reduceEqDiff,O8,P8,Q8,U8,V8,X8,Y8,Z8,o8,x8,y8,C9,D9,E9,F9,G9,I9,J9,L9,N9,O9,P9,Q9,S9,Nat.reduceAdd,D_,E_,F_,G_,H_,U9,V9,I_,J_]) (by simp (disch := first | omega | (simp only [G8, O8] <;> omega) | decide) only [O0,U0,X0,Y0,O1,U1,Y1,U2,Y2,x9,y9,A_,B_,C_,J3,O3,Q3,U3,V3,X3,Y3,I4,J4,O4,Q4,U4,V4,X4,Y4,Z4,D5,E5,F5,G5,I5,J5,O5,P5,Q5,U5,V5,X5,Y5,Z5,o5,y5,D6,F6,G6,J6,L6,O6,P6,U6,V6,X6,Y6,o6,A7,D7,F7,G7,I7,J7,N7,O7,P7,Q7,U7,V7,X7,Y7,Z7,l7,o7,y7,A8,D8,E8,F8,G8,I8,J8,L8,N8,↓reduceIte,Nat.reduceEqDiff,O8,P8,Q8,U8,V8,X8,Y8,Z8,o8,x8,y8,C9,D9,E9,F9,G9,I9,J9,L9,N9,O9,P9,Q9,S9,Nat.reduceAdd,D_,E_,F_,G_,H_,U9,V9,I_,J_]) (by omega) (fun hown => ?_)
  have hk1 : Kp h0 ((h0.add [iv (n : Int), cv]).add ((List.replicate n 0).map iv)) := Kp.refl.add.add
  have hb2 : ((h0.add [iv (n : Int), cv]).add ((List.replicate n 0).map iv)).bl.get h0.nx = some (.cells [iv (n : Int), cv] h0.nx false) := by rw [J8 (by show h0.nx ≠ h0.nx + 1; omega)]; exact I8 rfl
  simp (disch := first | omega | (simp only [G8, O8] <;> omega) | decide) only [O0,U0,X0,Y0,O1,U1,Y1,U2,Y2,x9,y9,A_,B_,C_,J3,O3,Q3,U3,V3,X3,Y3,I4,J4,O4,Q4,U4,V4,X4,Y4,Z4,D5,E5,F5,G5,I5,J5,O5,P5,Q5,U5,V5,X5,Y5,Z5,o5,y5,D6,F6,G6,J6,L6,O6,P6,U6,V6,X6,Y6,o6,A7,D7,F7,G7,I7,J7,N7,O7,P7,Q7,U7,V7,X7,Y7,Z7,l7,o7,y7,A8,D8,E8,F8,G8,I8,J8,L8,N8,↓reduceIte,Nat.reduceEqDiff,O8,P8,Q8,U8,V8,X8,Y8,Z8,o8,x8,y8,C9,D9,E9,F9,G9,I9,J9,L9,N9,O9,P9,Q9,S9,Nat.reduceAdd,D_,E_,F_,G_,H_,U9,V9,I_,J_]
  have hB5 : h0.nx < h0.nx + 1 := Nat.lt_succ_self _
  rw [G8] at hown
  generalize ((h0.add [iv (n : Int), cv]).add ((List.replicate n 0).map iv)) = H1 at hown hk1 hb2 ⊢
  generalize h0.nx + 1 = B7 at hown hB5 ⊢
  repeat refine S.seq ?_
  refine S.region ?_
  simp (disch := first | omega | (simp only [G8, O8] <;> omega) | decide) only [O0,U0,X0,Y0,O1,U1,Y1,U2,Y2,x9,y9,A_,B_,C_,J3,O3,Q3,U3,V3,X3,Y3,I4,J4,O4,Q4,U4,V4,X4,Y4,Z4,D5,E5,F5,G5,I5,J5,O5,P5,Q5,U5,V5,X5,Y5,Z5,o5,y5,D6,F6,G6,J6,L6,O6,P6,U6,V6,X6,Y6,o6,A7,D7,F7,G7,I7,J7,N7,O7,P7,Q7,U7,V7,X7,Y7,Z7,l7,o7,y7,A8,D8,E8,F8,G8,I8,J8,L8,N8,↓reduceIte,Nat.reduceEqDiff,O8,P8,Q8,U8,V8,X8,Y8,Z8,o8,x8,y8,C9,D9,E9,F9,G9,I9,J9,L9,N9,O9,P9,Q9,S9,Nat.reduceAdd,D_,E_,F_,G_,H_,U9,V9,I_,J_]
  repeat refine S.seq ?_
  refine S.block ?_
  refine S.loop (ι := Nat) (IFa n cs kh p h0 h0.nx B7 cv) (fun k => cs.length - k) ?_ 0 _ _ ?_
  · clear hown hk1 hb2 H1
    intro k t h ⟨hk, hkp, hBB, hb2, t1, t2, t3, t7, t8, acc, how, hal', hbd, hbal⟩ K' hn he
    have hnx := hkp.1
    repeat refine S.seq ?_
    refine S.region ?_
    simp (disch := first | omega | (simp only [G8, O8] <;> omega) | decide) only [O0,U0,X0,Y0,O1,U1,Y1,U2,Y2,x9,y9,A_,B_,C_,J3,O3,Q3,U3,V3,X3,Y3,I4,J4,O4,Q4,U4,V4,X4,Y4,Z4,D5,E5,F5,G5,I5,J5,O5,P5,Q5,U5,V5,X5,Y5,Z5,o5,y5,D6,F6,G6,J6,L6,O6,P6,U6,V6,X6,Y6,o6,A7,D7,F7,G7,I7,J7,N7,O7,P7,Q7,U7,V7,X7,Y7,Z7,l7,o7,y7,A8,D8,E8,F8,G8,I8,J8,L8,N8,↓reduceIte,Nat.reduceEqDiff,O8,P8,Q8,U8,V8,X8,Y8,Z8,o8,x8,y8,C9,D9,E9,F9,G9,I9,J9,L9,N9,O9,P9,Q9,S9,Nat.reduceAdd,D_,E_,F_,G_,H_,U9,V9,I_,J_,t3,t8,hb2,fieldAddr_ptr fA1 sAc,pAc,hlen]
    repeat refine S.seq ?_
    refine S.cond (v := decide ((k : Int) < (cs.length : Int))) (by first | rfl | (simp (disch := first | omega | (simp only [G8, O8] <;> omega) | decide) only [O0,U0,X0,Y0,O1,U1,Y1,U2,Y2,x9,y9,A_,B_,C_,J3,O3,Q3,U3,V3,X3,Y3,I4,J4,O4,Q4,U4,V4,X4,Y4,Z4,D5,E5,F5,G5,I5,J5,O5,P5,Q5,U5,V5,X5,Y5,Z5,o5,y5,D6,F6,G6,J6,L6,O6,P6,U6,V6,X6,Y6,o6,A7,D7,F7,G7,I7,J7,N7,O7,P7,Q7,U7,V7,X7,Y7,Z7,l7,o7,y7,A8,D8,E8,F8,G8,I8,J8,L8,N8,↓reduceIte,Nat.reduceEqDiff,O8,P8,Q8,U8,V8,X8,Y8,Z8,o8,x8,y8,C9,D9,E9,F9,G9,I9,J9,L9,N9,O9,P9,Q9,S9,Nat.reduceAdd,D_,E_,F_,G_,H_,U9,V9,I_,J_] <;> rfl)) (fun e => ?_) (fun e => ?_)
    · have hkn : k < cs.length := by have := of_decide_eq_true e; omega
      clear e
      have hps : cs[k]? = some cs[k] := List.getElem?_eq_getElem hkn
      have hmem : cs[k] ∈ cs := List.getElem_mem hkn
      rw [List.drop_eq_getElem_cons hkn, List.foldl_cons] at hbal
      generalize cs[k] = c at hps hmem hbal
      obtain ⟨⟨f, to, hf, hto, hfn, htn, hne⟩, hc1, hc2, hc3, hc4⟩ := hv c hmem
      obtain ⟨b, fb, ro, cells, q1, q2, q3, q4, q5, _⟩ := (hc.mono hkp).idx slA sK hps
      have qp := part_cc pK q4 q5
      have hpb := payC_bnd hv hp1 hp2 hmem
      have hnp := neg_pay c.2.2.1 c.2.2.2 p
      have hpb2 : -999 ≤ c.2.2.2 - p ∧ c.2.2.2 - p ≤ 999 := by omega
      have hpb3 : -100000 ≤ c.2.2.1 * (c.2.2.2 - p) ∧ c.2.2.1 * (c.2.2.2 - p) ≤ 100000 := by rw [hnp]; omega
      have cf0 : (cc c)[0]? = some (iv (f : Int)) := by rw [cc0, hf]
      have cf1 : (cc c)[1]? = some (iv (to : Int)) := by rw [cc1, hto]
      have hsl : (stepF kh p acc c).length = n := by rw [stepF_len]; exact hal'
      have hsbd := bnd_mono (stepF_bnd hv hmem hp1 hp2 kh hbd (by omega)) (by omega : (400000 * (k : Int) + 200000 + 200000) ≤ 400000 * ((k + 1 : Nat) : Int))
      have hsd : stepF kh p acc c = (if (to : Int) = (kh : Int) then addAt (if (f : Int) = (kh : Int) then addAt acc to (-(c.2.2.1 * (c.2.2.2 - p))) else acc) f (c.2.2.1 * (c.2.2.2 - p)) else (if (f : Int) = (kh : Int) then addAt acc to (-(c.2.2.1 * (c.2.2.2 - p))) else acc)) := by
        unfold stepF
        rw [hf, hto, Int.toNat_natCast, Int.toNat_natCast]
      repeat refine S.seq ?_
      refine S.skip ?_
      simp (disch := first | omega | (simp only [G8, O8] <;> omega) | decide) only [O0,U0,X0,Y0,O1,U1,Y1,U2,Y2,x9,y9,A_,B_,C_,J3,O3,Q3,U3,V3,X3,Y3,I4,J4,O4,Q4,U4,V4,X4,Y4,Z4,D5,E5,F5,G5,I5,J5,O5,P5,Q5,U5,V5,X5,Y5,Z5,o5,y5,D6,F6,G6,J6,L6,O6,P6,U6,V6,X6,Y6,o6,A7,D7,F7,G7,I7,J7,N7,O7,P7,Q7,U7,V7,X7,Y7,Z7,l7,o7,y7,A8,D8,E8,F8,G8,I8,J8,L8,N8,↓reduceIte,Nat.reduceEqDiff,O8,P8,Q8,U8,V8,X8,Y8,Z8,o8,x8,y8,C9,D9,E9,F9,G9,I9,J9,L9,N9,O9,P9,Q9,S9,Nat.reduceAdd,D_,E_,F_,G_,H_,U9,V9,I_,J_]
      repeat refine S.seq ?_
      refine S.block ?_
      repeat refine S.seq ?_
      refine S.region ?_
      simp (disch := first | omega | (simp only [G8, O8] <;> omega) | decide) only [O0,U0,X0,Y0,O1,U1,Y1,U2,Y2,x9,y9,A_,B_,C_,J3,O3,Q3,U3,V3,X3,Y3,I4,J4,O4,Q4,U4,V4,X4,Y4,Z4,D5,E5,F5,G5,I5,J5,O5,P5,Q5,U5,V5,X5,Y5,Z5,o5,y5,D6,F6,G6,J6,L6,O6,P6,U6,V6,X6,Y6,o6,A7,D7,F7,G7,I7,J7,N7,O7,P7,Q7,U7,V7,X7,Y7,Z7,l7,o7,y7,A8,D8,E8,F8,G8,I8,J8,L8,N8,↓reduceIte,Nat.reduceEqDiff,O8,P8,Q8,U8,V8,X8,Y8,Z8,o8,x8,y8,C9,D9,E9,F9,G9,I9,J9,L9,N9,O9,P9,Q9,S9,Nat.reduceAdd,D_,E_,F_,G_,H_,U9,V9,I_,J_,t3,t8,hb2,fieldAddr_ptr fA1 sAc,pAc,q1,q3,qp,wr_alloc zK]
      refine wr_storeN (B := h.nx) (c := [iv 0, iv 0, iv 0, iv 0]) (fam := h.nx) (k := h.nx) (l := cc c) (by simp (disch := first | omega | (simp only [G8, O8] <;> omega) | decide) only [O0,U0,X0,Y0,O1,U1,Y1,U2,Y2,x9,y9,A_,B_,C_,J3,O3,Q3,U3,V3,X3,Y3,I4,J4,O4,Q4,U4,V4,X4,Y4,Z4,D5,E5,F5,G5,I5,J5,O5,P5,Q5,U5,V5,X5,Y5,Z5,o5,y5,D6,F6,G6,J6,L6,O6,P6,U6,V6,X6,Y6,o6,A7,D7,F7,G7,I7,J7,N7,O7,P7,Q7,U7,V7,X7,Y7,Z7,l7,o7,y7,A8,D8,E8,F8,G8,I8,J8,L8,N8,↓reduceIte,Nat.reduceEqDiff,O8,P8,Q8,U8,V8,X8,Y8,Z8,o8,x8,y8,C9,D9,E9,F9,G9,I9,J9,L9,N9,O9,P9,Q9,S9,Nat.reduceAdd,D_,E_,F_,G_,H_,U9,V9,I_,J_]) (by simp (disch := first | omega | (simp only [G8, O8] <;> omega) | decide) only [O0,U0,X0,Y0,O1,U1,Y1,U2,Y2,x9,y9,A_,B_,C_,J3,O3,Q3,U3,V3,X3,Y3,I4,J4,O4,Q4,U4,V4,X4,Y4,Z4,D5,E5,F5,G5,I5,J5,O5,P5,Q5,U5,V5,X5,Y5,Z5,o5,y5,D6,F6,G6,J6,L6,O6,P6,U6,V6,X6,Y6,o6,A7,D7,F7,G7,I7,J7,N7,O7,P7,Q7,U7,V7,X7,Y7,Z7,l7,o7,y7,A8,D8,E8,F8,G8,I8,J8,L8,N8,↓reduceIte,Nat.reduceEqDiff,O8,P8,Q8,U8,V8,X8,Y8,Z8,o8,x8,y8,C9,D9,E9,F9,G9,I9,J9,L9,N9,O9,P9,Q9,S9,Nat.reduceAdd,D_,E_,F_,G_,H_,U9,V9,I_,J_]) sK (by omega) rfl (I8 rfl) (L8 rfl) rfl ?_
      have hk4 : Kp h ((h.add [iv 0, iv 0, iv 0, iv 0]).upd h.nx (cc c) h.nx) := Kp.refl.add.upd (Nat.le_refl _)
      have hg4 : ((h.add [iv 0, iv 0, iv 0, iv 0]).upd h.nx (cc c) h.nx).bl.get h.nx = some (.cells (cc c) h.nx false) := Q8 _ _ _
      simp (disch := first | omega | (simp only [G8, O8] <;> omega) | decide) only [O0,U0,X0,Y0,O1,U1,Y1,U2,Y2,x9,y9,A_,B_,C_,J3,O3,Q3,U3,V3,X3,Y3,I4,J4,O4,Q4,U4,V4,X4,Y4,Z4,D5,E5,F5,G5,I5,J5,O5,P5,Q5,U5,V5,X5,Y5,Z5,o5,y5,D6,F6,G6,J6,L6,O6,P6,U6,V6,X6,Y6,o6,A7,D7,F7,G7,I7,J7,N7,O7,P7,Q7,U7,V7,X7,Y7,Z7,l7,o7,y7,A8,D8,E8,F8,G8,I8,J8,L8,N8,↓reduceIte,Nat.reduceEqDiff,O8,P8,Q8,U8,V8,X8,Y8,Z8,o8,x8,y8,C9,D9,E9,F9,G9,I9,J9,L9,N9,O9,P9,Q9,S9,Nat.reduceAdd,D_,E_,F_,G_,H_,U9,V9,I_,J_]
      have hblt := how.1
      generalize (h.add [iv 0, iv 0, iv 0, iv 0]).upd h.nx (cc c) h.nx = h4 at hk4 hg4 ⊢
      have hb24 := (hk4.get (by omega : h0.nx < h.nx)).trans hb2
      have hkp4 := hkp.trans hk4
      have how4 := how.mono hk4
      generalize h.nx = B9 at hg4 hblt ⊢
      clear q1 q2 q3 q4 q5 qp hk4 hkp how hnx hb2
      generalize hD : c.2.2.1 * (c.2.2.2 - p) = D at hpb3 hsd ⊢
      repeat refine S.seq ?_
      refine S.region ?_
      simp (disch := first | omega | (simp only [G8, O8] <;> omega) | decide) only [O0,U0,X0,Y0,O1,U1,Y1,U2,Y2,x9,y9,A_,B_,C_,J3,O3,Q3,U3,V3,X3,Y3,I4,J4,O4,Q4,U4,V4,X4,Y4,Z4,D5,E5,F5,G5,I5,J5,O5,P5,Q5,U5,V5,X5,Y5,Z5,o5,y5,D6,F6,G6,J6,L6,O6,P6,U6,V6,X6,Y6,o6,A7,D7,F7,G7,I7,J7,N7,O7,P7,Q7,U7,V7,X7,Y7,Z7,l7,o7,y7,A8,D8,E8,F8,G8,I8,J8,L8,N8,↓reduceIte,Nat.reduceEqDiff,O8,P8,Q8,U8,V8,X8,Y8,Z8,o8,x8,y8,C9,D9,E9,F9,G9,I9,J9,L9,N9,O9,P9,Q9,S9,Nat.reduceAdd,D_,E_,F_,G_,H_,U9,V9,I_,J_,t1,hg4,fieldAddr_ptr fK0 s3,p3,cf0]
      -- behind the first part
      generalize ha1 : (if (f : Int) = (kh : Int) then addAt acc to (-D) else acc) = acc1 at hsd
      repeat refine S.seq ?_
      generalize hKK : seqK R 77 none _ _ = KJ
      have hJ : ∀ (t : T Value) (h5 : AHeap), Kp h0 h5 → h5.bl.get h0.nx = some (.cells [iv (n : Int), cv] h0.nx false) → h5.bl.get B9 = some (.cells (cc c) B9 false) → Own h5 B7 acc1 → acc1.length = n → bnd (400000 * k + 200000) acc1 → tget t 1 = iv (kh : Int) → tget t 2 = iv p → tget t 3 = ptr0 h0.nx → tget t 7 = .slice (some ⟨B7, 0, none⟩) n n → tget t 8 = iv (k : Int) → tget t 9 = ptr0 B9 → KJ .normal t h5 [] = true := by
        clear t1 t2 t3 t7 t8 t
        intro t h5 hkp5 hb25 hg5 how5 hl5 hbd5 t1 t2 t3 t7 t8 t9
        subst hKK
        rw [J4]
        repeat refine S.seq ?_
        refine S.region ?_
        simp (disch := first | omega | (simp only [G8, O8] <;> omega) | decide) only [O0,U0,X0,Y0,O1,U1,Y1,U2,Y2,x9,y9,A_,B_,C_,J3,O3,Q3,U3,V3,X3,Y3,I4,J4,O4,Q4,U4,V4,X4,Y4,Z4,D5,E5,F5,G5,I5,J5,O5,P5,Q5,U5,V5,X5,Y5,Z5,o5,y5,D6,F6,G6,J6,L6,O6,P6,U6,V6,X6,Y6,o6,A7,D7,F7,G7,I7,J7,N7,O7,P7,Q7,U7,V7,X7,Y7,Z7,l7,o7,y7,A8,D8,E8,F8,G8,I8,J8,L8,N8,↓reduceIte,Nat.reduceEqDiff,O8,P8,Q8,U8,V8,X8,Y8,Z8,o8,x8,y8,C9,D9,E9,F9,G9,I9,J9,L9,N9,O9,P9,Q9,S9,Nat.reduceAdd,D_,E_,F_,G_,H_,U9,V9,I_,J_,t1,t9,hg5,fieldAddr_ptr fK1 s3,p3,cf1]
        by_cases hx : (to : Int) = (kh : Int)
        · rw [if_pos hx] at hsd
          have hg1 : (acc1.map iv)[f]? = some (iv (acc1.getD f 0)) := by rw [pI3 acc1 (by omega : f < acc1.length), getD_of]
          have hd1 := bnd_getD hbd5 (by omega) f
          have hl1 : f < (acc1.map iv).length := by rw [List.length_map]; omega
          have hst1 : (acc1.map iv).set f (iv (acc1.getD f 0 + D)) = (addAt acc1 f D).map iv := by rw [addAt, List.map_set]
          repeat refine S.seq ?_
          refine S.cond (v := true) (by first | rfl | (simp (disch := first | omega | (simp only [G8, O8] <;> omega) | decide) only [O0,U0,X0,Y0,O1,U1,Y1,U2,Y2,x9,y9,A_,B_,C_,J3,O3,Q3,U3,V3,X3,Y3,I4,J4,O4,Q4,U4,V4,X4,Y4,Z4,D5,E5,F5,G5,I5,J5,O5,P5,Q5,U5,V5,X5,Y5,Z5,o5,y5,D6,F6,G6,J6,L6,O6,P6,U6,V6,X6,Y6,o6,A7,D7,F7,G7,I7,J7,N7,O7,P7,Q7,U7,V7,X7,Y7,Z7,l7,o7,y7,A8,D8,E8,F8,G8,I8,J8,L8,N8,↓reduceIte,Nat.reduceEqDiff,O8,P8,Q8,U8,V8,X8,Y8,Z8,o8,x8,y8,C9,D9,E9,F9,G9,I9,J9,L9,N9,O9,P9,Q9,S9,Nat.reduceAdd,D_,E_,F_,G_,H_,U9,V9,I_,J_,decide_eq_true hx] <;> rfl)) (fun _ => ?_) (fun e => by cases e)
          repeat refine S.seq ?_
          refine S.ordered (by kernel_rfl) (by kernel_rfl) (by kernel_rfl) (by kernel_rfl) ?_
          simp (disch := first | omega | (simp only [G8, O8] <;> omega) | decide) only [O0,U0,X0,Y0,O1,U1,Y1,U2,Y2,x9,y9,A_,B_,C_,J3,O3,Q3,U3,V3,X3,Y3,I4,J4,O4,Q4,U4,V4,X4,Y4,Z4,D5,E5,F5,G5,I5,J5,O5,P5,Q5,U5,V5,X5,Y5,Z5,o5,y5,D6,F6,G6,J6,L6,O6,P6,U6,V6,X6,Y6,o6,A7,D7,F7,G7,I7,J7,N7,O7,P7,Q7,U7,V7,X7,Y7,Z7,l7,o7,y7,A8,D8,E8,F8,G8,I8,J8,L8,N8,↓reduceIte,Nat.reduceEqDiff,O8,P8,Q8,U8,V8,X8,Y8,Z8,o8,x8,y8,C9,D9,E9,F9,G9,I9,J9,L9,N9,O9,P9,Q9,S9,Nat.reduceAdd,D_,E_,F_,G_,H_,U9,V9,I_,J_,t2,t7,t9,hg5,fieldAddr_ptr fK0 s3,fieldAddr_ptr fK2 s3,fieldAddr_ptr fK3 s3,p3,cf0,cc2,cc3,indexAddr_sl slI s3' hfn,how5.2.1,hg1,hD]
          refine wr_store s3' ?_
          simp (disch := first | omega | (simp only [G8, O8] <;> omega) | decide) only [O0,U0,X0,Y0,O1,U1,Y1,U2,Y2,x9,y9,A_,B_,C_,J3,O3,Q3,U3,V3,X3,Y3,I4,J4,O4,Q4,U4,V4,X4,Y4,Z4,D5,E5,F5,G5,I5,J5,O5,P5,Q5,U5,V5,X5,Y5,Z5,o5,y5,D6,F6,G6,J6,L6,O6,P6,U6,V6,X6,Y6,o6,A7,D7,F7,G7,I7,J7,N7,O7,P7,Q7,U7,V7,X7,Y7,Z7,l7,o7,y7,A8,D8,E8,F8,G8,I8,J8,L8,N8,↓reduceIte,Nat.reduceEqDiff,O8,P8,Q8,U8,V8,X8,Y8,Z8,o8,x8,y8,C9,D9,E9,F9,G9,I9,J9,L9,N9,O9,P9,Q9,S9,Nat.reduceAdd,D_,E_,F_,G_,H_,U9,V9,I_,J_,how5.2.1,how5.2.2,hl1]
          rw [hst1]
          have how6 : Own (h5.upd B7 ((addAt acc1 f D).map iv) B7) B7 (addAt acc1 f D) := ⟨how5.1, Q8 _ _ _, how5.2.2⟩
          repeat refine S.seq ?_
          refine S.region ?_
          simp (disch := first | omega | (simp only [G8, O8] <;> omega) | decide) only [O0,U0,X0,Y0,O1,U1,Y1,U2,Y2,x9,y9,A_,B_,C_,J3,O3,Q3,U3,V3,X3,Y3,I4,J4,O4,Q4,U4,V4,X4,Y4,Z4,D5,E5,F5,G5,I5,J5,O5,P5,Q5,U5,V5,X5,Y5,Z5,o5,y5,D6,F6,G6,J6,L6,O6,P6,U6,V6,X6,Y6,o6,A7,D7,F7,G7,I7,J7,N7,O7,P7,Q7,U7,V7,X7,Y7,Z7,l7,o7,y7,A8,D8,E8,F8,G8,I8,J8,L8,N8,↓reduceIte,Nat.reduceEqDiff,O8,P8,Q8,U8,V8,X8,Y8,Z8,o8,x8,y8,C9,D9,E9,F9,G9,I9,J9,L9,N9,O9,P9,Q9,S9,Nat.reduceAdd,D_,E_,F_,G_,H_,U9,V9,I_,J_,t8]
          refine hn (k + 1) _ _ (by omega) ⟨by omega, hkp5.upd (by omega), hBB, by rw [U8 _ _ _ (by omega)]; exact hb25, ?_, ?_, ?_, ?_, ?_, stepF kh p acc c, by rw [hsd]; exact how6, hsl, hsbd, hbal⟩
          all_goals (first | rfl | (simp (disch := first | omega | (simp only [G8, O8] <;> omega) | decide) only [O0,U0,X0,Y0,O1,U1,Y1,U2,Y2,x9,y9,A_,B_,C_,J3,O3,Q3,U3,V3,X3,Y3,I4,J4,O4,Q4,U4,V4,X4,Y4,Z4,D5,E5,F5,G5,I5,J5,O5,P5,Q5,U5,V5,X5,Y5,Z5,o5,y5,D6,F6,G6,J6,L6,O6,P6,U6,V6,X6,Y6,o6,A7,D7,F7,G7,I7,J7,N7,O7,P7,Q7,U7,V7,X7,Y7,Z7,l7,o7,y7,A8,D8,E8,F8,G8,I8,J8,L8,N8,↓reduceIte,Nat.reduceEqDiff,O8,P8,Q8,U8,V8,X8,Y8,Z8,o8,x8,y8,C9,D9,E9,F9,G9,I9,J9,L9,N9,O9,P9,Q9,S9,Nat.reduceAdd,D_,E_,F_,G_,H_,U9,V9,I_,J_,t1,t2,t3,t7,t8]; done) | (simp (disch := first | omega | (simp only [G8, O8] <;> omega) | decide) only [O0,U0,X0,Y0,O1,U1,Y1,U2,Y2,x9,y9,A_,B_,C_,J3,O3,Q3,U3,V3,X3,Y3,I4,J4,O4,Q4,U4,V4,X4,Y4,Z4,D5,E5,F5,G5,I5,J5,O5,P5,Q5,U5,V5,X5,Y5,Z5,o5,y5,D6,F6,G6,J6,L6,O6,P6,U6,V6,X6,Y6,o6,A7,D7,F7,G7,I7,J7,N7,O7,P7,Q7,U7,V7,X7,Y7,Z7,l7,o7,y7,A8,D8,E8,F8,G8,I8,J8,L8,N8,↓reduceIte,Nat.reduceEqDiff,O8,P8,Q8,U8,V8,X8,Y8,Z8,o8,x8,y8,C9,D9,E9,F9,G9,I9,J9,L9,N9,O9,P9,Q9,S9,Nat.reduceAdd,D_,E_,F_,G_,H_,U9,V9,I_,J_,t1,t2,t3,t7,t8]; rfl))
        · rw [if_neg hx] at hsd
          repeat refine S.seq ?_
          refine S.cond (v := false) (by first | rfl | (simp (disch := first | omega | (simp only [G8, O8] <;> omega) | decide) only [O0,U0,X0,Y0,O1,U1,Y1,U2,Y2,x9,y9,A_,B_,C_,J3,O3,Q3,U3,V3,X3,Y3,I4,J4,O4,Q4,U4,V4,X4,Y4,Z4,D5,E5,F5,G5,I5,J5,O5,P5,Q5,U5,V5,X5,Y5,Z5,o5,y5,D6,F6,G6,J6,L6,O6,P6,U6,V6,X6,Y6,o6,A7,D7,F7,G7,I7,J7,N7,O7,P7,Q7,U7,V7,X7,Y7,Z7,l7,o7,y7,A8,D8,E8,F8,G8,I8,J8,L8,N8,↓reduceIte,Nat.reduceEqDiff,O8,P8,Q8,U8,V8,X8,Y8,Z8,o8,x8,y8,C9,D9,E9,F9,G9,I9,J9,L9,N9,O9,P9,Q9,S9,Nat.reduceAdd,D_,E_,F_,G_,H_,U9,V9,I_,J_,decide_eq_false hx] <;> rfl)) (fun e => by cases e) (fun _ => ?_)
          repeat refine S.seq ?_
          refine S.skip ?_
          simp (disch := first | omega | (simp only [G8, O8] <;> omega) | decide) only [O0,U0,X0,Y0,O1,U1,Y1,U2,Y2,x9,y9,A_,B_,C_,J3,O3,Q3,U3,V3,X3,Y3,I4,J4,O4,Q4,U4,V4,X4,Y4,Z4,D5,E5,F5,G5,I5,J5,O5,P5,Q5,U5,V5,X5,Y5,Z5,o5,y5,D6,F6,G6,J6,L6,O6,P6,U6,V6,X6,Y6,o6,A7,D7,F7,G7,I7,J7,N7,O7,P7,Q7,U7,V7,X7,Y7,Z7,l7,o7,y7,A8,D8,E8,F8,G8,I8,J8,L8,N8,↓reduceIte,Nat.reduceEqDiff,O8,P8,Q8,U8,V8,X8,Y8,Z8,o8,x8,y8,C9,D9,E9,F9,G9,I9,J9,L9,N9,O9,P9,Q9,S9,Nat.reduceAdd,D_,E_,F_,G_,H_,U9,V9,I_,J_]
          repeat refine S.seq ?_
          refine S.region ?_
          simp (disch := first | omega | (simp only [G8, O8] <;> omega) | decide) only [O0,U0,X0,Y0,O1,U1,Y1,U2,Y2,x9,y9,A_,B_,C_,J3,O3,Q3,U3,V3,X3,Y3,I4,J4,O4,Q4,U4,V4,X4,Y4,Z4,D5,E5,F5,G5,I5,J5,O5,P5,Q5,U5,V5,X5,Y5,Z5,o5,y5,D6,F6,G6,J6,L6,O6,P6,U6,V6,X6,Y6,o6,A7,D7,F7,G7,I7,J7,N7,O7,P7,Q7,U7,V7,X7,Y7,Z7,l7,o7,y7,A8,D8,E8,F8,G8,I8,J8,L8,N8,↓reduceIte,Nat.reduceEqDiff,O8,P8,Q8,U8,V8,X8,Y8,Z8,o8,x8,y8,C9,D9,E9,F9,G9,I9,J9,L9,N9,O9,P9,Q9,S9,Nat.reduceAdd,D_,E_,F_,G_,H_,U9,V9,I_,J_,t8]
          refine hn (k + 1) _ _ (by omega) ⟨by omega, hkp5, hBB, hb25, ?_, ?_, ?_, ?_, ?_, stepF kh p acc c, by rw [hsd]; exact how5, hsl, hsbd, hbal⟩
          all_goals (first | rfl | (simp (disch := first | omega | (simp only [G8, O8] <;> omega) | decide) only [O0,U0,X0,Y0,O1,U1,Y1,U2,Y2,x9,y9,A_,B_,C_,J3,O3,Q3,U3,V3,X3,Y3,I4,J4,O4,Q4,U4,V4,X4,Y4,Z4,D5,E5,F5,G5,I5,J5,O5,P5,Q5,U5,V5,X5,Y5,Z5,o5,y5,D6,F6,G6,J6,L6,O6,P6,U6,V6,X6,Y6,o6,A7,D7,F7,G7,I7,J7,N7,O7,P7,Q7,U7,V7,X7,Y7,Z7,l7,o7,y7,A8,D8,E8,F8,G8,I8,J8,L8,N8,↓reduceIte,Nat.reduceEqDiff,O8,P8,Q8,U8,V8,X8,Y8,Z8,o8,x8,y8,C9,D9,E9,F9,G9,I9,J9,L9,N9,O9,P9,Q9,S9,Nat.reduceAdd,D_,E_,F_,G_,H_,U9,V9,I_,J_,t1,t2,t3,t7,t8]; done) | (simp (disch := first | omega | (simp only [G8, O8] <;> omega) | decide) only [O0,U0,X0,Y0,O1,U1,Y1,U2,Y2,x9,y9,A_,B_,C_,J3,O3,Q3,U3,V3,X3,Y3,I4,J4,O4,Q4,U4,V4,X4,Y4,Z4,D5,E5,F5,G5,I5,J5,O5,P5,Q5,U5,V5,X5,Y5,Z5,o5,y5,D6,F6,G6,J6,L6,O6,P6,U6,V6,X6,Y6,o6,A7,D7,F7,G7,I7,J7,N7,O7,P7,Q7,U7,V7,X7,Y7,Z7,l7,o7,y7,A8,D8,E8,F8,G8,I8,J8,L8,N8,↓reduceIte,Nat.reduceEqDiff,O8,P8,Q8,U8,V8,X8,Y8,Z8,o8,x8,y8,C9,D9,E9,F9,G9,I9,J9,L9,N9,O9,P9,Q9,S9,Nat.reduceAdd,D_,E_,F_,G_,H_,U9,V9,I_,J_,t1,t2,t3,t7,t8]; rfl))
      clear hKK hn he
      by_cases hx : (f : Int) = (kh : Int)
      · rw [if_pos hx] at ha1
        have hg1 : (acc.map iv)[to]? = some (iv (acc.getD to 0)) := by rw [pI3 acc (by omega : to < acc.length), getD_of]
        have hd1 := bnd_getD hbd (by omega) to
        have hl1 : to < (acc.map iv).length := by rw [List.length_map]; omega
        have hst1 : (acc.map iv).set to (iv (acc.getD to 0 - D)) = acc1.map iv := by rw [← ha1, addAt, List.map_set, Int.sub_eq_add_neg]
        repeat refine S.seq ?_
        refine S.cond (v := true) (by first | rfl | (simp (disch := first | omega | (simp only [G8, O8] <;> omega) | decide) only [O0,U0,X0,Y0,O1,U1,Y1,U2,Y2,x9,y9,A_,B_,C_,J3,O3,Q3,U3,V3,X3,Y3,I4,J4,O4,Q4,U4,V4,X4,Y4,Z4,D5,E5,F5,G5,I5,J5,O5,P5,Q5,U5,V5,X5,Y5,Z5,o5,y5,D6,F6,G6,J6,L6,O6,P6,U6,V6,X6,Y6,o6,A7,D7,F7,G7,I7,J7,N7,O7,P7,Q7,U7,V7,X7,Y7,Z7,l7,o7,y7,A8,D8,E8,F8,G8,I8,J8,L8,N8,↓reduceIte,Nat.reduceEqDiff,O8,P8,Q8,U8,V8,X8,Y8,Z8,o8,x8,y8,C9,D9,E9,F9,G9,I9,J9,L9,N9,O9,P9,Q9,S9,Nat.reduceAdd,D_,E_,F_,G_,H_,U9,V9,I_,J_,decide_eq_true hx] <;> rfl)) (fun _ => ?_) (fun e => by cases e)
        repeat refine S.seq ?_
        refine S.ordered (by kernel_rfl) (by kernel_rfl) (by kernel_rfl) (by kernel_rfl) ?_
        simp (disch := first | omega | (simp only [G8, O8] <;> omega) | decide) only [O0,U0,X0,Y0,O1,U1,Y1,U2,Y2,x9,y9,A_,B_,C_,J3,O3,Q3,U3,V3,X3,Y3,I4,J4,O4,Q4,U4,V4,X4,Y4,Z4,D5,E5,F5,G5,I5,J5,O5,P5,Q5,U5,V5,X5,Y5,Z5,o5,y5,D6,F6,G6,J6,L6,O6,P6,U6,V6,X6,Y6,o6,A7,D7,F7,G7,I7,J7,N7,O7,P7,Q7,U7,V7,X7,Y7,Z7,l7,o7,y7,A8,D8,E8,F8,G8,I8,J8,L8,N8,↓reduceIte,Nat.reduceEqDiff,O8,P8,Q8,U8,V8,X8,Y8,Z8,o8,x8,y8,C9,D9,E9,F9,G9,I9,J9,L9,N9,O9,P9,Q9,S9,Nat.reduceAdd,D_,E_,F_,G_,H_,U9,V9,I_,J_,t2,t7,hg4,fieldAddr_ptr fK1 s3,fieldAddr_ptr fK2 s3,fieldAddr_ptr fK3 s3,p3,cf1,cc2,cc3,indexAddr_sl slI s3' htn,how4.2.1,hg1,hD]
        refine wr_store s3' ?_
        simp (disch := first | omega | (simp only [G8, O8] <;> omega) | decide) only [O0,U0,X0,Y0,O1,U1,Y1,U2,Y2,x9,y9,A_,B_,C_,J3,O3,Q3,U3,V3,X3,Y3,I4,J4,O4,Q4,U4,V4,X4,Y4,Z4,D5,E5,F5,G5,I5,J5,O5,P5,Q5,U5,V5,X5,Y5,Z5,o5,y5,D6,F6,G6,J6,L6,O6,P6,U6,V6,X6,Y6,o6,A7,D7,F7,G7,I7,J7,N7,O7,P7,Q7,U7,V7,X7,Y7,Z7,l7,o7,y7,A8,D8,E8,F8,G8,I8,J8,L8,N8,↓reduceIte,Nat.reduceEqDiff,O8,P8,Q8,U8,V8,X8,Y8,Z8,o8,x8,y8,C9,D9,E9,F9,G9,I9,J9,L9,N9,O9,P9,Q9,S9,Nat.reduceAdd,D_,E_,F_,G_,H_,U9,V9,I_,J_,how4.2.1,how4.2.2,hl1]
        rw [hst1]
        have how6 : Own (h4.upd B7 (acc1.map iv) B7) B7 acc1 := ⟨how4.1, Q8 _ _ _, how4.2.2⟩
        refine hJ _ _ (hkp4.upd (by omega)) (by rw [U8 _ _ _ (by omega)]; exact hb24) (by rw [U8 _ _ _ (by omega)]; exact hg4) how6 (by rw [← ha1, addAt_len]; exact hal') (by rw [← ha1]; exact bnd_addAt hbd (by omega) (by omega) (by omega) (by omega)) ?_ ?_ ?_ ?_ ?_ ?_
        all_goals (first | rfl | (simp (disch := first | omega | (simp only [G8, O8] <;> omega) | decide) only [O0,U0,X0,Y0,O1,U1,Y1,U2,Y2,x9,y9,A_,B_,C_,J3,O3,Q3,U3,V3,X3,Y3,I4,J4,O4,Q4,U4,V4,X4,Y4,Z4,D5,E5,F5,G5,I5,J5,O5,P5,Q5,U5,V5,X5,Y5,Z5,o5,y5,D6,F6,G6,J6,L6,O6,P6,U6,V6,X6,Y6,o6,A7,D7,F7,G7,I7,J7,N7,O7,P7,Q7,U7,V7,X7,Y7,Z7,l7,o7,y7,A8,D8,E8,F8,G8,I8,J8,L8,N8,↓reduceIte,Nat.reduceEqDiff,O8,P8,Q8,U8,V8,X8,Y8,Z8,o8,x8,y8,C9,D9,E9,F9,G9,I9,J9,L9,N9,O9,P9,Q9,S9,Nat.reduceAdd,D_,E_,F_,G_,H_,U9,V9,I_,J_,t1,t2,t3,t7,t8]; done) | (simp (disch := first | omega | (simp only [G8, O8] <;> omega) | decide) only [O0,U0,X0,Y0,O1,U1,Y1,U2,Y2,x9,y9,A_,B_,C_,J3,O3,Q3,U3,V3,X3,Y3,I4,J4,O4,Q4,U4,V4,X4,Y4,Z4,D5,E5,F5,G5,I5,J5,O5,P5,Q5,U5,V5,X5,Y5,Z5,o5,y5,D6,F6,G6,J6,L6,O6,P6,U6,V6,X6,Y6,o6,A7,D7,F7,G7,I7,J7,N7,O7,P7,Q7,U7,V7,X7,Y7,Z7,l7,o7,y7,A8,D8,E8,F8,G8,I8,J8,L8,N8,↓reduceIte,Nat.reduceEqDiff,O8,P8,Q8,U8,V8,X8,Y8,Z8,o8,x8,y8,C9,D9,E9,F9,G9,I9,J9,L9,N9,O9,P9,Q9,S9,Nat.reduceAdd,D_,E_,F_,G_,H_,U9,V9,I_,J_,t1,t2,t3,t7,t8]; rfl))
      · rw [if_neg hx] at ha1
        subst ha1
        repeat refine S.seq ?_
        refine S.cond (v := false) (by first | rfl | (simp (disch := first | omega | (simp only [G8, O8] <;> omega) | decide) only [O0,U0,X0,Y0,O1,U1,Y1,U2,Y2,x9,y9,A_,B_,C_,J3,O3,Q3,U3,V3,X3,Y3,I4,J4,O4,Q4,U4,V4,X4,Y4,Z4,D5,E5,F5,G5,I5,J5,O5,P5,Q5,U5,V5,X5,Y5,Z5,o5,y5,D6,F6,G6,J6,L6,O6,P6,U6,V6,X6,Y6,o6,A7,D7,F7,G7,I7,J7,N7,O7,P7,Q7,U7,V7,X7,Y7,Z7,l7,o7,y7,A8,D8,E8,F8,G8,I8,J8,L8,N8,↓reduceIte,Nat.reduceEqDiff,O8,P8,Q8,U8,V8,X8,Y8,Z8,o8,x8,y8,C9,D9,E9,F9,G9,I9,J9,L9,N9,O9,P9,Q9,S9,Nat.reduceAdd,D_,E_,F_,G_,H_,U9,V9,I_,J_,decide_eq_false hx] <;> rfl)) (fun e => by cases e) (fun _ => ?_)
        refine S.skip ?_
        refine hJ _ _ hkp4 hb24 hg4 how4 hal' (bnd_mono hbd (by omega)) ?_ ?_ ?_ ?_ ?_ ?_
        all_goals (first | rfl | (simp (disch := first | omega | (simp only [G8, O8] <;> omega) | decide) only [O0,U0,X0,Y0,O1,U1,Y1,U2,Y2,x9,y9,A_,B_,C_,J3,O3,Q3,U3,V3,X3,Y3,I4,J4,O4,Q4,U4,V4,X4,Y4,Z4,D5,E5,F5,G5,I5,J5,O5,P5,Q5,U5,V5,X5,Y5,Z5,o5,y5,D6,F6,G6,J6,L6,O6,P6,U6,V6,X6,Y6,o6,A7,D7,F7,G7,I7,J7,N7,O7,P7,Q7,U7,V7,X7,Y7,Z7,l7,o7,y7,A8,D8,E8,F8,G8,I8,J8,L8,N8,↓reduceIte,Nat.reduceEqDiff,O8,P8,Q8,U8,V8,X8,Y8,Z8,o8,x8,y8,C9,D9,E9,F9,G9,I9,J9,L9,N9,O9,P9,Q9,S9,Nat.reduceAdd,D_,E_,F_,G_,H_,U9,V9,I_,J_,t1,t2,t3,t7,t8]; done) | (simp (disch := first | omega | (simp only [G8, O8] <;> omega) | decide) only [O0,U0,X0,Y0,O1,U1,Y1,U2,Y2,x9,y9,A_,B_,C_,J3,O3,Q3,U3,V3,X3,Y3,I4,J4,O4,Q4,U4,V4,X4,Y4,Z4,D5,E5,F5,G5,I5,J5,O5,P5,Q5,U5,V5,X5,Y5,Z5,o5,y5,D6,F6,G6,J6,L6,O6,P6,U6,V6,X6,Y6,o6,A7,D7,F7,G7,I7,J7,N7,O7,P7,Q7,U7,V7,X7,Y7,Z7,l7,o7,y7,A8,D8,E8,F8,G8,I8,J8,L8,N8,↓reduceIte,Nat.reduceEqDiff,O8,P8,Q8,U8,V8,X8,Y8,Z8,o8,x8,y8,C9,D9,E9,F9,G9,I9,J9,L9,N9,O9,P9,Q9,S9,Nat.reduceAdd,D_,E_,F_,G_,H_,U9,V9,I_,J_,t1,t2,t3,t7,t8]; rfl))
    · have hkn : k = cs.length := by have := of_decide_eq_false e; omega
      subst hkn
      rw [List.drop_of_length_le (Nat.le_refl _), List.foldl_nil] at hbal
      subst hbal
      refine S.exit (he _ _ _ _ (fun e => by cases e) ?_)
      clear he hn e
      simp (disch := first | omega | (simp only [G8, O8] <;> omega) | decide) only [O0,U0,X0,Y0,O1,U1,Y1,U2,Y2,x9,y9,A_,B_,C_,J3,O3,Q3,U3,V3,X3,Y3,I4,J4,O4,Q4,U4,V4,X4,Y4,Z4,D5,E5,F5,G5,I5,J5,O5,P5,Q5,U5,V5,X5,Y5,Z5,o5,y5,D6,F6,G6,J6,L6,O6,P6,U6,V6,X6,Y6,o6,A7,D7,F7,G7,I7,J7,N7,O7,P7,Q7,U7,V7,X7,Y7,Z7,l7,o7,y7,A8,D8,E8,F8,G8,I8,J8,L8,N8,↓reduceIte,Nat.reduceEqDiff,O8,P8,Q8,U8,V8,X8,Y8,Z8,o8,x8,y8,C9,D9,E9,F9,G9,I9,J9,L9,N9,O9,P9,Q9,S9,Nat.reduceAdd,D_,E_,F_,G_,H_,U9,V9,I_,J_]
      generalize List.foldl (stepF kh p) (List.replicate n 0) cs = l at how hal' hK
      repeat refine S.seq ?_
      refine S.region ?_
      simp (disch := first | omega | (simp only [G8, O8] <;> omega) | decide) only [O0,U0,X0,Y0,O1,U1,Y1,U2,Y2,x9,y9,A_,B_,C_,J3,O3,Q3,U3,V3,X3,Y3,I4,J4,O4,Q4,U4,V4,X4,Y4,Z4,D5,E5,F5,G5,I5,J5,O5,P5,Q5,U5,V5,X5,Y5,Z5,o5,y5,D6,F6,G6,J6,L6,O6,P6,U6,V6,X6,Y6,o6,A7,D7,F7,G7,I7,J7,N7,O7,P7,Q7,U7,V7,X7,Y7,Z7,l7,o7,y7,A8,D8,E8,F8,G8,I8,J8,L8,N8,↓reduceIte,Nat.reduceEqDiff,O8,P8,Q8,U8,V8,X8,Y8,Z8,o8,x8,y8,C9,D9,E9,F9,G9,I9,J9,L9,N9,O9,P9,Q9,S9,Nat.reduceAdd,D_,E_,F_,G_,H_,U9,V9,I_,J_]
      repeat refine S.seq ?_
      refine S.block ?_
      refine S.loop (ι := Nat) (IFb n l h0 h0.nx B7 cv) (fun k => n - k) ?_ 0 _ _ ?_
      · clear how hkp t3 t7 hb2
        intro k t h ⟨hk, hkp, hBB, hb2, t3, t7, t10, how⟩ K' hn he
        have hnx := hkp.1
        repeat refine S.seq ?_
        refine S.region ?_
        simp (disch := first | omega | (simp only [G8, O8] <;> omega) | decide) only [O0,U0,X0,Y0,O1,U1,Y1,U2,Y2,x9,y9,A_,B_,C_,J3,O3,Q3,U3,V3,X3,Y3,I4,J4,O4,Q4,U4,V4,X4,Y4,Z4,D5,E5,F5,G5,I5,J5,O5,P5,Q5,U5,V5,X5,Y5,Z5,o5,y5,D6,F6,G6,J6,L6,O6,P6,U6,V6,X6,Y6,o6,A7,D7,F7,G7,I7,J7,N7,O7,P7,Q7,U7,V7,X7,Y7,Z7,l7,o7,y7,A8,D8,E8,F8,G8,I8,J8,L8,N8,↓reduceIte,Nat.reduceEqDiff,O8,P8,Q8,U8,V8,X8,Y8,Z8,o8,x8,y8,C9,D9,E9,F9,G9,I9,J9,L9,N9,O9,P9,Q9,S9,Nat.reduceAdd,D_,E_,F_,G_,H_,U9,V9,I_,J_,t3,t10,hb2,fieldAddr_ptr fA0 s3,p3]
        repeat refine S.seq ?_
        refine S.cond (v := decide ((k : Int) < (n : Int))) (by first | rfl | (simp (disch := first | omega | (simp only [G8, O8] <;> omega) | decide) only [O0,U0,X0,Y0,O1,U1,Y1,U2,Y2,x9,y9,A_,B_,C_,J3,O3,Q3,U3,V3,X3,Y3,I4,J4,O4,Q4,U4,V4,X4,Y4,Z4,D5,E5,F5,G5,I5,J5,O5,P5,Q5,U5,V5,X5,Y5,Z5,o5,y5,D6,F6,G6,J6,L6,O6,P6,U6,V6,X6,Y6,o6,A7,D7,F7,G7,I7,J7,N7,O7,P7,Q7,U7,V7,X7,Y7,Z7,l7,o7,y7,A8,D8,E8,F8,G8,I8,J8,L8,N8,↓reduceIte,Nat.reduceEqDiff,O8,P8,Q8,U8,V8,X8,Y8,Z8,o8,x8,y8,C9,D9,E9,F9,G9,I9,J9,L9,N9,O9,P9,Q9,S9,Nat.reduceAdd,D_,E_,F_,G_,H_,U9,V9,I_,J_] <;> rfl)) (fun e => ?_) (fun e => ?_)
        · have hkn : k < n := by have := of_decide_eq_true e; omega
          clear e
          have hps : l[k]? = some l[k] := List.getElem?_eq_getElem (by omega)
          generalize l[k] = x at hps
          have hgx : ((mixP (max2 0) id l k).map iv)[k]? = some (iv x) := by rw [List.getElem?_map, mix_get _ _ hps]; rfl
          have hml : k < ((mixP (max2 0) id l k).map iv).length := by rw [List.length_map, mix_len]; omega
          have hst := mix_step (max2 0) id hps
          repeat refine S.seq ?_
          refine S.skip ?_
          simp (disch := first | omega | (simp only [G8, O8] <;> omega) | decide) only [O0,U0,X0,Y0,O1,U1,Y1,U2,Y2,x9,y9,A_,B_,C_,J3,O3,Q3,U3,V3,X3,Y3,I4,J4,O4,Q4,U4,V4,X4,Y4,Z4,D5,E5,F5,G5,I5,J5,O5,P5,Q5,U5,V5,X5,Y5,Z5,o5,y5,D6,F6,G6,J6,L6,O6,P6,U6,V6,X6,Y6,o6,A7,D7,F7,G7,I7,J7,N7,O7,P7,Q7,U7,V7,X7,Y7,Z7,l7,o7,y7,A8,D8,E8,F8,G8,I8,J8,L8,N8,↓reduceIte,Nat.reduceEqDiff,O8,P8,Q8,U8,V8,X8,Y8,Z8,o8,x8,y8,C9,D9,E9,F9,G9,I9,J9,L9,N9,O9,P9,Q9,S9,Nat.reduceAdd,D_,E_,F_,G_,H_,U9,V9,I_,J_]
          repeat refine S.seq ?_
          refine S.block ?_
          repeat refine S.seq ?_
          refine S.region ?_
          simp (disch := first | omega | (simp only [G8, O8] <;> omega) | decide) only [O0,U0,X0,Y0,O1,U1,Y1,U2,Y2,x9,y9,A_,B_,C_,J3,O3,Q3,U3,V3,X3,Y3,I4,J4,O4,Q4,U4,V4,X4,Y4,Z4,D5,E5,F5,G5,I5,J5,O5,P5,Q5,U5,V5,X5,Y5,Z5,o5,y5,D6,F6,G6,J6,L6,O6,P6,U6,V6,X6,Y6,o6,A7,D7,F7,G7,I7,J7,N7,O7,P7,Q7,U7,V7,X7,Y7,Z7,l7,o7,y7,A8,D8,E8,F8,G8,I8,J8,L8,N8,↓reduceIte,Nat.reduceEqDiff,O8,P8,Q8,U8,V8,X8,Y8,Z8,o8,x8,y8,C9,D9,E9,F9,G9,I9,J9,L9,N9,O9,P9,Q9,S9,Nat.reduceAdd,D_,E_,F_,G_,H_,U9,V9,I_,J_,t7,t10,indexAddr_sl slI s3' hkn,how.2.1,hgx,p3,rd_max,w_max]
          refine optR_of' (v := iv (max2 0 x)) (call2_congr_c (t' := T.set 74 .leaf 73 (iv x)) (v := iv x) ?_ (by kernel_rfl) (by kernel_rfl)) ?_
          · simp (disch := first | omega | (simp only [G8, O8] <;> omega) | decide) only [O0,U0,X0,Y0,O1,U1,Y1,U2,Y2,x9,y9,A_,B_,C_,J3,O3,Q3,U3,V3,X3,Y3,I4,J4,O4,Q4,U4,V4,X4,Y4,Z4,D5,E5,F5,G5,I5,J5,O5,P5,Q5,U5,V5,X5,Y5,Z5,o5,y5,D6,F6,G6,J6,L6,O6,P6,U6,V6,X6,Y6,o6,A7,D7,F7,G7,I7,J7,N7,O7,P7,Q7,U7,V7,X7,Y7,Z7,l7,o7,y7,A8,D8,E8,F8,G8,I8,J8,L8,N8,↓reduceIte,Nat.reduceEqDiff,O8,P8,Q8,U8,V8,X8,Y8,Z8,o8,x8,y8,C9,D9,E9,F9,G9,I9,J9,L9,N9,O9,P9,Q9,S9,Nat.reduceAdd,D_,E_,F_,G_,H_,U9,V9,I_,J_]
          simp (disch := first | omega | (simp only [G8, O8] <;> omega) | decide) only [O0,U0,X0,Y0,O1,U1,Y1,U2,Y2,x9,y9,A_,B_,C_,J3,O3,Q3,U3,V3,X3,Y3,I4,J4,O4,Q4,U4,V4,X4,Y4,Z4,D5,E5,F5,G5,I5,J5,O5,P5,Q5,U5,V5,X5,Y5,Z5,o5,y5,D6,F6,G6,J6,L6,O6,P6,U6,V6,X6,Y6,o6,A7,D7,F7,G7,I7,J7,N7,O7,P7,Q7,U7,V7,X7,Y7,Z7,l7,o7,y7,A8,D8,E8,F8,G8,I8,J8,L8,N8,↓reduceIte,Nat.reduceEqDiff,O8,P8,Q8,U8,V8,X8,Y8,Z8,o8,x8,y8,C9,D9,E9,F9,G9,I9,J9,L9,N9,O9,P9,Q9,S9,Nat.reduceAdd,D_,E_,F_,G_,H_,U9,V9,I_,J_,t7,t10,indexAddr_sl slI s3' hkn]
          refine wr_store s3' ?_
          simp (disch := first | omega | (simp only [G8, O8] <;> omega) | decide) only [O0,U0,X0,Y0,O1,U1,Y1,U2,Y2,x9,y9,A_,B_,C_,J3,O3,Q3,U3,V3,X3,Y3,I4,J4,O4,Q4,U4,V4,X4,Y4,Z4,D5,E5,F5,G5,I5,J5,O5,P5,Q5,U5,V5,X5,Y5,Z5,o5,y5,D6,F6,G6,J6,L6,O6,P6,U6,V6,X6,Y6,o6,A7,D7,F7,G7,I7,J7,N7,O7,P7,Q7,U7,V7,X7,Y7,Z7,l7,o7,y7,A8,D8,E8,F8,G8,I8,J8,L8,N8,↓reduceIte,Nat.reduceEqDiff,O8,P8,Q8,U8,V8,X8,Y8,Z8,o8,x8,y8,C9,D9,E9,F9,G9,I9,J9,L9,N9,O9,P9,Q9,S9,Nat.reduceAdd,D_,E_,F_,G_,H_,U9,V9,I_,J_,how.2.1,how.2.2,hml]
          repeat refine S.seq ?_
          refine S.region ?_
          simp (disch := first | omega | (simp only [G8, O8] <;> omega) | decide) only [O0,U0,X0,Y0,O1,U1,Y1,U2,Y2,x9,y9,A_,B_,C_,J3,O3,Q3,U3,V3,X3,Y3,I4,J4,O4,Q4,U4,V4,X4,Y4,Z4,D5,E5,F5,G5,I5,J5,O5,P5,Q5,U5,V5,X5,Y5,Z5,o5,y5,D6,F6,G6,J6,L6,O6,P6,U6,V6,X6,Y6,o6,A7,D7,F7,G7,I7,J7,N7,O7,P7,Q7,U7,V7,X7,Y7,Z7,l7,o7,y7,A8,D8,E8,F8,G8,I8,J8,L8,N8,↓reduceIte,Nat.reduceEqDiff,O8,P8,Q8,U8,V8,X8,Y8,Z8,o8,x8,y8,C9,D9,E9,F9,G9,I9,J9,L9,N9,O9,P9,Q9,S9,Nat.reduceAdd,D_,E_,F_,G_,H_,U9,V9,I_,J_,t10]
          refine hn (k + 1) _ _ (by omega) ⟨by omega, hkp.upd (by omega), hBB, by rw [U8 _ _ _ (by omega)]; exact hb2, ?_, ?_, ?_, by rw [← hst]; exact how.upd⟩
          all_goals (first | rfl | (simp (disch := first | omega | (simp only [G8, O8] <;> omega) | decide) only [O0,U0,X0,Y0,O1,U1,Y1,U2,Y2,x9,y9,A_,B_,C_,J3,O3,Q3,U3,V3,X3,Y3,I4,J4,O4,Q4,U4,V4,X4,Y4,Z4,D5,E5,F5,G5,I5,J5,O5,P5,Q5,U5,V5,X5,Y5,Z5,o5,y5,D6,F6,G6,J6,L6,O6,P6,U6,V6,X6,Y6,o6,A7,D7,F7,G7,I7,J7,N7,O7,P7,Q7,U7,V7,X7,Y7,Z7,l7,o7,y7,A8,D8,E8,F8,G8,I8,J8,L8,N8,↓reduceIte,Nat.reduceEqDiff,O8,P8,Q8,U8,V8,X8,Y8,Z8,o8,x8,y8,C9,D9,E9,F9,G9,I9,J9,L9,N9,O9,P9,Q9,S9,Nat.reduceAdd,D_,E_,F_,G_,H_,U9,V9,I_,J_,t3,t7,t10]; done) | (simp (disch := first | omega | (simp only [G8, O8] <;> omega) | decide) only [O0,U0,X0,Y0,O1,U1,Y1,U2,Y2,x9,y9,A_,B_,C_,J3,O3,Q3,U3,V3,X3,Y3,I4,J4,O4,Q4,U4,V4,X4,Y4,Z4,D5,E5,F5,G5,I5,J5,O5,P5,Q5,U5,V5,X5,Y5,Z5,o5,y5,D6,F6,G6,J6,L6,O6,P6,U6,V6,X6,Y6,o6,A7,D7,F7,G7,I7,J7,N7,O7,P7,Q7,U7,V7,X7,Y7,Z7,l7,o7,y7,A8,D8,E8,F8,G8,I8,J8,L8,N8,↓reduceIte,Nat.reduceEqDiff,O8,P8,Q8,U8,V8,X8,Y8,Z8,o8,x8,y8,C9,D9,E9,F9,G9,I9,J9,L9,N9,O9,P9,Q9,S9,Nat.reduceAdd,D_,E_,F_,G_,H_,U9,V9,I_,J_,t3,t7,t10]; rfl))
        · have hkn : k = n := by have := of_decide_eq_false e; omega
          subst hkn
          rw [← hal', mix_end] at how
          refine S.exit (he _ _ _ _ (fun e => by cases e) ?_)
          simp (disch := first | omega | (simp only [G8, O8] <;> omega) | decide) only [O0,U0,X0,Y0,O1,U1,Y1,U2,Y2,x9,y9,A_,B_,C_,J3,O3,Q3,U3,V3,X3,Y3,I4,J4,O4,Q4,U4,V4,X4,Y4,Z4,D5,E5,F5,G5,I5,J5,O5,P5,Q5,U5,V5,X5,Y5,Z5,o5,y5,D6,F6,G6,J6,L6,O6,P6,U6,V6,X6,Y6,o6,A7,D7,F7,G7,I7,J7,N7,O7,P7,Q7,U7,V7,X7,Y7,Z7,l7,o7,y7,A8,D8,E8,F8,G8,I8,J8,L8,N8,↓reduceIte,Nat.reduceEqDiff,O8,P8,Q8,U8,V8,X8,Y8,Z8,o8,x8,y8,C9,D9,E9,F9,G9,I9,J9,L9,N9,O9,P9,Q9,S9,Nat.reduceAdd,D_,E_,F_,G_,H_,U9,V9,I_,J_]
          repeat refine S.seq ?_
          refine S.region ?_
          simp (disch := first | omega | (simp only [G8, O8] <;> omega) | decide) only [O0,U0,X0,Y0,O1,U1,Y1,U2,Y2,x9,y9,A_,B_,C_,J3,O3,Q3,U3,V3,X3,Y3,I4,J4,O4,Q4,U4,V4,X4,Y4,Z4,D5,E5,F5,G5,I5,J5,O5,P5,Q5,U5,V5,X5,Y5,Z5,o5,y5,D6,F6,G6,J6,L6,O6,P6,U6,V6,X6,Y6,o6,A7,D7,F7,G7,I7,J7,N7,O7,P7,Q7,U7,V7,X7,Y7,Z7,l7,o7,y7,A8,D8,E8,F8,G8,I8,J8,L8,N8,↓reduceIte,Nat.reduceEqDiff,O8,P8,Q8,U8,V8,X8,Y8,Z8,o8,x8,y8,C9,D9,E9,F9,G9,I9,J9,L9,N9,O9,P9,Q9,S9,Nat.reduceAdd,D_,E_,F_,G_,H_,U9,V9,I_,J_,t7]
          refine S.ret ?_
          try simp only [Q4, V4]
          subst hF
          simp only [finish, endMarks]
          rw [show Try.f21.results.toList = [.tmp 6] from rfl]
          simp (disch := first | omega | (simp only [G8, O8] <;> omega) | decide) only [resA, y5, O6, L6, U6, P6, Q8, U8, I8, J8, result1]
          exact hK _ _ hkp (how.at' (by rw [List.length_map, hal']))
      · refine ⟨Nat.zero_le _, hkp, hBB, hb2, ?_, ?_, ?_, by rw [mix_zero, List.map_id]; exact how⟩
        all_goals (first | rfl | (simp (disch := first | omega | (simp only [G8, O8] <;> omega) | decide) only [O0,U0,X0,Y0,O1,U1,Y1,U2,Y2,x9,y9,A_,B_,C_,J3,O3,Q3,U3,V3,X3,Y3,I4,J4,O4,Q4,U4,V4,X4,Y4,Z4,D5,E5,F5,G5,I5,J5,O5,P5,Q5,U5,V5,X5,Y5,Z5,o5,y5,D6,F6,G6,J6,L6,O6,P6,U6,V6,X6,Y6,o6,A7,D7,F7,G7,I7,J7,N7,O7,P7,Q7,U7,V7,X7,Y7,Z7,l7,o7,y7,A8,D8,E8,F8,G8,I8,J8,L8,N8,↓reduceIte,Nat.reduceEqDiff,O8,P8,Q8,U8,V8,X8,Y8,Z8,o8,x8,y8,C9,D9,E9,F9,G9,I9,J9,L9,N9,O9,P9,Q9,S9,Nat.reduceAdd,D_,E_,F_,G_,H_,U9,V9,I_,J_,t3,t7]; done) | (simp (disch := first | omega | (simp only [G8, O8] <;> omega) | decide) only [O0,U0,X0,Y0,O1,U1,Y1,U2,Y2,x9,y9,A_,B_,C_,J3,O3,Q3,U3,V3,X3,Y3,I4,J4,O4,Q4,U4,V4,X4,Y4,Z4,D5,E5,F5,G5,I5,J5,O5,P5,Q5,U5,V5,X5,Y5,Z5,o5,y5,D6,F6,G6,J6,L6,O6,P6,U6,V6,X6,Y6,o6,A7,D7,F7,G7,I7,J7,N7,O7,P7,Q7,U7,V7,X7,Y7,Z7,l7,o7,y7,A8,D8,E8,F8,G8,I8,J8,L8,N8,↓reduceIte,Nat.reduceEqDiff,O8,P8,Q8,U8,V8,X8,Y8,Z8,o8,x8,y8,C9,D9,E9,F9,G9,I9,J9,L9,N9,O9,P9,Q9,S9,Nat.reduceAdd,D_,E_,F_,G_,H_,U9,V9,I_,J_,t3,t7]; rfl))
  · refine ⟨Nat.zero_le _, hk1, hB5, hb2, ?_, ?_, ?_, ?_, ?_, List.replicate n 0, hown, List.length_replicate, bnd_zero n, rfl⟩
    all_goals (first | rfl | (simp (disch := first | omega | (simp only [G8, O8] <;> omega) | decide) only [O0,U0,X0,Y0,O1,U1,Y1,U2,Y2,x9,y9,A_,B_,C_,J3,O3,Q3,U3,V3,X3,Y3,I4,J4,O4,Q4,U4,V4,X4,Y4,Z4,D5,E5,F5,G5,I5,J5,O5,P5,Q5,U5,V5,X5,Y5,Z5,o5,y5,D6,F6,G6,J6,L6,O6,P6,U6,V6,X6,Y6,o6,A7,D7,F7,G7,I7,J7,N7,O7,P7,Q7,U7,V7,X7,Y7,Z7,l7,o7,y7,A8,D8,E8,F8,G8,I8,J8,L8,N8,↓reduceIte,Nat.reduceEqDiff,O8,P8,Q8,U8,V8,X8,Y8,Z8,o8,x8,y8,C9,D9,E9,F9,G9,I9,J9,L9,N9,O9,P9,Q9,S9,Nat.reduceAdd,D_,E_,F_,G_,H_,U9,V9,I_,J_]; done) | (simp (disch := first | omega | (simp only [G8, O8] <;> omega) | decide) only [O0,U0,X0,Y0,O1,U1,Y1,U2,Y2,x9,y9,A_,B_,C_,J3,O3,Q3,U3,V3,X3,Y3,I4,J4,O4,Q4,U4,V4,X4,Y4,Z4,D5,E5,F5,G5,I5,J5,O5,P5,Q5,U5,V5,X5,Y5,Z5,o5,y5,D6,F6,G6,J6,L6,O6,P6,U6,V6,X6,Y6,o6,A7,D7,F7,G7,I7,J7,N7,O7,P7,Q7,U7,V7,X7,Y7,Z7,l7,o7,y7,A8,D8,E8,F8,G8,I8,J8,L8,N8,↓reduceIte,Nat.reduceEqDiff,O8,P8,Q8,U8,V8,X8,Y8,Z8,o8,x8,y8,C9,D9,E9,F9,G9,I9,J9,L9,N9,O9,P9,Q9,S9,Nat.reduceAdd,D_,E_,F_,G_,H_,U9,V9,I_,J_]; rfl))
end Go.Proofs.Rg
