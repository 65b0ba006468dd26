import Derived.Test.YtlneoecgbbbahaaGreatDoorHb5
namespace Go.Proofs
open Go Go.Ev Go.RowKit
set_option linter.unusedSimpArgs false

theorem five {l : List Int} (h : l.length = 5) : ∃ a b c d e, l = [a, b, c, d, e] := by
  match l, h with
  | [a, b, c, d, e], _ => exact ⟨a, b, c, d, e, rfl⟩

theorem tabT0 (m : Int) : (tabH Tryz.prog (tbs pow10V m)).bl.get 0 = some (.tab pow10V) := by simp [tabH, tbs, tabT, T.get_set]
theorem tabT1 (m : Int) : (tabH Tryz.prog (tbs pow10V m)).bl.get 1 = some (.tab [.int .i64 m]) := by simp [tabH, tbs, tabT, T.get_set]
theorem tabNx (m : Int) : (tabH Tryz.prog (tbs pow10V m)).nx = 4 := by show Tryz.prog.globals.size = 4; kernel_rfl

theorem parseText_row (m : Int) (s : ByteArray) (hs : s.size ≤ 1000) : RowT Tryz.prog (tbs pow10V m) 23 [.string s] (parseV (ptL s.data.toList)) := by
  refine rowT_of hmixT primB_sound (tbs_lt m) (fn := Tryz.f23) (c := (Tryz.f23.body).getD .skip) (by kernel_rfl) rfl (by kernel_rfl) rfl rfl (plain_parse _) (fun R S K hK => ?_)
  obtain ⟨a, b, c, d, e, h5⟩ := five (parse_len s.data.toList)
  have hv : parseV (parseL s.data.toList) = .tuple #[.agg ⟨[.int .i64 a, .int .i64 b, .int .i64 c, .int .i64 d, .int .i64 e]⟩, .bool (parseL s.data.toList).2] := by
    unfold parseV; rw [h5]; rfl
  have hw : parseV (ptL s.data.toList) = .tuple #[.agg ⟨[.int .i64 a, .int .i64 b, .int .i64 c, .int .i64 d, .int .i64 e]⟩, .bool ((parseL s.data.toList).2 && isTextB a b e)] := by
    unfold parseV ptL textB; rw [h5]; rfl
  refine parseText_run S (tabH Tryz.prog (tbs pow10V m)) (tabNx m) s a b c d e (parseL s.data.toList).2 (fun h h0 h1 => ?_) (fun h => rfl) K (fun h => ?_)
  · rw [tabT0] at h0
    rw [tabT1] at h1
    rw [← hv]
    show (match tabsOf h with | some _ => bif Nat.ble s.size 1000 then some (parseV (parseL s.data.toList)) else none | none => none) = _
    rw [tabsOf_some h0 h1]
    simp only [Nat.ble_eq_true_of_le hs, cond_true]
  · rw [← hw]; exact hK h

def primC : Prim := ext 23 (fun l h => match l with | [.string s] => (match tabsOf h with | some _ => bif Nat.ble s.size 1000 then some (parseV (ptL s.data.toList)) else none | none => none) | _ => none) primB
theorem primC_sound : PrimSound Tryz.prog primC := by
  refine ext_sound primB_sound fun l h v e => ?_
  split at e
  · rename_i s
    split at e
    · rename_i m hm
      cases hb : Nat.ble s.size 1000 with
      | false => rw [hb] at e; cases e
      | true =>
        rw [hb, cond_true] at e
        cases e
        exact (parseText_row m s (Nat.le_of_ble_eq_true hb)).prim (tbs_lt m) h (tabsOf_eq hm)
    · cases e
  · cases e

/-! ## Value -/
theorem parse_small (s : List UInt8) : ∀ x, x ∈ (parseL s).1 → smallI x := by
  unfold parseL parse3
  cases hb : okParts (Lib.cut s slashB).1 (Lib.cut s slashB).2.1 (Lib.cut s slashB).2.2 with
  | true =>
    simp only [okParts, Bool.and_eq_true, decide_eq_true_eq, List.all_eq_true, List.mem_append] at hb
    have hf : ∀ b, (b ∈ (Lib.cut s slashB).1 ∨ b ∈ (Lib.cut s slashB).2.1) → smallI (fig b) := fun b hm => by
      have := hb.2 b hm
      simp only [sign, Bool.and_eq_true, decide_eq_true_eq] at this
      exact ⟨by unfold fig; omega, by unfold fig; omega⟩
    intro x hx
    simp only [cond_true, figsOf, List.mem_append, List.mem_map, List.mem_replicate, List.mem_singleton] at hx
    rcases hx with (⟨b, hm, rfl⟩ | ⟨_, rfl⟩) | hx
    · exact hf b (.inl hm)
    · exact ⟨by decide, by decide⟩
    · split at hx
      · subst hx
        rw [List.getElem?_map]
        cases hq : (Lib.cut s slashB).2.1[0]? with
        | none => exact ⟨by decide, by decide⟩
        | some b => exact hf b (.inr (List.mem_of_getElem? hq))
      · subst hx; exact ⟨by decide, by decide⟩
  | false =>
    intro x hx
    simp only [cond_false, List.mem_replicate] at hx
    obtain ⟨_, rfl⟩ := hx
    exact ⟨by decide, by decide⟩

def valL (s : List UInt8) : Int × Int := bif (ptL s).2 then (valOf (ptL s).1, 0) else (0, 4)
def valV (x : Int × Int) : Value := .tuple #[.int .i64 x.1, .int .i64 x.2]

variable {pr : Prim} {R : ExT}
set_option maxHeartbeats 4000000 in
theorem value_fn_run (S : Ev.Steps Tryz.prog pr R) (H0 : AHeap) (hH : H0.nx = 4) (s : ByteArray) (a b c d e v : Int) (ok : Bool)
    (hP : pr 23 [.string s] H0 = some (.tuple #[.agg ⟨[.int .i64 a, .int .i64 b, .int .i64 c, .int .i64 d, .int .i64 e]⟩, .bool ok]))
    (hT : ∀ h : AHeap, pr 24 [.agg ⟨[.int .i64 a, .int .i64 b, .int .i64 c, .int .i64 d, .int .i64 e]⟩] h = some (.int .i64 v))
    (K : KV) (hK : ∀ h, K (valV (bif ok then (v, 0) else (0, 4))) h = true) :
    R 15 none ((Tryz.f6.body).getD .skip) (argsT [.string s]) H0 [] (finish Tryz.prog Tryz.f6 K) = true := by
  generalize hF : finish Tryz.prog Tryz.f6 K = KF
  simp only [Tryz.f6, Option.getD_some, argsT, setArgs, fV1_eq, T.setK_eq, id]
  have pf := pfgL (l := [.int .i64 a, .int .i64 b, .int .i64 c, .int .i64 d, .int .i64 e]) rfl
  refine S.seq (S.region ?_)
  simp (disch := omega) only [O0,U0,X0,Y0,O1,U1,Y1,U2,Y2,Y9,Z9,l9,o9,x9,J3,O3,Q3,U3,V3,X3,Y3,I4,J4,O4,Q4,U4,V4,X4,Y4,Z4,D5,E5,F5,G5,H5,I5,J5,O5,P5,Q5,U5,V5,X5,Y5,Z5,o5,y5,D6,F6,G6,H6,J6,L6,O6,P6,U6,V6,X6,Y6,o6,A7,D7,F7,G7,H7,I7,J7,N7,O7,P7,Q7,U7,V7,X7,Y7,Z7,l7,o7,y7,A8,D8,add_get,add_fget,↓reduceIte,Nat.reduceEqDiff,I8,J8,L8,N8,O8,P8,Q8,U8,V8,X8,Y8,Z8,o8,y8,C9,D9,E9,F9,G9,H9,I9,J9,L9,N9,Nat.reduceAdd,y9,A_,B_,C_,D_]
  refine S.seq (S.region ?_)
  simp (disch := omega) only [O0,U0,X0,Y0,O1,U1,Y1,U2,Y2,Y9,Z9,l9,o9,x9,J3,O3,Q3,U3,V3,X3,Y3,I4,J4,O4,Q4,U4,V4,X4,Y4,Z4,D5,E5,F5,G5,H5,I5,J5,O5,P5,Q5,U5,V5,X5,Y5,Z5,o5,y5,D6,F6,G6,H6,J6,L6,O6,P6,U6,V6,X6,Y6,o6,A7,D7,F7,G7,H7,I7,J7,N7,O7,P7,Q7,U7,V7,X7,Y7,Z7,l7,o7,y7,A8,D8,add_get,add_fget,↓reduceIte,Nat.reduceEqDiff,I8,J8,L8,N8,O8,P8,Q8,U8,V8,X8,Y8,Z8,o8,y8,C9,D9,E9,F9,G9,H9,I9,J9,L9,N9,Nat.reduceAdd,y9,A_,B_,C_,D_,O9,P9]
  refine wr_prim (fid := 23) (first := #[]) (captured := #[]) (v := .tuple #[.agg ⟨[.int .i64 a, .int .i64 b, .int .i64 c, .int .i64 d, .int .i64 e]⟩, .bool ok]) rfl ?_ ?_
  · simp (disch := omega) only [O0,U0,X0,Y0,O1,U1,Y1,U2,Y2,Y9,Z9,l9,o9,x9,J3,O3,Q3,U3,V3,X3,Y3,I4,J4,O4,Q4,U4,V4,X4,Y4,Z4,D5,E5,F5,G5,H5,I5,J5,O5,P5,Q5,U5,V5,X5,Y5,Z5,o5,y5,D6,F6,G6,H6,J6,L6,O6,P6,U6,V6,X6,Y6,o6,A7,D7,F7,G7,H7,I7,J7,N7,O7,P7,Q7,U7,V7,X7,Y7,Z7,l7,o7,y7,A8,D8,add_get,add_fget,↓reduceIte,Nat.reduceEqDiff,I8,J8,L8,N8,O8,P8,Q8,U8,V8,X8,Y8,Z8,o8,y8,C9,D9,E9,F9,G9,H9,I9,J9,L9,N9,Nat.reduceAdd,y9,A_,B_,C_,D_,O9,P9]
    exact hP
  have x0 : (#[Value.agg ⟨[.int .i64 a, .int .i64 b, .int .i64 c, .int .i64 d, .int .i64 e]⟩, .bool ok] : Array Value)[0]? = some (.agg ⟨[.int .i64 a, .int .i64 b, .int .i64 c, .int .i64 d, .int .i64 e]⟩) := rfl
  have x1 : (#[Value.agg ⟨[.int .i64 a, .int .i64 b, .int .i64 c, .int .i64 d, .int .i64 e]⟩, .bool ok] : Array Value)[1]? = some (.bool ok) := rfl
  simp (disch := omega) only [O0,U0,X0,Y0,O1,U1,Y1,U2,Y2,Y9,Z9,l9,o9,x9,J3,O3,Q3,U3,V3,X3,Y3,I4,J4,O4,Q4,U4,V4,X4,Y4,Z4,D5,E5,F5,G5,H5,I5,J5,O5,P5,Q5,U5,V5,X5,Y5,Z5,o5,y5,D6,F6,G6,H6,J6,L6,O6,P6,U6,V6,X6,Y6,o6,A7,D7,F7,G7,H7,I7,J7,N7,O7,P7,Q7,U7,V7,X7,Y7,Z7,l7,o7,y7,A8,D8,add_get,add_fget,↓reduceIte,Nat.reduceEqDiff,I8,J8,L8,N8,O8,P8,Q8,U8,V8,X8,Y8,Z8,o8,y8,C9,D9,E9,F9,G9,H9,I9,J9,L9,N9,Nat.reduceAdd,y9,A_,B_,C_,D_,x0,x1,wzfg zfg,hH]
  refine wr_storeN (B := 4) (c := zer) (fam := 4) (k := 4) (l := [.int .i64 a, .int .i64 b, .int .i64 c, .int .i64 d, .int .i64 e]) (by simp (disch := omega) only [O0,U0,X0,Y0,O1,U1,Y1,U2,Y2,Y9,Z9,l9,o9,x9,J3,O3,Q3,U3,V3,X3,Y3,I4,J4,O4,Q4,U4,V4,X4,Y4,Z4,D5,E5,F5,G5,H5,I5,J5,O5,P5,Q5,U5,V5,X5,Y5,Z5,o5,y5,D6,F6,G6,H6,J6,L6,O6,P6,U6,V6,X6,Y6,o6,A7,D7,F7,G7,H7,I7,J7,N7,O7,P7,Q7,U7,V7,X7,Y7,Z7,l7,o7,y7,A8,D8,add_get,add_fget,↓reduceIte,Nat.reduceEqDiff,I8,J8,L8,N8,O8,P8,Q8,U8,V8,X8,Y8,Z8,o8,y8,C9,D9,E9,F9,G9,H9,I9,J9,L9,N9,Nat.reduceAdd,y9,A_,B_,C_,D_]) (by simp (disch := omega) only [O0,U0,X0,Y0,O1,U1,Y1,U2,Y2,Y9,Z9,l9,o9,x9,J3,O3,Q3,U3,V3,X3,Y3,I4,J4,O4,Q4,U4,V4,X4,Y4,Z4,D5,E5,F5,G5,H5,I5,J5,O5,P5,Q5,U5,V5,X5,Y5,Z5,o5,y5,D6,F6,G6,H6,J6,L6,O6,P6,U6,V6,X6,Y6,o6,A7,D7,F7,G7,H7,I7,J7,N7,O7,P7,Q7,U7,V7,X7,Y7,Z7,l7,o7,y7,A8,D8,add_get,add_fget,↓reduceIte,Nat.reduceEqDiff,I8,J8,L8,N8,O8,P8,Q8,U8,V8,X8,Y8,Z8,o8,y8,C9,D9,E9,F9,G9,H9,I9,J9,L9,N9,Nat.reduceAdd,y9,A_,B_,C_,D_]) sfg (by omega) rfl (by simp (disch := omega) only [O0,U0,X0,Y0,O1,U1,Y1,U2,Y2,Y9,Z9,l9,o9,x9,J3,O3,Q3,U3,V3,X3,Y3,I4,J4,O4,Q4,U4,V4,X4,Y4,Z4,D5,E5,F5,G5,H5,I5,J5,O5,P5,Q5,U5,V5,X5,Y5,Z5,o5,y5,D6,F6,G6,H6,J6,L6,O6,P6,U6,V6,X6,Y6,o6,A7,D7,F7,G7,H7,I7,J7,N7,O7,P7,Q7,U7,V7,X7,Y7,Z7,l7,o7,y7,A8,D8,add_get,add_fget,↓reduceIte,Nat.reduceEqDiff,I8,J8,L8,N8,O8,P8,Q8,U8,V8,X8,Y8,Z8,o8,y8,C9,D9,E9,F9,G9,H9,I9,J9,L9,N9,Nat.reduceAdd,y9,A_,B_,C_,D_,hH]; rfl) (by simp (disch := omega) only [O0,U0,X0,Y0,O1,U1,Y1,U2,Y2,Y9,Z9,l9,o9,x9,J3,O3,Q3,U3,V3,X3,Y3,I4,J4,O4,Q4,U4,V4,X4,Y4,Z4,D5,E5,F5,G5,H5,I5,J5,O5,P5,Q5,U5,V5,X5,Y5,Z5,o5,y5,D6,F6,G6,H6,J6,L6,O6,P6,U6,V6,X6,Y6,o6,A7,D7,F7,G7,H7,I7,J7,N7,O7,P7,Q7,U7,V7,X7,Y7,Z7,l7,o7,y7,A8,D8,add_get,add_fget,↓reduceIte,Nat.reduceEqDiff,I8,J8,L8,N8,O8,P8,Q8,U8,V8,X8,Y8,Z8,o8,y8,C9,D9,E9,F9,G9,H9,I9,J9,L9,N9,Nat.reduceAdd,y9,A_,B_,C_,D_,hH]) rfl ?_
  simp (disch := omega) only [O0,U0,X0,Y0,O1,U1,Y1,U2,Y2,Y9,Z9,l9,o9,x9,J3,O3,Q3,U3,V3,X3,Y3,I4,J4,O4,Q4,U4,V4,X4,Y4,Z4,D5,E5,F5,G5,H5,I5,J5,O5,P5,Q5,U5,V5,X5,Y5,Z5,o5,y5,D6,F6,G6,H6,J6,L6,O6,P6,U6,V6,X6,Y6,o6,A7,D7,F7,G7,H7,I7,J7,N7,O7,P7,Q7,U7,V7,X7,Y7,Z7,l7,o7,y7,A8,D8,add_get,add_fget,↓reduceIte,Nat.reduceEqDiff,I8,J8,L8,N8,O8,P8,Q8,U8,V8,X8,Y8,Z8,o8,y8,C9,D9,E9,F9,G9,H9,I9,J9,L9,N9,Nat.reduceAdd,y9,A_,B_,C_,D_]
  refine S.seq (S.seq (S.region ?_))
  simp (disch := omega) only [O0,U0,X0,Y0,O1,U1,Y1,U2,Y2,Y9,Z9,l9,o9,x9,J3,O3,Q3,U3,V3,X3,Y3,I4,J4,O4,Q4,U4,V4,X4,Y4,Z4,D5,E5,F5,G5,H5,I5,J5,O5,P5,Q5,U5,V5,X5,Y5,Z5,o5,y5,D6,F6,G6,H6,J6,L6,O6,P6,U6,V6,X6,Y6,o6,A7,D7,F7,G7,H7,I7,J7,N7,O7,P7,Q7,U7,V7,X7,Y7,Z7,l7,o7,y7,A8,D8,add_get,add_fget,↓reduceIte,Nat.reduceEqDiff,I8,J8,L8,N8,O8,P8,Q8,U8,V8,X8,Y8,Z8,o8,y8,C9,D9,E9,F9,G9,H9,I9,J9,L9,N9,Nat.reduceAdd,y9,A_,B_,C_,D_,V7]
  cases ok with
  | true =>
    refine S.cond (v := false) (by simp (disch := omega) only [O0,U0,X0,Y0,O1,U1,Y1,U2,Y2,Y9,Z9,l9,o9,x9,J3,O3,Q3,U3,V3,X3,Y3,I4,J4,O4,Q4,U4,V4,X4,Y4,Z4,D5,E5,F5,G5,H5,I5,J5,O5,P5,Q5,U5,V5,X5,Y5,Z5,o5,y5,D6,F6,G6,H6,J6,L6,O6,P6,U6,V6,X6,Y6,o6,A7,D7,F7,G7,H7,I7,J7,N7,O7,P7,Q7,U7,V7,X7,Y7,Z7,l7,o7,y7,A8,D8,add_get,add_fget,↓reduceIte,Nat.reduceEqDiff,I8,J8,L8,N8,O8,P8,Q8,U8,V8,X8,Y8,Z8,o8,y8,C9,D9,E9,F9,G9,H9,I9,J9,L9,N9,Nat.reduceAdd,y9,A_,B_,C_,D_]; rfl) (fun e => by cases e) (fun _ => ?_)
    refine S.skip ?_
    simp (disch := omega) only [O0,U0,X0,Y0,O1,U1,Y1,U2,Y2,Y9,Z9,l9,o9,x9,J3,O3,Q3,U3,V3,X3,Y3,I4,J4,O4,Q4,U4,V4,X4,Y4,Z4,D5,E5,F5,G5,H5,I5,J5,O5,P5,Q5,U5,V5,X5,Y5,Z5,o5,y5,D6,F6,G6,H6,J6,L6,O6,P6,U6,V6,X6,Y6,o6,A7,D7,F7,G7,H7,I7,J7,N7,O7,P7,Q7,U7,V7,X7,Y7,Z7,l7,o7,y7,A8,D8,add_get,add_fget,↓reduceIte,Nat.reduceEqDiff,I8,J8,L8,N8,O8,P8,Q8,U8,V8,X8,Y8,Z8,o8,y8,C9,D9,E9,F9,G9,H9,I9,J9,L9,N9,Nat.reduceAdd,y9,A_,B_,C_,D_]
    refine S.seq (S.region ?_)
    simp (disch := omega) only [O0,U0,X0,Y0,O1,U1,Y1,U2,Y2,Y9,Z9,l9,o9,x9,J3,O3,Q3,U3,V3,X3,Y3,I4,J4,O4,Q4,U4,V4,X4,Y4,Z4,D5,E5,F5,G5,H5,I5,J5,O5,P5,Q5,U5,V5,X5,Y5,Z5,o5,y5,D6,F6,G6,H6,J6,L6,O6,P6,U6,V6,X6,Y6,o6,A7,D7,F7,G7,H7,I7,J7,N7,O7,P7,Q7,U7,V7,X7,Y7,Z7,l7,o7,y7,A8,D8,add_get,add_fget,↓reduceIte,Nat.reduceEqDiff,I8,J8,L8,N8,O8,P8,Q8,U8,V8,X8,Y8,Z8,o8,y8,C9,D9,E9,F9,G9,H9,I9,J9,L9,N9,Nat.reduceAdd,y9,A_,B_,C_,D_,pf,O9,P9]
    refine wr_prim (fid := 24) (first := #[]) (captured := #[]) (v := .int .i64 v) rfl ?_ ?_
    · simp (disch := omega) only [O0,U0,X0,Y0,O1,U1,Y1,U2,Y2,Y9,Z9,l9,o9,x9,J3,O3,Q3,U3,V3,X3,Y3,I4,J4,O4,Q4,U4,V4,X4,Y4,Z4,D5,E5,F5,G5,H5,I5,J5,O5,P5,Q5,U5,V5,X5,Y5,Z5,o5,y5,D6,F6,G6,H6,J6,L6,O6,P6,U6,V6,X6,Y6,o6,A7,D7,F7,G7,H7,I7,J7,N7,O7,P7,Q7,U7,V7,X7,Y7,Z7,l7,o7,y7,A8,D8,add_get,add_fget,↓reduceIte,Nat.reduceEqDiff,I8,J8,L8,N8,O8,P8,Q8,U8,V8,X8,Y8,Z8,o8,y8,C9,D9,E9,F9,G9,H9,I9,J9,L9,N9,Nat.reduceAdd,y9,A_,B_,C_,D_,O9,P9]
      exact hT _
    simp (disch := omega) only [O0,U0,X0,Y0,O1,U1,Y1,U2,Y2,Y9,Z9,l9,o9,x9,J3,O3,Q3,U3,V3,X3,Y3,I4,J4,O4,Q4,U4,V4,X4,Y4,Z4,D5,E5,F5,G5,H5,I5,J5,O5,P5,Q5,U5,V5,X5,Y5,Z5,o5,y5,D6,F6,G6,H6,J6,L6,O6,P6,U6,V6,X6,Y6,o6,A7,D7,F7,G7,H7,I7,J7,N7,O7,P7,Q7,U7,V7,X7,Y7,Z7,l7,o7,y7,A8,D8,add_get,add_fget,↓reduceIte,Nat.reduceEqDiff,I8,J8,L8,N8,O8,P8,Q8,U8,V8,X8,Y8,Z8,o8,y8,C9,D9,E9,F9,G9,H9,I9,J9,L9,N9,Nat.reduceAdd,y9,A_,B_,C_,D_]
    refine S.ret ?_
    try simp only [Q4, V4]
    subst hF
    simp only [finish, endMarks]
    rw [show Tryz.f6.results.toList = [.tmp 2, .tmp 3] from rfl]
    simp (disch := omega) only [resA, o5, J6, H6, O6, L6, L8, N8, add_get, result1]
    exact hK _
  | false =>
    refine S.cond (v := true) (by simp (disch := omega) only [O0,U0,X0,Y0,O1,U1,Y1,U2,Y2,Y9,Z9,l9,o9,x9,J3,O3,Q3,U3,V3,X3,Y3,I4,J4,O4,Q4,U4,V4,X4,Y4,Z4,D5,E5,F5,G5,H5,I5,J5,O5,P5,Q5,U5,V5,X5,Y5,Z5,o5,y5,D6,F6,G6,H6,J6,L6,O6,P6,U6,V6,X6,Y6,o6,A7,D7,F7,G7,H7,I7,J7,N7,O7,P7,Q7,U7,V7,X7,Y7,Z7,l7,o7,y7,A8,D8,add_get,add_fget,↓reduceIte,Nat.reduceEqDiff,I8,J8,L8,N8,O8,P8,Q8,U8,V8,X8,Y8,Z8,o8,y8,C9,D9,E9,F9,G9,H9,I9,J9,L9,N9,Nat.reduceAdd,y9,A_,B_,C_,D_]; rfl) (fun _ => ?_) (fun e => by cases e)
    refine S.seq (S.region ?_)
    simp (disch := omega) only [O0,U0,X0,Y0,O1,U1,Y1,U2,Y2,Y9,Z9,l9,o9,x9,J3,O3,Q3,U3,V3,X3,Y3,I4,J4,O4,Q4,U4,V4,X4,Y4,Z4,D5,E5,F5,G5,H5,I5,J5,O5,P5,Q5,U5,V5,X5,Y5,Z5,o5,y5,D6,F6,G6,H6,J6,L6,O6,P6,U6,V6,X6,Y6,o6,A7,D7,F7,G7,H7,I7,J7,N7,O7,P7,Q7,U7,V7,X7,Y7,Z7,l7,o7,y7,A8,D8,add_get,add_fget,↓reduceIte,Nat.reduceEqDiff,I8,J8,L8,N8,O8,P8,Q8,U8,V8,X8,Y8,Z8,o8,y8,C9,D9,E9,F9,G9,H9,I9,J9,L9,N9,Nat.reduceAdd,y9,A_,B_,C_,D_]
    refine S.ret ?_
    try simp only [Q4, V4]
    subst hF
    simp only [finish, endMarks]
    rw [show Tryz.f6.results.toList = [.tmp 2, .tmp 3] from rfl]
    simp (disch := omega) only [resA, o5, J6, H6, O6, L6, L8, N8, add_get, result1]
    exact hK _

theorem value_row (m : Int) (s : ByteArray) (hs : s.size ≤ 1000) : RowT Tryz.prog (tbs pow10V m) 6 [.string s] (valV (valL s.data.toList)) := by
  refine rowT_of hmixT primC_sound (tbs_lt m) (fn := Tryz.f6) (c := (Tryz.f6.body).getD .skip) (by kernel_rfl) rfl (by kernel_rfl) rfl rfl rfl (fun R S K hK => ?_)
  have hsm := parse_small s.data.toList
  obtain ⟨a, b, c, d, e, h5⟩ := five (parse_len s.data.toList)
  have hv : parseV (ptL s.data.toList) = .tuple #[.agg ⟨[.int .i64 a, .int .i64 b, .int .i64 c, .int .i64 d, .int .i64 e]⟩, .bool (ptL s.data.toList).2] := by
    unfold parseV ptL; rw [h5]; rfl
  refine value_fn_run S (tabH Tryz.prog (tbs pow10V m)) (tabNx m) s a b c d e (valOf (ptL s.data.toList).1) (ptL s.data.toList).2 ?_ (fun h => ?_) K hK
  · rw [← hv]
    show (match tabsOf (tabH Tryz.prog (tbs pow10V m)) with | some _ => bif Nat.ble s.size 1000 then some (parseV (ptL s.data.toList)) else none | none => none) = _
    rw [tabsOf_some (tabT0 m) (tabT1 m)]
    simp only [Nat.ble_eq_true_of_le hs, cond_true]
  · have hall : [a, b, c, d, e].all smallB = true := by
      rw [h5] at hsm
      refine List.all_eq_true.2 fun x hx => ?_
      obtain ⟨h1, h2⟩ := hsm x hx
      simp only [smallB, leI_eq, Bool.and_eq_true, decide_eq_true_eq]
      exact ⟨h1, h2⟩
    show (bif Nat.beq [a, b, c, d, e].length 5 && [a, b, c, d, e].all smallB then some (Value.int .i64 (valOf [a, b, c, d, e])) else none) = _
    rw [hall]
    show (some (Value.int .i64 (valOf [a, b, c, d, e])) : Option Value) = _
    unfold ptL
    rw [h5]
end Go.Proofs
