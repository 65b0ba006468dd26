import Derived.Test.YtemmpnipmklacaaRpI
namespace Go.Proofs.Rg
open Go Go.Ev
set_option linter.unusedSimpArgs false

/-! ## What the rings make up -/
def mus (cs : List C4) (am : Int) : List Int → List Int → Option (List Int)
  | off, [] => some off
  | off, i :: l => bif decide ((cAt cs i).2.2.1 - off.getD i.toNat 0 < am) then none else mus cs am (addAt off i.toNat am) l
def mu (cs : List C4) : List Int → List R2 → Option (List Int)
  | off, [] => some off
  | off, r :: rl => (mus cs r.2 off r.1).bind fun o => mu cs o rl
def BO (off : List Int) : Prop := ∀ i : Nat, 0 ≤ off.getD i 0 ∧ off.getD i 0 ≤ 100
theorem BO.add {off : List Int} (k : BO off) {i : Nat} {d : Int} (h0 : 0 ≤ off.getD i 0 + d) (h1 : off.getD i 0 + d ≤ 100) : BO (addAt off i d) := fun j => by
  unfold addAt
  by_cases e : i = j
  · subst e
    by_cases hl : i < off.length
    · rw [List.getD_eq_getElem?_getD, List.getElem?_set_self hl]; exact ⟨h0, h1⟩
    · rw [List.getD_eq_getElem?_getD, List.getElem?_eq_none (by rw [List.length_set]; omega)]; decide
  · rw [List.getD_eq_getElem?_getD, List.getElem?_set_ne e, ← List.getD_eq_getElem?_getD]; exact k j
theorem BO.zero (n : Nat) : BO (List.replicate n 0) := fun i => by
  rw [List.getD_eq_getElem?_getD, List.getElem?_replicate]
  split <;> decide
variable {pr : Prim} {R : ExT}
def IMo (cs : List C4) (rl : List R2) (n : Nat) (cv rv : Value) (H : AHeap) (B6 : Nat) (p : Nat × List Int) (t : T Value) (h : AHeap) : Prop :=
  p.1 ≤ rl.length ∧ Kp H h ∧ Own h B6 p.2 ∧ p.2.length = cs.length ∧ BO p.2 ∧ mu cs (List.replicate cs.length 0) rl = mu cs p.2 (rl.drop p.1) ∧ H.nx < h.nx ∧ h.bl.get H.nx = some (.cells [iv (n : Int), cv] H.nx false) ∧
  tget t 2 = ptr0 H.nx ∧ tget t 6 = .slice (some ⟨B6, 0, none⟩) cs.length cs.length ∧ tget t 15 = rv ∧ tget t 16 = iv (rl.length : Int) ∧ tget t 17 = iv (p.1 : Int)
def IMi (cs : List C4) (l : List Int) (am : Int) (off : List Int) (k m : Nat) (n : Nat) (cv rv s : Value) (H : AHeap) (B6 B8 : Nat) (p : Nat × List Int) (t : T Value) (h : AHeap) : Prop :=
  p.1 ≤ l.length ∧ Kp H h ∧ Own h B6 p.2 ∧ p.2.length = cs.length ∧ BO p.2 ∧ mus cs am off l = mus cs am p.2 (l.drop p.1) ∧ H.nx < h.nx ∧ h.bl.get H.nx = some (.cells [iv (n : Int), cv] H.nx false) ∧ B8 < h.nx ∧ h.bl.get B8 = some (.cells [s, iv am] B8 false) ∧
  tget t 2 = ptr0 H.nx ∧ tget t 6 = .slice (some ⟨B6, 0, none⟩) cs.length cs.length ∧ tget t 8 = ptr0 B8 ∧ tget t 15 = rv ∧ tget t 16 = iv (m : Int) ∧ tget t 17 = iv (k : Int) ∧ tget t 22 = s ∧ tget t 23 = iv (l.length : Int) ∧ tget t 24 = iv (p.1 : Int)
def madeP (cs : List C4) (rl : List R2) (u : Value) (h : AHeap) : Prop :=
  match mu cs (List.replicate cs.length 0) rl with
  | none => ∃ v, u = .tuple ⟨[v, .bool false]⟩
  | some off => ∃ v, u = .tuple ⟨[v, .bool true]⟩ ∧ IAt h v off ∧ off.length = cs.length ∧ BO off
set_option maxHeartbeats 16000000 in
theorem madeUp_y (S : Ev.Steps Try.prog pr R) (h0 : AHeap) (n : Nat) (cv : Value) (cs : List C4) (hc : CAt h0 cv cs) (hsz : cs.length ≤ 12) (hv : Hs n cs) (rv : Value) (rl : List R2) (hr : RA IAt h0 rv rl) (hsr : rl.length ≤ 10) (hr8 : ∀ r, r ∈ rl → r.1.length ≤ 8) (hri : ∀ r, r ∈ rl → 1 ≤ r.2 ∧ r.1.all (inC cs) = true) :
    Brings Try.prog R 55 [.agg ⟨[iv (n : Int), cv]⟩, rv] h0 fun u h => madeP cs rl u h := by
  refine brings_of (fn := Try.f55) (c := (Try.f55.body).getD .skip) (by kernel_rfl) rfl (by kernel_rfl) rfl (fun K hK => ?_)
  generalize hF : finish Try.prog Try.f55 K = KF
  simp only [Try.f55, Option.getD_some, argsT, setArgs, fV1_eq, T.setK_eq, id]
  have hlen := fun t h1 o => hc.len isB t h1 o
  have hlr := fun t h1 o => hr.len isRp t h1 o
  repeat refine S.seq ?_
  refine S.region ?_
  simp (disch := first | omega | (simp only [add_nx, upd_nx, res_nx, putAt_nx] <;> omega) | decide) only [rUz, ↓reduceIte, Nat.reduceEqDiff, Nat.reduceAdd]
  repeat refine S.seq ?_
  refine S.region ?_
  simp (disch := first | omega | (simp only [add_nx, upd_nx, res_nx, putAt_nx] <;> omega) | decide) only [rUz, ↓reduceIte, Nat.reduceEqDiff, Nat.reduceAdd, fieldAddr_ptr fB1 sBc, pBc, hlen, w_makeSlice]
  refine wr_makeInts (k := cs.length) slI info3 z3 info3b info3s (by simp (disch := first | omega | (simp only [add_nx, upd_nx, res_nx, putAt_nx] <;> omega) | decide) only [rUz, ↓reduceIte, Nat.reduceEqDiff, Nat.reduceAdd]) (by simp (disch := first | omega | (simp only [add_nx, upd_nx, res_nx, putAt_nx] <;> omega) | decide) only [rUz, ↓reduceIte, Nat.reduceEqDiff, Nat.reduceAdd]) (by omega) (fun hown => ?_)
  have hk1 : Kp h0 ((h0.add [iv (n : Int), cv]).add ((List.replicate cs.length 0).map iv)) := Kp.refl.add.add
  have hb2 : ((h0.add [iv (n : Int), cv]).add ((List.replicate cs.length 0).map iv)).bl.get h0.nx = some (.cells [iv (n : Int), cv] h0.nx false) := by rw [ag_ne (by show h0.nx ≠ h0.nx + 1; omega)]; exact ag_eq rfl
  simp (disch := first | omega | (simp only [add_nx, upd_nx, res_nx, putAt_nx] <;> omega) | decide) only [rUz, ↓reduceIte, Nat.reduceEqDiff, Nat.reduceAdd]
  have hB5 : h0.nx < h0.nx + 1 := Nat.lt_succ_self _
  have hlt : h0.nx < ((h0.add [iv (n : Int), cv]).add ((List.replicate cs.length 0).map iv)).nx := by show h0.nx < h0.nx + 1 + 1; omega
  rw [add_nx] at hown
  generalize ((h0.add [iv (n : Int), cv]).add ((List.replicate cs.length 0).map iv)) = H1 at hown hk1 hb2 hlt ⊢
  generalize h0.nx + 1 = B6 at hown hB5 ⊢
  repeat refine S.seq ?_
  refine S.region ?_
  simp (disch := first | omega | (simp only [add_nx, upd_nx, res_nx, putAt_nx] <;> omega) | decide) only [rUz, ↓reduceIte, Nat.reduceEqDiff, Nat.reduceAdd, hlr]
  repeat refine S.seq ?_
  refine S.block ?_
  refine S.loop (ι := Nat × List Int) (IMo cs rl n cv rv h0 B6) (fun p => rl.length - p.1) ?_ (0, List.replicate cs.length 0) _ _ ?_
  · rintro ⟨k, off⟩ t h ⟨hk0, hkp, hof, hol, hbo, hmu, hnx, hb2, t2, t6, t15, t16, t17⟩ K' hn he
    dsimp only at hk0 hof hol hbo hmu t17
    repeat refine S.seq ?_
    refine S.region ?_
    simp (disch := first | omega | (simp only [add_nx, upd_nx, res_nx, putAt_nx] <;> omega) | decide) only [rUz, ↓reduceIte, Nat.reduceEqDiff, Nat.reduceAdd, t16, t17]
    repeat refine S.seq ?_
    refine S.cond (v := decide ((k : Int) < (rl.length : Int))) (by first | rfl | (simp (disch := first | omega | (simp only [add_nx, upd_nx, res_nx, putAt_nx] <;> omega) | decide) only [rUz, ↓reduceIte, Nat.reduceEqDiff, Nat.reduceAdd] <;> rfl)) (fun e => ?_) (fun e => ?_)
    · have hkn : k < rl.length := by have := of_decide_eq_true e; omega
      clear e
      have hps : rl[k]? = some rl[k] := List.getElem?_eq_getElem hkn
      have hmem : rl[k] ∈ rl := List.getElem_mem hkn
      rw [List.drop_eq_getElem_cons hkn] at hmu
      generalize rl[k] = r at hps hmem hmu
      have hr8' := hr8 r hmem
      obtain ⟨ham, hin⟩ := hri r hmem
      obtain ⟨b, f, ro, cells, s, q1, q2, q3, q4, q5, q6, q7, q8⟩ := hr.idx slRp sRp hps
      have q3 := (hkp.get q2).trans q3
      have qp := part_rc pRp q4 q5
      have hls := fun t h1 o => q8.len isI t h1 o
      repeat refine S.seq ?_
      refine S.skip ?_
      simp (disch := first | omega | (simp only [add_nx, upd_nx, res_nx, putAt_nx] <;> omega) | decide) only [rUz, ↓reduceIte, Nat.reduceEqDiff, Nat.reduceAdd]
      repeat refine S.seq ?_
      refine S.block ?_
      --IN
      repeat refine S.seq ?_
      refine S.region ?_
      simp (disch := first | omega | (simp only [add_nx, upd_nx, res_nx, putAt_nx] <;> omega) | decide) only [rUz, ↓reduceIte, Nat.reduceEqDiff, Nat.reduceAdd, t15, t17, q1, q3, qp, wr_alloc zRp]
      refine wr_storeN (B := h.nx) (c := [.slice none 0 0, iv 0]) (fam := h.nx) (k := h.nx) (l := [s, iv r.2]) (by simp (disch := first | omega | (simp only [add_nx, upd_nx, res_nx, putAt_nx] <;> omega) | decide) only [rUz, ↓reduceIte, Nat.reduceEqDiff, Nat.reduceAdd]) (by simp (disch := first | omega | (simp only [add_nx, upd_nx, res_nx, putAt_nx] <;> omega) | decide) only [rUz, ↓reduceIte, Nat.reduceEqDiff, Nat.reduceAdd]) sRp (by omega) rfl (ag_eq rfl) (af_eq rfl) rfl ?_
      have hk9 : Kp h ((h.add [.slice none 0 0, iv 0]).upd h.nx [s, iv r.2] h.nx) := Kp.refl.add.upd (Nat.le_refl _)
      have hg9 : ((h.add [.slice none 0 0, iv 0]).upd h.nx [s, iv r.2] h.nx).bl.get h.nx = some (.cells [s, iv r.2] h.nx false) := upd_eq _ _ _
      have hlt9 : h.nx < ((h.add [.slice none 0 0, iv 0]).upd h.nx [s, iv r.2] h.nx).nx := Nat.lt_succ_self _
      simp (disch := first | omega | (simp only [add_nx, upd_nx, res_nx, putAt_nx] <;> omega) | decide) only [rUz, ↓reduceIte, Nat.reduceEqDiff, Nat.reduceAdd]
      generalize (h.add [.slice none 0 0, iv 0]).upd h.nx [s, iv r.2] h.nx = h6 at hk9 hg9 hlt9 ⊢
      have hB8 : h0.nx < h.nx ∧ B6 < h.nx := ⟨hnx, hof.1⟩
      generalize h.nx = B8 at hg9 hlt9 hB8 ⊢
      repeat refine S.seq ?_
      refine S.region ?_
      simp (disch := first | omega | (simp only [add_nx, upd_nx, res_nx, putAt_nx] <;> omega) | decide) only [rUz, ↓reduceIte, Nat.reduceEqDiff, Nat.reduceAdd, hg9, fieldAddr_ptr fRp0 sI1, pI1, hls]
      repeat refine S.seq ?_
      refine S.block ?_
      refine S.loop (ι := Nat × List Int) (IMi cs r.1 r.2 off k rl.length n cv rv s h0 B6 B8) (fun p => r.1.length - p.1) ?_ (0, off) _ _ ?_
      · clear t2 t6 t15 t16 t17 hb2 hbo hol hnx hg9 hlt9
        rintro ⟨j, of2⟩ t1 h1 ⟨hj0, hkp1, hof1, hol1, hbo1, hmus, hnx1, hb21, hlt8, hg8, t2, t6, t8, t15, t16, t17, t22, t23, t24⟩ K2 hn2 he2
        dsimp only at hj0 hof1 hol1 hbo1 hmus t24
        repeat refine S.seq ?_
        refine S.region ?_
        simp (disch := first | omega | (simp only [add_nx, upd_nx, res_nx, putAt_nx] <;> omega) | decide) only [rUz, ↓reduceIte, Nat.reduceEqDiff, Nat.reduceAdd, t23, t24]
        repeat refine S.seq ?_
        refine S.cond (v := decide ((j : Int) < (r.1.length : Int))) (by first | rfl | (simp (disch := first | omega | (simp only [add_nx, upd_nx, res_nx, putAt_nx] <;> omega) | decide) only [rUz, ↓reduceIte, Nat.reduceEqDiff, Nat.reduceAdd] <;> rfl)) (fun e => ?_) (fun e => ?_)
        · have hjn : j < r.1.length := by have := of_decide_eq_true e; omega
          clear e
          have hx : r.1[j] ∈ r.1 := List.getElem_mem hjn
          obtain ⟨i, hi, hci⟩ := cAt_get (List.all_eq_true.1 hin _ hx)
          rw [List.drop_eq_getElem_cons hjn] at hmus
          obtain ⟨b', f', ro', v1, v2, v3, v4⟩ := (q8.mono hkp1).idx slI s3' hjn
          generalize r.1[j] = x at hx hi hci hmus v4
          subst hi
          have hni := (List.getElem?_eq_some_iff.1 hci).1
          obtain ⟨b2, fb2, ro2, cells2, w1, w2, w3, w4, w5, w6⟩ := (hc.mono hkp1).idx slB sL hci
          obtain ⟨_, hn1, hn2', _⟩ := hv _ (List.mem_of_getElem? hci)
          rw [mus, Int.toNat_natCast] at hmus
          generalize cAt cs (i : Int) = c at hci w1 w2 w3 w4 w5 w6 hn1 hn2' hmus
          obtain ⟨w7, w8, w9, w10⟩ := w6
          have hoi := hbo1 i
          have hog : (of2.map iv)[i]? = some (iv (of2.getD i 0)) := by rw [pI3 of2 (by omega : i < of2.length), getD_of]
          have hil : i < of2.length := by omega
          repeat refine S.seq ?_
          refine S.skip ?_
          simp (disch := first | omega | (simp only [add_nx, upd_nx, res_nx, putAt_nx] <;> omega) | decide) only [rUz, ↓reduceIte, Nat.reduceEqDiff, Nat.reduceAdd]
          repeat refine S.seq ?_
          refine S.block ?_
          repeat refine S.seq ?_
          refine S.region ?_
          simp (disch := first | omega | (simp only [add_nx, upd_nx, res_nx, putAt_nx] <;> omega) | decide) only [rUz, ↓reduceIte, Nat.reduceEqDiff, Nat.reduceAdd, t22, t24, v1, v3, v4, p3]
          by_cases hgt : c.2.2.1 - of2.getD i 0 < r.2
          · rw [decide_eq_true hgt, cond_true] at hmus
            repeat refine S.seq ?_
            refine S.ordered (by kernel_rfl) (by kernel_rfl) (by kernel_rfl) (by kernel_rfl) ?_
            simp (disch := first | omega | (simp only [add_nx, upd_nx, res_nx, putAt_nx] <;> omega) | decide) only [rUz, ↓reduceIte, Nat.reduceEqDiff, Nat.reduceAdd, t2, t6, t8, hg8, hb21, fieldAddr_ptr fRp1 s3, fieldAddr_ptr fB1 sBc, pBc, fieldAddr_ptr fL2 s3, p3, w1, w3, w9, indexAddr_sl slI s3' hni, hof1.2.1, hog, decide_eq_true hgt]
            repeat refine S.seq ?_
            refine S.cond (v := true) (by first | rfl | (simp (disch := first | omega | (simp only [add_nx, upd_nx, res_nx, putAt_nx] <;> omega) | decide) only [rUz, ↓reduceIte, Nat.reduceEqDiff, Nat.reduceAdd] <;> rfl)) (fun _ => ?_) (fun e => by cases e)
            repeat refine S.seq ?_
            refine S.region ?_
            simp (disch := first | omega | (simp only [add_nx, upd_nx, res_nx, putAt_nx] <;> omega) | decide) only [rUz, ↓reduceIte, Nat.reduceEqDiff, Nat.reduceAdd]
            refine S.ret ?_
            simp only [seqK_ret, blockK_ret]
            refine he2 _ _ _ _ (fun e => by cases e) ?_
            simp only [seqK_ret, blockK_ret]
            refine he _ _ _ _ (fun e => by cases e) ?_
            simp only [seqK_ret, blockK_ret]
            subst hF
            simp only [finish, endMarks]
            rw [show Try.f55.results.toList = [.tmp 4, .tmp 5] from rfl]
            simp (disch := omega) only [resA, ev_tmp, tget_ne, tget_eq, result1]
            refine hK _ _ hkp1 ?_
            unfold madeP
            rw [hmu, mu, hmus, Option.bind_none]
            exact ⟨_, rfl⟩
          · rw [decide_eq_false hgt, cond_false] at hmus
            repeat refine S.seq ?_
            refine S.ordered (by kernel_rfl) (by kernel_rfl) (by kernel_rfl) (by kernel_rfl) ?_
            simp (disch := first | omega | (simp only [add_nx, upd_nx, res_nx, putAt_nx] <;> omega) | decide) only [rUz, ↓reduceIte, Nat.reduceEqDiff, Nat.reduceAdd, t2, t6, t8, hg8, hb21, fieldAddr_ptr fRp1 s3, fieldAddr_ptr fB1 sBc, pBc, fieldAddr_ptr fL2 s3, p3, w1, w3, w9, indexAddr_sl slI s3' hni, hof1.2.1, hog, decide_eq_false hgt]
            repeat refine S.seq ?_
            refine S.cond (v := false) (by first | rfl | (simp (disch := first | omega | (simp only [add_nx, upd_nx, res_nx, putAt_nx] <;> omega) | decide) only [rUz, ↓reduceIte, Nat.reduceEqDiff, Nat.reduceAdd] <;> rfl)) (fun e => by cases e) (fun _ => ?_)
            repeat refine S.seq ?_
            refine S.skip ?_
            simp (disch := first | omega | (simp only [add_nx, upd_nx, res_nx, putAt_nx] <;> omega) | decide) only [rUz, ↓reduceIte, Nat.reduceEqDiff, Nat.reduceAdd]
            have hst : (of2.map iv).set i (iv (of2.getD i 0 + r.2)) = (addAt of2 i r.2).map iv := by rw [addAt, List.map_set]
            have hnn := addAt_len of2 i r.2
            have hbo2 : BO (addAt of2 i r.2) := hbo1.add (by omega) (by omega)
            repeat refine S.seq ?_
            refine S.drawnL [(false, 0), (false, 0), (false, 3), (false, 7), (false, 0), (false, 16), (false, 63), (false, 127), (true, 255)] (by kernel_rfl) (by kernel_rfl) (by kernel_rfl) ?_
            simp (disch := first | omega | (simp only [add_nx, upd_nx, res_nx, putAt_nx] <;> omega) | decide) only [rUz, ↓reduceIte, Nat.reduceEqDiff, Nat.reduceAdd, rDz, infoL, Nat.reduceSub, t2, t6, t8, hg8, hb21, fieldAddr_ptr fRp1 s3, fieldAddr_ptr fB1 sBc, pBc, fieldAddr_ptr fL2 s3, p3, w1, w3, w9, indexAddr_sl slI s3' hni, hof1.2.1, hog]
            refine drW_store (B := B6) (off := i) (c := of2.map iv) (fam := B6) (k0 := B6) (kd := .i64) (z := of2.getD i 0 + r.2) (by simp (disch := first | omega | (simp only [add_nx, upd_nx, res_nx, putAt_nx] <;> omega) | decide) only [rUz, ↓reduceIte, Nat.reduceEqDiff, Nat.reduceAdd, rDz, infoL, Nat.reduceSub]) (by simp (disch := first | omega | (simp only [add_nx, upd_nx, res_nx, putAt_nx] <;> omega) | decide) only [rUz, ↓reduceIte, Nat.reduceEqDiff, Nat.reduceAdd, rDz, infoL, Nat.reduceSub]) s3' hof1.2.1 hof1.2.2 (by rw [List.length_map]; exact hil) ?_ ?_
            · try simp (disch := first | decide | rfl) only [again_nil, again_skip, again_free]
            rw [hst]
            have hup : Own (h1.upd B6 ((addAt of2 i r.2).map iv) B6) B6 (addAt of2 i r.2) := ⟨hof1.1, upd_eq _ _ _, hof1.2.2⟩
            simp (disch := first | omega | (simp only [add_nx, upd_nx, res_nx, putAt_nx] <;> omega) | decide) only [rUz, ↓reduceIte, Nat.reduceEqDiff, Nat.reduceAdd, rDz, infoL, Nat.reduceSub]
            repeat refine S.seq ?_
            refine S.region ?_
            simp (disch := first | omega | (simp only [add_nx, upd_nx, res_nx, putAt_nx] <;> omega) | decide) only [rUz, ↓reduceIte, Nat.reduceEqDiff, Nat.reduceAdd, t24]
            refine hn2 (j + 1, addAt of2 i r.2) _ _ (by show r.1.length - (j + 1) < r.1.length - j; omega) ⟨hjn, hkp1.upd (by omega), hup, by rw [hnn]; exact hol1, hbo2, hmus, hnx1, ?_, hlt8, ?_, ?_, ?_, ?_, ?_, ?_, ?_, ?_, ?_, ?_⟩
            · rw [upd_ne _ _ _ (by omega)]; exact hb21
            · rw [upd_ne _ _ _ (by omega)]; exact hg8
            all_goals (first | rfl | (simp (disch := first | omega | (simp only [add_nx, upd_nx, res_nx, putAt_nx] <;> omega) | decide) only [rUz, ↓reduceIte, Nat.reduceEqDiff, Nat.reduceAdd, t2, t6, t8, t15, t16, t17, t22, t23, t24]; done) | (simp (disch := first | omega | (simp only [add_nx, upd_nx, res_nx, putAt_nx] <;> omega) | decide) only [rUz, ↓reduceIte, Nat.reduceEqDiff, Nat.reduceAdd, t2, t6, t8, t15, t16, t17, t22, t23, t24]; rfl))
        · have hjn : j = r.1.length := by have := of_decide_eq_false e; omega
          subst hjn
          rw [List.drop_of_length_le (Nat.le_refl _), mus] at hmus
          refine S.exit (he2 _ _ _ _ (fun e => by cases e) ?_)
          simp (disch := first | omega | (simp only [add_nx, upd_nx, res_nx, putAt_nx] <;> omega) | decide) only [rUz, ↓reduceIte, Nat.reduceEqDiff, Nat.reduceAdd]
          repeat refine S.seq ?_
          refine S.region ?_
          simp (disch := first | omega | (simp only [add_nx, upd_nx, res_nx, putAt_nx] <;> omega) | decide) only [rUz, ↓reduceIte, Nat.reduceEqDiff, Nat.reduceAdd, t17]
          refine hn (k + 1, of2) _ _ (by show rl.length - (k + 1) < rl.length - k; omega) ⟨hkn, hkp1, hof1, hol1, hbo1, ?_, hnx1, hb21, ?_, ?_, ?_, ?_, ?_⟩
          · rw [hmu, mu, hmus, Option.bind_some]
          all_goals (first | rfl | (simp (disch := first | omega | (simp only [add_nx, upd_nx, res_nx, putAt_nx] <;> omega) | decide) only [rUz, ↓reduceIte, Nat.reduceEqDiff, Nat.reduceAdd, t2, t6, t15, t16, t17]; done) | (simp (disch := first | omega | (simp only [add_nx, upd_nx, res_nx, putAt_nx] <;> omega) | decide) only [rUz, ↓reduceIte, Nat.reduceEqDiff, Nat.reduceAdd, t2, t6, t15, t16, t17]; rfl))
      · refine ⟨Nat.zero_le _, hkp.trans hk9, hof.mono hk9, hol, hbo, rfl, Nat.lt_of_lt_of_le hnx hk9.1, (hk9.get hnx).trans hb2, hlt9, hg9, ?_, ?_, ?_, ?_, ?_, ?_, ?_, ?_, ?_⟩
        all_goals (first | rfl | (simp (disch := first | omega | (simp only [add_nx, upd_nx, res_nx, putAt_nx] <;> omega) | decide) only [rUz, ↓reduceIte, Nat.reduceEqDiff, Nat.reduceAdd, t2, t6, t15, t16, t17]; done) | (simp (disch := first | omega | (simp only [add_nx, upd_nx, res_nx, putAt_nx] <;> omega) | decide) only [rUz, ↓reduceIte, Nat.reduceEqDiff, Nat.reduceAdd, t2, t6, t15, t16, t17]; rfl))
    · have hkn : k = rl.length := by have := of_decide_eq_false e; omega
      subst hkn
      rw [List.drop_of_length_le (Nat.le_refl _), mu] at hmu
      refine S.exit (he _ _ _ _ (fun e => by cases e) ?_)
      simp (disch := first | omega | (simp only [add_nx, upd_nx, res_nx, putAt_nx] <;> omega) | decide) only [rUz, ↓reduceIte, Nat.reduceEqDiff, Nat.reduceAdd]
      repeat refine S.seq ?_
      refine S.region ?_
      simp (disch := first | omega | (simp only [add_nx, upd_nx, res_nx, putAt_nx] <;> omega) | decide) only [rUz, ↓reduceIte, Nat.reduceEqDiff, Nat.reduceAdd, t6]
      refine S.ret ?_
      try simp only [seqK_ret, blockK_ret]
      subst hF
      simp only [finish, endMarks]
      rw [show Try.f55.results.toList = [.tmp 4, .tmp 5] from rfl]
      simp (disch := first | omega | (simp only [add_nx, upd_nx, res_nx, putAt_nx] <;> omega) | decide) only [resA, ev_tmp, tget_ne, tget_eq, get_ne, get_eq, upd_eq, upd_ne, ag_eq, ag_ne, result1]
      refine hK _ _ hkp ?_
      unfold madeP
      rw [hmu]
      exact ⟨_, rfl, hof.at' hol.symm, hol, hbo⟩
  · refine ⟨Nat.zero_le _, hk1, hown, List.length_replicate, BO.zero _, rfl, hlt, hb2, ?_, ?_, ?_, ?_, ?_⟩
    all_goals (first | rfl | (simp (disch := first | omega | (simp only [add_nx, upd_nx, res_nx, putAt_nx] <;> omega) | decide) only [rUz, ↓reduceIte, Nat.reduceEqDiff, Nat.reduceAdd]; done) | (simp (disch := first | omega | (simp only [add_nx, upd_nx, res_nx, putAt_nx] <;> omega) | decide) only [rUz, ↓reduceIte, Nat.reduceEqDiff, Nat.reduceAdd]; rfl))
end Go.Proofs.Rg
