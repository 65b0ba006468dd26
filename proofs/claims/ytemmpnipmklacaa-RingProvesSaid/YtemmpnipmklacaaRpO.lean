import Derived.Test.YtemmpnipmklacaaRpN
import Derived.Test.YtemmpnipmklacaaRpG
import Derived.Test.YtemmpnipmklacaaRpD
namespace Go.Proofs.Rg
open Go Go.Ev
set_option linter.unusedSimpArgs false
/-! ## What the rings make up, on the other side -/
def ad (am : Int) : List Int → List Int → List Int
  | off, [] => off
  | off, i :: l => ad am (addAt off i.toNat am) l
def ads : List Int → List R2 → List Int
  | off, [] => off
  | off, r :: rl => ads (ad r.2 off r.1) rl
def BM (M : Int) (off : List Int) : Prop := ∀ i : Nat, 0 ≤ off.getD i 0 ∧ off.getD i 0 ≤ M
theorem BM.add {M N : Int} {off : List Int} (k : BM M off) {i : Nat} {d : Int} (h0 : 0 ≤ d) (h1 : M + d ≤ N) (hM : 0 ≤ M) : BM N (addAt off i d) := fun j => by
  unfold addAt
  have := k i
  have := k j
  by_cases e : i = j
  · subst e
    by_cases hl : i < off.length
    · rw [List.getD_eq_getElem?_getD, List.getElem?_set_self hl]; simp only [Option.getD_some]; omega
    · rw [List.getD_eq_getElem?_getD, List.getElem?_eq_none (by rw [List.length_set]; omega)]; simp only [Option.getD_none]; omega
  · rw [List.getD_eq_getElem?_getD, List.getElem?_set_ne e, ← List.getD_eq_getElem?_getD]; omega
theorem BM.zero (n : Nat) : BM 0 (List.replicate n 0) := fun i => by
  rw [List.getD_eq_getElem?_getD, List.getElem?_replicate]
  split <;> decide
theorem BM.le {M N : Int} {off : List Int} (k : BM M off) (h : M ≤ N) : BM N off := fun i => ⟨(k i).1, by have := (k i).2; omega⟩
variable {pr : Prim} {R : ExT}
def rmP (n : Nat) (cs : List C4) (rl : List R2) (u : Value) (h : AHeap) : Prop :=
  match rl.all (irP n cs) with
  | false => ∃ v, u = .tuple ⟨[v, .bool false]⟩
  | true => ∃ v, u = .tuple ⟨[v, .bool (partB cs (ads (List.replicate cs.length 0) rl))]⟩ ∧ IAt h v (ads (List.replicate cs.length 0) rl) ∧ (ads (List.replicate cs.length 0) rl).length = cs.length ∧ BM 8000 (ads (List.replicate cs.length 0) rl)
def IOo (cs : List C4) (rl : List R2) (n : Nat) (cv rv : Value) (H : AHeap) (B6 : Nat) (p : Nat × List Int) (t : T Value) (h : AHeap) : Prop :=
  p.1 ≤ rl.length ∧ Kp H h ∧ Own h B6 p.2 ∧ p.2.length = cs.length ∧ BM (800 * (p.1 : Int)) p.2 ∧ rl.all (irP n cs) = (rl.drop p.1).all (irP n cs) ∧ ads (List.replicate cs.length 0) rl = ads p.2 (rl.drop p.1) ∧ H.nx < h.nx ∧ h.bl.get H.nx = some (.cells [iv (n : Int), cv] H.nx false) ∧
  tget t 1 = rv ∧ tget t 2 = ptr0 H.nx ∧ tget t 6 = .slice (some ⟨B6, 0, none⟩) cs.length cs.length ∧ tget t 7 = iv (p.1 : Int)
def IOi (cs : List C4) (l : List Int) (am : Int) (off : List Int) (k : Nat) (n : Nat) (cv rv : Value) (H : AHeap) (B6 : Nat) (p : Nat × List Int) (t : T Value) (h : AHeap) : Prop :=
  p.1 ≤ l.length ∧ Kp H h ∧ Own h B6 p.2 ∧ p.2.length = cs.length ∧ BM (800 * (k : Int) + 100 * (p.1 : Int)) p.2 ∧ ad am off l = ad am p.2 (l.drop p.1) ∧ H.nx < h.nx ∧ h.bl.get H.nx = some (.cells [iv (n : Int), cv] H.nx false) ∧
  tget t 1 = rv ∧ tget t 2 = ptr0 H.nx ∧ tget t 6 = .slice (some ⟨B6, 0, none⟩) cs.length cs.length ∧ tget t 7 = iv (k : Int) ∧ tget t 8 = iv (p.1 : Int)
theorem irP_of {n : Nat} {cs : List C4} {r : R2} (k : irP n cs r = true) : 1 ≤ r.2 ∧ r.2 ≤ 100 ∧ r.1.all (inC cs) = true := by
  simp only [irP, Bool.and_eq_true, Bool.not_eq_true', Bool.or_eq_false_iff, decide_eq_false_iff_not] at k
  exact ⟨by omega, by omega, k.2.1⟩
set_option maxHeartbeats 32000000 in
theorem made_y (S : Ev.Steps Try.prog pr R) (hoff : Off pr) (h0 : AHeap) (n : Nat) (hn6 : n ≤ 6) (cv : Value) (cs : List C4) (hc : CAt h0 cv cs) (hsz : cs.length ≤ 12) (rv : Value) (rl : List R2) (hr : RA IS h0 rv rl) (hsr : rl.length ≤ 10) (hr8 : ∀ r, r ∈ rl → r.1.length ≤ 8) :
    Brings Try.prog R 34 [.agg ⟨[iv (n : Int), cv]⟩, rv] h0 fun u h => rmP n cs rl u h := by
  refine brings_of (fn := Try.f34) (c := (Try.f34.body).getD .skip) (by kernel_rfl) rfl (by kernel_rfl) rfl (fun K hK => ?_)
  generalize hF : finish Try.prog Try.f34 K = KF
  simp only [Try.f34, Option.getD_some, argsT, setArgs, fV1_eq, T.setK_eq, id]
  have hlen := fun t h1 o => hc.len isA t h1 o
  have hlr := fun t h1 o => hr.len isRr t h1 o
  repeat refine S.seq ?_
  refine S.region ?_
  simp (disch := first | omega | (simp only [add_nx, upd_nx, res_nx, putAt_nx] <;> omega) | decide) only [rUz, ↓reduceIte, Nat.reduceEqDiff, Nat.reduceAdd]
  repeat refine S.seq ?_
  refine S.region ?_
  simp (disch := first | omega | (simp only [add_nx, upd_nx, res_nx, putAt_nx] <;> omega) | decide) only [rUz, ↓reduceIte, Nat.reduceEqDiff, Nat.reduceAdd, fieldAddr_ptr fA1 sAc, pAc, hlen, w_makeSlice]
  refine wr_makeInts (k := cs.length) slI info3 z3 info3b info3s (by simp (disch := first | omega | (simp only [add_nx, upd_nx, res_nx, putAt_nx] <;> omega) | decide) only [rUz, ↓reduceIte, Nat.reduceEqDiff, Nat.reduceAdd]) (by simp (disch := first | omega | (simp only [add_nx, upd_nx, res_nx, putAt_nx] <;> omega) | decide) only [rUz, ↓reduceIte, Nat.reduceEqDiff, Nat.reduceAdd]) (by omega) (fun hown => ?_)
  have hk1 : Kp h0 ((h0.add [iv (n : Int), cv]).add ((List.replicate cs.length 0).map iv)) := Kp.refl.add.add
  have hb2 : ((h0.add [iv (n : Int), cv]).add ((List.replicate cs.length 0).map iv)).bl.get h0.nx = some (.cells [iv (n : Int), cv] h0.nx false) := by rw [ag_ne (by show h0.nx ≠ h0.nx + 1; omega)]; exact ag_eq rfl
  simp (disch := first | omega | (simp only [add_nx, upd_nx, res_nx, putAt_nx] <;> omega) | decide) only [rUz, ↓reduceIte, Nat.reduceEqDiff, Nat.reduceAdd]
  have hB5 : h0.nx < h0.nx + 1 := Nat.lt_succ_self _
  have hlt : h0.nx < ((h0.add [iv (n : Int), cv]).add ((List.replicate cs.length 0).map iv)).nx := by show h0.nx < h0.nx + 1 + 1; omega
  rw [add_nx] at hown
  generalize ((h0.add [iv (n : Int), cv]).add ((List.replicate cs.length 0).map iv)) = H1 at hown hk1 hb2 hlt ⊢
  generalize h0.nx + 1 = B6 at hown hB5 ⊢
  repeat refine S.seq ?_
  refine S.region ?_
  simp (disch := first | omega | (simp only [add_nx, upd_nx, res_nx, putAt_nx] <;> omega) | decide) only [rUz, ↓reduceIte, Nat.reduceEqDiff, Nat.reduceAdd]
  repeat refine S.seq ?_
  refine S.block ?_
  refine S.loop (ι := Nat × List Int) (IOo cs rl n cv rv h0 B6) (fun p => rl.length - p.1) ?_ (0, List.replicate cs.length 0) _ _ ?_
  · rintro ⟨k, off⟩ t h ⟨hk0, hkp, hof, hol, hbo, hall, hads, hnx, hb2, t1, t2, t6, t7⟩ K' hn he
    dsimp only at hk0 hof hol hbo hall hads t7
    repeat refine S.seq ?_
    refine S.region ?_
    simp (disch := first | omega | (simp only [add_nx, upd_nx, res_nx, putAt_nx] <;> omega) | decide) only [rUz, ↓reduceIte, Nat.reduceEqDiff, Nat.reduceAdd, t1, t7, hlr]
    repeat refine S.seq ?_
    refine S.cond (v := decide ((k : Int) < (rl.length : Int))) (by first | rfl | (simp (disch := first | omega | (simp only [add_nx, upd_nx, res_nx, putAt_nx] <;> omega) | decide) only [rUz, ↓reduceIte, Nat.reduceEqDiff, Nat.reduceAdd] <;> rfl)) (fun e => ?_) (fun e => ?_)
    · have hkn : k < rl.length := by have := of_decide_eq_true e; omega
      clear e
      have hps : rl[k]? = some rl[k] := List.getElem?_eq_getElem hkn
      have hmem : rl[k] ∈ rl := List.getElem_mem hkn
      rw [List.drop_eq_getElem_cons hkn] at hads hall
      rw [List.all_cons] at hall
      rw [ads] at hads
      generalize rl[k] = r at hps hmem hads hall
      have hr8' := hr8 r hmem
      obtain ⟨b, f, ro, cells, s, q1, q2, q3, q4, q5, q6, q7, q8⟩ := hr.idx slRr sRr hps
      have qp := part_rc pRr q4 q5
      have hls := fun t h1 o => q8.at.len isI t h1 o
      have q3k := (hkp.get q2).trans q3
      repeat refine S.seq ?_
      refine S.skip ?_
      simp (disch := first | omega | (simp only [add_nx, upd_nx, res_nx, putAt_nx] <;> omega) | decide) only [rUz, ↓reduceIte, Nat.reduceEqDiff, Nat.reduceAdd]
      repeat refine S.seq ?_
      refine S.block ?_
      repeat refine S.seq ?_
      refine S.drawnL [(false, 0), (false, 0), (false, 0), (false, 6), (false, 14), (true, 31), (false, 63)] (by kernel_rfl) (by kernel_rfl) (by kernel_rfl) ?_
      simp (disch := first | omega | (simp only [add_nx, upd_nx, res_nx, putAt_nx] <;> omega) | decide) only [rUz, ↓reduceIte, Nat.reduceEqDiff, Nat.reduceAdd, rDz, infoL, Nat.reduceSub, t1, t2, t7, hb2, pA, q1, q3k, qp]
      --IN1
      refine drW_brings (fid := 59) (first := #[]) (captured := #[]) (Post := fun u _ => u = .bool (irP n cs r)) (by first | rfl | (simp (disch := first | omega | (simp only [add_nx, upd_nx, res_nx, putAt_nx] <;> omega) | decide) only [rUz, ↓reduceIte, Nat.reduceEqDiff, Nat.reduceAdd]; rfl) | (simp (disch := first | omega | (simp only [add_nx, upd_nx, res_nx, putAt_nx] <;> omega) | decide) only [rUz, ↓reduceIte, Nat.reduceEqDiff, Nat.reduceAdd])) (hoff _ _ _ rfl) (by simp (disch := first | omega | (simp only [add_nx, upd_nx, res_nx, putAt_nx] <;> omega) | decide) only [rUz, ↓reduceIte, Nat.reduceEqDiff, Nat.reduceAdd]; exact rIsRing_y S hoff h n hn6 cv cs (hc.mono hkp) hsz s r.1 r.2 (q8.at.mono hkp) hr8') (Nat.le_of_ble_eq_true rfl) ?_
      rintro v g hk2 rfl
      refine ⟨?_, ?_⟩
      · try simp (disch := first | decide | rfl) only [again_nil, again_skip, again_free]
      have hkp2 := hkp.trans hk2
      have hof2 := hof.mono hk2
      have hb22 := (hk2.get hnx).trans hb2
      have hnx2 := Nat.lt_of_lt_of_le hnx hk2.1
      clear hof hb2 q3k
      simp (disch := first | omega | (simp only [add_nx, upd_nx, res_nx, putAt_nx] <;> omega) | decide) only [rUz, ↓reduceIte, Nat.reduceEqDiff, Nat.reduceAdd, rDz, infoL, Nat.reduceSub, un_not]
      cases hir : irP n cs r with
      | false =>
        rw [hir, Bool.false_and] at hall
        repeat refine S.seq ?_
        refine S.cond (v := true) (by first | rfl | (simp (disch := first | omega | (simp only [add_nx, upd_nx, res_nx, putAt_nx] <;> omega) | decide) only [rUz, ↓reduceIte, Nat.reduceEqDiff, Nat.reduceAdd, hir, Bool.not_false] <;> rfl)) (fun _ => ?_) (fun e => by cases e)
        repeat refine S.seq ?_
        refine S.region ?_
        simp (disch := first | omega | (simp only [add_nx, upd_nx, res_nx, putAt_nx] <;> omega) | decide) only [rUz, ↓reduceIte, Nat.reduceEqDiff, Nat.reduceAdd]
        refine S.ret ?_
        simp only [seqK_ret, blockK_ret]
        refine he _ _ _ _ (fun e => by cases e) ?_
        simp only [seqK_ret, blockK_ret]
        subst hF
        simp only [finish, endMarks]
        rw [show Try.f34.results.toList = [.tmp 4, .tmp 5] from rfl]
        simp (disch := omega) only [resA, ev_tmp, tget_ne, tget_eq, result1]
        refine hK _ _ (hkp2) ?_
        unfold rmP
        rw [hall]
        exact ⟨_, rfl⟩
      | true =>
        rw [hir, Bool.true_and] at hall
        obtain ⟨ham1, ham2, hin⟩ := irP_of hir
        repeat refine S.seq ?_
        refine S.cond (v := false) (by first | rfl | (simp (disch := first | omega | (simp only [add_nx, upd_nx, res_nx, putAt_nx] <;> omega) | decide) only [rUz, ↓reduceIte, Nat.reduceEqDiff, Nat.reduceAdd, hir, Bool.not_true] <;> rfl)) (fun e => by cases e) (fun _ => ?_)
        repeat refine S.seq ?_
        refine S.skip ?_
        simp (disch := first | omega | (simp only [add_nx, upd_nx, res_nx, putAt_nx] <;> omega) | decide) only [rUz, ↓reduceIte, Nat.reduceEqDiff, Nat.reduceAdd]
        repeat refine S.seq ?_
        refine S.region ?_
        simp (disch := first | omega | (simp only [add_nx, upd_nx, res_nx, putAt_nx] <;> omega) | decide) only [rUz, ↓reduceIte, Nat.reduceEqDiff, Nat.reduceAdd]
        repeat refine S.seq ?_
        refine S.block ?_
        refine S.loop (ι := Nat × List Int) (IOi cs r.1 r.2 off k n cv rv h0 B6) (fun p => r.1.length - p.1) ?_ (0, off) _ _ ?_
        · clear t1 t2 t6 t7 hbo hol hof2 hb22 hnx hnx2
          rintro ⟨j, of2⟩ t3 h1 ⟨hj0, hkp1, hof1, hol1, hbo1, had, hnx1, hb21, t1, t2, t6, t7, t8⟩ K2 hn2 he2
          dsimp only at hj0 hof1 hol1 hbo1 had t8
          have q3k := (hkp1.get q2).trans q3
          repeat refine S.seq ?_
          refine S.region ?_
          simp (disch := first | omega | (simp only [add_nx, upd_nx, res_nx, putAt_nx] <;> omega) | decide) only [rUz, ↓reduceIte, Nat.reduceEqDiff, Nat.reduceAdd, t1, t7, t8, q1, q3k, q6, fieldAddr_ptr fRr0 sI1, pI1, hls]
          repeat refine S.seq ?_
          refine S.cond (v := decide ((j : Int) < (r.1.length : Int))) (by first | rfl | (simp (disch := first | omega | (simp only [add_nx, upd_nx, res_nx, putAt_nx] <;> omega) | decide) only [rUz, ↓reduceIte, Nat.reduceEqDiff, Nat.reduceAdd] <;> rfl)) (fun e => ?_) (fun e => ?_)
          · have hjn : j < r.1.length := by have := of_decide_eq_true e; omega
            clear e
            have hx : r.1[j] ∈ r.1 := List.getElem_mem hjn
            obtain ⟨i, hi, hci⟩ := cAt_get (List.all_eq_true.1 hin _ hx)
            rw [List.drop_eq_getElem_cons hjn, ad] at had
            obtain ⟨b', f', ro', v1, v2, v3, v4⟩ := (q8.at.mono hkp1).idx slI s3' hjn
            generalize r.1[j] = x at hx hi hci had v4
            subst hi
            have hni := (List.getElem?_eq_some_iff.1 hci).1
            rw [Int.toNat_natCast] at had
            have hoi := hbo1 i
            have hog : (of2.map iv)[i]? = some (iv (of2.getD i 0)) := by rw [pI3 of2 (by omega : i < of2.length), getD_of]
            have hil : i < of2.length := by omega
            have hst : (of2.map iv).set i (iv (of2.getD i 0 + r.2)) = (addAt of2 i r.2).map iv := by rw [addAt, List.map_set]
            have hnn := addAt_len of2 i r.2
            have hbo2 : BM (800 * (k : Int) + 100 * ((j + 1 : Nat) : Int)) (addAt of2 i r.2) := hbo1.add (by omega) (by omega) (by omega)
            repeat refine S.seq ?_
            refine S.skip ?_
            simp (disch := first | omega | (simp only [add_nx, upd_nx, res_nx, putAt_nx] <;> omega) | decide) only [rUz, ↓reduceIte, Nat.reduceEqDiff, Nat.reduceAdd]
            repeat refine S.seq ?_
            refine S.block ?_
            repeat refine S.seq ?_
            refine S.drawnL [(false, 0), (false, 0), (false, 0), (false, 6), (false, 14), (false, 30), (false, 0), (false, 126), (false, 254), (false, 511), (false, 1023), (false, 0), (false, 0), (false, 6144), (false, 14336), (false, 30720), (false, 65535), (false, 131071), (true, 262143)] (by kernel_rfl) (by kernel_rfl) (by kernel_rfl) ?_
            simp (disch := first | omega | (simp only [add_nx, upd_nx, res_nx, putAt_nx] <;> omega) | decide) only [rUz, ↓reduceIte, Nat.reduceEqDiff, Nat.reduceAdd, rDz, infoL, Nat.reduceSub, t1, t2, t6, t7, t8, q1, q3k, q6, q7, fieldAddr_ptr fRr0 sI1, fieldAddr_ptr fRr1 s3, pI1, p3, v1, v3, v4, indexAddr_sl slI s3' hni, hof1.2.1, hog]
            refine drW_store (B := B6) (off := i) (c := of2.map iv) (fam := B6) (k0 := B6) (kd := .i64) (z := of2.getD i 0 + r.2) (by simp (disch := first | omega | (simp only [add_nx, upd_nx, res_nx, putAt_nx] <;> omega) | decide) only [rUz, ↓reduceIte, Nat.reduceEqDiff, Nat.reduceAdd, rDz, infoL, Nat.reduceSub]) (by simp (disch := first | omega | (simp only [add_nx, upd_nx, res_nx, putAt_nx] <;> omega) | decide) only [rUz, ↓reduceIte, Nat.reduceEqDiff, Nat.reduceAdd, rDz, infoL, Nat.reduceSub]) s3' hof1.2.1 hof1.2.2 (by rw [List.length_map]; exact hil) ?_ ?_
            · try simp (disch := first | decide | rfl) only [again_nil, again_skip, again_free]
            rw [hst]
            have hup : Own (h1.upd B6 ((addAt of2 i r.2).map iv) B6) B6 (addAt of2 i r.2) := ⟨hof1.1, upd_eq _ _ _, hof1.2.2⟩
            simp (disch := first | omega | (simp only [add_nx, upd_nx, res_nx, putAt_nx] <;> omega) | decide) only [rUz, ↓reduceIte, Nat.reduceEqDiff, Nat.reduceAdd, rDz, infoL, Nat.reduceSub]
            repeat refine S.seq ?_
            refine S.region ?_
            simp (disch := first | omega | (simp only [add_nx, upd_nx, res_nx, putAt_nx] <;> omega) | decide) only [rUz, ↓reduceIte, Nat.reduceEqDiff, Nat.reduceAdd, t8]
            refine hn2 (j + 1, addAt of2 i r.2) _ _ (by show r.1.length - (j + 1) < r.1.length - j; omega) ⟨hjn, hkp1.upd (by omega), hup, by rw [hnn]; exact hol1, hbo2, had, hnx1, ?_, ?_, ?_, ?_, ?_, ?_⟩
            · rw [upd_ne _ _ _ (by omega)]; exact hb21
            all_goals (first | rfl | (simp (disch := first | omega | (simp only [add_nx, upd_nx, res_nx, putAt_nx] <;> omega) | decide) only [rUz, ↓reduceIte, Nat.reduceEqDiff, Nat.reduceAdd, t1, t2, t6, t7, t8]; done) | (simp (disch := first | omega | (simp only [add_nx, upd_nx, res_nx, putAt_nx] <;> omega) | decide) only [rUz, ↓reduceIte, Nat.reduceEqDiff, Nat.reduceAdd, t1, t2, t6, t7, t8]; rfl))
          · have hjn : j = r.1.length := by have := of_decide_eq_false e; omega
            subst hjn
            rw [List.drop_of_length_le (Nat.le_refl _), ad] at had
            refine S.exit (he2 _ _ _ _ (fun e => by cases e) ?_)
            simp (disch := first | omega | (simp only [add_nx, upd_nx, res_nx, putAt_nx] <;> omega) | decide) only [rUz, ↓reduceIte, Nat.reduceEqDiff, Nat.reduceAdd]
            repeat refine S.seq ?_
            refine S.region ?_
            simp (disch := first | omega | (simp only [add_nx, upd_nx, res_nx, putAt_nx] <;> omega) | decide) only [rUz, ↓reduceIte, Nat.reduceEqDiff, Nat.reduceAdd, t7]
            refine hn (k + 1, of2) _ _ (by show rl.length - (k + 1) < rl.length - k; omega) ⟨hkn, hkp1, hof1, hol1, hbo1.le (by push_cast; omega), hall, ?_, hnx1, hb21, ?_, ?_, ?_, ?_⟩
            · rw [hads, had]
            all_goals (first | rfl | (simp (disch := first | omega | (simp only [add_nx, upd_nx, res_nx, putAt_nx] <;> omega) | decide) only [rUz, ↓reduceIte, Nat.reduceEqDiff, Nat.reduceAdd, t1, t2, t6, t7]; done) | (simp (disch := first | omega | (simp only [add_nx, upd_nx, res_nx, putAt_nx] <;> omega) | decide) only [rUz, ↓reduceIte, Nat.reduceEqDiff, Nat.reduceAdd, t1, t2, t6, t7]; rfl))
        · refine ⟨Nat.zero_le _, hkp2, hof2, hol, ?_, rfl, hnx2, hb22, ?_, ?_, ?_, ?_, ?_⟩
          · exact hbo.le (by simp)
          all_goals (first | rfl | (simp (disch := first | omega | (simp only [add_nx, upd_nx, res_nx, putAt_nx] <;> omega) | decide) only [rUz, ↓reduceIte, Nat.reduceEqDiff, Nat.reduceAdd, t1, t2, t6, t7]; done) | (simp (disch := first | omega | (simp only [add_nx, upd_nx, res_nx, putAt_nx] <;> omega) | decide) only [rUz, ↓reduceIte, Nat.reduceEqDiff, Nat.reduceAdd, t1, t2, t6, t7]; rfl))
    · have hkn : k = rl.length := by have := of_decide_eq_false e; omega
      subst hkn
      rw [List.drop_of_length_le (Nat.le_refl _)] at hads hall
      rw [ads] at hads
      refine S.exit (he _ _ _ _ (fun e => by cases e) ?_)
      simp (disch := first | omega | (simp only [add_nx, upd_nx, res_nx, putAt_nx] <;> omega) | decide) only [rUz, ↓reduceIte, Nat.reduceEqDiff, Nat.reduceAdd]
      repeat refine S.seq ?_
      refine S.region ?_
      simp (disch := first | omega | (simp only [add_nx, upd_nx, res_nx, putAt_nx] <;> omega) | decide) only [rUz, ↓reduceIte, Nat.reduceEqDiff, Nat.reduceAdd, t2, t6, hb2, pA]
      refine wr_brings (fid := 58) (first := #[]) (captured := #[]) (Post := fun u _ => u = .bool (partB cs off)) (by first | rfl | (simp (disch := first | omega | (simp only [add_nx, upd_nx, res_nx, putAt_nx] <;> omega) | decide) only [rUz, ↓reduceIte, Nat.reduceEqDiff, Nat.reduceAdd] <;> rfl)) (hoff _ _ _ rfl) (by simp (disch := first | omega | (simp only [add_nx, upd_nx, res_nx, putAt_nx] <;> omega) | decide) only [rUz, ↓reduceIte, Nat.reduceEqDiff, Nat.reduceAdd]; exact listed_y S hoff h _ cv cs (hc.mono hkp) hsz _ off (hof.at' hol.symm) (by omega)) ?_
      rintro u g hk2 rfl
      simp (disch := first | omega | (simp only [add_nx, upd_nx, res_nx, putAt_nx] <;> omega) | decide) only [rUz, ↓reduceIte, Nat.reduceEqDiff, Nat.reduceAdd]
      refine S.ret ?_
      try simp only [seqK_ret, blockK_ret]
      subst hF
      simp only [finish, endMarks]
      rw [show Try.f34.results.toList = [.tmp 4, .tmp 5] from rfl]
      simp (disch := first | omega | (simp only [add_nx, upd_nx, res_nx, putAt_nx] <;> omega) | decide) only [resA, ev_tmp, tget_ne, tget_eq, get_ne, get_eq, upd_eq, upd_ne, ag_eq, ag_ne, result1]
      refine hK _ _ (hkp.trans hk2) ?_
      unfold rmP
      rw [hall, hads]
      exact ⟨_, rfl, (hof.at' hol.symm).mono hk2, hol, hbo.le (by omega)⟩
  · refine ⟨Nat.zero_le _, hk1, hown, List.length_replicate, BM.zero _, rfl, rfl, hlt, hb2, ?_, ?_, ?_, ?_⟩
    all_goals (first | rfl | (simp (disch := first | omega | (simp only [add_nx, upd_nx, res_nx, putAt_nx] <;> omega) | decide) only [rUz, ↓reduceIte, Nat.reduceEqDiff, Nat.reduceAdd]; done) | (simp (disch := first | omega | (simp only [add_nx, upd_nx, res_nx, putAt_nx] <;> omega) | decide) only [rUz, ↓reduceIte, Nat.reduceEqDiff, Nat.reduceAdd]; rfl))
end Go.Proofs.Rg
