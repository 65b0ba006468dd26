import Derived.Test.YtfbkgnojdngiiaaMhL
/- MarginPenny. -/
namespace Go.Proofs.Mg
open Go Go.Ev Go.RowKit
set_option linter.unusedSimpArgs false
variable {pr : Prim} {R : ExT}
theorem wf_u8' {n : Int} (h : (Lit.int .u8 n).wf = true) : 0 ≤ n ∧ n ≤ 255 := by
  simp only [Lit.wf, Bool.and_eq_true, decide_eq_true_eq] at h; exact h
structure TPn (wv : Value) (m : Int) (nf : Bool) (B4 B9 : Nat) (k : Nat) (t : T Value) : Prop where
  t1 : tget t 1 = wv
  t2 : tget t 2 = .int .u8 m
  t3 : tget t 3 = .bool nf
  t4 : tget t 4 = ptr0 B4
  t9 : tget t 9 = ptr0 B9
  t10 : tget t 10 = iv (k : Int)
structure IPn (st : Int) (lv : Value) (D : List PD) (nf : Bool) (H : AHeap) (wv : Value) (m : Int) (B4 B9 : Nat) (k : Nat) (t : T Value) (h : AHeap) : Prop where
  fr : Fr H B9 h
  ex : ∃ (v : Value) (F : Nat), App H.nx h 3 v (((D.take k).map (freeD nf)).map cD) F ∧ h.bl.get B9 = some (.cells (bkV st v lv) B9 false)
  tp : TPn wv m nf B4 B9 k t
  hk : k ≤ D.length
structure IPq (nf : Bool) (m g : Int) (vs rs : Nat → Int) (B4 B12 : Nat) (i : Nat) (w1 w2 : Value) (n : Nat) (H : AHeap) (k : Nat) (t : T Value) (h : AHeap) : Prop where
  hh : h = H
  t3 : tget t 3 = .bool nf
  t4 : tget t 4 = ptr0 B4
  t12 : tget t 12 = ptr0 B12
  t13 : tget t 13 = iv (i : Int)
  t14 : tget t 14 = w1
  t15 : tget t 15 = w2
  t17 : tget t 17 = iv (debtZ m g vs rs k)
  t18 : tget t 18 = iv (k : Int)
  hk : k ≤ n
set_option maxRecDepth 100000 in
set_option maxHeartbeats 64000000 in
theorem penny_law (S : Ev.Steps Try.prog pr R) (hT : Tab pr) (h0 : AHeap) (st : Int) (dv lv : Value) (D : List PD) (L : List PL) (hb : BkAt h0 dv lv D L) (hs : ∀ x, x ∈ L → IS h0 x.1 x.2.2.2) (wv : Value) (ws : List Int) (hw : WdAt h0 wv ws) (hwl : (ws.length : Int) < 9223372036854775808) (m : Int) (hm : (Lit.int .u8 m).wf = true) (nf : Bool) :
    Brings Try.prog R 7 [.agg ⟨bkV st dv lv⟩, wv, .int .u8 m, .bool nf] h0 fun u _ => u = .bool true := by
  have hoff := hT.off
  have hm' := wf_u8' hm
  refine brings_of (fn := Try.f7) (c := (Try.f7.body).getD .skip) (by kernel_rfl) rfl (by kernel_rfl) rfl (fun K hK => ?_)
  generalize hF : finish Try.prog Try.f7 K = KF
  simp only [Try.f7, Option.getD_some, argsT, setArgs, fV1_eq, T.setK_eq, id]
  have hKr : ∀ g, Kp h0 g → K (.bool true) g = true := fun g hk => hK _ _ hk rfl
  clear hK
  have awake : ∀ {ops : Array Oper} {n : Nat} {rest : List Oper} {t : T Value} {h : AHeap} {KR : T Value → AHeap → Bool} {dst : Option Tmp}, putR Try.prog (withPrim pr (callVal Try.prog R)) ops n rest dst t (.bool true) h KR = true →
      wrR Try.prog (withPrim pr (callVal Try.prog R)) ops n rest (.call ⟨.value (.func 9), #[], #[]⟩) dst t h KR = true := fun k => wr_prim (fid := 9) (first := #[]) (captured := #[]) (v := .bool true) rfl (hT.awake _) k
  have hdd : ∀ z : Int, decide (z = z) = true := fun z => decide_eq_true rfl
  have tp0 : ∀ a b c : Value, (⟨[a, b, c]⟩ : Array Value)[0]? = some a := fun _ _ _ => rfl
  have tp1 : ∀ a b c : Value, (⟨[a, b, c]⟩ : Array Value)[1]? = some b := fun _ _ _ => rfl
  have tp2 : ∀ a b c : Value, (⟨[a, b, c]⟩ : Array Value)[2]? = some c := fun _ _ _ => rfl
  have evn : ∀ t : T Value, ev Try.prog t (.const (.slice none 0 0)) = .slice none 0 0 := fun _ => rfl
  have lD := fun t h1 o => row_len hb.dy isrD t h1 o
  have lL := fun t h1 o => row_len hb.ln isrL t h1 o
  repeat refine S.seq ?_
  refine S.region ?_
  simp (disch := first | omega | (simp only [add_nx, upd_nx] <;> omega) | decide) only [rUz, ↓reduceIte, Nat.reduceEqDiff, Nat.reduceAdd]
  obtain ⟨B4, hB4⟩ : ∃ x, x = h0.nx := ⟨_, rfl⟩
  have hb4 : (h0.add (bkV st dv lv)).bl.get B4 = some (.cells (bkV st dv lv) B4 false) := by subst hB4; exact ag_eq rfl
  have hk1 : Kp h0 (h0.add (bkV st dv lv)) := Kp.refl.add
  have hn4 : B4 < (h0.add (bkV st dv lv)).nx := by show B4 < h0.nx + 1; omega
  rw [← hB4]
  clear hB4
  generalize h0.add (bkV st dv lv) = H0 at hb4 hk1 hn4 ⊢
  repeat refine S.seq ?_
  refine S.region ?_
  simp (disch := first | omega | (simp only [add_nx, upd_nx] <;> omega) | decide) only [rUz, ↓reduceIte, Nat.reduceEqDiff, Nat.reduceAdd, hb4, part_0 pA (bkV_len st dv lv)]
  refine wr_brings (fid := 31) (first := #[]) (captured := #[]) (Post := fun u _ => u = .bool (readyB st D L)) rfl (hoff _ _ _ rfl) (by simp (disch := first | omega | (simp only [add_nx, upd_nx] <;> omega) | decide) only [rUz, ↓reduceIte, Nat.reduceEqDiff, Nat.reduceAdd]; exact ready_y S hoff H0 st dv lv D L (hb.mono hk1)) ?_
  rintro u g hkg rfl
  replace hb4 := (hkg.get hn4).trans hb4
  replace hn4 : B4 < g.nx := Nat.lt_of_lt_of_le hn4 hkg.1
  replace hk1 := hk1.trans hkg
  clear hkg
  cases hrd : readyB st D L with
  | false =>
    simp (disch := first | omega | (simp only [add_nx, upd_nx] <;> omega) | decide) only [rUz, ↓reduceIte, Nat.reduceEqDiff, Nat.reduceAdd, un_not, hrd, Bool.not_false]
    repeat refine S.seq ?_
    refine S.cond (v := true) (by first | rfl | (simp (disch := first | omega | (simp only [add_nx, upd_nx] <;> omega) | decide) only [rUz, ↓reduceIte, Nat.reduceEqDiff, Nat.reduceAdd] <;> rfl)) (fun _ => ?_) (fun e => by cases e)
    repeat refine S.seq ?_
    refine S.region ?_
    simp (disch := first | omega | (simp only [add_nx, upd_nx] <;> omega) | decide) only [rUz, ↓reduceIte, Nat.reduceEqDiff, Nat.reduceAdd]
    refine awake ?_
    simp (disch := first | omega | (simp only [add_nx, upd_nx] <;> omega) | decide) only [rUz, ↓reduceIte, Nat.reduceEqDiff, Nat.reduceAdd]
    refine S.ret ?_
    try simp only [seqK_ret, blockK_ret]
    subst hF
    simp only [finish, endMarks]
    rw [show Try.f7.results.toList = [.tmp 8] from rfl]
    simp (disch := first | omega | (simp only [add_nx, upd_nx] <;> omega) | decide) only [resA, ev_tmp, tget_ne, tget_eq, get_ne, get_eq, upd_eq, upd_ne, ag_eq, ag_ne, result1]
    exact hKr _ hk1
  | true =>
  obtain ⟨h7, hv⟩ := ready_iff hrd
  by_cases hl0 : (L.length : Int) = 0
  · simp (disch := first | omega | (simp only [add_nx, upd_nx] <;> omega) | decide) only [rUz, ↓reduceIte, Nat.reduceEqDiff, Nat.reduceAdd, un_not, hrd, Bool.not_true, fieldAddr_ptr fA2 lrL, qrL, hb4, bk2, lL, decide_eq_true hl0]
    repeat refine S.seq ?_
    refine S.cond (v := true) (by first | rfl | (simp (disch := first | omega | (simp only [add_nx, upd_nx] <;> omega) | decide) only [rUz, ↓reduceIte, Nat.reduceEqDiff, Nat.reduceAdd] <;> rfl)) (fun _ => ?_) (fun e => by cases e)
    repeat refine S.seq ?_
    refine S.region ?_
    simp (disch := first | omega | (simp only [add_nx, upd_nx] <;> omega) | decide) only [rUz, ↓reduceIte, Nat.reduceEqDiff, Nat.reduceAdd]
    refine awake ?_
    simp (disch := first | omega | (simp only [add_nx, upd_nx] <;> omega) | decide) only [rUz, ↓reduceIte, Nat.reduceEqDiff, Nat.reduceAdd]
    refine S.ret ?_
    try simp only [seqK_ret, blockK_ret]
    subst hF
    simp only [finish, endMarks]
    rw [show Try.f7.results.toList = [.tmp 8] from rfl]
    simp (disch := first | omega | (simp only [add_nx, upd_nx] <;> omega) | decide) only [resA, ev_tmp, tget_ne, tget_eq, get_ne, get_eq, upd_eq, upd_ne, ag_eq, ag_ne, result1]
    exact hKr _ hk1
  simp (disch := first | omega | (simp only [add_nx, upd_nx] <;> omega) | decide) only [rUz, ↓reduceIte, Nat.reduceEqDiff, Nat.reduceAdd, un_not, hrd, Bool.not_true, fieldAddr_ptr fA2 lrL, qrL, hb4, bk2, lL, decide_eq_false hl0]
  repeat refine S.seq ?_
  refine S.cond (v := false) (by first | rfl | (simp (disch := first | omega | (simp only [add_nx, upd_nx] <;> omega) | decide) only [rUz, ↓reduceIte, Nat.reduceEqDiff, Nat.reduceAdd] <;> rfl)) (fun e => by cases e) (fun _ => ?_)
  repeat refine S.seq ?_
  refine S.skip ?_
  simp (disch := first | omega | (simp only [add_nx, upd_nx] <;> omega) | decide) only [rUz, ↓reduceIte, Nat.reduceEqDiff, Nat.reduceAdd]
  have hd4 := hv.d4
  -- the bank without interest
  repeat refine S.seq ?_
  refine S.region ?_
  simp (disch := first | omega | (simp only [add_nx, upd_nx] <;> omega) | decide) only [rUz, ↓reduceIte, Nat.reduceEqDiff, Nat.reduceAdd, hb4, part_0 pA (bkV_len st dv lv), wr_alloc zA]
  refine wr_storeN (B := g.nx) (c := [iv 0, nl, nl]) (fam := g.nx) (k := g.nx) (l := bkV st dv lv) (by simp (disch := first | omega | (simp only [add_nx, upd_nx] <;> omega) | decide) only [rUz, ↓reduceIte, Nat.reduceEqDiff, Nat.reduceAdd]) (by simp (disch := first | omega | (simp only [add_nx, upd_nx] <;> omega) | decide) only [rUz, ↓reduceIte, Nat.reduceEqDiff, Nat.reduceAdd]; try rfl) sA (by omega) rfl (ag_eq rfl) (af_eq rfl) rfl ?_
  have hkA : Kp g ((g.add [iv 0, nl, nl]).upd g.nx (bkV st dv lv) g.nx) := Kp.refl.add.upd (Nat.le_refl _)
  have hb9 : ((g.add [iv 0, nl, nl]).upd g.nx (bkV st dv lv) g.nx).bl.get g.nx = some (.cells (bkV st dv lv) g.nx false) := upd_eq _ _ _
  have hf9 : ((g.add [iv 0, nl, nl]).upd g.nx (bkV st dv lv) g.nx).fams.get g.nx = some [g.nx] := by rw [upd_fams]; exact af_eq rfl
  have hn9 : g.nx < ((g.add [iv 0, nl, nl]).upd g.nx (bkV st dv lv) g.nx).nx := Nat.lt_succ_self _
  simp (disch := first | omega | (simp only [add_nx, upd_nx] <;> omega) | decide) only [rUz, ↓reduceIte, Nat.reduceEqDiff, Nat.reduceAdd]
  generalize (g.add [iv 0, nl, nl]).upd g.nx (bkV st dv lv) g.nx = G at hkA hb9 hf9 hn9 ⊢
  obtain ⟨B9, hB9⟩ : ∃ z, z = g.nx := ⟨_, rfl⟩
  rw [← hB9] at hb9 hf9 hn9 ⊢
  have h49 : B4 < B9 := by omega
  have ho9 : h0.nx ≤ B9 := by have := hk1.1; omega
  have hgB : g.nx ≤ B9 := by omega
  clear hB9
  repeat refine S.seq ?_
  refine S.region ?_
  simp (disch := first | omega | (simp only [add_nx, upd_nx] <;> omega) | decide) only [rUz, ↓reduceIte, Nat.reduceEqDiff, Nat.reduceAdd, fieldAddr_ptr fA1 lrD]
  refine wr_store lrD' ?_
  simp (disch := first | omega | (simp only [add_nx, upd_nx] <;> omega) | decide) only [rUz, ↓reduceIte, Nat.reduceEqDiff, Nat.reduceAdd, evn, stR_sl, hb9, hf9, bkV_len]
  have hkB : Kp g (G.upd B9 (bkV st nl lv) B9) := hkA.upd hgB
  have hb9' : (G.upd B9 (bkV st nl lv) B9).bl.get B9 = some (.cells (bkV st nl lv) B9 false) := upd_eq _ _ _
  have hf9' : (G.upd B9 (bkV st nl lv) B9).fams.get B9 = some [B9] := by rw [upd_fams]; exact hf9
  have hn9' : B9 < (G.upd B9 (bkV st nl lv) B9).nx := hn9
  change R _ _ _ _ (G.upd B9 (bkV st nl lv) B9) _ _ = true
  generalize G.upd B9 (bkV st nl lv) B9 = H at hkB hb9' hf9' hn9' ⊢
  clear hb9 hf9 hn9 hkA
  replace hb4 := (hkB.get hn4).trans hb4
  replace hn4 : B4 < H.nx := Nat.lt_of_lt_of_le hn4 hkB.1
  replace hk1 := hk1.trans hkB
  clear hkB hgB
  clear G
  repeat refine S.seq ?_
  refine S.region ?_
  simp (disch := first | omega | (simp only [add_nx, upd_nx] <;> omega) | decide) only [rUz, ↓reduceIte, Nat.reduceEqDiff, Nat.reduceAdd]
  repeat refine S.seq ?_
  refine S.block ?_
  refine S.loop (ι := Nat) (IPn st lv D nf H wv m B4 B9) (fun k => D.length - k) ?_ 0 _ _ ?_
  rotate_left
  · refine ⟨Fr.refl, ⟨nl, 0, .inl ⟨rfl, rfl⟩, hb9'⟩, ⟨?_, ?_, ?_, ?_, ?_, ?_⟩, Nat.zero_le _⟩
    all_goals (first | rfl | (simp (disch := first | omega | (simp only [add_nx, upd_nx] <;> omega) | decide) only [rUz, ↓reduceIte, Nat.reduceEqDiff, Nat.reduceAdd]; done) | (simp (disch := first | omega | (simp only [add_nx, upd_nx] <;> omega) | decide) only [rUz, ↓reduceIte, Nat.reduceEqDiff, Nat.reduceAdd]; rfl))
  clear hb9'
  intro k t h ⟨fr, ⟨v, F, app, hb9⟩, ⟨t1, t2, t3, t4, t9, t10⟩, hk⟩ K' hn he
  have hnx := fr.le
  have kph : Kp h0 h := Fr.toKp hk1 fr ho9
  have hb4h : h.bl.get B4 = some (.cells (bkV st dv lv) B4 false) := (fr.get hn4 (by omega)).trans hb4
  have hf9h : h.fams.get B9 = some [B9] := (fr.fam B9 hn9').trans hf9'
  repeat refine S.seq ?_
  refine S.region ?_
  simp (disch := first | omega | (simp only [add_nx, upd_nx] <;> omega) | decide) only [rUz, ↓reduceIte, Nat.reduceEqDiff, Nat.reduceAdd, t4, t10, fieldAddr_ptr fA1 lrD, qrD, hb4h, bk1, lD]
  repeat refine S.seq ?_
  refine S.cond (v := decide ((k : Int) < (D.length : Int))) (by first | rfl | (simp (disch := first | omega | (simp only [add_nx, upd_nx] <;> omega) | decide) only [rUz, ↓reduceIte, Nat.reduceEqDiff, Nat.reduceAdd] <;> rfl)) (fun e => ?_) (fun e => ?_)
  · have hkn : k < D.length := by have := of_decide_eq_true e; omega
    clear e
    have hps : D[k]? = some D[k] := List.getElem?_eq_getElem hkn
    have htk : ((D.take (k + 1)).map (freeD nf)).map cD = ((D.take k).map (freeD nf)).map cD ++ [cD (freeD nf D[k])] := by rw [List.take_add_one, hps, Option.toList_some, List.map_append, List.map_append]; rfl
    have hlk : (((D.take k).map (freeD nf)).map cD).length = k := by rw [List.length_map, List.length_map, List.length_take]; omega
    generalize D[k] = x at hps htk
    generalize ((D.take k).map (freeD nf)).map cD = rows at app htk hlk
    obtain ⟨b2, f2, o2, ce2, v1, v2, v3, v4, v5, v6⟩ := row_idx (hb.mono kph).dy slrD srD hps
    have qp := part_at prD v4 v5
    repeat refine S.seq ?_
    refine S.skip ?_
    simp (disch := first | omega | (simp only [add_nx, upd_nx] <;> omega) | decide) only [rUz, ↓reduceIte, Nat.reduceEqDiff, Nat.reduceAdd]
    repeat refine S.seq ?_
    refine S.block ?_
    repeat refine S.seq ?_
    refine S.region ?_
    simp (disch := first | omega | (simp only [add_nx, upd_nx] <;> omega) | decide) only [rUz, ↓reduceIte, Nat.reduceEqDiff, Nat.reduceAdd, t4, t10, fieldAddr_ptr fA1 lrD, qrD, hb4h, bk1, v1, v3, qp, wr_alloc zrD]
    refine wr_storeN (B := h.nx) (c := [nl, iv 0, iv 0]) (fam := h.nx) (k := h.nx) (l := cD x) (by simp (disch := first | omega | (simp only [add_nx, upd_nx] <;> omega) | decide) only [rUz, ↓reduceIte, Nat.reduceEqDiff, Nat.reduceAdd]) (by simp (disch := first | omega | (simp only [add_nx, upd_nx] <;> omega) | decide) only [rUz, ↓reduceIte, Nat.reduceEqDiff, Nat.reduceAdd]; try rfl) srD (by omega) rfl (ag_eq rfl) (af_eq rfl) rfl ?_
    have hkG : Kp h ((h.add [nl, iv 0, iv 0]).upd h.nx (cD x) h.nx) := Kp.refl.add.upd (Nat.le_refl _)
    have hb11 : ((h.add [nl, iv 0, iv 0]).upd h.nx (cD x) h.nx).bl.get h.nx = some (.cells (cD x) h.nx false) := upd_eq _ _ _
    have hf11 : ((h.add [nl, iv 0, iv 0]).upd h.nx (cD x) h.nx).fams.get h.nx = some [h.nx] := by rw [upd_fams]; exact af_eq rfl
    have hn11 : h.nx < ((h.add [nl, iv 0, iv 0]).upd h.nx (cD x) h.nx).nx := Nat.lt_succ_self _
    simp (disch := first | omega | (simp only [add_nx, upd_nx] <;> omega) | decide) only [rUz, ↓reduceIte, Nat.reduceEqDiff, Nat.reduceAdd]
    generalize (h.add [nl, iv 0, iv 0]).upd h.nx (cD x) h.nx = G at hkG hb11 hf11 hn11 ⊢
    obtain ⟨B11, hB11⟩ : ∃ z, z = h.nx := ⟨_, rfl⟩
    rw [← hB11] at hb11 hf11 hn11 ⊢
    have hhB : h.nx ≤ B11 := by omega
    clear hB11
    clear v1 v2 v3 v4 v5 v6 qp
    repeat refine S.seq ?_
    refine S.region ?_
    simp (disch := first | omega | (simp only [add_nx, upd_nx] <;> omega) | decide) only [rUz, ↓reduceIte, Nat.reduceEqDiff, Nat.reduceAdd, t3]
    repeat refine S.seq ?_
    generalize hJJ : seqK _ _ _ _ _ = KJ
    suffices hJ : ∀ t h', Kp h h' → h'.bl.get B11 = some (.cells (cD (freeD nf x)) B11 false) → B11 < h'.nx → TPn wv m nf B4 B9 k t → tget t 11 = ptr0 B11 → KJ .normal t h' [] = true by
      clear hJJ hn he
      cases nf with
      | false =>
        repeat refine S.seq ?_
        refine S.cond (v := false) (by first | rfl | (simp (disch := first | omega | (simp only [add_nx, upd_nx] <;> omega) | decide) only [rUz, ↓reduceIte, Nat.reduceEqDiff, Nat.reduceAdd] <;> rfl)) (fun e => by cases e) (fun _ => ?_)
        refine S.skip ?_
        refine hJ _ _ hkG hb11 hn11 ⟨?_, ?_, ?_, ?_, ?_, ?_⟩ ?_
        all_goals (first | rfl | (simp (disch := first | omega | (simp only [add_nx, upd_nx] <;> omega) | decide) only [rUz, ↓reduceIte, Nat.reduceEqDiff, Nat.reduceAdd, t1, t2, t3, t4, t9, t10]; done) | (simp (disch := first | omega | (simp only [add_nx, upd_nx] <;> omega) | decide) only [rUz, ↓reduceIte, Nat.reduceEqDiff, Nat.reduceAdd, t1, t2, t3, t4, t9, t10]; rfl))
      | true =>
        repeat refine S.seq ?_
        refine S.cond (v := true) (by first | rfl | (simp (disch := first | omega | (simp only [add_nx, upd_nx] <;> omega) | decide) only [rUz, ↓reduceIte, Nat.reduceEqDiff, Nat.reduceAdd] <;> rfl)) (fun _ => ?_) (fun e => by cases e)
        repeat refine S.seq ?_
        refine S.region ?_
        simp (disch := first | omega | (simp only [add_nx, upd_nx] <;> omega) | decide) only [rUz, ↓reduceIte, Nat.reduceEqDiff, Nat.reduceAdd, rd_build, List.map_nil, brR0, fieldAddr_ptr frD1 SrR]
        refine wr_storeP (B := B11) (off := 1) (c := cD x) (c' := cD (freeD true x)) (fam := B11) (k := B11) (l := [iv 0, iv 0]) (by simp (disch := first | omega | (simp only [add_nx, upd_nx] <;> omega) | decide) only [rUz, ↓reduceIte, Nat.reduceEqDiff, Nat.reduceAdd]) (by simp (disch := first | omega | (simp only [add_nx, upd_nx] <;> omega) | decide) only [rUz, ↓reduceIte, Nat.reduceEqDiff, Nat.reduceAdd]; try rfl) srR (by omega) rfl hb11 hf11 (by show 3 ≤ 3; omega) rfl ?_
        simp (disch := first | omega | (simp only [add_nx, upd_nx] <;> omega) | decide) only [rUz, ↓reduceIte, Nat.reduceEqDiff, Nat.reduceAdd]
        refine hJ _ _ (hkG.upd hhB) (upd_eq _ _ _) hn11 ⟨?_, ?_, ?_, ?_, ?_, ?_⟩ ?_
        all_goals (first | rfl | (simp (disch := first | omega | (simp only [add_nx, upd_nx] <;> omega) | decide) only [rUz, ↓reduceIte, Nat.reduceEqDiff, Nat.reduceAdd, t1, t2, t3, t4, t9, t10]; done) | (simp (disch := first | omega | (simp only [add_nx, upd_nx] <;> omega) | decide) only [rUz, ↓reduceIte, Nat.reduceEqDiff, Nat.reduceAdd, t1, t2, t3, t4, t9, t10]; rfl))
    clear t1 t2 t3 t4 t9 t10 hkG hb11 hf11 hn11
    clear G t
    intro t j hkj hb11 hn11 ⟨t1, t2, t3, t4, t9, t10⟩ t11
    subst hJJ
    simp only [seqK_normal]
    have hb9j : j.bl.get B9 = some (.cells (bkV st v lv) B9 false) := (hkj.get (by omega : B9 < h.nx)).trans hb9
    have hf9j : j.fams.get B9 = some [B9] := (hkj.fget (by omega : B9 < h.nx)).trans hf9h
    have frj : Fr H B9 j := fr.kp hkj
    have hjn := hkj.1
    repeat refine S.seq ?_
    refine S.region ?_
    simp (disch := first | omega | (simp only [add_nx, upd_nx] <;> omega) | decide) only [rUz, ↓reduceIte, Nat.reduceEqDiff, Nat.reduceAdd, t9, t11, fieldAddr_ptr fA1 lrD, qrD, hb9j, hb11, bk1, part_0 prD (cD_len _), w_buildSlice, w_append]
    refine wr_lit1 slrD srD zrD rfl (by omega) (u := .agg ⟨cD (freeD nf x)⟩) (l := cD (freeD nf x)) (by simp (disch := first | omega | (simp only [add_nx, upd_nx] <;> omega) | decide) only [rUz, ↓reduceIte, Nat.reduceEqDiff, Nat.reduceAdd]) rfl rfl ?_
    simp (disch := first | omega | (simp only [add_nx, upd_nx] <;> omega) | decide) only [rUz, ↓reduceIte, Nat.reduceEqDiff, Nat.reduceAdd, w_append]
    refine wr_grown slrD urD (v := v) (bx := j.nx) (cx := 1) (by simp (disch := first | omega | (simp only [add_nx, upd_nx] <;> omega) | decide) only [rUz, ↓reduceIte, Nat.reduceEqDiff, Nat.reduceAdd]) (by simp (disch := first | omega | (simp only [add_nx, upd_nx] <;> omega) | decide) only [rUz, ↓reduceIte, Nat.reduceEqDiff, Nat.reduceAdd]) ((app.mono hkj).mono Kp.refl.add) (by show H.nx ≤ j.nx + 1; omega) srD (cD_len _) (by omega) (ag_eq rfl) nrD (by rw [hlk]; show _ < 1000000; omega) ?_
    intro v7 h3 F3 gr
    obtain ⟨bv, n7, c7, rfl, hbv⟩ := gr.blk
    have hsm := gr.sm
    have hb93 : h3.bl.get B9 = some (.cells (bkV st v lv) B9 false) := by rw [(hsm.2 B9 hn9').1, ag_ne (by omega)]; exact hb9j
    have hf93 : h3.fams.get B9 = some [B9] := by rw [(hsm.2 B9 hn9').2, af_ne (by omega)]; exact hf9j
    have fr3 : Fr H B9 h3 := (frj.kp Kp.refl.add).sm hsm (Nat.le_refl _)
    have happ := gr.app
    rw [← htk] at happ
    simp (disch := first | omega | (simp only [add_nx, upd_nx] <;> omega) | decide) only [rUz, ↓reduceIte, Nat.reduceEqDiff, Nat.reduceAdd, t9, fieldAddr_ptr fA1 lrD]
    refine wr_store lrD' ?_
    simp (disch := first | omega | (simp only [add_nx, upd_nx] <;> omega) | decide) only [rUz, ↓reduceIte, Nat.reduceEqDiff, Nat.reduceAdd, stR_sl, hb93, hf93, bkV_len]
    repeat refine S.seq ?_
    refine S.region ?_
    simp (disch := first | omega | (simp only [add_nx, upd_nx] <;> omega) | decide) only [rUz, ↓reduceIte, Nat.reduceEqDiff, Nat.reduceAdd, t10]
    refine hn (k + 1) _ _ (by omega) ⟨fr3.upd, ⟨_, F3, happ.upd hn9', upd_eq _ _ _⟩, ⟨?_, ?_, ?_, ?_, ?_, ?_⟩, by omega⟩
    all_goals (first | rfl | (simp (disch := first | omega | (simp only [add_nx, upd_nx] <;> omega) | decide) only [rUz, ↓reduceIte, Nat.reduceEqDiff, Nat.reduceAdd, t1, t2, t3, t4, t9]; done) | (simp (disch := first | omega | (simp only [add_nx, upd_nx] <;> omega) | decide) only [rUz, ↓reduceIte, Nat.reduceEqDiff, Nat.reduceAdd, t1, t2, t3, t4, t9]; rfl))
  have hkn : k = D.length := by have := of_decide_eq_false e; omega
  subst hkn
  rw [List.take_of_length_le (Nat.le_refl _)] at app
  refine S.exit (he _ _ _ _ (fun e => by cases e) ?_)
  simp (disch := first | omega | (simp only [add_nx, upd_nx] <;> omega) | decide) only [rUz, ↓reduceIte, Nat.reduceEqDiff, Nat.reduceAdd]
  clear hn he K' e t10 hk hf9' hf9h hb4
  have hbx : BkAt h v lv (D.map (freeD nf)) L := ⟨app.at, fun y hy => by
    obtain ⟨x, hx, rfl⟩ := List.mem_map.1 hy
    exact SlAt.mono (hb.pr x hx) kph, SlAt.mono hb.ln kph, fun x hx => (hb.sh x hx).mono kph⟩
  have hvx := val_free hv nf
  have hd7 : ((D.map (freeD nf)).length : Int) ≤ 7 := by rw [List.length_map]; exact h7.d
  have hp7 : ∀ x, x ∈ D.map (freeD nf) → (x.2.1.length : Int) ≤ 7 := fun y hy => by
    obtain ⟨x, hx, rfl⟩ := List.mem_map.1 hy
    exact h7.dd x hx
  have hD2l : (D.map (freeD nf)).length = D.length := List.length_map _
  have hfree : ∀ Ts rt, truthB st (D.map (freeD nf)) Ts rt = true → nf = true → ∀ k, k < D.length → rsF rt k = 0 := fun Ts rt h e k hk => by subst e; exact rates_free h hk
  generalize D.map (freeD nf) = D2 at hbx hvx hd7 hp7 hD2l hfree
  clear app
  repeat refine S.seq ?_
  refine S.region ?_
  simp (disch := first | omega | (simp only [add_nx, upd_nx] <;> omega) | decide) only [rUz, ↓reduceIte, Nat.reduceEqDiff, Nat.reduceAdd, t1, t9, hb9, part_0 pA (bkV_len st v lv)]
  refine wr_brings (fid := 32) (first := #[]) (captured := #[]) (Post := fun u h' => PickedP st D2 u h') rfl (hoff _ _ _ rfl) (by simp (disch := first | omega | (simp only [add_nx, upd_nx] <;> omega) | decide) only [rUz, ↓reduceIte, Nat.reduceEqDiff, Nat.reduceAdd]; exact picked_y S hoff h st v lv D2 L hbx hvx wv ws (hw.mono kph) hwl) ?_
  rintro u g1 hkg1 ⟨pv, rv, Ts, rt, rfl, htu, hrt, hts, htr⟩
  simp (disch := first | omega | (simp only [add_nx, upd_nx] <;> omega) | decide) only [rUz, ↓reduceIte, Nat.reduceEqDiff, Nat.reduceAdd, wr_alloc zrU]
  refine wr_storeN (B := g1.nx) (c := [nl, nl]) (fam := g1.nx) (k := g1.nx) (l := tuV pv rv) (by simp (disch := first | omega | (simp only [add_nx, upd_nx] <;> omega) | decide) only [rUz, ↓reduceIte, Nat.reduceEqDiff, Nat.reduceAdd]) (by simp (disch := first | omega | (simp only [add_nx, upd_nx] <;> omega) | decide) only [rUz, ↓reduceIte, Nat.reduceEqDiff, Nat.reduceAdd]; try rfl) srU (by omega) rfl (ag_eq rfl) (af_eq rfl) rfl ?_
  have hkA : Kp g1 ((g1.add [nl, nl]).upd g1.nx (tuV pv rv) g1.nx) := Kp.refl.add.upd (Nat.le_refl _)
  have hb12 : ((g1.add [nl, nl]).upd g1.nx (tuV pv rv) g1.nx).bl.get g1.nx = some (.cells (tuV pv rv) g1.nx false) := upd_eq _ _ _
  have hn12 : g1.nx < ((g1.add [nl, nl]).upd g1.nx (tuV pv rv) g1.nx).nx := Nat.lt_succ_self _
  simp (disch := first | omega | (simp only [add_nx, upd_nx] <;> omega) | decide) only [rUz, ↓reduceIte, Nat.reduceEqDiff, Nat.reduceAdd]
  generalize (g1.add [nl, nl]).upd g1.nx (tuV pv rv) g1.nx = M at hkA hb12 hn12 ⊢
  generalize g1.nx = B12 at hb12 hn12 ⊢
  have hkM := hkg1.trans hkA
  replace hb9 := (hkM.get (by omega : B9 < h.nx)).trans hb9
  have hb4 := (hkM.get (by omega : B4 < h.nx)).trans hb4h
  have hMn := hkM.1
  have hn9M : B9 < M.nx := by omega
  have hn4M : B4 < M.nx := by omega
  replace hbx := hbx.mono hkM
  replace htu := htu.mono hkA
  replace hrt : IS M rv rt := SlAt.mono hrt hkA
  replace hts : ∀ x, x ∈ Ts → IS M x.1 x.2 := fun x hx => SlAt.mono (hts x hx) hkA
  have kpM := kph.trans hkM
  clear hkM hkA hkg1 hMn hb4h fr hnx kph
  clear g1
  repeat refine S.seq ?_
  refine S.region ?_
  simp (disch := first | omega | (simp only [add_nx, upd_nx] <;> omega) | decide) only [rUz, ↓reduceIte, Nat.reduceEqDiff, Nat.reduceAdd, t2, w_cv8, rd_conv]
  refine optR_of' (v := iv m) (conv_int Try.underlying5 Try.underlying3 (by omega) (by omega)) ?_
  simp (disch := first | omega | (simp only [add_nx, upd_nx] <;> omega) | decide) only [rUz, ↓reduceIte, Nat.reduceEqDiff, Nat.reduceAdd, t4, fieldAddr_ptr fA2 lrL, qrL, hb4, bk2, lL]
  refine optR_of' (bin_rem (i := m) (j := (L.length : Int)) (by simp (disch := first | omega | (simp only [add_nx, upd_nx] <;> omega) | decide) only [rUz, ↓reduceIte, Nat.reduceEqDiff, Nat.reduceAdd]) (by simp (disch := first | omega | (simp only [add_nx, upd_nx] <;> omega) | decide) only [rUz, ↓reduceIte, Nat.reduceEqDiff, Nat.reduceAdd]) (by omega)) ?_
  obtain ⟨i, hi⟩ : ∃ i : Nat, (i : Int) = m.tmod (L.length : Int) := ⟨(m.tmod (L.length : Int)).toNat, by have := Int.tmod_nonneg (L.length : Int) hm'.1; omega⟩
  have hil : i < L.length := by have := Int.tmod_lt_of_pos m (by omega : 0 < (L.length : Int)); omega
  rw [← hi]
  clear hi
  simp (disch := first | omega | (simp only [add_nx, upd_nx] <;> omega) | decide) only [rUz, ↓reduceIte, Nat.reduceEqDiff, Nat.reduceAdd]
  -- Play
  repeat refine S.seq ?_
  refine S.drawnL [(false, 0), (true, 1), (false, 0), (true, 7), (true, 15), (false, 31), (false, 63), (false, 63), (false, 63), (false, 127), (false, 767), (false, 2047)] (by kernel_rfl) (by kernel_rfl) (by kernel_rfl) ?_
  simp (disch := first | omega | (simp only [add_nx, upd_nx] <;> omega) | decide) only [rUz, ↓reduceIte, Nat.reduceEqDiff, Nat.reduceAdd, rDz, infoL, Nat.reduceSub, draw_read2, t9, hb9, hb12, part_0 pA (bkV_len st v lv), part_0 prU (tuV_len pv rv)]
  refine drW_brings (fid := 26) (first := #[]) (captured := #[]) (Post := fun u h => BkAs st D2 L u h) rfl (hoff _ _ _ rfl) (by simp (disch := first | omega | (simp only [add_nx, upd_nx] <;> omega) | decide) only [rUz, ↓reduceIte, Nat.reduceEqDiff, Nat.reduceAdd]; exact bankC_y S hoff M st v lv D2 L hbx (fun x hx => SlAt.mono (hs x hx) kpM) hd7 h7.l hp7 h7.ll) (Nat.le_of_ble_eq_true rfl) ?_
  rintro u g1 hkg1 ⟨dv1, lv1, D1, L1, rfl, hb1, hD1, hL1⟩
  have hb12a := (hkg1.get hn12).trans hb12
  refine ⟨?_, ?_⟩
  · try simp (disch := first | decide | rfl) only [again_nil, again_skip, again_free]
    rw [again_same (v := .agg ⟨tuV pv rv⟩) (by simp (disch := first | omega | (simp only [add_nx, upd_nx] <;> omega) | decide) only [rUz, ↓reduceIte, Nat.reduceEqDiff, Nat.reduceAdd, rDz, infoL, Nat.reduceSub, hb12a, part_0 prU (tuV_len pv rv)]) (veq_tu htu)]
    try simp (disch := first | decide | rfl) only [again_nil, again_skip, again_free]
  simp (disch := first | omega | (simp only [add_nx, upd_nx] <;> omega) | decide) only [rUz, ↓reduceIte, Nat.reduceEqDiff, Nat.reduceAdd, rDz, infoL, Nat.reduceSub]
  have hts1 : ∀ x, x ∈ Ts → (x.2.length : Int) ≤ 7 := fun x hx => by
    have h1 := tru_of hvx htr
    have h2 := hvx.s4
    have h3 := h1.pl x hx
    omega
  have htl : (Ts.length : Int) ≤ 7 ∧ (rt.length : Int) ≤ 7 := by
    simp only [truthB, Bool.and_eq_true, decide_eq_true_eq] at htr
    omega
  refine drW_brings (fid := 27) (first := #[]) (captured := #[]) (Post := fun u h => TruAs Ts rt u h) rfl (hoff _ _ _ rfl) (by simp (disch := first | omega | (simp only [add_nx, upd_nx] <;> omega) | decide) only [rUz, ↓reduceIte, Nat.reduceEqDiff, Nat.reduceAdd]; exact truthC_y S hoff g1 pv rv Ts rt (htu.mono hkg1) (SlAt.mono hrt hkg1) (fun x hx => SlAt.mono (hts x hx) hkg1) htl.1 htl.2 hts1) (Nat.le_of_ble_eq_true rfl) ?_
  rintro u g2 hkg2 ⟨pv2, rv2, T2, rfl, ht2, hT2⟩
  refine ⟨?_, ?_⟩
  · try simp (disch := first | decide | rfl) only [again_nil, again_skip, again_free]
  simp (disch := first | omega | (simp only [add_nx, upd_nx] <;> omega) | decide) only [rUz, ↓reduceIte, Nat.reduceEqDiff, Nat.reduceAdd, rDz, infoL, Nat.reduceSub]
  have hdd1 : ∀ x, x ∈ D1 → (x.2.1.length : Int) ≤ 7 := map_all (P := fun y => (y.1.length : Int) ≤ 7) hD1 hp7
  have hll1 : ∀ x, x ∈ L1 → (x.2.2.2.length : Int) ≤ 7 := map_all (P := fun y => (y.2.2.length : Int) ≤ 7) hL1 h7.ll
  refine drW_brings (fid := 21) (first := #[]) (captured := #[]) (Post := fun u h => PlayAt st D1 L1 T2 rt u h) rfl (hoff _ _ _ rfl) (by simp (disch := first | omega | (simp only [add_nx, upd_nx] <;> omega) | decide) only [rUz, ↓reduceIte, Nat.reduceEqDiff, Nat.reduceAdd]; exact play_y S hoff g2 st dv1 lv1 pv2 rv2 D1 L1 T2 rt (hb1.mono hkg2) ht2 (by rw [map_len hD1]; exact hd7) (by rw [map_len hL1]; exact h7.l) hdd1 hll1) (Nat.le_of_ble_eq_true rfl) ?_
  rintro u g3 hkg3 hpl
  refine ⟨?_, ?_⟩
  · try simp (disch := first | decide | rfl) only [again_nil, again_skip, again_free]
  have hkg13 := (hkg1.trans hkg2).trans hkg3
  unfold PlayAt at hpl
  rw [faultT_congr hD1 hL1 hT2, debts_congr hL1 hT2, calls_congr hL1 hT2, map_len hD1, hD2l] at hpl
  have hfT : faultT st D2 L Ts rt = 0 := by rw [faultT, decide_eq_true (val_iff.2 hvx), htr]; rfl
  rcases hpl with ⟨_, XL, CL, w1, w2, rfl, sX, sY, aX, aY, hX, hC⟩ | ⟨he, _⟩
  rotate_left
  · exact absurd hfT he
  replace hb4 := (hkg13.get hn4M).trans hb4
  replace hb12 := (hkg13.get hn12).trans hb12
  have htuM := htu.mono hkg13
  have kp3 := kpM.trans hkg13
  clear hkg1 hkg2 hkg3 hkg13 hb1 ht2 hdd1 hll1 hD1 hL1 hT2 hb12a hb9 hn9M hn4M hn12 kpM htu
  simp (disch := first | omega | (simp only [add_nx, upd_nx] <;> omega) | decide) only [rUz, ↓reduceIte, Nat.reduceEqDiff, Nat.reduceAdd, rDz, infoL, Nat.reduceSub, tp0, tp1, tp2]
  have hXl : XL.length = L.length := by
    have := congrArg List.length hX
    rwa [List.length_map, List.length_map] at this
  have hCl : CL.length = L.length := by
    have := congrArg List.length hC
    rwa [List.length_map, List.length_map] at this
  have lX : ∀ t h1 o, rLen Try.prog t h1 o 50 w1 = some (iv (L.length : Int)) := fun t h1 o => by rw [← hXl]; exact row_len sX isII t h1 o
  have lC : ∀ t h1 o, rLen Try.prog t h1 o 50 w2 = some (iv (L.length : Int)) := fun t h1 o => by rw [← hCl]; exact row_len sY isII t h1 o
  have hps : L[i]? = some L[i] := List.getElem?_eq_getElem hil
  have hxm : L[i] ∈ L := List.getElem_mem hil
  have hx1 : (XL.map fun y => y.2)[i]? = some (debtsOf D.length Ts rt L[i]) := by rw [hX, List.getElem?_map, hps]; rfl
  have hc1 : (CL.map fun y => y.2)[i]? = some (callsOf D.length Ts rt L[i]) := by rw [hC, List.getElem?_map, hps]; rfl
  rw [List.getElem?_map] at hx1 hc1
  obtain ⟨yX, hyX, eX⟩ := Option.map_eq_some_iff.1 hx1
  obtain ⟨yC, hyC, eC⟩ := Option.map_eq_some_iff.1 hc1
  have iX := aX yX (List.mem_of_getElem? hyX)
  have iC := aY yC (List.mem_of_getElem? hyC)
  rw [eX] at iX
  rw [eC] at iC
  generalize L[i] = x at hps hxm iX iC
  have hlX : (debtsOf D.length Ts rt x).length = D.length := by simp only [debtsOf, aftersZ, List.length_map, List.length_range]
  have hlC : (callsOf D.length Ts rt x).length = D.length := by simp only [callsOf, callsZ, List.length_map, List.length_range]
  have lx := fun t h1 o => iv_len iX t h1 o
  have lc := fun t h1 o => iv_len iC t h1 o
  rw [hlX] at lx
  rw [hlC] at lc
  obtain ⟨b1, f1, o1, c1, q1, q2, q3, q4, q5, q6⟩ := row_idx sX slII lI' hyX
  obtain ⟨b2, f2, o2, c2', r1, r2, r3, r4, r5, r6⟩ := row_idx sY slII lI' hyC
  obtain ⟨b3, f3, o3, c3', u1, u2, u3, u4, u5, u6⟩ := row_idx (hb.mono kp3).ln slrL srL hps
  have q6 := q6 0 _ (cT0 yX)
  have r6 := r6 0 _ (cT0 yC)
  have u6 := u6 0 _ (cL0 x)
  rw [Nat.mul_one] at q1 r1
  rw [Nat.mul_one, Nat.add_zero] at q6 r6
  rw [Nat.add_zero] at u6
  repeat refine S.seq ?_
  refine S.drawnL [(false, 0), (false, 1), (false, 3), (false, 7), (false, 15), (false, 7), (false, 39), (false, 103), (false, 255), (false, 511), (false, 1023), (false, 2047), (false, 4095), (false, 2047), (false, 10239), (false, 26623), (false, 65535), (false, 131071), (false, 262143), (false, 524287), (false, 524287), (false, 2097151), (false, 4194303), (false, 8388607), (false, 524287), (false, 17301503), (false, 50855935), (false, 134217727), (false, 268435455), (false, 536870911), (false, 1073741823), (false, 1073741823), (false, 4294967295), (false, 8589934591), (false, 17179869183), (false, 1073741823), (false, 35433480191), (false, 104152956927), (false, 274877906943), (false, 549755813887)] (by kernel_rfl) (by kernel_rfl) (by kernel_rfl) ?_
  simp (disch := first | omega | (simp only [add_nx, upd_nx] <;> omega) | decide) only [rUz, ↓reduceIte, Nat.reduceEqDiff, Nat.reduceAdd, rDz, infoL, Nat.reduceSub, t4, hdd, decide_true, Bool.not_true, hb4, fieldAddr_ptr fA2 lrL, qrL, bk2, fieldAddr_ptr fA1 lrD, qrD, bk1, lX, lC, lL, lD, lx, lc, q1, q3, q6, r1, r3, r6, qI]
  repeat refine S.seq ?_
  refine S.cond (v := false) (by first | rfl | (simp (disch := first | omega | (simp only [add_nx, upd_nx] <;> omega) | decide) only [rUz, ↓reduceIte, Nat.reduceEqDiff, Nat.reduceAdd] <;> rfl)) (fun e => by cases e) (fun _ => ?_)
  repeat refine S.seq ?_
  refine S.skip ?_
  simp (disch := first | omega | (simp only [add_nx, upd_nx] <;> omega) | decide) only [rUz, ↓reduceIte, Nat.reduceEqDiff, Nat.reduceAdd]
  repeat refine S.seq ?_
  refine S.region ?_
  simp (disch := first | omega | (simp only [add_nx, upd_nx] <;> omega) | decide) only [rUz, ↓reduceIte, Nat.reduceEqDiff, Nat.reduceAdd, t4, hb4, fieldAddr_ptr fA2 lrL, qrL, bk2, u1, u3, fieldAddr_ptr frL0 s3, p3, u6]
  repeat refine S.seq ?_
  refine S.region ?_
  simp (disch := first | omega | (simp only [add_nx, upd_nx] <;> omega) | decide) only [rUz, ↓reduceIte, Nat.reduceEqDiff, Nat.reduceAdd]
  have hox := okL_iff.1 (hv.ln x hxm)
  have hm0 := hox.m0
  have hm1 := hox.m1
  have hst4 := hv.s4
  have hsl4 : (x.2.2.2.length : Int) ≤ 4 := by have := hox.len; omega
  have htru := tru_of hvx htr
  rw [hD2l] at htru
  have hrt := rates_of htru hox.sh hsl4
  have hfr := hfree Ts rt htr
  have hrl := htru.lr
  clear hX hC aX aY sX sY hx1 hc1 eX eC hyX hyC lX lC lx lc hXl hCl hlX hlC
  repeat refine S.seq ?_
  refine S.block ?_
  refine S.loop (ι := Nat) (IPq nf x.2.1 x.2.2.1 (vsF x.2.2.2 Ts) (rsF rt) B4 B12 i w1 w2 D.length g3) (fun k => D.length - k) ?_ 0 _ _ ?_
  rotate_left
  · refine ⟨rfl, ?_, ?_, ?_, ?_, ?_, ?_, ?_, ?_, Nat.zero_le _⟩
    all_goals (first | rfl | (simp (disch := first | omega | (simp only [add_nx, upd_nx] <;> omega) | decide) only [rUz, ↓reduceIte, Nat.reduceEqDiff, Nat.reduceAdd, t3, t4]; done) | (simp (disch := first | omega | (simp only [add_nx, upd_nx] <;> omega) | decide) only [rUz, ↓reduceIte, Nat.reduceEqDiff, Nat.reduceAdd, t3, t4]; rfl))
  clear t1 t2 t3 t4 t9
  clear t h
  intro k t h ⟨hh, t3, t4, t12, t13, t14, t15, t17, t18, hk⟩ K' hn he
  subst hh
  repeat refine S.seq ?_
  refine S.region ?_
  simp (disch := first | omega | (simp only [add_nx, upd_nx] <;> omega) | decide) only [rUz, ↓reduceIte, Nat.reduceEqDiff, Nat.reduceAdd, t4, t18, fieldAddr_ptr fA1 lrD, qrD, hb4, bk1, lD]
  repeat refine S.seq ?_
  refine S.cond (v := decide ((k : Int) < (D.length : Int))) (by first | rfl | (simp (disch := first | omega | (simp only [add_nx, upd_nx] <;> omega) | decide) only [rUz, ↓reduceIte, Nat.reduceEqDiff, Nat.reduceAdd] <;> rfl)) (fun e => ?_) (fun e => ?_)
  · have hkn : k < D.length := by have := of_decide_eq_true e; omega
    clear e
    have hgX : (debtsOf D.length Ts rt x)[k]? = some (debtZ x.2.1 x.2.2.1 (vsF x.2.2.2 Ts) (rsF rt) (k + 1)) := aftersZ_get _ _ _ _ hkn
    have hgC : (callsOf D.length Ts rt x)[k]? = some (callZ x.2.1 x.2.2.1 (vsF x.2.2.2 Ts) (rsF rt) k) := callsZ_get _ _ _ _ hkn
    obtain ⟨hxl, exk⟩ := List.getElem?_eq_some_iff.1 hgX
    obtain ⟨hcl, eck⟩ := List.getElem?_eq_some_iff.1 hgC
    obtain ⟨b5, f5, o5, x1, x2, x3, x4⟩ := iX.idx slI s3' hxl
    obtain ⟨b6, f6, o6, y1, y2, y3, y4⟩ := iC.idx slI s3' hcl
    obtain ⟨b7, f7, o7, z1, z2, z3', z4⟩ := htuM.rt.idx slI s3' (i := k) (by omega)
    rw [exk] at x4
    rw [eck] at y4
    have hrs : rsF rt k = rt[k] := by unfold rsF; rw [List.getD_eq_getElem?_getD, List.getElem?_eq_getElem (by omega), Option.getD_some]
    have hrb := htru.rb rt[k] (List.getElem_mem _)
    have hdb := debt_bnd hrt hm0 hm1 hox.g0 hox.g1 hd4 k (by omega)
    have hdb2 := debt_bnd hrt hm0 hm1 hox.g0 hox.g1 hd4 (k + 1) (by omega)
    have hcb := call_bnd hrt hm0 hm1 hox.g0 hox.g1 hd4 hkn
    have hcz : callZ x.2.1 x.2.2.1 (vsF x.2.2.2 Ts) (rsF rt) k = debtZ x.2.1 x.2.2.1 (vsF x.2.2.2 Ts) (rsF rt) k + (debtZ x.2.1 x.2.2.1 (vsF x.2.2.2 Ts) (rsF rt) k * rsF rt k).tdiv 10000 - debtZ x.2.1 x.2.2.1 (vsF x.2.2.2 Ts) (rsF rt) (k + 1) := rfl
    have hgb := grown_bnd (d := debtZ x.2.1 x.2.2.1 (vsF x.2.2.2 Ts) (rsF rt) k) (r := rsF rt k) hdb.1 (by omega) (by rw [hrs]; exact hrb.1) (by rw [hrs]; exact hrb.2)
    have hfk : nf = true → rsF rt k = 0 := fun e => hfr e k hkn
    rw [hrs] at hcz hgb hfk
    generalize rt[k] = r at z4 hrb hcz hgb hfk
    generalize callZ x.2.1 x.2.2.1 (vsF x.2.2.2 Ts) (rsF rt) k = c at y4 hcb hcz
    obtain ⟨d', hd'⟩ : ∃ d', debtZ x.2.1 x.2.2.1 (vsF x.2.2.2 Ts) (rsF rt) (k + 1) = d' := ⟨_, rfl⟩
    rw [hd'] at x4 hdb2 hcz
    generalize debtZ x.2.1 x.2.2.1 (vsF x.2.2.2 Ts) (rsF rt) k = d at t17 hdb hcz hgb
    generalize hDr : d * r = X at hcz hgb
    obtain ⟨Q, hQ⟩ : ∃ Q, Q = X.tdiv 10000 := ⟨_, rfl⟩
    rw [← hQ] at hcz hgb
    have hval : decide (d' = d + Q - c) = true := decide_eq_true (by omega)
    repeat refine S.seq ?_
    refine S.skip ?_
    simp (disch := first | omega | (simp only [add_nx, upd_nx] <;> omega) | decide) only [rUz, ↓reduceIte, Nat.reduceEqDiff, Nat.reduceAdd]
    repeat refine S.seq ?_
    refine S.block ?_
    repeat refine S.seq ?_
    refine S.region ?_
    simp (disch := first | omega | (simp only [add_nx, upd_nx] <;> omega) | decide) only [rUz, ↓reduceIte, Nat.reduceEqDiff, Nat.reduceAdd, t12, t17, t18, fieldAddr_ptr frU1 lI, qI, hb12, tu1, z1, z3', p3, z4, hDr]
    refine optR_of' (bin_quo (i := X) (j := 10000) (by simp (disch := first | omega | (simp only [add_nx, upd_nx] <;> omega) | decide) only [rUz, ↓reduceIte, Nat.reduceEqDiff, Nat.reduceAdd]) (by simp (disch := first | omega | (simp only [add_nx, upd_nx] <;> omega) | decide) only [rUz, ↓reduceIte, Nat.reduceEqDiff, Nat.reduceAdd]) (by omega) (by omega) (by omega)) ?_
    rw [← hQ]
    simp (disch := first | omega | (simp only [add_nx, upd_nx] <;> omega) | decide) only [rUz, ↓reduceIte, Nat.reduceEqDiff, Nat.reduceAdd]
    cases nf with
    | false =>
      repeat refine S.seq ?_
      refine S.drawnL [(false, 0), (false, 0), (false, 3), (false, 7), (false, 0), (false, 31), (false, 63), (false, 0), (false, 0), (false, 384), (false, 0), (false, 0), (false, 3072), (false, 7168), (false, 0), (false, 31744), (false, 64512), (false, 130944), (false, 262143), (false, 524287), (false, 1048575), (false, 2097151), (false, 4194303), (false, 8388607), (false, 16777215), (false, 33554431)] (by kernel_rfl) (by kernel_rfl) (by kernel_rfl) ?_
      simp (disch := first | omega | (simp only [add_nx, upd_nx] <;> omega) | decide) only [rUz, ↓reduceIte, Nat.reduceEqDiff, Nat.reduceAdd, rDz, infoL, Nat.reduceSub, t3, t13, t14, t15, t17, t18, q1, q3, q6, r1, r3, r6, qI, x1, x3, x4, y1, y3, y4, p3, hval, Bool.not_true]
      repeat refine S.seq ?_
      refine S.cond (v := false) (by first | rfl | (simp (disch := first | omega | (simp only [add_nx, upd_nx] <;> omega) | decide) only [rUz, ↓reduceIte, Nat.reduceEqDiff, Nat.reduceAdd] <;> rfl)) (fun e => by cases e) (fun _ => ?_)
      repeat refine S.seq ?_
      refine S.skip ?_
      simp (disch := first | omega | (simp only [add_nx, upd_nx] <;> omega) | decide) only [rUz, ↓reduceIte, Nat.reduceEqDiff, Nat.reduceAdd]
      repeat refine S.seq ?_
      refine S.region ?_
      simp (disch := first | omega | (simp only [add_nx, upd_nx] <;> omega) | decide) only [rUz, ↓reduceIte, Nat.reduceEqDiff, Nat.reduceAdd, t13, t14, t18, q1, q3, q6, qI, x1, x3, x4, p3]
      repeat refine S.seq ?_
      refine S.region ?_
      simp (disch := first | omega | (simp only [add_nx, upd_nx] <;> omega) | decide) only [rUz, ↓reduceIte, Nat.reduceEqDiff, Nat.reduceAdd, t18]
      refine hn (k + 1) _ _ (by omega) ⟨rfl, ?_, ?_, ?_, ?_, ?_, ?_, ?_, ?_, by omega⟩
      all_goals (first | rfl | (simp (disch := first | omega | (simp only [add_nx, upd_nx] <;> omega) | decide) only [rUz, ↓reduceIte, Nat.reduceEqDiff, Nat.reduceAdd, t3, t4, t12, t13, t14, t15, hd']; done) | (simp (disch := first | omega | (simp only [add_nx, upd_nx] <;> omega) | decide) only [rUz, ↓reduceIte, Nat.reduceEqDiff, Nat.reduceAdd, t3, t4, t12, t13, t14, t15, hd']; rfl))
    | true =>
      have hX0 : X = 0 := by rw [← hDr, hfk rfl, Int.mul_zero]
      have hQ0 : decide (Q = 0) = true := decide_eq_true (by rw [hQ, hX0]; rfl)
      repeat refine S.seq ?_
      refine S.drawnL [(false, 0), (false, 0), (false, 3), (false, 7), (false, 0), (false, 31), (false, 63), (false, 0), (false, 0), (false, 384), (false, 0), (false, 0), (false, 3072), (false, 7168), (false, 0), (false, 31744), (false, 64512), (false, 130944), (false, 262143), (false, 524287), (false, 1048575), (false, 2097151), (false, 4194303), (false, 8388607), (false, 16777215), (false, 33554431)] (by kernel_rfl) (by kernel_rfl) (by kernel_rfl) ?_
      simp (disch := first | omega | (simp only [add_nx, upd_nx] <;> omega) | decide) only [rUz, ↓reduceIte, Nat.reduceEqDiff, Nat.reduceAdd, rDz, infoL, Nat.reduceSub, t3, t13, t14, t15, t17, t18, q1, q3, q6, r1, r3, r6, qI, x1, x3, x4, y1, y3, y4, p3, hval, hQ0, Bool.not_true]
      repeat refine S.seq ?_
      refine S.cond (v := false) (by first | rfl | (simp (disch := first | omega | (simp only [add_nx, upd_nx] <;> omega) | decide) only [rUz, ↓reduceIte, Nat.reduceEqDiff, Nat.reduceAdd] <;> rfl)) (fun e => by cases e) (fun _ => ?_)
      repeat refine S.seq ?_
      refine S.skip ?_
      simp (disch := first | omega | (simp only [add_nx, upd_nx] <;> omega) | decide) only [rUz, ↓reduceIte, Nat.reduceEqDiff, Nat.reduceAdd]
      repeat refine S.seq ?_
      refine S.region ?_
      simp (disch := first | omega | (simp only [add_nx, upd_nx] <;> omega) | decide) only [rUz, ↓reduceIte, Nat.reduceEqDiff, Nat.reduceAdd, t13, t14, t18, q1, q3, q6, qI, x1, x3, x4, p3]
      repeat refine S.seq ?_
      refine S.region ?_
      simp (disch := first | omega | (simp only [add_nx, upd_nx] <;> omega) | decide) only [rUz, ↓reduceIte, Nat.reduceEqDiff, Nat.reduceAdd, t18]
      refine hn (k + 1) _ _ (by omega) ⟨rfl, ?_, ?_, ?_, ?_, ?_, ?_, ?_, ?_, by omega⟩
      all_goals (first | rfl | (simp (disch := first | omega | (simp only [add_nx, upd_nx] <;> omega) | decide) only [rUz, ↓reduceIte, Nat.reduceEqDiff, Nat.reduceAdd, t3, t4, t12, t13, t14, t15, hd']; done) | (simp (disch := first | omega | (simp only [add_nx, upd_nx] <;> omega) | decide) only [rUz, ↓reduceIte, Nat.reduceEqDiff, Nat.reduceAdd, t3, t4, t12, t13, t14, t15, hd']; rfl))
  have hkn : k = D.length := by have := of_decide_eq_false e; omega
  subst hkn
  refine S.exit (he _ _ _ _ (fun e => by cases e) ?_)
  simp (disch := first | omega | (simp only [add_nx, upd_nx] <;> omega) | decide) only [rUz, ↓reduceIte, Nat.reduceEqDiff, Nat.reduceAdd]
  cases nf with
  | false =>
    repeat refine S.seq ?_
    refine S.drawnL [(false, 0), (false, 1), (false, 3), (false, 7), (false, 7), (false, 31), (false, 63), (true, 127), (false, 7), (false, 263), (false, 7), (false, 1799), (false, 3847), (false, 7943), (false, 7), (false, 32519), (false, 65535), (false, 131071), (false, 262143), (true, 524287), (false, 1048575), (false, 2097151)] (by kernel_rfl) (by kernel_rfl) (by kernel_rfl) ?_
    simp (disch := first | omega | (simp only [add_nx, upd_nx] <;> omega) | decide) only [rUz, ↓reduceIte, Nat.reduceEqDiff, Nat.reduceAdd, rDz, infoL, Nat.reduceSub, draw_read2, t3, un_not, Bool.not_false]
    refine drW_prim (fid := 9) (first := #[]) (captured := #[]) (v := .bool true) rfl (hT.awake _) (Nat.le_of_ble_eq_true rfl) ?_ ?_
    · try simp (disch := first | decide | rfl) only [again_nil, again_skip, again_free]
    simp (disch := first | omega | (simp only [add_nx, upd_nx] <;> omega) | decide) only [rUz, ↓reduceIte, Nat.reduceEqDiff, Nat.reduceAdd, rDz, infoL, Nat.reduceSub]
    refine S.ret ?_
    try simp only [seqK_ret, blockK_ret]
    subst hF
    simp only [finish, endMarks]
    rw [show Try.f7.results.toList = [.tmp 8] from rfl]
    simp (disch := first | omega | (simp only [add_nx, upd_nx] <;> omega) | decide) only [resA, ev_tmp, tget_ne, tget_eq, get_ne, get_eq, upd_eq, upd_ne, ag_eq, ag_ne, result1]
    exact hKr _ kp3
  | true =>
    have hsum := calls_sum (m := x.2.1) (g := x.2.2.1) (vs := vsF x.2.2.2 Ts) D.length (hfr rfl)
    have hcb := calls_bnd hrt hm0 hm1 hox.g0 hox.g1 hd4
    have hlC : (callsOf D.length Ts rt x).length = D.length := by simp only [callsOf, callsZ, List.length_map, List.length_range]
    have hdb := debt_bnd hrt hm0 hm1 hox.g0 hox.g1 hd4 D.length (Nat.le_refl _)
    have hsd : decide (sumL (callsOf D.length Ts rt x) = x.2.1 - debtZ x.2.1 x.2.2.1 (vsF x.2.2.2 Ts) (rsF rt) D.length) = true := decide_eq_true hsum
    repeat refine S.seq ?_
    refine S.drawnL [(false, 0), (false, 1), (false, 3), (false, 7), (false, 7), (false, 31), (false, 63), (true, 127), (false, 7), (false, 263), (false, 7), (false, 1799), (false, 3847), (false, 7943), (false, 7), (false, 32519), (false, 65535), (false, 131071), (false, 262143), (true, 524287), (false, 1048575), (false, 2097151)] (by kernel_rfl) (by kernel_rfl) (by kernel_rfl) ?_
    simp (disch := first | omega | (simp only [add_nx, upd_nx] <;> omega) | decide) only [rUz, ↓reduceIte, Nat.reduceEqDiff, Nat.reduceAdd, rDz, infoL, Nat.reduceSub, draw_read2, t3, t4, t13, t15, t17, un_not, Bool.not_true, r1, r3, r6, qI, hb4, fieldAddr_ptr fA2 lrL, qrL, bk2, u1, u3, fieldAddr_ptr frL0 s3, p3, u6]
    refine drW_brings (fid := 14) (first := #[]) (captured := #[]) (Post := fun u g => u = iv (sumL (callsOf D.length Ts rt x)) ∧ g = h) rfl (hoff _ _ _ rfl) (by simp (disch := first | omega | (simp only [add_nx, upd_nx] <;> omega) | decide) only [rUz, ↓reduceIte, Nat.reduceEqDiff, Nat.reduceAdd]; exact sum_y S h yC.1 (callsOf D.length Ts rt x) iC (by omega) hcb) (Nat.le_of_ble_eq_true rfl) ?_
    rintro u g - ⟨rfl, rfl⟩
    refine ⟨?_, ?_⟩
    · try simp (disch := first | decide | rfl) only [again_nil, again_skip, again_free]
      rw [again_same (v := iv x.2.1) (by simp (disch := first | omega | (simp only [add_nx, upd_nx] <;> omega) | decide) only [rUz, ↓reduceIte, Nat.reduceEqDiff, Nat.reduceAdd, rDz, infoL, Nat.reduceSub, u3, fieldAddr_ptr frL0 s3, p3, u6]) (by first | assumption | exact veq_int | rfl)]
      try simp (disch := first | decide | rfl) only [again_nil, again_skip, again_free]
      rw [again_same (v := lv) (by simp (disch := first | omega | (simp only [add_nx, upd_nx] <;> omega) | decide) only [rUz, ↓reduceIte, Nat.reduceEqDiff, Nat.reduceAdd, rDz, infoL, Nat.reduceSub, t4, hb4, fieldAddr_ptr fA2 lrL, qrL, bk2]) (row_veq hb.ln)]
      try simp (disch := first | decide | rfl) only [again_nil, again_skip, again_free]
    simp (disch := first | omega | (simp only [add_nx, upd_nx] <;> omega) | decide) only [rUz, ↓reduceIte, Nat.reduceEqDiff, Nat.reduceAdd, rDz, infoL, Nat.reduceSub, hsd]
    refine drW_prim (fid := 9) (first := #[]) (captured := #[]) (v := .bool true) ?_ ?_ ?_ ?_ ?_
    · rfl
    · exact hT.awake _
    · exact Nat.le_of_ble_eq_true rfl
    · try simp (disch := first | decide | rfl) only [again_nil, again_skip, again_free]
    simp (disch := first | omega | (simp only [add_nx, upd_nx] <;> omega) | decide) only [rUz, ↓reduceIte, Nat.reduceEqDiff, Nat.reduceAdd, rDz, infoL, Nat.reduceSub]
    refine S.ret ?_
    try simp only [seqK_ret, blockK_ret]
    subst hF
    simp only [finish, endMarks]
    rw [show Try.f7.results.toList = [.tmp 8] from rfl]
    simp (disch := first | omega | (simp only [add_nx, upd_nx] <;> omega) | decide) only [resA, ev_tmp, tget_ne, tget_eq, get_ne, get_eq, upd_eq, upd_ne, ag_eq, ag_ne, result1]
    exact hKr _ kp3
end Go.Proofs.Mg
