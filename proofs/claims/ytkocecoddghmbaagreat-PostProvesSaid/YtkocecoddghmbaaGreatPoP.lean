import Derived.Test.YtkocecoddghmbaaGreatPoO
import Derived.Test.YtkocecoddghmbaaGreatPp3
/- The sales of a truth, by the reference. -/
namespace Go.Proofs.Po
open Go Go.Ev Go.RowKit
set_option linter.unusedSimpArgs false
variable {pr : Prim} {R : ExT}
theorem aL : arrOf Tryz.prog 82 = some (6, 3) := by kernel_rfl
theorem zL : zeroOf Tryz.prog 82 = some (.agg ⟨[iv 0, iv 0, iv 0, iv 0, iv 0, iv 0]⟩) := by kernel_rfl
theorem ixL {B j : Nat} (hj : j < 6) : rIndexAddr Tryz.prog 82 (.pointer (some ⟨B, 0, none⟩)) (iv (j : Int)) = some (.pointer (some ⟨B, j, none⟩)) := by
  rw [indexAddr_arr aL s3' hj, Nat.zero_add, Nat.mul_one]
theorem eq5759 {t : T Value} {ty : TypeId} {pos : String} {af : Array Edge} {g : Option (Nat × Bool)} {dst : Option Tmp} {p q : Bool} (h1 : tget t 57 = .bool p) (h2 : tget t 59 = .bool q) : rBin Tryz.prog t ⟨dst, .binOp .eql 4 (.tmp 57) (.tmp 59) 4, ty, pos, af, g⟩ .eql 4 (.bool q) (.bool p) = some (.bool (p == q)) := by
  rw [rBin_bool, nilB]
  refine bin_congr (t' := T.set 60 (T.set 58 .leaf 57 (.bool p)) 59 (.bool q)) h1 h2 ?_ ?_ ?_
  · cases p <;> cases q <;> kernel_rfl
  · cases p <;> cases q <;> kernel_rfl
  · cases p <;> cases q <;> kernel_rfl
theorem brS3 (a b c : Int) : rBuild Tryz.prog 90 [(0, iv a), (1, iv b), (3, iv c)] = some (.agg ⟨[iv a, iv b, iv 0, iv c]⟩) := by kernel_rfl
theorem lvg {rl : List Int} (h6 : rl.length = 6) {j : Nat} (hj : j < 6) : (rl.map iv)[j]? = some (iv (lg rl j)) := by
  rw [List.getElem?_map, lg_get (by omega)]; rfl
theorem lvs {rl : List Int} {j : Nat} {x : Int} : (rl.map iv).set j (iv x) = (rl.set j x).map iv := by rw [List.map_set]
/-- What the reference's heap bears: what is left, and the sales. -/
structure PSt (H : AHeap) (B6 : Nat) (S : List Nat) (st : ST) (rl : List Int) (F : Nat) (u : Value) (h : AHeap) : Prop where
  fr : Fr H B6 h
  b6 : h.bl.get B6 = some (.cells (rl.map iv) B6 false)
  r6 : rl.length = 6
  ok : LfOk st.1
  agr : Agr rl st.1 S
  app : App H.nx h 4 u (st.2.map cSa) F
  flt : st.2.map cSa ≠ [] → F < h.nx
theorem PSt.mono {H h h' : AHeap} {B6 F : Nat} {S : List Nat} {st : ST} {rl : List Int} {u : Value} (k : PSt H B6 S st rl F u h) (hB : B6 < H.nx) (a : Kp h h') : PSt H B6 S st rl F u h' :=
  ⟨k.fr.kp a, (a.get (Nat.lt_of_lt_of_le hB k.fr.le)).trans k.b6, k.r6, k.ok, k.agr, k.app.mono a, fun e => Nat.lt_of_lt_of_le (k.flt e) a.1⟩
structure IPo (O : List Od) (L : List Nat) (PL : ST) (H : AHeap) (B2 B6 : Nat) (cv : Value) (k : Nat) (t : T Value) (h : AHeap) : Prop where
  hk : k ≤ L.length
  ex : ∃ st rl F u, PSt H B6 (L.take k) st rl F u h ∧ (∀ j, j < O.length → j ∉ L.take k → lg st.1 j = (od O j).n) ∧ runZ O (L.drop k) (L.take k) st = PL ∧ st.2.length ≤ 20 * k ∧ tget t 5 = u
  t2 : tget t 2 = ptr0 B2
  t6 : tget t 6 = ptr0 B6
  t7 : tget t 7 = cv
  t8 : tget t 8 = iv (k : Int)
structure FT (B2 B6 B10 : Nat) (cv u : Value) (k a : Nat) (t : T Value) : Prop where
  t2 : tget t 2 = ptr0 B2
  t5 : tget t 5 = u
  t6 : tget t 6 = ptr0 B6
  t7 : tget t 7 = cv
  t8 : tget t 8 = iv (k : Int)
  t9 : tget t 9 = iv (a : Int)
  t10 : tget t 10 = ptr0 B10
structure IPw (O : List Od) (came : List Nat) (st0 : ST) (H : AHeap) (B2 B6 B10 : Nat) (cv : Value) (k a : Nat) (f : Nat) (t : T Value) (h : AHeap) : Prop where
  b10 : h.bl.get B10 = some (.cells (cOd (od O a)) B10 false)
  lt10 : B10 < h.nx
  ex : ∃ st rl F u, PSt H B6 (came ++ [a]) st rl F u h ∧ (st.2.map cSa ≠ [] → F ≠ B10) ∧ (lg st.1 a).toNat ≤ f ∧ comeZ O came a f st = comeZ O came a 20 st0 ∧ st.2.length + f ≤ st0.2.length + 20 ∧ FT B2 B6 B10 cv u k a t
def accI : Option Nat → Int
  | none => -1
  | some b => (b : Int)
structure IPb (O : List Od) (lf : List Int) (came : List Nat) (Hw : AHeap) (B2 B6 B10 : Nat) (cv u : Value) (k a : Nat) (m : Nat) (t : T Value) (h : AHeap) : Prop where
  hm : m ≤ came.length
  kp : Kp Hw h
  ex : ∃ acc : Option Nat, pickZ O lf a came none = pickZ O lf a (came.drop m) acc ∧ (∀ b, acc = some b → b < O.length ∧ canB O lf a b = true) ∧ tget t 11 = iv (accI acc)
  ft : FT B2 B6 B10 cv u k a t
  t12 : tget t 12 = iv (m : Int)
structure IPd (rl : List Int) (a r : Nat) (bu se : Nat) (pr : Int) (m : Nat) (H2 : AHeap) (B2 B6 B10 B15 : Nat) (cv u : Value) (k : Nat) (i : Nat) (t : T Value) (h : AHeap) : Prop where
  hi : i ≤ m
  fr : Fr H2 B6 h
  b6 : h.bl.get B6 = some (.cells ((dec2 rl a r (i : Int)).map iv) B6 false)
  b15 : h.bl.get B15 = some (.cells [iv (bu : Int), iv (se : Int), iv (i : Int), iv pr] B15 false)
  f15 : h.fams.get B15 = some [B15]
  n15 : B15 < h.nx
  ft : FT B2 B6 B10 cv u k a t
  t11 : tget t 11 = iv (r : Int)
  t15 : tget t 15 = ptr0 B15
theorem frHi {H h : AHeap} {B B' f : Nat} {c : List Value} (a : Fr H B h) (hB : H.nx ≤ B') : Fr H B (h.upd B' c f) :=
  ⟨a.le, fun j hj hn => by rw [upd_ne _ _ _ (by omega)]; exact a.bl j hj hn, fun j hj => by rw [upd_fams]; exact a.fam j hj⟩
theorem tf (b : Bool) : b = true ∨ b = false := by cases b <;> simp
theorem run_end (O : List Od) (l came : List Nat) (st : ST) : runZ O (l.drop l.length) came st = st := by
  rw [List.drop_length]; rfl
theorem new_of {L : List Nat} {k a : Nat} (hp : L.Pairwise fun x y => x ≠ y) (h : L[k]? = some a) : a ∉ L.take k := by
  intro hm
  obtain ⟨hk, e⟩ := List.getElem?_eq_some_iff.1 h
  rw [← List.take_append_drop k L, List.pairwise_append] at hp
  refine hp.2.2 a hm a ?_ rfl
  rw [List.drop_eq_getElem_cons hk, e]; simp
set_option maxRecDepth 20000 in
set_option maxHeartbeats 64000000 in
theorem rplay_y (S : Ev.Steps Tryz.prog pr R) (hoff : Off pr) (h0 : AHeap) (v tv : Value) (O : List Od) (t0 : List Int) (hb : PoAt h0 v O) (ht : IAt h0 tv t0) (hv : Val O) (htr : Tru O t0) :
    Brings Tryz.prog R 20 [.agg ⟨poV v⟩, tv] h0 fun u h => SlAt h 4 u ((playZ O t0).2.map cSa) := by
  refine brings_of (fn := Tryz.f20) (c := (Tryz.f20.body).getD .skip) (by kernel_rfl) rfl (by kernel_rfl) rfl (fun K hK => ?_)
  generalize hF : finish Tryz.prog Tryz.f20 K = KF
  simp only [Tryz.f20, Option.getD_some, argsT, setArgs, fV1_eq, T.setK_eq, id]
  have h6 := hv.l6
  have htl := htr.len
  have hol := ord_len htr.rng
  have ordO : ∀ a, a ∈ ordZ t0 → a < O.length := fun a ha => by have := ord_lt ha; omega
  repeat refine S.seq ?_
  refine S.region ?_
  simp (disch := first | omega | (simp only [add_nx, upd_nx] <;> omega) | decide) only [rUz, ↓reduceIte, Nat.reduceEqDiff, Nat.reduceAdd]
  obtain ⟨B2, hB2⟩ : ∃ x, x = h0.nx := ⟨_, rfl⟩
  have hb2 : (h0.add (poV v)).bl.get B2 = some (.cells (poV v) B2 false) := by subst hB2; exact ag_eq rfl
  have hk1 : Kp h0 (h0.add (poV v)) := Kp.refl.add
  have hn1 : (h0.add (poV v)).nx = h0.nx + 1 := rfl
  rw [← hB2]
  generalize h0.add (poV v) = G0 at hb2 hk1 hn1 ⊢
  repeat refine S.seq ?_
  refine S.region ?_
  simp (disch := first | omega | (simp only [add_nx, upd_nx] <;> omega) | decide) only [rUz, ↓reduceIte, Nat.reduceEqDiff, Nat.reduceAdd]
  repeat refine S.seq ?_
  refine S.region ?_
  simp (disch := first | omega | (simp only [add_nx, upd_nx] <;> omega) | decide) only [rUz, ↓reduceIte, Nat.reduceEqDiff, Nat.reduceAdd, wr_alloc zL]
  obtain ⟨B6, hB6⟩ : ∃ x, x = G0.nx := ⟨_, rfl⟩
  have hk2 : Kp G0 (G0.add [iv 0, iv 0, iv 0, iv 0, iv 0, iv 0]) := Kp.refl.add
  have hb6 : (G0.add [iv 0, iv 0, iv 0, iv 0, iv 0, iv 0]).bl.get B6 = some (.cells [iv 0, iv 0, iv 0, iv 0, iv 0, iv 0] B6 false) := by subst hB6; exact ag_eq rfl
  have hf6 : (G0.add [iv 0, iv 0, iv 0, iv 0, iv 0, iv 0]).fams.get B6 = some [B6] := by subst hB6; exact af_eq rfl
  have hn6 : B6 < (G0.add [iv 0, iv 0, iv 0, iv 0, iv 0, iv 0]).nx := by subst hB6; exact Nat.lt_succ_self _
  rw [← hB6]
  generalize G0.add [iv 0, iv 0, iv 0, iv 0, iv 0, iv 0] = G1 at hk2 hb6 hf6 hn6 ⊢
  replace hb2 := (hk2.get (by omega : B2 < G0.nx)).trans hb2
  have hB26 : B2 < B6 := by omega
  have ho6 : h0.nx ≤ B6 := by omega
  replace hk1 := hk1.trans hk2
  clear hk2 hn1 hB2 hB6
  clear G0
  repeat refine S.seq ?_
  refine S.region ?_
  simp (disch := first | omega | (simp only [add_nx, upd_nx] <;> omega) | decide) only [rUz, ↓reduceIte, Nat.reduceEqDiff, Nat.reduceAdd, hb2, part_0 pA (poV_len v)]
  refine wr_brings (fid := 39) (first := #[]) (captured := #[]) (Post := fun u h => SlAt h 1 u ((ordZ t0).map cn) ∧ ∀ b, blk u = some b → G1.nx ≤ b) rfl (hoff _ _ _ rfl) (by simp (disch := first | omega | (simp only [add_nx, upd_nx] <;> omega) | decide) only [rUz, ↓reduceIte, Nat.reduceEqDiff, Nat.reduceAdd]; exact comes_y S G1 v tv t0 (ht.mono hk1) (by omega)) ?_
  rintro cv H hkg ⟨hcv, hcb⟩
  have hst0 := run_start O t0
  have hpw := ord_nodup t0
  generalize playZ O t0 = PL at hst0 hK
  generalize ordZ t0 = L at hst0 hpw hcv hol ordO
  replace hb2 := (hkg.get (by omega : B2 < G1.nx)).trans hb2
  replace hb6 := (hkg.get hn6).trans hb6
  replace hf6 := (hkg.fget hn6).trans hf6
  replace hk1 := hk1.trans hkg
  have hbH := hb.mono hk1
  have hn6' := hn6
  replace hn6 : B6 < H.nx := Nat.lt_of_lt_of_le hn6 hkg.1
  have hcb' : ∀ b, blk cv = some b → B6 < b := fun b hb => by have := hcb b hb; omega
  clear hkg hcb hn6'
  clear G1
  -- what lies below H is kept
  have poF : ∀ h, Fr H B6 h → PoAt h v O := fun h fr => slAt_low hb (Nat.le_refl _) (by have := fr.le; have := hk1.1; omega) fun j hj => (fr.bl j (by have := hk1.1; omega) (by omega)).trans (hk1.get hj)
  have cvF : ∀ h, Fr H B6 h → SlAt h 1 cv (L.map cn) := fun h fr => slAt_ne hcv fr.le fun j hj hlt => fr.bl j hlt (by have := hcb' j hj; omega)
  have b2F : ∀ h, Fr H B6 h → h.bl.get B2 = some (.cells (poV v) B2 false) := fun h fr => (fr.bl B2 (by omega) (by omega)).trans hb2
  have f6F : ∀ h, Fr H B6 h → h.fams.get B6 = some [B6] := fun h fr => (fr.fam B6 hn6).trans hf6
  simp (disch := first | omega | (simp only [add_nx, upd_nx] <;> omega) | decide) only [rUz, ↓reduceIte, Nat.reduceEqDiff, Nat.reduceAdd]
  repeat refine S.seq ?_
  refine S.region ?_
  simp (disch := first | omega | (simp only [add_nx, upd_nx] <;> omega) | decide) only [rUz, ↓reduceIte, Nat.reduceEqDiff, Nat.reduceAdd]
  repeat refine S.seq ?_
  refine S.block ?_
  refine S.loop (ι := Nat) (IPo O L PL H B2 B6 cv) (fun k => L.length - k) ?_ 0 _ _ ?_
  rotate_left
  · refine ⟨Nat.zero_le _, ⟨(left0 O O.length, []), [0, 0, 0, 0, 0, 0], 0, nl, ⟨Fr.refl, hb6, rfl, left0_ok hv, ?_, .inl ⟨rfl, rfl⟩, fun e => absurd rfl e⟩, ?_, hst0, Nat.zero_le _, ?_⟩, ?_, ?_, ?_, ?_⟩
    · intro j hj; rw [List.take_zero] at hj; cases hj
    · intro j hj _
      show lg (left0 O O.length) j = _
      rw [left0_get _ _ _ (by omega), if_pos hj]
    all_goals (first | rfl | (simp (disch := first | omega | (simp only [add_nx, upd_nx] <;> omega) | decide) only [rUz, ↓reduceIte, Nat.reduceEqDiff, Nat.reduceAdd]; done) | (simp (disch := first | omega | (simp only [add_nx, upd_nx] <;> omega) | decide) only [rUz, ↓reduceIte, Nat.reduceEqDiff, Nat.reduceAdd]; rfl))
  intro k t h ⟨hk, ⟨st0, rl0, F0, u0, ps0, hfresh, hrun, hsl, t5⟩, t2, t6, t7, t8⟩ K' hn he
  have lC := fun t h1 o => row_len (cvF h ps0.fr) isI t h1 o
  repeat refine S.seq ?_
  refine S.region ?_
  simp (disch := first | omega | (simp only [add_nx, upd_nx] <;> omega) | decide) only [rUz, ↓reduceIte, Nat.reduceEqDiff, Nat.reduceAdd, t7, t8, lC]
  repeat refine S.seq ?_
  refine S.cond (v := decide ((k : Int) < (L.length : Int))) (by first | rfl | (simp (disch := first | omega | (simp only [add_nx, upd_nx] <;> omega) | decide) only [rUz, ↓reduceIte, Nat.reduceEqDiff, Nat.reduceAdd] <;> rfl)) (fun e => ?_) (fun e => ?_)
  · have hkn : k < L.length := by have := of_decide_eq_true e; omega
    clear e
    have hps : L[k]? = some L[k] := List.getElem?_eq_getElem hkn
    have haO := ordO _ (List.getElem_mem hkn)
    have hnew := new_of hpw hps
    have hstep := run_step (O := O) (came := L.take k) (st := st0) hps
    have htk := take_at hps
    rw [hstep] at hrun
    have hcame : ∀ r, r ∈ L.take k → r < O.length := fun r hr => ordO r (List.mem_of_mem_take hr)
    generalize L[k] = a at hps haO hnew htk hrun
    have hcl : (L.take k).length = k := by rw [List.length_take]; omega
    have hcg : ∀ m, m < k → (L.take k)[m]? = L[m]? := fun m hm => by rw [List.getElem?_take, if_pos hm]
    generalize L.take k = came at ps0 hfresh hrun hnew htk hcame hcl hcg
    have ha6 : a < 6 := by omega
    have hiA := ixL (B := B6) ha6
    have hpoH := poF h ps0.fr
    have hb2h := b2F h ps0.fr
    have hf6h := f6F h ps0.fr
    obtain ⟨b1, f1, o1, c1, r1, r2, r3, r4, r5, r6⟩ := row_idx (cvF h ps0.fr) slI s3' hps
    have r6 := r6 0 (iv (a : Int)) rfl
    rw [Nat.mul_one] at r1
    rw [Nat.mul_one, Nat.add_zero] at r6
    obtain ⟨b2, f2, o2, c2', q1, q2, q3, q4, q5, _⟩ := row_idx hpoH slrO srO (od_get haO)
    have qp := part_at prO q4 q5
    have hrl6 : (rl0.map iv).length = 6 := by rw [List.length_map]; exact ps0.r6
    repeat refine S.seq ?_
    refine S.skip ?_
    simp (disch := first | omega | (simp only [add_nx, upd_nx] <;> omega) | decide) only [rUz, ↓reduceIte, Nat.reduceEqDiff, Nat.reduceAdd]
    repeat refine S.seq ?_
    refine S.block ?_
    repeat refine S.seq ?_
    refine S.region ?_
    simp (disch := first | omega | (simp only [add_nx, upd_nx] <;> omega) | decide) only [rUz, ↓reduceIte, Nat.reduceEqDiff, Nat.reduceAdd, t7, t8, r1, r3, p3, r6]
    repeat refine S.seq ?_
    refine S.region ?_
    simp (disch := first | omega | (simp only [add_nx, upd_nx] <;> omega) | decide) only [rUz, ↓reduceIte, Nat.reduceEqDiff, Nat.reduceAdd, t2, hb2h, fieldAddr_ptr fA0 lrO, qrO, po0, q1, q3, qp, wr_alloc zrO]
    refine wr_storeN (B := h.nx) (c := [.bool false, iv 0, iv 0, iv 0, iv 0]) (fam := h.nx) (k := h.nx) (l := cOd (od O a)) (by simp (disch := first | omega | (simp only [add_nx, upd_nx] <;> omega) | decide) only [rUz, ↓reduceIte, Nat.reduceEqDiff, Nat.reduceAdd]) (by simp (disch := first | omega | (simp only [add_nx, upd_nx] <;> omega) | decide) only [rUz, ↓reduceIte, Nat.reduceEqDiff, Nat.reduceAdd]) srO (by omega) rfl (ag_eq rfl) (af_eq rfl) rfl ?_
    have hk4 : Kp h ((h.add [.bool false, iv 0, iv 0, iv 0, iv 0]).upd h.nx (cOd (od O a)) h.nx) := Kp.refl.add.upd (Nat.le_refl _)
    have hg4 : ((h.add [.bool false, iv 0, iv 0, iv 0, iv 0]).upd h.nx (cOd (od O a)) h.nx).bl.get h.nx = some (.cells (cOd (od O a)) h.nx false) := upd_eq _ _ _
    have hn4 : h.nx < ((h.add [.bool false, iv 0, iv 0, iv 0, iv 0]).upd h.nx (cOd (od O a)) h.nx).nx := Nat.lt_succ_self _
    simp (disch := first | omega | (simp only [add_nx, upd_nx] <;> omega) | decide) only [rUz, ↓reduceIte, Nat.reduceEqDiff, Nat.reduceAdd]
    generalize (h.add [.bool false, iv 0, iv 0, iv 0, iv 0]).upd h.nx (cOd (od O a)) h.nx = h4 at hk4 hg4 hn4 ⊢
    have hle0 := ps0.fr.le
    obtain ⟨B10, hB10⟩ : ∃ x, x = h.nx := ⟨_, rfl⟩
    rw [← hB10] at hg4 hn4 ⊢
    have ps1 := ps0.mono hn6 hk4
    have hf64 := (hk4.fget (by omega : B6 < h.nx)).trans hf6h
    have hb64 := ps1.b6
    clear q1 q2 q3 q4 q5 qp r1 r2 r3 r4 r5 r6
    repeat refine S.seq ?_
    refine S.region ?_
    simp (disch := first | omega | (simp only [add_nx, upd_nx] <;> omega) | decide) only [rUz, ↓reduceIte, Nat.reduceEqDiff, Nat.reduceAdd, t6, hg4, fieldAddr_ptr frO2 s3, p3, cOd2, hiA]
    refine wr_store s3' ?_
    simp (disch := first | omega | (simp only [add_nx, upd_nx] <;> omega) | decide) only [rUz, ↓reduceIte, Nat.reduceEqDiff, Nat.reduceAdd, hb64, hf64, lvs]
    obtain ⟨G, hG⟩ : ∃ z, z = h4.upd B6 ((rl0.set a (od O a).n).map iv) B6 := ⟨_, rfl⟩
    have psG : PSt H B6 (came ++ [a]) st0 (rl0.set a (od O a).n) F0 u0 G := by
      subst hG
      refine ⟨ps1.fr.upd, upd_eq _ _ _, by rw [List.length_set]; exact ps0.r6, ps0.ok, fun j hj => ?_, ps1.app.upd hn6, ps1.flt⟩
      rw [lg_set (by rw [ps0.r6]; exact ha6)]
      by_cases e : a = j
      · subst e; rw [if_pos rfl]; exact (hfresh a haO hnew).symm
      · rw [if_neg e]
        rcases List.mem_append.1 hj with hj | hj
        · exact ps0.agr j hj
        · simp at hj; exact absurd hj.symm e
    have b10G : G.bl.get B10 = some (.cells (cOd (od O a)) B10 false) := by subst hG; rw [upd_ne _ _ _ (by omega)]; exact hg4
    have n10G : B10 < G.nx := by subst hG; exact hn4
    have hFB0 : st0.2.map cSa ≠ [] → F0 ≠ B10 := fun e => by have := ps0.flt e; omega
    have hB6x : B6 < B10 := by omega
    rw [← hG]
    have hst20 : (lg st0.1 a).toNat ≤ 20 := by have := ps0.ok.b a; omega
    repeat refine S.seq ?_
    refine S.block ?_
    refine S.loop (ι := Nat) (IPw O came st0 H B2 B6 B10 cv k a) (fun f => f) ?_ 20 _ _ ?_
    rotate_left
    · refine ⟨b10G, n10G, ⟨st0, _, F0, u0, psG, hFB0, hst20, rfl, by omega, ?_, ?_, ?_, ?_, ?_, ?_, ?_⟩⟩
      all_goals (first | rfl | (simp (disch := first | omega | (simp only [add_nx, upd_nx] <;> omega) | decide) only [rUz, ↓reduceIte, Nat.reduceEqDiff, Nat.reduceAdd, t2, t5, t6, t7, t8]; done) | (simp (disch := first | omega | (simp only [add_nx, upd_nx] <;> omega) | decide) only [rUz, ↓reduceIte, Nat.reduceEqDiff, Nat.reduceAdd, t2, t5, t6, t7, t8]; rfl))
    clear t2 t5 t6 t7 t8 hg4 hn4 hk4 hB10 b10G n10G psG ps1 hb64 hf64 hG hpoH hb2h hf6h lC
    clear t
    intro f t hw ⟨b10, lt10, ⟨st, rl, F, u, ps, hFB, hf, hcz, hln, ft⟩⟩ K2 hn2 he2
    have stop : ∀ (st : ST) (rl : List Int) (F : Nat) (u : Value) (f : Nat) (t : T Value) (h' : AHeap), PSt H B6 (came ++ [a]) st rl F u h' → FT B2 B6 B10 cv u k a t → pickZ O st.1 a came none = none → (∃ g, comeZ O came a g st = comeZ O came a 20 st0) → st.2.length + f ≤ st0.2.length + 20 → K2 (.exit 2) t h' [] = true := fun st rl F u f t h' ps ft hpz hcz hln => by
      obtain ⟨g, hcz⟩ := hcz
      have hfin : comeZ O came a 20 st0 = st := by rw [← hcz, come_none hpz]
      have cok := come_ok (O := O) ha6 (fun r hr => by have := hcame r hr; omega) 20 st0 ps0.ok
      rw [hfin] at cok hrun
      refine he2 _ _ _ _ (fun e => by cases e) ?_
      obtain ⟨t2, t5, t6, t7, t8, t9, t10⟩ := ft
      simp (disch := first | omega | (simp only [add_nx, upd_nx] <;> omega) | decide) only [rUz, ↓reduceIte, Nat.reduceEqDiff, Nat.reduceAdd]
      repeat refine S.seq ?_
      refine S.region ?_
      simp (disch := first | omega | (simp only [add_nx, upd_nx] <;> omega) | decide) only [rUz, ↓reduceIte, Nat.reduceEqDiff, Nat.reduceAdd, t8]
      refine hn (k + 1) _ _ (by omega) ⟨by omega, ⟨st, rl, F, u, by rw [htk]; exact ps, fun j hj hjn => ?_, by rw [htk]; exact hrun, by omega, ?_⟩, ?_, ?_, ?_, ?_⟩
      · rw [htk] at hjn
        have h1 : j ∉ came := fun q => hjn (List.mem_append.2 (.inl q))
        have h2 : j ≠ a := fun q => hjn (List.mem_append.2 (.inr (by simp [q])))
        rw [cok.keep j h1 h2]
        exact hfresh j hj h1
      all_goals (first | rfl | (simp (disch := first | omega | (simp only [add_nx, upd_nx] <;> omega) | decide) only [rUz, ↓reduceIte, Nat.reduceEqDiff, Nat.reduceAdd, t2, t5, t6, t7]; done) | (simp (disch := first | omega | (simp only [add_nx, upd_nx] <;> omega) | decide) only [rUz, ↓reduceIte, Nat.reduceEqDiff, Nat.reduceAdd, t2, t5, t6, t7]; rfl))
    have hra : lg rl a = lg st.1 a := ps.agr a (by simp)
    have hga := lvg ps.r6 ha6
    have hb6w := ps.b6
    repeat refine S.seq ?_
    refine S.region ?_
    simp (disch := first | omega | (simp only [add_nx, upd_nx] <;> omega) | decide) only [rUz, ↓reduceIte, Nat.reduceEqDiff, Nat.reduceAdd, ft.t6, ft.t9, hiA, hb6w, p3, hga]
    repeat refine S.seq ?_
    refine S.cond (v := decide (0 < lg rl a)) (by first | rfl | (simp (disch := first | omega | (simp only [add_nx, upd_nx] <;> omega) | decide) only [rUz, ↓reduceIte, Nat.reduceEqDiff, Nat.reduceAdd] <;> rfl)) (fun e => ?_) (fun e => ?_)
    · have hpos : 0 < lg st.1 a := by have := of_decide_eq_true e; omega
      clear e
      obtain ⟨f', rfl⟩ : ∃ f', f = f' + 1 := ⟨f - 1, by omega⟩
      have hm1 : decide ((-1 : Int) < 0) = true := rfl
      have hln' : st.2.length + f' ≤ st0.2.length + 20 := by omega
      obtain ⟨t2, t5, t6, t7, t8, t9, t10⟩ := ft
      repeat refine S.seq ?_
      refine S.skip ?_
      simp (disch := first | omega | (simp only [add_nx, upd_nx] <;> omega) | decide) only [rUz, ↓reduceIte, Nat.reduceEqDiff, Nat.reduceAdd]
      repeat refine S.seq ?_
      refine S.block ?_
      repeat refine S.seq ?_
      refine S.region ?_
      simp (disch := first | omega | (simp only [add_nx, upd_nx] <;> omega) | decide) only [rUz, ↓reduceIte, Nat.reduceEqDiff, Nat.reduceAdd]
      repeat refine S.seq ?_
      refine S.region ?_
      simp (disch := first | omega | (simp only [add_nx, upd_nx] <;> omega) | decide) only [rUz, ↓reduceIte, Nat.reduceEqDiff, Nat.reduceAdd]
      repeat refine S.seq ?_
      refine S.block ?_
      refine S.loop (ι := Nat) (IPb O st.1 came hw B2 B6 B10 cv u k a) (fun m => came.length - m) ?_ 0 _ _ ?_
      rotate_left
      · refine ⟨Nat.zero_le _, Kp.refl, ⟨none, rfl, (fun b e => by cases e), ?_⟩, ⟨?_, ?_, ?_, ?_, ?_, ?_, ?_⟩, ?_⟩
        all_goals (first | rfl | (simp (disch := first | omega | (simp only [add_nx, upd_nx] <;> omega) | decide) only [rUz, ↓reduceIte, Nat.reduceEqDiff, Nat.reduceAdd, t2, t5, t6, t7, t8, t9, t10, accI]; done) | (simp (disch := first | omega | (simp only [add_nx, upd_nx] <;> omega) | decide) only [rUz, ↓reduceIte, Nat.reduceEqDiff, Nat.reduceAdd, t2, t5, t6, t7, t8, t9, t10, accI]; rfl))
      clear t2 t5 t6 t7 t8 t9 t10
      clear t
      intro m t h2 ⟨hm, kpb, ⟨acc, hpk, hacc, t11⟩, ⟨t2, t5, t6, t7, t8, t9, t10⟩, t12⟩ K3 hn3 he3
      have psb := ps.mono hn6 kpb
      have hle2 := psb.fr.le
      have b10b := (kpb.get lt10).trans b10
      have lt10b := Nat.lt_of_lt_of_le lt10 kpb.1
      have hb2b := b2F h2 psb.fr
      have hpob := poF h2 psb.fr
      repeat refine S.seq ?_
      refine S.region ?_
      simp (disch := first | omega | (simp only [add_nx, upd_nx] <;> omega) | decide) only [rUz, ↓reduceIte, Nat.reduceEqDiff, Nat.reduceAdd, t12, t8]
      repeat refine S.seq ?_
      refine S.cond (v := decide ((m : Int) < (k : Int))) (by first | rfl | (simp (disch := first | omega | (simp only [add_nx, upd_nx] <;> omega) | decide) only [rUz, ↓reduceIte, Nat.reduceEqDiff, Nat.reduceAdd] <;> rfl)) (fun e => ?_) (fun e => ?_)
      · have hmk : m < k := by have := of_decide_eq_true e; omega
        clear e
        have hmc : m < came.length := by omega
        have hpm : came[m]? = some came[m] := List.getElem?_eq_getElem hmc
        have hjO := hcame _ (List.getElem_mem hmc)
        have hjS : came[m] ∈ came ++ [a] := List.mem_append.2 (.inl (List.getElem_mem hmc))
        have hLm : L[m]? = some came[m] := by rw [← hcg m hmk]; exact hpm
        rw [List.drop_eq_getElem_cons hmc, pickZ] at hpk
        generalize came[m] = j at hpm hjO hLm hpk hjS
        have hj6 : j < 6 := by omega
        obtain ⟨b1, f1, o1, c1, r1, r2, r3, r4, r5, r6⟩ := row_idx (cvF h2 psb.fr) slI s3' hLm
        have r6 := r6 0 (iv (j : Int)) rfl
        rw [Nat.mul_one] at r1
        rw [Nat.mul_one, Nat.add_zero] at r6
        obtain ⟨b2, f2, o2, c2', q1, q2, q3, q4, q5, _⟩ := row_idx hpob slrO srO (od_get hjO)
        have qp := part_at prO q4 q5
        repeat refine S.seq ?_
        refine S.skip ?_
        simp (disch := first | omega | (simp only [add_nx, upd_nx] <;> omega) | decide) only [rUz, ↓reduceIte, Nat.reduceEqDiff, Nat.reduceAdd]
        repeat refine S.seq ?_
        refine S.block ?_
        repeat refine S.seq ?_
        refine S.region ?_
        simp (disch := first | omega | (simp only [add_nx, upd_nx] <;> omega) | decide) only [rUz, ↓reduceIte, Nat.reduceEqDiff, Nat.reduceAdd, t7, t12, r1, r3, p3, r6]
        repeat refine S.seq ?_
        refine S.region ?_
        simp (disch := first | omega | (simp only [add_nx, upd_nx] <;> omega) | decide) only [rUz, ↓reduceIte, Nat.reduceEqDiff, Nat.reduceAdd, t2, hb2b, fieldAddr_ptr fA0 lrO, qrO, po0, q1, q3, qp, wr_alloc zrO]
        refine wr_storeN (B := h2.nx) (c := [.bool false, iv 0, iv 0, iv 0, iv 0]) (fam := h2.nx) (k := h2.nx) (l := cOd (od O j)) (by simp (disch := first | omega | (simp only [add_nx, upd_nx] <;> omega) | decide) only [rUz, ↓reduceIte, Nat.reduceEqDiff, Nat.reduceAdd]) (by simp (disch := first | omega | (simp only [add_nx, upd_nx] <;> omega) | decide) only [rUz, ↓reduceIte, Nat.reduceEqDiff, Nat.reduceAdd]) srO (by omega) rfl (ag_eq rfl) (af_eq rfl) rfl ?_
        have hk14 : Kp h2 ((h2.add [.bool false, iv 0, iv 0, iv 0, iv 0]).upd h2.nx (cOd (od O j)) h2.nx) := Kp.refl.add.upd (Nat.le_refl _)
        have hg14 : ((h2.add [.bool false, iv 0, iv 0, iv 0, iv 0]).upd h2.nx (cOd (od O j)) h2.nx).bl.get h2.nx = some (.cells (cOd (od O j)) h2.nx false) := upd_eq _ _ _
        simp (disch := first | omega | (simp only [add_nx, upd_nx] <;> omega) | decide) only [rUz, ↓reduceIte, Nat.reduceEqDiff, Nat.reduceAdd]
        generalize (h2.add [.bool false, iv 0, iv 0, iv 0, iv 0]).upd h2.nx (cOd (od O j)) h2.nx = g14 at hk14 hg14 ⊢
        have psg := psb.mono hn6 hk14
        have b10g := (hk14.get lt10b).trans b10b
        have hb2g := b2F g14 psg.fr
        have hpog := poF g14 psg.fr
        have b6g := psg.b6
        have hkpg := kpb.trans hk14
        clear r1 r2 r3 r4 r5 r6 q1 q2 q3 q4 q5 qp hb2b hpob b10b
        generalize h2.nx = B14 at hg14 ⊢
        have hrj : lg rl j = lg st.1 j := ps.agr j hjS
        have hgj := lvg ps.r6 hj6
        rw [hrj] at hgj
        have hiJ := ixL (B := B6) hj6
        have hskip := skip_eq (O := O) (j := j) hpos (ps.ok.b j).1
        repeat refine S.seq ?_
        refine S.region ?_
        generalize hJJ : (fun (t : T Value) (h : AHeap) => _) = KJ
        suffices hJ : ∀ t, tget t 2 = ptr0 B2 → tget t 5 = u → tget t 6 = ptr0 B6 → tget t 7 = cv → tget t 8 = iv (k : Int) → tget t 9 = iv (a : Int) → tget t 10 = ptr0 B10 → tget t 11 = iv (accI acc) → tget t 12 = iv (m : Int) → tget t 13 = iv (j : Int) → tget t 14 = ptr0 B14 → tget t 89 = .bool (skipB (od O a) (od O j) (lg st.1 j)) → KJ t g14 = true by
          clear hJJ hskip
          unfold skipB at hJ
          simp (disch := first | omega | (simp only [add_nx, upd_nx] <;> omega) | decide) only [rUz, ↓reduceIte, Nat.reduceEqDiff, Nat.reduceAdd, t10, hg14, b10g, fieldAddr_ptr frO0 sb, pb, cOd0]
          refine optR_of' (eq5759 (p := (od O j).b) (q := (od O a).b) (by simp (disch := first | omega | (simp only [add_nx, upd_nx] <;> omega) | decide) only [rUz, ↓reduceIte, Nat.reduceEqDiff, Nat.reduceAdd]) (by simp (disch := first | omega | (simp only [add_nx, upd_nx] <;> omega) | decide) only [rUz, ↓reduceIte, Nat.reduceEqDiff, Nat.reduceAdd])) ?_
          cases hq1 : ((od O j).b == (od O a).b) with
          | true =>
            simp (disch := first | omega | (simp only [add_nx, upd_nx] <;> omega) | decide) only [rUz, ↓reduceIte, Nat.reduceEqDiff, Nat.reduceAdd, hq1]
            refine hJ _ ?_ ?_ ?_ ?_ ?_ ?_ ?_ ?_ ?_ ?_ ?_ ?_
            all_goals (first | rfl | (simp (disch := first | omega | (simp only [add_nx, upd_nx] <;> omega) | decide) only [rUz, ↓reduceIte, Nat.reduceEqDiff, Nat.reduceAdd, t2, t5, t6, t7, t8, t9, t10, t11, t12, hq1, Bool.true_or]; done) | (simp (disch := first | omega | (simp only [add_nx, upd_nx] <;> omega) | decide) only [rUz, ↓reduceIte, Nat.reduceEqDiff, Nat.reduceAdd, t2, t5, t6, t7, t8, t9, t10, t11, t12, hq1, Bool.true_or]; rfl))
          | false =>
          cases hq2 : decide (lg st.1 j = 0) with
          | true =>
            simp (disch := first | omega | (simp only [add_nx, upd_nx] <;> omega) | decide) only [rUz, ↓reduceIte, Nat.reduceEqDiff, Nat.reduceAdd, hq1, t6, hiJ, b6g, p3, hgj, hq2]
            refine hJ _ ?_ ?_ ?_ ?_ ?_ ?_ ?_ ?_ ?_ ?_ ?_ ?_
            all_goals (first | rfl | (simp (disch := first | omega | (simp only [add_nx, upd_nx] <;> omega) | decide) only [rUz, ↓reduceIte, Nat.reduceEqDiff, Nat.reduceAdd, t2, t5, t6, t7, t8, t9, t10, t11, t12, hq1, hq2, Bool.true_or, Bool.or_true]; done) | (simp (disch := first | omega | (simp only [add_nx, upd_nx] <;> omega) | decide) only [rUz, ↓reduceIte, Nat.reduceEqDiff, Nat.reduceAdd, t2, t5, t6, t7, t8, t9, t10, t11, t12, hq1, hq2, Bool.true_or, Bool.or_true]; rfl))
          | false =>
          rcases tf ((od O a).b) with hob | hob
          · have hq1' := hq1
            rw [hob] at hq1'
            rcases tf (decide ((od O a).l < (od O j).l)) with hq3 | hq3
            · skip
              simp (disch := first | omega | (simp only [add_nx, upd_nx] <;> omega) | decide) only [rUz, ↓reduceIte, Nat.reduceEqDiff, Nat.reduceAdd, hq1, t6, t10, hiJ, b6g, p3, hgj, hq2, hg14, b10g, fieldAddr_ptr frO0 sb, fieldAddr_ptr frO1 s3, pb, cOd0, cOd1, hob, hq3]
              refine hJ _ ?_ ?_ ?_ ?_ ?_ ?_ ?_ ?_ ?_ ?_ ?_ ?_
              all_goals (first | rfl | (simp (disch := first | omega | (simp only [add_nx, upd_nx] <;> omega) | decide) only [rUz, ↓reduceIte, Nat.reduceEqDiff, Nat.reduceAdd, t2, t5, t6, t7, t8, t9, t10, t11, t12, hq1, hq1', hq2, hob, hq3, Bool.or_self, Bool.true_and, Bool.true_or, Bool.or_true, Bool.false_or]; done) | (simp (disch := first | omega | (simp only [add_nx, upd_nx] <;> omega) | decide) only [rUz, ↓reduceIte, Nat.reduceEqDiff, Nat.reduceAdd, t2, t5, t6, t7, t8, t9, t10, t11, t12, hq1, hq1', hq2, hob, hq3, Bool.or_self, Bool.true_and, Bool.true_or, Bool.or_true, Bool.false_or]; rfl))
            · skip
              simp (disch := first | omega | (simp only [add_nx, upd_nx] <;> omega) | decide) only [rUz, ↓reduceIte, Nat.reduceEqDiff, Nat.reduceAdd, hq1, t6, t10, hiJ, b6g, p3, hgj, hq2, hg14, b10g, fieldAddr_ptr frO0 sb, fieldAddr_ptr frO1 s3, pb, cOd0, cOd1, hob, hq3, un_not, Bool.not_true]
              refine hJ _ ?_ ?_ ?_ ?_ ?_ ?_ ?_ ?_ ?_ ?_ ?_ ?_
              all_goals (first | rfl | (simp (disch := first | omega | (simp only [add_nx, upd_nx] <;> omega) | decide) only [rUz, ↓reduceIte, Nat.reduceEqDiff, Nat.reduceAdd, t2, t5, t6, t7, t8, t9, t10, t11, t12, hq1, hq1', hq2, hob, hq3, Bool.or_self, Bool.true_and, Bool.false_and, Bool.not_true, Bool.false_or]; done) | (simp (disch := first | omega | (simp only [add_nx, upd_nx] <;> omega) | decide) only [rUz, ↓reduceIte, Nat.reduceEqDiff, Nat.reduceAdd, t2, t5, t6, t7, t8, t9, t10, t11, t12, hq1, hq1', hq2, hob, hq3, Bool.or_self, Bool.true_and, Bool.false_and, Bool.not_true, Bool.false_or]; rfl))
          · have hq1' := hq1
            rw [hob] at hq1'
            rcases tf (decide ((od O j).l < (od O a).l)) with hq4 | hq4
            · skip
              simp (disch := first | omega | (simp only [add_nx, upd_nx] <;> omega) | decide) only [rUz, ↓reduceIte, Nat.reduceEqDiff, Nat.reduceAdd, hq1, t6, t10, hiJ, b6g, p3, hgj, hq2, hg14, b10g, fieldAddr_ptr frO0 sb, fieldAddr_ptr frO1 s3, pb, cOd0, cOd1, hob, hq4, un_not, Bool.not_false]
              refine hJ _ ?_ ?_ ?_ ?_ ?_ ?_ ?_ ?_ ?_ ?_ ?_ ?_
              all_goals (first | rfl | (simp (disch := first | omega | (simp only [add_nx, upd_nx] <;> omega) | decide) only [rUz, ↓reduceIte, Nat.reduceEqDiff, Nat.reduceAdd, t2, t5, t6, t7, t8, t9, t10, t11, t12, hq1, hq1', hq2, hob, hq4, Bool.or_self, Bool.true_and, Bool.false_and, Bool.not_false, Bool.or_true, Bool.false_or]; done) | (simp (disch := first | omega | (simp only [add_nx, upd_nx] <;> omega) | decide) only [rUz, ↓reduceIte, Nat.reduceEqDiff, Nat.reduceAdd, t2, t5, t6, t7, t8, t9, t10, t11, t12, hq1, hq1', hq2, hob, hq4, Bool.or_self, Bool.true_and, Bool.false_and, Bool.not_false, Bool.or_true, Bool.false_or]; rfl))
            · skip
              simp (disch := first | omega | (simp only [add_nx, upd_nx] <;> omega) | decide) only [rUz, ↓reduceIte, Nat.reduceEqDiff, Nat.reduceAdd, hq1, t6, t10, hiJ, b6g, p3, hgj, hq2, hg14, b10g, fieldAddr_ptr frO0 sb, fieldAddr_ptr frO1 s3, pb, cOd0, cOd1, hob, hq4, un_not, Bool.not_false]
              refine hJ _ ?_ ?_ ?_ ?_ ?_ ?_ ?_ ?_ ?_ ?_ ?_ ?_
              all_goals (first | rfl | (simp (disch := first | omega | (simp only [add_nx, upd_nx] <;> omega) | decide) only [rUz, ↓reduceIte, Nat.reduceEqDiff, Nat.reduceAdd, t2, t5, t6, t7, t8, t9, t10, t11, t12, hq1, hq1', hq2, hob, hq4, Bool.or_self, Bool.true_and, Bool.false_and, Bool.not_false, Bool.false_or]; done) | (simp (disch := first | omega | (simp only [add_nx, upd_nx] <;> omega) | decide) only [rUz, ↓reduceIte, Nat.reduceEqDiff, Nat.reduceAdd, t2, t5, t6, t7, t8, t9, t10, t11, t12, hq1, hq1', hq2, hob, hq4, Bool.or_self, Bool.true_and, Bool.false_and, Bool.not_false, Bool.false_or]; rfl))
        clear t2 t5 t6 t7 t8 t9 t10 t11 t12
        clear t
        intro t t2 t5 t6 t7 t8 t9 t10 t11 t12 t13 t14 t89
        rw [hskip] at t89
        subst hJJ
        simp only [seqK_normal]
        unfold stepP at hpk
        cases hcb : canB O st.1 a j with
        | false =>
          rw [hcb, Bool.false_and, cond_false] at hpk
          repeat refine S.seq ?_
          refine S.cond (v := true) (by first | rfl | (simp (disch := first | omega | (simp only [add_nx, upd_nx] <;> omega) | decide) only [rUz, ↓reduceIte, Nat.reduceEqDiff, Nat.reduceAdd, t89, hcb, Bool.not_false] <;> rfl)) (fun _ => ?_) (fun e => by cases e)
          refine S.exit ?_
          simp (disch := first | omega | (simp only [add_nx, upd_nx] <;> omega) | decide) only [rUz, ↓reduceIte, Nat.reduceEqDiff, Nat.reduceAdd]
          repeat refine S.seq ?_
          refine S.region ?_
          simp (disch := first | omega | (simp only [add_nx, upd_nx] <;> omega) | decide) only [rUz, ↓reduceIte, Nat.reduceEqDiff, Nat.reduceAdd, t12]
          refine hn3 (m + 1) _ _ (by omega) ⟨by omega, hkpg, ⟨acc, hpk, hacc, ?_⟩, ⟨?_, ?_, ?_, ?_, ?_, ?_, ?_⟩, ?_⟩
          all_goals (first | rfl | (simp (disch := first | omega | (simp only [add_nx, upd_nx] <;> omega) | decide) only [rUz, ↓reduceIte, Nat.reduceEqDiff, Nat.reduceAdd, t2, t5, t6, t7, t8, t9, t10, t11]; done) | (simp (disch := first | omega | (simp only [add_nx, upd_nx] <;> omega) | decide) only [rUz, ↓reduceIte, Nat.reduceEqDiff, Nat.reduceAdd, t2, t5, t6, t7, t8, t9, t10, t11]; rfl))
        | true =>
        rw [hcb, Bool.true_and] at hpk
        repeat refine S.seq ?_
        refine S.cond (v := false) (by first | rfl | (simp (disch := first | omega | (simp only [add_nx, upd_nx] <;> omega) | decide) only [rUz, ↓reduceIte, Nat.reduceEqDiff, Nat.reduceAdd, t89, hcb, Bool.not_true] <;> rfl)) (fun e => by cases e) (fun _ => ?_)
        repeat refine S.seq ?_
        refine S.skip ?_
        simp (disch := first | omega | (simp only [add_nx, upd_nx] <;> omega) | decide) only [rUz, ↓reduceIte, Nat.reduceEqDiff, Nat.reduceAdd]
        clear t89
        repeat refine S.seq ?_
        refine S.drawnL [(false, 0), (false, 1), (false, 3), (false, 7), (false, 15), (false, 31), (false, 63), (false, 127), (false, 63), (false, 319), (false, 63), (false, 1855), (false, 3903), (false, 7999), (false, 16383), (false, 32767), (false, 65535), (false, 131071), (false, 262143), (false, 524287), (false, 1048575), (false, 2097151), (false, 4194303), (false, 8388607), (false, 4194303), (false, 20971519), (false, 4194303), (false, 121634815), (false, 255852543), (false, 524287999), (false, 1073741823), (false, 2147483647), (false, 4294967295)] (by kernel_rfl) (by kernel_rfl) (by kernel_rfl) ?_
        generalize hJJ : (fun (t : T Value) (h : AHeap) => _) = KJ
        suffices hJ : ∀ t, tget t 2 = ptr0 B2 → tget t 5 = u → tget t 6 = ptr0 B6 → tget t 7 = cv → tget t 8 = iv (k : Int) → tget t 9 = iv (a : Int) → tget t 10 = ptr0 B10 → tget t 11 = iv (accI acc) → tget t 12 = iv (m : Int) → tget t 13 = iv (j : Int) → tget t 122 = .bool (accB O j acc) → KJ t g14 = true by
          clear hJJ
          cases acc with
          | none =>
            have t11' : tget t 11 = iv (-1) := t11
            simp (disch := first | omega | (simp only [add_nx, upd_nx] <;> omega) | decide) only [rUz, ↓reduceIte, Nat.reduceEqDiff, Nat.reduceAdd, rDz, infoL, Nat.reduceSub, t11', hm1]
            refine hJ _ ?_ ?_ ?_ ?_ ?_ ?_ ?_ ?_ ?_ ?_ ?_
            all_goals (first | rfl | (simp (disch := first | omega | (simp only [add_nx, upd_nx] <;> omega) | decide) only [rUz, ↓reduceIte, Nat.reduceEqDiff, Nat.reduceAdd, t2, t5, t6, t7, t8, t9, t10, t11, t12, t13, accB]; done) | (simp (disch := first | omega | (simp only [add_nx, upd_nx] <;> omega) | decide) only [rUz, ↓reduceIte, Nat.reduceEqDiff, Nat.reduceAdd, t2, t5, t6, t7, t8, t9, t10, t11, t12, t13, accB]; rfl))
          | some b =>
            obtain ⟨hbO, hbc⟩ := hacc b rfl
            have t11' : tget t 11 = iv (b : Int) := t11
            have hbn : decide ((b : Int) < 0) = false := decide_eq_false (by omega)
            have hbq : accB O j (some b) = bestB (od O a) (od O j) (od O b) := (best_eq2 hbc).symm
            rw [hbq] at hJ
            unfold bestB at hJ
            obtain ⟨b2, f2, o2, c2', q1, q2, q3, q4, q5, q6⟩ := row_idx hpog slrO srO (od_get hbO)
            have cl := q6 1 _ (cOd1 (od O b))
            rcases tf ((od O a).b) with hob | hob
            · skip
              rcases tf (decide ((od O j).l < (od O b).l)) with hq3 | hq3
              · skip
                simp (disch := first | omega | (simp only [add_nx, upd_nx] <;> omega) | decide) only [rUz, ↓reduceIte, Nat.reduceEqDiff, Nat.reduceAdd, rDz, infoL, Nat.reduceSub, t2, t10, t11', t14, hbn, hg14, b10g, hb2g, fieldAddr_ptr fA0 lrO, qrO, po0, q1, q3, cl, fieldAddr_ptr frO0 sb, fieldAddr_ptr frO1 s3, pb, p3, cOd0, cOd1, hob, hq3]
                refine hJ _ ?_ ?_ ?_ ?_ ?_ ?_ ?_ ?_ ?_ ?_ ?_
                all_goals (first | rfl | (simp (disch := first | omega | (simp only [add_nx, upd_nx] <;> omega) | decide) only [rUz, ↓reduceIte, Nat.reduceEqDiff, Nat.reduceAdd, t2, t5, t6, t7, t8, t9, t10, t11, t12, t13, hob, hq3, Bool.true_and, Bool.true_or]; done) | (simp (disch := first | omega | (simp only [add_nx, upd_nx] <;> omega) | decide) only [rUz, ↓reduceIte, Nat.reduceEqDiff, Nat.reduceAdd, t2, t5, t6, t7, t8, t9, t10, t11, t12, t13, hob, hq3, Bool.true_and, Bool.true_or]; rfl))
              · skip
                simp (disch := first | omega | (simp only [add_nx, upd_nx] <;> omega) | decide) only [rUz, ↓reduceIte, Nat.reduceEqDiff, Nat.reduceAdd, rDz, infoL, Nat.reduceSub, t2, t10, t11', t14, hbn, hg14, b10g, hb2g, fieldAddr_ptr fA0 lrO, qrO, po0, q1, q3, cl, fieldAddr_ptr frO0 sb, fieldAddr_ptr frO1 s3, pb, p3, cOd0, cOd1, hob, hq3, un_not, Bool.not_true]
                refine hJ _ ?_ ?_ ?_ ?_ ?_ ?_ ?_ ?_ ?_ ?_ ?_
                all_goals (first | rfl | (simp (disch := first | omega | (simp only [add_nx, upd_nx] <;> omega) | decide) only [rUz, ↓reduceIte, Nat.reduceEqDiff, Nat.reduceAdd, t2, t5, t6, t7, t8, t9, t10, t11, t12, t13, hob, hq3, Bool.true_and, Bool.false_and, Bool.not_true, Bool.or_self]; done) | (simp (disch := first | omega | (simp only [add_nx, upd_nx] <;> omega) | decide) only [rUz, ↓reduceIte, Nat.reduceEqDiff, Nat.reduceAdd, t2, t5, t6, t7, t8, t9, t10, t11, t12, t13, hob, hq3, Bool.true_and, Bool.false_and, Bool.not_true, Bool.or_self]; rfl))
            · skip
              rcases tf (decide ((od O b).l < (od O j).l)) with hq4 | hq4
              · skip
                simp (disch := first | omega | (simp only [add_nx, upd_nx] <;> omega) | decide) only [rUz, ↓reduceIte, Nat.reduceEqDiff, Nat.reduceAdd, rDz, infoL, Nat.reduceSub, t2, t10, t11', t14, hbn, hg14, b10g, hb2g, fieldAddr_ptr fA0 lrO, qrO, po0, q1, q3, cl, fieldAddr_ptr frO0 sb, fieldAddr_ptr frO1 s3, pb, p3, cOd0, cOd1, hob, hq4, un_not, Bool.not_false]
                refine hJ _ ?_ ?_ ?_ ?_ ?_ ?_ ?_ ?_ ?_ ?_ ?_
                all_goals (first | rfl | (simp (disch := first | omega | (simp only [add_nx, upd_nx] <;> omega) | decide) only [rUz, ↓reduceIte, Nat.reduceEqDiff, Nat.reduceAdd, t2, t5, t6, t7, t8, t9, t10, t11, t12, t13, hob, hq4, Bool.true_and, Bool.false_and, Bool.not_false, Bool.false_or]; done) | (simp (disch := first | omega | (simp only [add_nx, upd_nx] <;> omega) | decide) only [rUz, ↓reduceIte, Nat.reduceEqDiff, Nat.reduceAdd, t2, t5, t6, t7, t8, t9, t10, t11, t12, t13, hob, hq4, Bool.true_and, Bool.false_and, Bool.not_false, Bool.false_or]; rfl))
              · skip
                simp (disch := first | omega | (simp only [add_nx, upd_nx] <;> omega) | decide) only [rUz, ↓reduceIte, Nat.reduceEqDiff, Nat.reduceAdd, rDz, infoL, Nat.reduceSub, t2, t10, t11', t14, hbn, hg14, b10g, hb2g, fieldAddr_ptr fA0 lrO, qrO, po0, q1, q3, cl, fieldAddr_ptr frO0 sb, fieldAddr_ptr frO1 s3, pb, p3, cOd0, cOd1, hob, hq4, un_not, Bool.not_false]
                refine hJ _ ?_ ?_ ?_ ?_ ?_ ?_ ?_ ?_ ?_ ?_ ?_
                all_goals (first | rfl | (simp (disch := first | omega | (simp only [add_nx, upd_nx] <;> omega) | decide) only [rUz, ↓reduceIte, Nat.reduceEqDiff, Nat.reduceAdd, t2, t5, t6, t7, t8, t9, t10, t11, t12, t13, hob, hq4, Bool.true_and, Bool.false_and, Bool.not_false, Bool.false_or]; done) | (simp (disch := first | omega | (simp only [add_nx, upd_nx] <;> omega) | decide) only [rUz, ↓reduceIte, Nat.reduceEqDiff, Nat.reduceAdd, t2, t5, t6, t7, t8, t9, t10, t11, t12, t13, hob, hq4, Bool.true_and, Bool.false_and, Bool.not_false, Bool.false_or]; rfl))
        clear t2 t5 t6 t7 t8 t9 t10 t11 t12 t13 t14
        clear t
        intro t t2 t5 t6 t7 t8 t9 t10 t11 t12 t13 t122
        subst hJJ
        simp only [seqK_normal]
        cases hab : accB O j acc with
        | true =>
          rw [hab, cond_true] at hpk
          repeat refine S.seq ?_
          refine S.cond (v := true) (by first | rfl | (simp (disch := first | omega | (simp only [add_nx, upd_nx] <;> omega) | decide) only [rUz, ↓reduceIte, Nat.reduceEqDiff, Nat.reduceAdd, t122, hab] <;> rfl)) (fun _ => ?_) (fun e => by cases e)
          repeat refine S.seq ?_
          refine S.region ?_
          simp (disch := first | omega | (simp only [add_nx, upd_nx] <;> omega) | decide) only [rUz, ↓reduceIte, Nat.reduceEqDiff, Nat.reduceAdd, t13]
          repeat refine S.seq ?_
          refine S.region ?_
          simp (disch := first | omega | (simp only [add_nx, upd_nx] <;> omega) | decide) only [rUz, ↓reduceIte, Nat.reduceEqDiff, Nat.reduceAdd, t12]
          refine hn3 (m + 1) _ _ (by omega) ⟨by omega, hkpg, ⟨some j, hpk, (fun b e => by cases e; exact ⟨hjO, hcb⟩), ?_⟩, ⟨?_, ?_, ?_, ?_, ?_, ?_, ?_⟩, ?_⟩
          all_goals (first | rfl | (simp (disch := first | omega | (simp only [add_nx, upd_nx] <;> omega) | decide) only [rUz, ↓reduceIte, Nat.reduceEqDiff, Nat.reduceAdd, t2, t5, t6, t7, t8, t9, t10, accI]; done) | (simp (disch := first | omega | (simp only [add_nx, upd_nx] <;> omega) | decide) only [rUz, ↓reduceIte, Nat.reduceEqDiff, Nat.reduceAdd, t2, t5, t6, t7, t8, t9, t10, accI]; rfl))
        | false =>
          rw [hab, cond_false] at hpk
          repeat refine S.seq ?_
          refine S.cond (v := false) (by first | rfl | (simp (disch := first | omega | (simp only [add_nx, upd_nx] <;> omega) | decide) only [rUz, ↓reduceIte, Nat.reduceEqDiff, Nat.reduceAdd, t122, hab] <;> rfl)) (fun e => by cases e) (fun _ => ?_)
          repeat refine S.seq ?_
          refine S.skip ?_
          simp (disch := first | omega | (simp only [add_nx, upd_nx] <;> omega) | decide) only [rUz, ↓reduceIte, Nat.reduceEqDiff, Nat.reduceAdd]
          repeat refine S.seq ?_
          refine S.region ?_
          simp (disch := first | omega | (simp only [add_nx, upd_nx] <;> omega) | decide) only [rUz, ↓reduceIte, Nat.reduceEqDiff, Nat.reduceAdd, t12]
          refine hn3 (m + 1) _ _ (by omega) ⟨by omega, hkpg, ⟨acc, hpk, hacc, ?_⟩, ⟨?_, ?_, ?_, ?_, ?_, ?_, ?_⟩, ?_⟩
          all_goals (first | rfl | (simp (disch := first | omega | (simp only [add_nx, upd_nx] <;> omega) | decide) only [rUz, ↓reduceIte, Nat.reduceEqDiff, Nat.reduceAdd, t2, t5, t6, t7, t8, t9, t10, t11]; done) | (simp (disch := first | omega | (simp only [add_nx, upd_nx] <;> omega) | decide) only [rUz, ↓reduceIte, Nat.reduceEqDiff, Nat.reduceAdd, t2, t5, t6, t7, t8, t9, t10, t11]; rfl))
      have hmk : m = came.length := by have := of_decide_eq_false e; omega
      subst hmk
      rw [List.drop_length, pickZ] at hpk
      refine S.exit (he3 _ _ _ _ (fun e => by cases e) ?_)
      simp (disch := first | omega | (simp only [add_nx, upd_nx] <;> omega) | decide) only [rUz, ↓reduceIte, Nat.reduceEqDiff, Nat.reduceAdd]
      cases acc with
      | none =>
        have t11' : tget t 11 = iv (-1) := t11
        repeat refine S.seq ?_
        refine S.region ?_
        simp (disch := first | omega | (simp only [add_nx, upd_nx] <;> omega) | decide) only [rUz, ↓reduceIte, Nat.reduceEqDiff, Nat.reduceAdd, t11', hm1]
        repeat refine S.seq ?_
        refine S.cond (v := true) (by first | rfl | (simp (disch := first | omega | (simp only [add_nx, upd_nx] <;> omega) | decide) only [rUz, ↓reduceIte, Nat.reduceEqDiff, Nat.reduceAdd] <;> rfl)) (fun _ => ?_) (fun e => by cases e)
        refine S.exit ?_
        simp (disch := first | omega | (simp only [add_nx, upd_nx] <;> omega) | decide) only [rUz, ↓reduceIte, Nat.reduceEqDiff, Nat.reduceAdd]
        rw [blockK_out (by decide)]
        refine stop st rl F u f' _ _ psb ?_ hpk ⟨_, hcz⟩ hln'
        refine ⟨?_, ?_, ?_, ?_, ?_, ?_, ?_⟩
        all_goals (first | rfl | (simp (disch := first | omega | (simp only [add_nx, upd_nx] <;> omega) | decide) only [rUz, ↓reduceIte, Nat.reduceEqDiff, Nat.reduceAdd, t2, t5, t6, t7, t8, t9, t10]; done) | (simp (disch := first | omega | (simp only [add_nx, upd_nx] <;> omega) | decide) only [rUz, ↓reduceIte, Nat.reduceEqDiff, Nat.reduceAdd, t2, t5, t6, t7, t8, t9, t10]; rfl))
      | some r =>
        obtain ⟨hrO, hrc⟩ := hacc r rfl
        have t11' : tget t 11 = iv (r : Int) := t11
        have hrn : decide ((r : Int) < 0) = false := decide_eq_false (by omega)
        have hrS : r ∈ came := by
          rcases pick_some hpk with e | e
          · cases e
          · exact e.1
        have hr6 : r < 6 := by omega
        have hne : a ≠ r := can_ne hrc
        obtain ⟨pa, pr', pb', -⟩ := can_pos hrc
        obtain ⟨m1, m2, m3⟩ := min2_b pa pr'
        have hrr : lg rl r = lg st.1 r := ps.agr r (List.mem_append.2 (.inl hrS))
        have hbr := ps.ok.b r
        have hba := ps.ok.b a
        obtain ⟨M, hM⟩ : ∃ M : Nat, min2 (lg st.1 a) (lg st.1 r) = (M : Int) := ⟨(min2 (lg st.1 a) (lg st.1 r)).toNat, by omega⟩
        obtain ⟨b2, f2, o2, c2', q1, q2, q3, q4, q5, q6⟩ := row_idx hpob slrO srO (od_get hrO)
        have cl := q6 1 _ (cOd1 (od O r))
        repeat refine S.seq ?_
        refine S.region ?_
        simp (disch := first | omega | (simp only [add_nx, upd_nx] <;> omega) | decide) only [rUz, ↓reduceIte, Nat.reduceEqDiff, Nat.reduceAdd, t11', hrn]
        repeat refine S.seq ?_
        refine S.cond (v := false) (by first | rfl | (simp (disch := first | omega | (simp only [add_nx, upd_nx] <;> omega) | decide) only [rUz, ↓reduceIte, Nat.reduceEqDiff, Nat.reduceAdd] <;> rfl)) (fun e => by cases e) (fun _ => ?_)
        repeat refine S.seq ?_
        refine S.skip ?_
        simp (disch := first | omega | (simp only [add_nx, upd_nx] <;> omega) | decide) only [rUz, ↓reduceIte, Nat.reduceEqDiff, Nat.reduceAdd]
        repeat refine S.seq ?_
        refine S.region ?_
        simp (disch := first | omega | (simp only [add_nx, upd_nx] <;> omega) | decide) only [rUz, ↓reduceIte, Nat.reduceEqDiff, Nat.reduceAdd, t2, t9, t11', hb2b, fieldAddr_ptr fA0 lrO, qrO, po0, q1, q3, cl, fieldAddr_ptr frO1 s3, p3, rd_build, List.map_cons, List.map_nil, brS3, wr_alloc zrS]
        refine wr_storeN (B := h2.nx) (c := [iv 0, iv 0, iv 0, iv 0]) (fam := h2.nx) (k := h2.nx) (l := [iv (a : Int), iv (r : Int), iv 0, iv (od O r).l]) (by simp (disch := first | omega | (simp only [add_nx, upd_nx] <;> omega) | decide) only [rUz, ↓reduceIte, Nat.reduceEqDiff, Nat.reduceAdd]) (by simp (disch := first | omega | (simp only [add_nx, upd_nx] <;> omega) | decide) only [rUz, ↓reduceIte, Nat.reduceEqDiff, Nat.reduceAdd]) srS (by omega) rfl (ag_eq rfl) (af_eq rfl) rfl ?_
        have hk5 : Kp h2 ((h2.add [iv 0, iv 0, iv 0, iv 0]).upd h2.nx [iv (a : Int), iv (r : Int), iv 0, iv (od O r).l] h2.nx) := Kp.refl.add.upd (Nat.le_refl _)
        have hg5 : ((h2.add [iv 0, iv 0, iv 0, iv 0]).upd h2.nx [iv (a : Int), iv (r : Int), iv 0, iv (od O r).l] h2.nx).bl.get h2.nx = some (.cells [iv (a : Int), iv (r : Int), iv 0, iv (od O r).l] h2.nx false) := upd_eq _ _ _
        have hf5 : ((h2.add [iv 0, iv 0, iv 0, iv 0]).upd h2.nx [iv (a : Int), iv (r : Int), iv 0, iv (od O r).l] h2.nx).fams.get h2.nx = some [h2.nx] := by rw [upd_fams]; exact af_eq rfl
        have hn5 : h2.nx < ((h2.add [iv 0, iv 0, iv 0, iv 0]).upd h2.nx [iv (a : Int), iv (r : Int), iv 0, iv (od O r).l] h2.nx).nx := Nat.lt_succ_self _
        simp (disch := first | omega | (simp only [add_nx, upd_nx] <;> omega) | decide) only [rUz, ↓reduceIte, Nat.reduceEqDiff, Nat.reduceAdd]
        generalize (h2.add [iv 0, iv 0, iv 0, iv 0]).upd h2.nx [iv (a : Int), iv (r : Int), iv 0, iv (od O r).l] h2.nx = h5 at hk5 hg5 hf5 hn5 ⊢
        obtain ⟨B15, hB15⟩ : ∃ x, x = h2.nx := ⟨_, rfl⟩
        rw [← hB15] at hg5 hf5 hn5 ⊢
        have b10h := (hk5.get lt10b).trans b10b
        have b65 := (psb.mono hn6 hk5).b6
        clear q1 q2 q3 q4 q5 q6 cl
        have hB62 : B6 < h2.nx := by omega
        have f62 := f6F h2 psb.fr
        repeat refine S.seq ?_
        refine S.region ?_
        simp (disch := first | omega | (simp only [add_nx, upd_nx] <;> omega) | decide) only [rUz, ↓reduceIte, Nat.reduceEqDiff, Nat.reduceAdd, t10, b10h, fieldAddr_ptr frO0 sb, pb, cOd0, un_not]
        obtain ⟨bu, se, hbs⟩ : ∃ bu se : Nat, bsZ O a r = (bu, se) := ⟨_, _, rfl⟩
        have hsz : saleZ O st.1 a r = ⟨(bu : Int), (se : Int), (M : Int), (od O r).l⟩ := by unfold saleZ; rw [hbs, hM]
        repeat refine S.seq ?_
        generalize hJJ : seqK _ _ _ _ _ = KJ
        suffices hJ : ∀ t h, tget t 2 = ptr0 B2 → tget t 5 = u → tget t 6 = ptr0 B6 → tget t 7 = cv → tget t 8 = iv (k : Int) → tget t 9 = iv (a : Int) → tget t 10 = ptr0 B10 → tget t 11 = iv (r : Int) → tget t 15 = ptr0 B15 → Fr h2 B6 h → h.bl.get B6 = some (.cells (rl.map iv) B6 false) → h.bl.get B15 = some (.cells [iv (bu : Int), iv (se : Int), iv 0, iv (od O r).l] B15 false) → h.fams.get B15 = some [B15] → B15 < h.nx → KJ .normal t h [] = true by
          clear hJJ hn hn2 hn3 he he2 he3 hK stop hrun hfresh hsz
          unfold bsZ at hbs
          rcases tf ((od O a).b) with hob | hob
          · have hrb : (od O r).b = false := by rw [hob] at pb'; cases e : (od O r).b; rfl; rw [e] at pb'; cases pb'
            rw [hrb, cond_false] at hbs
            cases hbs
            repeat refine S.seq ?_
            refine S.cond (v := false) (by first | rfl | (simp (disch := first | omega | (simp only [add_nx, upd_nx] <;> omega) | decide) only [rUz, ↓reduceIte, Nat.reduceEqDiff, Nat.reduceAdd, hob, Bool.not_true] <;> rfl)) (fun e => by cases e) (fun _ => ?_)
            refine S.skip ?_
            refine hJ _ _ ?_ ?_ ?_ ?_ ?_ ?_ ?_ ?_ ?_ hk5.fr b65 hg5 hf5 hn5
            all_goals (first | rfl | (simp (disch := first | omega | (simp only [add_nx, upd_nx] <;> omega) | decide) only [rUz, ↓reduceIte, Nat.reduceEqDiff, Nat.reduceAdd, t2, t5, t6, t7, t8, t9, t10, t11']; done) | (simp (disch := first | omega | (simp only [add_nx, upd_nx] <;> omega) | decide) only [rUz, ↓reduceIte, Nat.reduceEqDiff, Nat.reduceAdd, t2, t5, t6, t7, t8, t9, t10, t11']; rfl))
          · have hrb : (od O r).b = true := by rw [hob] at pb'; cases e : (od O r).b; rw [e] at pb'; cases pb'; rfl
            rw [hrb, cond_true] at hbs
            cases hbs
            repeat refine S.seq ?_
            refine S.cond (v := true) (by first | rfl | (simp (disch := first | omega | (simp only [add_nx, upd_nx] <;> omega) | decide) only [rUz, ↓reduceIte, Nat.reduceEqDiff, Nat.reduceAdd, hob, Bool.not_false] <;> rfl)) (fun _ => ?_) (fun e => by cases e)
            repeat refine S.seq ?_
            refine S.region ?_
            simp (disch := first | omega | (simp only [add_nx, upd_nx] <;> omega) | decide) only [rUz, ↓reduceIte, Nat.reduceEqDiff, Nat.reduceAdd, t9, t11', hg5, hf5, fieldAddr_ptr frS0 s3, fieldAddr_ptr frS1 s3, p3]
            have hl1 : [iv (a : Int), iv (r : Int), iv 0, iv (od O r).l].length = 4 := rfl
            have hl2 : ([iv (a : Int), iv (r : Int), iv 0, iv (od O r).l].set 0 (iv (r : Int))).length = 4 := rfl
            refine wr_store s3' ?_
            simp (disch := first | omega | (simp only [add_nx, upd_nx] <;> omega) | decide) only [rUz, ↓reduceIte, Nat.reduceEqDiff, Nat.reduceAdd, hg5, hf5, fieldAddr_ptr frS1 s3]
            refine wr_store s3' ?_
            simp (disch := first | omega | (simp only [add_nx, upd_nx] <;> omega) | decide) only [rUz, ↓reduceIte, Nat.reduceEqDiff, Nat.reduceAdd, hf5]
            refine hJ _ _ ?_ ?_ ?_ ?_ ?_ ?_ ?_ ?_ ?_ (frHi (frHi hk5.fr (by omega)) (by omega)) (by rw [upd_ne _ _ _ (by omega), upd_ne _ _ _ (by omega)]; exact b65) (upd_eq _ _ _) (by rw [upd_fams, upd_fams]; exact hf5) hn5
            all_goals (first | rfl | (simp (disch := first | omega | (simp only [add_nx, upd_nx] <;> omega) | decide) only [rUz, ↓reduceIte, Nat.reduceEqDiff, Nat.reduceAdd, t2, t5, t6, t7, t8, t9, t10, t11']; done) | (simp (disch := first | omega | (simp only [add_nx, upd_nx] <;> omega) | decide) only [rUz, ↓reduceIte, Nat.reduceEqDiff, Nat.reduceAdd, t2, t5, t6, t7, t8, t9, t10, t11']; rfl))
        clear t2 t5 t6 t7 t8 t9 t10 t11 t11' t12 hk5 hg5 hf5 hn5 b10h b65
        clear h5
        clear t
        intro t h5 t2 t5 t6 t7 t8 t9 t10 t11 t15 fr5 b65 b155 f155 n155
        subst hJJ
        simp only [seqK_normal]
        repeat refine S.seq ?_
        refine S.block ?_
        refine S.loop (ι := Nat) (IPd rl a r bu se (od O r).l M h2 B2 B6 B10 B15 cv u k) (fun i => M - i) ?_ 0 _ _ ?_
        rotate_left
        · refine ⟨Nat.zero_le _, fr5, ?_, b155, f155, n155, ⟨?_, ?_, ?_, ?_, ?_, ?_, ?_⟩, ?_, ?_⟩
          · show h5.bl.get B6 = some (.cells ((dec2 rl a r 0).map iv) B6 false)
            rw [dec2_0 ps.r6 ha6 hr6]; exact b65
          all_goals (first | rfl | (simp (disch := first | omega | (simp only [add_nx, upd_nx] <;> omega) | decide) only [rUz, ↓reduceIte, Nat.reduceEqDiff, Nat.reduceAdd, t2, t5, t6, t7, t8, t9, t10, t11, t15]; done) | (simp (disch := first | omega | (simp only [add_nx, upd_nx] <;> omega) | decide) only [rUz, ↓reduceIte, Nat.reduceEqDiff, Nat.reduceAdd, t2, t5, t6, t7, t8, t9, t10, t11, t15]; rfl))
        clear t2 t5 t6 t7 t8 t9 t10 t11 t15 fr5 b65 b155 f155 n155
        clear h5
        clear t
        intro i t h7 ⟨hi, fr7, b67, b157, f157, n157, ⟨t2, t5, t6, t7, t8, t9, t10⟩, t11, t15⟩ K4 hn4 he4
        have f67 : h7.fams.get B6 = some [B6] := (fr7.fam B6 hB62).trans f62
        have hdl : (dec2 rl a r (i : Int)).length = 6 := by rw [dec2_len]; exact ps.r6
        have hml : ((dec2 rl a r (i : Int)).map iv).length = 6 := by rw [List.length_map]; exact hdl
        have hml2 : (((dec2 rl a r (i : Int)).set a (lg rl a - (i : Int) - 1)).map iv).length = 6 := by rw [List.length_map, List.length_set]; exact hdl
        have hl3 : [iv (bu : Int), iv (se : Int), iv (i : Int), iv (od O r).l].length = 4 := rfl
        have hga7 := lvg hdl ha6
        have hgr7 := lvg hdl hr6
        rw [dec2_get ps.r6 ha6 hr6 hne, if_pos (.inl rfl)] at hga7
        rw [dec2_get ps.r6 ha6 hr6 hne, if_pos (.inr rfl)] at hgr7
        have hiR := ixL (B := B6) hr6
        by_cases him : i < M
        · have hA : decide (0 < lg rl a - (i : Int)) = true := decide_eq_true (by omega)
          have hR : decide (0 < lg rl r - (i : Int)) = true := decide_eq_true (by omega)
          repeat refine S.seq ?_
          refine S.region ?_
          simp (disch := first | omega | (simp only [add_nx, upd_nx] <;> omega) | decide) only [rUz, ↓reduceIte, Nat.reduceEqDiff, Nat.reduceAdd, t9, t11, t6, hiA, hiR, b67, p3, hga7, hgr7, hA, hR]
          repeat refine S.seq ?_
          refine S.cond (v := true) (by first | rfl | (simp (disch := first | omega | (simp only [add_nx, upd_nx] <;> omega) | decide) only [rUz, ↓reduceIte, Nat.reduceEqDiff, Nat.reduceAdd] <;> rfl)) (fun _ => ?_) (fun e => by cases e)
          repeat refine S.seq ?_
          refine S.skip ?_
          simp (disch := first | omega | (simp only [add_nx, upd_nx] <;> omega) | decide) only [rUz, ↓reduceIte, Nat.reduceEqDiff, Nat.reduceAdd]
          repeat refine S.seq ?_
          refine S.block ?_
          repeat refine S.seq ?_
          refine S.region ?_
          simp (disch := first | omega | (simp only [add_nx, upd_nx] <;> omega) | decide) only [rUz, ↓reduceIte, Nat.reduceEqDiff, Nat.reduceAdd, t6, t9, hiA, b67, p3, hga7]
          refine wr_store s3' ?_
          simp (disch := first | omega | (simp only [add_nx, upd_nx] <;> omega) | decide) only [rUz, ↓reduceIte, Nat.reduceEqDiff, Nat.reduceAdd, b67, f67, lvs]
          obtain ⟨g, hg⟩ : ∃ g, g = h7.upd B6 (((dec2 rl a r (i : Int)).set a (lg rl a - (i : Int) - 1)).map iv) B6 := ⟨_, rfl⟩
          have bg : g.bl.get B6 = some (.cells (((dec2 rl a r (i : Int)).set a (lg rl a - (i : Int) - 1)).map iv) B6 false) := by subst hg; exact upd_eq _ _ _
          have fg : g.fams.get B6 = some [B6] := by subst hg; rw [upd_fams]; exact f67
          have hgr8 := lvg (rl := (dec2 rl a r (i : Int)).set a (lg rl a - (i : Int) - 1)) (by rw [List.length_set]; exact hdl) hr6
          rw [lg_set (by omega), if_neg hne, dec2_get ps.r6 ha6 hr6 hne, if_pos (.inr rfl)] at hgr8
          have fr8 : Fr h2 B6 g := by subst hg; exact fr7.upd
          have b158 : g.bl.get B15 = some (.cells [iv (bu : Int), iv (se : Int), iv (i : Int), iv (od O r).l] B15 false) := by subst hg; rw [upd_ne _ _ _ (by omega)]; exact b157
          have f158 : g.fams.get B15 = some [B15] := by subst hg; rw [upd_fams]; exact f157
          have n158 : B15 < g.nx := by subst hg; exact n157
          rw [← hg]
          clear hg
          repeat refine S.seq ?_
          refine S.region ?_
          simp (disch := first | omega | (simp only [add_nx, upd_nx] <;> omega) | decide) only [rUz, ↓reduceIte, Nat.reduceEqDiff, Nat.reduceAdd, t6, t11, hiR, bg, p3, hgr8]
          refine wr_store s3' ?_
          simp (disch := first | omega | (simp only [add_nx, upd_nx] <;> omega) | decide) only [rUz, ↓reduceIte, Nat.reduceEqDiff, Nat.reduceAdd, bg, fg, lvs]
          rw [dec2_step ps.r6 ha6 hr6 hne (i : Int)]
          obtain ⟨g9, hg9⟩ : ∃ z, z = g.upd B6 ((dec2 rl a r ((i : Int) + 1)).map iv) B6 := ⟨_, rfl⟩
          have fr9 : Fr h2 B6 g9 := by subst hg9; exact fr8.upd
          have b69 : g9.bl.get B6 = some (.cells ((dec2 rl a r ((i : Int) + 1)).map iv) B6 false) := by subst hg9; exact upd_eq _ _ _
          have b159 : g9.bl.get B15 = some (.cells [iv (bu : Int), iv (se : Int), iv (i : Int), iv (od O r).l] B15 false) := by subst hg9; rw [upd_ne _ _ _ (by omega)]; exact b158
          have f159 : g9.fams.get B15 = some [B15] := by subst hg9; rw [upd_fams]; exact f158
          have n159 : B15 < g9.nx := by subst hg9; exact n158
          rw [← hg9]
          clear hg9
          repeat refine S.seq ?_
          refine S.region ?_
          simp (disch := first | omega | (simp only [add_nx, upd_nx] <;> omega) | decide) only [rUz, ↓reduceIte, Nat.reduceEqDiff, Nat.reduceAdd, t15, b159, fieldAddr_ptr frS2 s3, p3]
          refine wr_store s3' ?_
          simp (disch := first | omega | (simp only [add_nx, upd_nx] <;> omega) | decide) only [rUz, ↓reduceIte, Nat.reduceEqDiff, Nat.reduceAdd, b159, f159]
          refine hn4 (i + 1) _ _ (by omega) ⟨by omega, frHi fr9 (by omega), ?_, upd_eq _ _ _, by rw [upd_fams]; exact f159, n159, ⟨?_, ?_, ?_, ?_, ?_, ?_, ?_⟩, ?_, ?_⟩
          · rw [upd_ne _ _ _ (by omega)]; exact b69
          all_goals (first | rfl | (simp (disch := first | omega | (simp only [add_nx, upd_nx] <;> omega) | decide) only [rUz, ↓reduceIte, Nat.reduceEqDiff, Nat.reduceAdd, t2, t5, t6, t7, t8, t9, t10, t11, t15]; done) | (simp (disch := first | omega | (simp only [add_nx, upd_nx] <;> omega) | decide) only [rUz, ↓reduceIte, Nat.reduceEqDiff, Nat.reduceAdd, t2, t5, t6, t7, t8, t9, t10, t11, t15]; rfl))
        have hiM : i = M := by omega
        subst hiM
        have hz : lg rl a - (i : Int) ≤ 0 ∨ lg rl r - (i : Int) ≤ 0 := by
          have h := hM
          unfold min2 at h
          by_cases q : lg st.1 r < lg st.1 a
          · rw [if_pos q] at h; right; omega
          · rw [if_neg q] at h; left; omega
        have fin : ∀ t : T Value, tget t 2 = ptr0 B2 → tget t 5 = u → tget t 6 = ptr0 B6 → tget t 7 = cv → tget t 8 = iv (k : Int) → tget t 9 = iv (a : Int) → tget t 10 = ptr0 B10 → tget t 15 = ptr0 B15 → K4 (.exit 6) t h7 [] = true := by
          intro t t2 t5 t6 t7 t8 t9 t10 t15
          refine he4 _ _ _ _ (fun e => by cases e) ?_
          have app7 : App H.nx h7 4 u (st.2.map cSa) F := App.fr psb.app fr7 hn6
          have b107 : h7.bl.get B10 = some (.cells (cOd (od O a)) B10 false) := (fr7.bl B10 lt10b (by omega)).trans b10b
          have hle7 := fr7.le
          have hprt : partL Tryz.prog 90 [iv (bu : Int), iv (se : Int), iv (i : Int), iv (od O r).l] 0 = some (.agg ⟨[iv (bu : Int), iv (se : Int), iv (i : Int), iv (od O r).l]⟩) := part_0 prS rfl
          simp (disch := first | omega | (simp only [add_nx, upd_nx] <;> omega) | decide) only [rUz, ↓reduceIte, Nat.reduceEqDiff, Nat.reduceAdd]
          repeat refine S.seq ?_
          refine S.region ?_
          simp (disch := first | omega | (simp only [add_nx, upd_nx] <;> omega) | decide) only [rUz, ↓reduceIte, Nat.reduceEqDiff, Nat.reduceAdd, t5, t15, b157, hprt, w_buildSlice]
          refine wr_lit1 slrS srS zrS rfl (by omega) (u := .agg ⟨[iv (bu : Int), iv (se : Int), iv (i : Int), iv (od O r).l]⟩) (l := [iv (bu : Int), iv (se : Int), iv (i : Int), iv (od O r).l]) (by simp (disch := first | omega | (simp only [add_nx, upd_nx] <;> omega) | decide) only [rUz, ↓reduceIte, Nat.reduceEqDiff, Nat.reduceAdd]) rfl rfl ?_
          simp (disch := first | omega | (simp only [add_nx, upd_nx] <;> omega) | decide) only [rUz, ↓reduceIte, Nat.reduceEqDiff, Nat.reduceAdd, w_append]
          refine wr_grown (bx := h7.nx) (cx := 1) (v := u) slrS urS (by simp (disch := first | omega | (simp only [add_nx, upd_nx] <;> omega) | decide) only [rUz, ↓reduceIte, Nat.reduceEqDiff, Nat.reduceAdd, t5]) (by simp (disch := first | omega | (simp only [add_nx, upd_nx] <;> omega) | decide) only [rUz, ↓reduceIte, Nat.reduceEqDiff, Nat.reduceAdd]) (app7.mono Kp.refl.add) (by show H.nx ≤ h7.nx + 1; omega) srS rfl (by omega) (ag_eq rfl) nrS (by rw [List.length_map]; show _ < 1000000; omega) ?_
          intro v8 h8 F8 gr
          have hn8 := gr.sm.1
          have hnn : (h7.add [iv (bu : Int), iv (se : Int), iv (i : Int), iv (od O r).l]).nx = h7.nx + 1 := rfl
          simp (disch := first | omega | (simp only [add_nx, upd_nx] <;> omega) | decide) only [rUz, ↓reduceIte, Nat.reduceEqDiff, Nat.reduceAdd]
          have cok := drop_ok (O := O) ps.ok ha6 hr6 hrc
          have hB107 : B10 < h7.nx := by omega
          have hF8 : F8 ≠ B10 := fun e => by
            by_cases hs : st.2.map cSa = []
            · have := gr.fresh hs; omega
            · have := gr.same hs; exact hFB hs (by omega)
          refine hn2 f' _ _ (by omega) ⟨?_, by omega, ⟨(dropZ O st.1 a r, st.2 ++ [saleZ O st.1 a r]), dec2 rl a r (i : Int), F8, v8, ⟨?_, ?_, hdl, cok.1, ?_, ?_, ?_⟩, fun _ => hF8, ?_, ?_, ?_, ?_⟩⟩
          · exact gr.left.bl B10 _ B10 false (by omega) (by rw [ag_ne (by omega)]; exact b107) (fun hne e => hFB hne e.symm)
          · exact ((psb.fr.trans fr7).kp (Kp.refl.add)).sm gr.sm (Nat.le_refl _)
          · rw [(gr.sm.2 B6 hn6).1, ag_ne (by omega)]; exact b67
          · have e := agr_drop (O := O) ps.r6 ps.ok.len ha6 hr6 hne ps.agr (by simp) (List.mem_append.2 (.inl hrS))
            rw [hra, hrr, hM] at e
            exact e
          · show App H.nx h8 4 v8 ((st.2 ++ [saleZ O st.1 a r]).map cSa) F8
            rw [List.map_append, hsz]; exact gr.app
          · intro _; exact gr.app.fam_lt (by simp)
          · show (lg (dropZ O st.1 a r) a).toNat ≤ f'
            have := cok.2
            omega
          · rw [← hcz]; exact (come_some hpk).symm
          · show (st.2 ++ [saleZ O st.1 a r]).length + f' ≤ _
            rw [List.length_append]; show st.2.length + 1 + f' ≤ _; omega
          · refine ⟨?_, ?_, ?_, ?_, ?_, ?_, ?_⟩
            all_goals (first | rfl | (simp (disch := first | omega | (simp only [add_nx, upd_nx] <;> omega) | decide) only [rUz, ↓reduceIte, Nat.reduceEqDiff, Nat.reduceAdd, t2, t6, t7, t8, t9, t10]; done) | (simp (disch := first | omega | (simp only [add_nx, upd_nx] <;> omega) | decide) only [rUz, ↓reduceIte, Nat.reduceEqDiff, Nat.reduceAdd, t2, t6, t7, t8, t9, t10]; rfl))
        rcases tf (decide (0 < lg rl a - (i : Int))) with hA | hA
        · have hR : decide (0 < lg rl r - (i : Int)) = false := decide_eq_false (by have := of_decide_eq_true hA; omega)
          repeat refine S.seq ?_
          refine S.region ?_
          simp (disch := first | omega | (simp only [add_nx, upd_nx] <;> omega) | decide) only [rUz, ↓reduceIte, Nat.reduceEqDiff, Nat.reduceAdd, t9, t11, t6, hiA, hiR, b67, p3, hga7, hgr7, hA, hR]
          repeat refine S.seq ?_
          refine S.cond (v := false) (by first | rfl | (simp (disch := first | omega | (simp only [add_nx, upd_nx] <;> omega) | decide) only [rUz, ↓reduceIte, Nat.reduceEqDiff, Nat.reduceAdd] <;> rfl)) (fun e => by cases e) (fun _ => ?_)
          refine S.exit (fin _ ?_ ?_ ?_ ?_ ?_ ?_ ?_ ?_)
          all_goals (first | rfl | (simp (disch := first | omega | (simp only [add_nx, upd_nx] <;> omega) | decide) only [rUz, ↓reduceIte, Nat.reduceEqDiff, Nat.reduceAdd, t2, t5, t6, t7, t8, t9, t10, t15]; done) | (simp (disch := first | omega | (simp only [add_nx, upd_nx] <;> omega) | decide) only [rUz, ↓reduceIte, Nat.reduceEqDiff, Nat.reduceAdd, t2, t5, t6, t7, t8, t9, t10, t15]; rfl))
        · repeat refine S.seq ?_
          refine S.region ?_
          simp (disch := first | omega | (simp only [add_nx, upd_nx] <;> omega) | decide) only [rUz, ↓reduceIte, Nat.reduceEqDiff, Nat.reduceAdd, t9, t11, t6, hiA, hiR, b67, p3, hga7, hgr7, hA]
          repeat refine S.seq ?_
          refine S.cond (v := false) (by first | rfl | (simp (disch := first | omega | (simp only [add_nx, upd_nx] <;> omega) | decide) only [rUz, ↓reduceIte, Nat.reduceEqDiff, Nat.reduceAdd] <;> rfl)) (fun e => by cases e) (fun _ => ?_)
          refine S.exit (fin _ ?_ ?_ ?_ ?_ ?_ ?_ ?_ ?_)
          all_goals (first | rfl | (simp (disch := first | omega | (simp only [add_nx, upd_nx] <;> omega) | decide) only [rUz, ↓reduceIte, Nat.reduceEqDiff, Nat.reduceAdd, t2, t5, t6, t7, t8, t9, t10, t15]; done) | (simp (disch := first | omega | (simp only [add_nx, upd_nx] <;> omega) | decide) only [rUz, ↓reduceIte, Nat.reduceEqDiff, Nat.reduceAdd, t2, t5, t6, t7, t8, t9, t10, t15]; rfl))
    have hzero : lg st.1 a ≤ 0 := by have := of_decide_eq_false e; omega
    refine S.exit (stop st rl F u f _ _ ps ?_ (pick_zero hzero _ _) ⟨_, hcz⟩ hln)
    obtain ⟨t2, t5, t6, t7, t8, t9, t10⟩ := ft
    refine ⟨?_, ?_, ?_, ?_, ?_, ?_, ?_⟩
    all_goals (first | rfl | (simp (disch := first | omega | (simp only [add_nx, upd_nx] <;> omega) | decide) only [rUz, ↓reduceIte, Nat.reduceEqDiff, Nat.reduceAdd, t2, t5, t6, t7, t8, t9, t10]; done) | (simp (disch := first | omega | (simp only [add_nx, upd_nx] <;> omega) | decide) only [rUz, ↓reduceIte, Nat.reduceEqDiff, Nat.reduceAdd, t2, t5, t6, t7, t8, t9, t10]; rfl))
  have hkn : k = L.length := by have := of_decide_eq_false e; omega
  subst hkn
  rw [run_end] at hrun
  refine S.exit (he _ _ _ _ (fun e => by cases e) ?_)
  simp (disch := first | omega | (simp only [add_nx, upd_nx] <;> omega) | decide) only [rUz, ↓reduceIte, Nat.reduceEqDiff, Nat.reduceAdd]
  repeat refine S.seq ?_
  refine S.region ?_
  simp (disch := first | omega | (simp only [add_nx, upd_nx] <;> omega) | decide) only [rUz, ↓reduceIte, Nat.reduceEqDiff, Nat.reduceAdd, t5]
  refine S.ret ?_
  try simp only [seqK_ret, blockK_ret]
  subst hF
  simp only [finish, endMarks]
  rw [show Tryz.f20.results.toList = [.tmp 4] from rfl]
  simp (disch := first | omega | (simp only [add_nx, upd_nx] <;> omega) | decide) only [resA, ev_tmp, tget_ne, tget_eq, get_ne, get_eq, upd_eq, upd_ne, ag_eq, ag_ne, result1]
  exact hK _ _ (ps0.fr.toKp hk1 (by omega)) (by rw [← hrun]; exact ps0.app.at)
end Go.Proofs.Po
