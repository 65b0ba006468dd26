import Derived.Test.YtbhflnhkmhmolaaGreatCt6
/- The reference: the rights. -/
namespace Go.Proofs.Cp
open Go Go.Ev Go.RowKit
set_option linter.unusedSimpArgs false

def rgtT (c : Co) (ex day h : Int) (x : Tr) (s n : Int) : Int :=
  bif decide (s < ex) then (n + (if x.bu = h then unitsR c.sp x.sh s day else 0)) - (if x.se = h then unitsR c.sp x.sh s day else 0) else n
def rgtG (c : Co) (ex day h : Int) : List Tr → List Int → Int → Int
  | x :: r, s :: a, n => rgtG c ex day h r a (rgtT c ex day h x s n)
  | _, _, n => n
def rgtH (c : Co) (a : List Int) (ex day h sh : Int) : Int := rgtG c ex day h c.tr a (unitsR c.sp sh (-1) day)
def rgtFrom (c : Co) (a : List Int) (d : T3) : List Int → Nat → List Int
  | [], _ => []
  | sh :: r, k => (d.2.2 * rgtH c a d.1 d.2.1 k sh) :: rgtFrom c a d r (k + 1)
def rgtL (c : Co) (a : List Int) (d : T3) : List Int := rgtFrom c a d c.held 0
theorem rgtFrom_len (c : Co) (a : List Int) (d : T3) : ∀ (l : List Int) (k : Nat), (rgtFrom c a d l k).length = l.length
  | [], _ => rfl
  | _ :: r, k => by rw [rgtFrom, List.length_cons, rgtFrom_len c a d r, List.length_cons]
theorem rgtFrom_get (c : Co) (a : List Int) (d : T3) : ∀ (l : List Int) (k i : Nat), (rgtFrom c a d l k)[i]? = (l[i]?).map fun sh => d.2.2 * rgtH c a d.1 d.2.1 ((k + i : Nat) : Int) sh
  | [], _, _ => by simp [rgtFrom]
  | sh :: r, k, 0 => by simp [rgtFrom]
  | sh :: r, k, i + 1 => by
    rw [rgtFrom, List.getElem?_cons_succ, List.getElem?_cons_succ, rgtFrom_get c a d r (k + 1) i]
    rw [show k + 1 + i = k + (i + 1) from by omega]
theorem rgtG_nil (c : Co) (ex day h : Int) (a : List Int) (n : Int) : rgtG c ex day h [] a n = n := by
  unfold rgtG; rfl

structure IRo (c : Co) (L : List Int) (B3 B4 B5 lo : Nat) (H : AHeap) (k : Nat) (t : T Value) (h : AHeap) (v : Value) (F : Nat) : Prop where
  kp : Kp H h
  lo_ : lo ≤ h.nx
  t3 : tget t 3 = ptr0 B3
  t4 : tget t 4 = ptr0 B4
  t5 : tget t 5 = ptr0 B5
  t7 : tget t 7 = v
  t8 : tget t 8 = iv (k : Int)
  hk : k ≤ c.held.length
  app : App lo h 1 v ((L.take k).map fun n => [iv n]) F
def IRx2 (c : Co) (L : List Int) (B3 B4 B5 lo : Nat) (H : AHeap) (k : Nat) (t : T Value) (h : AHeap) : Prop := ∃ v F, IRo c L B3 B4 B5 lo H k t h v F
structure IRt (c : Co) (a : List Int) (ex day hh sh : Int) (B3 B4 B5 : Nat) (t7v : Value) (H : AHeap) (k : Nat) (t : T Value) (h : AHeap) (n : Int) : Prop where
  kp : Kp H h
  t3 : tget t 3 = ptr0 B3
  t4 : tget t 4 = ptr0 B4
  t5 : tget t 5 = ptr0 B5
  t7 : tget t 7 = t7v
  t8 : tget t 8 = iv hh
  t9 : tget t 9 = iv n
  t10 : tget t 10 = iv (k : Int)
  hk : k ≤ c.tr.length
  val : rgtH c a ex day hh sh = rgtG c ex day hh (c.tr.drop k) (a.drop k) n
  bnd : -2592000 * (1 + (k : Int)) ≤ n ∧ n ≤ 2592000 * (1 + (k : Int))
def IRy (c : Co) (a : List Int) (ex day hh sh : Int) (B3 B4 B5 : Nat) (t7v : Value) (H : AHeap) (k : Nat) (t : T Value) (h : AHeap) : Prop := ∃ n, IRt c a ex day hh sh B3 B4 B5 t7v H k t h n

variable {pr : Prim} {R : ExT}
set_option maxHeartbeats 64000000 in
theorem rrights_y (S : Ev.Steps Tryz.prog pr R) (hoff : Off pr) (h0 : AHeap) (v : Vs) (c : Co) (hc : CoAt h0 v c) (hv : Val c) (ua ub : Value) (a b : List Int) (hua : IAt h0 ua a) (hda : datedB c a b = true) (d : T3) (hd1 : d.2.1 ≤ 11) (hp0 : 0 ≤ d.2.2) (hp1 : d.2.2 ≤ 50) :
    Brings Tryz.prog R 27 [.agg ⟨coV c.hs v⟩, .agg ⟨[ua, ub]⟩, .agg ⟨c3 d⟩] h0 fun u h => IAt h u (rgtL c a d) := by
  refine brings_of (fn := Tryz.f27) (c := (Tryz.f27.body).getD .skip) (by kernel_rfl) rfl (by kernel_rfl) rfl (fun K hK => ?_)
  generalize hF : finish Tryz.prog Tryz.f27 K = KF
  simp only [Tryz.f27, Option.getD_some, argsT, setArgs, fV1_eq, T.setK_eq, id]
  obtain ⟨hlen, hdat⟩ : lensB c a b = true ∧ datG c.tr a b = true := by rw [datedB, Bool.and_eq_true] at hda; exact hda
  obtain ⟨la, lb⟩ := lens_iff.1 hlen
  have hhd := hv.held
  have hh4 := hv.h4
  have ht4 := hv.tl
  repeat refine S.seq ?_
  refine S.region ?_
  simp (disch := first | omega | decide) only [rUz]
  obtain ⟨B3, hB3⟩ : ∃ x, x = h0.nx := ⟨_, rfl⟩
  obtain ⟨B4, hB4⟩ : ∃ x, x = h0.nx + 1 := ⟨_, rfl⟩
  obtain ⟨B5, hB5⟩ : ∃ x, x = h0.nx + 1 + 1 := ⟨_, rfl⟩
  have hb3 : (((h0.add (coV c.hs v)).add [ua, ub]).add (c3 d)).bl.get B3 = some (.cells (coV c.hs v) B3 false) := by simp (disch := first | omega | (simp only [nZ] <;> omega) | decide) only [ag_ne]; subst hB3; exact ag_eq rfl
  have hb4 : (((h0.add (coV c.hs v)).add [ua, ub]).add (c3 d)).bl.get B4 = some (.cells [ua, ub] B4 false) := by simp (disch := first | omega | (simp only [nZ] <;> omega) | decide) only [ag_ne]; subst hB4; exact ag_eq rfl
  have hb5 : (((h0.add (coV c.hs v)).add [ua, ub]).add (c3 d)).bl.get B5 = some (.cells (c3 d) B5 false) := by subst hB5; exact ag_eq rfl
  have hk1 : Kp h0 (((h0.add (coV c.hs v)).add [ua, ub]).add (c3 d)) := Kp.refl.add.add.add
  have hn5 : B5 < (((h0.add (coV c.hs v)).add [ua, ub]).add (c3 d)).nx := by show B5 < h0.nx + 3; omega
  have h35 : B3 < B5 := by omega
  have h45 : B4 < B5 := by omega
  rw [← hB5, ← hB4, ← hB3]
  generalize ((h0.add (coV c.hs v)).add [ua, ub]).add (c3 d) = H at hb3 hb4 hb5 hk1 hn5 ⊢
  have hn3 : B3 < H.nx := by omega
  have hn4 : B4 < H.nx := by omega
  clear hB3 hB4 hB5
  have hc1 := hc.mono hk1
  have ha1 := hua.mono hk1
  have hve : veq (.agg ⟨coV c.hs v⟩) (.agg ⟨coV c.hs v⟩) = true := veq_co hc1 c.hs
  repeat refine S.seq ?_
  refine S.region ?_
  simp (disch := first | omega | decide) only [rUz]
  repeat refine S.seq ?_
  refine S.region ?_
  simp (disch := first | omega | decide) only [rUz]
  repeat refine S.seq ?_
  refine S.block ?_
  refine S.loop (ι := Nat) (IRx2 c (rgtL c a d) B3 B4 B5 H.nx H) (fun k => c.held.length - k) ?_ 0 _ _ ?_
  rotate_left
  · refine ⟨.slice none 0 0, 0, Kp.refl, Nat.le_refl _, ?_, ?_, ?_, ?_, ?_, Nat.zero_le _, .inl ⟨rfl, rfl⟩⟩
    all_goals (first | rfl | (simp (disch := first | omega | decide) only [rUz]; done) | (simp (disch := first | omega | decide) only [rUz]; rfl))
  intro k t h ⟨t7v, F7, hkp, hlo, t3, t4, t5, t7, t8, hk, happ⟩ K' hn he
  have hb3h := (hkp.get hn3).trans hb3
  have hb5h := (hkp.get hn5).trans hb5
  repeat refine S.seq ?_
  refine S.region ?_
  simp (disch := first | omega | decide) only [rUz, t3, t8, hb3h, fieldAddr_ptr fA0 s3, p3, co0]
  repeat refine S.seq ?_
  refine S.cond (v := decide ((k : Int) < c.hs)) (by first | rfl | (simp (disch := first | omega | decide) only [rUz, ↓reduceIte, Nat.reduceEqDiff, Nat.reduceAdd] <;> rfl)) (fun e => ?_) (fun e => ?_)
  rotate_left
  · have hkn : k = c.held.length := by have := of_decide_eq_false e; omega
    refine S.exit (he _ _ _ _ (fun e => by cases e) ?_)
    simp (disch := first | omega | decide) only [rUz]
    repeat refine S.seq ?_
    refine S.region ?_
    simp (disch := first | omega | decide) only [rUz, t7]
    refine S.ret ?_
    try simp only [seqK_ret, blockK_ret]
    subst hF
    simp only [finish, endMarks]
    rw [show Tryz.f27.results.toList = [.tmp 6] from rfl]
    simp (disch := first | omega | decide) only [resA, ev_tmp, tget_ne, tget_eq, get_ne, get_eq, upd_eq, upd_ne, ag_eq, ag_ne, result1]
    have hfull : (rgtL c a d).take k = rgtL c a d := List.take_of_length_le (by unfold rgtL; rw [rgtFrom_len]; omega)
    rw [hfull] at happ
    exact hK _ _ (hk1.trans hkp) (SlAt.ints happ.at)
  have hkn : k < c.held.length := by have := of_decide_eq_true e; omega
  clear e
  obtain ⟨bh, fh, rh, q1, q2, q3, q4⟩ := (hc1.mono hkp).held.idx slI s3' hkn
  have hhok := hv.hok c.held[k] (List.getElem_mem hkn)
  have hhg : (rgtL c a d)[k]? = some (d.2.2 * rgtH c a d.1 d.2.1 (k : Int) c.held[k]) := by
    unfold rgtL
    rw [rgtFrom_get, List.getElem?_eq_getElem hkn, Nat.zero_add]; rfl
  generalize c.held[k] = sh at q4 hhok hhg
  obtain ⟨hh, hhe⟩ : ∃ x : Int, x = (k : Int) := ⟨_, rfl⟩
  have hub0 := units_bnd hv.sok hv.sl (a := -1) (b := d.2.1) hhok.1 hhok.2
  repeat refine S.seq ?_
  refine S.skip ?_
  simp (disch := first | omega | decide) only [rUz]
  repeat refine S.seq ?_
  refine S.block ?_
  repeat refine S.seq ?_
  refine S.drawnL [(false, 0), (false, 0), (false, 2), (false, 0), (false, 14), (false, 30), (false, 0), (false, 64), (true, 255), (false, 511)] (by kernel_rfl) (by kernel_rfl) (by kernel_rfl) ?_
  simp (disch := first | omega | decide) only [rUz, rDz, infoL, Nat.reduceSub, t3, t5, t8, hb3h, hb5h, part_0 pA (coV_len c.hs v), fieldAddr_ptr fA1 lI, qI, co1, fieldAddr_ptr frD1 s3, c31, p3, q1, q3, q4]
  refine drW_brings (fid := 46) (first := #[]) (captured := #[]) (Post := fun u _ => u = iv (unitsR c.sp sh (-1) d.2.1)) rfl (hoff _ _ _ rfl) (by simp (disch := first | omega | decide) only [rUz]; exact runits_y S _ v c (hc1.mono hkp) hv.sl hv.sok sh (-1) d.2.1 hhok.1 hhok.2 (by omega) (by omega) hd1) (Nat.le_of_ble_eq_true rfl) ?_
  rintro u g hkg rfl
  refine ⟨?_, ?_⟩
  · try simp (disch := first | decide | rfl) only [again_nil, again_skip, again_free]
  simp (disch := first | omega | decide) only [rUz, rDz, infoL, Nat.reduceSub]
  repeat refine S.seq ?_
  refine S.region ?_
  simp (disch := first | omega | decide) only [rUz]
  repeat refine S.seq ?_
  refine S.block ?_
  have hkpg := hkp.trans hkg
  have happg := happ.mono hkg
  have hlog : H.nx ≤ g.nx := hkpg.1
  rw [← hhe] at hhg
  refine S.loop (ι := Nat) (IRy c a d.1 d.2.1 hh sh B3 B4 B5 t7v g) (fun j => c.tr.length - j) ?_ 0 _ _ ?_
  rotate_left
  · refine ⟨_, Kp.refl, ?_, ?_, ?_, ?_, ?_, ?_, ?_, Nat.zero_le _, by rw [List.drop_zero, List.drop_zero]; rfl, by omega⟩
    · simp (disch := first | omega | decide) only [rUz, t3]
    · simp (disch := first | omega | decide) only [rUz, t4]
    · simp (disch := first | omega | decide) only [rUz, t5]
    · simp (disch := first | omega | decide) only [rUz, t7]
    · rw [hhe]; simp (disch := first | omega | decide) only [rUz, t8]
    · simp (disch := first | omega | decide) only [rUz]
    · simp (disch := first | omega | decide) only [rUz, Int.natCast_zero]
  clear t3 t4 t5 t7 t8 q1 q2 q3 q4 hb3h hb5h hlo hkg hub0
  clear t
  clear hkp happ
  clear h
  intro j t h ⟨n, hkp, t3, t4, t5, t7, t8, t9, t10, hj, hval, hbn⟩ K2 hn2 he2
  have hkH := hkpg.trans hkp
  have hb3h := (hkH.get hn3).trans hb3
  have l2 := fun t h1 o => row_len (hc1.mono hkH).tr isrT t h1 o
  repeat refine S.seq ?_
  refine S.region ?_
  simp (disch := first | omega | decide) only [rUz, t3, t10, hb3h, fieldAddr_ptr fA2 lrT, qrT, co2, l2]
  repeat refine S.seq ?_
  refine S.cond (v := decide ((j : Int) < (c.tr.length : Int))) (by first | rfl | (simp (disch := first | omega | decide) only [rUz, ↓reduceIte, Nat.reduceEqDiff, Nat.reduceAdd] <;> rfl)) (fun e => ?_) (fun e => ?_)
  rotate_left
  · have hjn : j = c.tr.length := by have := of_decide_eq_false e; omega
    subst hjn
    rw [List.drop_of_length_le (Nat.le_refl _), rgtG_nil] at hval
    have hm := mul_bnd (M := 23328000) (x := n) hp0 hp1 (by omega) (by omega) (by omega)
    have hb5h := (hkH.get hn5).trans hb5
    refine S.exit (he2 _ _ _ _ (fun e => by cases e) ?_)
    simp (disch := first | omega | decide) only [rUz]
    repeat refine S.seq ?_
    refine S.region ?_
    simp (disch := first | omega | decide) only [rUz, t5, t7, t9, hb5h, fieldAddr_ptr frD2 s3, p3, c32, w_buildSlice, w_append]
    refine wr_lit1 slI s3' z3 rfl (by omega) (u := iv (d.2.2 * n)) (l := [iv (d.2.2 * n)]) (by simp (disch := first | omega | decide) only [rUz]) rfl rfl ?_
    simp (disch := first | omega | decide) only [rUz, w_append]
    refine wr_append slI uI (v := t7v) (bx := h.nx) (cx := 1) (by simp (disch := first | omega | decide) only [rUz]) (by simp (disch := first | omega | decide) only [rUz]) ((happg.mono hkp).mono Kp.refl.add) (by have := hkH.1; show H.nx ≤ h.nx + 1; omega) s3' rfl (by omega) (ag_eq rfl) nI (by rw [List.length_map, List.length_take]; show _ < 1000000; omega) ?_
    intro v3 h3 F3 a1 a2 a3 a4 a5
    simp (disch := first | omega | decide) only [rUz]
    repeat refine S.seq ?_
    refine S.region ?_
    simp (disch := first | omega | decide) only [rUz, t8]
    refine hn (k + 1) _ _ (by omega) ⟨v3, F3, a2.kp (Nat.le_refl _) hkH.add, ?_, ?_, ?_, ?_, ?_, ?_, by omega, ?_⟩
    · have := a2.1; have := hkH.1; simp only [add_nx] at *; omega
    · simp (disch := first | omega | decide) only [rUz, t3]
    · simp (disch := first | omega | decide) only [rUz, t4]
    · simp (disch := first | omega | decide) only [rUz, t5]
    · simp (disch := first | omega | decide) only [rUz]
    · subst hhe; simp (disch := first | omega | decide) only [rUz]
    · rw [List.take_add_one, hhg, hval, List.map_append]
      exact a1
  have hjn : j < c.tr.length := by have := of_decide_eq_true e; omega
  clear e l2
  have hja : j < a.length := by omega
  have hjb : j < b.length := by omega
  have hps : c.tr[j]? = some c.tr[j] := List.getElem?_eq_getElem hjn
  have hdb := datG_get hdat hps (List.getElem?_eq_getElem hja) (List.getElem?_eq_getElem hjb)
  have htk := Tok.of (hv.tok c.tr[j] (List.getElem_mem hjn))
  have hdf := dat_facts htk hdb
  rw [List.drop_eq_getElem_cons hjn, List.drop_eq_getElem_cons hja, rgtG] at hval
  obtain ⟨b', f, ro, cells, q1, q2, q3, q4, q5, _⟩ := row_idx (hc1.mono hkH).tr slrT srT hps
  generalize c.tr[j] = x at hps hval q4 htk
  have qp := part_at prT q4 q5
  generalize b[j] = e at hdf
  obtain ⟨s, hsa⟩ : ∃ s, s = a[j] := ⟨_, rfl⟩
  rw [← hsa] at hval hdf
  have hsa := hsa.symm
  clear hdb
  repeat refine S.seq ?_
  refine S.skip ?_
  simp (disch := first | omega | decide) only [rUz]
  repeat refine S.seq ?_
  refine S.block ?_
  repeat refine S.seq ?_
  refine S.region ?_
  simp (disch := first | omega | decide) only [rUz, t3, t10, fieldAddr_ptr fA2 lrT, qrT, co2, hb3h, q1, q3, qp, wr_alloc zrT]
  refine wr_storeN (B := h.nx) (c := [iv 0, iv 0, iv 0, iv 0, iv 0, iv 0, iv 0]) (fam := h.nx) (k := h.nx) (l := c7 x) (by simp (disch := first | omega | decide) only [rUz]) (by simp (disch := first | omega | decide) only [rUz]) srT (by omega) rfl (ag_eq rfl) (af_eq rfl) rfl ?_
  have hk4 : Kp g ((h.add [iv 0, iv 0, iv 0, iv 0, iv 0, iv 0, iv 0]).upd h.nx (c7 x) h.nx) := hkp.add.upd hkp.1
  have hg5 : ((h.add [iv 0, iv 0, iv 0, iv 0, iv 0, iv 0, iv 0]).upd h.nx (c7 x) h.nx).bl.get h.nx = some (.cells (c7 x) h.nx false) := upd_eq _ _ _
  have hn6 : h.nx < ((h.add [iv 0, iv 0, iv 0, iv 0, iv 0, iv 0, iv 0]).upd h.nx (c7 x) h.nx).nx := Nat.lt_succ_self _
  simp (disch := first | omega | decide) only [rUz]
  generalize (h.add [iv 0, iv 0, iv 0, iv 0, iv 0, iv 0, iv 0]).upd h.nx (c7 x) h.nx = h4 at hk4 hg5 hn6 ⊢
  generalize h.nx = B6 at hg5 hn6 ⊢
  clear q1 q2 q3 q4 q5 qp hb3h hkH hkp
  clear h
  have hk4H := hkpg.trans hk4
  have hb4h := (hk4H.get hn4).trans hb4
  have hb5h := (hk4H.get hn5).trans hb5
  obtain ⟨ba, fa, ra, d1, d2, d3, d4⟩ := (ha1.mono hk4H).idx slI s3' hja
  rw [hsa] at d4
  unfold rgtT at hval
  cases hbel : decide (s < d.1) with
  | false =>
    rw [hbel, cond_false] at hval
    repeat refine S.seq ?_
    refine S.drawnL [(false, 0), (false, 1), (false, 0), (false, 7), (false, 15), (false, 0), (false, 32), (false, 127), (false, 255), (false, 511), (false, 1023), (false, 511), (false, 4095), (false, 8191)] (by kernel_rfl) (by kernel_rfl) (by kernel_rfl) ?_
    simp (disch := first | omega | decide) only [rUz, rDz, infoL, Nat.reduceSub, t4, t5, t10, hb4h, hb5h, fieldAddr_ptr frU0 lI, qI, d1, d3, d4, fieldAddr_ptr frD0 s3, p3, c30, hbel]
    repeat refine S.seq ?_
    refine S.cond (v := false) (by first | rfl | (simp (disch := first | omega | decide) only [rUz, ↓reduceIte, Nat.reduceEqDiff, Nat.reduceAdd] <;> rfl)) (fun e => by cases e) (fun _ => ?_)
    repeat refine S.seq ?_
    refine S.skip ?_
    simp (disch := first | omega | decide) only [rUz]
    repeat refine S.seq ?_
    refine S.drawnL [(false, 0), (false, 1), (false, 0), (false, 7), (false, 15), (false, 0), (false, 32), (false, 127), (false, 255), (false, 511), (false, 1023), (false, 511), (false, 4095), (false, 8191)] (by kernel_rfl) (by kernel_rfl) (by kernel_rfl) ?_
    simp (disch := first | omega | decide) only [rUz, rDz, infoL, Nat.reduceSub, t4, t5, t10, hb4h, hb5h, fieldAddr_ptr frU0 lI, qI, d1, d3, d4, fieldAddr_ptr frD0 s3, p3, c30, hbel]
    repeat refine S.seq ?_
    refine S.cond (v := false) (by first | rfl | (simp (disch := first | omega | decide) only [rUz, ↓reduceIte, Nat.reduceEqDiff, Nat.reduceAdd] <;> rfl)) (fun e => by cases e) (fun _ => ?_)
    repeat refine S.seq ?_
    refine S.skip ?_
    simp (disch := first | omega | decide) only [rUz]
    repeat refine S.seq ?_
    refine S.region ?_
    simp (disch := first | omega | decide) only [rUz, t10]
    refine hn2 (j + 1) _ _ (by omega) ⟨n, hk4, ?_, ?_, ?_, ?_, ?_, ?_, ?_, by omega, hval, by omega⟩
    all_goals (first | rfl | (simp (disch := first | omega | decide) only [rUz, t3, t4, t5, t7, t8, t9, t10]; done) | (simp (disch := first | omega | decide) only [rUz, t3, t4, t5, t7, t8, t9, t10]; rfl))
  | true =>
  rw [hbel, cond_true] at hval
  have hub1 := units_bnd hv.sok hv.sl (sh := x.sh) (a := s) (b := d.2.1) (by have := htk.n0; omega) htk.n1
  obtain ⟨U, hU⟩ : ∃ U, U = unitsR c.sp x.sh s d.2.1 := ⟨_, rfl⟩
  rw [← hU] at hval hub1
  obtain ⟨n1, hn1⟩ : ∃ m, m = n + (if x.bu = hh then U else 0) := ⟨_, rfl⟩
  have hn1b : -2592000 * (1 + (j : Int)) ≤ n1 ∧ n1 ≤ 2592000 * (1 + (j : Int)) + 2592000 := by
    rw [hn1]; by_cases hx : x.bu = hh
    · rw [if_pos hx]; omega
    · rw [if_neg hx]; omega
  rw [← hn1] at hval
  obtain ⟨n2, hn2e⟩ : ∃ m, m = n1 - (if x.se = hh then U else 0) := ⟨_, rfl⟩
  have hn2b : -2592000 * (1 + ((j + 1 : Nat) : Int)) ≤ n2 ∧ n2 ≤ 2592000 * (1 + ((j + 1 : Nat) : Int)) := by
    have hne := htk.ne
    rw [hn2e, hn1]
    by_cases hx : x.se = hh
    · rw [if_pos hx]
      by_cases hy : x.bu = hh
      · rw [if_pos hy]; omega
      · rw [if_neg hy]; omega
    · rw [if_neg hx]
      by_cases hy : x.bu = hh
      · rw [if_pos hy]; omega
      · rw [if_neg hy]; omega
  rw [← hn2e] at hval
  have hj3 : (j : Int) ≤ 4 := by omega
  repeat refine S.seq ?_
  refine S.drawnL [(false, 0), (false, 1), (false, 0), (false, 7), (false, 15), (false, 0), (false, 32), (false, 127), (false, 255), (false, 511), (false, 1023), (false, 511), (false, 4095), (false, 8191)] (by kernel_rfl) (by kernel_rfl) (by kernel_rfl) ?_
  simp (disch := first | omega | decide) only [rUz, rDz, infoL, Nat.reduceSub, t4, t5, t8, t10, hb4h, hb5h, fieldAddr_ptr frU0 lI, qI, d1, d3, d4, fieldAddr_ptr frD0 s3, p3, c30, hbel, fieldAddr_ptr frT1 s3, hg5, c71]
  repeat refine S.seq ?_
  generalize hJJ : seqK _ _ _ _ _ = KJ
  suffices hJ : ∀ t h, Kp g h → h.bl.get B6 = some (.cells (c7 x) B6 false) → B6 < h.nx → tget t 3 = ptr0 B3 → tget t 4 = ptr0 B4 → tget t 5 = ptr0 B5 → tget t 7 = t7v → tget t 8 = iv hh → tget t 9 = iv n1 → tget t 10 = iv (j : Int) → tget t 11 = ptr0 B6 → KJ .normal t h [] = true by
    clear hJJ hn hn2 he he2 hK
    by_cases hx : x.bu = hh
    · rw [if_pos hx] at hn1
      repeat refine S.seq ?_
      refine S.cond (v := true) (by first | rfl | (simp (disch := first | omega | decide) only [rUz, ↓reduceIte, Nat.reduceEqDiff, Nat.reduceAdd, decide_eq_true hx] <;> rfl)) (fun _ => ?_) (fun e => by cases e)
      have hb3h := (hk4H.get hn3).trans hb3
      repeat refine S.seq ?_
      refine S.drawnL [(false, 0), (false, 0), (false, 0), (false, 4), (false, 0), (false, 16), (false, 0), (false, 112), (false, 240), (false, 0), (false, 512), (true, 2046), (false, 4095), (false, 8191)] (by kernel_rfl) (by kernel_rfl) (by kernel_rfl) ?_
      simp (disch := first | omega | decide) only [rUz, rDz, infoL, Nat.reduceSub, t3, t4, t5, t9, t10, hb3h, hb4h, hb5h, hg5, part_0 pA (coV_len c.hs v), fieldAddr_ptr frT2 s3, fieldAddr_ptr frU0 lI, qI, fieldAddr_ptr frD1 s3, p3, c31, c72, d1, d3, d4]
      refine drW_brings (fid := 46) (first := #[]) (captured := #[]) (Post := fun u _ => u = iv U) rfl (hoff _ _ _ rfl) (by simp (disch := first | omega | decide) only [rUz]; exact (by rw [hU]; exact runits_y S _ v c (hc1.mono hk4H) hv.sl hv.sok x.sh s d.2.1 (by have := htk.n0; omega) htk.n1 (by omega) (by omega) hd1)) (Nat.le_of_ble_eq_true rfl) ?_
      rintro u gx hkx rfl
      refine ⟨?_, ?_⟩
      · try simp (disch := first | decide | rfl) only [again_nil, again_skip, again_free]
      simp (disch := first | omega | decide) only [rUz, rDz, infoL, Nat.reduceSub]
      refine hJ _ _ (hk4.trans hkx) ((hkx.get hn6).trans hg5) (Nat.lt_of_lt_of_le hn6 hkx.1) ?_ ?_ ?_ ?_ ?_ ?_ ?_ ?_
      all_goals (first | rfl | (simp (disch := first | omega | decide) only [rUz, t3, t4, t5, t7, t8, t10, hn1]; done) | (simp (disch := first | omega | decide) only [rUz, t3, t4, t5, t7, t8, t10, hn1]; rfl))
    · rw [if_neg hx, Int.add_zero] at hn1
      repeat refine S.seq ?_
      refine S.cond (v := false) (by first | rfl | (simp (disch := first | omega | decide) only [rUz, ↓reduceIte, Nat.reduceEqDiff, Nat.reduceAdd, decide_eq_false hx] <;> rfl)) (fun e => by cases e) (fun _ => ?_)
      refine S.skip ?_
      refine hJ _ _ hk4 hg5 hn6 ?_ ?_ ?_ ?_ ?_ ?_ ?_ ?_
      all_goals (first | rfl | (simp (disch := first | omega | decide) only [rUz, t3, t4, t5, t7, t8, t9, t10, hn1]; done) | (simp (disch := first | omega | decide) only [rUz, t3, t4, t5, t7, t8, t9, t10, hn1]; rfl))
  clear t3 t4 t5 t7 t8 t9 t10 hk4 hg5 hn6 d1 d2 d3 d4 hb4h hb5h hk4H
  clear h4 t
  intro t h hk6 hg6 hn7 t3 t4 t5 t7 t8 t9 t10 t11
  subst hJJ
  simp only [seqK_normal]
  have hk6H := hkpg.trans hk6
  have hb4h := (hk6H.get hn4).trans hb4
  have hb5h := (hk6H.get hn5).trans hb5
  obtain ⟨ba, fa, ra, d1, d2, d3, d4⟩ := (ha1.mono hk6H).idx slI s3' hja
  rw [hsa] at d4
  repeat refine S.seq ?_
  refine S.drawnL [(false, 0), (false, 1), (false, 0), (false, 7), (false, 15), (false, 0), (false, 32), (false, 127), (false, 255), (false, 511), (false, 1023), (false, 511), (false, 4095), (false, 8191)] (by kernel_rfl) (by kernel_rfl) (by kernel_rfl) ?_
  simp (disch := first | omega | decide) only [rUz, rDz, infoL, Nat.reduceSub, t4, t5, t8, t10, t11, hb4h, hb5h, fieldAddr_ptr frU0 lI, qI, d1, d3, d4, fieldAddr_ptr frD0 s3, p3, c30, hbel, fieldAddr_ptr frT0 s3, hg6, c70]
  repeat refine S.seq ?_
  generalize hJJ : seqK _ _ _ _ _ = KJ
  suffices hJ : ∀ t h, Kp g h → tget t 3 = ptr0 B3 → tget t 4 = ptr0 B4 → tget t 5 = ptr0 B5 → tget t 7 = t7v → tget t 8 = iv hh → tget t 9 = iv n2 → tget t 10 = iv (j : Int) → KJ .normal t h [] = true by
    clear hJJ hn hn2 he he2 hK
    by_cases hx : x.se = hh
    · rw [if_pos hx] at hn2e
      repeat refine S.seq ?_
      refine S.cond (v := true) (by first | rfl | (simp (disch := first | omega | decide) only [rUz, ↓reduceIte, Nat.reduceEqDiff, Nat.reduceAdd, decide_eq_true hx] <;> rfl)) (fun _ => ?_) (fun e => by cases e)
      have hb3h := (hk6H.get hn3).trans hb3
      repeat refine S.seq ?_
      refine S.drawnL [(false, 0), (false, 0), (false, 0), (false, 4), (false, 0), (false, 16), (false, 0), (false, 112), (false, 240), (false, 0), (false, 512), (true, 2046), (false, 4095), (false, 8191)] (by kernel_rfl) (by kernel_rfl) (by kernel_rfl) ?_
      simp (disch := first | omega | decide) only [rUz, rDz, infoL, Nat.reduceSub, t3, t4, t5, t9, t10, t11, hb3h, hb4h, hb5h, hg6, part_0 pA (coV_len c.hs v), fieldAddr_ptr frT2 s3, fieldAddr_ptr frU0 lI, qI, fieldAddr_ptr frD1 s3, p3, c31, c72, d1, d3, d4]
      refine drW_brings (fid := 46) (first := #[]) (captured := #[]) (Post := fun u _ => u = iv U) rfl (hoff _ _ _ rfl) (by simp (disch := first | omega | decide) only [rUz]; exact (by rw [hU]; exact runits_y S _ v c (hc1.mono hk6H) hv.sl hv.sok x.sh s d.2.1 (by have := htk.n0; omega) htk.n1 (by omega) (by omega) hd1)) (Nat.le_of_ble_eq_true rfl) ?_
      rintro u gx hkx rfl
      refine ⟨?_, ?_⟩
      · try simp (disch := first | decide | rfl) only [again_nil, again_skip, again_free]
      simp (disch := first | omega | decide) only [rUz, rDz, infoL, Nat.reduceSub]
      refine hJ _ _ (hk6.trans hkx) ?_ ?_ ?_ ?_ ?_ ?_ ?_
      all_goals (first | rfl | (simp (disch := first | omega | decide) only [rUz, t3, t4, t5, t7, t8, t10, hn2e]; done) | (simp (disch := first | omega | decide) only [rUz, t3, t4, t5, t7, t8, t10, hn2e]; rfl))
    · rw [if_neg hx, Int.sub_zero] at hn2e
      repeat refine S.seq ?_
      refine S.cond (v := false) (by first | rfl | (simp (disch := first | omega | decide) only [rUz, ↓reduceIte, Nat.reduceEqDiff, Nat.reduceAdd, decide_eq_false hx] <;> rfl)) (fun e => by cases e) (fun _ => ?_)
      refine S.skip ?_
      refine hJ _ _ hk6 ?_ ?_ ?_ ?_ ?_ ?_ ?_
      all_goals (first | rfl | (simp (disch := first | omega | decide) only [rUz, t3, t4, t5, t7, t8, t9, t10, hn2e]; done) | (simp (disch := first | omega | decide) only [rUz, t3, t4, t5, t7, t8, t9, t10, hn2e]; rfl))
  clear t3 t4 t5 t7 t8 t9 t10 t11 hk6 hg6 hn7 d1 d2 d3 d4 hb4h hb5h hk6H
  clear h t
  intro t h hk6 t3 t4 t5 t7 t8 t9 t10
  subst hJJ
  simp only [seqK_normal]
  repeat refine S.seq ?_
  refine S.region ?_
  simp (disch := first | omega | decide) only [rUz, t10]
  refine hn2 (j + 1) _ _ (by omega) ⟨n2, hk6, ?_, ?_, ?_, ?_, ?_, ?_, ?_, by omega, hval, hn2b⟩
  all_goals (first | rfl | (simp (disch := first | omega | decide) only [rUz, t3, t4, t5, t7, t8, t9]; done) | (simp (disch := first | omega | decide) only [rUz, t3, t4, t5, t7, t8, t9]; rfl))
end Go.Proofs.Cp
