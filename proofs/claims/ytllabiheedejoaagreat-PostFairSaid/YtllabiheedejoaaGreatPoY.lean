import Derived.Test.YtllabiheedejoaaGreatPoM
import Derived.Test.YtllabiheedejoaaGreatPoD
import Derived.Test.YtllabiheedejoaaGreatPoS
import Derived.Test.YtllabiheedejoaaGreatPp5
import Derived.Test.YtllabiheedejoaaGreatPoO
import Derived.Test.YtllabiheedejoaaGreatPoT
/- PostFair (under way). -/
namespace Go.Proofs.Po
open Go Go.Ev Go.RowKit
set_option linter.unusedSimpArgs false
variable {pr : Prim} {R : ExT}
theorem veq_poW {h : AHeap} {v : Value} {O : List Od} (k : PoAt h v O) : veq (.agg ⟨poV v⟩) (.agg ⟨poV v⟩) = true := by
  simp only [poV, veq, veqA, veqL, row_veq k, Bool.and_self]
structure IFa1 (L : List Sa) (G : AHeap) (B2 : Nat) (w : Value) (n : Nat) (k : Nat) (t : T Value) (h : AHeap) : Prop where
  kp : Kp G h
  t2 : tget t 2 = ptr0 B2
  t5 : tget t 5 = w
  t7 : tget t 7 = iv (n : Int)
  t8 : tget t 8 = iv (k : Int)
  hk : k ≤ L.length
structure IFb2 (n : Nat) (G : AHeap) (B2 : Nat) (w : Value) (k : Nat) (t : T Value) (h : AHeap) : Prop where
  kp : Kp G h
  t2 : tget t 2 = ptr0 B2
  t5 : tget t 5 = w
  t7 : tget t 7 = iv (n : Int)
  t12 : tget t 12 = iv (k : Int)
  hk : k ≤ n
structure IFb4 (n : Nat) (G : AHeap) (B2 : Nat) (w : Value) (k : Nat) (fn : Int) (m : Nat) (t : T Value) (h : AHeap) : Prop where
  kp : Kp G h
  t2 : tget t 2 = ptr0 B2
  t5 : tget t 5 = w
  t7 : tget t 7 = iv (n : Int)
  t12 : tget t 12 = iv (k : Int)
  t13 : tget t 13 = iv fn
  t15 : tget t 15 = iv (m : Int)
  hm : m ≤ n
set_option maxRecDepth 100000 in
set_option maxHeartbeats 32000000 in
theorem fair_law (S : Ev.Steps Tryz.prog pr R) (hT : Tab pr) (h0 : AHeap) (v : Value) (O : List Od) (hb : PoAt h0 v O) (wv : Value) (ws : List Int) (hw : WdAt h0 wv ws) (hwl : (ws.length : Int) < 9223372036854775808) :
    Brings Tryz.prog R 5 [.agg ⟨poV v⟩, wv] h0 fun u _ => u = .bool true := by
  have hoff := hT.off
  refine brings_of (fn := Tryz.f5) (c := (Tryz.f5.body).getD .skip) (by kernel_rfl) rfl (by kernel_rfl) rfl (fun K hK => ?_)
  generalize hF : finish Tryz.prog Tryz.f5 K = KF
  simp only [Tryz.f5, Option.getD_some, argsT, setArgs, fV1_eq, T.setK_eq, id]
  have hKr : ∀ g, Kp h0 g → K (.bool true) g = true := fun g hk => hK _ _ hk rfl
  clear hK
  have awake : ∀ {ops : Array Oper} {n : Nat} {rest : List Oper} {t : T Value} {h : AHeap} {KR : T Value → AHeap → Bool} {dst : Option Tmp}, putR Tryz.prog (withPrim pr (callVal Tryz.prog R)) ops n rest dst t (.bool true) h KR = true →
      wrR Tryz.prog (withPrim pr (callVal Tryz.prog R)) ops n rest (.call ⟨.value (.func 11), #[], #[]⟩) dst t h KR = true := fun k => wr_prim (fid := 11) (first := #[]) (captured := #[]) (v := .bool true) rfl (hT.awake _) k
  have tq0 : ∀ a b : Value, (⟨[a, b]⟩ : Array Value)[0]? = some a := fun _ _ => rfl
  have tq1 : ∀ a b : Value, (⟨[a, b]⟩ : Array Value)[1]? = some b := fun _ _ => rfl
  have hdd : ∀ z : Int, decide (z = z) = true := fun z => decide_eq_true rfl
  have hbv := veq_poW hb
  repeat refine S.seq ?_
  refine S.region ?_
  simp (disch := first | omega | (simp only [add_nx, upd_nx] <;> omega) | decide) only [rUz, ↓reduceIte, Nat.reduceEqDiff, Nat.reduceAdd]
  have hb1 : (h0.add (poV v)).bl.get h0.nx = some (.cells (poV v) h0.nx false) := ag_eq rfl
  have hn1 : h0.nx < (h0.add (poV v)).nx := Nat.lt_succ_self _
  have hk1 : Kp h0 (h0.add (poV v)) := Kp.refl.add
  generalize h0.add (poV v) = H at hb1 hn1 hk1 ⊢
  generalize h0.nx = B1 at hb1 hn1 ⊢
  repeat refine S.seq ?_
  refine S.region ?_
  simp (disch := first | omega | (simp only [add_nx, upd_nx] <;> omega) | decide) only [rUz, ↓reduceIte, Nat.reduceEqDiff, Nat.reduceAdd, hb1, part_0 pA (poV_len v)]
  refine wr_brings (fid := 25) (first := #[]) (captured := #[]) (Post := fun u _ => u = .bool (readyB O)) rfl (hoff _ _ _ rfl) (by simp (disch := first | omega | (simp only [add_nx, upd_nx] <;> omega) | decide) only [rUz, ↓reduceIte, Nat.reduceEqDiff, Nat.reduceAdd]; exact ready_y S hoff H v O (hb.mono hk1)) ?_
  rintro u g hkg rfl
  replace hb1 := (hkg.get hn1).trans hb1
  replace hn1 := Nat.lt_of_lt_of_le hn1 hkg.1
  replace hk1 := hk1.trans hkg
  clear hkg
  clear H
  cases hre : readyB O with
  | false =>
    simp (disch := first | omega | (simp only [add_nx, upd_nx] <;> omega) | decide) only [rUz, ↓reduceIte, Nat.reduceEqDiff, Nat.reduceAdd, un_not, hre, Bool.not_false]
    repeat refine S.seq ?_
    refine S.cond (v := true) (by first | rfl | (simp (disch := first | omega | (simp only [add_nx, upd_nx] <;> omega) | decide) only [rUz, ↓reduceIte, Nat.reduceEqDiff, Nat.reduceAdd] <;> rfl)) (fun _ => ?_) (fun e => by cases e)
    repeat refine S.seq ?_
    refine S.region ?_
    simp (disch := first | omega | (simp only [add_nx, upd_nx] <;> omega) | decide) only [rUz, ↓reduceIte, Nat.reduceEqDiff, Nat.reduceAdd]
    refine awake ?_
    simp (disch := first | omega | (simp only [add_nx, upd_nx] <;> omega) | decide) only [rUz, ↓reduceIte, Nat.reduceEqDiff, Nat.reduceAdd]
    refine S.ret ?_
    try simp only [seqK_ret, blockK_ret]
    subst hF
    simp only [finish, endMarks]
    rw [show Tryz.f5.results.toList = [.tmp 4] from rfl]
    simp (disch := first | omega | (simp only [add_nx, upd_nx] <;> omega) | decide) only [resA, ev_tmp, tget_ne, tget_eq, get_ne, get_eq, upd_eq, upd_ne, ag_eq, ag_ne, result1]
    exact hKr _ hk1
  | true =>
  have hv : Val O := by
    unfold readyB at hre
    rw [Bool.and_eq_true] at hre
    exact val_iff.1 (of_decide_eq_true hre.2)
  have h6 := hv.l6
  have h9' : O.length ≤ 9 := by omega
  simp (disch := first | omega | (simp only [add_nx, upd_nx] <;> omega) | decide) only [rUz, ↓reduceIte, Nat.reduceEqDiff, Nat.reduceAdd, un_not, hre, Bool.not_true]
  repeat refine S.seq ?_
  refine S.cond (v := false) (by first | rfl | (simp (disch := first | omega | (simp only [add_nx, upd_nx] <;> omega) | decide) only [rUz, ↓reduceIte, Nat.reduceEqDiff, Nat.reduceAdd] <;> rfl)) (fun e => by cases e) (fun _ => ?_)
  repeat refine S.seq ?_
  refine S.skip ?_
  simp (disch := first | omega | (simp only [add_nx, upd_nx] <;> omega) | decide) only [rUz, ↓reduceIte, Nat.reduceEqDiff, Nat.reduceAdd]
  repeat refine S.seq ?_
  refine S.drawnL [(false, 0), (true, 1), (false, 0), (false, 0), (true, 15), (true, 31), (false, 63), (false, 127), (false, 127), (false, 255), (false, 1023)] (by kernel_rfl) (by kernel_rfl) (by kernel_rfl) ?_
  simp (disch := first | omega | (simp only [add_nx, upd_nx] <;> omega) | decide) only [rUz, ↓reduceIte, Nat.reduceEqDiff, Nat.reduceAdd, rDz, infoL, Nat.reduceSub, draw_rdB, hb1, part_0 pA (poV_len v)]
  refine drW_brings (fid := 13) (first := #[]) (captured := #[]) (Post := fun u h => ∃ v', u = .agg ⟨poV v'⟩ ∧ PoAt h v' O) rfl (hoff _ _ _ rfl) (by simp (disch := first | omega | (simp only [add_nx, upd_nx] <;> omega) | decide) only [rUz, ↓reduceIte, Nat.reduceEqDiff, Nat.reduceAdd]; exact postC_y S hoff g v O (hb.mono hk1) h9') (Nat.le_of_ble_eq_true rfl) ?_
  rintro u g2 hkg2 ⟨v2, rfl, hb2⟩
  have hb1b := (hkg2.get hn1).trans hb1
  refine ⟨?_, ?_⟩
  · try simp (disch := first | decide | rfl) only [again_nil, again_skip, again_free]
    rw [again_same (v := .agg ⟨poV v⟩) (by simp (disch := first | omega | (simp only [add_nx, upd_nx] <;> omega) | decide) only [rUz, ↓reduceIte, Nat.reduceEqDiff, Nat.reduceAdd, rDz, infoL, Nat.reduceSub, hb1b, part_0 pA (poV_len v)]) hbv]
    try simp (disch := first | decide | rfl) only [again_nil, again_skip, again_free]
  simp (disch := first | omega | (simp only [add_nx, upd_nx] <;> omega) | decide) only [rUz, ↓reduceIte, Nat.reduceEqDiff, Nat.reduceAdd, rDz, infoL, Nat.reduceSub]
  refine drW_brings (fid := 26) (first := #[]) (captured := #[]) (Post := fun u h => ∃ t0, IS h u t0 ∧ truthB O t0 = true) rfl (hoff _ _ _ rfl) (by simp (disch := first | omega | (simp only [add_nx, upd_nx] <;> omega) | decide) only [rUz, ↓reduceIte, Nat.reduceEqDiff, Nat.reduceAdd]; exact picked_y S hoff g2 v O (hb.mono (hk1.trans hkg2)) hv wv ws (hw.mono (hk1.trans hkg2)) hwl) (Nat.le_of_ble_eq_true rfl) ?_
  rintro tv g3 hkg3 ⟨t0, ht, htr⟩
  refine ⟨?_, ?_⟩
  · try simp (disch := first | decide | rfl) only [again_nil, again_skip, again_free]
  simp (disch := first | omega | (simp only [add_nx, upd_nx] <;> omega) | decide) only [rUz, ↓reduceIte, Nat.reduceEqDiff, Nat.reduceAdd, rDz, infoL, Nat.reduceSub]
  refine drW_brings (fid := 12) (first := #[]) (captured := #[]) (Post := fun u h => PlayAt O t0 u h) rfl (hoff _ _ _ rfl) (by simp (disch := first | omega | (simp only [add_nx, upd_nx] <;> omega) | decide) only [rUz, ↓reduceIte, Nat.reduceEqDiff, Nat.reduceAdd]; exact play_y S hoff g3 v2 tv O t0 (hb2.mono hkg3) ht.at h9') (Nat.le_of_ble_eq_true rfl) ?_
  rintro u g4 hkg4 hpl
  have htru := tru_of hv htr
  have hkg24 := (hkg2.trans hkg3).trans hkg4
  have hfT : faultT O t0 = 0 := by rw [faultT, decide_eq_true (val_iff.2 hv), htr]; rfl
  obtain ⟨w, rfl, hs⟩ : ∃ w, u = .tuple ⟨[w, iv 0]⟩ ∧ SlAt g4 4 w ((playZ O t0).2.map cSa) := by
    rcases hpl with ⟨_, w, e, hs, _⟩ | ⟨hz, _⟩
    · exact ⟨w, e, hs⟩
    · exact absurd hfT hz
  clear hpl
  refine ⟨?_, ?_⟩
  · try simp (disch := first | decide | rfl) only [again_nil, again_skip, again_free]
  simp (disch := first | omega | (simp only [add_nx, upd_nx] <;> omega) | decide) only [rUz, ↓reduceIte, Nat.reduceEqDiff, Nat.reduceAdd, rDz, infoL, Nat.reduceSub, tq0, tq1]
  replace hb1 := (hkg24.get hn1).trans hb1
  replace hn1 := Nat.lt_of_lt_of_le hn1 hkg24.1
  replace hk1 := hk1.trans hkg24
  have h6s := sales_six hv htru
  have hso := sales_saok hv htru
  have hsq := sq_play hv htru
  have hnc := fun i j hi hj => no_cross hv htru (i := i) (j := j) hi hj
  clear hb1b hkg2 hkg3 hkg4 hkg24 hb2 ht htr hfT
  generalize playZ O t0 = PL at hs h6s hso hsq hnc
  have hsl := hsq.sl
  have hfil := hsq.fil
  have hok := hsq.ok
  obtain ⟨lf, L⟩ := PL
  have h6l : L.length ≤ 6 := h6s
  have ls := fun t h1 o => row_len hs iscS t h1 o
  have lO := fun t h1 o => row_len hb isrO t h1 o
  have h40 : decide (40 < (L.length : Int)) = false := decide_eq_false (by have : L.length ≤ 6 := h6s; omega)
  repeat refine S.seq ?_
  refine S.region ?_
  simp (disch := first | omega | (simp only [add_nx, upd_nx] <;> omega) | decide) only [rUz, ↓reduceIte, Nat.reduceEqDiff, Nat.reduceAdd, hdd, decide_true, Bool.not_true, ls, h40]
  repeat refine S.seq ?_
  refine S.cond (v := false) (by first | rfl | (simp (disch := first | omega | (simp only [add_nx, upd_nx] <;> omega) | decide) only [rUz, ↓reduceIte, Nat.reduceEqDiff, Nat.reduceAdd] <;> rfl)) (fun e => by cases e) (fun _ => ?_)
  repeat refine S.seq ?_
  refine S.skip ?_
  simp (disch := first | omega | (simp only [add_nx, upd_nx] <;> omega) | decide) only [rUz, ↓reduceIte, Nat.reduceEqDiff, Nat.reduceAdd]
  repeat refine S.seq ?_
  refine S.region ?_
  simp (disch := first | omega | (simp only [add_nx, upd_nx] <;> omega) | decide) only [rUz, ↓reduceIte, Nat.reduceEqDiff, Nat.reduceAdd, hb1, fieldAddr_ptr fA0 lrO, qrO, po0, lO]
  repeat refine S.seq ?_
  refine S.region ?_
  simp (disch := first | omega | (simp only [add_nx, upd_nx] <;> omega) | decide) only [rUz, ↓reduceIte, Nat.reduceEqDiff, Nat.reduceAdd]
  repeat refine S.seq ?_
  refine S.block ?_
  refine S.loop (ι := Nat) (IFa1 L g4 B1 w O.length) (fun k => L.length - k) ?_ 0 _ _ ?_
  rotate_left
  · refine ⟨Kp.refl, ?_, ?_, ?_, ?_, Nat.zero_le _⟩
    all_goals (first | rfl | (simp (disch := first | omega | (simp only [add_nx, upd_nx] <;> omega) | decide) only [rUz, ↓reduceIte, Nat.reduceEqDiff, Nat.reduceAdd]; done) | (simp (disch := first | omega | (simp only [add_nx, upd_nx] <;> omega) | decide) only [rUz, ↓reduceIte, Nat.reduceEqDiff, Nat.reduceAdd]; rfl))
  intro k t h ⟨kp, t2, t5, t7, t8, hk⟩ K' hn he
  have hb1h := (kp.get hn1).trans hb1
  have hk1h := hk1.trans kp
  have hbh := hb.mono hk1h
  have hsh := SlAt.mono hs kp
  repeat refine S.seq ?_
  refine S.region ?_
  simp (disch := first | omega | (simp only [add_nx, upd_nx] <;> omega) | decide) only [rUz, ↓reduceIte, Nat.reduceEqDiff, Nat.reduceAdd, t5, t8, ls]
  repeat refine S.seq ?_
  refine S.cond (v := decide ((k : Int) < (L.length : Int))) (by first | rfl | (simp (disch := first | omega | (simp only [add_nx, upd_nx] <;> omega) | decide) only [rUz, ↓reduceIte, Nat.reduceEqDiff, Nat.reduceAdd] <;> rfl)) (fun e => ?_) (fun e => ?_)
  · have hkn : k < L.length := by have := of_decide_eq_true e; omega
    clear e
    have hps : L[k]? = some L[k] := List.getElem?_eq_getElem hkn
    obtain ⟨b, j, hbu, hse, hbO, hjO, bb, bj, m1, m2, q1, q2, q3⟩ := hsl _ (List.getElem_mem hkn)
    generalize L[k] = s at hps hbu hse m1 m2 q1 q2 q3
    obtain ⟨b1, f1, o1, c1, r1, r2, r3, r4, r5, r6⟩ := row_idx hsh slcS scS hps
    have rp := part_at pcS r4 r5
    have i1 : inB s.bu 0 ((O.length : Int) - 1) = true := inB_iff.2 ⟨by omega, by omega⟩
    have i2 : inB s.se 0 ((O.length : Int) - 1) = true := inB_iff.2 ⟨by omega, by omega⟩
    have dn : decide (s.nu < 1) = false := decide_eq_false (by omega)
    repeat refine S.seq ?_
    refine S.skip ?_
    simp (disch := first | omega | (simp only [add_nx, upd_nx] <;> omega) | decide) only [rUz, ↓reduceIte, Nat.reduceEqDiff, Nat.reduceAdd]
    repeat refine S.seq ?_
    refine S.block ?_
    repeat refine S.seq ?_
    refine S.region ?_
    simp (disch := first | omega | (simp only [add_nx, upd_nx] <;> omega) | decide) only [rUz, ↓reduceIte, Nat.reduceEqDiff, Nat.reduceAdd, t5, t8, r1, r3, rp, wr_alloc zcS]
    refine wr_storeN (B := h.nx) (c := [iv 0, iv 0, iv 0, iv 0]) (fam := h.nx) (k := h.nx) (l := cSa s) (by simp (disch := first | omega | (simp only [add_nx, upd_nx] <;> omega) | decide) only [rUz, ↓reduceIte, Nat.reduceEqDiff, Nat.reduceAdd]) (by simp (disch := first | omega | (simp only [add_nx, upd_nx] <;> omega) | decide) only [rUz, ↓reduceIte, Nat.reduceEqDiff, Nat.reduceAdd]) scS (by omega) rfl (ag_eq rfl) (af_eq rfl) rfl ?_
    have hk9 : Kp h ((h.add [iv 0, iv 0, iv 0, iv 0]).upd h.nx (cSa s) h.nx) := Kp.refl.add.upd (Nat.le_refl _)
    have hg9 : ((h.add [iv 0, iv 0, iv 0, iv 0]).upd h.nx (cSa s) h.nx).bl.get h.nx = some (.cells (cSa s) h.nx false) := upd_eq _ _ _
    have hn9 : h.nx < ((h.add [iv 0, iv 0, iv 0, iv 0]).upd h.nx (cSa s) h.nx).nx := Nat.lt_succ_self _
    simp (disch := first | omega | (simp only [add_nx, upd_nx] <;> omega) | decide) only [rUz, ↓reduceIte, Nat.reduceEqDiff, Nat.reduceAdd]
    generalize (h.add [iv 0, iv 0, iv 0, iv 0]).upd h.nx (cSa s) h.nx = g9 at hk9 hg9 hn9 ⊢
    generalize h.nx = B9 at hg9 hn9 ⊢
    clear r1 r2 r3 r4 r5 r6 rp
    repeat refine S.seq ?_
    refine S.region ?_
    simp (disch := first | omega | (simp only [add_nx, upd_nx] <;> omega) | decide) only [rUz, ↓reduceIte, Nat.reduceEqDiff, Nat.reduceAdd, hg9, fieldAddr_ptr fcS0 s3, p3, cSa0, t7]
    refine wr_brings (fid := 27) (first := #[]) (captured := #[]) (Post := fun v h => v = .bool (inB s.bu 0 ((O.length : Int) - 1)) ∧ h = g9) rfl (hoff _ _ _ rfl) (by simp (disch := first | omega | (simp only [add_nx, upd_nx] <;> omega) | decide) only [rUz, ↓reduceIte, Nat.reduceEqDiff, Nat.reduceAdd]; exact in_y S g9 s.bu 0 ((O.length : Int) - 1)) ?_
    rintro u g' - ⟨rfl, rfl⟩
    simp (disch := first | omega | (simp only [add_nx, upd_nx] <;> omega) | decide) only [rUz, ↓reduceIte, Nat.reduceEqDiff, Nat.reduceAdd, un_not, i1, Bool.not_true, hg9, fieldAddr_ptr fcS1 s3, p3, cSa1, t7]
    refine wr_brings (fid := 27) (first := #[]) (captured := #[]) (Post := fun v h => v = .bool (inB s.se 0 ((O.length : Int) - 1)) ∧ h = g') rfl (hoff _ _ _ rfl) (by simp (disch := first | omega | (simp only [add_nx, upd_nx] <;> omega) | decide) only [rUz, ↓reduceIte, Nat.reduceEqDiff, Nat.reduceAdd]; exact in_y S g' s.se 0 ((O.length : Int) - 1)) ?_
    rintro u g'' - ⟨rfl, rfl⟩
    simp (disch := first | omega | (simp only [add_nx, upd_nx] <;> omega) | decide) only [rUz, ↓reduceIte, Nat.reduceEqDiff, Nat.reduceAdd, un_not, i2, Bool.not_true, hg9, fieldAddr_ptr fcS2 s3, p3, cSa2, dn]
    repeat refine S.seq ?_
    refine S.cond (v := false) (by first | rfl | (simp (disch := first | omega | (simp only [add_nx, upd_nx] <;> omega) | decide) only [rUz, ↓reduceIte, Nat.reduceEqDiff, Nat.reduceAdd] <;> rfl)) (fun e => by cases e) (fun _ => ?_)
    repeat refine S.seq ?_
    refine S.skip ?_
    simp (disch := first | omega | (simp only [add_nx, upd_nx] <;> omega) | decide) only [rUz, ↓reduceIte, Nat.reduceEqDiff, Nat.reduceAdd]
    have hb1g := (hk9.get (Nat.lt_of_lt_of_le hn1 kp.1)).trans hb1h
    have hbg := hbh.mono hk9
    have hbl := Nat.lt_of_lt_of_le (Nat.lt_of_lt_of_le hn1 kp.1) hk9.1
    obtain ⟨b1, f1, o1, c1, u1, u2, u3, u4, u5, u6⟩ := row_idx hbg slrO srO (od_get hbO)
    have up := part_at prO u4 u5
    obtain ⟨b2, f2, o2, c2', w1, w2, w3, w4, w5, w6⟩ := row_idx hbg slrO srO (od_get hjO)
    have wp := part_at prO w4 w5
    have hz1 : g''.res.res.fams.get g''.nx = some [] := by rw [res_fn (by show g''.nx ≠ g''.nx + 1; omega)]; exact res_fe rfl
    have hz2 : g''.res.res.fams.get (g''.nx + 1) = some [] := res_fe rfl
    obtain ⟨B10, hB10⟩ : ∃ x, x = g''.nx := ⟨_, rfl⟩
    obtain ⟨B11, hB11⟩ : ∃ x, x = g''.nx + 1 := ⟨_, rfl⟩
    repeat refine S.seq ?_
    refine S.drawnM [(false, 0), (false, 1), (false, 0), (false, 4), (false, 15), (false, 31), (false, 0), (false, 64), (false, 0), (false, 256), (false, 960), (false, 1984), (true, 0), (true, 0), (true, 12351), (true, 32767)] 12288 [12, 13] (by kernel_rfl) (by kernel_rfl) (by kernel_rfl) (by kernel_rfl) (by kernel_rfl) ?_
    generalize hJJ : (fun (t : T Value) (h : AHeap) => _) = KJ
    suffices hJ : ∀ t h, Kp g'' h → tget t 2 = ptr0 B1 → tget t 5 = w → tget t 7 = iv (O.length : Int) → tget t 8 = iv (k : Int) → tget t 9 = ptr0 B9 → tget t 10 = ptr0 B10 → tget t 11 = ptr0 B11 → h.bl.get B10 = some (.cells (cOd (od O b)) B10 false) → h.bl.get B11 = some (.cells (cOd (od O j)) B11 false) → KJ t h = true by
      clear hJJ hn he
      simp (disch := first | omega | (simp only [add_nx, upd_nx] <;> omega) | decide) only [rUz, ↓reduceIte, Nat.reduceEqDiff, Nat.reduceAdd, rMz, infoL, Nat.reduceSub, res_bl, t2, hb1g, hg9, fieldAddr_ptr fA0 lrO, qrO, po0, fieldAddr_ptr fcS0 s3, fieldAddr_ptr fcS1 s3, p3, cSa0, cSa1, hbu, hse, u1, u3, up, w1, w3, wp]
      refine dm_two rfl rfl ?_ ?_
      · refine dmW_alloc (r := g''.nx) (z := .agg ⟨[.bool false, iv 0, iv 0, iv 0, iv 0]⟩) rfl zrO hz1 (Nat.le_of_ble_eq_true rfl) ?_ ?_
        · have keep : ∀ B, B < g''.nx → (g''.res.res.putAt (g''.nx) [.bool false, iv 0, iv 0, iv 0, iv 0]).bl.get B = g''.bl.get B := fun B hB => by rw [putAt_ne (by omega)]; rfl
          have x1 := (keep _ hbl).trans hb1g
          have x9 := (keep _ hn9).trans hg9
          have xb := (keep _ u2).trans u3
          have xj := (keep _ w2).trans w3
          try simp (disch := first | decide | rfl) only [again_nil, again_skip, again_free]
          rw [again_same (v := .agg ⟨cOd (od O j)⟩) (by simp (disch := first | omega | (simp only [add_nx, upd_nx] <;> omega) | decide) only [rUz, ↓reduceIte, Nat.reduceEqDiff, Nat.reduceAdd, rDz, infoL, Nat.reduceSub, xj, wp]) (veq_cOd _)]
          try simp (disch := first | decide | rfl) only [again_nil, again_skip, again_free]
          rw [again_same (v := iv (j : Int)) (by simp (disch := first | omega | (simp only [add_nx, upd_nx] <;> omega) | decide) only [rUz, ↓reduceIte, Nat.reduceEqDiff, Nat.reduceAdd, rDz, infoL, Nat.reduceSub, x9, fieldAddr_ptr fcS1 s3, p3, cSa1, hse]) veq_int]
          try simp (disch := first | decide | rfl) only [again_nil, again_skip, again_free]
          rw [again_same (v := v) (by simp (disch := first | omega | (simp only [add_nx, upd_nx] <;> omega) | decide) only [rUz, ↓reduceIte, Nat.reduceEqDiff, Nat.reduceAdd, rDz, infoL, Nat.reduceSub, x1, fieldAddr_ptr fA0 lrO, qrO, po0]) (row_veq hb)]
          try simp (disch := first | decide | rfl) only [again_nil, again_skip, again_free]
          rw [again_same (v := .agg ⟨cOd (od O b)⟩) (by simp (disch := first | omega | (simp only [add_nx, upd_nx] <;> omega) | decide) only [rUz, ↓reduceIte, Nat.reduceEqDiff, Nat.reduceAdd, rDz, infoL, Nat.reduceSub, xb, up]) (veq_cOd _)]
          try simp (disch := first | decide | rfl) only [again_nil, again_skip, again_free]
          rw [again_same (v := iv (b : Int)) (by simp (disch := first | omega | (simp only [add_nx, upd_nx] <;> omega) | decide) only [rUz, ↓reduceIte, Nat.reduceEqDiff, Nat.reduceAdd, rDz, infoL, Nat.reduceSub, x9, fieldAddr_ptr fcS0 s3, p3, cSa0, hbu]) veq_int]
          try simp (disch := first | decide | rfl) only [again_nil, again_skip, again_free]
          rw [again_same (v := v) (by simp (disch := first | omega | (simp only [add_nx, upd_nx] <;> omega) | decide) only [rUz, ↓reduceIte, Nat.reduceEqDiff, Nat.reduceAdd, rDz, infoL, Nat.reduceSub, x1, fieldAddr_ptr fA0 lrO, qrO, po0]) (row_veq hb)]
          try simp (disch := first | decide | rfl) only [again_nil, again_skip, again_free]
        simp (disch := first | omega | (simp only [add_nx, upd_nx] <;> omega) | decide) only [rUz, ↓reduceIte, Nat.reduceEqDiff, Nat.reduceAdd, rMz, infoL, Nat.reduceSub]
        refine dm_one rfl rfl ?_
        refine dmW_alloc (r := g''.nx + 1) (z := .agg ⟨[.bool false, iv 0, iv 0, iv 0, iv 0]⟩) rfl zrO (by rw [putAt_fn (by omega)]; exact hz2) (Nat.le_of_ble_eq_true rfl) ?_ ?_
        · have keep : ∀ B, B < g''.nx → ((g''.res.res.putAt (g''.nx) [.bool false, iv 0, iv 0, iv 0, iv 0]).putAt (g''.nx + 1) [.bool false, iv 0, iv 0, iv 0, iv 0]).bl.get B = g''.bl.get B := fun B hB => by rw [putAt_ne (by omega), putAt_ne (by omega)]; rfl
          have x1 := (keep _ hbl).trans hb1g
          have x9 := (keep _ hn9).trans hg9
          have xb := (keep _ u2).trans u3
          have xj := (keep _ w2).trans w3
          try simp (disch := first | decide | rfl) only [again_nil, again_skip, again_free]
          rw [again_same (v := .agg ⟨cOd (od O j)⟩) (by simp (disch := first | omega | (simp only [add_nx, upd_nx] <;> omega) | decide) only [rUz, ↓reduceIte, Nat.reduceEqDiff, Nat.reduceAdd, rDz, infoL, Nat.reduceSub, xj, wp]) (veq_cOd _)]
          try simp (disch := first | decide | rfl) only [again_nil, again_skip, again_free]
          rw [again_same (v := iv (j : Int)) (by simp (disch := first | omega | (simp only [add_nx, upd_nx] <;> omega) | decide) only [rUz, ↓reduceIte, Nat.reduceEqDiff, Nat.reduceAdd, rDz, infoL, Nat.reduceSub, x9, fieldAddr_ptr fcS1 s3, p3, cSa1, hse]) veq_int]
          try simp (disch := first | decide | rfl) only [again_nil, again_skip, again_free]
          rw [again_same (v := v) (by simp (disch := first | omega | (simp only [add_nx, upd_nx] <;> omega) | decide) only [rUz, ↓reduceIte, Nat.reduceEqDiff, Nat.reduceAdd, rDz, infoL, Nat.reduceSub, x1, fieldAddr_ptr fA0 lrO, qrO, po0]) (row_veq hb)]
          try simp (disch := first | decide | rfl) only [again_nil, again_skip, again_free]
          rw [again_same (v := .agg ⟨cOd (od O b)⟩) (by simp (disch := first | omega | (simp only [add_nx, upd_nx] <;> omega) | decide) only [rUz, ↓reduceIte, Nat.reduceEqDiff, Nat.reduceAdd, rDz, infoL, Nat.reduceSub, xb, up]) (veq_cOd _)]
          try simp (disch := first | decide | rfl) only [again_nil, again_skip, again_free]
          rw [again_same (v := iv (b : Int)) (by simp (disch := first | omega | (simp only [add_nx, upd_nx] <;> omega) | decide) only [rUz, ↓reduceIte, Nat.reduceEqDiff, Nat.reduceAdd, rDz, infoL, Nat.reduceSub, x9, fieldAddr_ptr fcS0 s3, p3, cSa0, hbu]) veq_int]
          try simp (disch := first | decide | rfl) only [again_nil, again_skip, again_free]
          rw [again_same (v := v) (by simp (disch := first | omega | (simp only [add_nx, upd_nx] <;> omega) | decide) only [rUz, ↓reduceIte, Nat.reduceEqDiff, Nat.reduceAdd, rDz, infoL, Nat.reduceSub, x1, fieldAddr_ptr fA0 lrO, qrO, po0]) (row_veq hb)]
          try simp (disch := first | decide | rfl) only [again_nil, again_skip, again_free]
        simp (disch := first | omega | (simp only [add_nx, upd_nx] <;> omega) | decide) only [rUz, ↓reduceIte, Nat.reduceEqDiff, Nat.reduceAdd, rMz, infoL, Nat.reduceSub]
        refine dm_one rfl rfl ?_
        refine dmW_none rfl rfl (aw_storeN (B := g''.nx) (ls := cOd (od O b)) (by simp (disch := first | omega | (simp only [add_nx, upd_nx] <;> omega) | decide) only [rUz, ↓reduceIte, Nat.reduceEqDiff, Nat.reduceAdd, rMz, infoL, Nat.reduceSub]) (by simp (disch := first | omega | (simp only [add_nx, upd_nx] <;> omega) | decide) only [rUz, ↓reduceIte, Nat.reduceEqDiff, Nat.reduceAdd, rMz, infoL, Nat.reduceSub]) srO (by omega) rfl ((putAt_ne (by omega)).trans (putAt_eq rfl)) ((putAt_fn (by omega)).trans (putAt_fe rfl)) rfl) ?_ ?_
        · have keep : ∀ B, B < g''.nx → (((g''.res.res.putAt (g''.nx) [.bool false, iv 0, iv 0, iv 0, iv 0]).putAt (g''.nx + 1) [.bool false, iv 0, iv 0, iv 0, iv 0]).upd g''.nx (cOd (od O b)) g''.nx).bl.get B = g''.bl.get B := fun B hB => by rw [upd_ne _ _ _ (by omega), putAt_ne (by omega), putAt_ne (by omega)]; rfl
          have x1 := (keep _ hbl).trans hb1g
          have x9 := (keep _ hn9).trans hg9
          have xb := (keep _ u2).trans u3
          have xj := (keep _ w2).trans w3
          try simp (disch := first | decide | rfl) only [again_nil, again_skip, again_free]
          rw [again_same (v := .agg ⟨cOd (od O j)⟩) (by simp (disch := first | omega | (simp only [add_nx, upd_nx] <;> omega) | decide) only [rUz, ↓reduceIte, Nat.reduceEqDiff, Nat.reduceAdd, rDz, infoL, Nat.reduceSub, xj, wp]) (veq_cOd _)]
          try simp (disch := first | decide | rfl) only [again_nil, again_skip, again_free]
          rw [again_same (v := iv (j : Int)) (by simp (disch := first | omega | (simp only [add_nx, upd_nx] <;> omega) | decide) only [rUz, ↓reduceIte, Nat.reduceEqDiff, Nat.reduceAdd, rDz, infoL, Nat.reduceSub, x9, fieldAddr_ptr fcS1 s3, p3, cSa1, hse]) veq_int]
          try simp (disch := first | decide | rfl) only [again_nil, again_skip, again_free]
          rw [again_same (v := v) (by simp (disch := first | omega | (simp only [add_nx, upd_nx] <;> omega) | decide) only [rUz, ↓reduceIte, Nat.reduceEqDiff, Nat.reduceAdd, rDz, infoL, Nat.reduceSub, x1, fieldAddr_ptr fA0 lrO, qrO, po0]) (row_veq hb)]
          try simp (disch := first | decide | rfl) only [again_nil, again_skip, again_free]
        simp (disch := first | omega | (simp only [add_nx, upd_nx] <;> omega) | decide) only [rUz, ↓reduceIte, Nat.reduceEqDiff, Nat.reduceAdd, rMz, infoL, Nat.reduceSub]
        refine dm_one rfl rfl ?_
        refine dmW_none rfl rfl (aw_storeN (B := g''.nx + 1) (ls := cOd (od O j)) (by simp (disch := first | omega | (simp only [add_nx, upd_nx] <;> omega) | decide) only [rUz, ↓reduceIte, Nat.reduceEqDiff, Nat.reduceAdd, rMz, infoL, Nat.reduceSub]) (by simp (disch := first | omega | (simp only [add_nx, upd_nx] <;> omega) | decide) only [rUz, ↓reduceIte, Nat.reduceEqDiff, Nat.reduceAdd, rMz, infoL, Nat.reduceSub]) srO (by omega) rfl ((upd_ne _ _ _ (by omega)).trans (putAt_eq rfl)) (by rw [upd_fams]; exact putAt_fe rfl) rfl) ?_ ?_
        · try simp (disch := first | decide | rfl) only [again_nil, again_skip, again_free]
        simp (disch := first | omega | (simp only [add_nx, upd_nx] <;> omega) | decide) only [rUz, ↓reduceIte, Nat.reduceEqDiff, Nat.reduceAdd, rMz, infoL, Nat.reduceSub]
        subst hB10 hB11
        refine hJ _ _ ?_ ?_ ?_ ?_ ?_ ?_ ?_ ?_ ?_ ?_
        · exact (((Kp.refl.res.res.putAt (by omega)).putAt (by omega)).upd (by omega)).upd (by omega)
        · simp (disch := first | omega | (simp only [add_nx, upd_nx] <;> omega) | decide) only [rUz, ↓reduceIte, Nat.reduceEqDiff, Nat.reduceAdd, t2, t5, t7, t8, ]
        · simp (disch := first | omega | (simp only [add_nx, upd_nx] <;> omega) | decide) only [rUz, ↓reduceIte, Nat.reduceEqDiff, Nat.reduceAdd, t2, t5, t7, t8, ]
        · simp (disch := first | omega | (simp only [add_nx, upd_nx] <;> omega) | decide) only [rUz, ↓reduceIte, Nat.reduceEqDiff, Nat.reduceAdd, t2, t5, t7, t8, ]
        · simp (disch := first | omega | (simp only [add_nx, upd_nx] <;> omega) | decide) only [rUz, ↓reduceIte, Nat.reduceEqDiff, Nat.reduceAdd, t2, t5, t7, t8, ]
        · simp (disch := first | omega | (simp only [add_nx, upd_nx] <;> omega) | decide) only [rUz, ↓reduceIte, Nat.reduceEqDiff, Nat.reduceAdd, t2, t5, t7, t8, ]
        · simp (disch := first | omega | (simp only [add_nx, upd_nx] <;> omega) | decide) only [rUz, ↓reduceIte, Nat.reduceEqDiff, Nat.reduceAdd, t2, t5, t7, t8, ]
        · simp (disch := first | omega | (simp only [add_nx, upd_nx] <;> omega) | decide) only [rUz, ↓reduceIte, Nat.reduceEqDiff, Nat.reduceAdd, t2, t5, t7, t8, ]
        · rw [upd_ne _ _ _ (by omega)]; exact upd_eq _ _ _
        · exact upd_eq _ _ _
      · refine dmW_alloc (r := g''.nx + 1) (z := .agg ⟨[.bool false, iv 0, iv 0, iv 0, iv 0]⟩) rfl zrO hz2 (Nat.le_of_ble_eq_true rfl) ?_ ?_
        · have keep : ∀ B, B < g''.nx → (g''.res.res.putAt (g''.nx + 1) [.bool false, iv 0, iv 0, iv 0, iv 0]).bl.get B = g''.bl.get B := fun B hB => by rw [putAt_ne (by omega)]; rfl
          have x1 := (keep _ hbl).trans hb1g
          have x9 := (keep _ hn9).trans hg9
          have xb := (keep _ u2).trans u3
          have xj := (keep _ w2).trans w3
          try simp (disch := first | decide | rfl) only [again_nil, again_skip, again_free]
          rw [again_same (v := .agg ⟨cOd (od O j)⟩) (by simp (disch := first | omega | (simp only [add_nx, upd_nx] <;> omega) | decide) only [rUz, ↓reduceIte, Nat.reduceEqDiff, Nat.reduceAdd, rDz, infoL, Nat.reduceSub, xj, wp]) (veq_cOd _)]
          try simp (disch := first | decide | rfl) only [again_nil, again_skip, again_free]
          rw [again_same (v := iv (j : Int)) (by simp (disch := first | omega | (simp only [add_nx, upd_nx] <;> omega) | decide) only [rUz, ↓reduceIte, Nat.reduceEqDiff, Nat.reduceAdd, rDz, infoL, Nat.reduceSub, x9, fieldAddr_ptr fcS1 s3, p3, cSa1, hse]) veq_int]
          try simp (disch := first | decide | rfl) only [again_nil, again_skip, again_free]
          rw [again_same (v := v) (by simp (disch := first | omega | (simp only [add_nx, upd_nx] <;> omega) | decide) only [rUz, ↓reduceIte, Nat.reduceEqDiff, Nat.reduceAdd, rDz, infoL, Nat.reduceSub, x1, fieldAddr_ptr fA0 lrO, qrO, po0]) (row_veq hb)]
          try simp (disch := first | decide | rfl) only [again_nil, again_skip, again_free]
          rw [again_same (v := .agg ⟨cOd (od O b)⟩) (by simp (disch := first | omega | (simp only [add_nx, upd_nx] <;> omega) | decide) only [rUz, ↓reduceIte, Nat.reduceEqDiff, Nat.reduceAdd, rDz, infoL, Nat.reduceSub, xb, up]) (veq_cOd _)]
          try simp (disch := first | decide | rfl) only [again_nil, again_skip, again_free]
          rw [again_same (v := iv (b : Int)) (by simp (disch := first | omega | (simp only [add_nx, upd_nx] <;> omega) | decide) only [rUz, ↓reduceIte, Nat.reduceEqDiff, Nat.reduceAdd, rDz, infoL, Nat.reduceSub, x9, fieldAddr_ptr fcS0 s3, p3, cSa0, hbu]) veq_int]
          try simp (disch := first | decide | rfl) only [again_nil, again_skip, again_free]
          rw [again_same (v := v) (by simp (disch := first | omega | (simp only [add_nx, upd_nx] <;> omega) | decide) only [rUz, ↓reduceIte, Nat.reduceEqDiff, Nat.reduceAdd, rDz, infoL, Nat.reduceSub, x1, fieldAddr_ptr fA0 lrO, qrO, po0]) (row_veq hb)]
          try simp (disch := first | decide | rfl) only [again_nil, again_skip, again_free]
        simp (disch := first | omega | (simp only [add_nx, upd_nx] <;> omega) | decide) only [rUz, ↓reduceIte, Nat.reduceEqDiff, Nat.reduceAdd, rMz, infoL, Nat.reduceSub]
        refine dm_one rfl rfl ?_
        refine dmW_alloc (r := g''.nx) (z := .agg ⟨[.bool false, iv 0, iv 0, iv 0, iv 0]⟩) rfl zrO (by rw [putAt_fn (by omega)]; exact hz1) (Nat.le_of_ble_eq_true rfl) ?_ ?_
        · have keep : ∀ B, B < g''.nx → ((g''.res.res.putAt (g''.nx + 1) [.bool false, iv 0, iv 0, iv 0, iv 0]).putAt (g''.nx) [.bool false, iv 0, iv 0, iv 0, iv 0]).bl.get B = g''.bl.get B := fun B hB => by rw [putAt_ne (by omega), putAt_ne (by omega)]; rfl
          have x1 := (keep _ hbl).trans hb1g
          have x9 := (keep _ hn9).trans hg9
          have xb := (keep _ u2).trans u3
          have xj := (keep _ w2).trans w3
          try simp (disch := first | decide | rfl) only [again_nil, again_skip, again_free]
          rw [again_same (v := .agg ⟨cOd (od O j)⟩) (by simp (disch := first | omega | (simp only [add_nx, upd_nx] <;> omega) | decide) only [rUz, ↓reduceIte, Nat.reduceEqDiff, Nat.reduceAdd, rDz, infoL, Nat.reduceSub, xj, wp]) (veq_cOd _)]
          try simp (disch := first | decide | rfl) only [again_nil, again_skip, again_free]
          rw [again_same (v := iv (j : Int)) (by simp (disch := first | omega | (simp only [add_nx, upd_nx] <;> omega) | decide) only [rUz, ↓reduceIte, Nat.reduceEqDiff, Nat.reduceAdd, rDz, infoL, Nat.reduceSub, x9, fieldAddr_ptr fcS1 s3, p3, cSa1, hse]) veq_int]
          try simp (disch := first | decide | rfl) only [again_nil, again_skip, again_free]
          rw [again_same (v := v) (by simp (disch := first | omega | (simp only [add_nx, upd_nx] <;> omega) | decide) only [rUz, ↓reduceIte, Nat.reduceEqDiff, Nat.reduceAdd, rDz, infoL, Nat.reduceSub, x1, fieldAddr_ptr fA0 lrO, qrO, po0]) (row_veq hb)]
          try simp (disch := first | decide | rfl) only [again_nil, again_skip, again_free]
          rw [again_same (v := .agg ⟨cOd (od O b)⟩) (by simp (disch := first | omega | (simp only [add_nx, upd_nx] <;> omega) | decide) only [rUz, ↓reduceIte, Nat.reduceEqDiff, Nat.reduceAdd, rDz, infoL, Nat.reduceSub, xb, up]) (veq_cOd _)]
          try simp (disch := first | decide | rfl) only [again_nil, again_skip, again_free]
          rw [again_same (v := iv (b : Int)) (by simp (disch := first | omega | (simp only [add_nx, upd_nx] <;> omega) | decide) only [rUz, ↓reduceIte, Nat.reduceEqDiff, Nat.reduceAdd, rDz, infoL, Nat.reduceSub, x9, fieldAddr_ptr fcS0 s3, p3, cSa0, hbu]) veq_int]
          try simp (disch := first | decide | rfl) only [again_nil, again_skip, again_free]
          rw [again_same (v := v) (by simp (disch := first | omega | (simp only [add_nx, upd_nx] <;> omega) | decide) only [rUz, ↓reduceIte, Nat.reduceEqDiff, Nat.reduceAdd, rDz, infoL, Nat.reduceSub, x1, fieldAddr_ptr fA0 lrO, qrO, po0]) (row_veq hb)]
          try simp (disch := first | decide | rfl) only [again_nil, again_skip, again_free]
        simp (disch := first | omega | (simp only [add_nx, upd_nx] <;> omega) | decide) only [rUz, ↓reduceIte, Nat.reduceEqDiff, Nat.reduceAdd, rMz, infoL, Nat.reduceSub]
        refine dm_one rfl rfl ?_
        refine dmW_none rfl rfl (aw_storeN (B := g''.nx) (ls := cOd (od O b)) (by simp (disch := first | omega | (simp only [add_nx, upd_nx] <;> omega) | decide) only [rUz, ↓reduceIte, Nat.reduceEqDiff, Nat.reduceAdd, rMz, infoL, Nat.reduceSub]) (by simp (disch := first | omega | (simp only [add_nx, upd_nx] <;> omega) | decide) only [rUz, ↓reduceIte, Nat.reduceEqDiff, Nat.reduceAdd, rMz, infoL, Nat.reduceSub]) srO (by omega) rfl (putAt_eq rfl) (putAt_fe rfl) rfl) ?_ ?_
        · have keep : ∀ B, B < g''.nx → (((g''.res.res.putAt (g''.nx + 1) [.bool false, iv 0, iv 0, iv 0, iv 0]).putAt (g''.nx) [.bool false, iv 0, iv 0, iv 0, iv 0]).upd g''.nx (cOd (od O b)) g''.nx).bl.get B = g''.bl.get B := fun B hB => by rw [upd_ne _ _ _ (by omega), putAt_ne (by omega), putAt_ne (by omega)]; rfl
          have x1 := (keep _ hbl).trans hb1g
          have x9 := (keep _ hn9).trans hg9
          have xb := (keep _ u2).trans u3
          have xj := (keep _ w2).trans w3
          try simp (disch := first | decide | rfl) only [again_nil, again_skip, again_free]
          rw [again_same (v := .agg ⟨cOd (od O j)⟩) (by simp (disch := first | omega | (simp only [add_nx, upd_nx] <;> omega) | decide) only [rUz, ↓reduceIte, Nat.reduceEqDiff, Nat.reduceAdd, rDz, infoL, Nat.reduceSub, xj, wp]) (veq_cOd _)]
          try simp (disch := first | decide | rfl) only [again_nil, again_skip, again_free]
          rw [again_same (v := iv (j : Int)) (by simp (disch := first | omega | (simp only [add_nx, upd_nx] <;> omega) | decide) only [rUz, ↓reduceIte, Nat.reduceEqDiff, Nat.reduceAdd, rDz, infoL, Nat.reduceSub, x9, fieldAddr_ptr fcS1 s3, p3, cSa1, hse]) veq_int]
          try simp (disch := first | decide | rfl) only [again_nil, again_skip, again_free]
          rw [again_same (v := v) (by simp (disch := first | omega | (simp only [add_nx, upd_nx] <;> omega) | decide) only [rUz, ↓reduceIte, Nat.reduceEqDiff, Nat.reduceAdd, rDz, infoL, Nat.reduceSub, x1, fieldAddr_ptr fA0 lrO, qrO, po0]) (row_veq hb)]
          try simp (disch := first | decide | rfl) only [again_nil, again_skip, again_free]
        simp (disch := first | omega | (simp only [add_nx, upd_nx] <;> omega) | decide) only [rUz, ↓reduceIte, Nat.reduceEqDiff, Nat.reduceAdd, rMz, infoL, Nat.reduceSub]
        refine dm_one rfl rfl ?_
        refine dmW_none rfl rfl (aw_storeN (B := g''.nx + 1) (ls := cOd (od O j)) (by simp (disch := first | omega | (simp only [add_nx, upd_nx] <;> omega) | decide) only [rUz, ↓reduceIte, Nat.reduceEqDiff, Nat.reduceAdd, rMz, infoL, Nat.reduceSub]) (by simp (disch := first | omega | (simp only [add_nx, upd_nx] <;> omega) | decide) only [rUz, ↓reduceIte, Nat.reduceEqDiff, Nat.reduceAdd, rMz, infoL, Nat.reduceSub]) srO (by omega) rfl ((upd_ne _ _ _ (by omega)).trans ((putAt_ne (by omega)).trans (putAt_eq rfl))) (by rw [upd_fams]; exact (putAt_fn (by omega)).trans (putAt_fe rfl)) rfl) ?_ ?_
        · try simp (disch := first | decide | rfl) only [again_nil, again_skip, again_free]
        simp (disch := first | omega | (simp only [add_nx, upd_nx] <;> omega) | decide) only [rUz, ↓reduceIte, Nat.reduceEqDiff, Nat.reduceAdd, rMz, infoL, Nat.reduceSub]
        subst hB10 hB11
        refine hJ _ _ ?_ ?_ ?_ ?_ ?_ ?_ ?_ ?_ ?_ ?_
        · exact (((Kp.refl.res.res.putAt (by omega)).putAt (by omega)).upd (by omega)).upd (by omega)
        · simp (disch := first | omega | (simp only [add_nx, upd_nx] <;> omega) | decide) only [rUz, ↓reduceIte, Nat.reduceEqDiff, Nat.reduceAdd, t2, t5, t7, t8, ]
        · simp (disch := first | omega | (simp only [add_nx, upd_nx] <;> omega) | decide) only [rUz, ↓reduceIte, Nat.reduceEqDiff, Nat.reduceAdd, t2, t5, t7, t8, ]
        · simp (disch := first | omega | (simp only [add_nx, upd_nx] <;> omega) | decide) only [rUz, ↓reduceIte, Nat.reduceEqDiff, Nat.reduceAdd, t2, t5, t7, t8, ]
        · simp (disch := first | omega | (simp only [add_nx, upd_nx] <;> omega) | decide) only [rUz, ↓reduceIte, Nat.reduceEqDiff, Nat.reduceAdd, t2, t5, t7, t8, ]
        · simp (disch := first | omega | (simp only [add_nx, upd_nx] <;> omega) | decide) only [rUz, ↓reduceIte, Nat.reduceEqDiff, Nat.reduceAdd, t2, t5, t7, t8, ]
        · simp (disch := first | omega | (simp only [add_nx, upd_nx] <;> omega) | decide) only [rUz, ↓reduceIte, Nat.reduceEqDiff, Nat.reduceAdd, t2, t5, t7, t8, ]
        · simp (disch := first | omega | (simp only [add_nx, upd_nx] <;> omega) | decide) only [rUz, ↓reduceIte, Nat.reduceEqDiff, Nat.reduceAdd, t2, t5, t7, t8, ]
        · rw [upd_ne _ _ _ (by omega)]; exact upd_eq _ _ _
        · exact upd_eq _ _ _
    clear u1 u2 u3 u4 u5 u6 up w1 w2 w3 w4 w5 w6 wp hz1 hz2 t2 t5 t7 t8 hb1g hbg hbl
    clear t
    intro t ha hka t2 t5 t7 t8 t9 t10 t11 hb10 hb11
    have hg9a := (hka.get hn9).trans hg9
    subst hJJ
    simp only [seqK_normal]
    have d1 : decide ((od O b).l < s.pr) = false := decide_eq_false (by omega)
    have d2 : decide (s.pr < (od O j).l) = false := decide_eq_false (by omega)
    rcases tr2 (decide (s.pr = (od O b).l)) with d3 | d3
    · repeat refine S.seq ?_
      refine S.region ?_
      simp (disch := first | omega | (simp only [add_nx, upd_nx] <;> omega) | decide) only [rUz, ↓reduceIte, Nat.reduceEqDiff, Nat.reduceAdd, t9, t10, t11, hg9a, hb10, hb11, fieldAddr_ptr fcS3 s3, fieldAddr_ptr frO0 sb, fieldAddr_ptr frO1 s3, p3, pb, cSa3, cOd0, cOd1, un_not, bb, bj, Bool.not_true, d1, d2, d3]
      repeat refine S.seq ?_
      refine S.cond (v := false) (by first | rfl | (simp (disch := first | omega | (simp only [add_nx, upd_nx] <;> omega) | decide) only [rUz, ↓reduceIte, Nat.reduceEqDiff, Nat.reduceAdd] <;> rfl)) (fun e => by cases e) (fun _ => ?_)
      repeat refine S.seq ?_
      refine S.skip ?_
      simp (disch := first | omega | (simp only [add_nx, upd_nx] <;> omega) | decide) only [rUz, ↓reduceIte, Nat.reduceEqDiff, Nat.reduceAdd]
      repeat refine S.seq ?_
      refine S.region ?_
      simp (disch := first | omega | (simp only [add_nx, upd_nx] <;> omega) | decide) only [rUz, ↓reduceIte, Nat.reduceEqDiff, Nat.reduceAdd, t8]
      refine hn (k + 1) _ _ (by omega) ⟨(kp.trans hk9).trans hka, ?_, ?_, ?_, ?_, by omega⟩
      all_goals (first | rfl | (simp (disch := first | omega | (simp only [add_nx, upd_nx] <;> omega) | decide) only [rUz, ↓reduceIte, Nat.reduceEqDiff, Nat.reduceAdd, t2, t5, t7]; done) | (simp (disch := first | omega | (simp only [add_nx, upd_nx] <;> omega) | decide) only [rUz, ↓reduceIte, Nat.reduceEqDiff, Nat.reduceAdd, t2, t5, t7]; rfl))
    · have d4 : decide (s.pr = (od O j).l) = true := decide_eq_true (by
        rcases q3 with q | q
        · rw [decide_eq_true q] at d3; cases d3
        · exact q)
      repeat refine S.seq ?_
      refine S.region ?_
      simp (disch := first | omega | (simp only [add_nx, upd_nx] <;> omega) | decide) only [rUz, ↓reduceIte, Nat.reduceEqDiff, Nat.reduceAdd, t9, t10, t11, hg9a, hb10, hb11, fieldAddr_ptr fcS3 s3, fieldAddr_ptr frO0 sb, fieldAddr_ptr frO1 s3, p3, pb, cSa3, cOd0, cOd1, un_not, bb, bj, Bool.not_true, Bool.not_false, d1, d2, d3, d4]
      repeat refine S.seq ?_
      refine S.cond (v := false) (by first | rfl | (simp (disch := first | omega | (simp only [add_nx, upd_nx] <;> omega) | decide) only [rUz, ↓reduceIte, Nat.reduceEqDiff, Nat.reduceAdd] <;> rfl)) (fun e => by cases e) (fun _ => ?_)
      repeat refine S.seq ?_
      refine S.skip ?_
      simp (disch := first | omega | (simp only [add_nx, upd_nx] <;> omega) | decide) only [rUz, ↓reduceIte, Nat.reduceEqDiff, Nat.reduceAdd]
      repeat refine S.seq ?_
      refine S.region ?_
      simp (disch := first | omega | (simp only [add_nx, upd_nx] <;> omega) | decide) only [rUz, ↓reduceIte, Nat.reduceEqDiff, Nat.reduceAdd, t8]
      refine hn (k + 1) _ _ (by omega) ⟨(kp.trans hk9).trans hka, ?_, ?_, ?_, ?_, by omega⟩
      all_goals (first | rfl | (simp (disch := first | omega | (simp only [add_nx, upd_nx] <;> omega) | decide) only [rUz, ↓reduceIte, Nat.reduceEqDiff, Nat.reduceAdd, t2, t5, t7]; done) | (simp (disch := first | omega | (simp only [add_nx, upd_nx] <;> omega) | decide) only [rUz, ↓reduceIte, Nat.reduceEqDiff, Nat.reduceAdd, t2, t5, t7]; rfl))
  clear e t8 hk hb1h hbh hn
  refine S.exit (he _ _ _ _ (fun e => by cases e) ?_)
  clear he
  simp (disch := first | omega | (simp only [add_nx, upd_nx] <;> omega) | decide) only [rUz, ↓reduceIte, Nat.reduceEqDiff, Nat.reduceAdd]
  repeat refine S.seq ?_
  refine S.region ?_
  simp (disch := first | omega | (simp only [add_nx, upd_nx] <;> omega) | decide) only [rUz, ↓reduceIte, Nat.reduceEqDiff, Nat.reduceAdd]
  repeat refine S.seq ?_
  refine S.block ?_
  refine S.loop (ι := Nat) (IFb2 O.length g4 B1 w) (fun k => O.length - k) ?_ 0 _ _ ?_
  rotate_left
  · refine ⟨kp, ?_, ?_, ?_, ?_, Nat.zero_le _⟩
    all_goals (first | rfl | (simp (disch := first | omega | (simp only [add_nx, upd_nx] <;> omega) | decide) only [rUz, ↓reduceIte, Nat.reduceEqDiff, Nat.reduceAdd, t2, t5, t7]; done) | (simp (disch := first | omega | (simp only [add_nx, upd_nx] <;> omega) | decide) only [rUz, ↓reduceIte, Nat.reduceEqDiff, Nat.reduceAdd, t2, t5, t7]; rfl))
  clear t2 t5 t7 kp hk1h hsh k K'
  clear h t
  intro k t h ⟨kp, t2, t5, t7, t12, hk⟩ K' hn he
  have hb1h := (kp.get hn1).trans hb1
  have hk1h := hk1.trans kp
  have hbh := hb.mono hk1h
  have hsh := SlAt.mono hs kp
  repeat refine S.seq ?_
  refine S.region ?_
  simp (disch := first | omega | (simp only [add_nx, upd_nx] <;> omega) | decide) only [rUz, ↓reduceIte, Nat.reduceEqDiff, Nat.reduceAdd, t12, t7]
  repeat refine S.seq ?_
  refine S.cond (v := decide ((k : Int) < (O.length : Int))) (by first | rfl | (simp (disch := first | omega | (simp only [add_nx, upd_nx] <;> omega) | decide) only [rUz, ↓reduceIte, Nat.reduceEqDiff, Nat.reduceAdd] <;> rfl)) (fun e => ?_) (fun e => ?_)
  · have hkn : k < O.length := by have := of_decide_eq_true e; omega
    clear e
    have hf := hfil k hkn
    have hlf := (hok.b k).1
    have hd : decide ((od O k).n < fnZ (k : Int) L) = false := decide_eq_false (by
      have : fnZ (k : Int) L = (od O k).n - lg lf k := hf
      have : 0 ≤ lg lf k := hlf
      omega)
    repeat refine S.seq ?_
    refine S.skip ?_
    simp (disch := first | omega | (simp only [add_nx, upd_nx] <;> omega) | decide) only [rUz, ↓reduceIte, Nat.reduceEqDiff, Nat.reduceAdd]
    repeat refine S.seq ?_
    refine S.block ?_
    repeat refine S.seq ?_
    refine S.region ?_
    simp (disch := first | omega | (simp only [add_nx, upd_nx] <;> omega) | decide) only [rUz, ↓reduceIte, Nat.reduceEqDiff, Nat.reduceAdd, t5]
    refine wr_brings (fid := 19) (first := #[]) (captured := #[]) (Post := fun u h => SlAt h 4 u (L.map cSa)) rfl (hoff _ _ _ rfl) (by simp (disch := first | omega | (simp only [add_nx, upd_nx] <;> omega) | decide) only [rUz, ↓reduceIte, Nat.reduceEqDiff, Nat.reduceAdd]; exact back_y S h w L hsh (by omega)) ?_
    rintro u5 g5 hkg5 hs5
    simp (disch := first | omega | (simp only [add_nx, upd_nx] <;> omega) | decide) only [rUz, ↓reduceIte, Nat.reduceEqDiff, Nat.reduceAdd, t12]
    refine wr_brings (fid := 28) (first := #[]) (captured := #[]) (Post := fun u h => u = .tuple ⟨[iv (fnZ (k : Int) L), iv (fmZ (k : Int) L)]⟩ ∧ g5 = h) rfl (hoff _ _ _ rfl) (by simp (disch := first | omega | (simp only [add_nx, upd_nx] <;> omega) | decide) only [rUz, ↓reduceIte, Nat.reduceEqDiff, Nat.reduceAdd]; exact filled_y S g5 u5 L (k : Int) hs5 hso (by omega)) ?_
    rintro u6 g6 - ⟨rfl, rfl⟩
    simp (disch := first | omega | (simp only [add_nx, upd_nx] <;> omega) | decide) only [rUz, ↓reduceIte, Nat.reduceEqDiff, Nat.reduceAdd, tq0, tq1]
    have kp5 := kp.trans hkg5
    have hb15 := (kp5.get hn1).trans hb1
    have hb5 := hb.mono (hk1.trans kp5)
    obtain ⟨b1, f1, o1, c1, u1, u2, u3, u4, u5', u6⟩ := row_idx hb5 slrO srO (od_get hkn)
    have c2 := u6 2 _ (cOd2 (od O k))
    repeat refine S.seq ?_
    refine S.region ?_
    simp (disch := first | omega | (simp only [add_nx, upd_nx] <;> omega) | decide) only [rUz, ↓reduceIte, Nat.reduceEqDiff, Nat.reduceAdd, t2, t12, hb15, fieldAddr_ptr fA0 lrO, qrO, po0, u1, u3, fieldAddr_ptr frO2 s3, p3, c2, hd]
    repeat refine S.seq ?_
    refine S.cond (v := false) (by first | rfl | (simp (disch := first | omega | (simp only [add_nx, upd_nx] <;> omega) | decide) only [rUz, ↓reduceIte, Nat.reduceEqDiff, Nat.reduceAdd] <;> rfl)) (fun e => by cases e) (fun _ => ?_)
    repeat refine S.seq ?_
    refine S.skip ?_
    simp (disch := first | omega | (simp only [add_nx, upd_nx] <;> omega) | decide) only [rUz, ↓reduceIte, Nat.reduceEqDiff, Nat.reduceAdd]
    repeat refine S.seq ?_
    refine S.region ?_
    simp (disch := first | omega | (simp only [add_nx, upd_nx] <;> omega) | decide) only [rUz, ↓reduceIte, Nat.reduceEqDiff, Nat.reduceAdd]
    repeat refine S.seq ?_
    refine S.block ?_
    refine S.loop (ι := Nat) (IFb4 O.length g5 B1 w k (fnZ (k : Int) L)) (fun m => O.length - m) ?_ 0 _ _ ?_
    rotate_left
    · refine ⟨Kp.refl, ?_, ?_, ?_, ?_, ?_, ?_, Nat.zero_le _⟩
      all_goals (first | rfl | (simp (disch := first | omega | (simp only [add_nx, upd_nx] <;> omega) | decide) only [rUz, ↓reduceIte, Nat.reduceEqDiff, Nat.reduceAdd, t2, t5, t7, t12]; done) | (simp (disch := first | omega | (simp only [add_nx, upd_nx] <;> omega) | decide) only [rUz, ↓reduceIte, Nat.reduceEqDiff, Nat.reduceAdd, t2, t5, t7, t12]; rfl))
    clear t2 t5 t7 t12 u1 u2 u3 u4 u5' u6 c2 hs5 hb15 hb5 hb1h hsh hbh
    clear t
    intro m t h7 ⟨kp7, t2, t5, t7, t12, t13, t15, hm⟩ K4 hn4 he4
    have kpa := kp5.trans kp7
    have hb17 := (kpa.get hn1).trans hb1
    have hb7 := hb.mono (hk1.trans kpa)
    have hs7 := SlAt.mono hs kpa
    obtain ⟨b1, f1, o1, c1, u1, u2, u3, u4, u5', u6⟩ := row_idx hb7 slrO srO (od_get hkn)
    have c2 := u6 2 _ (cOd2 (od O k))
    have c0 := u6 0 _ (cOd0 (od O k))
    rw [Nat.add_zero] at c0
    have fin : ∀ t : T Value, tget t 2 = ptr0 B1 → tget t 5 = w → tget t 7 = iv (O.length : Int) → tget t 12 = iv (k : Int) → K4 (.exit 4) t h7 [] = true := by
      intro t t2 t5 t7 t12
      refine he4 _ _ _ _ (fun e => by cases e) ?_
      simp (disch := first | omega | (simp only [add_nx, upd_nx] <;> omega) | decide) only [rUz, ↓reduceIte, Nat.reduceEqDiff, Nat.reduceAdd]
      repeat refine S.seq ?_
      refine S.region ?_
      simp (disch := first | omega | (simp only [add_nx, upd_nx] <;> omega) | decide) only [rUz, ↓reduceIte, Nat.reduceEqDiff, Nat.reduceAdd, t12]
      refine hn (k + 1) _ _ (by omega) ⟨kpa, ?_, ?_, ?_, ?_, by omega⟩
      all_goals (first | rfl | (simp (disch := first | omega | (simp only [add_nx, upd_nx] <;> omega) | decide) only [rUz, ↓reduceIte, Nat.reduceEqDiff, Nat.reduceAdd, t2, t5, t7]; done) | (simp (disch := first | omega | (simp only [add_nx, upd_nx] <;> omega) | decide) only [rUz, ↓reduceIte, Nat.reduceEqDiff, Nat.reduceAdd, t2, t5, t7]; rfl))
    rcases tr2 (decide ((m : Int) < (O.length : Int))) with e1 | e1
    rotate_left
    · repeat refine S.seq ?_
      refine S.region ?_
      simp (disch := first | omega | (simp only [add_nx, upd_nx] <;> omega) | decide) only [rUz, ↓reduceIte, Nat.reduceEqDiff, Nat.reduceAdd, t15, t7, e1]
      repeat refine S.seq ?_
      refine S.cond (v := false) (by first | rfl | (simp (disch := first | omega | (simp only [add_nx, upd_nx] <;> omega) | decide) only [rUz, ↓reduceIte, Nat.reduceEqDiff, Nat.reduceAdd] <;> rfl)) (fun e => by cases e) (fun _ => ?_)
      refine S.exit (fin _ ?_ ?_ ?_ ?_)
      all_goals (first | rfl | (simp (disch := first | omega | (simp only [add_nx, upd_nx] <;> omega) | decide) only [rUz, ↓reduceIte, Nat.reduceEqDiff, Nat.reduceAdd, t2, t5, t7, t12]; done) | (simp (disch := first | omega | (simp only [add_nx, upd_nx] <;> omega) | decide) only [rUz, ↓reduceIte, Nat.reduceEqDiff, Nat.reduceAdd, t2, t5, t7, t12]; rfl))
    rcases tr2 (decide (fnZ (k : Int) L < (od O k).n)) with e2 | e2
    rotate_left
    · repeat refine S.seq ?_
      refine S.region ?_
      simp (disch := first | omega | (simp only [add_nx, upd_nx] <;> omega) | decide) only [rUz, ↓reduceIte, Nat.reduceEqDiff, Nat.reduceAdd, t15, t7, t2, t12, t13, hb17, fieldAddr_ptr fA0 lrO, qrO, po0, u1, u3, fieldAddr_ptr frO2 s3, p3, c2, e1, e2]
      repeat refine S.seq ?_
      refine S.cond (v := false) (by first | rfl | (simp (disch := first | omega | (simp only [add_nx, upd_nx] <;> omega) | decide) only [rUz, ↓reduceIte, Nat.reduceEqDiff, Nat.reduceAdd] <;> rfl)) (fun e => by cases e) (fun _ => ?_)
      refine S.exit (fin _ ?_ ?_ ?_ ?_)
      all_goals (first | rfl | (simp (disch := first | omega | (simp only [add_nx, upd_nx] <;> omega) | decide) only [rUz, ↓reduceIte, Nat.reduceEqDiff, Nat.reduceAdd, t2, t5, t7, t12]; done) | (simp (disch := first | omega | (simp only [add_nx, upd_nx] <;> omega) | decide) only [rUz, ↓reduceIte, Nat.reduceEqDiff, Nat.reduceAdd, t2, t5, t7, t12]; rfl))
    rcases tr2 ((od O k).b) with e3 | e3
    rotate_left
    · repeat refine S.seq ?_
      refine S.region ?_
      simp (disch := first | omega | (simp only [add_nx, upd_nx] <;> omega) | decide) only [rUz, ↓reduceIte, Nat.reduceEqDiff, Nat.reduceAdd, t15, t7, t2, t12, t13, hb17, fieldAddr_ptr fA0 lrO, qrO, po0, u1, u3, fieldAddr_ptr frO2 s3, fieldAddr_ptr frO0 sb, p3, pb, c2, c0, e1, e2, e3]
      repeat refine S.seq ?_
      refine S.cond (v := false) (by first | rfl | (simp (disch := first | omega | (simp only [add_nx, upd_nx] <;> omega) | decide) only [rUz, ↓reduceIte, Nat.reduceEqDiff, Nat.reduceAdd] <;> rfl)) (fun e => by cases e) (fun _ => ?_)
      refine S.exit (fin _ ?_ ?_ ?_ ?_)
      all_goals (first | rfl | (simp (disch := first | omega | (simp only [add_nx, upd_nx] <;> omega) | decide) only [rUz, ↓reduceIte, Nat.reduceEqDiff, Nat.reduceAdd, t2, t5, t7, t12]; done) | (simp (disch := first | omega | (simp only [add_nx, upd_nx] <;> omega) | decide) only [rUz, ↓reduceIte, Nat.reduceEqDiff, Nat.reduceAdd, t2, t5, t7, t12]; rfl))
    clear fin
    have hmn : m < O.length := by have := of_decide_eq_true e1; omega
    repeat refine S.seq ?_
    refine S.region ?_
    simp (disch := first | omega | (simp only [add_nx, upd_nx] <;> omega) | decide) only [rUz, ↓reduceIte, Nat.reduceEqDiff, Nat.reduceAdd, t15, t7, t2, t12, t13, hb17, fieldAddr_ptr fA0 lrO, qrO, po0, u1, u3, fieldAddr_ptr frO2 s3, fieldAddr_ptr frO0 sb, p3, pb, c2, c0, e1, e2, e3]
    repeat refine S.seq ?_
    refine S.cond (v := true) (by first | rfl | (simp (disch := first | omega | (simp only [add_nx, upd_nx] <;> omega) | decide) only [rUz, ↓reduceIte, Nat.reduceEqDiff, Nat.reduceAdd] <;> rfl)) (fun _ => ?_) (fun e => by cases e)
    repeat refine S.seq ?_
    refine S.skip ?_
    simp (disch := first | omega | (simp only [add_nx, upd_nx] <;> omega) | decide) only [rUz, ↓reduceIte, Nat.reduceEqDiff, Nat.reduceAdd]
    repeat refine S.seq ?_
    refine S.block ?_
    repeat refine S.seq ?_
    refine S.region ?_
    simp (disch := first | omega | (simp only [add_nx, upd_nx] <;> omega) | decide) only [rUz, ↓reduceIte, Nat.reduceEqDiff, Nat.reduceAdd, t5]
    refine wr_brings (fid := 19) (first := #[]) (captured := #[]) (Post := fun u h => SlAt h 4 u (L.map cSa)) rfl (hoff _ _ _ rfl) (by simp (disch := first | omega | (simp only [add_nx, upd_nx] <;> omega) | decide) only [rUz, ↓reduceIte, Nat.reduceEqDiff, Nat.reduceAdd]; exact back_y S h7 w L hs7 (by omega)) ?_
    rintro u8 g8 hkg8 hs8
    simp (disch := first | omega | (simp only [add_nx, upd_nx] <;> omega) | decide) only [rUz, ↓reduceIte, Nat.reduceEqDiff, Nat.reduceAdd, t15]
    refine wr_brings (fid := 28) (first := #[]) (captured := #[]) (Post := fun u h => u = .tuple ⟨[iv (fnZ (m : Int) L), iv (fmZ (m : Int) L)]⟩ ∧ g8 = h) rfl (hoff _ _ _ rfl) (by simp (disch := first | omega | (simp only [add_nx, upd_nx] <;> omega) | decide) only [rUz, ↓reduceIte, Nat.reduceEqDiff, Nat.reduceAdd]; exact filled_y S g8 u8 L (m : Int) hs8 hso (by omega)) ?_
    rintro u9 g9 - ⟨rfl, rfl⟩
    simp (disch := first | omega | (simp only [add_nx, upd_nx] <;> omega) | decide) only [rUz, ↓reduceIte, Nat.reduceEqDiff, Nat.reduceAdd, tq0, tq1]
    clear u1 u2 u3 u4 u5' u6 c2 c0 hb17 hb7
    have kpb := kpa.trans hkg8
    have hb18 := (kpb.get hn1).trans hb1
    have hb8 := hb.mono (hk1.trans kpb)
    obtain ⟨b1, f1, o1, c1, u1, u2, u3, u4, u5', u6⟩ := row_idx hb8 slrO srO (od_get hkn)
    have l1 := u6 1 _ (cOd1 (od O k))
    obtain ⟨b2, f2, o2, c2', w1, w2, w3, w4, w5, w6⟩ := row_idx hb8 slrO srO (od_get hmn)
    have y0 := w6 0 _ (cOd0 (od O m))
    rw [Nat.add_zero] at y0
    have y1 := w6 1 _ (cOd1 (od O m))
    have y2 := w6 2 _ (cOd2 (od O m))
    rcases tr2 ((od O m).b) with e4 | e4
    · repeat refine S.seq ?_
      refine S.drawnL [(false, 0), (false, 1), (false, 0), (false, 7), (false, 15), (false, 31), (false, 63), (false, 127), (false, 255), (false, 255), (false, 767), (false, 255), (false, 3839), (false, 7935), (false, 16127), (false, 32767), (false, 65535), (false, 131071), (false, 262143), (false, 524287), (false, 262143), (false, 2097151), (false, 4194303), (false, 8388607), (false, 262143), (false, 17039359), (false, 262143), (false, 117702655), (false, 251920383), (false, 520355839), (false, 1073741823), (false, 2147483647)] (by kernel_rfl) (by kernel_rfl) (by kernel_rfl) ?_
      simp (disch := first | omega | (simp only [add_nx, upd_nx] <;> omega) | decide) only [rUz, ↓reduceIte, Nat.reduceEqDiff, Nat.reduceAdd, rDz, infoL, Nat.reduceSub, t2, t15, hb18, fieldAddr_ptr fA0 lrO, qrO, po0, w1, w3, fieldAddr_ptr frO0 sb, pb, y0, un_not, e4, Bool.not_true]
      repeat refine S.seq ?_
      refine S.cond (v := false) (by first | rfl | (simp (disch := first | omega | (simp only [add_nx, upd_nx] <;> omega) | decide) only [rUz, ↓reduceIte, Nat.reduceEqDiff, Nat.reduceAdd] <;> rfl)) (fun e => by cases e) (fun _ => ?_)
      repeat refine S.seq ?_
      refine S.skip ?_
      simp (disch := first | omega | (simp only [add_nx, upd_nx] <;> omega) | decide) only [rUz, ↓reduceIte, Nat.reduceEqDiff, Nat.reduceAdd]
      repeat refine S.seq ?_
      refine S.region ?_
      simp (disch := first | omega | (simp only [add_nx, upd_nx] <;> omega) | decide) only [rUz, ↓reduceIte, Nat.reduceEqDiff, Nat.reduceAdd, t15]
      refine hn4 (m + 1) _ _ (by omega) ⟨kp7.trans hkg8, ?_, ?_, ?_, ?_, ?_, ?_, by omega⟩
      all_goals (first | rfl | (simp (disch := first | omega | (simp only [add_nx, upd_nx] <;> omega) | decide) only [rUz, ↓reduceIte, Nat.reduceEqDiff, Nat.reduceAdd, t2, t5, t7, t12, t13]; done) | (simp (disch := first | omega | (simp only [add_nx, upd_nx] <;> omega) | decide) only [rUz, ↓reduceIte, Nat.reduceEqDiff, Nat.reduceAdd, t2, t5, t7, t12, t13]; rfl))
    rcases tr2 (decide (fnZ (m : Int) L < (od O m).n)) with e5 | e5
    rotate_left
    · repeat refine S.seq ?_
      refine S.drawnL [(false, 0), (false, 1), (false, 0), (false, 7), (false, 15), (false, 31), (false, 63), (false, 127), (false, 255), (false, 255), (false, 767), (false, 255), (false, 3839), (false, 7935), (false, 16127), (false, 32767), (false, 65535), (false, 131071), (false, 262143), (false, 524287), (false, 262143), (false, 2097151), (false, 4194303), (false, 8388607), (false, 262143), (false, 17039359), (false, 262143), (false, 117702655), (false, 251920383), (false, 520355839), (false, 1073741823), (false, 2147483647)] (by kernel_rfl) (by kernel_rfl) (by kernel_rfl) ?_
      simp (disch := first | omega | (simp only [add_nx, upd_nx] <;> omega) | decide) only [rUz, ↓reduceIte, Nat.reduceEqDiff, Nat.reduceAdd, rDz, infoL, Nat.reduceSub, t2, t15, hb18, fieldAddr_ptr fA0 lrO, qrO, po0, w1, w3, fieldAddr_ptr frO0 sb, fieldAddr_ptr frO2 s3, pb, p3, y0, y2, un_not, e4, e5, Bool.not_false]
      repeat refine S.seq ?_
      refine S.cond (v := false) (by first | rfl | (simp (disch := first | omega | (simp only [add_nx, upd_nx] <;> omega) | decide) only [rUz, ↓reduceIte, Nat.reduceEqDiff, Nat.reduceAdd] <;> rfl)) (fun e => by cases e) (fun _ => ?_)
      repeat refine S.seq ?_
      refine S.skip ?_
      simp (disch := first | omega | (simp only [add_nx, upd_nx] <;> omega) | decide) only [rUz, ↓reduceIte, Nat.reduceEqDiff, Nat.reduceAdd]
      repeat refine S.seq ?_
      refine S.region ?_
      simp (disch := first | omega | (simp only [add_nx, upd_nx] <;> omega) | decide) only [rUz, ↓reduceIte, Nat.reduceEqDiff, Nat.reduceAdd, t15]
      refine hn4 (m + 1) _ _ (by omega) ⟨kp7.trans hkg8, ?_, ?_, ?_, ?_, ?_, ?_, by omega⟩
      all_goals (first | rfl | (simp (disch := first | omega | (simp only [add_nx, upd_nx] <;> omega) | decide) only [rUz, ↓reduceIte, Nat.reduceEqDiff, Nat.reduceAdd, t2, t5, t7, t12, t13]; done) | (simp (disch := first | omega | (simp only [add_nx, upd_nx] <;> omega) | decide) only [rUz, ↓reduceIte, Nat.reduceEqDiff, Nat.reduceAdd, t2, t5, t7, t12, t13]; rfl))
    have hx : (od O k).l < (od O m).l := hnc k m hkn hmn e3 e4 (of_decide_eq_true e2) (of_decide_eq_true e5)
    have e6 : decide ((od O m).l ≤ (od O k).l) = false := decide_eq_false (by omega)
    repeat refine S.seq ?_
    refine S.drawnL [(false, 0), (false, 1), (false, 0), (false, 7), (false, 15), (false, 31), (false, 63), (false, 127), (false, 255), (false, 255), (false, 767), (false, 255), (false, 3839), (false, 7935), (false, 16127), (false, 32767), (false, 65535), (false, 131071), (false, 262143), (false, 524287), (false, 262143), (false, 2097151), (false, 4194303), (false, 8388607), (false, 262143), (false, 17039359), (false, 262143), (false, 117702655), (false, 251920383), (false, 520355839), (false, 1073741823), (false, 2147483647)] (by kernel_rfl) (by kernel_rfl) (by kernel_rfl) ?_
    simp (disch := first | omega | (simp only [add_nx, upd_nx] <;> omega) | decide) only [rUz, ↓reduceIte, Nat.reduceEqDiff, Nat.reduceAdd, rDz, infoL, Nat.reduceSub, t2, t12, t15, hb18, fieldAddr_ptr fA0 lrO, qrO, po0, u1, u3, l1, w1, w3, fieldAddr_ptr frO0 sb, fieldAddr_ptr frO1 s3, fieldAddr_ptr frO2 s3, pb, p3, y0, y1, y2, un_not, e4, e5, e6, Bool.not_false]
    repeat refine S.seq ?_
    refine S.cond (v := false) (by first | rfl | (simp (disch := first | omega | (simp only [add_nx, upd_nx] <;> omega) | decide) only [rUz, ↓reduceIte, Nat.reduceEqDiff, Nat.reduceAdd] <;> rfl)) (fun e => by cases e) (fun _ => ?_)
    repeat refine S.seq ?_
    refine S.skip ?_
    simp (disch := first | omega | (simp only [add_nx, upd_nx] <;> omega) | decide) only [rUz, ↓reduceIte, Nat.reduceEqDiff, Nat.reduceAdd]
    repeat refine S.seq ?_
    refine S.region ?_
    simp (disch := first | omega | (simp only [add_nx, upd_nx] <;> omega) | decide) only [rUz, ↓reduceIte, Nat.reduceEqDiff, Nat.reduceAdd, t15]
    refine hn4 (m + 1) _ _ (by omega) ⟨kp7.trans hkg8, ?_, ?_, ?_, ?_, ?_, ?_, by omega⟩
    all_goals (first | rfl | (simp (disch := first | omega | (simp only [add_nx, upd_nx] <;> omega) | decide) only [rUz, ↓reduceIte, Nat.reduceEqDiff, Nat.reduceAdd, t2, t5, t7, t12, t13]; done) | (simp (disch := first | omega | (simp only [add_nx, upd_nx] <;> omega) | decide) only [rUz, ↓reduceIte, Nat.reduceEqDiff, Nat.reduceAdd, t2, t5, t7, t12, t13]; rfl))
  refine S.exit (he _ _ _ _ (fun e => by cases e) ?_)
  simp (disch := first | omega | (simp only [add_nx, upd_nx] <;> omega) | decide) only [rUz, ↓reduceIte, Nat.reduceEqDiff, Nat.reduceAdd]
  repeat refine S.seq ?_
  refine S.region ?_
  simp (disch := first | omega | (simp only [add_nx, upd_nx] <;> omega) | decide) only [rUz, ↓reduceIte, Nat.reduceEqDiff, Nat.reduceAdd]
  refine awake ?_
  simp (disch := first | omega | (simp only [add_nx, upd_nx] <;> omega) | decide) only [rUz, ↓reduceIte, Nat.reduceEqDiff, Nat.reduceAdd]
  refine S.ret ?_
  try simp only [seqK_ret, blockK_ret]
  subst hF
  simp only [finish, endMarks]
  rw [show Tryz.f5.results.toList = [.tmp 4] from rfl]
  simp (disch := first | omega | (simp only [add_nx, upd_nx] <;> omega) | decide) only [resA, ev_tmp, tget_ne, tget_eq, get_ne, get_eq, upd_eq, upd_ne, ag_eq, ag_ne, result1]
  exact hKr _ hk1h
end Go.Proofs.Po
