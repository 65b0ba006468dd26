import Derived.Test.YtbhflnhkmhmolaaGreatCt4
import Derived.Test.YtbhflnhkmhmolaaGreatCs3
/- The reference: what is paid; two lists that are equal. -/
namespace Go.Ev
open Go.RowKit
def OwnF (lo : Nat) (h : AHeap) (b F : Nat) (l : List Int) : Prop :=
  lo ≤ b ∧ b < h.nx ∧ h.bl.get b = some (.cells (l.map iv) F false) ∧ lo ≤ F ∧ F < h.nx ∧ ∃ fl, h.fams.get F = some fl ∧ ∀ x, x ∈ fl → lo ≤ x
theorem flatI (l : List Int) : (l.map fun n => [iv n]).flatten = l.map iv := by
  induction l with
  | nil => rfl
  | cons a l ih => simp only [List.map_cons, List.flatten_cons, List.singleton_append, ih]
theorem App.ownF {lo F : Nat} {h : AHeap} {v : Value} {l : List Int} (k : App lo h 1 v (l.map fun n => [iv n]) F) (hne : l ≠ []) : ∃ b, v = .slice (some ⟨b, 0, none⟩) l.length l.length ∧ OwnF lo h b F l := by
  rcases k with ⟨k, _⟩ | ⟨b, fl, _, k2, k3, k4, k5, _, k7, k8, k9, k10, _⟩
  · exact absurd (List.map_eq_nil_iff.1 k) hne
  · rw [List.length_map] at k2
    rw [flatI] at k5
    exact ⟨b, k2, k3, k4, k5, k7, k8, fl, k9, fun x hx => (k10 x hx).1⟩
theorem OwnF.at {lo b F : Nat} {h : AHeap} {l : List Int} (k : OwnF lo h b F l) : IAt h (.slice (some ⟨b, 0, none⟩) l.length l.length) l := .inr ⟨b, _, _, _, rfl, k.2.1, k.2.2.1⟩
theorem OwnF.store {lo b F : Nat} {h : AHeap} {l : List Int} (k : OwnF lo h b F l) {i : Nat} (hi : i < l.length) (z : Int) : ∃ h', (∀ K : AHeap → Bool, storeC h b i [iv z] K = K h') ∧ OwnF lo h' b F (l.set i z) ∧ Sm lo h h' := by
  obtain ⟨k1, k2, k3, k4, k5, fl, k6, k7⟩ := k
  have h1 : Nat.ble (Nat.add i ([iv z] : List Value).length) (l.map iv).length = true := Nat.ble_eq_true_of_le (by rw [List.length_map]; exact hi)
  have hs : (l.map iv).set i (iv z) = (l.set i z).map iv := List.map_set.symm
  have one : ∀ K : AHeap → Bool, storeC h b i [iv z] K = storeC1 h b i [iv z] (l.map iv) F K := fun K => by simp only [storeC, k3]
  have two : (∃ x, fl = [x]) ∨ ∀ K : AHeap → Bool, storeC1 h b i [iv z] (l.map iv) F K = K ⟨T.set (b + 1) (kill fl b h.bl) b (.cells ((l.set i z).map iv) F false), h.nx, T.set (F + 1) h.fams F [b]⟩ := by
    match fl, k6 with
    | [], k6 => exact .inr fun K => by simp only [storeC1, h1, cond_true, fSpine_eq, spliceL_one, hs, k6, killK_eq, T.setK_eq]
    | [x], _ => exact .inl ⟨x, rfl⟩
    | x :: y :: r, k6 => exact .inr fun K => by simp only [storeC1, h1, cond_true, fSpine_eq, spliceL_one, hs, k6, killK_eq, T.setK_eq]
  rcases two with ⟨x, rfl⟩ | two
  · refine ⟨h.upd b ((l.set i z).map iv) F, fun K => ?_, ⟨k1, k2, upd_eq _ _ _, k4, k5, [x], by rw [upd_fams]; exact k6, k7⟩, Nat.le_refl _, fun j hj => ⟨upd_ne _ _ _ (by omega), by rw [upd_fams]⟩⟩
    rw [one]
    simp only [storeC1, h1, cond_true, fSpine_eq, spliceL_one, hs, k6, T.setK_eq]
    rfl
  · refine ⟨⟨T.set (b + 1) (kill fl b h.bl) b (.cells ((l.set i z).map iv) F false), h.nx, T.set (F + 1) h.fams F [b]⟩, fun K => by rw [one, two], ⟨k1, k2, get_eq (Nat.lt_succ_self _), k4, k5, [b], get_eq (Nat.lt_succ_self _), fun x hx => by simp at hx; omega⟩, Nat.le_refl _, fun j hj => ⟨?_, get_ne (Nat.lt_succ_self _) (by omega)⟩⟩
    show (T.set (b + 1) (kill fl b h.bl) b (.cells ((l.set i z).map iv) F false)).get j = _
    rw [get_ne (Nat.lt_succ_self _) (by omega), kill_get, if_neg (fun q => by have := k7 j q.1; omega)]
theorem aw_storeF {P : Program} {call : CallT} {t : T Value} {h h' : AHeap} {ty a : TypeId} {ps : String} {af : Array Edge} {g : Option (Nat × Bool)} {x y : Operand} {b i : Nat} {z : Int} (hx : ev P t x = .pointer (some ⟨b, i, none⟩)) (hy : ev P t y = iv z) (hs : sizeB P a = some 1) (hst : ∀ K : AHeap → Bool, storeC h b i [iv z] K = K h') (K : KV) :
    awrite P call t h ⟨none, .store a x y, ty, ps, af, g⟩ K = K undef h' := by
  have h2 : (okV (iv z) && Nat.beq (Value.cells (iv z)).size 1) = true := rfl
  have hc : (Value.cells (iv z)).toList = [iv z] := rfl
  simp only [awrite, wStore, hx, hy, hs, h2, cond_true, hc, hst]
end Go.Ev
namespace Go.Proofs.Cp
open Go Go.Ev
set_option linter.unusedSimpArgs false

def mixZ (p : Int) (l : List Int) : Nat → List Int
  | 0 => l
  | k + 1 => (mixZ p l k).set k (p * l.getD k 0)
theorem mixZ_len (p : Int) (l : List Int) : ∀ k, (mixZ p l k).length = l.length
  | 0 => rfl
  | k + 1 => by rw [mixZ, List.length_set, mixZ_len p l k]
theorem mixZ_get (p : Int) (l : List Int) : ∀ k i, i < l.length → (mixZ p l k)[i]? = some (if i < k then p * l.getD i 0 else l.getD i 0)
  | 0, i, h => by
    rw [mixZ, if_neg (Nat.not_lt_zero _), List.getD_eq_getElem?_getD, List.getElem?_eq_getElem h]; rfl
  | k + 1, i, h => by
    rw [mixZ, List.getElem?_set]
    by_cases hk : k = i
    · subst hk
      rw [if_pos rfl, if_pos (by rw [mixZ_len]; exact h), if_pos (Nat.lt_succ_self _)]
    · rw [if_neg hk, mixZ_get p l k i h]
      by_cases h2 : i < k
      · rw [if_pos h2, if_pos (by omega)]
      · rw [if_neg h2, if_neg (by omega)]
theorem mixZ_all (p : Int) (l : List Int) : mixZ p l l.length = muls p l := by
  refine List.ext_getElem? fun i => ?_
  by_cases hi : i < l.length
  · rw [mixZ_get p l _ i hi, if_pos hi, muls, List.getElem?_map, List.getD_eq_getElem?_getD, List.getElem?_eq_getElem hi]; rfl
  · rw [List.getElem?_eq_none (by rw [mixZ_len]; omega), List.getElem?_eq_none (by rw [muls_len]; omega)]
theorem heldL_bnd {c : Co} (hv : Val c) (a b : List Int) (day : Int) : bndL 23328000 (heldL c a b day) := by
  intro x hx
  rw [← reg_eq hv] at hx
  exact holdP_bnd hv _ _ _ x (List.mem_of_mem_take hx)
def paidL (c : Co) (a b : List Int) (d : T3) : List Int := muls d.2.2 (heldL c a b d.2.1)
theorem p58 (d : T3) : partL Tryz.prog 58 (c3 d) 0 = some (.agg ⟨c3 d⟩) := part_0 prD (c3_len d)

structure IRp (G : AHeap) (lo b F B5 : Nat) (p : Int) (L : List Int) (k : Nat) (t : T Value) (h : AHeap) : Prop where
  kp : Kp G h
  own : OwnF lo h b F (mixZ p L k)
  t5 : tget t 5 = ptr0 B5
  t7 : tget t 7 = .slice (some ⟨b, 0, none⟩) L.length L.length
  t8 : tget t 8 = iv (k : Int)
  hk : k ≤ L.length

variable {pr : Prim} {R : ExT}
set_option maxHeartbeats 16000000 in
theorem rpaid_y (S : Ev.Steps Tryz.prog pr R) (hoff : Off pr) (h0 : AHeap) (v : Vs) (c : Co) (hc : CoAt h0 v c) (hv : Val c) (ua ub : Value) (a b : List Int) (hua : IAt h0 ua a) (hub : IAt h0 ub b) (hda : datedB c a b = true) (d : T3) (hd0 : 0 ≤ d.2.1) (hd1 : d.2.1 ≤ 11) (hp0 : 0 ≤ d.2.2) (hp1 : d.2.2 ≤ 50) :
    Brings Tryz.prog R 25 [.agg ⟨coV c.hs v⟩, .agg ⟨[ua, ub]⟩, .agg ⟨c3 d⟩] h0 fun u h => IAt h u (paidL c a b d) := by
  refine brings_of (fn := Tryz.f25) (c := (Tryz.f25.body).getD .skip) (by kernel_rfl) rfl (by kernel_rfl) rfl (fun K hK => ?_)
  generalize hF : finish Tryz.prog Tryz.f25 K = KF
  simp only [Tryz.f25, Option.getD_some, argsT, setArgs, fV1_eq, T.setK_eq, id]
  repeat refine S.seq ?_
  refine S.region ?_
  simp (disch := first | omega | decide) only [rUz]
  obtain ⟨B3, hB3⟩ : ∃ x, x = h0.nx := ⟨_, rfl⟩
  obtain ⟨B4, hB4⟩ : ∃ x, x = h0.nx + 1 := ⟨_, rfl⟩
  obtain ⟨B5, hB5⟩ : ∃ x, x = h0.nx + 1 + 1 := ⟨_, rfl⟩
  have hb3 : (((h0.add (coV c.hs v)).add [ua, ub]).add (c3 d)).bl.get B3 = some (.cells (coV c.hs v) B3 false) := by simp (disch := first | omega | (simp only [nZ] <;> omega) | decide) only [ag_ne]; subst hB3; exact ag_eq rfl
  have hb4 : (((h0.add (coV c.hs v)).add [ua, ub]).add (c3 d)).bl.get B4 = some (.cells [ua, ub] B4 false) := by simp (disch := first | omega | (simp only [nZ] <;> omega) | decide) only [ag_ne]; subst hB4; exact ag_eq rfl
  have hb5 : (((h0.add (coV c.hs v)).add [ua, ub]).add (c3 d)).bl.get B5 = some (.cells (c3 d) B5 false) := by subst hB5; exact ag_eq rfl
  have hk1 : Kp h0 (((h0.add (coV c.hs v)).add [ua, ub]).add (c3 d)) := Kp.refl.add.add.add
  have hn5 : B5 < (((h0.add (coV c.hs v)).add [ua, ub]).add (c3 d)).nx := by show B5 < h0.nx + 3; omega
  rw [← hB5, ← hB4, ← hB3]
  generalize ((h0.add (coV c.hs v)).add [ua, ub]).add (c3 d) = H at hb3 hb4 hb5 hk1 hn5 ⊢
  clear hB3 hB4 hB5
  repeat refine S.seq ?_
  refine S.region ?_
  simp (disch := first | omega | decide) only [rUz, hb3, hb4, hb5, part_0 pA (coV_len c.hs v), prU2, fieldAddr_ptr frD1 s3, p3, c31]
  refine wr_brings (fid := 20) (first := #[]) (captured := #[]) (Post := fun u h => ∃ lo F, H.nx ≤ lo ∧ App lo h 1 u ((heldL c a b d.2.1).map fun n => [iv n]) F) rfl (hoff _ _ _ rfl) (by simp (disch := first | omega | decide) only [rUz]; exact rheldA_y S hoff H v c (hc.mono hk1) hv ua ub a b (hua.mono hk1) (hub.mono hk1) hda d.2.1 hd0 hd1) ?_
  rintro u g hkg ⟨lo, F, hlo, happ⟩
  have hL := heldL_bnd hv a b d.2.1
  have hlen : (heldL c a b d.2.1).length = c.held.length := heldFrom_len ..
  have hh := hv.held
  have hh1 := hv.h1
  have hh4 := hv.h4
  unfold paidL at hK
  generalize heldL c a b d.2.1 = L at happ hL hlen hK
  obtain ⟨q, rfl, own⟩ := happ.ownF (fun e => by rw [e] at hlen; simp at hlen; omega)
  have hn4 : L.length ≤ 4 := by omega
  clear happ
  have lsl : ∀ (t : T Value) (h1 : AHeap) (o : Oper), rLen Tryz.prog t h1 o 22 (.slice (some ⟨q, 0, none⟩) L.length L.length) = some (iv (L.length : Int)) := fun t h1 o => len_sl isI
  simp (disch := first | omega | decide) only [rUz]
  repeat refine S.seq ?_
  refine S.region ?_
  simp (disch := first | omega | decide) only [rUz]
  repeat refine S.seq ?_
  refine S.block ?_
  refine S.loop (ι := Nat) (IRp H lo q F B5 d.2.2 L) (fun k => L.length - k) ?_ 0 _ _ ?_
  rotate_left
  · refine ⟨hkg, own, ?_, ?_, ?_, Nat.zero_le _⟩
    all_goals (first | rfl | (simp (disch := first | omega | decide) only [rUz]; done) | (simp (disch := first | omega | decide) only [rUz]; rfl))
  clear own hkg
  intro k t h ⟨kp, own, t5, t7, t8, hk⟩ K' hn he
  repeat refine S.seq ?_
  refine S.region ?_
  simp (disch := first | omega | decide) only [rUz, t7, t8, lsl]
  repeat refine S.seq ?_
  refine S.cond (v := decide ((k : Int) < (L.length : Int))) (by first | rfl | (simp (disch := first | omega | decide) only [rUz, ↓reduceIte, Nat.reduceEqDiff, Nat.reduceAdd] <;> rfl)) (fun e => ?_) (fun e => ?_)
  rotate_left
  · have hkn : k = L.length := by have := of_decide_eq_false e; omega
    subst hkn
    refine S.exit (he _ _ _ _ (fun e => by cases e) ?_)
    simp (disch := first | omega | decide) only [rUz]
    repeat refine S.seq ?_
    refine S.region ?_
    simp (disch := first | omega | decide) only [rUz, t7]
    refine S.ret ?_
    try simp only [seqK_ret, blockK_ret]
    subst hF
    simp only [finish, endMarks]
    rw [show Tryz.f25.results.toList = [.tmp 6] from rfl]
    simp (disch := first | omega | decide) only [resA, ev_tmp, tget_ne, tget_eq, get_ne, get_eq, upd_eq, upd_ne, ag_eq, ag_ne, result1]
    rw [mixZ_all] at own
    have := own.at
    rw [muls_len] at this
    exact hK _ _ (hk1.trans kp) this
  have hkn : k < L.length := by have := of_decide_eq_true e; omega
  clear e
  have hb5h := (kp.get hn5).trans hb5
  have ob := own.2.2.1
  have gx : ((mixZ d.2.2 L k).map iv)[k]? = some (iv L[k]) := by
    rw [List.getElem?_map, mixZ_get _ _ _ _ hkn, if_neg (Nat.lt_irrefl _), List.getD_eq_getElem?_getD, List.getElem?_eq_getElem hkn]; rfl
  have hx := hL L[k] (List.getElem_mem hkn)
  have hm0 : mixZ d.2.2 L (k + 1) = (mixZ d.2.2 L k).set k (d.2.2 * L[k]) := by
    rw [mixZ, List.getD_eq_getElem?_getD, List.getElem?_eq_getElem hkn]; rfl
  generalize L[k] = x at gx hx hm0
  have hm := mul_bnd hp0 hp1 (by omega) hx.1 hx.2
  have il : rIndexAddr Tryz.prog 22 (.slice (some ⟨q, 0, none⟩) L.length L.length) (iv (k : Int)) = some (.pointer (some ⟨q, k, none⟩)) := by
    rw [indexAddr_sl slI s3' hkn, Nat.zero_add, Nat.mul_one]
  obtain ⟨h', hst, own', hsm⟩ := own.store (i := k) (by rw [mixZ_len]; exact hkn) (d.2.2 * x)
  rw [← hm0] at own'
  repeat refine S.seq ?_
  refine S.skip ?_
  simp (disch := first | omega | decide) only [rUz]
  repeat refine S.seq ?_
  refine S.block ?_
  repeat refine S.seq ?_
  refine S.drawnL [(false, 0), (false, 0), (false, 0), (false, 4), (false, 0), (false, 0), (false, 48), (false, 112), (false, 252), (false, 511), (true, 1023)] (by kernel_rfl) (by kernel_rfl) (by kernel_rfl) ?_
  simp (disch := first | omega | decide) only [rUz, rDz, infoL, Nat.reduceSub, t5, t7, t8, hb5h, fieldAddr_ptr frD2 s3, p3, c32, il, ob, gx]
  refine drW_giveN (aw_storeF (by simp (disch := first | omega | decide) only [rUz, rDz, infoL, Nat.reduceSub]) (by simp (disch := first | omega | decide) only [rUz, rDz, infoL, Nat.reduceSub]) s3' hst) ?_ ?_
  · try simp (disch := first | decide | rfl) only [again_nil, again_skip, again_free]
  simp (disch := first | omega | decide) only [rUz, rDz, infoL, Nat.reduceSub]
  repeat refine S.seq ?_
  refine S.region ?_
  simp (disch := first | omega | decide) only [rUz, t8]
  refine hn (k + 1) _ _ (by omega) ⟨hsm.kp hlo kp, own', ?_, ?_, ?_, by omega⟩
  all_goals (first | rfl | (simp (disch := first | omega | decide) only [rUz, t5, t7]; done) | (simp (disch := first | omega | decide) only [rUz, t5, t7]; rfl))

structure IBf (x y : Value) (n : Nat) (H : AHeap) (k : Nat) (t : T Value) (h : AHeap) : Prop where
  hh : h = H
  t0 : tget t 0 = x
  t1 : tget t 1 = y
  t5 : tget t 5 = iv (k : Int)
  hk : k ≤ n
set_option maxHeartbeats 8000000 in
theorem before_y (S : Ev.Steps Tryz.prog pr R) (h0 : AHeap) (x y : Value) (l : List Int) (hx : IAt h0 x l) (hy : IAt h0 y l) (hl : l.length ≤ 1000000) :
    Brings Tryz.prog R 51 [x, y] h0 fun u _ => u = .bool false := by
  refine brings_of (fn := Tryz.f51) (c := (Tryz.f51.body).getD .skip) (by kernel_rfl) rfl (by kernel_rfl) rfl (fun K hK => ?_)
  generalize hF : finish Tryz.prog Tryz.f51 K = KF
  simp only [Tryz.f51, Option.getD_some, argsT, setArgs, fV1_eq, T.setK_eq, id]
  have lx := fun t h1 o => iv_len hx t h1 o
  have ly := fun t h1 o => iv_len hy t h1 o
  repeat refine S.seq ?_
  refine S.region ?_
  simp (disch := first | omega | decide) only [rUz]
  repeat refine S.seq ?_
  refine S.region ?_
  simp (disch := first | omega | decide) only [rUz]
  repeat refine S.seq ?_
  refine S.block ?_
  refine S.loop (ι := Nat) (IBf x y l.length h0) (fun k => l.length - k) ?_ 0 _ _ ?_
  rotate_left
  · refine ⟨rfl, ?_, ?_, ?_, Nat.zero_le _⟩
    all_goals (first | rfl | (simp (disch := first | omega | decide) only [rUz]; done) | (simp (disch := first | omega | decide) only [rUz]; rfl))
  intro k t h ⟨hh, t0, t1, t5, hk⟩ K' hn he
  subst hh
  cases e : decide ((k : Int) < (l.length : Int)) with
  | false =>
    repeat refine S.seq ?_
    refine S.region ?_
    simp (disch := first | omega | decide) only [rUz, t0, t1, t5, lx, ly, e]
    repeat refine S.seq ?_
    refine S.cond (v := false) (by first | rfl | (simp (disch := first | omega | decide) only [rUz, ↓reduceIte, Nat.reduceEqDiff, Nat.reduceAdd] <;> rfl)) (fun e => by cases e) (fun _ => ?_)
    refine S.exit (he _ _ _ _ (fun e => by cases e) ?_)
    simp (disch := first | omega | decide) only [rUz]
    repeat refine S.seq ?_
    refine S.region ?_
    simp (disch := first | omega | decide) only [rUz, t0, t1, lx, ly, Int.lt_irrefl, decide_false]
    refine S.ret ?_
    try simp only [seqK_ret, blockK_ret]
    subst hF
    simp only [finish, endMarks]
    rw [show Tryz.f51.results.toList = [.tmp 4] from rfl]
    simp (disch := first | omega | decide) only [resA, ev_tmp, tget_ne, tget_eq, get_ne, get_eq, upd_eq, upd_ne, ag_eq, ag_ne, result1]
    exact hK _ _ Kp.refl rfl
  | true =>
    have hkn : k < l.length := by have := of_decide_eq_true e; omega
    obtain ⟨b1, f1, o1, q1, q2, q3, q4⟩ := hx.idx slI s3' hkn
    obtain ⟨b2, f2, o2, r1, r2, r3, r4⟩ := hy.idx slI s3' hkn
    generalize l[k] = z at q4 r4
    repeat refine S.seq ?_
    refine S.region ?_
    simp (disch := first | omega | decide) only [rUz, t0, t1, t5, lx, ly, e]
    repeat refine S.seq ?_
    refine S.cond (v := true) (by first | rfl | (simp (disch := first | omega | decide) only [rUz, ↓reduceIte, Nat.reduceEqDiff, Nat.reduceAdd] <;> rfl)) (fun _ => ?_) (fun e => by cases e)
    repeat refine S.seq ?_
    refine S.skip ?_
    simp (disch := first | omega | decide) only [rUz]
    repeat refine S.seq ?_
    refine S.block ?_
    repeat refine S.seq ?_
    refine S.drawnL [(false, 0), (false, 0), (false, 3), (false, 7), (false, 0), (false, 0), (false, 48), (false, 112), (false, 255)] (by kernel_rfl) (by kernel_rfl) (by kernel_rfl) ?_
    simp (disch := first | omega | decide) only [rUz, rDz, infoL, Nat.reduceSub, t0, t1, t5, q1, q3, r1, r3, p3, q4, r4, decide_true, Bool.not_true]
    repeat refine S.seq ?_
    refine S.cond (v := false) (by first | rfl | (simp (disch := first | omega | decide) only [rUz, ↓reduceIte, Nat.reduceEqDiff, Nat.reduceAdd] <;> rfl)) (fun e => by cases e) (fun _ => ?_)
    repeat refine S.seq ?_
    refine S.skip ?_
    simp (disch := first | omega | decide) only [rUz]
    repeat refine S.seq ?_
    refine S.region ?_
    simp (disch := first | omega | decide) only [rUz, t5]
    refine hn (k + 1) _ _ (by omega) ⟨rfl, ?_, ?_, ?_, by omega⟩
    all_goals (first | rfl | (simp (disch := first | omega | decide) only [rUz, t0, t1]; done) | (simp (disch := first | omega | decide) only [rUz, t0, t1]; rfl))
set_option maxHeartbeats 8000000 in
theorem same_y (S : Ev.Steps Tryz.prog pr R) (hoff : Off pr) (h0 : AHeap) (x y : Value) (l : List Int) (hx : IAt h0 x l) (hy : IAt h0 y l) (hl : l.length ≤ 1000000) :
    Brings Tryz.prog R 24 [x, y] h0 fun u _ => u = .bool true := by
  refine brings_of (fn := Tryz.f24) (c := (Tryz.f24.body).getD .skip) (by kernel_rfl) rfl (by kernel_rfl) rfl (fun K hK => ?_)
  generalize hF : finish Tryz.prog Tryz.f24 K = KF
  simp only [Tryz.f24, Option.getD_some, argsT, setArgs, fV1_eq, T.setK_eq, id]
  have lx := fun t h1 o => iv_len hx t h1 o
  have ly := fun t h1 o => iv_len hy t h1 o
  repeat refine S.seq ?_
  refine S.region ?_
  simp (disch := first | omega | decide) only [rUz]
  repeat refine S.seq ?_
  refine S.region ?_
  simp (disch := first | omega | decide) only [rUz, lx, ly, decide_true]
  refine wr_brings (fid := 51) (first := #[]) (captured := #[]) (Post := fun u _ => u = .bool false) rfl (hoff _ _ _ rfl) (by simp (disch := first | omega | decide) only [rUz]; exact before_y S _ x y l hx hy hl) ?_
  rintro u g hkg rfl
  simp (disch := first | omega | decide) only [rUz, Bool.not_false]
  refine wr_brings (fid := 51) (first := #[]) (captured := #[]) (Post := fun u _ => u = .bool false) rfl (hoff _ _ _ rfl) (by simp (disch := first | omega | decide) only [rUz]; exact before_y S _ y x l (hy.mono hkg) (hx.mono hkg) hl) ?_
  rintro u g2 hkg2 rfl
  simp (disch := first | omega | decide) only [rUz, Bool.not_false]
  refine S.ret ?_
  try simp only [seqK_ret, blockK_ret]
  subst hF
  simp only [finish, endMarks]
  rw [show Tryz.f24.results.toList = [.tmp 4] from rfl]
  simp (disch := first | omega | decide) only [resA, ev_tmp, tget_ne, tget_eq, get_ne, get_eq, upd_eq, upd_ne, ag_eq, ag_ne, result1]
  exact hK _ _ (hkg.trans hkg2) rfl
end Go.Proofs.Cp
