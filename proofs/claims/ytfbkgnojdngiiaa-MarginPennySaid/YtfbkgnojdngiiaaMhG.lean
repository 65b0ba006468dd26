import Derived.Test.YtfbkgnojdngiiaaMhF
/- The program's Play. -/
namespace Go.Proofs.Mg
open Go Go.Ev Go.RowKit
set_option linter.unusedSimpArgs false
variable {pr : Prim} {R : ExT}
def faultT (st : Int) (D : List PD) (L : List PL) (Ts : List PT) (rt : List Int) : Int := bif decide (faultZ st D L = 0) then (bif truthB st D Ts rt then 0 else 2) else faultZ st D L
theorem faultT0 {st : Int} {D : List PD} {L : List PL} {Ts : List PT} {rt : List Int} (h : faultT st D L Ts rt = 0) : Val st D L ∧ truthB st D Ts rt = true := by
  unfold faultT at h
  by_cases h1 : faultZ st D L = 0
  · rw [decide_eq_true h1, cond_true] at h
    cases h2 : truthB st D Ts rt with
    | false => rw [h2, cond_false] at h; omega
    | true => exact ⟨val_iff.1 h1, rfl⟩
  · rw [decide_eq_false h1, cond_false] at h
    exact absurd h h1
def FollowAt (h0 : AHeap) (st : Int) (dv lv pv rv : Value) (D : List PD) (L : List PL) (Ts : List PT) (rt : List Int) (u : Value) (h : AHeap) : Prop :=
  (faultT st D L Ts rt = 0 ∧ ∃ Bw r, u = .tuple ⟨[ptr0 Bw, iv 0]⟩ ∧ h0.nx ≤ r ∧ h0.nx ≤ Bw ∧ WAt h Bw r st dv lv pv rv D L Ts rt []) ∨ (faultT st D L Ts rt ≠ 0 ∧ u = .tuple ⟨[.pointer none, iv (faultT st D L Ts rt)]⟩)
set_option maxHeartbeats 4000000 in
theorem follow_y (S : Ev.Steps Try.prog pr R) (hoff : Off pr) (h0 : AHeap) (st : Int) (dv lv pv rv : Value) (D : List PD) (L : List PL) (Ts : List PT) (rt : List Int) (hb : BkAt h0 dv lv D L) (ht : TuAt h0 pv rv Ts rt) (hd7 : (D.length : Int) ≤ 7) (hl7 : (L.length : Int) ≤ 7) (hp7 : ∀ x, x ∈ D → (x.2.1.length : Int) ≤ 7) (hx7 : ∀ x, x ∈ L → (x.2.2.2.length : Int) ≤ 7) :
    Brings Try.prog R 53 [.agg ⟨bkV st dv lv⟩, .agg ⟨tuV pv rv⟩] h0 (FollowAt h0 st dv lv pv rv D L Ts rt) := by
  refine brings_of (fn := Try.f53) (c := (Try.f53.body).getD .skip) (by kernel_rfl) rfl (by kernel_rfl) rfl (fun K hK => ?_)
  generalize hF : finish Try.prog Try.f53 K = KF
  simp only [Try.f53, Option.getD_some, argsT, setArgs, fV1_eq, T.setK_eq, id]
  have hbad : ∀ n : Int, faultT st D L Ts rt = n → n ≠ 0 → ∀ g, Kp h0 g → K (.tuple ⟨[.pointer none, iv n]⟩) g = true := fun n hn hz g hk => hK _ _ hk (.inr ⟨by omega, by rw [hn]⟩)
  have hgood : faultT st D L Ts rt = 0 → ∀ Bw r g, Kp h0 g → h0.nx ≤ r → h0.nx ≤ Bw → WAt g Bw r st dv lv pv rv D L Ts rt [] → K (.tuple ⟨[ptr0 Bw, iv 0]⟩) g = true := fun hz Bw r g hk h1 h2 hw => hK _ _ hk (.inl ⟨hz, Bw, r, rfl, h1, h2, hw⟩)
  clear hK
  repeat refine S.seq ?_
  refine S.region ?_
  simp (disch := first | omega | (simp only [add_nx, upd_nx] <;> omega) | decide) only [rUz, ↓reduceIte, Nat.reduceEqDiff, Nat.reduceAdd]
  obtain ⟨B2, hB2⟩ : ∃ x, x = h0.nx := ⟨_, rfl⟩
  obtain ⟨B3, hB3⟩ : ∃ x, x = h0.nx + 1 := ⟨_, rfl⟩
  have hb2 : ((h0.add (bkV st dv lv)).add (tuV pv rv)).bl.get B2 = some (.cells (bkV st dv lv) B2 false) := by rw [ag_ne (by show B2 ≠ h0.nx + 1; omega)]; subst hB2; exact ag_eq rfl
  have hb3 : ((h0.add (bkV st dv lv)).add (tuV pv rv)).bl.get B3 = some (.cells (tuV pv rv) B3 false) := by subst hB3; exact ag_eq rfl
  have hk1 : Kp h0 ((h0.add (bkV st dv lv)).add (tuV pv rv)) := Kp.refl.add.add
  have hn2 : B2 < ((h0.add (bkV st dv lv)).add (tuV pv rv)).nx := by show B2 < h0.nx + 2; omega
  have hn3 : B3 < ((h0.add (bkV st dv lv)).add (tuV pv rv)).nx := by show B3 < h0.nx + 2; omega
  rw [← hB3, ← hB2]
  clear hB2 hB3
  generalize (h0.add (bkV st dv lv)).add (tuV pv rv) = H at hb2 hb3 hk1 hn2 hn3 ⊢
  repeat refine S.seq ?_
  refine S.region ?_
  simp (disch := first | omega | (simp only [add_nx, upd_nx] <;> omega) | decide) only [rUz, ↓reduceIte, Nat.reduceEqDiff, Nat.reduceAdd, hb2, part_0 pB (bkV_len st dv lv)]
  refine wr_brings (fid := 24) (first := #[]) (captured := #[]) (Post := fun u _ => u = iv (faultZ st D L)) rfl (hoff _ _ _ rfl) (by simp (disch := first | omega | (simp only [add_nx, upd_nx] <;> omega) | decide) only [rUz, ↓reduceIte, Nat.reduceEqDiff, Nat.reduceAdd]; exact checkBank_y S hoff H st dv lv D L (hb.mono hk1) hd7 hl7 hp7 hx7) ?_
  rintro u g hkg rfl
  replace hb2 := (hkg.get hn2).trans hb2
  replace hb3 := (hkg.get hn3).trans hb3
  have hk2 := hk1.trans hkg
  simp (disch := first | omega | (simp only [add_nx, upd_nx] <;> omega) | decide) only [rUz, ↓reduceIte, Nat.reduceEqDiff, Nat.reduceAdd]
  by_cases hz : faultZ st D L = 0
  rotate_left
  · have hd : decide (faultZ st D L = 0) = false := decide_eq_false hz
    repeat refine S.seq ?_
    refine S.region ?_
    simp (disch := first | omega | (simp only [add_nx, upd_nx] <;> omega) | decide) only [rUz, ↓reduceIte, Nat.reduceEqDiff, Nat.reduceAdd, hd, Bool.not_false]
    repeat refine S.seq ?_
    refine S.cond (v := true) (by first | rfl | (simp (disch := first | omega | (simp only [add_nx, upd_nx] <;> omega) | decide) only [rUz, ↓reduceIte, Nat.reduceEqDiff, Nat.reduceAdd] <;> rfl)) (fun _ => ?_) (fun e => by cases e)
    repeat refine S.seq ?_
    refine S.region ?_
    simp (disch := first | omega | (simp only [add_nx, upd_nx] <;> omega) | decide) only [rUz, ↓reduceIte, Nat.reduceEqDiff, Nat.reduceAdd]
    refine S.ret ?_
    try simp only [seqK_ret, blockK_ret]
    subst hF
    simp only [finish, endMarks]
    rw [show Try.f53.results.toList = [.tmp 4, .tmp 5] from rfl]
    simp (disch := first | omega | (simp only [add_nx, upd_nx] <;> omega) | decide) only [resA, ev_tmp, tget_ne, tget_eq, get_ne, get_eq, upd_eq, upd_ne, ag_eq, ag_ne, result1]
    exact hbad _ (by rw [faultT, hd]; rfl) hz _ hk2
  have hd : decide (faultZ st D L = 0) = true := decide_eq_true hz
  have hv := val_iff.1 hz
  repeat refine S.seq ?_
  refine S.region ?_
  simp (disch := first | omega | (simp only [add_nx, upd_nx] <;> omega) | decide) only [rUz, ↓reduceIte, Nat.reduceEqDiff, Nat.reduceAdd, hd, Bool.not_true]
  repeat refine S.seq ?_
  refine S.cond (v := false) (by first | rfl | (simp (disch := first | omega | (simp only [add_nx, upd_nx] <;> omega) | decide) only [rUz, ↓reduceIte, Nat.reduceEqDiff, Nat.reduceAdd] <;> rfl)) (fun e => by cases e) (fun _ => ?_)
  repeat refine S.seq ?_
  refine S.skip ?_
  simp (disch := first | omega | (simp only [add_nx, upd_nx] <;> omega) | decide) only [rUz, ↓reduceIte, Nat.reduceEqDiff, Nat.reduceAdd]
  repeat refine S.seq ?_
  refine S.region ?_
  simp (disch := first | omega | (simp only [add_nx, upd_nx] <;> omega) | decide) only [rUz, ↓reduceIte, Nat.reduceEqDiff, Nat.reduceAdd, hb2, hb3, part_0 pB (bkV_len st dv lv), part_0 pcU (tuV_len pv rv)]
  refine wr_brings (fid := 76) (first := #[]) (captured := #[]) (Post := fun u _ => u = .bool (truthB st D Ts rt)) rfl (hoff _ _ _ rfl) (by simp (disch := first | omega | (simp only [add_nx, upd_nx] <;> omega) | decide) only [rUz, ↓reduceIte, Nat.reduceEqDiff, Nat.reduceAdd]; exact allows_y S hoff g st dv lv pv rv D L Ts rt (hb.mono hk2) (ht.mono hk2) hv) ?_
  rintro u g2 hkg2 rfl
  have hn2g : B2 < g.nx := Nat.lt_of_lt_of_le hn2 hkg.1
  have hn3g : B3 < g.nx := Nat.lt_of_lt_of_le hn3 hkg.1
  replace hb2 := (hkg2.get hn2g).trans hb2
  replace hb3 := (hkg2.get hn3g).trans hb3
  replace hk2 := hk2.trans hkg2
  cases htr : truthB st D Ts rt with
  | false =>
    simp (disch := first | omega | (simp only [add_nx, upd_nx] <;> omega) | decide) only [rUz, ↓reduceIte, Nat.reduceEqDiff, Nat.reduceAdd, un_not, htr, Bool.not_false]
    repeat refine S.seq ?_
    refine S.cond (v := true) (by first | rfl | (simp (disch := first | omega | (simp only [add_nx, upd_nx] <;> omega) | decide) only [rUz, ↓reduceIte, Nat.reduceEqDiff, Nat.reduceAdd] <;> rfl)) (fun _ => ?_) (fun e => by cases e)
    repeat refine S.seq ?_
    refine S.region ?_
    simp (disch := first | omega | (simp only [add_nx, upd_nx] <;> omega) | decide) only [rUz, ↓reduceIte, Nat.reduceEqDiff, Nat.reduceAdd]
    refine S.ret ?_
    try simp only [seqK_ret, blockK_ret]
    subst hF
    simp only [finish, endMarks]
    rw [show Try.f53.results.toList = [.tmp 4, .tmp 5] from rfl]
    simp (disch := first | omega | (simp only [add_nx, upd_nx] <;> omega) | decide) only [resA, ev_tmp, tget_ne, tget_eq, get_ne, get_eq, upd_eq, upd_ne, ag_eq, ag_ne, result1]
    exact hbad 2 (by rw [faultT, hd, htr]; rfl) (by omega) _ hk2
  | true =>
  simp (disch := first | omega | (simp only [add_nx, upd_nx] <;> omega) | decide) only [rUz, ↓reduceIte, Nat.reduceEqDiff, Nat.reduceAdd, un_not, htr, Bool.not_true]
  repeat refine S.seq ?_
  refine S.cond (v := false) (by first | rfl | (simp (disch := first | omega | (simp only [add_nx, upd_nx] <;> omega) | decide) only [rUz, ↓reduceIte, Nat.reduceEqDiff, Nat.reduceAdd] <;> rfl)) (fun e => by cases e) (fun _ => ?_)
  repeat refine S.seq ?_
  refine S.skip ?_
  simp (disch := first | omega | (simp only [add_nx, upd_nx] <;> omega) | decide) only [rUz, ↓reduceIte, Nat.reduceEqDiff, Nat.reduceAdd]
  repeat refine S.seq ?_
  refine S.region ?_
  simp (disch := first | omega | (simp only [add_nx, upd_nx] <;> omega) | decide) only [rUz, ↓reduceIte, Nat.reduceEqDiff, Nat.reduceAdd, hb2, hb3, part_0 pB (bkV_len st dv lv), part_0 pcU (tuV_len pv rv)]
  refine wr_brings (fid := 77) (first := #[]) (captured := #[]) (Post := fun u h => ∃ Bw r, u = ptr0 Bw ∧ g2.nx ≤ r ∧ g2.nx ≤ Bw ∧ WAt h Bw r st dv lv pv rv D L Ts rt []) rfl (hoff _ _ _ rfl) (by simp (disch := first | omega | (simp only [add_nx, upd_nx] <;> omega) | decide) only [rUz, ↓reduceIte, Nat.reduceEqDiff, Nat.reduceAdd]; exact begin_y S g2 st dv lv pv rv D L Ts rt (hb.mono hk2) (ht.mono hk2)) ?_
  rintro u g3 hkg3 ⟨Bw, r, rfl, h1, h2, hw⟩
  have h0g := hk2.1
  simp (disch := first | omega | (simp only [add_nx, upd_nx] <;> omega) | decide) only [rUz, ↓reduceIte, Nat.reduceEqDiff, Nat.reduceAdd]
  refine S.ret ?_
  try simp only [seqK_ret, blockK_ret]
  subst hF
  simp only [finish, endMarks]
  rw [show Try.f53.results.toList = [.tmp 4, .tmp 5] from rfl]
  simp (disch := first | omega | (simp only [add_nx, upd_nx] <;> omega) | decide) only [resA, ev_tmp, tget_ne, tget_eq, get_ne, get_eq, upd_eq, upd_ne, ag_eq, ag_ne, result1]
  exact hgood (by rw [faultT, hd, htr]; rfl) Bw r _ (hk2.trans hkg3) (by omega) (by omega) hw
/-! ## Lists of lists -/
/-- A slice of integers from lo on, of another family than both. -/
def IsF2 (lo : Nat) (h : AHeap) (y : PT) (F1 F2 : Nat) : Prop := IsF lo h y.1 y.2 F1 ∧ IsF lo h y.1 y.2 F2
section
variable {lo F1 F2 F1' : Nat} {h h' : AHeap} {y : PT}
theorem IsF2.mono (k : IsF2 lo h y F1 F2) (a : Kp h h') : IsF2 lo h' y F1 F2 := ⟨k.1.mono a, k.2.mono a⟩
theorem IsF2.symm (k : IsF2 lo h y F1 F2) : IsF2 lo h y F2 F1 := ⟨k.2, k.1⟩
theorem isF_fr {F r : Nat} {v : Value} {l : List Int} (k : IsF lo h v l F) (a : Fr h r h') (hr : r < lo) : IsF lo h' v l F := by
  obtain ⟨b, f, k1, k0, k2, k3, k4, k5⟩ := k
  exact ⟨b, f, k1, k0, Nat.lt_of_lt_of_le k2 a.le, (a.bl b k2 (by omega)).trans k3, Nat.lt_of_lt_of_le k4 a.le, k5⟩
theorem IsF2.fr {r : Nat} (k : IsF2 lo h y F1 F2) (a : Fr h r h') (hr : r < lo) : IsF2 lo h' y F1 F2 := ⟨isF_fr k.1 a hr, isF_fr k.2 a hr⟩
theorem IsF2.grown {lo2 sz : Nat} {v' : Value} {cs : List (List Value)} {c : List Value} (k : IsF2 lo h y F1 F2) (g : Grown lo2 h h' sz v' cs c F1 F1') : IsF2 lo h' y F1' F2 := by
  refine ⟨k.1.grown g, ?_⟩
  obtain ⟨b, f, k1, k0, k2, k3, k4, k5⟩ := k.1
  obtain ⟨b', f', q1, _, _, q3, _, q5⟩ := k.2
  have hle := g.left.le
  rw [k1] at q1
  obtain rfl : b = b' := by cases q1; rfl
  rw [k3] at q3
  obtain rfl : f = f' := by cases q3; rfl
  exact ⟨b, f, k1, k0, by omega, g.left.bl b _ f false k2 k3 (fun _ => k5), by omega, q5⟩
theorem own_isF2 {B : Nat} {n : Nat} {l : List Int} (k : Own h B l) (hn : n = l.length) (hB : lo ≤ B) (h1 : F1 ≠ B) (h2 : F2 ≠ B) : IsF2 lo h (.slice (some ⟨B, 0, none⟩) n n, l) F1 F2 := by
  subst hn
  exact ⟨⟨B, B, rfl, hB, k.1, k.2.1, k.1, fun e => h1 e.symm⟩, ⟨B, B, rfl, hB, k.1, k.2.1, k.1, fun e => h2 e.symm⟩⟩
theorem two_fr {r : Nat} {xs ys : List (List Value)} {xv yv : Value} (k : Two1 lo h xs ys xv yv F1 F2) (a : Fr h r h') (hr : r < lo) : Two1 lo h' xs ys xv yv F1 F2 :=
  ⟨k.x.fr a hr, k.y.fr a hr, fun q => Nat.lt_of_lt_of_le (k.fx q) a.le, fun q => Nat.lt_of_lt_of_le (k.fy q) a.le, k.ne⟩
end
def debtsOf (n : Nat) (Ts : List PT) (rt : List Int) (x : PL) : List Int := aftersZ x.2.1 x.2.2.1 (vsF x.2.2.2 Ts) (rsF rt) n
def callsOf (n : Nat) (Ts : List PT) (rt : List Int) (x : PL) : List Int := callsZ x.2.1 x.2.2.1 (vsF x.2.2.2 Ts) (rsF rt) n
structure IPy (st : Int) (dv lv pv rv : Value) (D : List PD) (L : List PL) (Ts : List PT) (rt : List Int) (Bw r : Nat) (H : AHeap) (k : Nat) (t : T Value) (h : AHeap) : Prop where
  fr : Fr H r h
  w : ∃ M, WAt h Bw r st dv lv pv rv D L Ts rt M
  ex : ∃ (XL CL : List PT) (xv yv : Value) (F1 F2 : Nat), Two1 H.nx h (XL.map cT) (CL.map cT) xv yv F1 F2 ∧ (XL.map fun y => y.2) = (L.take k).map (debtsOf D.length Ts rt) ∧ (CL.map fun y => y.2) = (L.take k).map (callsOf D.length Ts rt) ∧ (∀ y, y ∈ XL → IsF2 H.nx h y F1 F2) ∧ (∀ y, y ∈ CL → IsF2 H.nx h y F1 F2) ∧ F1 < h.nx ∧ F2 < h.nx ∧ tget t 4 = xv ∧ tget t 5 = yv
  t7 : tget t 7 = ptr0 Bw
  t20 : tget t 20 = iv (L.length : Int)
  t21 : tget t 21 = iv (k : Int)
  hk : k ≤ L.length
/-- What Play returns. -/
def PlayAt (st : Int) (D : List PD) (L : List PL) (Ts : List PT) (rt : List Int) (u : Value) (h : AHeap) : Prop :=
  (faultT st D L Ts rt = 0 ∧ ∃ (XL CL : List PT) (xv yv : Value), u = .tuple ⟨[xv, yv, iv 0]⟩ ∧ SlAt h 1 xv (XL.map cT) ∧ SlAt h 1 yv (CL.map cT) ∧ (∀ y, y ∈ XL → IAt h y.1 y.2) ∧ (∀ y, y ∈ CL → IAt h y.1 y.2) ∧ (XL.map fun y => y.2) = L.map (debtsOf D.length Ts rt) ∧ (CL.map fun y => y.2) = L.map (callsOf D.length Ts rt)) ∨
  (faultT st D L Ts rt ≠ 0 ∧ u = .tuple ⟨[nl, nl, iv (faultT st D L Ts rt)]⟩)
set_option maxHeartbeats 32000000 in
theorem play_y (S : Ev.Steps Try.prog pr R) (hoff : Off pr) (h0 : AHeap) (st : Int) (dv lv pv rv : Value) (D : List PD) (L : List PL) (Ts : List PT) (rt : List Int) (hb : BkAt h0 dv lv D L) (ht : TuAt h0 pv rv Ts rt) (hd7 : (D.length : Int) ≤ 7) (hl7 : (L.length : Int) ≤ 7) (hp7 : ∀ x, x ∈ D → (x.2.1.length : Int) ≤ 7) (hx7 : ∀ x, x ∈ L → (x.2.2.2.length : Int) ≤ 7) :
    Brings Try.prog R 21 [.agg ⟨bkV st dv lv⟩, .agg ⟨tuV pv rv⟩] h0 (PlayAt st D L Ts rt) := by
  refine brings_of (fn := Try.f21) (c := (Try.f21.body).getD .skip) (by kernel_rfl) rfl (by kernel_rfl) rfl (fun K hK => ?_)
  generalize hF : finish Try.prog Try.f21 K = KF
  simp only [Try.f21, Option.getD_some, argsT, setArgs, fV1_eq, T.setK_eq, id]
  have hbad : faultT st D L Ts rt ≠ 0 → ∀ g, Kp h0 g → K (.tuple ⟨[nl, nl, iv (faultT st D L Ts rt)]⟩) g = true := fun hz g hk => hK _ _ hk (.inr ⟨hz, rfl⟩)
  have hgood : faultT st D L Ts rt = 0 → ∀ g (XL CL : List PT) (xv yv : Value), Kp h0 g → SlAt g 1 xv (XL.map cT) → SlAt g 1 yv (CL.map cT) → (∀ y, y ∈ XL → IAt g y.1 y.2) → (∀ y, y ∈ CL → IAt g y.1 y.2) → (XL.map fun y => y.2) = L.map (debtsOf D.length Ts rt) → (CL.map fun y => y.2) = L.map (callsOf D.length Ts rt) → K (.tuple ⟨[xv, yv, iv 0]⟩) g = true :=
    fun hz g XL CL xv yv hk a1 a2 a3 a4 a5 a6 => hK _ _ hk (.inl ⟨hz, XL, CL, xv, yv, rfl, a1, a2, a3, a4, a5, a6⟩)
  clear hK
  repeat refine S.seq ?_
  refine S.region ?_
  simp (disch := first | omega | (simp only [add_nx, upd_nx] <;> omega) | decide) only [rUz, ↓reduceIte, Nat.reduceEqDiff, Nat.reduceAdd]
  obtain ⟨B2, hB2⟩ : ∃ x, x = h0.nx := ⟨_, rfl⟩
  obtain ⟨B3, hB3⟩ : ∃ x, x = h0.nx + 1 := ⟨_, rfl⟩
  have hb2 : ((h0.add (bkV st dv lv)).add (tuV pv rv)).bl.get B2 = some (.cells (bkV st dv lv) B2 false) := by rw [ag_ne (by show B2 ≠ h0.nx + 1; omega)]; subst hB2; exact ag_eq rfl
  have hb3 : ((h0.add (bkV st dv lv)).add (tuV pv rv)).bl.get B3 = some (.cells (tuV pv rv) B3 false) := by subst hB3; exact ag_eq rfl
  have hk1 : Kp h0 ((h0.add (bkV st dv lv)).add (tuV pv rv)) := Kp.refl.add.add
  have hn2 : B2 < ((h0.add (bkV st dv lv)).add (tuV pv rv)).nx := by show B2 < h0.nx + 2; omega
  rw [← hB3, ← hB2]
  clear hB2 hB3
  generalize (h0.add (bkV st dv lv)).add (tuV pv rv) = H0 at hb2 hb3 hk1 hn2 ⊢
  repeat refine S.seq ?_
  refine S.region ?_
  simp (disch := first | omega | (simp only [add_nx, upd_nx] <;> omega) | decide) only [rUz, ↓reduceIte, Nat.reduceEqDiff, Nat.reduceAdd, hb2, hb3, part_0 pB (bkV_len st dv lv), part_0 pcU (tuV_len pv rv)]
  refine wr_brings (fid := 53) (first := #[]) (captured := #[]) (Post := FollowAt H0 st dv lv pv rv D L Ts rt) rfl (hoff _ _ _ rfl) (by simp (disch := first | omega | (simp only [add_nx, upd_nx] <;> omega) | decide) only [rUz, ↓reduceIte, Nat.reduceEqDiff, Nat.reduceAdd]; exact follow_y S hoff H0 st dv lv pv rv D L Ts rt (hb.mono hk1) (ht.mono hk1) hd7 hl7 hp7 hx7) ?_
  rintro u H hkH hfo
  replace hb2 := (hkH.get hn2).trans hb2
  replace hn2 : B2 < H.nx := Nat.lt_of_lt_of_le hn2 hkH.1
  have hH0 := hkH.1
  have h0H0 := hk1.1
  rcases hfo with ⟨hz, Bw, r, rfl, hr, hBw, hw⟩ | ⟨hz, rfl⟩
  rotate_left
  · have hd : decide (faultT st D L Ts rt = 0) = false := decide_eq_false hz
    simp (disch := first | omega | (simp only [add_nx, upd_nx] <;> omega) | decide) only [rUz, ↓reduceIte, Nat.reduceEqDiff, Nat.reduceAdd, tup0, tup1]
    repeat refine S.seq ?_
    refine S.region ?_
    simp (disch := first | omega | (simp only [add_nx, upd_nx] <;> omega) | decide) only [rUz, ↓reduceIte, Nat.reduceEqDiff, Nat.reduceAdd, hd, Bool.not_false]
    repeat refine S.seq ?_
    refine S.cond (v := true) (by first | rfl | (simp (disch := first | omega | (simp only [add_nx, upd_nx] <;> omega) | decide) only [rUz, ↓reduceIte, Nat.reduceEqDiff, Nat.reduceAdd] <;> rfl)) (fun _ => ?_) (fun e => by cases e)
    repeat refine S.seq ?_
    refine S.region ?_
    simp (disch := first | omega | (simp only [add_nx, upd_nx] <;> omega) | decide) only [rUz, ↓reduceIte, Nat.reduceEqDiff, Nat.reduceAdd]
    refine S.ret ?_
    try simp only [seqK_ret, blockK_ret]
    subst hF
    simp only [finish, endMarks]
    rw [show Try.f21.results.toList = [.tmp 4, .tmp 5, .tmp 6] from rfl]
    simp (disch := first | omega | (simp only [add_nx, upd_nx] <;> omega) | decide) only [resA, ev_tmp, tget_ne, tget_eq, get_ne, get_eq, upd_eq, upd_ne, ag_eq, ag_ne, result1]
    exact hbad hz _ (hk1.trans hkH)
  obtain ⟨hv, htB⟩ := faultT0 hz
  have htr := tru_of hv htB
  have hkA := hk1.trans hkH
  simp (disch := first | omega | (simp only [add_nx, upd_nx] <;> omega) | decide) only [rUz, ↓reduceIte, Nat.reduceEqDiff, Nat.reduceAdd, tup0, tup1]
  repeat refine S.seq ?_
  refine S.region ?_
  simp (disch := first | omega | (simp only [add_nx, upd_nx] <;> omega) | decide) only [rUz, ↓reduceIte, Nat.reduceEqDiff, Nat.reduceAdd, decide_true, Bool.not_true]
  repeat refine S.seq ?_
  refine S.cond (v := false) (by first | rfl | (simp (disch := first | omega | (simp only [add_nx, upd_nx] <;> omega) | decide) only [rUz, ↓reduceIte, Nat.reduceEqDiff, Nat.reduceAdd] <;> rfl)) (fun e => by cases e) (fun _ => ?_)
  repeat refine S.seq ?_
  refine S.skip ?_
  simp (disch := first | omega | (simp only [add_nx, upd_nx] <;> omega) | decide) only [rUz, ↓reduceIte, Nat.reduceEqDiff, Nat.reduceAdd]
  have lL := fun t h1 o => row_len hw.bk.ln iscL t h1 o
  repeat refine S.seq ?_
  refine S.region ?_
  simp (disch := first | omega | (simp only [add_nx, upd_nx] <;> omega) | decide) only [rUz, ↓reduceIte, Nat.reduceEqDiff, Nat.reduceAdd, hb2, fieldAddr_ptr fB2 lcL, qcL, bk2, lL]
  repeat refine S.seq ?_
  refine S.block ?_
  refine S.loop (ι := Nat) (IPy st dv lv pv rv D L Ts rt Bw r H) (fun k => L.length - k) ?_ 0 _ _ ?_
  rotate_left
  · refine ⟨Fr.refl, ⟨_, hw⟩, ⟨[], [], nl, nl, 0, 0, (Tri.start (lo := H.nx) (h := H)).xy, rfl, rfl, (fun y hy => by cases hy), (fun y hy => by cases hy), by have := hw.lr; omega, by have := hw.lr; omega, ?_, ?_⟩, ?_, ?_, ?_, Nat.zero_le _⟩
    all_goals (first | rfl | (simp (disch := first | omega | (simp only [add_nx, upd_nx] <;> omega) | decide) only [rUz, ↓reduceIte, Nat.reduceEqDiff, Nat.reduceAdd]; done) | (simp (disch := first | omega | (simp only [add_nx, upd_nx] <;> omega) | decide) only [rUz, ↓reduceIte, Nat.reduceEqDiff, Nat.reduceAdd]; rfl))
  have hlr := hw.lr
  intro k t h ⟨fr, ⟨M, w⟩, ⟨XL, CL, xv, yv, F1, F2, two, hXL, hCL, hIX, hIC, hF1, hF2, t4, t5⟩, t7, t20, t21, hk⟩ K' hn he
  have hnx := fr.le
  repeat refine S.seq ?_
  refine S.region ?_
  simp (disch := first | omega | (simp only [add_nx, upd_nx] <;> omega) | decide) only [rUz, ↓reduceIte, Nat.reduceEqDiff, Nat.reduceAdd, t20, t21]
  repeat refine S.seq ?_
  refine S.cond (v := decide ((k : Int) < (L.length : Int))) (by first | rfl | (simp (disch := first | omega | (simp only [add_nx, upd_nx] <;> omega) | decide) only [rUz, ↓reduceIte, Nat.reduceEqDiff, Nat.reduceAdd] <;> rfl)) (fun e => ?_) (fun e => ?_)
  · have hkn : k < L.length := by have := of_decide_eq_true e; omega
    clear e
    have hps : L[k]? = some L[k] := List.getElem?_eq_getElem hkn
    have htk : ∀ f : PL → List Int, (L.take (k + 1)).map f = (L.take k).map f ++ [f L[k]] := fun f => by rw [List.take_add_one, hps, Option.toList_some, List.map_append]; rfl
    have hXl : XL.length = k := by
      have := congrArg List.length hXL
      rw [List.length_map, List.length_map, List.length_take] at this
      omega
    have hCl : CL.length = k := by
      have := congrArg List.length hCL
      rw [List.length_map, List.length_map, List.length_take] at this
      omega
    have htX := htk (debtsOf D.length Ts rt)
    have htC := htk (callsOf D.length Ts rt)
    clear htk
    generalize L[k] = x at hps htX htC
    repeat refine S.seq ?_
    refine S.skip ?_
    simp (disch := first | omega | (simp only [add_nx, upd_nx] <;> omega) | decide) only [rUz, ↓reduceIte, Nat.reduceEqDiff, Nat.reduceAdd]
    repeat refine S.seq ?_
    refine S.block ?_
    repeat refine S.seq ?_
    refine S.region ?_
    simp (disch := first | omega | (simp only [add_nx, upd_nx] <;> omega) | decide) only [rUz, ↓reduceIte, Nat.reduceEqDiff, Nat.reduceAdd, t21]
    -- the debts
    repeat refine S.seq ?_
    refine S.region ?_
    simp (disch := first | omega | (simp only [add_nx, upd_nx] <;> omega) | decide) only [rUz, ↓reduceIte, Nat.reduceEqDiff, Nat.reduceAdd, t4, t7, w_buildSlice, w_append]
    refine wr_bringsX (fid := 54) (first := #[]) (captured := #[]) (Post := fun u h' => Fr h r h' ∧ (∃ M, WAt h' Bw r st dv lv pv rv D L Ts rt M) ∧ ∃ B, u = .slice (some ⟨B, 0, none⟩) D.length D.length ∧ h.nx ≤ B ∧ Own h' B ((List.range D.length).map fun d => dueZ (stdF x Ts rt d))) rfl (hoff _ _ _ rfl) (by simp (disch := first | omega | (simp only [add_nx, upd_nx] <;> omega) | decide) only [rUz, ↓reduceIte, Nat.reduceEqDiff, Nat.reduceAdd]; exact each_y S hoff h Bw r st dv lv pv rv D L Ts rt hv htr M w k x hps 55 rfl (fun d => dueZ (stdF x Ts rt d)) (fun h' d hd => due_y S hoff h' _ (std_ok hv htr hps hd))) ?_
    rintro u g ⟨frg, ⟨M2, wg⟩, BX, rfl, hBX, oX⟩
    have hvX : ((List.range D.length).map fun d => dueZ (stdF x Ts rt d)) = debtsOf D.length Ts rt x := rfl
    rw [hvX] at oX
    have hlX : D.length = (debtsOf D.length Ts rt x).length := by simp [debtsOf, aftersZ]
    have hgn := frg.le
    have hXi : IsF2 H.nx g (.slice (some ⟨BX, 0, none⟩) D.length D.length, debtsOf D.length Ts rt x) F1 F2 := own_isF2 oX hlX (by omega) (by omega) (by omega)
    obtain ⟨yX, hyX⟩ : ∃ z : PT, z = (.slice (some ⟨BX, 0, none⟩) D.length D.length, debtsOf D.length Ts rt x) := ⟨_, rfl⟩
    have hcX : cT yX = [.slice (some ⟨BX, 0, none⟩) D.length D.length] := by rw [hyX]; rfl
    have hyX2 : yX.2 = debtsOf D.length Ts rt x := by rw [hyX]
    rw [← hyX] at hXi
    have two1 := two_fr two frg (by omega)
    have hIX1 := fun y hy => (hIX y hy).fr frg (by omega)
    have hIC1 := fun y hy => (hIC y hy).fr frg (by omega)
    clear two hIX hIC hvX
    simp (disch := first | omega | (simp only [add_nx, upd_nx] <;> omega) | decide) only [rUz, ↓reduceIte, Nat.reduceEqDiff, Nat.reduceAdd, w_buildSlice, w_append]
    refine wr_lit1 slII lI' zI rfl (by omega) (u := .slice (some ⟨BX, 0, none⟩) D.length D.length) (l := cT yX) (by simp (disch := first | omega | (simp only [add_nx, upd_nx] <;> omega) | decide) only [rUz, ↓reduceIte, Nat.reduceEqDiff, Nat.reduceAdd]) rfl (by rw [hcX]; rfl) ?_
    simp (disch := first | omega | (simp only [add_nx, upd_nx] <;> omega) | decide) only [rUz, ↓reduceIte, Nat.reduceEqDiff, Nat.reduceAdd, w_append]
    refine wr_grown slII uII (v := xv) (bx := g.nx) (cx := 1) (by simp (disch := first | omega | (simp only [add_nx, upd_nx] <;> omega) | decide) only [rUz, ↓reduceIte, Nat.reduceEqDiff, Nat.reduceAdd]) (by simp (disch := first | omega | (simp only [add_nx, upd_nx] <;> omega) | decide) only [rUz, ↓reduceIte, Nat.reduceEqDiff, Nat.reduceAdd]) (two1.x.mono Kp.refl.add) (by show H.nx ≤ g.nx + 1; omega) lI' (by rw [hcX]; rfl) (by omega) (ag_eq rfl) nII (by rw [List.length_map]; show _ < 1000000; omega) ?_
    intro xv3 h3 F13 gr
    have two3 := (two1.mono Kp.refl.add).grow gr
    have hIX3 : ∀ y, y ∈ XL ++ [yX] → IsF2 H.nx h3 y F13 F2 := fun y hy => by
      rcases List.mem_append.1 hy with hy | hy
      · exact ((hIX1 y hy).mono Kp.refl.add).grown gr
      · obtain rfl := List.mem_singleton.1 hy
        exact (hXi.mono Kp.refl.add).grown gr
    have hIC3 : ∀ y, y ∈ CL → IsF2 H.nx h3 y F13 F2 := fun y hy => ((hIC1 y hy).mono Kp.refl.add).grown gr
    have hF13 : F13 < h3.nx := gr.app.fam_lt (by simp)
    have hsm := gr.sm
    have h3n := hsm.1
    have hgn1 : (g.add (cT yX)).nx = g.nx + 1 := rfl
    have fr3 : Fr H r h3 := ((fr.trans frg).kp Kp.refl.add).sm hsm (Nat.le_refl _)
    have w3 : WAt h3 Bw r st dv lv pv rv D L Ts rt M2 := hw.of fr3 (by rw [(hsm.2 r hlr).1, ag_ne (by omega)]; exact wg.mp) wg.mm
    clear gr two1 hIX1 hIC1 hXi hsm wg w oX
    simp (disch := first | omega | (simp only [add_nx, upd_nx] <;> omega) | decide) only [rUz, ↓reduceIte, Nat.reduceEqDiff, Nat.reduceAdd]
    -- the calls
    repeat refine S.seq ?_
    refine S.region ?_
    simp (disch := first | omega | (simp only [add_nx, upd_nx] <;> omega) | decide) only [rUz, ↓reduceIte, Nat.reduceEqDiff, Nat.reduceAdd, t5, t7, w_buildSlice, w_append]
    refine wr_bringsX (fid := 54) (first := #[]) (captured := #[]) (Post := fun u h' => Fr h3 r h' ∧ (∃ M, WAt h' Bw r st dv lv pv rv D L Ts rt M) ∧ ∃ B, u = .slice (some ⟨B, 0, none⟩) D.length D.length ∧ h3.nx ≤ B ∧ Own h' B ((List.range D.length).map fun d => (stdF x Ts rt d).1 - dueZ (stdF x Ts rt d))) rfl (hoff _ _ _ rfl) (by simp (disch := first | omega | (simp only [add_nx, upd_nx] <;> omega) | decide) only [rUz, ↓reduceIte, Nat.reduceEqDiff, Nat.reduceAdd]; exact each_y S hoff h3 Bw r st dv lv pv rv D L Ts rt hv htr M2 w3 k x hps 56 rfl (fun d => (stdF x Ts rt d).1 - dueZ (stdF x Ts rt d)) (fun h' d hd => call_y S hoff h' _ (std_ok hv htr hps hd))) ?_
    rintro u g4 ⟨frg4, ⟨M4, wg4⟩, BC, rfl, hBC, oC⟩
    have hvC : ((List.range D.length).map fun d => (stdF x Ts rt d).1 - dueZ (stdF x Ts rt d)) = callsOf D.length Ts rt x := rfl
    rw [hvC] at oC
    have hlC : D.length = (callsOf D.length Ts rt x).length := by simp [callsOf, callsZ]
    have hg4n := frg4.le
    have hCi : IsF2 H.nx g4 (.slice (some ⟨BC, 0, none⟩) D.length D.length, callsOf D.length Ts rt x) F13 F2 := own_isF2 oC hlC (by omega) (by omega) (by omega)
    obtain ⟨yC, hyC⟩ : ∃ z : PT, z = (.slice (some ⟨BC, 0, none⟩) D.length D.length, callsOf D.length Ts rt x) := ⟨_, rfl⟩
    have hcC : cT yC = [.slice (some ⟨BC, 0, none⟩) D.length D.length] := by rw [hyC]; rfl
    have hyC2 : yC.2 = callsOf D.length Ts rt x := by rw [hyC]
    rw [← hyC] at hCi
    have two4 := two_fr two3 frg4 (by omega)
    have hIX4 := fun y hy => (hIX3 y hy).fr frg4 (by omega)
    have hIC4 := fun y hy => (hIC3 y hy).fr frg4 (by omega)
    clear two3 hIX3 hIC3 hvC
    simp (disch := first | omega | (simp only [add_nx, upd_nx] <;> omega) | decide) only [rUz, ↓reduceIte, Nat.reduceEqDiff, Nat.reduceAdd, w_buildSlice, w_append]
    refine wr_lit1 slII lI' zI rfl (by omega) (u := .slice (some ⟨BC, 0, none⟩) D.length D.length) (l := cT yC) (by simp (disch := first | omega | (simp only [add_nx, upd_nx] <;> omega) | decide) only [rUz, ↓reduceIte, Nat.reduceEqDiff, Nat.reduceAdd]) rfl (by rw [hcC]; rfl) ?_
    simp (disch := first | omega | (simp only [add_nx, upd_nx] <;> omega) | decide) only [rUz, ↓reduceIte, Nat.reduceEqDiff, Nat.reduceAdd, w_append]
    refine wr_grown slII uII (v := yv) (bx := g4.nx) (cx := 1) (by simp (disch := first | omega | (simp only [add_nx, upd_nx] <;> omega) | decide) only [rUz, ↓reduceIte, Nat.reduceEqDiff, Nat.reduceAdd]) (by simp (disch := first | omega | (simp only [add_nx, upd_nx] <;> omega) | decide) only [rUz, ↓reduceIte, Nat.reduceEqDiff, Nat.reduceAdd]) (two4.y.mono Kp.refl.add) (by show H.nx ≤ g4.nx + 1; omega) lI' (by rw [hcC]; rfl) (by omega) (ag_eq rfl) nII (by rw [List.length_map]; show _ < 1000000; omega) ?_
    intro yv5 h5 F25 gr
    have two5 := ((two4.mono Kp.refl.add).symm.grow gr).symm
    have hIX5 : ∀ y, y ∈ XL ++ [yX] → IsF2 H.nx h5 y F13 F25 := fun y hy => (((hIX4 y hy).mono Kp.refl.add).symm.grown gr).symm
    have hIC5 : ∀ y, y ∈ CL ++ [yC] → IsF2 H.nx h5 y F13 F25 := fun y hy => by
      rcases List.mem_append.1 hy with hy | hy
      · exact (((hIC4 y hy).mono Kp.refl.add).symm.grown gr).symm
      · obtain rfl := List.mem_singleton.1 hy
        exact ((hCi.mono Kp.refl.add).symm.grown gr).symm
    have hF25 : F25 < h5.nx := gr.app.fam_lt (by simp)
    have hsm := gr.sm
    have h5n := hsm.1
    have hg4n1 : (g4.add (cT yC)).nx = g4.nx + 1 := rfl
    have fr5 : Fr H r h5 := ((fr3.trans frg4).kp Kp.refl.add).sm hsm (Nat.le_refl _)
    have w5 : WAt h5 Bw r st dv lv pv rv D L Ts rt M4 := hw.of fr5 (by rw [(hsm.2 r hlr).1, ag_ne (by omega)]; exact wg4.mp) wg4.mm
    clear gr two4 hIX4 hIC4 hCi hsm wg4 w3 oC
    simp (disch := first | omega | (simp only [add_nx, upd_nx] <;> omega) | decide) only [rUz, ↓reduceIte, Nat.reduceEqDiff, Nat.reduceAdd]
    repeat refine S.seq ?_
    refine S.region ?_
    simp (disch := first | omega | (simp only [add_nx, upd_nx] <;> omega) | decide) only [rUz, ↓reduceIte, Nat.reduceEqDiff, Nat.reduceAdd, t21]
    refine hn (k + 1) _ _ (by omega) ⟨fr5, ⟨M4, w5⟩, ⟨XL ++ [yX], CL ++ [yC], xv3, yv5, F13, F25, ?_, ?_, ?_, hIX5, hIC5, by omega, hF25, ?_, ?_⟩, ?_, ?_, ?_, by omega⟩
    · rw [List.map_append, List.map_append]
      exact two5
    · rw [List.map_append, hXL, htX, ← hyX2]; rfl
    · rw [List.map_append, hCL, htC, ← hyC2]; rfl
    all_goals (first | rfl | (simp (disch := first | omega | (simp only [add_nx, upd_nx] <;> omega) | decide) only [rUz, ↓reduceIte, Nat.reduceEqDiff, Nat.reduceAdd, t7, t20]; done) | (simp (disch := first | omega | (simp only [add_nx, upd_nx] <;> omega) | decide) only [rUz, ↓reduceIte, Nat.reduceEqDiff, Nat.reduceAdd, t7, t20]; rfl))
  have hkn : k = L.length := by have := of_decide_eq_false e; omega
  subst hkn
  rw [List.take_of_length_le (Nat.le_refl _)] at hXL hCL
  refine S.exit (he _ _ _ _ (fun e => by cases e) ?_)
  simp (disch := first | omega | (simp only [add_nx, upd_nx] <;> omega) | decide) only [rUz, ↓reduceIte, Nat.reduceEqDiff, Nat.reduceAdd]
  repeat refine S.seq ?_
  refine S.region ?_
  simp (disch := first | omega | (simp only [add_nx, upd_nx] <;> omega) | decide) only [rUz, ↓reduceIte, Nat.reduceEqDiff, Nat.reduceAdd, t4, t5]
  refine S.ret ?_
  try simp only [seqK_ret, blockK_ret]
  subst hF
  simp only [finish, endMarks]
  rw [show Try.f21.results.toList = [.tmp 4, .tmp 5, .tmp 6] from rfl]
  simp (disch := first | omega | (simp only [add_nx, upd_nx] <;> omega) | decide) only [resA, ev_tmp, tget_ne, tget_eq, get_ne, get_eq, upd_eq, upd_ne, ag_eq, ag_ne, result1]
  exact hgood hz h XL CL xv yv (Fr.toKp hkA fr (by omega)) two.x.at two.y.at (fun y hy => (hIX y hy).1.at) (fun y hy => (hIC y hy).1.at) hXL hCL
end Go.Proofs.Mg
