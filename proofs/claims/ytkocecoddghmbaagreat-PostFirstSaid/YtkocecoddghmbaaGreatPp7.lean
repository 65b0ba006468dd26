import Derived.Test.YtkocecoddghmbaaGreatPp6
/- Where all orders of one side come first, the best of them, and of these the first, are filled first. Pure. -/
namespace Go.Proofs.Po
set_option linter.unusedSimpArgs false
def Bef (l : List Nat) (k i : Nat) : Prop := ∃ A B, l = A ++ k :: B ∧ i ∈ B
theorem bef_of {l : List Nat} {a b k i : Nat} (ha : l[a]? = some i) (hb : l[b]? = some k) (h : b < a) : Bef l k i := by
  refine ⟨l.take b, l.drop (b + 1), ?_, ?_⟩
  · obtain ⟨hlt, e⟩ := List.getElem?_eq_some_iff.1 hb
    rw [← e, ← List.drop_eq_getElem_cons hlt, List.take_append_drop]
  · refine List.mem_of_getElem? (i := a - (b + 1)) ?_
    rw [List.getElem?_drop, show b + 1 + (a - (b + 1)) = a by omega]; exact ha
/-- How good a limit is. -/
def vl (S : Bool) (x : Od) : Int := bif S then x.l else -x.l
theorem bet_vl {O : List Od} {S : Bool} {r b : Nat} (h : (od O b).b = S) : betB O r b = decide (vl S (od O b) < vl S (od O r)) := by
  unfold betB isAtB vl
  rw [h]
  cases S with
  | true =>
    simp only [cond_true]
    by_cases q : (od O r).l ≤ (od O b).l
    · rw [decide_eq_true q, decide_eq_false (by omega)]; rfl
    · rw [decide_eq_false q, decide_eq_true (by omega)]; rfl
  | false =>
    simp only [cond_false]
    by_cases q : (od O b).l ≤ (od O r).l
    · rw [decide_eq_true q, decide_eq_false (by omega)]; rfl
    · rw [decide_eq_false q, decide_eq_true (by omega)]; rfl
section
variable {O : List Od} {lf : List Int} {a : Nat} {S : Bool}
theorem pick_vl : ∀ {l : List Nat} {acc : Option Nat} {r : Nat}, (∀ q, q ∈ l → canB O lf a q = true → (od O q).b = S) → (∀ c, acc = some c → (od O c).b = S) → pickZ O lf a l acc = some r →
    (∀ c, acc = some c → vl S (od O c) ≤ vl S (od O r) ∧ (r = c ∨ vl S (od O c) < vl S (od O r))) ∧ ∀ q, q ∈ l → canB O lf a q = true → vl S (od O q) ≤ vl S (od O r)
  | [], acc, r, _, _, h => by
    have h : acc = some r := h
    refine ⟨fun c hc => ?_, fun q hq => by cases hq⟩
    rw [h] at hc; cases hc
    exact ⟨Int.le_refl _, .inl rfl⟩
  | q :: l, acc, r, hl, ha, h => by
    have hl' : ∀ q, q ∈ l → canB O lf a q = true → (od O q).b = S := fun x hx => hl x (by simp [hx])
    unfold pickZ stepP at h
    cases hc : canB O lf a q && accB O q acc with
    | true =>
      rw [hc, cond_true] at h
      rw [Bool.and_eq_true] at hc
      obtain ⟨k1, k2⟩ := pick_vl hl' (fun c e => by cases e; exact hl q (by simp) hc.1) h
      obtain ⟨k3, k4⟩ := k1 q rfl
      refine ⟨fun c e => ?_, fun x hx hcx => ?_⟩
      · subst e
        have hb : betB O q c = true := hc.2
        rw [bet_vl (ha c rfl), decide_eq_true_eq] at hb
        exact ⟨by omega, .inr (by omega)⟩
      · rcases List.mem_cons.1 hx with rfl | hx
        · exact k3
        · exact k2 x hx hcx
    | false =>
      rw [hc, cond_false] at h
      obtain ⟨k1, k2⟩ := pick_vl hl' ha h
      refine ⟨k1, fun x hx hcx => ?_⟩
      rcases List.mem_cons.1 hx with rfl | hx
      · rw [hcx, Bool.true_and] at hc
        cases acc with
        | none => cases hc
        | some c =>
          have hb : betB O x c = false := hc
          rw [bet_vl (ha c rfl), decide_eq_false_iff_not] at hb
          have := (k1 c rfl).1
          omega
      · exact k2 x hx hcx
theorem pick_first {k i : Nat} {B : List Nat} (hk : canB O lf a k = true) (hv : vl S (od O k) = vl S (od O i)) (hi : i ∈ B) : ∀ {A : List Nat} {acc : Option Nat}, (A ++ k :: B).Pairwise (fun x y => x ≠ y) → (∀ q, q ∈ A ++ k :: B → canB O lf a q = true → (od O q).b = S) → (∀ c, acc = some c → (od O c).b = S ∧ c ≠ i) → pickZ O lf a (A ++ k :: B) acc ≠ some i
  | [], acc, hp, hl, ha, h => by
    rw [List.nil_append] at hp hl h
    have hki : k ≠ i := (List.pairwise_cons.1 hp).1 i hi
    have hl' : ∀ q, q ∈ B → canB O lf a q = true → (od O q).b = S := fun x hx => hl x (by simp [hx])
    have hkS := hl k (by simp) hk
    unfold pickZ stepP at h
    rw [hk, Bool.true_and] at h
    cases hc : accB O k acc with
    | true =>
      rw [hc, cond_true] at h
      obtain ⟨k1, _⟩ := pick_vl hl' (fun c e => by cases e; exact hkS) h
      have := k1 k rfl
      omega
    | false =>
      rw [hc, cond_false] at h
      cases acc with
      | none => cases hc
      | some c =>
        have hb : betB O k c = false := hc
        rw [bet_vl (ha c rfl).1, decide_eq_false_iff_not] at hb
        obtain ⟨k1, _⟩ := pick_vl hl' (fun c e => (ha c e).1) h
        have := k1 c rfl
        have := (ha c rfl).2
        omega
  | q :: A, acc, hp, hl, ha, h => by
    rw [List.cons_append] at hp hl h
    rw [List.pairwise_cons] at hp
    have hqi : q ≠ i := hp.1 i (by simp [hi])
    unfold pickZ stepP at h
    refine pick_first hk hv hi hp.2 (fun x hx => hl x (List.mem_cons_of_mem _ hx)) (fun c e => ?_) h
    cases hc : canB O lf a q && accB O q acc with
    | true =>
      rw [hc, cond_true] at e
      cases e
      rw [Bool.and_eq_true] at hc
      exact ⟨hl q (by simp) hc.1, hqi⟩
    | false =>
      rw [hc, cond_false] at e
      exact ha c e
theorem pick_skip : ∀ {l : List Nat} {acc : Option Nat}, (∀ q, q ∈ l → canB O lf a q = false) → pickZ O lf a l acc = acc
  | [], _, _ => rfl
  | q :: l, acc, h => by
    unfold pickZ stepP
    rw [h q (by simp), Bool.false_and, cond_false, pick_skip fun x hx => h x (by simp [hx])]
end
/-- Of a side's orders the better ones, and the earlier ones of the same limit, are filled first. -/
def FF (O : List Od) (S : Bool) (l1 : List Nat) (lf : List Int) : Prop := ∀ i k, i ∈ l1 → k ∈ l1 → (vl S (od O i) < vl S (od O k) ∨ (vl S (od O k) = vl S (od O i) ∧ Bef l1 k i)) → lg lf i < (od O i).n → lg lf k = 0
section
variable {O : List Od} {S : Bool} {l1 x : List Nat}
theorem ff_step {a r : Nat} {lf : List Int} (hl : LfOk lf) (h6 : ∀ j, j ∈ l1 → j < 6) (ha6 : a < 6) (h1 : ∀ j, j ∈ l1 → (od O j).b = S) (hx : ∀ j, j ∈ x → (od O j).b = !S) (ha : (od O a).b = !S) (hp : (l1 ++ x).Pairwise fun x y => x ≠ y)
    (hr : pickZ O lf a (l1 ++ x) none = some r) (k : FF O S l1 lf) : FF O S l1 (dropZ O lf a r) := by
  obtain ⟨hrm, hcb⟩ := pick_in hr
  obtain ⟨p1, p2, p3, p4⟩ := can_pos hcb
  have hrS : (od O r).b = S := by rw [ha] at p3; cases S <;> cases hq : (od O r).b <;> simp_all
  have hr1 : r ∈ l1 := by
    rcases List.mem_append.1 hrm with h | h
    · exact h
    · have := hx r h; rw [hrS] at this; cases S <;> cases this
  have hS : ∀ q, q ∈ l1 ++ x → canB O lf a q = true → (od O q).b = S := fun q _ hc => by
    have := (can_pos hc).2.2.1
    rw [ha] at this; cases S <;> cases hq : (od O q).b <;> simp_all
  have hne := can_ne hcb
  have hg := drop_get (O := O) hl.len ha6 (h6 r hr1) hne
  obtain ⟨m1, m2, m3⟩ := min2_b p1 p2
  intro i j hi hj hrel hlt
  have hia : i ≠ a := fun e => by subst e; have := h1 i hi; rw [ha] at this; cases S <;> cases this
  have hja : j ≠ a := fun e => by subst e; have := h1 j hj; rw [ha] at this; cases S <;> cases this
  have key : lg lf j = 0 := by
    by_cases e : i = r
    · subst e
      by_cases hz : lg lf j = 0
      · exact hz
      · exfalso
        have hpos : 0 < lg lf j := by have := (hl.b j).1; omega
        have hvij : vl S (od O i) ≤ vl S (od O j) := by omega
        have hcj : canB O lf a j = true := by
          unfold canB oppB
          rw [decide_eq_true p1, decide_eq_true hpos, ha, h1 j hj]
          unfold isAtB at p4 ⊢
          unfold vl at hvij
          rw [ha] at p4 ⊢
          cases S with
          | true =>
            simp only [Bool.not_true, cond_false, cond_true, decide_eq_true_eq] at p4 hvij ⊢
            rw [decide_eq_true (by omega)]; rfl
          | false =>
            simp only [Bool.not_false, cond_false, cond_true, decide_eq_true_eq] at p4 hvij ⊢
            rw [decide_eq_true (by omega)]; rfl
        have hle := (pick_vl hS (fun c e => by cases e) hr).2 j (List.mem_append.2 (.inl hj)) hcj
        rcases hrel with h | ⟨he, A, B, e1, hB⟩
        · omega
        · have e2 : l1 ++ x = A ++ j :: (B ++ x) := by rw [e1, List.append_assoc]; rfl
          rw [e2] at hp hr hS
          exact pick_first hcj he (List.mem_append.2 (.inl hB)) hp hS (fun c e => by cases e) hr
    · refine k i j hi hj hrel ?_
      rw [hg, if_neg (by omega)] at hlt
      exact hlt
  have hjr : j ≠ r := fun e => by subst e; omega
  rw [hg, if_neg (by omega)]; exact key
theorem ff_come {a : Nat} (h6 : ∀ j, j ∈ l1 ++ x → j < 6) (ha6 : a < 6) (h1 : ∀ j, j ∈ l1 → (od O j).b = S) (hx : ∀ j, j ∈ x → (od O j).b = !S) (ha : (od O a).b = !S) (hp : (l1 ++ x).Pairwise fun x y => x ≠ y) : ∀ (f : Nat) (st : ST), LfOk st.1 → FF O S l1 st.1 → FF O S l1 (comeZ O (l1 ++ x) a f st).1 ∧ LfOk (comeZ O (l1 ++ x) a f st).1
  | 0, _, hl, k => ⟨k, hl⟩
  | f + 1, st, hl, k => by
    cases hq : pickZ O st.1 a (l1 ++ x) none with
    | none => rw [come_none hq]; exact ⟨k, hl⟩
    | some r =>
      obtain ⟨hrm, hcb⟩ := pick_in hq
      rw [come_some hq]
      exact ff_come h6 ha6 h1 hx ha hp f _ (drop_ok hl ha6 (h6 r hrm) hcb).1 (ff_step hl (fun j hj => h6 j (List.mem_append.2 (.inl hj))) ha6 h1 hx ha hp hq k)
theorem ff_run : ∀ (l2 x : List Nat) (st : ST), (∀ j, j ∈ l1 ++ x → j < 6) → (∀ j, j ∈ l2 → j < 6) → (∀ j, j ∈ l1 → (od O j).b = S) → (∀ j, j ∈ x → (od O j).b = !S) → (∀ j, j ∈ l2 → (od O j).b = !S) → (l1 ++ x ++ l2).Pairwise (fun x y => x ≠ y) → LfOk st.1 → FF O S l1 st.1 → FF O S l1 (runZ O l2 (l1 ++ x) st).1
  | [], x, st, _, _, _, _, _, _, _, k => k
  | a :: l2, x, st, h6, h62, h1, hx, h2, hp, hl, k => by
    rw [runZ]
    have hp1 : (l1 ++ x).Pairwise fun x y => x ≠ y := (List.pairwise_append.1 hp).1
    obtain ⟨q1, q2⟩ := ff_come h6 (h62 a (by simp)) h1 hx (h2 a (by simp)) hp1 20 st hl k
    rw [List.append_assoc l1 x [a]]
    refine ff_run l2 (x ++ [a]) _ (fun j hj => ?_) (fun j hj => h62 j (by simp [hj])) h1 (fun j hj => ?_) (fun j hj => h2 j (by simp [hj])) ?_ q2 q1
    · rw [← List.append_assoc] at hj
      rcases List.mem_append.1 hj with hj | hj
      · exact h6 j hj
      · simp at hj; rw [hj]; exact h62 a (by simp)
    · rcases List.mem_append.1 hj with hj | hj
      · exact hx j hj
      · simp at hj; rw [hj]; exact h2 a (by simp)
    · have e : l1 ++ (x ++ [a]) ++ l2 = l1 ++ x ++ a :: l2 := by simp
      rw [e]; exact hp
theorem run_app {O : List Od} : ∀ (l1 l2 came : List Nat) (st : ST), runZ O (l1 ++ l2) came st = runZ O l2 (came ++ l1) (runZ O l1 came st)
  | [], l2, came, st => by rw [List.nil_append, List.append_nil]; rfl
  | a :: l1, l2, came, st => by
    rw [List.cons_append, runZ, runZ, run_app l1 l2, List.append_assoc]; rfl
theorem run_still : ∀ (l came : List Nat) (st : ST), (∀ j, j ∈ l → (od O j).b = S) → (∀ j, j ∈ came → (od O j).b = S) → runZ O l came st = st
  | [], _, _, _, _ => rfl
  | a :: l, came, st, hl, hc => by
    have hn : pickZ O st.1 a came none = none := pick_skip fun q hq => by
      cases h : canB O st.1 a q with
      | false => rfl
      | true =>
        have := (can_pos h).2.2.1
        rw [hl a (by simp), hc q hq] at this
        cases S <;> cases this
    rw [runZ, come_none hn]
    refine run_still l _ _ (fun j hj => hl j (by simp [hj])) fun j hj => ?_
    rcases List.mem_append.1 hj with hj | hj
    · exact hc j hj
    · simp at hj; rw [hj]; exact hl a (by simp)
end
theorem cmU_split (t : List Int) (m : Nat) : ∀ n, ∃ E, cmU t (m + n) = cmU t m ++ E ∧ ∀ y, y ∈ E → (m : Int) ≤ y.1
  | 0 => ⟨[], by rw [List.append_nil]; rfl, fun y hy => by cases hy⟩
  | n + 1 => by
    obtain ⟨E, e1, e2⟩ := cmU_split t m n
    refine ⟨E ++ atM ((m + n : Nat) : Int) t 0, ?_, fun y hy => ?_⟩
    · show cmU t (m + n) ++ atM ((m + n : Nat) : Int) t 0 = _
      rw [e1, List.append_assoc]
    · rcases List.mem_append.1 hy with hy | hy
      · exact e2 y hy
      · have := (atM_mem hy).1; omega
theorem ord_split (t : List Int) : ∃ l1 l2, ordZ t = l1 ++ l2 ∧ (∀ j, j ∈ l1 → ∃ x, t[j]? = some x ∧ x < 10) ∧ ∀ j, j ∈ l2 → ∃ x, t[j]? = some x ∧ 10 ≤ x := by
  obtain ⟨E, e1, e2⟩ := cmU_split t 10 21
  have hc : cmZ t = cmU t 10 ++ E := e1
  refine ⟨(cmU t 10).map fun x => x.2, E.map fun x => x.2, ?_, fun j hj => ?_, fun j hj => ?_⟩
  · unfold ordZ; rw [hc, List.map_append]
  · obtain ⟨y, hy, rfl⟩ := List.mem_map.1 hj
    exact ⟨y.1, cmU_get hy, (cmU_mem hy).1⟩
  · obtain ⟨y, hy, rfl⟩ := List.mem_map.1 hj
    have hm : y ∈ cmU t 31 := by
      have : cmU t 31 = cmU t 10 ++ E := e1
      rw [this]; exact List.mem_append.2 (.inr hy)
    exact ⟨y.1, cmU_get hm, e2 y hy⟩
/-- What the law asks. -/
theorem first_fill {O : List Od} {t : List Int} {S : Bool} (hv : Val O) (ht : Tru O t) (hs : ∀ i x, t[i]? = some x → ((od O i).b = S ∧ x < 10) ∨ ((od O i).b = !S ∧ 10 < x)) {a b i k : Nat} (ha : (ordZ t)[a]? = some i) (hb : (ordZ t)[b]? = some k)
    (hi : (od O i).b = S) (hk : (od O k).b = S) (hf : 0 < fnZ (i : Int) (playZ O t).2) (hr : vl S (od O i) < vl S (od O k) ∨ (vl S (od O k) = vl S (od O i) ∧ b < a)) : fnZ (k : Int) (playZ O t).2 = (od O k).n := by
  obtain ⟨l1, l2, e, g1, g2⟩ := ord_split t
  have hl := ht.len
  have h6 := hv.l6
  have hlt : ∀ j, j ∈ ordZ t → j < 6 := fun j hj => by have := ord_lt hj; omega
  have s1 : ∀ j, j ∈ l1 → (od O j).b = S := fun j hj => by
    obtain ⟨x, hx, h10⟩ := g1 j hj
    rcases hs j x hx with h | h
    · exact h.1
    · omega
  have s2 : ∀ j, j ∈ l2 → (od O j).b = !S := fun j hj => by
    obtain ⟨x, hx, h10⟩ := g2 j hj
    rcases hs j x hx with h | h
    · omega
    · exact h.1
  have in1 : ∀ j, j ∈ ordZ t → (od O j).b = S → j ∈ l1 := fun j hj hS => by
    rw [e] at hj
    rcases List.mem_append.1 hj with h | h
    · exact h
    · have := s2 j h; rw [hS] at this; cases S <;> cases this
  have hi1 := in1 i (List.mem_of_getElem? ha) hi
  have hk1 := in1 k (List.mem_of_getElem? hb) hk
  have hpn := ord_nodup t
  have hq := sq_play hv ht
  have hil : i < O.length := by have := ord_lt (List.mem_of_getElem? ha); omega
  have hkl : k < O.length := by have := ord_lt (List.mem_of_getElem? hb); omega
  have fi := hq.fil i hil
  have fk := hq.fil k hkl
  have hff : FF O S l1 (playZ O t).1 := by
    have hp : playZ O t = runZ O l2 (l1 ++ []) (left0 O O.length, []) := by
      unfold playZ
      rw [e, run_app, run_still (S := S) l1 [] _ s1 (fun j hj => by cases hj), List.nil_append, List.append_nil]
    rw [hp]
    refine ff_run l2 [] _ (fun j hj => ?_) (fun j hj => ?_) s1 (fun j hj => by cases hj) s2 ?_ (left0_ok hv) ?_
    · rw [List.append_nil] at hj; exact hlt j (by rw [e]; exact List.mem_append.2 (.inl hj))
    · exact hlt j (by rw [e]; exact List.mem_append.2 (.inr hj))
    · rw [List.append_nil, ← e]; exact hpn
    · intro i j hi hj _ h
      have hi' : i ∈ ordZ t := by rw [e]; exact List.mem_append.2 (.inl hi)
      have hiO : i < O.length := by have := ord_lt hi'; omega
      rw [left0_get _ _ _ (hlt i hi'), if_pos hiO] at h
      omega
  have hrel : vl S (od O i) < vl S (od O k) ∨ (vl S (od O k) = vl S (od O i) ∧ Bef l1 k i) := by
    rcases hr with h | ⟨h1, h2⟩
    · exact .inl h
    · refine .inr ⟨h1, ?_⟩
      -- both stand in the first part
      have hal : a < l1.length := by
        by_cases q : a < l1.length
        · exact q
        · exfalso
          rw [e, List.getElem?_append_right (by omega)] at ha
          have := s2 i (List.mem_of_getElem? ha)
          rw [hi] at this; cases S <;> cases this
      rw [e, List.getElem?_append_left hal] at ha
      rw [e, List.getElem?_append_left (by omega)] at hb
      exact bef_of ha hb h2
  have := hff i k hi1 hk1 hrel (by omega)
  omega
end Go.Proofs.Po
