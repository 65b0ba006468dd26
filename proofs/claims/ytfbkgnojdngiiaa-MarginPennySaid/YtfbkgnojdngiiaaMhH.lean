import Derived.Test.YtfbkgnojdngiiaaMhG
import Derived.Test.YtfbkgnojdngiiaaMg7
/- What is asked of a bank and a truth does not depend on where they lie. -/
namespace Go.Proofs.Mg
open Go Go.Ev Go.RowKit
set_option linter.unusedSimpArgs false
section
variable {α β : Type}
theorem map_len {D D' : List (α × β)} (h : (D'.map fun x => x.2) = D.map fun x => x.2) : D'.length = D.length := by
  have := congrArg List.length h
  rwa [List.length_map, List.length_map] at this
theorem map_all {D D' : List (α × β)} (h : (D'.map fun x => x.2) = D.map fun x => x.2) {P : β → Prop} (k : ∀ x, x ∈ D → P x.2) : ∀ x, x ∈ D' → P x.2 := fun x hx => by
  have hm : x.2 ∈ D'.map fun x => x.2 := List.mem_map.2 ⟨x, hx, rfl⟩
  rw [h] at hm
  obtain ⟨y, hy, e⟩ := List.mem_map.1 hm
  rw [← e]
  exact k y hy
theorem map_allB {D D' : List (α × β)} (h : (D'.map fun x => x.2) = D.map fun x => x.2) (f : β → Bool) : (D'.all fun x => f x.2) = D.all fun x => f x.2 := by
  have e : ∀ l : List (α × β), (l.all fun x => f x.2) = (l.map fun x => x.2).all f := fun l => by rw [List.all_map]; rfl
  rw [e, e, h]
theorem map_mapB {γ : Type} {D D' : List (α × β)} (h : (D'.map fun x => x.2) = D.map fun x => x.2) (f : β → γ) : (D'.map fun x => f x.2) = D.map fun x => f x.2 := by
  have e : ∀ l : List (α × β), (l.map fun x => f x.2) = (l.map fun x => x.2).map f := fun l => by rw [List.map_map]; rfl
  rw [e, e, h]
end
section
variable {st : Int} {D D' : List PD} {L L' : List PL} {Ts T' : List PT} {rt : List Int}
theorem fault_congr (hD : (D'.map fun x => x.2) = D.map fun x => x.2) (hL : (L'.map fun x => x.2) = L.map fun x => x.2) : faultZ st D' L' = faultZ st D L := by
  have e1 : D'.all (okD st) = D.all (okD st) := map_allB hD fun y => okD st (nl, y)
  have e2 : L'.all (okL st) = L.all (okL st) := map_allB hL fun y => okL st (nl, y)
  unfold faultZ fewB openB
  rw [e1, e2, map_len hD, map_len hL]
theorem truth_congr (hD : (D'.map fun x => x.2) = D.map fun x => x.2) (hT : (T'.map fun x => x.2) = Ts.map fun x => x.2) : truthB st D' T' rt = truthB st D Ts rt := by
  have e : ∀ (D : List PD) (T : List PT), (List.zip D (List.zip T rt)).all (okT st) = (List.zip (D.map fun x => x.2) (List.zip (T.map fun x => x.2) rt)).all fun z => okT st ((nl, z.1), (nl, z.2.1), z.2.2) := fun D T => by
    have e1 : List.zip (T.map fun x => x.2) rt = (List.zip T rt).map (Prod.map (fun x => x.2) id) := by rw [← List.zip_map, List.map_id]
    rw [e1, List.zip_map, List.all_map]
    rfl
  unfold truthB
  rw [e D' T', e D Ts, hD, hT, map_len hD, map_len hT]
theorem faultT_congr (hD : (D'.map fun x => x.2) = D.map fun x => x.2) (hL : (L'.map fun x => x.2) = L.map fun x => x.2) (hT : (T'.map fun x => x.2) = Ts.map fun x => x.2) : faultT st D' L' T' rt = faultT st D L Ts rt := by
  unfold faultT
  rw [fault_congr hD hL, truth_congr hD hT]
theorem vsF_congr (hT : (T'.map fun x => x.2) = Ts.map fun x => x.2) (s : List Int) : vsF s T' = vsF s Ts := by
  have e : ∀ (T : List PT) (n : Nat), (T.getD n (nl, [])).2 = ((T.map fun x => x.2)[n]?).getD [] := fun T n => by
    rw [List.getElem?_map, List.getD_eq_getElem?_getD]
    cases T[n]? <;> rfl
  funext n
  unfold vsF
  rw [e T' n, e Ts n, hT]
theorem debts_congr (hL : (L'.map fun x => x.2) = L.map fun x => x.2) (hT : (T'.map fun x => x.2) = Ts.map fun x => x.2) (n : Nat) : L'.map (debtsOf n T' rt) = L.map (debtsOf n Ts rt) := by
  have e : debtsOf n T' rt = debtsOf n Ts rt := by funext x; unfold debtsOf; rw [vsF_congr hT]
  rw [e]
  exact map_mapB hL fun y => debtsOf n Ts rt (nl, y)
theorem calls_congr (hL : (L'.map fun x => x.2) = L.map fun x => x.2) (hT : (T'.map fun x => x.2) = Ts.map fun x => x.2) (n : Nat) : L'.map (callsOf n T' rt) = L.map (callsOf n Ts rt) := by
  have e : callsOf n T' rt = callsOf n Ts rt := by funext x; unfold callsOf; rw [vsF_congr hT]
  rw [e]
  exact map_mapB hL fun y => callsOf n Ts rt (nl, y)
end
section
variable {P : Program} {ops : Array Oper} {n f : Nat} {l : List Info} {done i m : Nat} {hist : List Seen} {t : T Value} {h : AHeap} {KR : T Value → AHeap → Bool} {call : CallT}
/-- A read that is ready comes before a write that stands before it. -/
theorem draw_read2 {i2 m2 : Nat} {o o2 : Oper} (hr : Nat.beq (Nat.land m2 done) m2 = true) : drawGo P call ops n 0 [] (f + 1) ({ i := i, o := o, w := true, pre := m } :: { i := i2, o := o2, w := false, pre := m2 } :: l) done hist t h KR = drR (wantA t ops o2.guard) (aread P t h o2) P call ops n f ({ i := i, o := o, w := true, pre := m } :: l) done i2 o2 hist t h KR := by
  simp only [drawGo, pickR, hr, Bool.not_false, Bool.not_true, Bool.false_and, Bool.true_and, cond_true, cond_false, drR, fV1_eq, fNat_eq, Option.map]
  cases wantA t ops o2.guard with
  | none => rfl
  | some b =>
    cases b with
    | false => rfl
    | true => cases aread P t h o2 <;> rfl
end
structure Thin7 (D : List PD) (L : List PL) (T : List PT) (rt : List Int) : Prop where
  d : (D.length : Int) ≤ 7
  l : (L.length : Int) ≤ 7
  t : (T.length : Int) ≤ 7
  r : (rt.length : Int) ≤ 7
  dd : ∀ x, x ∈ D → (x.2.1.length : Int) ≤ 7
  ll : ∀ x, x ∈ L → (x.2.2.2.length : Int) ≤ 7
  tt : ∀ x, x ∈ T → (x.2.length : Int) ≤ 7
theorem thin7 {D : List PD} {L : List PL} {T : List PT} {rt : List Int} (h : thinB D L T rt = true) : Thin7 D L T rt := by
  simp only [thinB, Bool.and_eq_true, decide_eq_true_eq, List.all_eq_true] at h
  exact ⟨h.1, h.2.1, h.2.2.1, h.2.2.2.1, h.2.2.2.2.1, h.2.2.2.2.2.1, h.2.2.2.2.2.2⟩
end Go.Proofs.Mg
