import Derived.Test.YtemmpnipmklacaaRnF
import Derived.Test.YtemmpnipmklacaaRpG
namespace Go.Proofs.Rg
open Go Go.Ev Go.ChangeShapes Go.WideShapes Go.ChangeAt Go.RowKit
set_option linter.unusedSimpArgs false
set_option maxRecDepth 100000 in
theorem rd_intsS {H : Type} {h : AHeap} {k : Nat} {cs : List Value} {d : DataW H} (hd : Rd Try.prog h (k + 2) 27 cs d) : ∃ av am, cs = [av] ∧ IS h av am ∧ am.length ≤ maxLen := by
  obtain ⟨cv, css, els, rfl, hs', hl, hr, hm, _⟩ := rd_slice_at Try.underlying27 hd
  rw [show Try.prog.cellsOf 3 = 1 from by kernel_rfl] at hs'
  obtain ⟨am, rfl⟩ := ints_of (q := .i64) (l := css) fun c hc => by
    obtain ⟨i, hi⟩ := List.mem_iff_getElem?.1 hc
    have hlt : i < els.length := by
      have := (List.getElem?_eq_some_iff.1 hi).1
      omega
    exact rd_int Try.underlying3 (hr i c els[i] hi (List.getElem?_eq_getElem hlt))
  rw [List.length_map] at hm
  exact ⟨cv, am, rfl, hs', hm⟩
set_option maxRecDepth 100000 in
theorem rd_ringK {H : Type} {h : AHeap} {k : Nat} {cs : List Value} {d : DataW H} (hd : Rd Try.prog h (k + 3) 56 cs d) : ∃ s r, cs = rc (s, r) ∧ IS h s r.1 := by
  obtain ⟨c0, c1, y0, y1, rfl, h0, h1⟩ := rd_struct2 Try.underlying56 hd
  obtain ⟨a, rfl⟩ := rd_int Try.underlying3 h1
  obtain ⟨s, l, rfl, hs, _⟩ := rd_intsS h0
  exact ⟨s, (l, a), rfl, hs⟩
theorem rings_of {h : AHeap} : ∀ {l : List (List Value)}, (∀ c, c ∈ l → ∃ s r, c = rc (s, r) ∧ IS h s r.1) → ∃ (vs : List Value) (rl : List R2), vs.length = rl.length ∧ l = (vs.zip rl).map rc ∧ ∀ (i : Nat) s r, vs[i]? = some s → rl[i]? = some r → IS h s r.1
  | [], _ => ⟨[], [], rfl, rfl, fun i s r e => by simp at e⟩
  | c :: l, k => by
    obtain ⟨s, r, rfl, hs⟩ := k c (by simp)
    obtain ⟨vs, rl, k1, rfl, k3⟩ := rings_of (l := l) fun c hc => k c (by simp [hc])
    refine ⟨s :: vs, r :: rl, by simp [k1], rfl, fun i s' r' e1 e2 => ?_⟩
    cases i with
    | zero => simp at e1 e2; subst e1 e2; exact hs
    | succ i => exact k3 i s' r' (by simpa using e1) (by simpa using e2)
set_option maxRecDepth 100000 in
theorem rd_rings {H : Type} {h : AHeap} {k : Nat} {cs : List Value} {d : DataW H} (hd : Rd Try.prog h (k + 4) 53 cs d) : ∃ rv rl, cs = [rv] ∧ RA IS h rv rl := by
  obtain ⟨rv, css, els, rfl, hs', hl, hr, hm, _⟩ := rd_slice_at Try.underlying53 hd
  rw [show Try.prog.cellsOf 56 = 2 from by kernel_rfl] at hs'
  obtain ⟨vs, rl, k1, rfl, k3⟩ := rings_of (h := h) (l := css) fun c hc => by
    obtain ⟨i, hi⟩ := List.mem_iff_getElem?.1 hc
    have hlt : i < els.length := by
      have := (List.getElem?_eq_some_iff.1 hi).1
      omega
    exact rd_ringK (hr i c els[i] hi (List.getElem?_eq_getElem hlt))
  exact ⟨rv, rl, rfl, vs, k1, hs', k3⟩
end Go.Proofs.Rg
