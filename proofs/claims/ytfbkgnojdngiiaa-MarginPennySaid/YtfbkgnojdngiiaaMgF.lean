import Derived.Test.YtfbkgnojdngiiaaMgG
import Derived.Test.YtfbkgnojdngiiaaMg1
import Derived.Test.YtfbkgnojdngiiaaEvD
import Derived.ChangeMaps5
import Derived.ChangeSame
import Derived.Shelf.LaysM
/- How the arguments lie in a heap. -/
namespace Go.Proofs.Mg
open Go Go.Ev Go.ChangeShapes Go.WideShapes Go.ChangeAt Go.RowKit
set_option linter.unusedSimpArgs false

section
variable {H : Type} {P : Program} {h : AHeap} {k : Nat} {t : TypeId} {cs : List Value} {d : DataW H}
theorem rd_struct2 {f0 f1 : Field} (hu : P.underlying t = some (.struct #[f0, f1])) (hd : Rd P h (k + 1) t cs d) : ∃ (c0 c1 : List Value) (y0 y1 : DataW H), cs = c0 ++ c1 ∧ Rd P h k f0.type c0 y0 ∧ Rd P h k f1.type c1 y1 := by
  unfold Rd at hd
  rw [hu] at hd
  obtain ⟨parts, css, rfl, rfl, h1, h2, h3⟩ := hd
  match css, parts, h1, h2 with
  | [c0, c1], [y0, y1], _, _ => exact ⟨c0, c1, y0, y1, by simp, (h3 0 f0 c0 y0 rfl rfl rfl).2, (h3 1 f1 c1 y1 rfl rfl rfl).2⟩
theorem rd_struct3 {f0 f1 f2 : Field} (hu : P.underlying t = some (.struct #[f0, f1, f2])) (hd : Rd P h (k + 1) t cs d) :
    ∃ (c0 c1 c2 : List Value) (y0 y1 y2 : DataW H), cs = c0 ++ c1 ++ c2 ∧ Rd P h k f0.type c0 y0 ∧ Rd P h k f1.type c1 y1 ∧ Rd P h k f2.type c2 y2 := by
  unfold Rd at hd
  rw [hu] at hd
  obtain ⟨parts, css, rfl, rfl, h1, h2, h3⟩ := hd
  match css, parts, h1, h2 with
  | [c0, c1, c2], [y0, y1, y2], _, _ => exact ⟨c0, c1, c2, y0, y1, y2, by simp, (h3 0 f0 c0 y0 rfl rfl rfl).2, (h3 1 f1 c1 y1 rfl rfl rfl).2, (h3 2 f2 c2 y2 rfl rfl rfl).2⟩
theorem rd_intw {q : IntKind} (hu : P.underlying t = some (.int q)) (hd : Rd P h (k + 1) t cs d) : ∃ n, cs = [.int q n] ∧ (Lit.int q n).wf = true := by
  unfold Rd at hd
  rw [hu] at hd
  obtain ⟨n, _, hw, rfl⟩ := hd
  exact ⟨n, rfl, hw⟩
theorem rd_int {q : IntKind} (hu : P.underlying t = some (.int q)) (hd : Rd P h (k + 1) t cs d) : ∃ n, cs = [.int q n] := by
  obtain ⟨n, e, _⟩ := rd_intw hu hd
  exact ⟨n, e⟩
theorem rows_of {α : Type} {cv : α → List Value} : ∀ {l : List (List Value)}, (∀ c, c ∈ l → ∃ p : α, c = cv p) → ∃ ps : List α, l = ps.map cv
  | [], _ => ⟨[], rfl⟩
  | c :: l, k => by
    obtain ⟨p, rfl⟩ := k c (by simp)
    obtain ⟨ps, rfl⟩ := rows_of (cv := cv) (l := l) fun c hc => k c (by simp [hc])
    exact ⟨p :: ps, rfl⟩
theorem rd_rows {α : Type} {cv : α → List Value} {e : TypeId} {n : Nat} (hu : P.underlying t = some (.slice e)) (hn : P.cellsOf e = n) (hd : Rd P h (k + 1) t cs d) (hr : ∀ c (y : DataW H), Rd P h k e c y → ∃ p, c = cv p) : ∃ (v : Value) (l : List α), cs = [v] ∧ SlAt h n v (l.map cv) ∧ l.length ≤ maxLen := by
  obtain ⟨v, css, els, rfl, hs', hl, hr', hm, _⟩ := rd_slice_at hu hd
  rw [hn] at hs'
  obtain ⟨l, rfl⟩ := rows_of (cv := cv) (l := css) fun c hc => by
    obtain ⟨i, hi⟩ := List.mem_iff_getElem?.1 hc
    have hlt : i < els.length := by
      have := (List.getElem?_eq_some_iff.1 hi).1
      omega
    exact hr c els[i] (hr' i c els[i] hi (List.getElem?_eq_getElem hlt))
  rw [List.length_map] at hm
  exact ⟨v, l, rfl, hs', hm⟩
end
theorem brings_body {P : Program} {R : ExT} {g : FuncId} {args : List Value} {h : AHeap} {Post : Value → AHeap → Prop} {fn : Func} {c : Code} (hf : P.funcs[g]? = some fn) (hb : fn.body = some c) (hname : (fn.name == "runtime.NumGoroutine") = false) (hlen : Nat.ble args.length fn.ntmps = true)
    (y : Brings P R g args h Post) (K : KV) (hK : ∀ v h', Kp h h' → Post v h' → K v h' = true) : R fn.ntmps none c (argsT args) h [] (finish P fn K) = true := by
  have := y K hK
  unfold callFunc1 at this
  simp only [hf, hb] at this
  unfold callBody at this
  rwa [hname, cond_false, hlen, cond_true, setArgs_id] at this
section
variable {H : Type} {h : AHeap} {k : Nat} {cs : List Value} {d : DataW H}
set_option maxRecDepth 100000 in
theorem rd_ints (hd : Rd Try.prog h (k + 2) 22 cs d) : ∃ (v : Value) (l : List Int), cs = [v] ∧ IS h v l ∧ l.length ≤ maxLen :=
  rd_rows (cv := fun n : Int => [iv n]) Try.underlying22 (by kernel_rfl) hd fun c y hy => rd_int Try.underlying3 hy
end
end Go.Proofs.Mg
