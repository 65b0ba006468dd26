import Derived.Test.YtemmpnipmklacaaRnG
import Derived.Test.YtemmpnipmklacaaRnD0
import Derived.Test.YtemmpnipmklacaaEvD
import Derived.ChangeMaps5
import Derived.ChangeSame
import Derived.Shelf.LaysM
/- How the arguments lie in a heap. -/
namespace Go.Proofs.Rg
open Go Go.Ev Go.ChangeShapes Go.WideShapes Go.ChangeAt Go.RowKit
set_option linter.unusedSimpArgs false

section
variable {H : Type} {P : Program} {h : AHeap} {k : Nat} {t : TypeId} {cs : List Value} {d : DataW H}
theorem rd_struct2 {f0 f1 : Field} (hu : P.underlying t = some (.struct #[f0, f1])) (hd : Rd P h (k + 1) t cs d) : ∃ (c0 c1 : List Value) (y0 y1 : DataW H), cs = c0 ++ c1 ∧ Rd P h k f0.type c0 y0 ∧ Rd P h k f1.type c1 y1 := by
  unfold Rd at hd
  rw [hu] at hd
  obtain ⟨parts, css, rfl, rfl, h1, h2, h3⟩ := hd
  match css, parts, h1, h2 with
  | [c0, c1], [y0, y1], _, _ => exact ⟨c0, c1, y0, y1, by simp, (h3 0 f0 c0 y0 rfl rfl rfl).2, (h3 1 f1 c1 y1 rfl rfl rfl).2⟩
theorem rd_struct4 {f0 f1 f2 f3 : Field} (hu : P.underlying t = some (.struct #[f0, f1, f2, f3])) (hd : Rd P h (k + 1) t cs d) :
    ∃ (c0 c1 c2 c3 : List Value) (y0 y1 y2 y3 : DataW H), cs = c0 ++ c1 ++ c2 ++ c3 ∧ Rd P h k f0.type c0 y0 ∧ Rd P h k f1.type c1 y1 ∧ Rd P h k f2.type c2 y2 ∧ Rd P h k f3.type c3 y3 := by
  unfold Rd at hd
  rw [hu] at hd
  obtain ⟨parts, css, rfl, rfl, h1, h2, h3⟩ := hd
  match css, parts, h1, h2 with
  | [c0, c1, c2, c3], [y0, y1, y2, y3], _, _ => exact ⟨c0, c1, c2, c3, y0, y1, y2, y3, by simp, (h3 0 f0 c0 y0 rfl rfl rfl).2, (h3 1 f1 c1 y1 rfl rfl rfl).2, (h3 2 f2 c2 y2 rfl rfl rfl).2, (h3 3 f3 c3 y3 rfl rfl rfl).2⟩
theorem rd_intw {q : IntKind} (hu : P.underlying t = some (.int q)) (hd : Rd P h (k + 1) t cs d) : ∃ n, cs = [.int q n] ∧ (Lit.int q n).wf = true := by
  unfold Rd at hd
  rw [hu] at hd
  obtain ⟨n, _, hw, rfl⟩ := hd
  exact ⟨n, rfl, hw⟩
theorem rd_int {q : IntKind} (hu : P.underlying t = some (.int q)) (hd : Rd P h (k + 1) t cs d) : ∃ n, cs = [.int q n] := by
  obtain ⟨n, e, _⟩ := rd_intw hu hd
  exact ⟨n, e⟩
end
theorem brings_body {P : Program} {R : ExT} {g : FuncId} {args : List Value} {h : AHeap} {Post : Value → AHeap → Prop} {fn : Func} {c : Code} (hf : P.funcs[g]? = some fn) (hb : fn.body = some c) (hname : (fn.name == "runtime.NumGoroutine") = false) (hlen : Nat.ble args.length fn.ntmps = true)
    (y : Brings P R g args h Post) (K : KV) (hK : ∀ v h', Kp h h' → Post v h' → K v h' = true) : R fn.ntmps none c (argsT args) h [] (finish P fn K) = true := by
  have := y K hK
  unfold callFunc1 at this
  simp only [hf, hb] at this
  unfold callBody at this
  rwa [hname, cond_false, hlen, cond_true, setArgs_id] at this
theorem cons_of : ∀ {l : List (List Value)}, (∀ c, c ∈ l → ∃ p : C4, c = cc p) → ∃ cs : List C4, l = cs.map cc
  | [], _ => ⟨[], rfl⟩
  | c :: l, k => by
    obtain ⟨p, rfl⟩ := k c (by simp)
    obtain ⟨ps, rfl⟩ := cons_of (l := l) fun c hc => k c (by simp [hc])
    exact ⟨p :: ps, rfl⟩
set_option maxRecDepth 100000 in
theorem rd_conK {H : Type} {h : AHeap} {k : Nat} {cs : List Value} {d : DataW H} (hd : Rd Try.prog h (k + 2) 48 cs d) : ∃ c : C4, cs = cc c := by
  obtain ⟨c0, c1, c2, c3, y0, y1, y2, y3, rfl, k0, k1, k2, k3⟩ := rd_struct4 Try.underlying48 hd
  obtain ⟨a, rfl⟩ := rd_int Try.underlying3 k0
  obtain ⟨b, rfl⟩ := rd_int Try.underlying3 k1
  obtain ⟨c, rfl⟩ := rd_int Try.underlying3 k2
  obtain ⟨e, rfl⟩ := rd_int Try.underlying3 k3
  exact ⟨(a, b, c, e), rfl⟩
set_option maxRecDepth 100000 in
theorem rd_book {H : Type} {h : AHeap} {cs : List Value} {d : DataW H} (hd : Rd Try.prog h 8 24 cs d) : ∃ hs cv bk, cs = [iv hs, cv] ∧ CAt h cv bk := by
  obtain ⟨c0, c1, y0, y1, rfl, h0, h1⟩ := rd_struct2 Try.underlying24 hd
  obtain ⟨hs, rfl⟩ := rd_int Try.underlying3 h0
  obtain ⟨cv, css, els, rfl, hs', hl, hr, hm, _⟩ := rd_slice_at Try.underlying22 h1
  rw [show Try.prog.cellsOf 48 = 4 from by kernel_rfl] at hs'
  obtain ⟨bk, rfl⟩ := cons_of (l := css) fun c hc => by
    obtain ⟨i, hi⟩ := List.mem_iff_getElem?.1 hc
    have hlt : i < els.length := by
      have := (List.getElem?_eq_some_iff.1 hi).1
      omega
    exact rd_conK (hr i c els[i] hi (List.getElem?_eq_getElem hlt))
  exact ⟨hs, cv, bk, rfl, hs'⟩
theorem ints_of {q : IntKind} : ∀ {l : List (List Value)}, (∀ c, c ∈ l → ∃ n : Int, c = [.int q n]) → ∃ ns : List Int, l = ns.map fun n => [.int q n]
  | [], _ => ⟨[], rfl⟩
  | c :: l, k => by
    obtain ⟨p, rfl⟩ := k c (by simp)
    obtain ⟨ps, rfl⟩ := ints_of (l := l) fun c hc => k c (by simp [hc])
    exact ⟨p :: ps, rfl⟩
set_option maxRecDepth 100000 in
theorem rd_ints {H : Type} {h : AHeap} {k : Nat} {cs : List Value} {d : DataW H} (hd : Rd Try.prog h (k + 2) 27 cs d) : ∃ av am, cs = [av] ∧ IAt h av am ∧ am.length ≤ maxLen := by
  obtain ⟨cv, css, els, rfl, hs', hl, hr, hm, _⟩ := rd_slice_at Try.underlying27 hd
  rw [show Try.prog.cellsOf 3 = 1 from by kernel_rfl] at hs'
  obtain ⟨am, rfl⟩ := ints_of (q := .i64) (l := css) fun c hc => by
    obtain ⟨i, hi⟩ := List.mem_iff_getElem?.1 hc
    have hlt : i < els.length := by
      have := (List.getElem?_eq_some_iff.1 hi).1
      omega
    exact rd_int Try.underlying3 (hr i c els[i] hi (List.getElem?_eq_getElem hlt))
  rw [List.length_map] at hm
  exact ⟨cv, am, rfl, SlAt.ints hs', hm⟩
end Go.Proofs.Rg
