import Derived.Test.YtbhflnhkmhmolaaGreatCnG
import Derived.Test.YtbhflnhkmhmolaaGreatCn1
import Derived.Test.YtbhflnhkmhmolaaGreatEvD
import Derived.ChangeMaps5
import Derived.ChangeSame
import Derived.Shelf.LaysM
/- How the arguments lie in a heap. -/
namespace Go.Proofs.Cp
open Go Go.Ev Go.ChangeShapes Go.WideShapes Go.ChangeAt Go.RowKit
set_option linter.unusedSimpArgs false

section
variable {H : Type} {P : Program} {h : AHeap} {k : Nat} {t : TypeId} {cs : List Value} {d : DataW H}
theorem rd_struct2 {f0 f1 : Field} (hu : P.underlying t = some (.struct #[f0, f1])) (hd : Rd P h (k + 1) t cs d) : ∃ (c0 c1 : List Value) (y0 y1 : DataW H), cs = c0 ++ c1 ∧ Rd P h k f0.type c0 y0 ∧ Rd P h k f1.type c1 y1 := by
  unfold Rd at hd
  rw [hu] at hd
  obtain ⟨parts, css, rfl, rfl, h1, h2, h3⟩ := hd
  match css, parts, h1, h2 with
  | [c0, c1], [y0, y1], _, _ => exact ⟨c0, c1, y0, y1, by simp, (h3 0 f0 c0 y0 rfl rfl rfl).2, (h3 1 f1 c1 y1 rfl rfl rfl).2⟩
theorem rd_struct3 {f0 f1 f2 : Field} (hu : P.underlying t = some (.struct #[f0, f1, f2])) (hd : Rd P h (k + 1) t cs d) :
    ∃ (c0 c1 c2 : List Value) (y0 y1 y2 : DataW H), cs = c0 ++ c1 ++ c2 ∧ Rd P h k f0.type c0 y0 ∧ Rd P h k f1.type c1 y1 ∧ Rd P h k f2.type c2 y2 := by
  unfold Rd at hd
  rw [hu] at hd
  obtain ⟨parts, css, rfl, rfl, h1, h2, h3⟩ := hd
  match css, parts, h1, h2 with
  | [c0, c1, c2], [y0, y1, y2], _, _ => exact ⟨c0, c1, c2, y0, y1, y2, by simp, (h3 0 f0 c0 y0 rfl rfl rfl).2, (h3 1 f1 c1 y1 rfl rfl rfl).2, (h3 2 f2 c2 y2 rfl rfl rfl).2⟩
theorem rd_struct5 {f0 f1 f2 f3 f4 : Field} (hu : P.underlying t = some (.struct #[f0, f1, f2, f3, f4])) (hd : Rd P h (k + 1) t cs d) :
    ∃ (c0 c1 c2 c3 c4 : List Value) (y0 y1 y2 y3 y4 : DataW H), cs = c0 ++ c1 ++ c2 ++ c3 ++ c4 ∧ Rd P h k f0.type c0 y0 ∧ Rd P h k f1.type c1 y1 ∧ Rd P h k f2.type c2 y2 ∧ Rd P h k f3.type c3 y3 ∧ Rd P h k f4.type c4 y4 := by
  unfold Rd at hd
  rw [hu] at hd
  obtain ⟨parts, css, rfl, rfl, h1, h2, h3⟩ := hd
  match css, parts, h1, h2 with
  | [c0, c1, c2, c3, c4], [y0, y1, y2, y3, y4], _, _ => exact ⟨c0, c1, c2, c3, c4, y0, y1, y2, y3, y4, by simp, (h3 0 f0 c0 y0 rfl rfl rfl).2, (h3 1 f1 c1 y1 rfl rfl rfl).2, (h3 2 f2 c2 y2 rfl rfl rfl).2, (h3 3 f3 c3 y3 rfl rfl rfl).2, (h3 4 f4 c4 y4 rfl rfl rfl).2⟩
theorem rd_struct6 {f0 f1 f2 f3 f4 f5 : Field} (hu : P.underlying t = some (.struct #[f0, f1, f2, f3, f4, f5])) (hd : Rd P h (k + 1) t cs d) :
    ∃ (c0 c1 c2 c3 c4 c5 : List Value) (y0 y1 y2 y3 y4 y5 : DataW H), cs = c0 ++ c1 ++ c2 ++ c3 ++ c4 ++ c5 ∧ Rd P h k f0.type c0 y0 ∧ Rd P h k f1.type c1 y1 ∧ Rd P h k f2.type c2 y2 ∧ Rd P h k f3.type c3 y3 ∧ Rd P h k f4.type c4 y4 ∧ Rd P h k f5.type c5 y5 := by
  unfold Rd at hd
  rw [hu] at hd
  obtain ⟨parts, css, rfl, rfl, h1, h2, h3⟩ := hd
  match css, parts, h1, h2 with
  | [c0, c1, c2, c3, c4, c5], [y0, y1, y2, y3, y4, y5], _, _ => exact ⟨c0, c1, c2, c3, c4, c5, y0, y1, y2, y3, y4, y5, by simp, (h3 0 f0 c0 y0 rfl rfl rfl).2, (h3 1 f1 c1 y1 rfl rfl rfl).2, (h3 2 f2 c2 y2 rfl rfl rfl).2, (h3 3 f3 c3 y3 rfl rfl rfl).2, (h3 4 f4 c4 y4 rfl rfl rfl).2, (h3 5 f5 c5 y5 rfl rfl rfl).2⟩
theorem rd_intw {q : IntKind} (hu : P.underlying t = some (.int q)) (hd : Rd P h (k + 1) t cs d) : ∃ n, cs = [.int q n] ∧ (Lit.int q n).wf = true := by
  unfold Rd at hd
  rw [hu] at hd
  obtain ⟨n, _, hw, rfl⟩ := hd
  exact ⟨n, rfl, hw⟩
theorem rd_int {q : IntKind} (hu : P.underlying t = some (.int q)) (hd : Rd P h (k + 1) t cs d) : ∃ n, cs = [.int q n] := by
  obtain ⟨n, e, _⟩ := rd_intw hu hd
  exact ⟨n, e⟩
theorem rows_of {α : Type} {cv : α → List Value} : ∀ {l : List (List Value)}, (∀ c, c ∈ l → ∃ p : α, c = cv p) → ∃ ps : List α, l = ps.map cv
  | [], _ => ⟨[], rfl⟩
  | c :: l, k => by
    obtain ⟨p, rfl⟩ := k c (by simp)
    obtain ⟨ps, rfl⟩ := rows_of (cv := cv) (l := l) fun c hc => k c (by simp [hc])
    exact ⟨p :: ps, rfl⟩
theorem rd_rows {α : Type} {cv : α → List Value} {e : TypeId} {n : Nat} (hu : P.underlying t = some (.slice e)) (hn : P.cellsOf e = n) (hd : Rd P h (k + 1) t cs d) (hr : ∀ c (y : DataW H), Rd P h k e c y → ∃ p, c = cv p) : ∃ (v : Value) (l : List α), cs = [v] ∧ SlAt h n v (l.map cv) ∧ l.length ≤ maxLen := by
  obtain ⟨v, css, els, rfl, hs', hl, hr', hm, _⟩ := rd_slice_at hu hd
  rw [hn] at hs'
  obtain ⟨l, rfl⟩ := rows_of (cv := cv) (l := css) fun c hc => by
    obtain ⟨i, hi⟩ := List.mem_iff_getElem?.1 hc
    have hlt : i < els.length := by
      have := (List.getElem?_eq_some_iff.1 hi).1
      omega
    exact hr c els[i] (hr' i c els[i] hi (List.getElem?_eq_getElem hlt))
  rw [List.length_map] at hm
  exact ⟨v, l, rfl, hs', hm⟩
end
theorem brings_body {P : Program} {R : ExT} {g : FuncId} {args : List Value} {h : AHeap} {Post : Value → AHeap → Prop} {fn : Func} {c : Code} (hf : P.funcs[g]? = some fn) (hb : fn.body = some c) (hname : (fn.name == "runtime.NumGoroutine") = false) (hlen : Nat.ble args.length fn.ntmps = true)
    (y : Brings P R g args h Post) (K : KV) (hK : ∀ v h', Kp h h' → Post v h' → K v h' = true) : R fn.ntmps none c (argsT args) h [] (finish P fn K) = true := by
  have := y K hK
  unfold callFunc1 at this
  simp only [hf, hb] at this
  unfold callBody at this
  rwa [hname, cond_false, hlen, cond_true, setArgs_id] at this
section
variable {H : Type} {h : AHeap} {k : Nat} {cs : List Value} {d : DataW H}
set_option maxRecDepth 100000 in
theorem rd_rg (hd : Rd Tryz.prog h (k + 2) 74 cs d) : ∃ r : R2, cs = c2 r := by
  obtain ⟨c0, c1, y0, y1, rfl, k0, k1⟩ := rd_struct2 Tryz.underlying74 hd
  obtain ⟨a, rfl⟩ := rd_int Tryz.underlying3 k0
  obtain ⟨b, rfl⟩ := rd_int Tryz.underlying3 k1
  exact ⟨(a, b), rfl⟩
set_option maxRecDepth 100000 in
theorem rd_dv (hd : Rd Tryz.prog h (k + 2) 58 cs d) : ∃ r : T3, cs = c3 r := by
  obtain ⟨c0, c1, c2', y0, y1, y2, rfl, k0, k1, k2⟩ := rd_struct3 Tryz.underlying58 hd
  obtain ⟨a, rfl⟩ := rd_int Tryz.underlying3 k0
  obtain ⟨b, rfl⟩ := rd_int Tryz.underlying3 k1
  obtain ⟨c, rfl⟩ := rd_int Tryz.underlying3 k2
  exact ⟨(a, b, c), rfl⟩
set_option maxRecDepth 100000 in
theorem rd_sp (hd : Rd Tryz.prog h (k + 2) 83 cs d) : ∃ r : T3, cs = c3 r := by
  obtain ⟨c0, c1, c2', y0, y1, y2, rfl, k0, k1, k2⟩ := rd_struct3 Tryz.underlying83 hd
  obtain ⟨a, rfl⟩ := rd_int Tryz.underlying3 k0
  obtain ⟨b, rfl⟩ := rd_int Tryz.underlying3 k1
  obtain ⟨c, rfl⟩ := rd_int Tryz.underlying3 k2
  exact ⟨(a, b, c), rfl⟩
set_option maxRecDepth 100000 in
theorem rd_tr (hd : Rd Tryz.prog h (k + 3) 81 cs d) : ∃ x : Tr, cs = c7 x := by
  obtain ⟨c0, c1, c2', c3', c4, y0, y1, y2, y3, y4, rfl, k0, k1, k2, k3, k4⟩ := rd_struct5 Tryz.underlying81 hd
  obtain ⟨a, rfl⟩ := rd_int Tryz.underlying3 k0
  obtain ⟨b, rfl⟩ := rd_int Tryz.underlying3 k1
  obtain ⟨c, rfl⟩ := rd_int Tryz.underlying3 k2
  obtain ⟨r, rfl⟩ := rd_rg k3
  obtain ⟨s, rfl⟩ := rd_rg k4
  exact ⟨⟨a, b, c, r, s⟩, rfl⟩
set_option maxRecDepth 100000 in
theorem rd_ints (hd : Rd Tryz.prog h (k + 2) 22 cs d) : ∃ (v : Value) (l : List Int), cs = [v] ∧ SlAt h 1 v (l.map fun n : Int => [iv n]) ∧ l.length ≤ maxLen :=
  rd_rows (cv := fun n : Int => [iv n]) Tryz.underlying22 (by kernel_rfl) hd fun c y hy => rd_int Tryz.underlying3 hy
set_option maxRecDepth 100000 in
theorem rd_co (hd : Rd Tryz.prog h 8 28 cs d) : ∃ (v : Vs) (c : Co), cs = coV c.hs v ∧ CoAt h v c ∧ SlAt h 1 v.a (c.held.map fun n => [iv n]) := by
  obtain ⟨c0, c1, c2', c3', c4, c5, y0, y1, y2, y3, y4, y5, rfl, k0, k1, k2, k3, k4, k5⟩ := rd_struct6 Tryz.underlying28 hd
  obtain ⟨hs, rfl⟩ := rd_int Tryz.underlying3 k0
  obtain ⟨va, la, rfl, ha, _⟩ := rd_ints k1
  obtain ⟨vb, lb, rfl, hb, _⟩ := rd_rows (cv := c7) (n := 7) Tryz.underlying23 (by kernel_rfl) k2 fun c y hy => rd_tr hy
  obtain ⟨vc, lc, rfl, hc, _⟩ := rd_rows (cv := c3) (n := 3) Tryz.underlying24 (by kernel_rfl) k3 fun c y hy => rd_dv hy
  obtain ⟨vd, ld, rfl, hd', _⟩ := rd_rows (cv := c3) (n := 3) Tryz.underlying25 (by kernel_rfl) k4 fun c y hy => rd_sp hy
  obtain ⟨ve, le, rfl, he, _⟩ := rd_rows (cv := c2) (n := 2) Tryz.underlying26 (by kernel_rfl) k5 fun c y hy => rd_rg hy
  exact ⟨⟨va, vb, vc, vd, ve⟩, ⟨hs, la, lb, lc, ld, le⟩, rfl, ⟨SlAt.ints ha, hb, hc, hd', he⟩, ha⟩
set_option maxRecDepth 100000 in
theorem rd_tu (hd : Rd Tryz.prog h 8 30 cs d) : ∃ (ua ub : Value) (la lb : List Int), cs = [ua, ub] ∧ SlAt h 1 ua (la.map fun n => [iv n]) ∧ SlAt h 1 ub (lb.map fun n => [iv n]) := by
  obtain ⟨c0, c1, y0, y1, rfl, k0, k1⟩ := rd_struct2 Tryz.underlying30 hd
  obtain ⟨ua, la, rfl, ha, _⟩ := rd_ints k0
  obtain ⟨ub, lb, rfl, hb, _⟩ := rd_ints k1
  exact ⟨ua, ub, la, lb, rfl, ha, hb⟩
end
end Go.Proofs.Cp
