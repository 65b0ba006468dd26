import Derived.Test.YtfbkgnojdngiiaaMgF
import Derived.Test.YtfbkgnojdngiiaaMh1
/- Banks and truths among the arguments. -/
namespace Go.Proofs.Mg
open Go Go.Ev Go.ChangeShapes Go.WideShapes Go.ChangeAt Go.RowKit
set_option linter.unusedSimpArgs false
section
variable {H : Type} {h : AHeap} {k : Nat} {cs : List Value} {d : DataW H}
theorem rd_rowsQ {P : Program} {t : TypeId} {α : Type} {cv : α → List Value} {Q : α → Prop} {e : TypeId} {n : Nat} (hu : P.underlying t = some (.slice e)) (hn : P.cellsOf e = n) (hd : Rd P h (k + 1) t cs d) (hr : ∀ c (y : DataW H), Rd P h k e c y → ∃ p, c = cv p ∧ Q p) : ∃ (v : Value) (l : List α), cs = [v] ∧ SlAt h n v (l.map cv) ∧ ∀ x, x ∈ l → Q x := by
  obtain ⟨v, l, e1, ha, _⟩ := rd_rows (α := {p : α // Q p}) (cv := fun p => cv p.1) hu hn hd fun c y hy => by
    obtain ⟨p, e, hq⟩ := hr c y hy
    exact ⟨⟨p, hq⟩, e⟩
  refine ⟨v, l.map fun p => p.1, e1, by rw [List.map_map]; exact ha, fun x hx => ?_⟩
  obtain ⟨y, _, rfl⟩ := List.mem_map.1 hx
  exact y.2
set_option maxRecDepth 100000 in
theorem rd_r2 (hd : Rd Try.prog h (k + 2) 81 cs d) : ∃ r : R2, cs = c2 r := by
  obtain ⟨c0, c1, y0, y1, rfl, k0, k1⟩ := rd_struct2 Try.underlying81 hd
  obtain ⟨a, rfl⟩ := rd_int Try.underlying3 k0
  obtain ⟨b, rfl⟩ := rd_int Try.underlying3 k1
  exact ⟨(a, b), rfl⟩
set_option maxRecDepth 100000 in
theorem rd_day (hd : Rd Try.prog h (k + 4) 83 cs d) : ∃ x : PD, cs = cD x ∧ SlAt h 2 x.1 (x.2.1.map c2) := by
  obtain ⟨c0, c1, y0, y1, rfl, k0, k1⟩ := rd_struct2 Try.underlying83 hd
  obtain ⟨v, l, rfl, ha, _⟩ := rd_rows (cv := c2) (n := 2) Try.underlying80 (by kernel_rfl) k0 fun c y hy => rd_r2 hy
  obtain ⟨r, rfl⟩ := rd_r2 k1
  exact ⟨(v, l, r), rfl, ha⟩
set_option maxRecDepth 100000 in
theorem rd_loan (hd : Rd Try.prog h (k + 3) 85 cs d) : ∃ x : PL, cs = cL x ∧ IS h x.1 x.2.2.2 := by
  obtain ⟨c0, c1, c2, y0, y1, y2, rfl, k0, k1, k2⟩ := rd_struct3 Try.underlying85 hd
  obtain ⟨a, rfl⟩ := rd_int Try.underlying3 k0
  obtain ⟨b, rfl⟩ := rd_int Try.underlying3 k1
  obtain ⟨v, l, rfl, ha, _⟩ := rd_ints k2
  exact ⟨(v, a, b, l), rfl, ha⟩
set_option maxRecDepth 100000 in
theorem rd_bank (hd : Rd Try.prog h 8 70 cs d) : ∃ (st : Int) (dv lv : Value) (D : List PD) (L : List PL), cs = bkV st dv lv ∧ BkAt h dv lv D L ∧ ∀ x, x ∈ L → IS h x.1 x.2.2.2 := by
  obtain ⟨c0, c1, c2, y0, y1, y2, rfl, k0, k1, k2⟩ := rd_struct3 Try.underlying70 hd
  obtain ⟨a, rfl⟩ := rd_int Try.underlying3 k0
  obtain ⟨v, D, rfl, ha, hD⟩ := rd_rowsQ (cv := cD) (n := 3) Try.underlying67 (by kernel_rfl) k1 fun c y hy => rd_day hy
  obtain ⟨w, L, rfl, hb, hL⟩ := rd_rowsQ (cv := cL) (n := 3) Try.underlying68 (by kernel_rfl) k2 fun c y hy => rd_loan hy
  exact ⟨a, v, w, D, L, rfl, ⟨ha, hD, hb, fun x hx => (hL x hx).at⟩, hL⟩
end
end Go.Proofs.Mg
