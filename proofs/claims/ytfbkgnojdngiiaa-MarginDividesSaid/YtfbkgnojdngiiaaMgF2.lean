import Derived.Test.YtfbkgnojdngiiaaMgF
import Derived.Test.YtfbkgnojdngiiaaMg8
/- Lists of numbers of 32 bits. -/
namespace Go.Proofs.Mg
open Go Go.Ev Go.ChangeShapes Go.WideShapes Go.ChangeAt Go.RowKit
set_option linter.unusedSimpArgs false
section
variable {H : Type} {h : AHeap} {k : Nat} {cs : List Value} {d : DataW H}
theorem map_valU (l : List {n : Int // 0 ≤ n ∧ n ≤ 4294967295}) : (l.map fun n => [u32v n.1]) = (l.map fun n => n.1).map fun n => [u32v n] := by
  rw [List.map_map]; rfl
set_option maxRecDepth 100000 in
theorem rd_u32s (hd : Rd Try.prog h 8 32 cs d) : ∃ (v : Value) (l : List Int), cs = [v] ∧ U32s h v l := by
  obtain ⟨v, l, rfl, ha, _⟩ := rd_rows (α := {n : Int // 0 ≤ n ∧ n ≤ 4294967295}) (cv := fun n => [u32v n.1]) (n := 1) Try.underlying32 (by kernel_rfl) hd fun c y hy => by
    obtain ⟨n, rfl, hw⟩ := rd_intw Try.underlying33 hy
    have hw' : 0 ≤ n ∧ n ≤ 4294967295 := by
      simp only [Lit.wf, Bool.and_eq_true, decide_eq_true_eq] at hw; exact hw
    exact ⟨⟨n, hw'⟩, rfl⟩
  refine ⟨v, l.map fun n => n.1, rfl, ⟨by rw [← map_valU]; exact ha, fun n hn => ?_⟩⟩
  obtain ⟨x, _, rfl⟩ := List.mem_map.1 hn
  exact x.2
end
end Go.Proofs.Mg
