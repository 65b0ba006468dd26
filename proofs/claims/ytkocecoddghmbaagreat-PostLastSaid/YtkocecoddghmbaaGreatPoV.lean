import Derived.Test.YtkocecoddghmbaaGreatPoF
import Derived.Test.YtkocecoddghmbaaGreatPoR
/- Words among the arguments. -/
namespace Go.Proofs.Po
open Go Go.Ev Go.ChangeShapes Go.WideShapes Go.ChangeAt Go.RowKit
set_option linter.unusedSimpArgs false
section
variable {H : Type} {h : AHeap} {k : Nat} {cs : List Value} {d : DataW H}
theorem map_val8 (l : List {n : Int // 0 ≤ n ∧ n ≤ 255}) : (l.map fun n => [u8v n.1]) = (l.map fun n => n.1).map fun n => [u8v n] := by
  rw [List.map_map]; rfl
set_option maxRecDepth 100000 in
theorem rd_words (hd : Rd Tryz.prog h 8 65 cs d) : ∃ (v : Value) (l : List Int), cs = [v] ∧ WdAt h v l ∧ (l.length : Int) < 9223372036854775808 := by
  obtain ⟨v, l, rfl, ha, hl⟩ := rd_rows (α := {n : Int // 0 ≤ n ∧ n ≤ 255}) (cv := fun n => [u8v n.1]) (n := 1) Tryz.underlying65 (by kernel_rfl) hd fun c y hy => by
    obtain ⟨n, rfl, hw⟩ := rd_intw Tryz.underlying5 hy
    have hw' : 0 ≤ n ∧ n ≤ 255 := by
      simp only [Lit.wf, Bool.and_eq_true, decide_eq_true_eq] at hw; exact hw
    exact ⟨⟨n, hw'⟩, rfl⟩
  refine ⟨v, l.map fun n => n.1, rfl, ⟨by rw [← map_val8]; exact ha, fun n hn => ?_⟩, ?_⟩
  · obtain ⟨x, _, rfl⟩ := List.mem_map.1 hn
    exact x.2
  · rw [List.length_map]
    have : maxLen < 9223372036854775808 := by decide
    omega
end
end Go.Proofs.Po
