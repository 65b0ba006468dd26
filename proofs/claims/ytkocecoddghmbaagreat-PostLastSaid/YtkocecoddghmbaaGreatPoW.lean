import Derived.Test.YtkocecoddghmbaaGreatPoF
/- How much a post among the arguments weighs. -/
namespace Go.Proofs.Po
open Go Go.Ev Go.ChangeShapes Go.WideShapes Go.ChangeAt Go.RowKit
set_option linter.unusedSimpArgs false
theorem wO {i : TypeInfo} (hi : Tryz.prog.info? 70 = some i) : i.bytes = 40 := by
  have h : (Tryz.prog.info? 70).map (fun i => i.bytes) = some 40 := by kernel_rfl
  rw [hi] at h
  exact Option.some.inj h
theorem bO40 : Tryz.prog.bytesOf 70 = 40 := by kernel_rfl
theorem numO {n : Nat} (h : n * 40 ≤ reachBytes) : numOk Tryz.prog 70 n = true ∧ numOk Tryz.prog 70 (Nat.add n 1) = true := by
  unfold reachBytes at h
  have h' : n * 40 ≤ 140737488351232 := h
  refine ⟨numOk_up nrO (by omega) fun i hi => ?_, numOk_up nrO (by show n + 1 < _; omega) fun i hi => ?_⟩
  · rw [wO hi]; omega
  · rw [wO hi]; show (n + 1) * 40 ≤ _; omega
section
variable {H : Type} {h : AHeap} {k : Nat} {cs : List Value} {d : DataW H}
set_option maxRecDepth 100000 in
theorem rd_postW (hd : Rd Tryz.prog h 8 24 cs d) (hw : (d.weights Tryz.prog 24).all (· ≤ reachBytes) = true) : ∃ (v : Value) (O : List Od), cs = poV v ∧ PoAt h v O ∧ O.length * 40 ≤ reachBytes := by
  unfold Rd at hd
  rw [Tryz.underlying24] at hd
  obtain ⟨parts, css, rfl, rfl, h1, h2, h3⟩ := hd
  match css, parts, h1, h2 with
  | [c0], [y0], _, _ =>
    have k0 := (h3 0 _ c0 y0 rfl rfl rfl).2
    obtain ⟨v, css', els, rfl, hs', hl, hr', hm, hdd⟩ := rd_slice_at Tryz.underlying22 k0
    have hn : Tryz.prog.cellsOf 70 = 5 := by kernel_rfl
    rw [hn] at hs'
    obtain ⟨O, rfl⟩ := rows_of (cv := cOd) (l := css') fun c hc => by
      obtain ⟨i, hi⟩ := List.mem_iff_getElem?.1 hc
      have hlt : i < els.length := by
        have := (List.getElem?_eq_some_iff.1 hi).1
        omega
      exact rd_order (hr' i c els[i] hi (List.getElem?_eq_getElem hlt))
    rw [List.length_map] at hl
    refine ⟨v, O, rfl, hs', ?_⟩
    rcases hdd with ⟨_, rfl⟩ | ⟨sp, rfl⟩
    · rw [hl]; show 0 * 40 ≤ _; omega
    · unfold DataW.weights at hw
      rw [Tryz.underlying24] at hw
      simp only [List.map_cons, List.map_nil, DataW.weightsEach, List.append_nil] at hw
      unfold DataW.weights at hw
      rw [Tryz.underlying22] at hw
      simp only [List.all_cons, Bool.and_eq_true, decide_eq_true_eq, bO40] at hw
      rw [hl]
      have := hw.1
      exact Nat.le_trans (Nat.mul_le_mul_right _ (Nat.le_add_right _ _)) this
end
end Go.Proofs.Po
