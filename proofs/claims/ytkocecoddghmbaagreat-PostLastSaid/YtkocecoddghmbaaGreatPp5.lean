import Derived.Test.YtkocecoddghmbaaGreatPp4
/- All sales of a truth: what holds at the end. Pure. -/
namespace Go.Proofs.Po
set_option linter.unusedSimpArgs false
theorem sq_start {O : List Od} (hv : Val O) : SQ O (left0 O O.length, []) := by
  have h6 := hv.l6
  refine ⟨left0_ok hv, (fun s hs => by cases hs), fun j hj => ?_, ?_⟩
  · show (0 : Int) = _
    rw [left0_get _ _ _ (by omega), if_pos hj]; omega
  · show 0 + posN (left0 O O.length) O.length ≤ O.length
    have := pos_le (left0 O O.length) O.length
    omega
theorem sq_play {O : List Od} {t : List Int} (hv : Val O) (ht : Tru O t) : SQ O (playZ O t) := by
  unfold playZ
  exact sq_run hv.l6 _ _ _ (fun a ha => by have := ord_lt ha; have := ht.len; omega) (fun r hr => by cases hr) (sq_start hv)
theorem sales_six {O : List Od} {t : List Int} (hv : Val O) (ht : Tru O t) : (playZ O t).2.length ≤ 6 := by
  have := (sq_play hv ht).cnt
  have := hv.l6
  omega
end Go.Proofs.Po
