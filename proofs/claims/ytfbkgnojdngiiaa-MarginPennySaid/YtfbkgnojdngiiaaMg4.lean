import Derived.Test.YtfbkgnojdngiiaaMg3
import Derived.Test.YtfbkgnojdngiiaaEvE
/- The program's parts. -/
namespace Go.Proofs.Mg
open Go Go.Ev
set_option linter.unusedSimpArgs false
variable {pr : Prim} {R : ExT}
/-! ## Lists that are filled -/
def fillK (b : List Int) (k : Nat) : List Int := b.take k ++ List.replicate (b.length - k) 0
theorem fillK_zero (b : List Int) : fillK b 0 = List.replicate b.length 0 := by simp [fillK]
theorem fillK_len (b : List Int) {k : Nat} (hk : k ≤ b.length) : (fillK b k).length = b.length := by simp [fillK]; omega
theorem fillK_full (b : List Int) : fillK b b.length = b := by simp [fillK]
theorem fillK_set (b : List Int) {k : Nat} (hk : k < b.length) : (fillK b k).set k b[k] = fillK b (k + 1) := by
  unfold fillK
  rw [List.set_append_right _ _ (by rw [List.length_take]; omega), List.length_take, Nat.min_eq_left (by omega), Nat.sub_self, show b.length - k = (b.length - (k + 1)) + 1 by omega, List.replicate_succ, List.set_cons_zero, List.take_add_one, List.getElem?_eq_getElem hk, Option.toList_some, List.append_assoc]
  rfl
end Go.Proofs.Mg
