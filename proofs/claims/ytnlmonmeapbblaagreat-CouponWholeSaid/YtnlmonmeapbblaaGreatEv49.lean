import Derived.Test.YtnlmonmeapbblaaGreatEv48
import Derived.Test.YtnlmonmeapbblaaGreatEv29
/- Two rows of integers, compared by the model's own text. -/
namespace Go.Ev
open Go.RowKit
section
variable {P : Program}
theorem all_rangeI : ∀ (xs ys : List Int), xs.length = ys.length → ((List.range xs.length).all fun i => xs.getD i 0 == ys.getD i 0) = (xs == ys)
  | [], [], _ => rfl
  | x :: xs, y :: ys, h => by
    have ih := all_rangeI xs ys (by simpa using h)
    rw [List.length_cons, List.range_succ_eq_map, List.all_cons, List.all_map]
    simp only [List.getD_cons_zero, Function.comp_def, List.getD_cons_succ, ih]
    simp [List.cons_beq_cons]
  | [], _ :: _, h => by simp at h
  | _ :: _, [], h => by simp at h
theorem pureOf_partZ {e : TypeId} (hag : pureOf P (isAgg e) = some false) (xs : List Int) (i : Nat) (hi : i < xs.length) : pureOf P (part e ⟨xs.map iv⟩ i) = some (iv (xs.getD i 0)) := by
  unfold part
  rw [pureOf_bd _ _ _ hag]
  have hx : (⟨xs.map iv⟩ : Array Value)[i]? = some (iv (xs.getD i 0)) := by
    show (List.toArray (xs.map iv))[i]? = _
    rw [List.getElem?_toArray, List.getElem?_map, List.getElem?_eq_getElem hi]
    simp [List.getD, List.getElem?_eq_getElem hi]
  simp only [Bool.false_eq_true, if_false]
  rw [hx]
  rfl
theorem pureOf_equal_ints (d : Nat) {t e : TypeId} {n : Nat} (ht : P.underlying t = some (.array n e)) (he : P.underlying e = some (.int .i64)) (hag : pureOf P (isAgg e) = some false) (hsz : pureOf P (sizeOf e) = some 1)
    (xs ys : List Int) (hx : xs.length = n) (hy : ys.length = n) :
    pureOf P (Op.equalIn (d + 2) t (.agg ⟨xs.map iv⟩) (.agg ⟨ys.map iv⟩)) = some (xs == ys) := by
  rw [← all_rangeI xs ys (hx.trans hy.symm), hx, List.range_eq_range', Op.equalIn]
  rw [pureOf_bd _ _ _ (pureOf_und ht)]
  simp only
  rw [pureOf_bd _ _ _ hsz]
  simp only [Std.Legacy.Range.forIn_eq_forIn_range', Std.Legacy.Range.size, Nat.sub_zero, Nat.add_sub_cancel, Nat.div_one]
  have hl : ∀ i ∈ List.range' 0 n 1, i < n := fun i hi => by simpa using (List.mem_range'_1.1 hi).2
  generalize List.range' 0 n 1 = l at hl ⊢
  induction l with
  | nil => rfl
  | cons i l ih =>
    have hi : i < n := hl i (by simp)
    have px : pureOf P (part e ⟨xs.map iv⟩ (i * 1)) = some (iv (xs.getD i 0)) := by rw [Nat.mul_one]; exact pureOf_partZ hag xs i (by omega)
    have py : pureOf P (part e ⟨ys.map iv⟩ (i * 1)) = some (iv (ys.getD i 0)) := by rw [Nat.mul_one]; exact pureOf_partZ hag ys i (by omega)
    have pe : pureOf P (Op.equalIn (d + 1) e (iv (xs.getD i 0)) (iv (ys.getD i 0))) = some (xs.getD i 0 == ys.getD i 0) := by
      rw [Op.equalIn, pureOf_bd _ _ _ (pureOf_und he)]
      rfl
    rw [List.all_cons]
    simp only [List.forIn_cons, bind_assoc]
    rw [pureOf_bd _ _ _ px, pureOf_bd _ _ _ py, pureOf_bd _ _ _ pe]
    cases hb : (xs.getD i 0 == ys.getD i 0)
    · rfl
    · exact ih fun j hj => hl j (by simp [hj])
end
end Go.Ev
