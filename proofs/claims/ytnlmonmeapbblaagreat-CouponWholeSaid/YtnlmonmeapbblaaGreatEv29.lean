import Derived.Test.YtnlmonmeapbblaaGreatEvD
/- Two rows of booleans, compared by the model's own text. -/
namespace Go.Ev
open Go.RowKit

section
variable {P : Program}

theorem pureOf_bd {α β : Type} : ∀ (s : Sem α) (f : α → Sem β) (a : α), pureOf P s = some a → pureOf P (s >>= f) = pureOf P (f a)
  | .pure b, f, a, h => by
    have : b = a := by simpa [pureOf] using h
    subst this; rfl
  | .program k, f, a, h => by
    show pureOf P ((k P).bind f) = _
    exact pureOf_bd (k P) f a h
  | .mark m k, f, a, h => by
    show pureOf P (k.bind f) = _
    exact pureOf_bd k f a h
  | .load _ _ _, _, _, h => by cases h
  | .store _ _ _ _, _, _, h => by cases h
  | .new _ _, _, _, h => by cases h
  | .shape _ _, _, _, h => by cases h
  | .freeze _ _ _, _, _, h => by cases h
  | .frozen _ _, _, _, h => by cases h
  | .getObj _ _, _, _, h => by cases h
  | .setObj _ _ _, _, _, h => by cases h
  | .choose _ _, _, _, h => by cases h
  | .sys _ _, _, _, h => by cases h
  | .halt _, _, _, h => by cases h

theorem all_rangeB : ∀ (xs ys : List Bool), xs.length = ys.length → ((List.range xs.length).all fun i => xs.getD i false == ys.getD i false) = (xs == ys)
  | [], [], _ => rfl
  | x :: xs, y :: ys, h => by
    have ih := all_rangeB xs ys (by simpa using h)
    rw [List.length_cons, List.range_succ_eq_map, List.all_cons, List.all_map]
    simp only [List.getD_cons_zero, Function.comp_def, List.getD_cons_succ, ih]
    simp [List.cons_beq_cons]
  | [], _ :: _, h => by simp at h
  | _ :: _, [], h => by simp at h

theorem pureOf_und {t : TypeId} {d : TypeDesc} (h : P.underlying t = some d) : pureOf P (underlying t) = some d := by
  simp [underlying, pureOf, program, bind, Sem.bind, h, pure]

theorem pureOf_part {e : TypeId} (hag : pureOf P (isAgg e) = some false) (xs : List Bool) (i : Nat) (hi : i < xs.length) : pureOf P (part e ⟨xs.map .bool⟩ i) = some (.bool (xs.getD i false)) := by
  unfold part
  rw [pureOf_bd _ _ _ hag]
  have hx : (⟨xs.map Value.bool⟩ : Array Value)[i]? = some (.bool (xs.getD i false)) := by
    show (List.toArray (xs.map Value.bool))[i]? = _
    rw [List.getElem?_toArray, List.getElem?_map, List.getElem?_eq_getElem hi]
    simp [List.getD, List.getElem?_eq_getElem hi]
  simp only [Bool.false_eq_true, if_false]
  rw [hx]
  rfl

theorem pureOf_equal_bools (d : Nat) {t e : TypeId} {n : Nat} (ht : P.underlying t = some (.array n e)) (he : P.underlying e = some .bool) (hag : pureOf P (isAgg e) = some false) (hsz : pureOf P (sizeOf e) = some 1)
    (xs ys : List Bool) (hx : xs.length = n) (hy : ys.length = n) :
    pureOf P (Op.equalIn (d + 2) t (.agg ⟨xs.map .bool⟩) (.agg ⟨ys.map .bool⟩)) = some (xs == ys) := by
  rw [← all_rangeB xs ys (hx.trans hy.symm), hx, List.range_eq_range', Op.equalIn]
  rw [pureOf_bd _ _ _ (pureOf_und ht)]
  simp only
  rw [pureOf_bd _ _ _ hsz]
  simp only [Std.Legacy.Range.forIn_eq_forIn_range', Std.Legacy.Range.size, Nat.sub_zero, Nat.add_sub_cancel, Nat.div_one]
  have hl : ∀ i ∈ List.range' 0 n 1, i < n := fun i hi => by simpa using (List.mem_range'_1.1 hi).2
  generalize List.range' 0 n 1 = l at hl ⊢
  induction l with
  | nil => rfl
  | cons i l ih =>
    have hi : i < n := hl i (by simp)
    have px : pureOf P (part e ⟨xs.map .bool⟩ (i * 1)) = some (.bool (xs.getD i false)) := by rw [Nat.mul_one]; exact pureOf_part hag xs i (by omega)
    have py : pureOf P (part e ⟨ys.map .bool⟩ (i * 1)) = some (.bool (ys.getD i false)) := by rw [Nat.mul_one]; exact pureOf_part hag ys i (by omega)
    have pe : pureOf P (Op.equalIn (d + 1) e (.bool (xs.getD i false)) (.bool (ys.getD i false))) = some (xs.getD i false == ys.getD i false) := by
      rw [Op.equalIn, pureOf_bd _ _ _ (pureOf_und he)]
      rfl
    rw [List.all_cons]
    simp only [List.forIn_cons, bind_assoc]
    rw [pureOf_bd _ _ _ px, pureOf_bd _ _ _ py, pureOf_bd _ _ _ pe]
    cases hb : (xs.getD i false == ys.getD i false)
    · rfl
    · exact ih fun j hj => hl j (by simp [hj])
end
end Go.Ev
