
/- The parts of a sum: what a program that gives the pence that are left to the greatest remainders comes to. No program in it. -/
namespace Go.Proofs.Mg

def sumL (l : List Int) : Int := l.foldr (· + ·) 0
theorem sumL_nil : sumL [] = 0 := rfl
theorem sumL_cons (a : Int) (l : List Int) : sumL (a :: l) = a + sumL l := rfl
theorem sumL_app : ∀ (l m : List Int), sumL (l ++ m) = sumL l + sumL m
  | [], m => by rw [List.nil_append, sumL_nil, Int.zero_add]
  | a :: l, m => by rw [List.cons_append, sumL_cons, sumL_cons, sumL_app l m, Int.add_assoc]
theorem sumL_snoc (l : List Int) (a : Int) : sumL (l ++ [a]) = sumL l + a := by rw [sumL_app, sumL_cons, sumL_nil, Int.add_zero]
theorem getD_set (l : List Int) (j i : Nat) (x : Int) : (l.set j x).getD i 0 = if i = j ∧ j < l.length then x else l.getD i 0 := by
  simp only [List.getD_eq_getElem?_getD, List.getElem?_set]
  by_cases h : j = i
  · subst h
    by_cases h2 : j < l.length
    · simp [h2]
    · simp [h2]
  · rw [if_neg h, if_neg (fun e => h e.1.symm)]
/-! ## The first of the greatest numbers -/
/-- Whether all numbers are at most this one. -/
def topB (l : List Int) (n : Int) : Bool := l.all fun x => decide (x ≤ n)
/-- The index of the first of the greatest numbers; 0 if there is none. -/
def greatG (l : List Int) : List Int → Nat → Nat
  | [], _ => 0
  | n :: r, k => bif topB l n then k else greatG l r (k + 1)
def great (l : List Int) : Nat := greatG l l 0
/-! ## How many -/
/-! ## The rounds -/
def round (x : List Int × List Int) : List Int × List Int := (x.1.set (great x.2) (x.1.getD (great x.2) 0 + 1), x.2.set (great x.2) 0)
/-! ## The parts -/
def base (l : List Int) (sum T : Int) : List Int := l.map fun a => (a * sum).tdiv T
def rest (l : List Int) (sum T : Int) : List Int := l.map fun a => (a * sum).tmod T
end Go.Proofs.Mg

/- The parts of a sum: as the ranks of the remainders say; what they have. No program in it. -/
namespace Go.Proofs.Mg

end Go.Proofs.Mg
