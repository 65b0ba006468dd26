import Derived.Test.YthgmipngikdknaaGreatPrC
import Derived.Test.YthgmipngikdknaaGreatPtB
/- A truth that explains records. -/
namespace Go.Proofs.Po
open Go Go.Ev Go.RowKit
set_option linter.unusedSimpArgs false
variable {pr:Prim} {R:ExT}
/-- Whether a truth explains records. -/
def expZ (O:List Od) (L:List Sa) (t:List Int):Bool:=L.all fun s=>decide (cnS s L ≤ cnS s (dI O t).2)
theorem find_at {α:Type} {p:α → Bool}:∀ {l:List α} {k:Nat} {x:α},l[k]? = some x → (∀ i y,i < k → l[i]? = some y → p y = false) → p x = true → l.find? p = some x
 | [],_,_,h,_,_=>by simp at h
 | a :: l,0,x,h,_,hp=>by
  obtain rfl:a = x:=by simpa using h
  rw [List.find?_cons,hp]
 | a :: l,k + 1,x,h,hn,hp=>by
  rw [List.find?_cons,hn 0 a (by omega) rfl]
  exact find_at (by simpa using h) (fun i y hi hy=>hn (i + 1) y (by omega) (by simpa using hy)) hp
theorem find_no {α:Type} {p:α → Bool} {l:List α} (h:∀ (i:Nat) (y:α),l[i]? = some y → p y = false):l.find? p = none:=by
 rw [List.find?_eq_none]
 intro x hx
 obtain ⟨i,hi⟩:=List.mem_iff_getElem?.1 hx
 rw [h i x hi]; simp
end Go.Proofs.Po
