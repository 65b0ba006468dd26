import Derived.Test.YtbnkkpipfighjaaGreatCt6
namespace Go.Proofs.Cp
open Go Go.Ev Go.RowKit
set_option linter.unusedSimpArgs false
def rgtT (c : Co) (ex day h : Int) (x : Tr) (s n : Int) : Int :=
 bif decide (s < ex) then (n + (if x.bu = h then unitsR c.sp x.sh s day else 0)) - (if x.se = h then unitsR c.sp x.sh s day else 0) else n
def rgtG (c : Co) (ex day h : Int) : List Tr → List Int → Int → Int
 | x :: r, s :: a, n => rgtG c ex day h r a (rgtT c ex day h x s n)
 | _, _, n => n
def rgtH (c : Co) (a : List Int) (ex day h sh : Int) : Int := rgtG c ex day h c.tr a (unitsR c.sp sh (-1) day)
def rgtFrom (c : Co) (a : List Int) (d : T3) : List Int → Nat → List Int
 | [], _ => []
 | sh :: r, k => (d.2.2 * rgtH c a d.1 d.2.1 k sh) :: rgtFrom c a d r (k + 1)
def rgtL (c : Co) (a : List Int) (d : T3) : List Int := rgtFrom c a d c.held 0
theorem rgtFrom_len (c : Co) (a : List Int) (d : T3) : ∀ (l : List Int) (k : Nat), (rgtFrom c a d l k).length = l.length
 | [], _ => rfl
 | _ :: r, k => by rw [rgtFrom, List.length_cons, rgtFrom_len c a d r, List.length_cons]
theorem rgtFrom_get (c : Co) (a : List Int) (d : T3) : ∀ (l : List Int) (k i : Nat), (rgtFrom c a d l k)[i]? = (l[i]?).map fun sh => d.2.2 * rgtH c a d.1 d.2.1 ((k + i : Nat) : Int) sh
 | [], _, _ => by simp [rgtFrom]
 | sh :: r, k, 0 => by simp [rgtFrom]
 | sh :: r, k, i + 1 => by
  rw [rgtFrom, List.getElem?_cons_succ, List.getElem?_cons_succ, rgtFrom_get c a d r (k + 1) i]
  rw [show k + 1 + i = k + (i + 1) from by omega]
theorem rgtG_nil (c : Co) (ex day h : Int) (a : List Int) (n : Int) : rgtG c ex day h [] a n = n := by
 unfold rgtG; rfl
variable {pr : Prim} {R : ExT}
end Go.Proofs.Cp
