import Derived.Test.YtefjnhpghgahbaaGreatCs1
/- What each house has registered, in shares and units. -/
namespace Go.Proofs.Cp
open Go Go.Ev Go.RowKit
set_option linter.unusedSimpArgs false

theorem holdG_bnd {c:Co} (hv:Val c) (day:Int) (q:R2 → Bool):∀ (tr:List Tr) (ds:List R2) (l:List Int) (M:Int),(∀ x,x ∈ tr → Tok c.hs x) → l.length = 4 → bndL M l → bndL (M + 5184000 * (tr.length:Int)) (holdG c day q tr ds l)
 | [],ds,l,M,_,_,h=>by
  rw [holdG_nil]
  intro x hx
  have:=h x hx
  simp only [List.length_nil]
  omega
 | x :: r,[],l,M,_,_,h=>by
  unfold holdG
  intro y hy
  have:=h y hy
  omega
 | x :: r,d :: ds,l,M,ht,hl,h=>by
  rw [holdG]
  have hx:=ht x (by simp)
  have:=hx.s0
  have:=hx.s1
  have:=hx.b0
  have:=hx.b1
  have:=hv.h4
  have hfu:=facU_bnd hv (sh:=x.sh) (a:=d.1) (b:=day) (by have:=hx.n0; omega) hx.n1
  have hb:bndL (M + 5184000) (bif q d then aftL l x (facU c x.sh d.1 day) else l):=by
   cases q d with
   | true =>
    have e1:=bndL_add (U:=2592000) (d:=-facU c x.sh d.1 day) (i:=x.se.toNat) h (by omega) (by omega) (by omega) (by omega)
    have e2:=bndL_add (U:=2592000) (d:=facU c x.sh d.1 day) (i:=x.bu.toNat) e1 (by rw [addA_len]; omega) (by omega) (by omega) (by omega)
    intro y hy
    have:=e2 y hy
    omega
   | false =>
    intro y hy
    have:=h y hy
    omega
  have hlen:(bif q d then aftL l x (facU c x.sh d.1 day) else l).length = 4:=by
   cases q d with
   | true=>exact (aftL_len _ _ _).trans hl
   | false=>exact hl
  have hr:=holdG_bnd hv day q r ds _ _ (fun y hy=>ht y (by simp [hy])) hlen hb
  intro y hy
  have:=hr y hy
  simp only [List.length_cons]
  omega
theorem holdP_bnd {c:Co} (hv:Val c) (ds:List R2) (day:Int) (q:R2 → Bool):bndL 23328000 (holdP c ds day q):=by
 intro x hx
 have:=holdG_bnd hv day q c.tr ds _ _ (toks hv) (hold0_len _ _ _) (hold0_bnd hv day _) x hx
 have:=hv.tl
 omega
theorem asked0 {c:Co} {a b:List Int} (h:askedZ c a b = 0):faultZ c = 0 ∧ datedB c a b = true:=by
 unfold askedZ at h
 by_cases hz:faultZ c = 0
 ·rw [if_pos hz] at h
  refine ⟨hz,?_⟩
  cases hd:datedB c a b with
  | true=>rfl
  | false=>rw [hd,cond_false] at h; omega
 ·rw [if_neg hz] at h
  exact absurd h hz

variable {pr:Prim} {R:ExT}
end Go.Proofs.Cp
