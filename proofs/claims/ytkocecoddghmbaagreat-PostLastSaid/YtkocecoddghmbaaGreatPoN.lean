import Derived.Test.YtkocecoddghmbaaGreatPoM
/- The law's helpers; whether a list is a truth, and how orders come, by the reference. -/
namespace Go.Proofs.Po
open Go Go.Ev Go.RowKit
set_option linter.unusedSimpArgs false
variable {pr : Prim} {R : ExT}
section
variable {P : Program} {h : AHeap} {call : CallT} {ops : Array Oper} {n : Nat} {rest : List Oper} {t : T Value} {KR : T Value → AHeap → Bool} {dst : Option Tmp} {v : Value} {l : List Int} {a e : TypeId} {x : Operand}
end

/-! ## Structs of integers, compared -/
theorem bin_neInts {P : Program} {t : T Value} {dst : Option Tmp} {pos : String} {af : Array Edge} {g : Option (Nat × Bool)} {ty a' b' : TypeId} {x y : Operand} {n : Nat} {xs ys : List Value} {b : Bool} (hk : intKey P ty = some n) (hgd : P.eqGuardType P.depth ty = false) (hl : xs.length = n) (e : eqInts xs ys = some b) (hp : plainB (.agg ⟨xs⟩) = true) (hp' : plainB (.agg ⟨ys⟩) = true)
    (hx : ev P t x = .agg ⟨xs⟩) (hy : ev P t y = .agg ⟨ys⟩) :
    rBin P t ⟨dst, .binOp .neq ty x y b', a', pos, af, g⟩ .neq ty (.agg ⟨ys⟩) (.agg ⟨xs⟩) = some (.bool (!b)) := by
  have hn : nilEqT P ty (.agg ⟨xs⟩) (.agg ⟨ys⟩) = none := by
    unfold nilEqT
    split
    · rename_i d _
      cases d <;> rfl
    · rfl
  show rBin2 P t _ .neq (nilEqT P ty (.agg ⟨xs⟩) (.agg ⟨ys⟩)) = _
  rw [hn]
  show ground P t _ = _
  have e1 : evL P t (Op.operands (.binOp .neq ty x y b')).toList = [.agg ⟨xs⟩, .agg ⟨ys⟩] := by simp only [Op.operands, evL, hx, hy]
  have e2 : plainL [.agg ⟨xs⟩, .agg ⟨ys⟩] = true := by simp only [plainL, hp, hp']; rfl
  have e3 := intKey_eq (P := P) 9998 hk xs ys hl e
  have e4 : pureOf P (eqGuard .neq ty x y (.agg ⟨xs⟩) (.agg ⟨ys⟩)) = some () := by
    unfold eqGuard
    simp [pureOf, program, bind, Sem.bind, hgd, pure]
  have e6 : pureOf P (execOp (ev P t) ⟨dst, .binOp .neq ty x y b', a', pos, af, g⟩) = some (.value (.bool (!b))) := by
    simp only [execOp, hx, hy, bind_assoc]
    rw [pureOf_bd7 _ _ _ e4]
    show pureOf P ((Op.equalIn 10000 ty (.agg ⟨xs⟩) (.agg ⟨ys⟩) >>= fun r => pure (.bool (!r))) >>= fun v => pure (Next.value v)) = _
    rw [bind_assoc, pureOf_bd7 _ _ _ e3]
    rfl
  unfold ground
  rw [e1, e2, cond_true, e6]
  rfl
def eqSa (x y : Sa) : Bool := beqI x.bu y.bu && (beqI x.se y.se && (beqI x.nu y.nu && beqI x.pr y.pr))
theorem eqInts_Sa (x y : Sa) : eqInts (cSa x) (cSa y) = some (eqSa x y) := by
  have hk : beqKind IntKind.i64 IntKind.i64 = true := rfl
  unfold cSa eqSa
  simp only [eqInts, hk, cond_true]
  cases beqI x.bu y.bu <;> cases beqI x.se y.se <;> cases beqI x.nu y.nu <;> cases beqI x.pr y.pr <;> rfl
theorem plain_Sa (x : Sa) : plainB (.agg ⟨cSa x⟩) = true := rfl
theorem eqSa_refl (x : Sa) : eqSa x x = true := by simp [eqSa, beqI_eq]

/-! ## Whether a list is a truth, by the reference -/
end Go.Proofs.Po
