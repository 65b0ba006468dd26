import Derived.Test.YtnlmonmeapbblaaGreatEv46
/- Calls that change what was there. -/
namespace Go.Ev
open Go.RowKit
/-- What a call returns, and all that it leaves. -/
def BringsX (P : Program) (R : ExT) (g : FuncId) (args : List Value) (h : AHeap) (Post : Value → AHeap → Prop) : Prop :=
  ∀ K : KV, (∀ v h', Post v h' → K v h' = true) → callFunc1 P R g args h K = true
section
variable {P : Program} {pr : Prim} {R : ExT}
theorem bringsX_of {g : FuncId} {args : List Value} {h : AHeap} {Post : Value → AHeap → Prop} {fn : Func} {c : Code} (hf : P.funcs[g]? = some fn) (hb : fn.body = some c) (hname : (fn.name == "runtime.NumGoroutine") = false) (hlen : Nat.ble args.length fn.ntmps = true)
    (run : ∀ K : KV, (∀ v h', Post v h' → K v h' = true) → R fn.ntmps none c (argsT args) h [] (finish P fn K) = true) : BringsX P R g args h Post := by
  intro K hK
  unfold callFunc1
  simp only [hf, hb]
  unfold callBody
  rw [hname, cond_false, hlen, cond_true, setArgs_id]
  exact run K hK
theorem Brings.x {g : FuncId} {args : List Value} {h : AHeap} {Post : Value → AHeap → Prop} (y : Brings P R g args h Post) : BringsX P R g args h fun v h' => Kp h h' ∧ Post v h' :=
  fun K hK => y K fun v h' hk hp => hK v h' ⟨hk, hp⟩
variable {ops : Array Oper} {n : Nat} {rest : List Oper} {t : T Value} {h : AHeap} {KR : T Value → AHeap → Bool} {dst : Option Tmp}
theorem wr_bringsX {f : Operand} {as : Array Operand} {ts : Array TypeId} {fid : FuncId} {first captured : Array Value} {Post : Value → AHeap → Prop} (hf : ev P t f = .func (.func fid) first captured)
    (hp : pr fid (first.toList ++ evL P t as.toList ++ captured.toList) h = none) (hy : BringsX P R fid (first.toList ++ evL P t as.toList ++ captured.toList) h Post)
    (k : ∀ v h', Post v h' → putR P (withPrim pr (callVal P R)) ops n rest dst t v h' KR = true) :
    wrR P (withPrim pr (callVal P R)) ops n rest (.call ⟨.value f, as, ts⟩) dst t h KR = true := by
  simp only [wrR, awrite, wCall, hf, withPrim, hp, callVal]
  exact hy _ k
variable {f : Nat} {l : List Info} {i m done : Nat} {hist : List Seen} {ty : TypeId} {ps : String} {af : Array Edge} {g : Option (Nat × Bool)} {d : Tmp}
theorem drW_bringsX {fo : Operand} {xs : Array Operand} {ts : Array TypeId} {fid : FuncId} {first captured : Array Value} {Post : Value → AHeap → Prop} (hf : ev P t fo = .func (.func fid) first captured)
    (hp : pr fid (first.toList ++ evL P t xs.toList ++ captured.toList) h = none) (hy : BringsX P R fid (first.toList ++ evL P t xs.toList ++ captured.toList) h Post) (hd : d < n)
    (k : ∀ v h', Post v h' → again P h' m hist = true ∧ drawGo P (withPrim pr (callVal P R)) ops n 0 [] f l (Nat.lor done (Nat.pow 2 i)) hist (T.set (d + 1) t d v) h' KR = true) :
    drW (some true) P (withPrim pr (callVal P R)) ops n f l done i m ⟨some d, .call ⟨.value fo, xs, ts⟩, ty, ps, af, g⟩ hist t h KR = true := by
  have hb : Nat.blt d n = true := by rw [Nat.blt_eq]; exact hd
  simp only [drW, awrite, wCall, hf, withPrim, hp, callVal]
  refine hy _ fun v h' hP => ?_
  obtain ⟨k1, k2⟩ := k v h' hP
  simp only [k1, cond_true, putK, hb, fV1_eq, T.setK_eq]
  exact k2
end
theorem Fr.trans {H h h' : AHeap} {B : Nat} (a : Fr H B h) (b : Fr h B h') : Fr H B h' :=
  ⟨Nat.le_trans a.le b.le, fun k hk hn => (b.bl k (Nat.lt_of_lt_of_le hk a.le) hn).trans (a.bl k hk hn), fun k hk => (b.fam k (Nat.lt_of_lt_of_le hk a.le)).trans (a.fam k hk)⟩
theorem Kp.fr {h h' : AHeap} {B : Nat} (a : Kp h h') : Fr h B h' := Fr.refl.kp a
/-- What was set aside before the block that changes is kept. -/
theorem Fr.kpl {H h : AHeap} {B : Nat} (a : Fr H B h) (hB : H.nx ≤ B) : Kp H h := ⟨a.le, fun k hk => ⟨a.bl k hk (by omega), a.fam k hk⟩⟩
section
variable {H h : AHeap} {B : Nat}
theorem Fr.get (a : Fr H B h) {k : Nat} (hk : k < H.nx) (hn : k ≠ B) : h.bl.get k = H.bl.get k := a.bl k hk hn
end
end Go.Ev
