import Derived.Test.YthgmipngikdknaaGreatChecked
import Derived.Test.YthgmipngikdknaaGreatEvE
import Derived.IntWalk
/- Slices of integers in the layer post; what is owed of the table. -/
namespace Go.Proofs.Po
open Nat (reduceEqDiff reduceAdd reduceSub)
open Go Go.Ev
set_option linter.unusedSimpArgs false

theorem hmixT:Tryz.prog.follows .mixedOrders = true:=Tryz.checked.mixed
theorem s3:bH Tryz.prog 3 = some (0 + 1):=by kernel_rfl
theorem s3':bH Tryz.prog 3 = some 1:=by kernel_rfl
theorem p3 (c:List Value) (o:Nat):dD Tryz.prog 3 c o = c[o]?:=by kernel_rfl
theorem z3:zeroOf Tryz.prog 3 = some (iv 0):=by kernel_rfl
noncomputable def inf3:TypeInfo:=(Tryz.prog.info? 3).getD default
theorem info3:Tryz.prog.info? 3 = some inf3:=by kernel_rfl
theorem info3b:Nat.blt inf3.bytes bigNat = true:=by kernel_rfl
theorem info3s:inf3.size = 1:=by kernel_rfl
theorem isI:jW Tryz.prog 35 = true:=by kernel_rfl
theorem slI:fE Tryz.prog 35 = some 3:=by kernel_rfl
theorem uI:Tryz.prog.underlying 35 = some (.slice 3):=by kernel_rfl
theorem nI:eY Tryz.prog 3 1 = true:=by kernel_rfl
theorem lI:bH Tryz.prog 35 = some (0 + 1):=by kernel_rfl
theorem lI':bH Tryz.prog 35 = some 1:=by kernel_rfl
theorem qI (c:List Value) (o:Nat):dD Tryz.prog 35 c o = c[o]?:=by kernel_rfl
abbrev bG (B:Nat):Value:=.pointer (some ⟨B,0,none⟩)
theorem o5 {h:AHeap} {v:Value} {l:List Int} (k:IAt h v l) (t:T Value) (h1:AHeap) (o:Oper):qJ Tryz.prog t h1 o 35 v = some (iv (l.length:Int)):=k.len isI t h1 o
/-! ## What is owed of the table -/
def offB (g:FuncId):Bool:=!(Nat.beq g 11)
def Off (pr:Prim):Prop:=∀ g l h,offB g = true → pr g l h = none
structure Tab (pr:Prim):Prop where
 off:Off pr
 awake:∀ h,pr 11 [] h = some (.bool true)
def inB (i lo hi:Int):Bool:=decide (lo ≤ i) && decide (i ≤ hi)
theorem uX {i lo hi:Int}:inB i lo hi = true ↔ lo ≤ i ∧ i ≤ hi:=by
 unfold inB; rw [Bool.and_eq_true,decide_eq_true_eq,decide_eq_true_eq]
/-- A slice of integers at a block from lo on. -/
def INew (lo:Nat) (h:AHeap) (v:Value) (l:List Int):Prop:=∃ b f,v = .slice (some ⟨b,0,none⟩) l.length l.length ∧ lo ≤ b ∧ b < h.nx ∧ h.bl.get b = some (.cells (l.map iv) f false)
theorem flat1 (l:List Int):(l.map fun n=>[iv n]).flatten = l.map iv:=by
 induction l with
 | nil=>rfl
 | cons a l ih=>simp only [List.map_cons,List.flatten_cons,List.singleton_append]; rw [ih]
/-- A slice as it came in. -/
def IS (h:AHeap) (v:Value) (l:List Int):Prop:=SlAt h 1 v (l.map fun n=>[iv n])
theorem IS.at {h:AHeap} {v:Value} {l:List Int} (k:IS h v l):IAt h v l:=SlAt.ints k
theorem IS.mono {h h':AHeap} {v:Value} {l:List Int} (k:IS h v l) (a:Kp h h'):IS h' v l:=SlAt.mono k a
variable {pr:Prim} {R:ExT}
set_option maxHeartbeats 4000000 in
theorem in_y (S:Ev.Steps Tryz.prog pr R) (h0:AHeap) (i lo hi:Int):bD Tryz.prog R 60 [.int .i64 i,.int .i64 lo,.int .i64 hi] h0 fun v h=>v = .bool (inB i lo hi) ∧ h = h0:=by
 refine aV (fn:=Tryz.f60) (c:=(Tryz.f60.body).getD .skip) (by kernel_rfl) rfl (by kernel_rfl) rfl (fun K hK=>?_)
 generalize hF:finish Tryz.prog Tryz.f60 K = KF
 simp only [Tryz.f60,Option.getD_some,bJ,aX,aZ,T.setK_eq,id]
 repeat refine S.seq ?_
 refine S.region ?_
 simp (disch:=first|omega|(simp only [nZ]<;>omega)|decide) only [rUz,↓reduceIte,reduceEqDiff,reduceAdd]
 unfold inB at hK
 by_cases h1:lo ≤ i
 ·have hd:decide (lo ≤ i) = true:=decide_eq_true h1
  rw [hd,Bool.true_and] at hK
  repeat refine S.seq ?_
  refine S.region ?_
  simp (disch:=first|omega|(simp only [nZ]<;>omega)|decide) only [rUz,↓reduceIte,reduceEqDiff,reduceAdd,hd]
  refine S.ret ?_
  try simp only [aJ,aF]
  subst hF
  simp only [finish,aI]
  rw [show Tryz.f60.results.toList = [.tmp 6] from rfl]
  simp (disch:=first|omega|(simp only [nZ]<;>omega)|decide) only [bK,aY,aS,aT,aQ,aU,aO,upd_ne,aP,aW,result1]
  exact hK _ _ Kp.refl ⟨rfl,rfl⟩
 ·have hd:decide (lo ≤ i) = false:=decide_eq_false h1
  rw [hd,Bool.false_and] at hK
  repeat refine S.seq ?_
  refine S.region ?_
  simp (disch:=first|omega|(simp only [nZ]<;>omega)|decide) only [rUz,↓reduceIte,reduceEqDiff,reduceAdd,hd]
  refine S.ret ?_
  try simp only [aJ,aF]
  subst hF
  simp only [finish,aI]
  rw [show Tryz.f60.results.toList = [.tmp 6] from rfl]
  simp (disch:=first|omega|(simp only [nZ]<;>omega)|decide) only [bK,aY,aS,aT,aQ,aU,aO,upd_ne,aP,aW,result1]
  exact hK _ _ Kp.refl ⟨rfl,rfl⟩
end Go.Proofs.Po
