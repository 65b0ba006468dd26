import Derived.Test.YthgmipngikdknaaGreatRows
import Derived.LaidLaws
import Derived.Test.YthgmipngikdknaaGreatEvC
import Derived.WalkKit
import Derived.ProofKit
import Derived.OpenShut
import Derived.Deep.DeepHandedRow
/- What every row of this seat shares: a world for the witness, whose listed tables hold what their initialisers lay; a row's post, out of what lies below a block. -/
namespace Go.Proofs.YthgmipngikdknaaGreat
open Go.ChangeShapes Go.WideShapes Go.ChangeAt Go.RowKit

theorem own:ownKnob Tryz.prog.godebug = none:=by kernel_rfl
theorem four:Tryz.prog.globals.size = 0:=by kernel_rfl

def fill (c:Array Value):Obj → Obj
 | .cells _ t frozen=>.cells c t frozen
 | o=>o
noncomputable def laidWorld (os:Os):World:=
 { World.holding Tryz.prog os ⟨#[],#[],[]⟩ with heap:=(World.holding Tryz.prog os ⟨#[],#[],[]⟩).heap }

/-- The variables are there. -/
theorem globalsIn {W:World} (h:W.ShapedOpen Tryz.prog):Tryz.prog.globals.size ≤ W.heap.size:=by
 rw [four]
 have _:=h
 exact Nat.zero_le _

/-- The post of a row whose call writes nothing that was there. -/
theorem post_below {H:Type} {enc:TypeId × Value → H} {P:Program} {f:Func} {s:ChangeSpec} {ap fr hn ag:Bool} {W W':World} {args:Array Value} {v:Value} {ds gs:List (DataW H)} {bef pa pv:List MemPlace}
  (hW:DataW.Whole enc P f.params.toList s.vars ap W args.toList ds gs bef)
  (hres:∀ (b:Nat) (sp:Nat → Bool) (hd:Bool),DataW.TrodAll enc P W' b sp hd f.resultTypes.toList (v.resultList f.resultTypes.size) (s.fn H (ds ++ gs)).results [])
  (hargs:∀ sp:Nat → Bool,(∀ p ∈ bef,sp p.block = true) → DataW.TrodAll enc P W' 0 sp true f.params.toList args.toList (s.fn H (ds ++ gs)).args pa)
  (hvars:∀ sp:Nat → Bool,(∀ p ∈ bef,sp p.block = true) → DataW.TrodVars enc P W' sp s.vars (s.fn H (ds ++ gs)).vars pv)
  (hps:bef = pa ++ pv) (hB:Below W.heap.size W W')
  (hok:∀ (j:Nat) (t:TypeId) (r:Value),f.resultTypes[j]? = some t → (v.resultList f.resultTypes.size)[j]? = some r → Value.okWide P W' .any 0 t r) :
  s.post enc P f ap fr hn ag W args v W':=by
 subst hps
 have hlt:=hW.lt
 have hW2:=hW
 obtain ⟨_,_,_,_,_,hz,hn2⟩:=hW2
 refine ⟨ds,gs,pa ++ pv,[],pa,pv,hW,hres _ _ _,hargs _ fun p hp=>?_,hvars _ fun p hp=>?_,hB.frame _,fun _=>⟨hok,_,_,([] ++ pa) ++ pv,⟨[] ++ pa,pv,trodAll_append (hargs _ fun _ _=>rfl) (hres _ _ _),hvars _ fun _ _=>rfl,rfl,fun b off hp=>?_,fun ha=>?_⟩,fun p hp _=>?_⟩⟩
 ·exact decide_eq_true (hlt p hp)
 ·exact decide_eq_true (hlt p hp)
 ·rw [List.nil_append] at hp
  rw [hB.frozen (hlt _ hp)]
  exact hz b off hp
 ·rw [List.nil_append]
  exact hn2 ha
 ·rw [List.nil_append] at hp
  exact hp

end Go.Proofs.YthgmipngikdknaaGreat
