/- Code and calls. -/
import Derived.Test.YtlneoecgbbbahacGreatDoorEv14
import Derived.RangeFuncLeaves
namespace Go.Ev
open Go.RowKit

/-- What is owed for a region that draws its order. -/
def DrawSound (P : Program) : Prop :=
  ∀ (call : CallT), CallSound P call → ∀ (ops : Array Oper) (n : Nat) (t : T Value) (h : AHeap) (K : T Value → AHeap → Bool) (m : M) (w0 w : World) (a : Act) (rd : Option Nat) (nn : Nat) (Q : Exit → Act → World → Prop),
    WR P m w0 h w → TR m t n a.tmps → runRegion P call ops true n t h K = true →
    (∀ m' t' h' a' w', M.le m m' → TR m' t' n a'.tmps → WR P m' w0 h' w' → a'.defers = a.defers → K t' h' = true → Q .normal a' w') →
    ∀ tt, wpOpsIn (FW rd) nn P ops Q (Region.schedule (P.follows .mixedOrders) ops tt) a w

/-- The marks of loops over functions. -/
inductive DR (m : M) : List Nat → List Deferred → Prop
  | nil : DR m [] []
  | cons {d r x : Nat} {ds : List Nat} {dl : List Deferred} (hm : m d = some (r, x)) (ht : DR m ds dl) : DR m (d :: ds) ({ target := .collected r, args := #[] } :: dl)

theorem DR.mono {m m' : M} (h : M.le m m') : ∀ {ds : List Nat} {dl : List Deferred}, DR m ds dl → DR m' ds dl
  | _, _, .nil => .nil
  | _, _, .cons e k => .cons (h.1 _ _ e) (DR.mono h k)

/-- The round that a frame is of. -/
def RdR (m : M) : Option Nat → Option Nat → Prop
  | none, none => True
  | some l, some L => ∃ d, m l = some (L, d)
  | _, _ => False

theorem RdR.mono {m m' : M} (h : M.le m m') {a b : Option Nat} (k : RdR m a b) : RdR m' a b := by
  cases a <;> cases b <;> first | exact k | exact k.elim | skip
  obtain ⟨d, e⟩ := k
  exact ⟨d, h.1 _ _ e⟩

/-- A loop's round about to begin again. -/
def LoopWp (F : Fence) (nn : Nat) (P : Program) (c : Code) (Q : Exit → Act → World → Prop) (a : Act) (w : World) : Prop :=
  ∀ (b : Frame) (k : List Item) (cs : List Frame), b.roundOf = F.round → F.fn b.fn → F.room (cs.length + 1 + nn) →
    ∃ e a' w', Q e a' w' ∧ ArrivesIn (Machine.fenced P F) P (lone (b.atR a (.code c :: .inLoop c :: k)) cs w) b k cs e a' w'

section
variable {P : Program} {F : Fence} {nn : Nat} {Q : Exit → Act → World → Prop} {a : Act} {w : World}

theorem loopWp_step {c : Code} (h : c.wpIn F nn P (Exit.then (LoopWp F nn P c Q) Q) a w) : LoopWp F nn P c Q a w := by
  intro b k cs hro hb hr
  obtain ⟨e, a₁, w₁, hq, harr⟩ := h b (.inLoop c :: k) cs hro hb hr
  cases e with
  | normal =>
    obtain ⟨e₂, a₂, w₂, hq₂, harr₂⟩ := hq b k cs hro hb hr
    exact ⟨e₂, a₂, w₂, hq₂, .of_steps (StepsIn.trans harr (.one (fenced_calm hb hr rfl) stepR_inLoop)) harr₂⟩
  | exit id => exact ⟨_, a₁, w₁, hq, .pass (x := .inLoop c) rfl (fun _ _ => .inl (by simp)) harr⟩
  | goto l => exact ⟨_, a₁, w₁, hq, .pass (x := .inLoop c) rfl (fun _ _ => .inl (by simp)) harr⟩
  | ret => exact ⟨_, a₁, w₁, hq, .pass (x := .inLoop c) rfl (fun _ _ => .inl (by simp)) harr⟩
  | panic ch => exact ⟨_, a₁, w₁, hq, .pass (x := .inLoop c) rfl (fun _ _ => .inl (by simp)) harr⟩
  | outgrown => exact ⟨_, a₁, w₁, hq, .pass (x := .inLoop c) rfl (fun _ _ => .inl (by simp)) harr⟩

theorem wpIn_of_loopWp {c : Code} (h : LoopWp F nn P c Q a w) : (Code.loop c).wpIn F nn P Q a w := by
  intro b k cs hro hb hr
  obtain ⟨e, a', w', hq, harr⟩ := h b k cs hro hb hr
  exact ⟨e, a', w', hq, .of_steps (.one (fenced_calm hb hr rfl) stepR_loop) harr⟩

theorem stepR_scope {b : Frame} {k : List Item} {cs : List Frame} {c : Code} : step P (lone (b.atR a (.code (.scope c) :: k)) cs w) = .next (lone (b.atR a (.code c :: .inScope c :: k)) cs w) :=
  step_lone_go (by simp [stepG, stepG.exec, Frame.atR])
theorem stepR_inScope {b : Frame} {k : List Item} {cs : List Frame} {c : Code} : step P (lone (b.atR a (.inScope c :: k)) cs w) = .next (lone (b.atR a k) cs w) :=
  step_lone_go (by simp [stepG, stepG.exec, Frame.atR])

/-- No jump to a label. -/
def noGotoX (Q : Exit → Act → World → Prop) : Exit → Act → World → Prop
  | .goto _, _, _ => False
  | e, a, w => Q e a w

theorem wpIn_scope {c : Code} (h : c.wpIn F nn P (noGotoX Q) a w) : (Code.scope c).wpIn F nn P Q a w := by
  intro b k cs hro hb hr
  have h0 : (lone (b.atR a (.code (.scope c) :: k)) cs w).fenced P F := fenced_calm hb hr rfl
  obtain ⟨e, a₁, w₁, hq, harr⟩ := h b (.inScope c :: k) cs hro hb hr
  cases e with
  | normal => exact ⟨.normal, a₁, w₁, hq, .head h0 stepR_scope (StepsIn.trans harr (.one (fenced_calm hb hr rfl) stepR_inScope))⟩
  | exit id =>
    have hx : exitTo id (.inScope c :: k) = exitTo id k := by simp [exitTo]
    exact ⟨.exit id, a₁, w₁, hq, fun k' hk => .head h0 stepR_scope (harr.1 k' (by rw [hx]; exact hk)),
      fun hr' hk => let ⟨k₁, h1, h2⟩ := harr.2 hr' (by rw [hx]; exact hk); ⟨k₁, h1, .head h0 stepR_scope h2⟩⟩
  | goto l => exact hq.elim
  | ret => exact ⟨_, a₁, w₁, hq, .of_steps (.one h0 stepR_scope) harr⟩
  | panic ch => exact ⟨_, a₁, w₁, hq, .of_steps (.one h0 stepR_scope) harr⟩
  | outgrown => exact ⟨_, a₁, w₁, hq, .of_steps (.one h0 stepR_scope) harr⟩
end

end Go.Ev
