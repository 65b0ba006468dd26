/- Calls that read a slice: contracts at every world. -/
import Derived.Test.YtlneoecgbbbahacGreatDoorEv27
import Derived.Orders
namespace Go.Ev
open Go.RowKit

section
variable {P : Program} {m : M} {w0 w : World} {h : AHeap} {t t' : T Value}

theorem evL_congr : ∀ (l : List Operand), (∀ x ∈ l, ev P t x = ev P t' x) → evL P t l = evL P t' l
  | [], _ => rfl
  | x :: l, k => by simp only [evL, k x (by simp), evL_congr l fun y hy => k y (by simp [hy])]

/-- What the model's own text makes of an operation hangs on its operands alone. -/
theorem ground_congr {o : Oper} (hs : ∀ cs b, o.op ≠ .select cs b) (k : ∀ x ∈ o.op.operands, ev P t x = ev P t' x) : ground P t o = ground P t' o := by
  unfold ground
  rw [evL_congr _ (fun x hx => k x (by simpa using hx)), execOp_congr o hs k]

/-- The maximum, the minimum of two integers. -/
theorem call2_congr {b : Builtin} {i j : Nat} {u v r : Value} {a c : TypeId} {dst : Option Tmp} {ty : TypeId} {pos : String} {af : Array Edge} {g : Option (Nat × Bool)} (h1 : tget t i = u) (h2 : tget t j = v) (h3 : tget t' i = u) (h4 : tget t' j = v)
    (hr : ground P t' ⟨dst, .call ⟨.builtin b, #[.tmp i, .tmp j], #[a, c]⟩, ty, pos, af, g⟩ = some r) : ground P t ⟨dst, .call ⟨.builtin b, #[.tmp i, .tmp j], #[a, c]⟩, ty, pos, af, g⟩ = some r := by
  rw [← hr]
  refine ground_congr (fun cs b e => by cases e) fun x hx => ?_
  simp only [Op.operands, Call.operands] at hx
  have : x = .tmp i ∨ x = .tmp j := by simpa using hx
  rcases this with rfl | rfl
  · simp only [ev, h1, h3]
  · simp only [ev, h2, h4]
theorem rd_max {x y : Operand} {a c : TypeId} {dst : Option Tmp} {ty : TypeId} {pos : String} {af : Array Edge} {g : Option (Nat × Bool)} : aread P t h ⟨dst, .call ⟨.builtin .max, #[x, y], #[a, c]⟩, ty, pos, af, g⟩ = ground P t ⟨dst, .call ⟨.builtin .max, #[x, y], #[a, c]⟩, ty, pos, af, g⟩ := (rfl)
theorem rd_min {x y : Operand} {a c : TypeId} {dst : Option Tmp} {ty : TypeId} {pos : String} {af : Array Edge} {g : Option (Nat × Bool)} : aread P t h ⟨dst, .call ⟨.builtin .min, #[x, y], #[a, c]⟩, ty, pos, af, g⟩ = ground P t ⟨dst, .call ⟨.builtin .min, #[x, y], #[a, c]⟩, ty, pos, af, g⟩ := (rfl)
theorem w_max {as : Array Operand} {ts : Array TypeId} : isW P (.call ⟨.builtin .max, as, ts⟩) = false := (rfl)
theorem w_min {as : Array Operand} {ts : Array TypeId} : isW P (.call ⟨.builtin .min, as, ts⟩) = false := (rfl)
theorem indexAddr_sl0 {a : TypeId} {B off len cap sz : Nat} {e : TypeId} {kd : IntKind} (h1 : slOf P a = some e) (h2 : sizeB P e = some sz) (h3 : 0 < len) : rIndexAddr P a (.slice (some ⟨B, off, none⟩) len cap) (.int kd 0) = some (.pointer (some ⟨B, off, none⟩)) := by
  have := indexAddr_sl (P := P) (B := B) (off := off) (cap := cap) (kd := kd) h1 h2 h3
  rw [Nat.zero_mul, Nat.add_zero] at this
  exact this

/-! ## A heap of which one row is known, and is only read -/
def oneRo (b : Nat) (cs : List Value) (fam nx : Nat) : AHeap := ⟨T.set (b + 1) .leaf b (.cells cs fam true), nx, .leaf⟩

theorem wr_oneRo (hW : WR P m w0 h w) {b : Nat} {cs : List Value} {fam : Nat} {ro : Bool} (hg : h.bl.get b = some (.cells cs fam ro)) : WR P m w (oneRo b cs fam h.nx) w where
  obj := fun b' o e => by
    simp only [oneRo, T.get_set _ _ _ _ _ (Nat.lt_succ_self b)] at e
    split at e
    · rename_i hb
      subst hb
      cases e
      obtain ⟨B, d, k1, k2, _⟩ := hW.obj _ _ hg
      have hor : OR m w B d (.cells cs fam true) := by
        intro i v hi
        obtain ⟨v', q1, q2, q3, _⟩ := k2 i v hi
        exact ⟨v', q1, q2, q3, fun hr => by cases hr⟩
      exact ⟨B, d, k1, hor, (fun hr => by cases hr), fun _ => hW.dom _ _ _ k1⟩
    · rw [T.get_leaf] at e; cases e
  fresh := fun b' hb' => by
    refine ⟨(hW.fresh b' hb').1, ?_⟩
    simp only [oneRo, T.get_set _ _ _ _ _ (Nat.lt_succ_self b)]
    split
    · rename_i hb
      subst hb
      have := (hW.fresh b' hb').2
      rw [hg] at this; cases this
    · exact T.get_leaf _
  spn := fun b' hb' => hW.spn b' hb'
  spf := fun b' c f r e => by
    simp only [oneRo, T.get_set _ _ _ _ _ (Nat.lt_succ_self b)] at e
    split at e
    · cases e; exact hW.spf _ _ _ _ hg
    · rw [T.get_leaf] at e; cases e
  spr := fun b' B d z E e1 e2 => ⟨(hW.spr b' B d z E e1 e2).1, fun v hv => by simp [oneRo, T.get_leaf] at hv⟩
  dom := hW.dom
  apart := fun b₁ b₂ o₁ o₂ B d₁ d₂ e1 e2 _ _ hne => by
    simp only [oneRo, T.get_set _ _ _ _ _ (Nat.lt_succ_self b)] at e1 e2
    split at e1 <;> split at e2
    · rename_i h1 h2; exact absurd (h1.trans h2.symm) hne
    · rw [T.get_leaf] at e2; cases e2
    · rw [T.get_leaf] at e1; cases e1
    · rw [T.get_leaf] at e1; cases e1
  kin := fun b' c f e _ => by
    simp only [oneRo, T.get_set _ _ _ _ _ (Nat.lt_succ_self b)] at e
    split at e
    · cases e
    · rw [T.get_leaf] at e; cases e
  fam := fun b' c f r e => by
    simp only [oneRo, T.get_set _ _ _ _ _ (Nat.lt_succ_self b)] at e
    split at e
    · cases e; exact hW.fam _ _ _ _ hg
    · rw [T.get_leaf] at e; cases e
  below := Below.refl _ _
  glob := hW.glob

theorem wr_noRo (hW : WR P m w0 h w) : WR P m w ⟨.leaf, h.nx, .leaf⟩ w where
  obj := fun b' o e => by simp [T.get_leaf] at e
  fresh := fun b' hb' => ⟨(hW.fresh b' hb').1, T.get_leaf _⟩
  spn := fun b' hb' => hW.spn b' hb'
  spf := fun b' c f r e => by simp [T.get_leaf] at e
  spr := fun b' B d z E e1 e2 => ⟨(hW.spr b' B d z E e1 e2).1, fun v hv => by simp [T.get_leaf] at hv⟩
  dom := hW.dom
  apart := fun b₁ b₂ o₁ o₂ B d₁ d₂ e1 => by simp [T.get_leaf] at e1
  kin := fun b' c f e _ => by simp [T.get_leaf] at e
  fam := fun b' c f r e => by simp [T.get_leaf] at e
  below := Below.refl _ _
  glob := hW.glob

theorem calls_wr {f : FuncId} {fn : Func} {c : Code} (hf : P.funcs[f]? = some fn) (hb : fn.body = some c) (hname : (fn.name == "runtime.NumGoroutine") = false) (hW : WR P m w h w) {args args' : List Value} (hl : LR m args args')
    (hlen : Nat.ble args.length fn.ntmps = true) {v : Value} (hplain : plainB v = true)
    (e : exA P fn.ntmps none c (argsT args) h [] (finish P fn fun u _ => @decide (u = v) (Classical.propDecidable _)) = true) :
    Calls P f args'.toArray w fun e w' => e = .returned v ∧ Below w.heap.size w w' := by
  have e2 : callBody (exA P) P fn c args h (fun u _ => @decide (u = v) (Classical.propDecidable _)) = true := by
    unfold callBody
    rw [hname, cond_false, hlen, cond_true, setArgs_id]
    exact e
  obtain ⟨_, k⟩ := callBody_sound (rd := none) (nn := 0) (exA_sound P) hf hb hW hl e2 (R := fun v' w' => v' = v ∧ Below w.heap.size w w') (fun m' u v' h' w' hle hv hW' hK => by
    have hP := @of_decide_eq_true _ (Classical.propDecidable _) hK
    subst hP
    exact ⟨(plain_eq _ _ hplain hv).symm, hW'.below⟩)
  have k2 : CallsIn Fence.wide 0 P f args'.toArray w _ := k
  refine (callsIn_wide.1 k2).mono fun e w' he => ?_
  cases e with
  | returned u => exact ⟨by rw [he.1], he.2⟩
  | panicked _ => exact he.elim
  | outgrown => exact he.elim

/-- A list of integers. -/
def intsV : List Value → Option (List Int)
  | [] => some []
  | .int .i64 i :: l => (match intsV l with | some r => some (i :: r) | none => none)
  | _ => none
theorem intsV_eq : ∀ (vs : List Value) (l : List Int), intsV vs = some l → vs = l.map (.int .i64)
  | [], l, e => by simp only [intsV, Option.some.injEq] at e; subst e; rfl
  | v :: vs, l, e => by
    unfold intsV at e
    split at e
    · rename_i h; cases h
    · rename_i i r h
      cases h
      split at e
      · rename_i r hr
        cases e
        rw [intsV_eq vs r hr]; rfl
      · cases e
    · cases e
/-- A list of strings. -/
def strs : List Value → Option (List ByteArray)
  | [] => some []
  | .string s :: l => (match strs l with | some r => some (s :: r) | none => none)
  | _ => none
theorem strs_eq : ∀ (vs : List Value) (l : List ByteArray), strs vs = some l → vs = l.map .string
  | [], l, e => by simp only [strs, Option.some.injEq] at e; subst e; rfl
  | v :: vs, l, e => by
    unfold strs at e
    split at e
    · rename_i h; cases h
    · rename_i i r h
      cases h
      split at e
      · rename_i r hr
        cases e
        rw [strs_eq vs r hr]; rfl
      · cases e
    · cases e
theorem part_get {cs : List Value} {off n : Nat} {l : List Value} (e : (cs.drop off).take n = l) (k : Nat) (v : Value) (hk : l[k]? = some v) : cs[off + k]? = some v := by
  subst e
  rw [List.getElem?_take] at hk
  split at hk
  · rwa [List.getElem?_drop] at hk
  · cases hk
end
end Go.Ev
