/- A run in parts: each part by a declaration of its own, from one written-out state to the next. -/
import Derived.Test.YtlneoecgbbbahacGreatDoorEv22
import Derived.Test.YtlneoecgbbbahacGreatDoorEv23
namespace Go.Ev
open Go.RowKit

/-! ## Equal states -/
def beqT {α : Type} (f : α → α → Bool) : T α → T α → Bool
  | .leaf, .leaf => true
  | .node l x r, .node l' x' r' =>
    beqT f l l' && ((match x, x' with | none, none => true | some a, some b => f a b | _, _ => false) && beqT f r r')
  | _, _ => false

theorem beqT_eq {α : Type} {f : α → α → Bool} (hf : ∀ a b, f a b = true → a = b) : ∀ (s t : T α), beqT f s t = true → s = t
  | .leaf, .leaf, _ => rfl
  | .leaf, .node _ _ _, e => by cases e
  | .node _ _ _, .leaf, e => by cases e
  | .node l x r, .node l' x' r', e => by
    simp only [beqT, Bool.and_eq_true] at e
    rw [beqT_eq hf l l' e.1, beqT_eq hf r r' e.2.2]
    have := e.2.1
    cases x <;> cases x' <;> first | rfl | cases this | skip
    rw [hf _ _ this]

def beqNL : List Nat → List Nat → Bool
  | [], [] => true
  | a :: l, b :: r => Nat.beq a b && beqNL l r
  | _, _ => false
theorem beqNL_eq : ∀ (a b : List Nat), beqNL a b = true → a = b
  | [], [], _ => rfl
  | [], _ :: _, e => by cases e
  | _ :: _, [], e => by cases e
  | a :: l, b :: r, e => by
    simp only [beqNL, Bool.and_eq_true] at e
    rw [Nat.eq_of_beq_eq_true e.1, beqNL_eq l r e.2]

def beqEL : List MapEntry → List MapEntry → Bool
  | [], [] => true
  | a :: l, b :: r => veq a.key b.key && (veq a.val b.val && (Nat.beq a.born b.born && beqEL l r))
  | _, _ => false
theorem beqEL_eq : ∀ (a b : List MapEntry), beqEL a b = true → a = b
  | [], [], _ => rfl
  | [], _ :: _, e => by cases e
  | _ :: _, [], e => by cases e
  | ⟨k, v, n⟩ :: l, ⟨k', v', n'⟩ :: r, e => by
    simp only [beqEL, Bool.and_eq_true] at e
    have h1 := veq_eq _ _ e.1
    have h2 := veq_eq _ _ e.2.1
    have h3 := Nat.eq_of_beq_eq_true e.2.2.1
    rw [h1, h2, h3, beqEL_eq l r e.2.2.2]

def beqO : AObj → AObj → Bool
  | .cells c f ro, .cells c' f' ro' => veqL c c' && (Nat.beq f f' && beqB ro ro')
  | .map es n, .map es' n' => beqEL es es' && Nat.beq n n'
  | .deferred b, .deferred b' => beqB b b'
  | .gone, .gone => true
  | .tab c, .tab c' => veqL c c'
  | _, _ => false
theorem beqO_eq (a b : AObj) (e : beqO a b = true) : a = b := by
  unfold beqO at e
  split at e
  · simp only [Bool.and_eq_true] at e
    rw [veqL_eq _ _ e.1, Nat.eq_of_beq_eq_true e.2.1, beqB_eq e.2.2]
  · simp only [Bool.and_eq_true] at e
    rw [beqEL_eq _ _ e.1, Nat.eq_of_beq_eq_true e.2]
  · rw [beqB_eq e]
  · rfl
  · rw [veqL_eq _ _ e]
  · cases e

/-- All that the first tree holds, the second holds. -/
def subT {α : Type} (f : α → α → Bool) : T α → T α → Bool
  | .leaf, _ => true
  | .node l x r, .node l' x' r' =>
    subT f l l' && ((match x, x' with | none, _ => true | some a, some b => f a b | _, _ => false) && subT f r r')
  | _, _ => false

theorem subT_get {α : Type} {f : α → α → Bool} (hf : ∀ a b, f a b = true → a = b) : ∀ (s t : T α), subT f s t = true → ∀ k a, s.get k = some a → t.get k = some a
  | .leaf, _, _, k, a, h => by simp [T.get] at h
  | .node _ _ _, .leaf, e, _, _, _ => by cases e
  | .node l x r, .node l' x' r', e, k, a, h => by
    simp only [subT, Bool.and_eq_true] at e
    cases k with
    | zero =>
      have := e.2.1
      simp only [T.get] at h ⊢
      subst h
      cases x' with
      | none => cases this
      | some b => rw [hf _ _ this]
    | succ k =>
      simp only [T.get] at h ⊢
      cases hb : Nat.beq (Nat.mod k 2) 0 with
      | true =>
        rw [hb, cond_true] at h
        rw [cond_true]
        exact subT_get hf l l' e.1 _ _ h
      | false =>
        rw [hb, cond_false] at h
        rw [cond_false]
        exact subT_get hf r r' e.2.2 _ _ h

/-- Of the same keys; the second one's values are the first one's, or stand for whatever value. -/
def isBadV : Value → Bool
  | .complex _ _ _ => true
  | _ => false

def relT : T Value → T Value → Bool
  | .leaf, .leaf => true
  | .node l x r, .node l' x' r' =>
    relT l l' && ((match x, x' with | none, none => true | some a, some b => bif isBadV b then true else veq a b | _, _ => false) && relT r r')
  | _, _ => false

theorem relT_get : ∀ (s t : T Value), relT s t = true → ∀ k, t.get k = s.get k ∨ ∃ b, t.get k = some b ∧ isBadV b = true
  | .leaf, .leaf, _, _ => .inl rfl
  | .leaf, .node _ _ _, e, _ => by cases e
  | .node _ _ _, .leaf, e, _ => by cases e
  | .node l x r, .node l' x' r', e, k => by
    simp only [relT, Bool.and_eq_true] at e
    cases k with
    | zero =>
      have := e.2.1
      simp only [T.get]
      cases x with
      | none => cases x' with | none => exact .inl rfl | some b => cases this
      | some a =>
        cases x' with
        | none => cases this
        | some b =>
          simp only at this
          cases hb : isBadV b with
          | true => exact .inr ⟨b, rfl, hb⟩
          | false =>
            rw [hb, cond_false] at this
            rw [veq_eq _ _ this]
            exact .inl rfl
    | succ k =>
      simp only [T.get]
      cases hb : Nat.beq (Nat.mod k 2) 0 with
      | true => simp only [cond_true]; exact relT_get l l' e.1 _
      | false => simp only [cond_false]; exact relT_get r r' e.2.2 _

theorem TR.rel {m : M} {t t1 : T Value} {n : Nat} {a : Array Value} (k : relT t t1 = true) (hT : TR m t n a) : TR m t1 n a := by
  refine ⟨hT.1, fun i => ?_⟩
  have h0 := hT.2 i
  unfold tget at h0 ⊢
  rcases relT_get t t1 k i with e | ⟨b, e, hb⟩
  · rw [e]; exact h0
  · rw [e]
    simp only
    cases b <;> first | exact .any _ _ _ _ | cases hb

def allT {α : Type} (f : α → Bool) : T α → Bool
  | .leaf => true
  | .node l x r => allT f l && ((match x with | none => true | some a => f a) && allT f r)

theorem allT_get {α : Type} {f : α → Bool} : ∀ (s : T α), allT f s = true → ∀ k a, s.get k = some a → f a = true
  | .leaf, _, k, a, h => by simp [T.get] at h
  | .node l x r, e, k, a, h => by
    simp only [allT, Bool.and_eq_true] at e
    cases k with
    | zero =>
      simp only [T.get] at h
      subst h
      exact e.2.1
    | succ k =>
      simp only [T.get] at h
      cases hb : Nat.beq (Nat.mod k 2) 0 with
      | true => rw [hb, cond_true] at h; exact allT_get l e.1 _ _ h
      | false => rw [hb, cond_false] at h; exact allT_get r e.2.2 _ _ h

def kinB (fams : T (List Nat)) : AObj → Bool
  | .cells (_ :: _) f false => (fams.get f).isSome
  | _ => true

/-- A heap of which less is known. -/
def subH (h1 h : AHeap) : Bool :=
  Nat.beq h1.nx h.nx && (subT beqO h1.bl h.bl && (subT beqNL h1.fams h.fams && allT (kinB h1.fams) h1.bl))

theorem WR.sub {P : Program} {m : M} {w0 w : World} {h h1 : AHeap} (hs : subH h1 h = true) (hW : WR P m w0 h w) : WR P m w0 h1 w := by
  simp only [subH, Bool.and_eq_true] at hs
  obtain ⟨s1, s2, s3, s4⟩ := hs
  have hn := Nat.eq_of_beq_eq_true s1
  have hb := subT_get beqO_eq _ _ s2
  have hf := subT_get beqNL_eq _ _ s3
  have hk := allT_get _ s4
  exact {
    obj := fun b o e => hW.obj b o (hb b o e)
    fresh := fun b hnb => by
      rw [hn] at hnb
      obtain ⟨k1, k2⟩ := hW.fresh b hnb
      refine ⟨k1, ?_⟩
      cases e : h1.bl.get b with
      | none => rfl
      | some o => rw [hb b o e] at k2; cases k2
    spn := fun b hnb => hW.spn b (by rw [← hn]; exact hnb)
    spf := fun b c f ro e => hW.spf b c f ro (hb b _ e)
    spr := fun b B d z E e1 e2 => ⟨(hW.spr b B d z E e1 e2).1, fun v hv => (hW.spr b B d z E e1 e2).2 v (hf b v hv)⟩
    dom := hW.dom
    apart := fun b₁ b₂ o₁ o₂ B d₁ d₂ e1 e2 => hW.apart b₁ b₂ o₁ o₂ B d₁ d₂ (hb _ _ e1) (hb _ _ e2)
    kin := fun b c f e hc => by
      have := hk b _ e
      cases c with
      | nil => exact absurd rfl hc
      | cons v l =>
        simp only [kinB] at this
        obtain ⟨fl, hfl⟩ := Option.isSome_iff_exists.1 this
        obtain ⟨fl2, g1, g2⟩ := hW.kin b _ f (hb b _ e) hc
        rw [hf f fl hfl] at g1
        cases g1
        exact ⟨fl, hfl, g2⟩
    fam := fun b c f ro e => by rw [hn]; exact hW.fam b c f ro (hb b _ e)
    below := hW.below
    glob := hW.glob }

/-- The state to be come to, by no jump: less may be known of it. -/
def Chk (t1 : T Value) (h1 : AHeap) (ds1 : List Nat) : KT := fun e t h ds =>
  match e with
  | .normal => relT t t1 && (subH h1 h && beqNL ds ds1)
  | _ => false

theorem Chk_eq {t1 : T Value} {h1 : AHeap} {ds1 : List Nat} {e : Exit} {t : T Value} {h : AHeap} {ds : List Nat} (k : Chk t1 h1 ds1 e t h ds = true) : e = .normal ∧ relT t t1 = true ∧ subH h1 h = true ∧ ds = ds1 := by
  unfold Chk at k
  split at k
  · simp only [Bool.and_eq_true] at k
    exact ⟨rfl, k.1, k.2.1, beqNL_eq _ _ k.2.2⟩
  · cases k

/-! ## What is said of a run that begins in one state -/
def SoundAt (P : Program) (n : Nat) (rd : Option Nat) (c : Code) (t : T Value) (h : AHeap) (ds : List Nat) (K : KT) : Prop :=
  ∀ (m : M) (w0 w : World) (a : Act) (rdc : Option Nat) (nn : Nat) (Q : Exit → Act → World → Prop),
    WR P m w0 h w → TR m t n a.tmps → DR m ds a.defers → RdR m rd rdc →
    (∀ e m' t' h' ds' a' w', M.le m m' → WR P m' w0 h' w' → TR m' t' n a'.tmps → DR m' ds' a'.defers → K e t' h' ds' = true → Q e a' w') →
    c.wpIn (FW rdc) nn P Q a w ∧ (∀ b, c = .loop b → LoopWp (FW rdc) nn P b Q a w)

section
variable {P : Program} {n : Nat} {rd : Option Nat} {t t1 : T Value} {h h1 : AHeap} {ds ds1 : List Nat} {K : KT}

theorem at_run (hmix : P.follows .mixedOrders = true) {fuel : Nat} {c : Code} (e : (execW P fuel).run n rd c t h ds K = true) : SoundAt P n rd c t h ds K := by
  rw [execW_eq] at e
  exact exec_sound (drawSound hmix) fuel n rd c t h ds K e

theorem at_seq {a b : Code} (ha : SoundAt P n rd a t h ds (Chk t1 h1 ds1)) (hb : SoundAt P n rd b t1 h1 ds1 K) : SoundAt P n rd (.seq a b) t h ds K := by
  intro m w0 w ac rdc nn Q hW hT hD hrd hQ
  refine ⟨wpIn_seq ?_, fun b hb => by cases hb⟩
  refine (ha m w0 w ac rdc nn _ hW hT hD hrd ?_).1
  intro e' m' t' h' ds' a' w' hle hW' hT' hD' hK
  obtain ⟨rfl, c1, c2, rfl⟩ := Chk_eq hK
  exact (hb m' w0 w' a' rdc nn Q (hW'.sub c2) (hT'.rel c1) hD' (hrd.mono hle) fun e2 m2 t2 h2 ds2 a2 w2 hle2 => hQ e2 m2 t2 h2 ds2 a2 w2 (M.le_trans hle hle2)).1

theorem at_loop {b : Code} (hb : SoundAt P n rd b t h ds (Chk t1 h1 ds1)) (hl : SoundAt P n rd (.loop b) t1 h1 ds1 K) : SoundAt P n rd (.loop b) t h ds K := by
  intro m w0 w ac rdc nn Q hW hT hD hrd hQ
  have hloop : LoopWp (FW rdc) nn P b Q ac w := by
    refine loopWp_step ?_
    refine (hb m w0 w ac rdc nn _ hW hT hD hrd ?_).1
    intro e' m' t' h' ds' a' w' hle hW' hT' hD' hK
    obtain ⟨rfl, c1, c2, rfl⟩ := Chk_eq hK
    exact (hl m' w0 w' a' rdc nn Q (hW'.sub c2) (hT'.rel c1) hD' (hrd.mono hle) fun e2 m2 t2 h2 ds2 a2 w2 hle2 => hQ e2 m2 t2 h2 ds2 a2 w2 (M.le_trans hle hle2)).2 b rfl
  exact ⟨wpIn_of_loopWp hloop, fun b' hb => by cases hb; exact hloop⟩

/-- The k-th of a row of statements; what is left behind k of them. -/
def nthC : Nat → Code → Code
  | 0, .seq a _ => a
  | Nat.succ k, .seq _ b => nthC k b
  | _, c => c
def restC : Nat → Code → Code
  | 0, c => c
  | Nat.succ k, .seq _ b => restC k b
  | Nat.succ _, c => c
def isSeq : Nat → Code → Bool
  | 0, .seq _ _ => true
  | Nat.succ k, .seq _ b => isSeq k b
  | _, _ => false

theorem rest_nth : ∀ (k : Nat) (c : Code), isSeq k c = true → restC k c = .seq (nthC k c) (restC (k + 1) c)
  | 0, c, e => by cases c <;> first | rfl | cases e
  | k + 1, c, e => by
    cases c <;> first | exact rest_nth k _ e | cases e

theorem at_nth {k : Nat} {c : Code} (hc : isSeq k c = true) (ha : SoundAt P n rd (nthC k c) t h ds (Chk t1 h1 ds1)) (hb : SoundAt P n rd (restC (k + 1) c) t1 h1 ds1 K) : SoundAt P n rd (restC k c) t h ds K := by
  rw [rest_nth k c hc]
  exact at_seq ha hb

/-- Behind a block. -/
def BlockK (id : Nat) (K : KT) : KT := fun e t h ds =>
  match e with
  | .exit id' => bif Nat.beq id' id then K .normal t h ds else K (.exit id') t h ds
  | e => K e t h ds

theorem at_block {id : Nat} {b : Code} (hb : SoundAt P n rd b t h ds (BlockK id K)) : SoundAt P n rd (.block id b) t h ds K := by
  intro m w0 w ac rdc nn Q hW hT hD hrd hQ
  refine ⟨wpIn_block ?_, fun b hb => by cases hb⟩
  refine (hb m w0 w ac rdc nn _ hW hT hD hrd ?_).1
  intro e' m' t' h' ds' a' w' hle hW' hT' hD' hK
  cases e' with
  | exit id' =>
    simp only [BlockK] at hK
    simp only [Exit.inBlock]
    cases hid : Nat.beq id' id with
    | true =>
      rw [hid, cond_true] at hK
      rw [if_pos (Nat.eq_of_beq_eq_true hid)]
      exact hQ _ m' t' h' ds' a' w' hle hW' hT' hD' hK
    | false =>
      rw [hid, cond_false] at hK
      rw [if_neg (Nat.ne_of_beq_eq_false hid)]
      exact hQ _ m' t' h' ds' a' w' hle hW' hT' hD' hK
  | normal => exact hQ _ m' t' h' ds' a' w' hle hW' hT' hD' hK
  | goto l => exact hQ _ m' t' h' ds' a' w' hle hW' hT' hD' hK
  | ret => exact hQ _ m' t' h' ds' a' w' hle hW' hT' hD' hK
  | panic ch => exact hQ _ m' t' h' ds' a' w' hle hW' hT' hD' hK
  | outgrown => exact hQ _ m' t' h' ds' a' w' hle hW' hT' hD' hK

theorem at_true {x : Operand} {a b : Code} (hx : ev P t x = .bool true) (ha : SoundAt P n rd a t h ds K) : SoundAt P n rd (.cond x a b) t h ds K := by
  intro m w0 w ac rdc nn Q hW hT hD hrd hQ
  have hr := ev_rel (P := P) hT hW.glob x
  rw [hx] at hr
  generalize hx' : ac.eval x = x' at hr
  cases hr
  exact ⟨wpIn_cond_true hx' (ha m w0 w ac rdc nn Q hW hT hD hrd hQ).1, fun b hb => by cases hb⟩

theorem at_false {x : Operand} {a b : Code} (hx : ev P t x = .bool false) (hb : SoundAt P n rd b t h ds K) : SoundAt P n rd (.cond x a b) t h ds K := by
  intro m w0 w ac rdc nn Q hW hT hD hrd hQ
  have hr := ev_rel (P := P) hT hW.glob x
  rw [hx] at hr
  generalize hx' : ac.eval x = x' at hr
  cases hr
  exact ⟨wpIn_cond_false hx' (hb m w0 w ac rdc nn Q hW hT hD hrd hQ).1, fun b hb => by cases hb⟩
end

/-! ## A law without arguments, in parts -/
noncomputable def exA (P : Program) : ExT := fun n rd c t h ds K => @decide (SoundAt P n rd c t h ds K) (Classical.propDecidable _)

theorem exA_sound (P : Program) : Sound P (exA P) := fun n rd c t h ds K e => @of_decide_eq_true (SoundAt P n rd c t h ds K) (Classical.propDecidable _) e

def Kt : KV := fun v _ => match v with | .bool b => b | _ => false

theorem truly_parts {P : Program} {f : FuncId} {fn : Func} {c : Code} (hf : P.funcs[f]? = some fn) (hb : fn.body = some c) (hname : (fn.name == "runtime.NumGoroutine") = false)
    (s : SoundAt P fn.ntmps none c .leaf ⟨.leaf, P.globals.size, .leaf⟩ [] (finish P fn Kt)) {w : World} (hw : P.globals.size ≤ w.heap.size) :
    Calls P f #[] w fun e w' => e = .returned (.bool true) ∧ Below w.heap.size w w' := by
  have e : callBody (exA P) P fn c [] ⟨.leaf, P.globals.size, .leaf⟩ Kt = true := by
    unfold callBody
    rw [hname, cond_false]
    have : Nat.ble ([] : List Value).length fn.ntmps = true := Nat.ble_eq_true_of_le (Nat.zero_le _)
    rw [this, cond_true]
    exact @decide_eq_true _ (Classical.propDecidable _) s
  obtain ⟨_, k⟩ := callBody_sound (rd := none) (nn := 0) (exA_sound P) hf hb (wr_start hw) (.nil) e (R := fun v' w' => v' = .bool true ∧ Below w.heap.size w w') (fun m' v v' h' w' hle hv hW hK => by
    cases v with
    | bool b =>
      cases hv
      simp only [Kt] at hK
      subst hK
      exact ⟨rfl, hW.below⟩
    | _ => simp [Kt] at hK)
  have k2 : CallsIn Fence.wide 0 P f #[] w _ := k
  refine (callsIn_wide.1 k2).mono fun e w' he => ?_
  cases e with
  | returned v => exact ⟨by rw [he.1], he.2⟩
  | panicked _ => exact he.elim
  | outgrown => exact he.elim

end Go.Ev
