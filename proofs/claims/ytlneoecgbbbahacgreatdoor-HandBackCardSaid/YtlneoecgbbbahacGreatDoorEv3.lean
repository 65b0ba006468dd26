/- The relation between the evaluator's state and the world. -/
import Derived.Test.YtlneoecgbbbahacGreatDoorEv2
import Derived.Below
import Derived.Tactics
namespace Go.Ev
open Go.RowKit

/-! ## The tree -/
def T.set {α : Type} (f : Nat) (t : T α) (k : Nat) (v : α) : T α := T.setK f t k v id

theorem T.setK_eq {α : Type} (f : Nat) : ∀ (β : Type) (t : T α) (k : Nat) (v : α) (K : T α → β), T.setK f t k v K = K (T.set f t k v) := by
  induction f with
  | zero => intro β t k v K; rfl
  | succ f ih =>
    intro β t k v K
    cases k with
    | zero => cases t <;> rfl
    | succ k =>
      cases t with
      | leaf =>
        simp only [T.set, T.setK]
        cases h : Nat.beq (Nat.mod k 2) 0 <;> simp only [cond_true, cond_false] <;> rw [ih, ih (T α)] <;> rfl
      | node l x r =>
        simp only [T.set, T.setK]
        cases h : Nat.beq (Nat.mod k 2) 0 <;> simp only [cond_true, cond_false] <;> rw [ih, ih (T α)] <;> rfl

theorem T.get_leaf {α : Type} (k : Nat) : (T.leaf : T α).get k = none := by cases k <;> rfl

theorem T.set_node {α : Type} (f : Nat) (l : T α) (x : Option α) (r : T α) (k : Nat) (v : α) :
    T.set (f + 1) (.node l x r) (k + 1) v = if k % 2 = 0 then .node (T.set f l (k / 2) v) x r else .node l x (T.set f r (k / 2) v) := by
  simp only [T.set, T.setK]
  by_cases h : k % 2 = 0
  · have : Nat.beq (Nat.mod k 2) 0 = true := by rw [show Nat.mod k 2 = 0 from h]; rfl
    rw [if_pos h, this, cond_true, T.setK_eq]; rfl
  · have : Nat.beq (Nat.mod k 2) 0 = false := by
      cases e : Nat.beq (Nat.mod k 2) 0 with
      | false => rfl
      | true => exact absurd (Nat.eq_of_beq_eq_true e) h
    rw [if_neg h, this, cond_false, T.setK_eq]; rfl

theorem T.set_leaf {α : Type} (f : Nat) (k : Nat) (v : α) : T.set (f + 1) (.leaf : T α) (k + 1) v = T.set (f + 1) (.node .leaf none .leaf) (k + 1) v := by
  simp only [T.set, T.setK]

theorem T.get_node {α : Type} (l : T α) (x : Option α) (r : T α) (k : Nat) : (T.node l x r).get (k + 1) = if k % 2 = 0 then l.get (k / 2) else r.get (k / 2) := by
  simp only [T.get]
  by_cases h : k % 2 = 0
  · have : Nat.beq (Nat.mod k 2) 0 = true := by rw [show Nat.mod k 2 = 0 from h]; rfl
    rw [if_pos h, this, cond_true]; rfl
  · have : Nat.beq (Nat.mod k 2) 0 = false := by
      cases e : Nat.beq (Nat.mod k 2) 0 with
      | false => rfl
      | true => exact absurd (Nat.eq_of_beq_eq_true e) h
    rw [if_neg h, this, cond_false]; rfl

theorem T.get_set {α : Type} (f : Nat) : ∀ (t : T α) (k : Nat) (v : α) (k' : Nat), k < f → (T.set f t k v).get k' = if k' = k then some v else t.get k' := by
  induction f with
  | zero => intro t k v k' h; omega
  | succ f ih =>
    intro t k v k' h
    cases k with
    | zero =>
      cases t with
      | leaf => cases k' <;> simp [T.set, T.setK, T.get]
      | node l x r => cases k' <;> simp [T.set, T.setK, T.get]
    | succ k =>
      have hd : k / 2 < f := by omega
      have main : ∀ (l : T α) (x : Option α) (r : T α), (T.set (f + 1) (.node l x r) (k + 1) v).get k' = if k' = k + 1 then some v else (T.node l x r).get k' := by
        intro l x r
        rw [T.set_node]
        cases k' with
        | zero => by_cases h0 : k % 2 = 0 <;> simp [h0, T.get]
        | succ k' =>
          rw [T.get_node]
          by_cases h0 : k % 2 = 0 <;> by_cases h1 : k' % 2 = 0
          · rw [if_pos h0, if_pos h1, T.get_node, if_pos h1, ih _ _ _ _ hd]
            by_cases e : k' = k
            · subst e; simp
            · rw [if_neg (by omega), if_neg (by omega)]
          · rw [if_pos h0, if_neg h1, T.get_node, if_neg h1, if_neg (by omega)]
          · rw [if_neg h0, if_pos h1, T.get_node, if_pos h1, if_neg (by omega)]
          · rw [if_neg h0, if_neg h1, T.get_node, if_neg h1, ih _ _ _ _ hd]
            by_cases e : k' = k
            · subst e; simp
            · rw [if_neg (by omega), if_neg (by omega)]
      cases t with
      | leaf =>
        rw [T.set_leaf, main, T.get_leaf]
        cases k' with
        | zero => simp [T.get]
        | succ k' => rw [T.get_node, T.get_leaf]; simp
      | node l x r => exact main l x r

/-! ## Forcing changes nothing -/
theorem fNat_eq {β : Type} (n : Nat) (K : Nat → β) : fNat n K = K n := by cases n <;> rfl
theorem fInt_eq {β : Type} (n : Int) (K : Int → β) : fInt n K = K n := by cases n <;> simp [fInt, fNat_eq]
theorem fBool_eq {β : Type} (n : Bool) (K : Bool → β) : fBool n K = K n := by cases n <;> rfl
theorem fAddr_eq {β : Type} (a : Addr) (K : Addr → β) : fAddr a K = K a := by
  obtain ⟨b, o, s⟩ := a
  cases s <;> simp [fAddr, fNat_eq]
theorem fBytes_eq {β : Type} : ∀ (l : List UInt8) (K : List UInt8 → β), fBytes l K = K l
  | [], _ => rfl
  | b :: l, K => by simp [fBytes, fBytes_eq l]
theorem fSpine_eq {α β : Type} : ∀ (l : List α) (K : List α → β), fSpine l K = K l
  | [], _ => rfl
  | b :: l, K => by simp [fSpine, fSpine_eq l]
mutual
theorem fV_eq {β : Type} : ∀ (v : Value) (K : Value → β), fV v K = K v
  | .int k n, K => by simp [fV, fInt_eq]
  | .bool b, K => by simp [fV, fBool_eq]
  | .pointer (some a), K => by simp [fV, fAddr_eq]
  | .pointer none, K => by simp [fV]
  | .slice (some a) n c, K => by simp [fV, fAddr_eq, fNat_eq]
  | .slice none n c, K => by simp [fV]
  | .string ⟨⟨l⟩⟩, K => by simp [fV, fBytes_eq]
  | .agg cs, K => by simp [fV, fA_eq cs]
  | .tuple cs, K => by simp [fV, fA_eq cs]
  | .func f a b, K => by simp [fV, fA_eq a, fA_eq b]
  | .iface t v, K => by simp [fV, fV_eq v]
  | .float _ _, K => by simp [fV]
  | .complex _ _ _, K => by simp [fV]
  | .map _, K => by simp [fV]
  | .chan _, K => by simp [fV]
  | .nilFunc, K => by simp [fV]
  | .nilIface, K => by simp [fV]
theorem fA_eq {β : Type} : ∀ (v : Array Value) (K : Array Value → β), fA v K = K v
  | ⟨l⟩, K => by simp [fA, fL_eq l]
theorem fL_eq {β : Type} : ∀ (v : List Value) (K : List Value → β), fL v K = K v
  | [], K => by simp [fL]
  | v :: l, K => by simp [fL, fV_eq v, fL_eq l]
end
theorem fV1_eq {β : Type} (v : Value) (K : Value → β) : fV1 v K = K v := by
  unfold fV1
  split
  all_goals try simp [fInt_eq, fBool_eq, fAddr_eq, fV_eq, fL_eq]
  all_goals (rename_i l; cases longL 64 l <;> rfl)

/-! ## Values -/
/-- Where the evaluator's blocks lie: block and offset; and of a block that an append made: of how many cells its elements are, and up to which offset cells are there. -/
structure M where
  f : Nat → Option (Nat × Nat)
  sp : Nat → Option (Nat × Nat)
instance : CoeFun M (fun _ => Nat → Option (Nat × Nat)) := ⟨M.f⟩
def M.le (m m' : M) : Prop := (∀ b x, m b = some x → m' b = some x) ∧ (∀ b x, m.sp b = some x → m'.sp b = some x)
theorem M.le_refl (m : M) : M.le m m := ⟨fun _ _ h => h, fun _ _ h => h⟩
theorem M.le_trans {a b c : M} (h : M.le a b) (k : M.le b c) : M.le a c := ⟨fun x y e => k.1 x y (h.1 x y e), fun x y e => k.2 x y (h.2 x y e)⟩

mutual
/-- The evaluator's value (left) stands for the world's (right). -/
inductive VR (m : M) : Value → Value → Prop
  | any (k : FloatKind) (x y : Nat) (v : Value) : VR m (.complex k x y) v
  | bool (b : Bool) : VR m (.bool b) (.bool b)
  | int (k : IntKind) (n : Int) : VR m (.int k n) (.int k n)
  | float (k : FloatKind) (n : Nat) : VR m (.float k n) (.float k n)
  | string (s : ByteArray) : VR m (.string s) (.string s)
  | nilPtr : VR m (.pointer none) (.pointer none)
  | ptr {b B d : Nat} (off : Nat) (h : m b = some (B, d)) : VR m (.pointer (some ⟨b, off, none⟩)) (.pointer (some ⟨B, off + d, none⟩))
  | nilSl : VR m (.slice none 0 0) (.slice none 0 0)
  | sl {b B d : Nat} (off len cap cap' : Nat) (h : m b = some (B, d)) (hc : cap ≤ cap') (hz : cap' = cap ∨ ∃ z E, m.sp b = some (z, E) ∧ off + d + cap' * z ≤ E) : VR m (.slice (some ⟨b, off, none⟩) len cap) (.slice (some ⟨B, off + d, none⟩) len cap')
  | emp (a : Option Addr) (cap : Nat) : VR m emptyS (.slice a 0 cap)
  | nilMap : VR m (.map none) (.map none)
  | map {r R d : Nat} (h : m r = some (R, d)) : VR m (.map (some r)) (.map (some R))
  | nilChan : VR m (.chan none) (.chan none)
  | func (f : FuncId) {a a' c c' : Array Value} (h : LR m a.toList a'.toList) (h' : LR m c.toList c'.toList) : VR m (.func (.func f) a c) (.func (.func f) a' c')
  | yield {l L d : Nat} {a a' c c' : Array Value} (hl : m l = some (L, d)) (h : LR m a.toList a'.toList) (h' : LR m c.toList c'.toList) : VR m (.func (.yield l) a c) (.func (.yield L) a' c')
  | nilFunc : VR m .nilFunc .nilFunc
  | nilIface : VR m .nilIface .nilIface
  | iface (t : TypeId) {v v' : Value} (h : VR m v v') : VR m (.iface t v) (.iface t v')
  | agg {a a' : Array Value} (h : LR m a.toList a'.toList) (h1 : ∀ v ∈ a'.toList, oneB v = true) : VR m (.agg a) (.agg a')
  | tuple {a a' : Array Value} (h : LR m a.toList a'.toList) : VR m (.tuple a) (.tuple a')
inductive LR (m : M) : List Value → List Value → Prop
  | nil : LR m [] []
  | cons {v v' : Value} {l l' : List Value} (h : VR m v v') (ht : LR m l l') : LR m (v :: l) (v' :: l')
end

mutual
theorem VR.mono {m m' : M} (h : M.le m m') : ∀ {v v' : Value}, VR m v v' → VR m' v v'
  | _, _, .any k x y v => .any k x y v
  | _, _, .bool b => .bool b
  | _, _, .int k n => .int k n
  | _, _, .float k n => .float k n
  | _, _, .string s => .string s
  | _, _, .nilPtr => .nilPtr
  | _, _, .ptr off e => .ptr off (h.1 _ _ e)
  | _, _, .nilSl => .nilSl
  | _, _, .sl off len cap cap' e hc hz => .sl off len cap cap' (h.1 _ _ e) hc (hz.imp id fun ⟨z, E, a, b⟩ => ⟨z, E, h.2 _ _ a, b⟩)
  | _, _, .emp a cap => .emp a cap
  | _, _, .nilMap => .nilMap
  | _, _, .map e => .map (h.1 _ _ e)
  | _, _, .nilChan => .nilChan
  | _, _, .func f a c => .func f (LR.mono h a) (LR.mono h c)
  | _, _, .yield e a c => .yield (h.1 _ _ e) (LR.mono h a) (LR.mono h c)
  | _, _, .nilFunc => .nilFunc
  | _, _, .nilIface => .nilIface
  | _, _, .iface t v => .iface t (VR.mono h v)
  | _, _, .agg a h1 => .agg (LR.mono h a) h1
  | _, _, .tuple a => .tuple (LR.mono h a)
theorem LR.mono {m m' : M} (h : M.le m m') : ∀ {v v' : List Value}, LR m v v' → LR m' v v'
  | _, _, .nil => .nil
  | _, _, .cons a l => .cons (VR.mono h a) (LR.mono h l)
end

theorem LR.length {m : M} : ∀ {l l' : List Value}, LR m l l' → l.length = l'.length
  | _, _, .nil => rfl
  | _, _, .cons _ h => by simp [LR.length h]

theorem LR.get {m : M} : ∀ {l l' : List Value}, LR m l l' → ∀ (i : Nat) (v : Value), l[i]? = some v → ∃ v', l'[i]? = some v' ∧ VR m v v'
  | _, _, .nil, i, v, h => by simp at h
  | _, _, .cons a h, 0, v, e => by simp at e; subst e; exact ⟨_, rfl, a⟩
  | _, _, .cons a h, i + 1, v, e => by simpa using LR.get h i v (by simpa using e)

theorem LR.of_get {m : M} : ∀ {l l' : List Value}, l.length = l'.length → (∀ (i : Nat) (v v' : Value), l[i]? = some v → l'[i]? = some v' → VR m v v') → LR m l l'
  | [], [], _, _ => .nil
  | v :: l, v' :: l', hl, h => .cons (h 0 v v' rfl rfl) (LR.of_get (by simpa using hl) fun i a a' e e' => h (i + 1) a a' (by simpa using e) (by simpa using e'))
  | [], _ :: _, hl, _ => by simp at hl
  | _ :: _, [], hl, _ => by simp at hl

theorem LR.append {m : M} : ∀ {a a' b b' : List Value}, LR m a a' → LR m b b' → LR m (a ++ b) (a' ++ b')
  | _, _, _, _, .nil, h => h
  | _, _, _, _, .cons x h, k => .cons x (LR.append h k)

theorem LR.take {m : M} : ∀ {l l' : List Value}, LR m l l' → ∀ n, LR m (l.take n) (l'.take n)
  | _, _, .nil, n => by simp; exact .nil
  | _, _, .cons a h, 0 => by simp; exact .nil
  | _, _, .cons a h, n + 1 => by simp only [List.take_succ_cons]; exact .cons a (LR.take h n)

theorem LR.drop {m : M} : ∀ {l l' : List Value}, LR m l l' → ∀ n, LR m (l.drop n) (l'.drop n)
  | _, _, .nil, n => by simp; exact .nil
  | _, _, .cons a h, 0 => by simp only [List.drop_zero]; exact .cons a h
  | _, _, .cons a h, n + 1 => by simp only [List.drop_succ_cons]; exact LR.drop h n

theorem undef_rel (m : M) : VR m undef undef := .tuple .nil

theorem oneB_eq (v : Value) : oneB v = v.oneCell' := by cases v <;> rfl
theorem oneL_mem : ∀ {l : List Value}, oneL l = true → ∀ v ∈ l, oneB v = true
  | [], _, v, h => by simp at h
  | a :: l, e, v, h => by
    simp only [oneL, Bool.and_eq_true] at e
    cases h with
    | head => exact e.1
    | tail _ h => exact oneL_mem e.2 v h

mutual
theorem plain_rel (m : M) : ∀ (v : Value), plainB v = true → VR m v v
  | .bool b, _ => .bool b
  | .int k n, _ => .int k n
  | .float k n, _ => .float k n
  | .string s, _ => .string s
  | .pointer none, _ => .nilPtr
  | .pointer (some _), h => by simp [plainB] at h
  | .slice none 0 0, _ => .nilSl
  | .slice none 0 (_ + 1), h => by simp [plainB] at h
  | .slice none (_ + 1) _, h => by simp [plainB] at h
  | .slice (some _) _ _, h => by simp [plainB] at h
  | .map none, _ => .nilMap
  | .map (some _), h => by simp [plainB] at h
  | .chan none, _ => .nilChan
  | .chan (some _), h => by simp [plainB] at h
  | .nilFunc, _ => .nilFunc
  | .nilIface, _ => .nilIface
  | .iface t v, h => .iface t (plain_rel m v (by simpa [plainB] using h))
  | .agg cs, h => by
    simp only [plainB, Bool.and_eq_true] at h
    refine .agg (plainA_rel m cs h.1) ?_
    obtain ⟨l⟩ := cs
    exact oneL_mem h.2
  | .tuple cs, h => .tuple (plainA_rel m cs (by simpa [plainB] using h))
  | .func (.func f) a b, h => by
    simp only [plainB, Bool.and_eq_true] at h
    exact .func f (plainA_rel m a h.1) (plainA_rel m b h.2)
  | .func (.method _) _ _, h => by simp [plainB] at h
  | .func (.methodOf _ _) _ _, h => by simp [plainB] at h
  | .func (.via _ _ _ _) _ _, h => by simp [plainB] at h
  | .func (.yield _) _ _, h => by simp [plainB] at h
  | .complex _ _ _, h => by simp [plainB] at h
theorem plainA_rel (m : M) : ∀ (a : Array Value), plainA a = true → LR m a.toList a.toList
  | ⟨l⟩, h => plainL_rel m l (by simpa [plainA] using h)
theorem plainL_rel (m : M) : ∀ (l : List Value), plainL l = true → LR m l l
  | [], _ => .nil
  | v :: l, h => by
    simp only [plainL, Bool.and_eq_true] at h
    exact .cons (plain_rel m v h.1) (plainL_rel m l h.2)
end

mutual
/-- A value without addresses stands for itself alone. -/
theorem plain_eq {m : M} : ∀ (v v' : Value), plainB v = true → VR m v v' → v = v'
  | .bool b, _, _, .bool _ => rfl
  | .int k n, _, _, .int _ _ => rfl
  | .float k n, _, _, .float _ _ => rfl
  | .string s, _, _, .string _ => rfl
  | .pointer _, _, _, .nilPtr => rfl
  | .pointer _, _, h, .ptr _ _ => by simp [plainB] at h
  | .slice _ _ _, _, _, .nilSl => rfl
  | .slice _ _ _, _, h, .sl _ _ _ _ _ _ _ => by simp [plainB] at h
  | .slice _ _ _, _, h, .emp _ _ => by simp [plainB] at h
  | .map _, _, _, .nilMap => rfl
  | .map _, _, h, .map _ => by simp [plainB] at h
  | .chan _, _, _, .nilChan => rfl
  | .nilFunc, _, _, .nilFunc => rfl
  | .nilIface, _, _, .nilIface => rfl
  | .iface t v, _, h, .iface _ h' => by
    have := plain_eq v _ (by simpa [plainB] using h) h'
    rw [this]
  | .agg a, .agg a', h, .agg h' _ => by
    simp only [plainB, Bool.and_eq_true] at h
    rw [plainA_eq a a' h.1 h']
  | .tuple a, .tuple a', h, .tuple h' => by rw [plainA_eq a a' (by simpa [plainB] using h) h']
  | .func (.func f) a b, .func _ a' b', h, .func _ h1 h2 => by
    simp only [plainB, Bool.and_eq_true] at h
    rw [plainA_eq a a' h.1 h1, plainA_eq b b' h.2 h2]
  | .func (.yield _) _ _, _, h, .yield _ _ _ => by simp [plainB] at h
  | .complex _ _ _, _, h, .any _ _ _ _ => by simp [plainB] at h
theorem plainA_eq {m : M} : ∀ (a a' : Array Value), plainA a = true → LR m a.toList a'.toList → a = a'
  | ⟨l⟩, ⟨l'⟩, h, hr => by rw [plainL_eq l l' (by simpa [plainA] using h) hr]
theorem plainL_eq {m : M} : ∀ (l l' : List Value), plainL l = true → LR m l l' → l = l'
  | [], _, _, .nil => rfl
  | v :: l, _, h, .cons h1 h2 => by
    simp only [plainL, Bool.and_eq_true] at h
    rw [plain_eq v _ h.1 h1, plainL_eq l _ h.2 h2]
end

end Go.Ev
