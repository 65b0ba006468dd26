/- Regions that draw their order: whichever it is. -/
import Derived.Test.YtlneoecgbbbahacGreatDoorEv19
namespace Go.Ev
open Go.RowKit

structure Inv (P : Program) (ops : Array Oper) (n : Nat) (h : AHeap) (m : M) (a : Act) (listed : Array Bool) (todo : List Info) (done : Nat) (hist : List Seen) (t : T Value) (L : List PE) : Prop where
  sz : listed.size = ops.size
  closed : ∀ i : Nat, listed.getD i false = true → ∀ k, (preOf P ops i).testBit k = true → listed.getD k false = true
  bits : ∀ k, done.testBit k = true ↔ (listed.getD k false = true ∨ ∃ q ∈ L, q.i = k)
  lU : ∀ q ∈ L, listed.getD q.i true = false
  lnd : L.Pairwise (fun p q => p.i ≠ q.i)
  tU : ∀ x ∈ todo, listed.getD x.i true = false
  tL : ∀ x ∈ todo, ∀ q ∈ L, q.i ≠ x.i
  tnd : todo.Pairwise (fun p q => p.i ≠ q.i)
  cover : ∀ i : Nat, listed.getD i true = false → (∃ q ∈ L, q.i = i) ∨ (∃ x ∈ todo, x.i = i)
  lop : ∀ q ∈ L, (⟨q.i, q.o, false, q.pre⟩ : Info) ∈ infos P ops
  lund : ∀ q ∈ L, q.wants = false → q.v = undef
  top : ∀ x ∈ todo, x ∈ infos P ops
  ord : ∀ A q B, L = A ++ q :: B → ∀ k, q.pre.testBit k = true → listed.getD k false = true ∨ ∃ p ∈ A, p.i = k
  seen : ∀ q ∈ L, q.wants = true → aread P q.t h q.o = some q.v ∧ (⟨q.i, q.o, q.t, q.v⟩ : Seen) ∈ hist
  lag : Lag ops n t L m a

section
variable {P : Program} {m : M} {w0 w : World} {h : AHeap} {t : T Value} {n : Nat} {a : Act} {rd : Option Nat} {nn : Nat} {ops : Array Oper}
  {listed : Array Bool} {todo : List Info} {done : Nat} {hist : List Seen} {L : List PE}

theorem getD_conf {listed : Array Bool} {k : Nat} (h1 : listed.getD k true = false) (h2 : listed.getD k false = true) : False := by
  rw [Array.getD_eq_getD_getElem?] at h1 h2
  cases hk : listed[k]? with
  | none => rw [hk] at h1; cases h1
  | some b => rw [hk] at h1 h2; rw [Option.getD_some] at h1 h2; rw [h1] at h2; cases h2

theorem getD_alt {listed : Array Bool} {k : Nat} (hk : k < listed.size) : listed.getD k true = false ∨ listed.getD k false = true := by
  rw [Array.getD_eq_getD_getElem?, Array.getD_eq_getD_getElem?, Array.getElem?_eq_getElem hk]
  cases listed[k] <;> simp

theorem testBit_done (done i k : Nat) : (Nat.lor done (Nat.pow 2 i)).testBit k = true ↔ done.testBit k = true ∨ i = k := by
  have : (done ||| 2 ^ i).testBit k = true ↔ done.testBit k = true ∨ i = k := by
    rw [Nat.testBit_or, Bool.or_eq_true, Nat.testBit_two_pow, decide_eq_true_iff]
  exact this

theorem land_pre {x y : Nat} (e : Nat.land x y = x) (k : Nat) (hk : x.testBit k = true) : y.testBit k = true := by
  have h1 : (x &&& y).testBit k = true := by
    have : x &&& y = x := e
    rw [this]; exact hk
  rw [Nat.testBit_and, Bool.and_eq_true] at h1
  exact h1.2

theorem land_pre' {x y : Nat} (e : ∀ k, x.testBit k = true → y.testBit k = true) : Nat.land x y = x := by
  have : x &&& y = x := by
    apply Nat.eq_of_testBit_eq
    intro k
    rw [Nat.testBit_and]
    cases hx : x.testBit k with
    | false => rfl
    | true => rw [e k hx]; rfl
  exact this

/-- What is ready has behind it all that comes before. -/
theorem Inv.ready (I : Inv P ops n h m a listed todo done hist t L) {j : Nat} (hj : j ∈ Region.ready .any ops listed) : listed.getD j true = false ∧ ∃ x, x ∈ infos P ops ∧ x.i = j ∧ ops[j]? = some x.o ∧
    ∀ k, x.pre.testBit k = true → listed.getD k false = true := by
  obtain ⟨h0, o, ho, hall⟩ := mem_ready.1 hj
  obtain ⟨x, hx⟩ := infos_some (P := P) ho
  obtain ⟨h1, h2, h3, h4, h5⟩ := infos_get hx
  rw [h1] at ho
  cases ho
  refine ⟨h0, x, List.mem_of_getElem? hx, h2, h1, fun k hk => ?_⟩
  obtain ⟨e, he, hb, h6⟩ := h5 k hk
  have := hall e he hb
  rcases h6 with rfl | h6
  · exact this
  · exact I.closed _ this k h6

theorem Inv.hval (I : Inv P ops n h m a listed todo done hist t L) (hW : WR P m w0 h w) : ∀ q ∈ L, ∀ b : Act, TR m q.t n b.tmps → ∃ v', VR m q.v v' := by
  intro q hq b hb
  cases hw : q.wants with
  | false => rw [I.lund q hq hw]; exact ⟨_, undef_rel m⟩
  | true =>
    obtain ⟨v', _, hv⟩ := aread_rel hW hb (I.seen q hq hw).1
    exact ⟨v', hv⟩

/-- The evaluator takes a further operation that reads. -/
theorem Inv.take (I : Inv P ops n h m a listed todo done hist t L) {x : Info} {A B : List Info} (htodo : todo = A ++ x :: B) (hxw : x.w = false) (hpre : Nat.land x.pre done = x.pre) {b : Bool} {v : Value}
    (hw : wantA t ops x.o.guard = some b) (hb : b = true → aread P t h x.o = some v) (hb' : b = false → v = undef) {hist' : List Seen} (hh : ∀ s ∈ hist, s ∈ hist') (hh' : b = true → (⟨x.i, x.o, t, v⟩ : Seen) ∈ hist')
    {t' : T Value} (hp : ∀ (m : M) (a : Act) (v' : Value), TR m t n a.tmps → VR m v v' → TR m t' n (a.put x.o.dst v').tmps) :
    Inv P ops n h m a listed (A ++ B) (Nat.lor done (Nat.pow 2 x.i)) hist' t' (L ++ [⟨x.i, x.o, t, v, x.pre, b⟩]) := by
  have hxt : x ∈ todo := by rw [htodo]; simp
  have hsub : ∀ y ∈ A ++ B, y ∈ todo := fun y hy => by
    rw [htodo]
    simp only [List.mem_append, List.mem_cons] at hy ⊢
    exact hy.imp id .inr
  have htnd := I.tnd
  rw [htodo] at htnd
  have hdist : ∀ y ∈ A ++ B, x.i ≠ y.i := by
    intro y hy
    rw [List.pairwise_append] at htnd
    simp only [List.pairwise_cons] at htnd
    rcases List.mem_append.1 hy with hy | hy
    · exact fun e => htnd.2.2 y hy x (by simp) e.symm
    · exact htnd.2.1.1 y hy
  exact {
    sz := I.sz
    closed := I.closed
    bits := fun k => by
      rw [testBit_done, I.bits]
      simp only [List.mem_append, List.mem_singleton]
      constructor
      · rintro ((h1 | ⟨q, h1, h2⟩) | rfl)
        · exact .inl h1
        · exact .inr ⟨q, .inl h1, h2⟩
        · exact .inr ⟨_, .inr rfl, rfl⟩
      · rintro (h1 | ⟨q, h1 | rfl, h2⟩)
        · exact .inl (.inl h1)
        · exact .inl (.inr ⟨q, h1, h2⟩)
        · exact .inr h2
    lU := fun q hq => by
      rcases List.mem_append.1 hq with hq | hq
      · exact I.lU q hq
      · rw [List.mem_singleton] at hq; subst hq; exact I.tU x hxt
    lnd := by
      rw [List.pairwise_append]
      refine ⟨I.lnd, by simp, fun p hp q hq => ?_⟩
      rw [List.mem_singleton] at hq
      subst hq
      exact I.tL x hxt p hp
    tU := fun y hy => I.tU y (hsub y hy)
    tL := fun y hy q hq => by
      rcases List.mem_append.1 hq with hq | hq
      · exact I.tL y (hsub y hy) q hq
      · rw [List.mem_singleton] at hq; subst hq; exact hdist y hy
    tnd := htnd.sublist (by simp)
    cover := fun i hi => by
      rcases I.cover i hi with ⟨q, h1, h2⟩ | ⟨y, h1, h2⟩
      · exact .inl ⟨q, by simp [h1], h2⟩
      · rw [htodo] at h1
        simp only [List.mem_append, List.mem_cons] at h1
        rcases h1 with h1 | rfl | h1
        · exact .inr ⟨y, by simp [h1], h2⟩
        · exact .inl ⟨⟨y.i, y.o, t, v, y.pre, b⟩, by simp, h2⟩
        · exact .inr ⟨y, by simp [h1], h2⟩
    lop := fun q hq => by
      rcases List.mem_append.1 hq with hq | hq
      · exact I.lop q hq
      · rw [List.mem_singleton] at hq
        subst hq
        have := I.top x hxt
        rw [← hxw]
        exact this
    lund := fun q hq => by
      rcases List.mem_append.1 hq with hq | hq
      · exact I.lund q hq
      · rw [List.mem_singleton] at hq; subst hq; exact hb'
    top := fun y hy => I.top y (hsub y hy)
    ord := fun A' q B' hL k hk => by
      rcases List.append_eq_append_iff.1 hL with ⟨C, h1, h2⟩ | ⟨C, h1, h2⟩
      · cases C with
        | nil =>
          simp only [List.nil_append, List.append_nil, List.cons.injEq] at h1 h2
          obtain ⟨rfl, rfl⟩ := h2
          subst h1
          exact (I.bits k).1 (land_pre hpre k hk)
        | cons c C =>
          simp only [List.cons_append, List.cons.injEq] at h2
          have := h2.2
          simp at this
      · cases C with
        | nil =>
          simp only [List.nil_append, List.append_nil, List.cons.injEq] at h1 h2
          obtain ⟨rfl, rfl⟩ := h2
          subst h1
          exact (I.bits k).1 (land_pre hpre k hk)
        | cons c C =>
          simp only [List.cons_append, List.cons.injEq] at h2
          obtain ⟨rfl, h2⟩ := h2
          exact I.ord A' q C h1 k hk
    seen := fun q hq hqw => by
      rcases List.mem_append.1 hq with hq | hq
      · obtain ⟨h1, h2⟩ := I.seen q hq hqw
        exact ⟨h1, hh _ h2⟩
      · rw [List.mem_singleton] at hq; subst hq; exact ⟨hb hqw, hh' hqw⟩
    lag := Lag.snoc (r := ⟨x.i, x.o, t, v, x.pre, b⟩) hw rfl hp I.lag }

/-- The evaluator goes on until it has taken j, or until only writes are left for it. -/
theorem advance {call : CallT} {K : T Value → AHeap → Bool} (j : Nat) : ∀ (f : Nat) (todo : List Info) (done : Nat) (hist : List Seen) (t : T Value) (L : List PE),
    Inv P ops n h m a listed todo done hist t L → drawGo P call ops n f todo done hist t h K = true → L.length + todo.length ≤ nn →
    ∃ f todo done hist t L, Inv P ops n h m a listed todo done hist t L ∧ drawGo P call ops n f todo done hist t h K = true ∧ L.length + todo.length ≤ nn ∧ ((∃ q ∈ L, q.i = j) ∨ pickR done todo = none) := by
  intro f
  induction f with
  | zero => intro todo done hist t L I e; cases e
  | succ f ih =>
    intro todo done hist t L I e hlen
    cases hp : pickR done todo with
    | none => exact ⟨f + 1, todo, done, hist, t, L, I, e, hlen, .inr hp⟩
    | some xr =>
      obtain ⟨x, rest⟩ := xr
      obtain ⟨A, B, h1, h2, h3, h4⟩ := pickR_some hp
      simp only [drawGo] at e
      rw [hp] at e
      simp only at e
      have hlen' : ∀ q : PE, (L ++ [q]).length + rest.length ≤ nn := fun q => by
        rw [h1] at hlen
        rw [h2]
        simp only [List.length_append, List.length_cons, List.length_nil] at hlen ⊢
        omega
      subst h2
      split at e
      · cases e
      · rename_i hw
        obtain ⟨t', e', hpt⟩ := putK_rel e
        rw [fNat_eq] at e'
        exact ih _ _ _ _ _ (I.take h1 h3 h4 hw (v := undef) (fun hb => by cases hb) (fun _ => rfl) (fun s hs => hs) (fun hb => by cases hb) (fun m a v' => hpt m a v')) e' (hlen' _)
      · rename_i hw
        split at e
        · cases e
        · rename_i v hv
          rw [fV1_eq] at e
          obtain ⟨t', e', hpt⟩ := putK_rel e
          rw [fNat_eq] at e'
          exact ih _ _ _ _ _ (I.take h1 h3 h4 hw (v := v) (fun _ => hv) (fun hb => by cases hb) (fun s hs => List.mem_cons_of_mem _ hs) (fun _ => List.mem_cons_self) (fun m a v' => hpt m a v')) e' (hlen' _)

theorem getD_set_self {j : Nat} (hj : listed.getD j true = false) : (listed.setIfInBounds j true).getD j false = true := by
  have : j < listed.size := by
    rcases Nat.lt_or_ge j listed.size with h | h
    · exact h
    · rw [Array.getD_eq_getD_getElem?, Array.getElem?_eq_none h] at hj; cases hj
  simp [this]

theorem getD_set_split {j k : Nat} (hj : listed.getD j true = false) : (listed.setIfInBounds j true).getD k false = true ↔ listed.getD k false = true ∨ j = k := by
  by_cases hjk : j = k
  · subst hjk
    simp [getD_set_self hj]
  · rw [getD_set_ne false hjk]
    simp [hjk]

theorem getD_set_true_split {j k : Nat} (hj : listed.getD j true = false) : (listed.setIfInBounds j true).getD k true = false ↔ listed.getD k true = false ∧ j ≠ k := by
  by_cases hjk : j = k
  · subst hjk
    have := getD_set_self hj
    constructor
    · intro h; exact (getD_conf h this).elim
    · intro h; exact absurd rfl h.2
  · rw [getD_set_ne true hjk]
    simp [hjk]

/-- The order comes to an operation that the evaluator has behind it. -/
theorem Inv.out {L1 L2 : List PE} {p : PE} (I : Inv P ops n h m a listed todo done hist t (L1 ++ p :: L2)) (hpre : ∀ k, p.pre.testBit k = true → listed.getD k false = true) (hap : ∀ q ∈ L1, p.o.apart ops q.o = true) {v' : Value} (hv : VR m p.v v') :
    Inv P ops n h m (a.put p.o.dst v') (listed.setIfInBounds p.i true) todo done hist t (L1 ++ L2) := by
  have hpL : p ∈ L1 ++ p :: L2 := by simp
  have hpu := I.lU p hpL
  have hsub : ∀ q ∈ L1 ++ L2, q ∈ L1 ++ p :: L2 := fun q hq => by
    simp only [List.mem_append, List.mem_cons] at hq ⊢
    exact hq.imp id .inr
  have hnd := I.lnd
  rw [List.pairwise_append] at hnd
  simp only [List.pairwise_cons] at hnd
  have hdist : ∀ q ∈ L1 ++ L2, p.i ≠ q.i := by
    intro q hq
    rcases List.mem_append.1 hq with hq | hq
    · exact fun e => hnd.2.2 q hq p (by simp) e.symm
    · exact hnd.2.1.1 q hq
  exact {
    sz := by rw [Array.size_setIfInBounds]; exact I.sz
    closed := fun i hi k hk => by
      rw [getD_set_split hpu] at hi ⊢
      rcases hi with hi | rfl
      · exact .inl (I.closed i hi k hk)
      · have := infos_get (infos_self (I.lop p hpL))
        rw [show preOf P ops p.i = p.pre from this.2.2.2.1.symm] at hk
        exact .inl (hpre k hk)
    bits := fun k => by
      rw [I.bits, getD_set_split hpu]
      simp only [List.mem_append, List.mem_cons]
      constructor
      · rintro (h1 | ⟨q, h1 | rfl | h1, h2⟩)
        · exact .inl (.inl h1)
        · exact .inr ⟨q, .inl h1, h2⟩
        · exact .inl (.inr h2)
        · exact .inr ⟨q, .inr h1, h2⟩
      · rintro ((h1 | h1) | ⟨q, h1 | h1, h2⟩)
        · exact .inl h1
        · exact .inr ⟨p, .inr (.inl rfl), h1⟩
        · exact .inr ⟨q, .inl h1, h2⟩
        · exact .inr ⟨q, .inr (.inr h1), h2⟩
    lU := fun q hq => (getD_set_true_split hpu).2 ⟨I.lU q (hsub q hq), hdist q hq⟩
    lnd := I.lnd.sublist (by simp)
    tU := fun x hx => (getD_set_true_split hpu).2 ⟨I.tU x hx, I.tL x hx p hpL⟩
    tL := fun x hx q hq => I.tL x hx q (hsub q hq)
    tnd := I.tnd
    cover := fun i hi => by
      obtain ⟨h1, h2⟩ := (getD_set_true_split hpu).1 hi
      rcases I.cover i h1 with ⟨q, h3, h4⟩ | h3
      · simp only [List.mem_append, List.mem_cons] at h3
        rcases h3 with h3 | rfl | h3
        · exact .inl ⟨q, by simp [h3], h4⟩
        · exact absurd h4 h2
        · exact .inl ⟨q, by simp [h3], h4⟩
      · exact .inr h3
    lop := fun q hq => I.lop q (hsub q hq)
    lund := fun q hq => I.lund q (hsub q hq)
    top := I.top
    ord := fun A q B hL k hk => by
      rw [getD_set_split hpu]
      rcases List.append_eq_append_iff.1 hL with ⟨C, h1, h2⟩ | ⟨C, h1, h2⟩
      · rcases I.ord (L1 ++ p :: C) q B (by rw [h2]; simp) k hk with h3 | ⟨q', h3, h4⟩
        · exact .inl (.inl h3)
        · simp only [List.mem_append, List.mem_cons] at h3
          rcases h3 with h3 | rfl | h3
          · exact .inr ⟨q', by rw [h1]; simp [h3], h4⟩
          · exact .inl (.inr h4)
          · exact .inr ⟨q', by rw [h1]; simp [h3], h4⟩
      · cases C with
        | nil =>
          simp only [List.nil_append, List.append_nil] at h1 h2
          rcases I.ord (L1 ++ [p]) q B (by rw [← h2]; simp) k hk with h3 | ⟨q', h3, h4⟩
          · exact .inl (.inl h3)
          · simp only [List.mem_append, List.mem_singleton] at h3
            rcases h3 with h3 | rfl
            · exact .inr ⟨q', by rw [← h1]; exact h3, h4⟩
            · exact .inl (.inr h4)
        | cons c C =>
          simp only [List.cons_append, List.cons.injEq] at h2
          obtain ⟨rfl, h2⟩ := h2
          rcases I.ord A q (C ++ p :: L2) (by rw [h1]; simp) k hk with h3 | h3
          · exact .inl (.inl h3)
          · exact .inr h3
    seen := fun q hq => I.seen q (hsub q hq)
    lag := Lag.out hap I.lag hv }

/-- Both come to an operation that writes. -/
theorem Inv.wr (I : Inv P ops n h m a listed todo done hist t L) {x : Info} {A B : List Info} (htodo : todo = A ++ x :: B) (hpre : ∀ k, x.pre.testBit k = true → listed.getD k false = true) (hap : ∀ q ∈ L, x.o.apart ops q.o = true)
    {m' : M} {h' : AHeap} (hle : M.le m m') (hst : ∀ q ∈ L, q.wants = true → aread P q.t h' q.o = some q.v) {v v' : Value} {t' : T Value} (hp : ∀ (m : M) (a : Act) (v' : Value), TR m t n a.tmps → VR m v v' → TR m t' n (a.put x.o.dst v').tmps) (hv : VR m' v v') :
    Inv P ops n h' m' (a.put x.o.dst v') (listed.setIfInBounds x.i true) (A ++ B) (Nat.lor done (Nat.pow 2 x.i)) hist t' L := by
  have hxt : x ∈ todo := by rw [htodo]; simp
  have hpu := I.tU x hxt
  have hsub : ∀ y ∈ A ++ B, y ∈ todo := fun y hy => by
    rw [htodo]
    simp only [List.mem_append, List.mem_cons] at hy ⊢
    exact hy.imp id .inr
  have htnd := I.tnd
  rw [htodo] at htnd
  have hdist : ∀ y ∈ A ++ B, x.i ≠ y.i := by
    intro y hy
    rw [List.pairwise_append] at htnd
    simp only [List.pairwise_cons] at htnd
    rcases List.mem_append.1 hy with hy | hy
    · exact fun e => htnd.2.2 y hy x (by simp) e.symm
    · exact htnd.2.1.1 y hy
  exact {
    sz := by rw [Array.size_setIfInBounds]; exact I.sz
    closed := fun i hi k hk => by
      rw [getD_set_split hpu] at hi ⊢
      rcases hi with hi | rfl
      · exact .inl (I.closed i hi k hk)
      · have := infos_get (infos_self (I.top x hxt))
        rw [show preOf P ops x.i = x.pre from this.2.2.2.1.symm] at hk
        exact .inl (hpre k hk)
    bits := fun k => by
      rw [testBit_done, I.bits, getD_set_split hpu]
      constructor
      · rintro ((h1 | h1) | h1)
        · exact .inl (.inl h1)
        · exact .inr h1
        · exact .inl (.inr h1)
      · rintro ((h1 | h1) | h1)
        · exact .inl (.inl h1)
        · exact .inr h1
        · exact .inl (.inr h1)
    lU := fun q hq => (getD_set_true_split hpu).2 ⟨I.lU q hq, fun e => I.tL x hxt q hq e.symm⟩
    lnd := I.lnd
    tU := fun y hy => (getD_set_true_split hpu).2 ⟨I.tU y (hsub y hy), hdist y hy⟩
    tL := fun y hy q hq => I.tL y (hsub y hy) q hq
    tnd := htnd.sublist (by simp)
    cover := fun i hi => by
      obtain ⟨h1, h2⟩ := (getD_set_true_split hpu).1 hi
      rcases I.cover i h1 with h3 | ⟨y, h3, h4⟩
      · exact .inl h3
      · rw [htodo] at h3
        simp only [List.mem_append, List.mem_cons] at h3
        rcases h3 with h3 | rfl | h3
        · exact .inr ⟨y, by simp [h3], h4⟩
        · exact absurd h4 h2
        · exact .inr ⟨y, by simp [h3], h4⟩
    lop := I.lop
    lund := I.lund
    top := fun y hy => I.top y (hsub y hy)
    ord := fun A' q B' hL k hk => by
      rw [getD_set_split hpu]
      rcases I.ord A' q B' hL k hk with h3 | h3
      · exact .inl (.inl h3)
      · exact .inr h3
    seen := fun q hq hqw => ⟨hst q hq hqw, (I.seen q hq hqw).2⟩
    lag := Lag.wr hp hap (I.lag.mono hle) hv }

end
end Go.Ev
