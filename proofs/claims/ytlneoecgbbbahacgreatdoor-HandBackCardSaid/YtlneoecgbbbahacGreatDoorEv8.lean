/- The heap turns: new blocks, cells written, objects set. -/
import Derived.Test.YtlneoecgbbbahacGreatDoorEv7
import Derived.Laws.IdiomCopy
namespace Go.Ev
open Go.RowKit

section
variable {P : Program} {m : M} {w0 w : World} {h : AHeap}

def M.put (m : M) (b : Nat) (x : Nat × Nat) : M := ⟨fun c => if c = b then some x else m c, m.sp⟩

theorem M.le_put {m : M} {b : Nat} (hb : m b = none) (x : Nat × Nat) : M.le m (m.put b x) := by
  refine ⟨?_, fun _ _ h => h⟩
  intro c y hc
  unfold M.put
  by_cases e : c = b
  · subst e; rw [hb] at hc; cases hc
  · simp only [if_neg e]; exact hc

theorem heap_alloc_new (w : World) (x : Obj) : (w.alloc x).heap[w.heap.size]? = some x := by
  show (w.heap.push x)[w.heap.size]? = some x
  simp

/-- A new block, of whatever kind. -/
theorem WR.new (hW : WR P m w0 h w) (o : AObj) (x : Obj) (fams' : T (List Nat)) (hro : isRo o = false)
    (hor : OR (m.put h.nx (w.heap.size, 0)) (w.alloc x) w.heap.size 0 o)
    (hff : ∀ f, f < h.nx → fams'.get f = h.fams.get f) (hfo : ∀ c f, o = .cells c f false → f = h.nx ∧ ∃ l, fams'.get h.nx = some l ∧ h.nx ∈ l) :
    WR P (m.put h.nx (w.heap.size, 0)) w0 ⟨T.set (h.nx + 1) h.bl h.nx o, h.nx + 1, fams'⟩ (w.alloc x) := by
  have hnx := hW.fresh h.nx (Nat.le_refl _)
  have hle := M.le_put hnx.1 (w.heap.size, 0)
  have hget : ∀ b, (T.set (h.nx + 1) h.bl h.nx o).get b = if b = h.nx then some o else h.bl.get b := fun b => T.get_set _ _ _ _ _ (Nat.lt_succ_self _)
  have hold : ∀ b o', h.bl.get b = some o' → b ≠ h.nx := fun b o' e hb => by subst hb; rw [hnx.2] at e; cases e
  have hm : ∀ b, b ≠ h.nx → (m.put h.nx (w.heap.size, 0)) b = m b := fun b e => by unfold M.put; simp only [if_neg e]
  have hm1 : (m.put h.nx (w.heap.size, 0)) h.nx = some (w.heap.size, 0) := by unfold M.put; simp only [if_pos]
  refine ⟨?_, ?_, fun b hb => hW.spn b (by have hb' : h.nx + 1 ≤ b := hb; omega), ?_, ?_, ?_, ?_, ?_, ?_, ?_, ?_⟩
  · intro b o' e
    simp only [hget] at e
    by_cases hb : b = h.nx
    · subst hb
      rw [if_pos rfl] at e
      cases e
      exact ⟨_, _, hm1, hor, fun _ => by have := hW.below.size; omega, fun hr => by rw [hro] at hr; cases hr⟩
    · rw [if_neg hb] at e
      obtain ⟨B, d, h1, h2, h3⟩ := hW.obj b o' e
      refine ⟨B, d, by rw [hm b hb]; exact h1, OR.mono hle (OR.frame ?_ h2), h3⟩
      exact Below.heap_alloc _ _ _ (hW.dom _ _ _ h1)
  · intro b hb
    have hb' : h.nx + 1 ≤ b := hb
    have := hW.fresh b (by omega)
    refine ⟨by rw [hm b (by omega)]; exact this.1, ?_⟩
    show (T.set (h.nx + 1) h.bl h.nx o).get b = none
    rw [hget, if_neg (by omega)]
    exact this.2
  · intro b c f ro e
    simp only [hget] at e
    by_cases hb : b = h.nx
    · subst hb
      rw [if_pos rfl] at e
      cases e
      cases ro with
      | true => cases hro
      | false => rw [(hfo c f rfl).1]; exact hW.spn _ (Nat.le_refl _)
    · rw [if_neg hb] at e
      exact hW.spf _ _ _ _ e
  · intro b B d z E e es
    have hb : b ≠ h.nx := fun hb => by
      subst hb
      have := hW.spn h.nx (Nat.le_refl _)
      have es' : m.sp h.nx = some (z, E) := es
      rw [this] at es'
      cases es'
    rw [hm b hb] at e
    obtain ⟨k1, k2⟩ := hW.spr b B d z E e es
    have hBs := hW.dom _ _ _ e
    have hblk : (w.alloc x).heap[B]? = w.heap[B]? := Below.heap_alloc _ _ _ hBs
    refine ⟨fun j j1 j2 => ?_, ?_⟩
    · have := k1 j j1 j2
      rw [World.cell?_of_block (w := w) (a := ⟨B, j, none⟩) hblk, World.frozen?_of_block (w := w) (a := ⟨B, j, none⟩) hblk]
      exact this
    · show ∀ v, fams'.get b = some v → v = [z]
      rw [hff b]
      · exact k2
      · rcases Nat.lt_or_ge b h.nx with hlt | hge
        · exact hlt
        · have := (hW.fresh b hge).1
          rw [this] at e
          cases e
  · intro b B d e
    have hs : (w.alloc x).heap.size = w.heap.size + 1 := by show (w.heap.push x).size = _; simp
    rw [hs]
    by_cases hb : b = h.nx
    · subst hb; rw [hm1] at e; cases e; omega
    · rw [hm b hb] at e
      have := hW.dom _ _ _ e
      omega
  · intro b₁ b₂ o₁ o₂ B d₁ d₂ e1 e2 f1 f2 hne
    simp only [hget] at e1 e2
    by_cases h1 : b₁ = h.nx
    · subst h1
      rw [hm1] at f1
      cases f1
      have h2 : b₂ ≠ h.nx := fun e => hne e.symm
      rw [hm b₂ h2] at f2
      have := hW.dom _ _ _ f2
      omega
    · by_cases h2 : b₂ = h.nx
      · subst h2
        rw [hm1] at f2
        cases f2
        rw [hm b₁ h1] at f1
        have := hW.dom _ _ _ f1
        omega
      · rw [if_neg h1] at e1
        rw [if_neg h2] at e2
        rw [hm _ h1] at f1
        rw [hm _ h2] at f2
        exact hW.apart _ _ _ _ _ _ _ e1 e2 f1 f2 hne
  · intro b c f e hc
    simp only [hget] at e
    by_cases hb : b = h.nx
    · subst hb
      rw [if_pos rfl] at e
      cases e
      obtain ⟨rfl, l, h1, h2⟩ := hfo c f rfl
      exact ⟨l, h1, h2⟩
    · rw [if_neg hb] at e
      obtain ⟨l, h1, h2⟩ := hW.kin b c f e hc
      exact ⟨l, by rw [hff f (hW.fam _ _ _ _ e)]; exact h1, h2⟩
  · intro b c f ro e
    simp only [hget] at e
    by_cases hb : b = h.nx
    · subst hb
      rw [if_pos rfl] at e
      cases e
      cases ro with
      | true => cases hro
      | false => have := (hfo c f rfl).1; show f < h.nx + 1; omega
    · rw [if_neg hb] at e
      have := hW.fam _ _ _ _ e
      show f < h.nx + 1
      omega
  · exact hW.below.alloc hW.below.size x
  · intro g hg
    have := hW.glob g hg
    have hne : g ≠ h.nx := fun e => by subst e; rw [hnx.1] at this; cases this
    rw [hm g hne]
    exact this

theorem newO_rel (hW : WR P m w0 h w) {o : AObj} {K : Nat → AHeap → Bool} (e : newO h o K = true) (x : Obj) (hro : isRo o = false) (hfam : famOf o = none)
    (hor : ∀ m' : M, M.le m m' → OR m' (w.alloc x) w.heap.size 0 o) :
    ∃ m' h', M.le m m' ∧ m' h.nx = some (w.heap.size, 0) ∧ WR P m' w0 h' (w.alloc x) ∧ K h.nx h' = true := by
  unfold newO at e
  rw [T.setK_eq, fNat_eq] at e
  have hle := M.le_put (hW.fresh h.nx (Nat.le_refl _)).1 (w.heap.size, 0)
  refine ⟨_, _, hle, by unfold M.put; simp only [if_pos], hW.new o x h.fams hro (hor _ hle) (fun _ _ => rfl) (fun c f ho => ?_), e⟩
  subst ho
  cases hfam

theorem newC_rel (hW : WR P m w0 h w) {c : List Value} {K : Nat → AHeap → Bool} (e : newC h c K = true) (c' : Array Value) (el : TypeId) (hc : LR m c c'.toList) (h1 : ∀ u ∈ c'.toList, oneB u = true) :
    ∃ m' h', M.le m m' ∧ m' h.nx = some (w.heap.size, 0) ∧ WR P m' w0 h' (w.alloc (.cells c' el)) ∧ K h.nx h' = true := by
  unfold newC at e
  rw [fL_eq, T.setK_eq, T.setK_eq, fNat_eq] at e
  have hle := M.le_put (hW.fresh h.nx (Nat.le_refl _)).1 (w.heap.size, 0)
  refine ⟨_, _, hle, by unfold M.put; simp only [if_pos], hW.new (.cells c h.nx false) (.cells c' el) _ rfl ?_ (fun f hf => ?_) (fun c0 f ho => ?_), e⟩
  · intro i v hv
    obtain ⟨v', g1, g2⟩ := hc.get i v hv
    have hb := heap_alloc_new w (.cells c' el)
    refine ⟨v', ?_, g2.mono hle, h1 v' (List.mem_of_getElem? g1), fun _ => ?_⟩
    · simp only [World.cell?, hb, Nat.zero_add]
      simpa using g1
    · simp only [World.frozen?, hb]
      simp
  · rw [T.get_set _ _ _ _ _ (Nat.lt_succ_self _), if_neg (by omega)]
  · cases ho
    refine ⟨rfl, [h.nx], ?_, by simp⟩
    rw [T.get_set _ _ _ _ _ (Nat.lt_succ_self _), if_pos rfl]

/-! ## Cells are written -/
theorem heap_setCells (b : Nat) : ∀ (vs : List Value) (o : Nat) (w : World) (k : Nat), k ≠ b → (w.setCells b o vs).heap[k]? = w.heap[k]?
  | [], _, _, _, _ => rfl
  | v :: r, o, w, k, hk => by
    rw [World.setCells, heap_setCells b r (o + 1) _ k hk, Below.heap_setCell _ _ _ _ hk]

theorem size_setCells (b : Nat) : ∀ (vs : List Value) (o : Nat) (w : World), (w.setCells b o vs).heap.size = w.heap.size
  | [], _, _ => rfl
  | v :: r, o, w => by
    rw [World.setCells, size_setCells b r (o + 1)]
    simp [World.setCell]

theorem below_setCells {B0 : Nat} {a : World} (b : Nat) (hb : B0 ≤ b) : ∀ (vs : List Value) (o : Nat) (w : World), Below B0 a w → Below B0 a (w.setCells b o vs)
  | [], _, _, k => k
  | v :: r, o, w, k => by
    rw [World.setCells]
    exact below_setCells b hb r (o + 1) _ (k.setCell (p := ⟨b, o, none⟩) hb v)

def kill (l : List Nat) (b : Nat) (bl : T AObj) : T AObj := killK l b bl id

theorem killK_eq {β : Type} (b : Nat) : ∀ (l : List Nat) (bl : T AObj) (K : T AObj → β), killK l b bl K = K (kill l b bl)
  | [], bl, K => rfl
  | x :: l, bl, K => by
    simp only [kill, killK]
    cases hx : Nat.beq x b with
    | true => simp only [cond_true]; rw [killK_eq b l, killK_eq b l bl id]; rfl
    | false =>
      simp only [cond_false]
      cases hg : bl.get x with
      | none => simp only; rw [killK_eq b l, killK_eq b l bl id]; rfl
      | some o =>
        cases o with
        | cells c f ro => simp only; rw [T.setK_eq, T.setK_eq]; rw [killK_eq b l, killK_eq b l _ id]; rfl
        | _ => simp only; rw [killK_eq b l, killK_eq b l bl id]; rfl

/-- A block as it may be read behind a kill. -/
def dead : AObj → AObj
  | .cells _ f ro => .cells [] f ro
  | o => o

theorem kill_get (b : Nat) : ∀ (l : List Nat) (bl : T AObj) (k : Nat), (kill l b bl).get k = if k ∈ l ∧ k ≠ b then (bl.get k).map dead else bl.get k
  | [], bl, k => by simp [kill, killK]
  | x :: l, bl, k => by
    have step : ∀ bl', (kill l b bl').get k = if k ∈ l ∧ k ≠ b then (bl'.get k).map dead else bl'.get k := fun bl' => kill_get b l bl' k
    by_cases hx : x = b
    · subst hx
      have : kill (x :: l) x bl = kill l x bl := by simp [kill, killK]
      rw [this, step]
      by_cases hk : k = x
      · subst hk; simp
      · simp [hk]
    · have hbeq : Nat.beq x b = false := by
        cases e : Nat.beq x b with
        | false => rfl
        | true => exact absurd (Nat.eq_of_beq_eq_true e) hx
      have hdd : ∀ o : Option AObj, (o.map dead).map dead = o.map dead := by
        intro o
        cases o with
        | none => rfl
        | some o => cases o <;> rfl
      have hall : ∀ bl', (∀ j, bl'.get j = if j = x then (bl.get j).map dead else bl.get j) → (kill l b bl').get k = if k ∈ x :: l ∧ k ≠ b then (bl.get k).map dead else bl.get k := by
        intro bl' hbl
        rw [step, hbl]
        by_cases hk : k = x
        · subst hk
          simp only [if_true, List.mem_cons, true_or, true_and, hdd]
          rw [if_pos hx]
          split <;> rfl
        · simp [hk]
      cases hg : bl.get x with
      | none =>
        have e1 : kill (x :: l) b bl = kill l b bl := by simp [kill, killK, hbeq, hg]
        rw [e1]
        refine hall bl fun j => ?_
        by_cases hj : j = x
        · subst hj; simp [hg]
        · simp [hj]
      | some o =>
        cases o with
        | cells c f ro =>
          have e1 : kill (x :: l) b bl = kill l b (T.set (x + 1) bl x (.cells [] f ro)) := by
            simp only [kill, killK, hbeq, hg, cond_false]
            rw [T.setK_eq]
          rw [e1]
          refine hall _ fun j => ?_
          rw [T.get_set _ _ _ _ _ (Nat.lt_succ_self _)]
          by_cases hj : j = x
          · subst hj; simp [hg, dead]
          · simp [hj]
        | map es c =>
          have e1 : kill (x :: l) b bl = kill l b bl := by simp [kill, killK, hbeq, hg]
          rw [e1]
          refine hall bl fun j => ?_
          by_cases hj : j = x
          · subst hj; simp [hg, dead]
          · simp [hj]
        | loop _ _ _ _ _ _ _ _ =>
          have e1 : kill (x :: l) b bl = kill l b bl := by simp [kill, killK, hbeq, hg]
          rw [e1]
          refine hall bl fun j => ?_
          by_cases hj : j = x
          · subst hj; simp [hg, dead]
          · simp [hj]
        | deferred _ =>
          have e1 : kill (x :: l) b bl = kill l b bl := by simp [kill, killK, hbeq, hg]
          rw [e1]
          refine hall bl fun j => ?_
          by_cases hj : j = x
          · subst hj; simp [hg, dead]
          · simp [hj]
        | gone =>
          have e1 : kill (x :: l) b bl = kill l b bl := by simp [kill, killK, hbeq, hg]
          rw [e1]
          refine hall bl fun j => ?_
          by_cases hj : j = x
          · subst hj; simp [hg, dead]
          · simp [hj]
        | tab _ =>
          have e1 : kill (x :: l) b bl = kill l b bl := by simp [kill, killK, hbeq, hg]
          rw [e1]
          refine hall bl fun j => ?_
          by_cases hj : j = x
          · subst hj; simp [hg, dead]
          · simp [hj]

theorem dead_fam (o : AObj) : famOf (dead o) = famOf o := by cases o <;> rfl
theorem dead_ro (o : AObj) : isRo (dead o) = isRo o := by cases o <;> rfl
theorem dead_or {w : World} {B d : Nat} {o : AObj} (k : OR m w B d o) : OR m w B d (dead o) := by
  cases o with
  | cells c f ro => intro i v e; simp at e
  | _ => exact k

theorem splice_get : ∀ (c : List Value) (off : Nat) (new : List Value), off + new.length ≤ c.length → ∀ i, (spliceL c off new)[i]? = if off ≤ i ∧ i < off + new.length then new[i - off]? else c[i]?
  | c, off, [], _, i => by
    simp only [spliceL, List.length_nil, Nat.add_zero]
    rw [if_neg (by omega)]
  | [], off, v :: l, hl, i => by simp at hl
  | x :: c, 0, v :: l, hl, i => by
    simp only [List.length_cons] at hl
    cases i with
    | zero => simp [spliceL]
    | succ i =>
      have := splice_get c 0 l (by omega) i
      simp only [spliceL, List.getElem?_cons_succ, this, List.length_cons]
      simp only [Nat.zero_le, true_and, Nat.zero_add, Nat.sub_zero, Nat.add_lt_add_iff_right]
      rfl
  | x :: c, off + 1, v :: l, hl, i => by
    simp only [List.length_cons] at hl
    cases i with
    | zero => simp [spliceL]
    | succ i =>
      have := splice_get c off (v :: l) (by simp only [List.length_cons]; omega) i
      simp only [spliceL, List.getElem?_cons_succ, this, List.length_cons]
      have e : i + 1 - (off + 1) = i - off := by omega
      rw [e]
      by_cases h1 : off ≤ i ∧ i < off + (l.length + 1)
      · rw [if_pos h1, if_pos (by omega)]
      · rw [if_neg h1, if_neg (by omega)]

end
end Go.Ev
