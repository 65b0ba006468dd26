/- Operations that only read: what the evaluator says is so. -/
import Derived.Test.YtlneoecgbbbahacGreatDoorEv4
namespace Go.Ev
open Go.RowKit

section
variable {P : Program} {m : M} {w0 w : World} {h : AHeap} {t : T Value} {n : Nat} {a : Act}

theorem ok_ptr {B o o' : Nat} (e : o = o') : (Result.ok (Value.pointer (some ⟨B, o, none⟩)) w) = .ok (.pointer (some ⟨B, o', none⟩)) w := by rw [e]

theorem WR.cells (hW : WR P m w0 h w) {b : Nat} {c : List Value} (e : cellsOf (h.bl.get b) = some c) {B d : Nat} (hm : m b = some (B, d)) :
    ∃ fam ro, OR m w B d (.cells c fam ro) := by
  cases hg : h.bl.get b with
  | none => rw [hg] at e; cases e
  | some o =>
    cases o with
    | cells c' fam ro =>
      rw [hg] at e
      simp only [cellsOf, Option.some.injEq] at e
      subst e
      obtain ⟨B', d', h1, h2, _⟩ := hW.obj b _ hg
      rw [hm] at h1
      cases h1
      exact ⟨fam, ro, h2⟩
    | map _ _ => rw [hg] at e; cases e
    | loop _ _ _ _ _ _ _ _ => rw [hg] at e; cases e
    | deferred _ => rw [hg] at e; cases e
    | gone => rw [hg] at e; cases e
    | tab _ => rw [hg] at e; cases e

theorem WR.entries (hW : WR P m w0 h w) {r : Nat} {es : List MapEntry} {clock : Nat} (e : entriesOf (h.bl.get r) = some (es, clock)) {R d : Nat} (hm : m r = some (R, d)) :
    ∃ es', w.heap[R]? = some (.map es' clock) ∧ ER m es es'.toList := by
  cases hg : h.bl.get r with
  | none => rw [hg] at e; cases e
  | some o =>
    cases o with
    | map es' clock' =>
      rw [hg] at e
      simp only [entriesOf, Option.some.injEq, Prod.mk.injEq] at e
      obtain ⟨rfl, rfl⟩ := e
      obtain ⟨B', d', h1, h2, _⟩ := hW.obj r _ hg
      rw [hm] at h1
      cases h1
      exact h2
    | cells _ _ _ => rw [hg] at e; cases e
    | loop _ _ _ _ _ _ _ _ => rw [hg] at e; cases e
    | deferred _ => rw [hg] at e; cases e
    | gone => rw [hg] at e; cases e
    | tab _ => rw [hg] at e; cases e

theorem rPick_rel {x x' y y' c c' v : Value} (hx : VR m x x') (hy : VR m y y') (hc : VR m c c') (e : rPick x y c = some v) :
    ∃ v', (do pure (Next.value (if ← asBool c' then x' else y')) : Sem Next).run P w = .ok (.value v') w ∧ VR m v v' := by
  unfold rPick at e
  split at e
  · cases hc; cases e; exact ⟨_, by simp [asBool], hx⟩
  · cases hc; cases e; exact ⟨_, by simp [asBool], hy⟩
  · cases e

theorem rLoad_rel (hW : WR P m w0 h w) {ty : TypeId} {x x' v : Value} (hx : VR m x x') (e : rLoad P h ty x = some v) :
    ∃ v', (Instr.loadAt ty x').run P w = .ok v' w ∧ VR m v v' := by
  unfold rLoad at e
  split at e
  · rename_i b off
    cases hx with
    | ptr _ hm =>
      split at e
      · rename_i c hc
        obtain ⟨fam, ro, ho⟩ := hW.cells hc hm
        obtain ⟨v', h1, h2⟩ := partL_load ho e
        exact ⟨v', by simp [Instr.loadAt, Instr.sureAddr, h1], h2⟩
      · cases e
  · cases e

theorem rNilCheck_rel {x x' v : Value} (hx : VR m x x') (e : rNilCheck x = some v) (o : Oper) (ρ : Operand → Value) (y : Operand) (ho : o.op = .nilCheck y) (hy : ρ y = x') :
    ∃ v', (execOp ρ o).run P w = .ok (.value v') w ∧ VR m v v' := by
  unfold rNilCheck at e
  split at e
  · cases e
    cases hx with
    | ptr off hm => exact ⟨_, by simp [execOp, ho, hy], .ptr off hm⟩
  · cases e
    cases hx with
    | func f k1 k2 => exact ⟨_, by simp [execOp, ho, hy], .func _ k1 k2⟩
  · cases e
    cases hx with
    | yield hl k1 k2 => exact ⟨_, by simp [execOp, ho, hy], .yield hl k1 k2⟩
  · cases e

theorem fieldOf_und {s : TypeId} {f fo : Nat} {ft : TypeId} (e : fieldOf P s f = some (fo, ft)) :
    ∃ fields fd, P.underlying s = some (.struct fields) ∧ fields[f]? = some fd ∧ fd.offset = fo ∧ fd.type = ft := by
  unfold fieldOf at e
  split at e
  · rename_i fields hu
    split at e
    · rename_i fd hf
      simp only [Option.some.injEq, Prod.mk.injEq] at e
      exact ⟨fields, fd, hu, hf, e.1, e.2⟩
    · cases e
  · cases e

theorem rFieldAddr_rel {s : TypeId} {f : Nat} {x x' v : Value} (hx : VR m x x') (e : rFieldAddr P s f x = some v) :
    ∃ v', (Instr.fieldAt s x' f).run P w = .ok v' w ∧ VR m v v' := by
  unfold rFieldAddr at e
  split at e
  · rename_i b off
    cases hx with
    | @ptr _ B d _ hm =>
      split at e
      · rename_i fo ft hf
        split at e
        · rename_i k hs
          cases e
          obtain ⟨fields, fd, h1, h2, rfl, rfl⟩ := fieldOf_und hf
          refine ⟨.pointer (some ⟨B, off + fd.offset + d, none⟩), ?_, .ptr _ hm⟩
          simp only [Instr.fieldAt, Sem.run_bind, run_und h1, Result.andThen_ok, h2, Instr.sureAddr, Sem.run_pure, fieldPlace, run_sizeB hs]
          simp only [Nat.add_one_ne_zero, if_false, Sem.run_pure, Result.andThen_ok, Addr.add_mid]
          exact ok_ptr (by omega)
        · cases e
      · cases e
  · cases e

theorem rField_rel {s : TypeId} {f : Nat} {x x' v : Value} (hx : VR m x x') (e : rField P s f x = some v) :
    ∃ v', (Instr.field s x' f).run P w = .ok v' w ∧ VR m v v' := by
  unfold rField at e
  split at e
  · rename_i cs
    cases hx with
    | @agg _ cs' k h1 =>
      split at e
      · rename_i fo ft hf
        obtain ⟨fields, fd, g1, g2, rfl, rfl⟩ := fieldOf_und hf
        obtain ⟨v', g3, g4⟩ := partL_part k h1 e w
        refine ⟨v', ?_, g4⟩
        simp only [Instr.field, Sem.run_bind, run_und g1, Result.andThen_ok, g2, asAgg, Sem.run_pure]
        simpa using g3
      · cases e
  · cases e

theorem arrOf_und {ty : TypeId} {len : Nat} {e' : TypeId} (e : arrOf P ty = some (len, e')) : P.underlying ty = some (.array len e') := by
  unfold arrOf at e
  split at e
  · rename_i h; simp only [Option.some.injEq, Prod.mk.injEq] at e; rw [h, e.1, e.2]
  · cases e
theorem slOf_und {ty : TypeId} {e' : TypeId} (e : slOf P ty = some e') : P.underlying ty = some (.slice e') := by
  unfold slOf at e
  split at e
  · rename_i h; simp only [Option.some.injEq] at e; rw [h, e]
  · cases e
theorem mapOf_und {ty k e' : TypeId} (e : mapOf P ty = some (k, e')) : P.underlying ty = some (.map k e') := by
  unfold mapOf at e
  split at e
  · rename_i h; simp only [Option.some.injEq, Prod.mk.injEq] at e; rw [h, e.1, e.2]
  · cases e
theorem strTy_und {ty : TypeId} (e : isStrTy P ty = true) : P.underlying ty = some .string := by
  unfold isStrTy at e
  split at e
  · assumption
  · cases e

theorem rAt_rel {e : TypeId} {b off i len B d : Nat} {v : Value} (hm : m b = some (B, d)) (h0 : rAt P e b off i len = some v) :
    i < len ∧ ∃ sz, sizeB P e = some sz ∧ v = .pointer (some ⟨b, off + i * sz, none⟩) ∧ VR m v (.pointer (some ⟨B, off + d + i * sz, none⟩)) := by
  unfold rAt at h0
  cases hb : Nat.blt i len with
  | false => rw [hb] at h0; cases h0
  | true =>
    rw [hb, cond_true] at h0
    split at h0
    · rename_i sz hs
      cases h0
      refine ⟨by simpa [Nat.blt_eq] using hb, sz, hs, rfl, ?_⟩
      have := VR.ptr (m := m) (off + i * sz) hm
      rwa [show off + i * sz + d = off + d + i * sz by omega] at this
    · cases h0

theorem rIndexAddr_rel {ty : TypeId} {x x' i i' v : Value} (hx : VR m x x') (hi : VR m i i') (e : rIndexAddr P ty x i = some v) :
    ∃ v', (Instr.indexAt ty x' i').run P w = .ok v' w ∧ VR m v v' := by
  unfold rIndexAddr at e
  split at e
  · rename_i kk i
    cases hi
    split at e
    · rename_i b off
      cases hx with
      | ptr _ hm =>
        split at e
        · rename_i len el ha
          obtain ⟨g1, sz, g2, rfl, g4⟩ := rAt_rel hm e
          refine ⟨_, ?_, g4⟩
          have hlt : (0 : Int) ≤ (i : Int) ∧ (i : Int) < (len : Int) := by omega
          simp only [Instr.indexAt, Sem.run_bind, asIntOf, Sem.run_pure, Result.andThen_ok, run_und (arrOf_und ha), Instr.sureAddr]
          simp [run_sizeB g2, g1, Addr.add_mid]
        · cases e
    · rename_i b off len cap
      cases hx with
      | sl _ _ _ cap' hm hc _ =>
        split at e
        · rename_i el ha
          obtain ⟨g1, sz, g2, rfl, g4⟩ := rAt_rel hm e
          refine ⟨_, ?_, g4⟩
          simp only [Instr.indexAt, Sem.run_bind, asIntOf, Sem.run_pure, Result.andThen_ok, run_und (slOf_und ha)]
          simp [run_sizeB g2, g1, Addr.add_mid]
        · cases e
    · cases e
  · cases e

theorem bounds_eq {len cap : Nat} {lo hi : Option Value} {l h' : Nat} (e : bounds len cap lo hi = some (l, h')) : hiOf len cap hi = some h' ∧ loOf h' lo = some l := by
  unfold bounds at e
  split at e
  · cases e
  · split at e
    · cases e
    · cases e; exact ⟨by assumption, by assumption⟩

theorem hiOf_le {len cap : Nat} (hl : len ≤ cap) {hi : Option Value} {h' : Nat} (e : hiOf len cap hi = some h') : h' ≤ cap := by
  cases hi with
  | none => simp [hiOf] at e; omega
  | some v =>
    cases v with
    | int k i =>
      cases i with
      | ofNat i =>
        cases hb : Nat.ble i cap with
        | true => simp [hiOf, hb] at e; have := Nat.le_of_ble_eq_true hb; omega
        | false => simp [hiOf, hb] at e
      | negSucc i => simp [hiOf] at e
    | _ => simp [hiOf] at e

theorem loOf_le {h' l : Nat} {lo : Option Value} (e : loOf h' lo = some l) : l ≤ h' := by
  cases lo with
  | none => simp [loOf] at e; omega
  | some v =>
    cases v with
    | int k i =>
      cases i with
      | ofNat i =>
        cases hb : Nat.ble i h' with
        | true => simp [loOf, hb] at e; have := Nat.le_of_ble_eq_true hb; omega
        | false => simp [loOf, hb] at e
      | negSucc i => simp [loOf] at e
    | _ => simp [loOf] at e

/-- Optional values, one standing for the other. -/
def XR (m : M) : Option Value → Option Value → Prop
  | none, none => True
  | some v, some v' => VR m v v'
  | _, _ => False

theorem bounds_rel {len cap : Nat} (isS : Bool) {lo hi lo' hi' : Option Value} {l h' : Nat} (cap' : Nat) (hc : cap ≤ cap') (e : bounds len cap lo hi = some (l, h'))
    (hlo : XR m lo lo') (hhi : XR m hi hi') : (Instr.sliceBounds isS len cap' lo' hi' none).run P w = .ok (l, h', cap') w := by
  obtain ⟨e1, e2⟩ := bounds_eq e
  have k1 : (match hi' with | some v => Instr.sliceBound v cap' (if isS then .sliceAcap else .sliceAlen) | none => pure len).run P w = .ok h' w := by
    cases hi with
    | none => cases hi' with
      | none => simp [hiOf] at e1; subst e1; rfl
      | some _ => exact hhi.elim
    | some v => cases hi' with
      | none => exact hhi.elim
      | some v' =>
        have hv : VR m v v' := hhi
        cases v with
        | int k i =>
          cases hv
          cases i with
          | ofNat i =>
            cases hb : Nat.ble i cap with
            | true =>
              simp [hiOf, hb] at e1
              subst e1
              have := Nat.le_of_ble_eq_true hb
              simp [Instr.sliceBound, asIntOf]
              omega
            | false => simp [hiOf, hb] at e1
          | negSucc i => simp [hiOf] at e1
        | _ => simp [hiOf] at e1
  have k2 : (match lo' with | some v => Instr.sliceBound v h' .sliceB | none => pure 0).run P w = .ok l w := by
    cases lo with
    | none => cases lo' with
      | none => simp [loOf] at e2; subst e2; rfl
      | some _ => exact hlo.elim
    | some v => cases lo' with
      | none => exact hlo.elim
      | some v' =>
        have hv : VR m v v' := hlo
        cases v with
        | int k i =>
          cases hv
          cases i with
          | ofNat i =>
            cases hb : Nat.ble i h' with
            | true =>
              simp [loOf, hb] at e2
              subst e2
              have := Nat.le_of_ble_eq_true hb
              simp [Instr.sliceBound, asIntOf]
              omega
            | false => simp [loOf, hb] at e2
          | negSucc i => simp [loOf] at e2
        | _ => simp [loOf] at e2
  cases hi' <;> cases lo' <;> simp_all [Instr.sliceBounds]

theorem map_lo (hT : TR m t n a.tmps) (hg : ∀ g, g < P.globals.size → m g = some (g, 0)) (lo : Option Operand) : XR m (lo.map (ev P t)) (lo.map a.eval) := by
  cases lo with
  | none => trivial
  | some x => exact ev_rel hT hg x

theorem ok_sl {B o o' k c : Nat} (e : o = o') : (Result.ok (Value.slice (some ⟨B, o, none⟩) k c) w) = .ok (.slice (some ⟨B, o', none⟩) k c) w := by rw [e]

theorem zOk_eq (hW : WR P m w0 h w) {b sz z E B d : Nat} (e : zOk h b sz = true) (hm : m b = some (B, d)) (hs : m.sp b = some (z, E)) : z = sz := by
  unfold zOk at e
  split at e
  · rename_i c fam ro hg
    cases hb : Nat.beq fam b with
    | true =>
      have := Nat.eq_of_beq_eq_true hb
      subst this
      have := hW.spf _ _ _ _ hg
      rw [hs] at this
      cases this
    | false =>
      rw [hb, cond_false] at e
      obtain ⟨_, k⟩ := hW.spr b B d z E hm hs
      split at e
      · rename_i z' hz'
        cases k _ hz'
        exact Nat.eq_of_beq_eq_true e
      · cases e
  · cases e

theorem rSlice1_rel {b B d off len cap cap' sz : Nat} {ok : Bool} (hm : m b = some (B, d)) (hc : cap ≤ cap') (hz : cap' = cap ∨ ∃ z E, m.sp b = some (z, E) ∧ off + d + cap' * z ≤ E)
    (hok : ok = true → ∀ z E, m.sp b = some (z, E) → cap' = cap ∨ z = sz) {lo hi lo' hi' : Option Value} (hl : XR m lo lo') (hh : XR m hi hi') {v : Value}
    (e : rSlice1 ok b off cap sz (bounds len cap lo hi) = some v) (isS : Bool) :
    ∃ v', (∀ w, ∃ l h', (Instr.sliceBounds isS len cap' lo' hi' none).run P w = .ok (l, h', cap') w ∧
      Value.slice (if cap' = l then some ⟨B, off + d, none⟩ else some ⟨B, off + d + l * sz, none⟩) (h' - l) (cap' - l) = v') ∧ VR m v v' := by
  unfold rSlice1 at e
  split at e
  · rename_i l h' hb
    cases h1 : (Nat.blt l cap && (Nat.beq l 0 || ok)) with
    | true =>
      rw [h1, cond_true] at e
      cases e
      simp only [Bool.and_eq_true, Bool.or_eq_true] at h1
      have h1' : l < cap := by simpa [Nat.blt_eq] using h1.1
      refine ⟨.slice (some ⟨B, off + l * sz + d, none⟩) (h' - l) (cap' - l), fun w => ⟨l, h', bounds_rel (P := P) (w := w) isS cap' hc hb hl hh, ?_⟩, .sl _ _ _ _ hm (by simp only [Nat.sub_eq]; omega) ?_⟩
      · rw [if_neg (by omega), show off + d + l * sz = off + l * sz + d by omega]
      · rcases hz with hz | ⟨z, E, z1, z2⟩
        · left; simp only [Nat.sub_eq]; omega
        · rcases h1.2 with h0 | h0
          · have : l = 0 := Nat.eq_of_beq_eq_true h0
            subst this
            right
            refine ⟨z, E, z1, ?_⟩
            simpa using z2
          · rcases hok h0 z E z1 with hz | hz
            · left; simp only [Nat.sub_eq]; omega
            · subst hz
              right
              refine ⟨z, E, z1, ?_⟩
              have : cap' * z = l * z + (cap' - l) * z := by rw [← Nat.add_mul]; congr 1; omega
              show off + l * z + d + (cap' - l) * z ≤ E
              omega
    | false =>
      rw [h1, cond_false] at e
      cases h2 : (Nat.beq cap l && Nat.beq h' l) with
      | false => rw [h2] at e; cases e
      | true =>
        rw [h2, cond_true] at e
        cases e
        simp only [Bool.and_eq_true] at h2
        have h3 : h' = l := Nat.eq_of_beq_eq_true h2.2
        refine ⟨_, fun w => ⟨l, h', bounds_rel (P := P) (w := w) isS cap' hc hb hl hh, rfl⟩, ?_⟩
        rw [h3, Nat.sub_self]
        exact .emp _ _
  · cases e

theorem rSlice_rel (hW : WR P m w0 h w) (hT : TR m t n a.tmps) {o : Oper} {ty : TypeId} {x : Operand} {lo hi : Option Operand} {v : Value}
    (ho : o.op = .slice ty x lo hi none) (e : rSlice P t h o ty lo hi (ev P t x) = some v) :
    ∃ v', (execOp a.eval o).run P w = .ok (.value v') w ∧ VR m v v' := by
  have hg := hW.glob
  have hx := ev_rel hT hg x
  have hl := map_lo (P := P) hT hg lo
  have hh := map_lo (P := P) hT hg hi
  generalize hx' : a.eval x = x' at hx
  unfold rSlice at e
  split at e
  · rename_i hev
    rw [hev] at hx
    unfold rSliceN at e
    split at e
    · rename_i el hs
      split at e
      · rename_i sz hsz
        unfold rSlice0 at e
        split at e
        · rename_i p hb
          cases e
          obtain ⟨l, h'⟩ := p
          obtain ⟨e1, e2⟩ := bounds_eq hb
          have h1 := hiOf_le (Nat.le_refl 0) e1
          have h2 := loOf_le e2
          obtain rfl : h' = 0 := by omega
          obtain rfl : l = 0 := by omega
          cases hx
          have hb2 := bounds_rel (P := P) (w := w) true 0 (Nat.le_refl 0) hb hl hh
          refine ⟨.slice none 0 0, ?_, .nilSl⟩
          simp [execOp, ho, hx', Instr.sliceAt, run_und (slOf_und hs), Instr.slice, hb2, run_sizeB hsz]
        · cases e
      · cases e
    · cases e
  · rename_i hev
    rw [hev] at hx
    unfold rSliceN at e
    split at e
    · rename_i el hs
      split at e
      · rename_i sz hsz
        unfold rSlice0 at e
        split at e
        · rename_i p hb
          cases e
          obtain ⟨l, h'⟩ := p
          obtain ⟨e1, e2⟩ := bounds_eq hb
          have h1 := hiOf_le (Nat.le_refl 0) e1
          have h2 := loOf_le e2
          obtain rfl : h' = 0 := by omega
          obtain rfl : l = 0 := by omega
          cases hx with
          | emp ad cap =>
            have hb2 := bounds_rel (P := P) (w := w) true cap (Nat.zero_le cap) hb hl hh
            refine ⟨.slice (if cap = 0 then ad else ad.map (·.add (0 * sz))) 0 cap, ?_, .emp _ _⟩
            simp [execOp, ho, hx', Instr.sliceAt, run_und (slOf_und hs), Instr.slice, hb2, run_sizeB hsz]
        · cases e
      · cases e
    · cases e
  · rename_i b off len cap hev
    rw [hev] at hx
    unfold rSliceS at e
    split at e
    · rename_i el hs
      split at e
      · rename_i sz hsz
        cases hx with
        | @sl _ B d _ _ _ cap' hm hc hz =>
          obtain ⟨v', q1, q2⟩ := rSlice1_rel (P := P) hm hc hz (fun hok z E hs => .inr (zOk_eq hW hok hm hs)) hl hh e true
          obtain ⟨l, h', q3, q4⟩ := q1 w
          refine ⟨v', ?_, q2⟩
          have q5 : (Instr.sliceAt ty (.slice (some ⟨B, off + d, none⟩) len cap') (lo.map a.eval) (hi.map a.eval) none).run P w = .ok v' w := by
            simp only [Instr.sliceAt, Sem.run_bind, run_und (slOf_und hs), Result.andThen_ok, Instr.slice, q3, run_sizeB hsz, Sem.run_pure]
            rw [← q4]
            split <;> simp [Addr.add_mid]
          simp [execOp, ho, hx', q5]
      · cases e
    · cases e
  · rename_i b off hev
    rw [hev] at hx
    unfold rSliceA at e
    split at e
    · rename_i k el hs
      split at e
      · rename_i sz hsz
        cases hx with
        | @ptr _ B d _ hm =>
          obtain ⟨v', q1, q2⟩ := rSlice1_rel (P := P) hm (Nat.le_refl k) (.inl rfl) (fun _ _ _ _ => .inl rfl) hl hh e false
          obtain ⟨l, h', q3, q4⟩ := q1 w
          refine ⟨v', ?_, q2⟩
          have q5 : (Instr.sliceAt ty (.pointer (some ⟨B, off + d, none⟩)) (lo.map a.eval) (hi.map a.eval) none).run P w = .ok v' w := by
            simp only [Instr.sliceAt, Instr.sureAddr, Sem.run_bind, Sem.run_pure, run_und (arrOf_und hs), Result.andThen_ok, q3, run_sizeB hsz]
            rw [← q4]
            split <;> simp [Addr.add_mid]
          simp [execOp, ho, hx', q5]
      · cases e
    · cases e
  · exact ground_rel hT hg o e w
  · cases e
end

end Go.Ev
