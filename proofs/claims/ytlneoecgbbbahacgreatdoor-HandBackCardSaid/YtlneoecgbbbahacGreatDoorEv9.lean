/- The heap turns, continued; single operations that write. -/
import Derived.Test.YtlneoecgbbbahacGreatDoorEv8
namespace Go.Ev
open Go.RowKit

section
variable {P : Program} {m : M} {w0 w : World} {h : AHeap} {t : T Value} {n : Nat} {a : Act}

/-- Cells of block b are written; what shares them is read no more. -/
theorem WR.store (hW : WR P m w0 h w) {b off fam B d : Nat} {c new new' : List Value} (hg : h.bl.get b = some (.cells c fam false)) (hm : m b = some (B, d))
    (hn : LR m new new') (h1 : ∀ u ∈ new', oneB u = true) (hl : off + new.length ≤ c.length) (bl' : T AObj) (fams' : T (List Nat))
    (hb : bl'.get b = some (.cells (spliceL c off new) fam false))
    (ho : ∀ k, k ≠ b → bl'.get k = h.bl.get k ∨ (bl'.get k = (h.bl.get k).map dead))
    (hsh : ∀ k o B' d', k ≠ b → h.bl.get k = some o → m k = some (B', d') → B' = B → bl'.get k = (h.bl.get k).map dead)
    (hf : ∀ f, f ≠ fam → fams'.get f = h.fams.get f) (hfb : ∃ l, fams'.get fam = some l ∧ b ∈ l)
    (hfk : ∀ k c' , k ≠ b → bl'.get k = some (.cells c' fam false) → c' ≠ [] → ∃ l, fams'.get fam = some l ∧ k ∈ l) :
    WR P m w0 ⟨bl', h.nx, fams'⟩ (w.setCells B (off + d) new') := by
  obtain ⟨B', d', g1, g2, g3, _⟩ := hW.obj b _ hg
  rw [hm] at g1
  cases g1
  have hB := g3 rfl
  have hcell : ∀ j, j < new'.length → (w.cell? ⟨B, off + d + j, none⟩).isSome = true := by
    intro j hj
    have hj' : off + j < c.length := by rw [← hn.length] at hj; omega
    obtain ⟨v', k1, _⟩ := g2 (off + j) c[off + j] (List.getElem?_eq_getElem hj')
    rw [show off + d + j = d + (off + j) by omega, k1]
    rfl
  have hfr : ∀ k o, bl'.get k = some o → ∃ o0, h.bl.get k = some o0 ∧ famOf o = famOf o0 ∧ isRo o = isRo o0 := by
    intro k o e
    by_cases hk : k = b
    · subst hk
      rw [hb] at e
      cases e
      exact ⟨_, hg, rfl, rfl⟩
    · rcases ho k hk with h2 | h2
      · exact ⟨o, by rw [← h2]; exact e, rfl, rfl⟩
      · rw [h2] at e
        cases hg2 : h.bl.get k with
        | none => rw [hg2] at e; cases e
        | some o0 => rw [hg2] at e; cases e; exact ⟨o0, rfl, dead_fam _, dead_ro _⟩
  refine ⟨?_, ?_, hW.spn, ?_, ?_, ?_, ?_, ?_, ?_, ?_, ?_⟩
  · intro k o e
    by_cases hk : k = b
    · subst hk
      simp only [hb] at e
      cases e
      refine ⟨B, d, hm, ?_, g3, fun hr => by cases hr⟩
      intro i v hv
      rw [splice_get c off new hl] at hv
      by_cases hi : off ≤ i ∧ i < off + new.length
      · rw [if_pos hi] at hv
        obtain ⟨v', k1, k2⟩ := hn.get _ _ hv
        have hj : i - off < new'.length := (List.getElem?_eq_some_iff.1 k1).1
        refine ⟨v', ?_, k2, h1 v' (List.mem_of_getElem? k1), fun _ => ?_⟩
        · have := World.cell?_setCells_in B new' (off + d) w hcell (i - off) hj
          rw [show d + i = off + d + (i - off) by omega, this]
          rw [← k1, List.getElem?_eq_getElem hj]
        · rw [World.frozen?_setCells]
          have hi' : i < c.length := by omega
          obtain ⟨_, _, _, _, k5⟩ := g2 i c[i] (List.getElem?_eq_getElem hi')
          exact k5 rfl
      · rw [if_neg hi] at hv
        obtain ⟨v', k1, k2, k3, k4⟩ := g2 i v hv
        refine ⟨v', ?_, k2, k3, fun hr => ?_⟩
        · rw [World.cell?_setCells_out B new' (off + d) w ⟨B, d + i, none⟩ (fun _ _ => by
            have := hn.length
            show d + i < off + d ∨ off + d + new'.length ≤ d + i
            omega)]
          exact k1
        · rw [World.frozen?_setCells]
          exact k4 hr
    · have e' : bl'.get k = some o := e
      have hbase : ∃ o0, h.bl.get k = some o0 ∧ (o = o0 ∨ o = dead o0) := by
        rcases ho k hk with h2 | h2
        · exact ⟨o, by rw [← h2]; exact e', .inl rfl⟩
        · rw [h2] at e'
          cases hg2 : h.bl.get k with
          | none => rw [hg2] at e'; cases e'
          | some o0 => rw [hg2] at e'; cases e'; exact ⟨o0, rfl, .inr rfl⟩
      obtain ⟨o0, q1, q2⟩ := hbase
      obtain ⟨B2, d2, k1, k2, k3, k4⟩ := hW.obj k o0 q1
      refine ⟨B2, d2, k1, ?_, ?_, ?_⟩
      · by_cases hBB : B2 = B
        · have h3 := hsh k o0 B2 d2 hk q1 k1 hBB
          rw [q1] at h3
          have h4 : some o = some (dead o0) := e'.symm.trans h3
          cases h4
          cases o0 with
          | cells c0 f0 r0 => intro i v e; simp at e
          | map es cl =>
            exfalso
            subst hBB
            rcases hW.apart _ _ _ _ _ _ _ q1 hg k1 hm hk with ⟨hr, _⟩ | ⟨f, hff, _⟩
            · cases hr
            · cases hff
          | loop _ _ _ _ _ _ _ _ =>
            exfalso
            subst hBB
            rcases hW.apart _ _ _ _ _ _ _ q1 hg k1 hm hk with ⟨hr, _⟩ | ⟨f, hff, _⟩
            · cases hr
            · cases hff
          | deferred _ =>
            exfalso
            subst hBB
            rcases hW.apart _ _ _ _ _ _ _ q1 hg k1 hm hk with ⟨hr, _⟩ | ⟨f, hff, _⟩
            · cases hr
            · cases hff
          | gone =>
            exfalso
            subst hBB
            rcases hW.apart _ _ _ _ _ _ _ q1 hg k1 hm hk with ⟨hr, _⟩ | ⟨f, hff, _⟩
            · cases hr
            · cases hff
          | tab _ =>
            exfalso
            subst hBB
            have r1 := k4 rfl
            omega
        · have h5 : OR m (w.setCells B (off + d) new') B2 d2 o0 := OR.frame (heap_setCells B new' (off + d) w B2 hBB) k2
          rcases q2 with rfl | rfl
          · exact h5
          · exact dead_or h5
      · rcases q2 with rfl | rfl
        · exact k3
        · rw [dead_ro]; exact k3
      · rcases q2 with rfl | rfl
        · exact k4
        · rw [dead_ro]; exact k4
  · intro k hk
    refine ⟨(hW.fresh k hk).1, ?_⟩
    have h2 := (hW.fresh k hk).2
    have hkb : k ≠ b := fun e => by subst e; rw [hg] at h2; cases h2
    show bl'.get k = none
    rcases ho k hkb with h3 | h3 <;> rw [h3, h2] <;> rfl
  · intro k c' f ro e
    obtain ⟨o0, q1, q2, _⟩ := hfr k _ e
    cases o0 with
    | cells c0 f0 r0 => cases q2; exact hW.spf _ _ _ _ q1
    | _ => cases q2
  · intro k B2 d2 z E e es
    obtain ⟨k1, k2⟩ := hW.spr k B2 d2 z E e es
    refine ⟨fun j j1 j2 => ?_, ?_⟩
    · obtain ⟨k3, k4⟩ := k1 j j1 j2
      refine ⟨World.isSome_setCells B new' (off + d) w _ k3, ?_⟩
      rw [World.frozen?_setCells]
      exact k4
    · show ∀ v, fams'.get k = some v → v = [z]
      rw [hf k]
      · exact k2
      · intro hkf
        subst hkf
        have := hW.spf _ _ _ _ hg
        rw [es] at this
        cases this
  · intro k B2 d2 e
    rw [size_setCells]
    exact hW.dom _ _ _ e
  · intro b₁ b₂ o₁ o₂ B2 d₁ d₂ e1 e2 f1 f2 hne
    obtain ⟨p1, q1, r1, s1⟩ := hfr b₁ o₁ e1
    obtain ⟨p2, q2, r2, s2⟩ := hfr b₂ o₂ e2
    rw [r1, r2, s1, s2]
    exact hW.apart _ _ _ _ _ _ _ q1 q2 f1 f2 hne
  · intro k c' f e hc
    have e' : bl'.get k = some (.cells c' f false) := e
    by_cases hff : f = fam
    · subst hff
      by_cases hk : k = b
      · subst hk; exact hfb
      · exact hfk k c' hk e' hc
    · have hk : k ≠ b := fun hk => by subst hk; rw [hb] at e'; cases e'; exact hff rfl
      have h3 : h.bl.get k = some (.cells c' f false) := by
        rcases ho k hk with h2 | h2
        · rw [← h2]; exact e'
        · rw [h2] at e'
          cases hg2 : h.bl.get k with
          | none => rw [hg2] at e'; cases e'
          | some o0 =>
            rw [hg2] at e'
            cases o0 with
            | cells c0 f0 r0 => simp only [Option.map_some, dead, Option.some.injEq, AObj.cells.injEq] at e'; exact absurd e'.1.symm hc
            | _ => cases e'
      obtain ⟨l, g4, g5⟩ := hW.kin k c' f h3 hc
      exact ⟨l, by rw [hf f hff]; exact g4, g5⟩
  · intro k c' f ro e
    have e' : bl'.get k = some (.cells c' f ro) := e
    by_cases hk : k = b
    · subst hk
      rw [hb] at e'
      cases e'
      exact hW.fam _ _ _ _ hg
    · rcases ho k hk with h2 | h2
      · rw [h2] at e'; exact hW.fam _ _ _ _ e'
      · rw [h2] at e'
        cases hg2 : h.bl.get k with
        | none => rw [hg2] at e'; cases e'
        | some o0 =>
          rw [hg2] at e'
          cases o0 with
          | cells c0 f0 r0 => cases e'; exact hW.fam _ _ _ _ hg2
          | _ => cases e'
  · exact below_setCells B hB new' (off + d) w hW.below
  · exact hW.glob

theorem storeC_rel (hW : WR P m w0 h w) {b off B d : Nat} {new new' : List Value} {K : AHeap → Bool} (e : storeC h b off new K = true) (hm : m b = some (B, d))
    (hn : LR m new new') (h1 : ∀ u ∈ new', oneB u = true) :
    ∃ h', WR P m w0 h' (w.setCells B (off + d) new') ∧ K h' = true ∧ w.there B (off + d) new'.length := by
  unfold storeC at e
  split at e
  · cases hn
    exact ⟨h, hW, e, fun j hj => by simp at hj⟩
  · rename_i v l
    generalize hnew : v :: l = new at *
    split at e
    · rename_i c fam hg
      unfold storeC1 at e
      cases hb : Nat.ble (Nat.add off new.length) c.length with
      | false => rw [hb] at e; cases e
      | true =>
        rw [hb, cond_true, fSpine_eq] at e
        have hl : off + new.length ≤ c.length := Nat.le_of_ble_eq_true hb
        obtain ⟨B', d', g1, g2, g3, _⟩ := hW.obj b _ hg
        rw [hm] at g1
        cases g1
        have hcne : c ≠ [] := by intro hc; subst hc; rw [← hnew] at hl; simp at hl
        have hthere : w.there B (off + d) new'.length := by
          intro j hj
          have hj' : off + j < c.length := by rw [← hn.length] at hj; omega
          obtain ⟨v', k1, _, _, k4⟩ := g2 (off + j) c[off + j] (List.getElem?_eq_getElem hj')
          rw [show off + d + j = d + (off + j) by omega, k1]
          exact ⟨rfl, k4 rfl⟩
        obtain ⟨kl, hk1, hk2⟩ := hW.kin b c fam hg hcne
        have shares : ∀ k o B' d', k ≠ b → h.bl.get k = some o → m k = some (B', d') → B' = B → (∃ c0, o = .cells c0 fam false) := by
          intro k o B' d' hk hgk hmk hBB
          subst hBB
          rcases hW.apart _ _ _ _ _ _ _ hgk hg hmk hm hk with ⟨_, hr⟩ | ⟨f, hf1, hf2⟩
          · cases hr
          · cases hf2
            cases o with
            | cells c0 f0 r0 =>
              cases hf1
              cases r0 with
              | false => exact ⟨c0, rfl⟩
              | true =>
                obtain ⟨B2, d2, k1, _, _, k4⟩ := hW.obj k _ hgk
                rw [hmk] at k1
                cases k1
                have := k4 rfl
                have := g3 rfl
                omega
            | _ => cases hf1
        split at e
        · rename_i x hfx
          rw [T.setK_eq] at e
          rw [hk1] at hfx
          cases hfx
          have hxb : b = x := by simpa using hk2
          subst hxb
          have hgetb : ∀ k, (T.set (b + 1) h.bl b (.cells (spliceL c off new) fam false)).get k = if k = b then some (.cells (spliceL c off new) fam false) else h.bl.get k :=
            fun k => T.get_set _ _ _ _ _ (Nat.lt_succ_self _)
          refine ⟨_, hW.store hg hm hn h1 hl _ h.fams (by rw [hgetb, if_pos rfl]) (fun k hk => .inl (by rw [hgetb, if_neg hk])) (fun k o B' d' hk hgk hmk hBB => ?_) (fun _ _ => rfl) ⟨_, hk1, by simp⟩ (fun k c' hk hgk hc' => ?_), e, hthere⟩
          · obtain ⟨c0, rfl⟩ := shares k o B' d' hk hgk hmk hBB
            rw [hgetb, if_neg hk, hgk]
            by_cases hc0 : c0 = []
            · subst hc0; rfl
            · obtain ⟨l2, p1, p2⟩ := hW.kin k c0 fam hgk hc0
              rw [hk1] at p1
              cases p1
              simp at p2
              exact absurd p2 hk
          · rw [hgetb, if_neg hk] at hgk
            exact hW.kin k c' fam hgk hc'
        · rename_i l2 hnot hfx
          rw [killK_eq, T.setK_eq, T.setK_eq] at e
          rw [hk1] at hfx
          cases hfx
          have hgetb : ∀ k, (T.set (b + 1) (kill kl b h.bl) b (.cells (spliceL c off new) fam false)).get k = if k = b then some (.cells (spliceL c off new) fam false) else (kill kl b h.bl).get k :=
            fun k => T.get_set _ _ _ _ _ (Nat.lt_succ_self _)
          have hgetf : ∀ f, (T.set (fam + 1) h.fams fam [b]).get f = if f = fam then some [b] else h.fams.get f := fun f => T.get_set _ _ _ _ _ (Nat.lt_succ_self _)
          have hkill : ∀ k o B' d', k ≠ b → h.bl.get k = some o → m k = some (B', d') → B' = B → (kill kl b h.bl).get k = (h.bl.get k).map dead := by
            intro k o B' d' hk hgk hmk hBB
            obtain ⟨c0, rfl⟩ := shares k o B' d' hk hgk hmk hBB
            rw [kill_get]
            by_cases hc0 : c0 = []
            · subst hc0
              rw [hgk]
              split <;> rfl
            · obtain ⟨l3, p1, p2⟩ := hW.kin k c0 fam hgk hc0
              rw [hk1] at p1
              cases p1
              rw [if_pos ⟨p2, hk⟩]
          refine ⟨_, hW.store hg hm hn h1 hl _ _ (by rw [hgetb, if_pos rfl]) (fun k hk => ?_) (fun k o B' d' hk hgk hmk hBB => ?_) (fun f hf => by rw [hgetf, if_neg hf]) ⟨[b], by rw [hgetf, if_pos rfl], by simp⟩ (fun k c' hk hgk hc' => ?_), e, hthere⟩
          · rw [hgetb, if_neg hk, kill_get]
            split
            · exact .inr rfl
            · exact .inl rfl
          · rw [hgetb, if_neg hk]
            exact hkill k o B' d' hk hgk hmk hBB
          · exfalso
            rw [hgetb, if_neg hk, kill_get] at hgk
            split at hgk
            · cases hg2 : h.bl.get k with
              | none => rw [hg2] at hgk; cases hgk
              | some o0 =>
                rw [hg2] at hgk
                cases o0 with
                | cells c0 f0 r0 => simp only [Option.map_some, dead, Option.some.injEq, AObj.cells.injEq] at hgk; exact hc' hgk.1.symm
                | _ => cases hgk
            · rename_i hnk
              obtain ⟨l3, p1, p2⟩ := hW.kin k c' fam hgk hc'
              rw [hk1] at p1
              cases p1
              exact hnk ⟨p2, hk⟩
        · cases e
    · cases e

/-! ## Objects that are no cells -/
theorem OR.nocell {R d : Nat} {o : AObj} (k : OR m w R d o) (ho : noCells o = true) (j : Nat) : w.cell? ⟨R, j, none⟩ = none := by
  cases o with
  | cells _ _ _ => cases ho
  | map es c => obtain ⟨es', g, _⟩ := k; simp [World.cell?, g]
  | loop _ _ _ _ _ _ _ _ => obtain ⟨L, g, _⟩ := k; simp [World.cell?, g]
  | deferred l => simp only [OR] at k; simp [World.cell?, k]
  | gone => obtain ⟨L, g⟩ := k; simp [World.cell?, g]
  | tab _ => cases ho

theorem setO_rel (hW : WR P m w0 h w) {r R d : Nat} {o o' : AObj} {K : AHeap → Bool} (e : setO h r o' K = true) (hg : h.bl.get r = some o) (hm : m r = some (R, d))
    (ho : noCells o = true) (ho' : famOf o' = none) (hr' : isRo o' = false) (x : Obj) (hor : OR m { w with heap := w.heap.setIfInBounds R x } R d o') :
    ∃ h', WR P m w0 h' { w with heap := w.heap.setIfInBounds R x } ∧ K h' = true := by
  unfold setO at e
  rw [T.setK_eq] at e
  have hget : ∀ k, (T.set (r + 1) h.bl r o').get k = if k = r then some o' else h.bl.get k := fun k => T.get_set _ _ _ _ _ (Nat.lt_succ_self _)
  have hro : isRo o = false := by cases o <;> first | rfl | cases ho
  have hfo : famOf o = none := by cases o <;> first | rfl | cases ho
  obtain ⟨B', d', g1, g2, g3, _⟩ := hW.obj r _ hg
  rw [hm] at g1
  cases g1
  have hB := g3 hro
  have hother : ∀ k o2 B2 d2, k ≠ r → h.bl.get k = some o2 → m k = some (B2, d2) → B2 ≠ R := by
    intro k o2 B2 d2 hk hgk hmk hBB
    subst hBB
    rcases hW.apart _ _ _ _ _ _ _ hgk hg hmk hm hk with ⟨_, hr⟩ | ⟨f, _, hf2⟩
    · rw [hro] at hr; cases hr
    · rw [hfo] at hf2; cases hf2
  refine ⟨⟨T.set (r + 1) h.bl r o', h.nx, h.fams⟩, ⟨?_, ?_, hW.spn, ?_, ?_, ?_, ?_, ?_, ?_, ?_, ?_⟩, e⟩
  · intro k o2 e2
    simp only [hget] at e2
    by_cases hk : k = r
    · subst hk
      rw [if_pos rfl] at e2
      cases e2
      exact ⟨R, d, hm, hor, fun _ => hB, fun hr => by rw [hr'] at hr; cases hr⟩
    · rw [if_neg hk] at e2
      obtain ⟨B2, d2, k1, k2, k3⟩ := hW.obj k o2 e2
      refine ⟨B2, d2, k1, OR.frame ?_ k2, k3⟩
      simp only
      rw [Array.getElem?_setIfInBounds_ne (Ne.symm (hother k o2 B2 d2 hk e2 k1))]
  · intro k hk
    refine ⟨(hW.fresh k hk).1, ?_⟩
    have h2 := (hW.fresh k hk).2
    show (T.set (r + 1) h.bl r o').get k = none
    rw [hget, if_neg (fun e => by subst e; rw [hg] at h2; cases h2)]
    exact h2
  · intro k c f ro e2
    simp only [hget] at e2
    by_cases hk : k = r
    · subst hk
      rw [if_pos rfl] at e2
      cases e2
      cases ho'
    · rw [if_neg hk] at e2
      exact hW.spf _ _ _ _ e2
  · intro k B2 d2 z E e2 es
    obtain ⟨k1, k2⟩ := hW.spr k B2 d2 z E e2 es
    refine ⟨fun j j1 j2 => ?_, k2⟩
    obtain ⟨k3, k4⟩ := k1 j j1 j2
    by_cases hBR : B2 = R
    · subst hBR
      rw [OR.nocell g2 ho j] at k3
      cases k3
    · have hblk : (w.heap.setIfInBounds R x)[B2]? = w.heap[B2]? := Array.getElem?_setIfInBounds_ne (fun e => hBR e.symm)
      rw [World.cell?_of_block (w := w) (a := ⟨B2, j, none⟩) hblk, World.frozen?_of_block (w := w) (a := ⟨B2, j, none⟩) hblk]
      exact ⟨k3, k4⟩
  · intro k B2 d2 e2
    have := hW.dom _ _ _ e2
    simpa using this
  · intro b₁ b₂ o₁ o₂ B2 d₁ d₂ e1 e2 f1 f2 hne
    simp only [hget] at e1 e2
    by_cases h1 : b₁ = r
    · subst h1
      rw [hm] at f1
      cases f1
      rw [if_neg (fun e => hne e.symm)] at e2
      exact absurd rfl (hother b₂ o₂ _ _ (fun e => hne e.symm) e2 f2)
    · rw [if_neg h1] at e1
      by_cases h2 : b₂ = r
      · subst h2
        rw [hm] at f2
        cases f2
        exact absurd rfl (hother b₁ o₁ _ _ h1 e1 f1)
      · rw [if_neg h2] at e2
        exact hW.apart _ _ _ _ _ _ _ e1 e2 f1 f2 hne
  · intro k c f e2 hc
    simp only [hget] at e2
    by_cases hk : k = r
    · subst hk
      rw [if_pos rfl] at e2
      cases e2
      cases ho'
    · rw [if_neg hk] at e2
      exact hW.kin k c f e2 hc
  · intro k c f ro e2
    simp only [hget] at e2
    by_cases hk : k = r
    · subst hk
      rw [if_pos rfl] at e2
      cases e2
      cases ho'
    · rw [if_neg hk] at e2
      exact hW.fam k c f ro e2
  · exact hW.below.trans ⟨rfl, rfl, rfl, by simp, fun k hk => by
      simp only
      rw [Array.getElem?_setIfInBounds_ne (by omega)]⟩
  · exact hW.glob

end
end Go.Ev
