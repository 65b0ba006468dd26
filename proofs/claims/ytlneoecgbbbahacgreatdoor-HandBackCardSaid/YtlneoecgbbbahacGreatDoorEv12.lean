/- Single operations that write: bytes, append, copy; all of them. -/
import Derived.Test.YtlneoecgbbbahacGreatDoorEv11
import Derived.Deep.AppendSrc
import Derived.Room.Entries
namespace Go.Ev
open Go.RowKit

section
variable {P : Program} {m : M} {w0 w : World} {h : AHeap} {t : T Value} {n : Nat} {a : Act}

theorem plainL_bytes (l : List UInt8) : plainL (l.map fun b => Value.int .u8 (b.toNat : Int)) = true := plainL_ints l

theorem srcCells_rel (hW : WR P m w0 h w) {size : Nat} {x x' : Value} {new : List Value} {k : Nat} {tx : TypeId} (hk : kindOk P tx x = true) (e : srcCells h size x = some (new, k)) (hx : VR m x x') :
    ∃ new', Src P size tx x' k new' w ∧ LR m new new' ∧ ∀ u ∈ new', oneB u = true := by
  have hsl : (∃ ad n' c', x = .slice ad n' c') → ∃ e', P.underlying tx = some (.slice e') := by
    rintro ⟨ad, n', c', rfl⟩
    simp only [kindOk] at hk
    split at hk
    · rename_i e' hu; exact ⟨e', hu⟩
    · cases hk
  unfold srcCells at e
  split at e
  · cases e
    cases hx
    obtain ⟨e', hu⟩ := hsl ⟨_, _, _, rfl⟩
    exact ⟨[], Src.ofNil w hu 0, .nil, fun u hu => by simp at hu⟩
  · cases e
    obtain ⟨e', hu⟩ := hsl ⟨_, _, _, rfl⟩
    cases hx with
    | emp ad cap =>
      cases ad with
      | none => exact ⟨[], Src.ofNil w hu cap, .nil, fun u hu => by simp at hu⟩
      | some ad => exact ⟨[], Src.ofSlice w hu ad 0 cap [] (by simp) (fun j u hj => by simp at hj) (fun u hu => by simp at hu), .nil, fun u hu => by simp at hu⟩
  · rename_i b off k0 cap
    obtain ⟨e', hu⟩ := hsl ⟨_, _, _, rfl⟩
    cases hx with
    | @sl _ B d _ _ _ cap' hm hc _ =>
      split at e
      · rename_i c fam ro hg
        cases hb : Nat.ble (Nat.add off (Nat.mul k0 size)) c.length with
        | false => rw [hb] at e; cases e
        | true =>
          rw [hb, cond_true] at e
          cases e
          have hb' : off + k * size ≤ c.length := Nat.le_of_ble_eq_true hb
          obtain ⟨B', d', g1, g2, _⟩ := hW.obj b _ hg
          rw [hm] at g1
          cases g1
          obtain ⟨l', k1, k2, k3⟩ := cells_range g2 off ((c.drop off).take (k * size)) (fun j v hj => by
            rw [List.getElem?_take] at hj
            split at hj
            · simpa [List.getElem?_drop] using hj
            · cases hj)
          refine ⟨l', Src.ofSlice w hu ⟨B, off + d, none⟩ k cap' l' ?_ (fun j u hj => by rw [Addr.add_mid]; exact k3 j u hj) (fun u hu => by rw [← oneB_eq]; exact k2 u hu), k1, k2⟩
          rw [← k1.length]
          simp
          omega
      · cases e
  · rename_i s
    cases hb : Nat.beq size 1 with
    | false => rw [hb] at e; cases e
    | true =>
      rw [hb, cond_true] at e
      cases e
      have h1 : size = 1 := Nat.eq_of_beq_eq_true hb
      subst h1
      cases hx
      have hu : P.underlying tx = some .string := strTy_und (by simpa [kindOk] using hk)
      refine ⟨byteCells s, Src.ofString w hu s, plainL_rel m _ (plainL_bytes _), ?_⟩
      intro u hu
      simp only [byteCells, List.mem_map] at hu
      obtain ⟨b, _, rfl⟩ := hu
      rfl
  · cases e

/-! ## A slice grows -/
def M.put2 (m : M) (b : Nat) (x s : Nat × Nat) : M := ⟨fun c => if c = b then some x else m c, fun c => if c = b then some s else m.sp c⟩

theorem M.put2_f (m : M) (b : Nat) (x s : Nat × Nat) : (m.put2 b x s) b = some x := by unfold M.put2; simp only [if_pos]
theorem M.put2_sp (m : M) (b : Nat) (x s : Nat × Nat) : (m.put2 b x s).sp b = some s := by unfold M.put2; simp only [if_pos]

theorem M.le_put2 {m : M} {b : Nat} (hb : m b = none) (hs : m.sp b = none) (x s : Nat × Nat) : M.le m (m.put2 b x s) := by
  refine ⟨fun c y hc => ?_, fun c y hc => ?_⟩
  · unfold M.put2
    by_cases e : c = b
    · subst e; rw [hb] at hc; cases hc
    · simp only [if_neg e]; exact hc
  · unfold M.put2
    by_cases e : c = b
    · subst e; rw [hs] at hc; cases hc
    · simp only [if_neg e]; exact hc

theorem WR.grow {w' : World} (hW : WR P m w0 h w) {b fam B d : Nat} {c c0 c' : List Value} {l : List Nat} (hg : h.bl.get b = some (.cells c fam false)) (hm : m b = some (B, d)) (hl : h.fams.get fam = some l)
    (k0 sz Bn dn E : Nat) (hc0 : c0 = c.take k0) (hBn : w0.heap.size ≤ Bn) (hBs : Bn < w'.heap.size) (hsh : Bn = B ∨ w.heap.size ≤ Bn) (hsize : w.heap.size ≤ w'.heap.size)
    (hframe : ∀ B2, B2 < w.heap.size → B2 ≠ B → w'.heap[B2]? = w.heap[B2]?)
    (hBc : ∀ i, i < k0 → w'.cell? ⟨B, d + i, none⟩ = w.cell? ⟨B, d + i, none⟩) (hBf : ∀ j, w'.frozen? ⟨B, j, none⟩ = w.frozen? ⟨B, j, none⟩)
    (hBi : ∀ j, (w.cell? ⟨B, j, none⟩).isSome = true → (w'.cell? ⟨B, j, none⟩).isSome = true)
    (hnew : ∀ i v, c'[i]? = some v → ∃ v', w'.cell? ⟨Bn, dn + i, none⟩ = some v' ∧ VR m v v' ∧ oneB v' = true ∧ w'.frozen? ⟨Bn, dn + i, none⟩ = false)
    (hsp : ∀ j, dn ≤ j → j < E → (w'.cell? ⟨Bn, j, none⟩).isSome = true ∧ w'.frozen? ⟨Bn, j, none⟩ = false) (hbel : Below w0.heap.size w0 w') {K : AHeap → Bool} (e : growH h b fam sz l c0 c' K = true) :
    ∃ h', WR P (m.put2 h.nx (Bn, dn) (sz, E)) w0 h' w' ∧ K h' = true := by
  unfold growH at e
  rw [fSpine_eq, fSpine_eq, killK_eq, T.setK_eq, T.setK_eq, T.setK_eq, T.setK_eq, fNat_eq] at e
  refine ⟨_, ?_, e⟩
  have hfr := hW.fresh h.nx (Nat.le_refl _)
  have hsn := hW.spn h.nx (Nat.le_refl _)
  have hle := M.le_put2 hfr.1 hsn (Bn, dn) (sz, E)
  have hbn : b ≠ h.nx := fun e => by subst e; rw [hfr.2] at hg; cases hg
  have hfn : fam ≠ h.nx := by have := hW.fam _ _ _ _ hg; omega
  have hm' : ∀ k, k ≠ h.nx → (m.put2 h.nx (Bn, dn) (sz, E)) k = m k := fun k e => by unfold M.put2; simp only [if_neg e]
  have hm1 : (m.put2 h.nx (Bn, dn) (sz, E)) h.nx = some (Bn, dn) := by unfold M.put2; simp only [if_pos]
  have hs' : ∀ k, k ≠ h.nx → (m.put2 h.nx (Bn, dn) (sz, E)).sp k = m.sp k := fun k e => by unfold M.put2; simp only [if_neg e]
  have hs1 : (m.put2 h.nx (Bn, dn) (sz, E)).sp h.nx = some (sz, E) := by unfold M.put2; simp only [if_pos]
  have hget : ∀ k, (T.set (h.nx + 1) (T.set (b + 1) (kill l b h.bl) b (.cells c0 fam false)) h.nx (.cells c' fam false)).get k =
      if k = h.nx then some (.cells c' fam false) else if k = b then some (.cells c0 fam false) else (kill l b h.bl).get k := by
    intro k
    rw [T.get_set _ _ _ _ _ (Nat.lt_succ_self _), T.get_set _ _ _ _ _ (Nat.lt_succ_self _)]
  have hgetf : ∀ f, (T.set (h.nx + 1) (T.set (fam + 1) h.fams fam [h.nx, b]) h.nx [sz]).get f = if f = h.nx then some [sz] else if f = fam then some [h.nx, b] else h.fams.get f := by
    intro f
    rw [T.get_set _ _ _ _ _ (Nat.lt_succ_self _), T.get_set _ _ _ _ _ (Nat.lt_succ_self _)]
  have hB := (by
    obtain ⟨B', d', g1, _, g3, _⟩ := hW.obj b _ hg
    rw [hm] at g1
    cases g1
    exact g3 rfl : w0.heap.size ≤ B)
  have hBlt := hW.dom _ _ _ hm
  have hbase : ∀ k o, k ≠ h.nx → k ≠ b → (kill l b h.bl).get k = some o → ∃ o0, h.bl.get k = some o0 ∧ (o = o0 ∨ o = dead o0) := by
    intro k o _ hk ek
    rw [kill_get] at ek
    split at ek
    · cases hg2 : h.bl.get k with
      | none => rw [hg2] at ek; cases ek
      | some o0 => rw [hg2] at ek; cases ek; exact ⟨o0, rfl, .inr rfl⟩
    · exact ⟨o, ek, .inl rfl⟩
  have shares : ∀ k o d', k ≠ b → h.bl.get k = some o → m k = some (B, d') → ∃ c0, o = .cells c0 fam false := by
    intro k o d' hk hgk hmk
    rcases hW.apart _ _ _ _ _ _ _ hgk hg hmk hm hk with ⟨_, hr⟩ | ⟨f, hf1, hf2⟩
    · cases hr
    · cases hf2
      cases o with
      | cells c0 f0 r0 =>
        cases hf1
        cases r0 with
        | false => exact ⟨c0, rfl⟩
        | true =>
          obtain ⟨B2, d2, k1, _, _, k4⟩ := hW.obj k _ hgk
          rw [hmk] at k1
          cases k1
          have := k4 rfl
          omega
      | _ => cases hf1
  have hdead : ∀ k o0 o, k ≠ b → h.bl.get k = some o0 → (∃ cc, o0 = .cells cc fam false) → (kill l b h.bl).get k = some o → ∃ f r, o = .cells [] f r := by
    rintro k o0 o hk hgk ⟨cc, rfl⟩ ek
    rw [kill_get] at ek
    by_cases hcc : cc = []
    · subst hcc
      split at ek
      · rw [hgk] at ek; cases ek; exact ⟨_, _, rfl⟩
      · rw [hgk] at ek; cases ek; exact ⟨_, _, rfl⟩
    · obtain ⟨l3, p1, p2⟩ := hW.kin k cc fam hgk hcc
      rw [hl] at p1
      cases p1
      rw [if_pos ⟨p2, hk⟩, hgk] at ek
      cases ek
      exact ⟨_, _, rfl⟩
  refine ⟨?_, ?_, ?_, ?_, ?_, ?_, ?_, ?_, ?_, hbel, ?_⟩
  · intro k o ek
    simp only [hget] at ek
    by_cases hk1 : k = h.nx
    · subst hk1
      rw [if_pos rfl] at ek
      cases ek
      refine ⟨Bn, dn, hm1, ?_, fun _ => hBn, fun hr => by cases hr⟩
      intro i v hv
      obtain ⟨v', q1, q2, q3, q4⟩ := hnew i v hv
      exact ⟨v', q1, q2.mono hle, q3, fun _ => q4⟩
    · rw [if_neg hk1] at ek
      by_cases hk2 : k = b
      · subst hk2
        rw [if_pos rfl] at ek
        cases ek
        refine ⟨B, d, by rw [hm' _ hk1]; exact hm, ?_, fun _ => hB, fun hr => by cases hr⟩
        intro i v hv
        rw [hc0, List.getElem?_take] at hv
        split at hv
        · rename_i hi
          obtain ⟨B', d', g1, g2, _⟩ := hW.obj _ _ hg
          rw [hm] at g1
          cases g1
          obtain ⟨v', q1, q2, q3, q4⟩ := g2 i v hv
          exact ⟨v', by rw [hBc i hi]; exact q1, q2.mono hle, q3, fun hr => by rw [hBf]; exact q4 hr⟩
        · cases hv
      · rw [if_neg hk2] at ek
        obtain ⟨o0, q1, q2⟩ := hbase k o hk1 hk2 ek
        obtain ⟨B2, d2, k1, k2, k3, k4⟩ := hW.obj k o0 q1
        refine ⟨B2, d2, by rw [hm' _ hk1]; exact k1, ?_, ?_, ?_⟩
        · by_cases hBB : B2 = B
          · subst hBB
            obtain ⟨f, r, rfl⟩ := hdead k o0 o hk2 q1 (shares k o0 d2 hk2 q1 k1) ek
            intro i v e; simp at e
          · have h5 : OR m w' B2 d2 o0 := OR.frame (hframe B2 (hW.dom _ _ _ k1) hBB) k2
            rcases q2 with rfl | rfl
            · exact h5.mono hle
            · exact dead_or (h5.mono hle)
        · rcases q2 with rfl | rfl
          · exact k3
          · rw [dead_ro]; exact k3
        · rcases q2 with rfl | rfl
          · exact k4
          · rw [dead_ro]; exact k4
  · intro k hk
    have hk' : h.nx + 1 ≤ k := hk
    have hkn : k ≠ h.nx := by omega
    have h2 := hW.fresh k (by omega)
    refine ⟨by rw [hm' _ hkn]; exact h2.1, ?_⟩
    simp only [hget]
    have hkb : k ≠ b := fun e => by subst e; rw [hg] at h2; cases h2.2
    rw [if_neg hkn, if_neg hkb, kill_get, h2.2]
    split <;> rfl
  · intro k hk
    have hk' : h.nx + 1 ≤ k := hk
    rw [hs' k (by omega)]
    exact hW.spn k (by omega)
  · intro k cc f ro ek
    simp only [hget] at ek
    have key : ∀ f, f < h.nx → m.sp f = none → (m.put2 h.nx (Bn, dn) (sz, E)).sp f = none := fun f hf e => by rw [hs' f (by omega)]; exact e
    by_cases hk1 : k = h.nx
    · subst hk1
      rw [if_pos rfl] at ek
      cases ek
      exact key _ (hW.fam _ _ _ _ hg) (hW.spf _ _ _ _ hg)
    · rw [if_neg hk1] at ek
      by_cases hk2 : k = b
      · subst hk2
        rw [if_pos rfl] at ek
        cases ek
        exact key _ (hW.fam _ _ _ _ hg) (hW.spf _ _ _ _ hg)
      · rw [if_neg hk2] at ek
        obtain ⟨o0, q1, q2⟩ := hbase k _ hk1 hk2 ek
        cases o0 with
        | cells c1 f1 r1 =>
          rcases q2 with q2 | q2 <;> cases q2 <;> exact key _ (hW.fam _ _ _ _ q1) (hW.spf _ _ _ _ q1)
        | _ => rcases q2 with q2 | q2 <;> cases q2
  · intro k B2 d2 z E2 ek es
    by_cases hk1 : k = h.nx
    · subst hk1
      rw [hm1] at ek
      rw [hs1] at es
      cases ek
      cases es
      exact ⟨hsp, fun v hv => by simp [hgetf] at hv; exact hv.symm⟩
    · rw [hm' _ hk1] at ek
      rw [hs' _ hk1] at es
      obtain ⟨k1, k2⟩ := hW.spr k B2 d2 z E2 ek es
      refine ⟨fun j j1 j2 => ?_, ?_⟩
      · obtain ⟨k3, k4⟩ := k1 j j1 j2
        by_cases hBB : B2 = B
        · subst hBB
          exact ⟨hBi j k3, by rw [hBf]; exact k4⟩
        · have hblk := hframe B2 (hW.dom _ _ _ ek) hBB
          rw [World.cell?_of_block (w := w) (a := ⟨B2, j, none⟩) hblk, World.frozen?_of_block (w := w) (a := ⟨B2, j, none⟩) hblk]
          exact ⟨k3, k4⟩
      · simp only [hgetf]
        rw [if_neg hk1, if_neg]
        · exact k2
        · intro hkf
          subst hkf
          have := hW.spf _ _ _ _ hg
          rw [es] at this
          cases this
  · intro k B2 d2 ek
    by_cases hk1 : k = h.nx
    · subst hk1
      rw [hm1] at ek
      cases ek
      exact hBs
    · rw [hm' _ hk1] at ek
      have := hW.dom _ _ _ ek
      omega
  · -- apart
    have info : ∀ k o, k ≠ h.nx → (if k = b then some (.cells c0 fam false) else (kill l b h.bl).get k) = some o → ∃ o0, h.bl.get k = some o0 ∧ famOf o = famOf o0 ∧ isRo o = isRo o0 := by
      intro k o hk1 ek
      by_cases hk2 : k = b
      · subst hk2
        rw [if_pos rfl] at ek
        cases ek
        exact ⟨_, hg, rfl, rfl⟩
      · rw [if_neg hk2] at ek
        obtain ⟨o0, q1, q2⟩ := hbase k o hk1 hk2 ek
        rcases q2 with rfl | rfl
        · exact ⟨_, q1, rfl, rfl⟩
        · exact ⟨o0, q1, dead_fam _, dead_ro _⟩
    have withNew : ∀ k o o0 d', k ≠ h.nx → h.bl.get k = some o0 → famOf o = famOf o0 → m k = some (Bn, d') → famOf o = some fam := by
      intro k o o0 d' hk1 hgk hfam hmk
      rcases hsh with hB1 | hB1
      · subst hB1
        by_cases hk2 : k = b
        · subst hk2
          rw [hg] at hgk
          cases hgk
          rw [hfam]; rfl
        · obtain ⟨c1, rfl⟩ := shares k o0 d' hk2 hgk hmk
          rw [hfam]; rfl
      · have := hW.dom _ _ _ hmk
        omega
    intro b₁ b₂ o₁ o₂ B2 d₁ d₂ e1 e2 f1 f2 hne
    simp only [hget] at e1 e2
    by_cases h1 : b₁ = h.nx
    · subst h1
      rw [if_pos rfl] at e1
      cases e1
      rw [hm1] at f1
      cases f1
      have h2 : b₂ ≠ h.nx := fun e => hne e.symm
      rw [if_neg h2] at e2
      rw [hm' _ h2] at f2
      obtain ⟨p2, q2, r2, _⟩ := info b₂ o₂ h2 e2
      exact .inr ⟨fam, rfl, withNew b₂ o₂ p2 d₂ h2 q2 r2 f2⟩
    · rw [if_neg h1] at e1
      rw [hm' _ h1] at f1
      obtain ⟨p1, q1, r1, s1⟩ := info b₁ o₁ h1 e1
      by_cases h2 : b₂ = h.nx
      · subst h2
        rw [if_pos rfl] at e2
        cases e2
        rw [hm1] at f2
        cases f2
        exact .inr ⟨fam, withNew b₁ o₁ p1 d₁ h1 q1 r1 f1, rfl⟩
      · rw [if_neg h2] at e2
        rw [hm' _ h2] at f2
        obtain ⟨p2, q2, r2, s2⟩ := info b₂ o₂ h2 e2
        rw [r1, r2, s1, s2]
        exact hW.apart _ _ _ _ _ _ _ q1 q2 f1 f2 hne
  · intro k cc f ek hc
    simp only [hget] at ek
    simp only [hgetf]
    have hfam : ∀ k, k = h.nx ∨ k = b → ∃ l2, (if fam = h.nx then some [sz] else if fam = fam then some [h.nx, b] else h.fams.get fam) = some l2 ∧ k ∈ l2 := by
      intro k hk
      rw [if_neg hfn, if_pos rfl]
      exact ⟨_, rfl, by rcases hk with rfl | rfl <;> simp⟩
    by_cases hk1 : k = h.nx
    · subst hk1
      rw [if_pos rfl] at ek
      cases ek
      exact hfam _ (.inl rfl)
    · rw [if_neg hk1] at ek
      by_cases hk2 : k = b
      · subst hk2
        rw [if_pos rfl] at ek
        cases ek
        exact hfam _ (.inr rfl)
      · rw [if_neg hk2] at ek
        obtain ⟨o0, q1, q2⟩ := hbase k _ hk1 hk2 ek
        by_cases hff : f = fam
        · exfalso
          subst hff
          have : ∃ cc, o0 = .cells cc f false := by
            cases o0 with
            | cells c1 f1 r1 => rcases q2 with q2 | q2 <;> cases q2 <;> exact ⟨_, rfl⟩
            | _ => rcases q2 with q2 | q2 <;> cases q2
          obtain ⟨f2, r2, e2⟩ := hdead k o0 _ hk2 q1 this ek
          cases e2
          exact hc rfl
        · have h3 : h.bl.get k = some (.cells cc f false) := by
            rcases q2 with q2 | q2
            · rw [q1, q2]
            · cases o0 with
              | cells c1 f1 r1 => cases q2; exact absurd rfl hc
              | _ => cases q2
          obtain ⟨l2, g4, g5⟩ := hW.kin k cc f h3 hc
          have hfl := hW.fam _ _ _ _ h3
          rw [if_neg (by omega), if_neg hff]
          exact ⟨l2, g4, g5⟩
  · intro k cc f ro ek
    simp only [hget] at ek
    have hfl := hW.fam _ _ _ _ hg
    show f < h.nx + 1
    by_cases hk1 : k = h.nx
    · subst hk1
      rw [if_pos rfl] at ek
      cases ek
      omega
    · rw [if_neg hk1] at ek
      by_cases hk2 : k = b
      · subst hk2
        rw [if_pos rfl] at ek
        cases ek
        omega
      · rw [if_neg hk2] at ek
        obtain ⟨o0, q1, q2⟩ := hbase k _ hk1 hk2 ek
        cases o0 with
        | cells c1 f1 r1 =>
          have := hW.fam _ _ _ _ q1
          rcases q2 with q2 | q2 <;> cases q2 <;> omega
        | _ => rcases q2 with q2 | q2 <;> cases q2
  · intro g hg'
    have := hW.glob g hg'
    have hne : g ≠ h.nx := fun e => by subst e; rw [hfr.1] at this; cases this
    rw [hm' g hne]
    exact this

/-! ## A draw -/
theorem WR.drew (hW : WR P m w0 h w) : WR P m w0 h w.drew :=
  ⟨fun b o e => let ⟨B, d, h1, h2, h3⟩ := hW.obj b o e; ⟨B, d, h1, OR.frame rfl h2, h3⟩, hW.fresh, hW.spn, hW.spf, fun b B d z E e1 e2 => hW.spr b B d z E e1 e2, hW.dom, hW.apart, hW.kin, hW.fam, hW.below.drew, hW.glob⟩

theorem numOk_info {el : TypeId} {k : Nat} (e : numOk P el k = true) : ∃ i z, P.info? el = some i ∧ zeroOf P el = some z ∧ k < 1000000 ∧ i.bytes < 1000000 ∧ z.cells.size = i.size := by
  unfold numOk at e
  split at e
  · rename_i i z hi hz
    simp only [Bool.and_eq_true] at e
    obtain ⟨a, b, c⟩ := e
    exact ⟨i, z, hi, hz, by simpa [Nat.blt_eq, bigNat] using a, by simpa [Nat.blt_eq, bigNat] using b, Nat.eq_of_beq_eq_true c⟩
  · cases e

theorem fits {k c b : Nat} (hk : k < 1000000) (hb : b < 1000000) (hc : c < k) : ((k : Nat) : Int) ≤ 9223372036854775807 ∧ Builtin.nextslicecap k c * b ≤ 281474976710656 := by
  refine ⟨by omega, ?_⟩
  have h1 := Room.nextslicecap_le' hc
  have h2 : Builtin.nextslicecap k c * b ≤ (2 * 1000000) * 1000000 := Nat.mul_le_mul (by omega) (by omega)
  omega

theorem growN_rel (hW : WR P m w0 h w) {sz : Nat} {c : List Value} {K : Nat → AHeap → Bool} (e : growN h sz c K = true) (c' : Array Value) (el : TypeId) (fr : Nat × Nat) (hfr : c'.size ≤ fr.1 ∨ fr.2 = 0)
    (hc : ∀ (i : Nat) (v : Value), c[i]? = some v → ∃ v', c'[i]? = some v' ∧ VR m v v' ∧ oneB v' = true) :
    ∃ h', M.le m (m.put2 (h.nx + 1) (w.heap.size, 0) (sz, c'.size)) ∧ WR P (m.put2 (h.nx + 1) (w.heap.size, 0) (sz, c'.size)) w0 h' (w.alloc (.cells c' el fr)) ∧ K (h.nx + 1) h' = true := by
  unfold growN at e
  rw [fSpine_eq, fNat_eq, T.setK_eq, T.setK_eq, T.setK_eq, fNat_eq] at e
  have hfn := hW.fresh (h.nx + 1) (Nat.le_succ _)
  have hsn := hW.spn (h.nx + 1) (Nat.le_succ _)
  have hsn0 := hW.spn h.nx (Nat.le_refl _)
  have hle := M.le_put2 hfn.1 hsn (w.heap.size, 0) (sz, c'.size)
  refine ⟨_, hle, ?_, e⟩
  have hm' : ∀ k, k ≠ h.nx + 1 → (m.put2 (h.nx + 1) (w.heap.size, 0) (sz, c'.size)) k = m k := fun k e => by unfold M.put2; simp only [if_neg e]
  have hm1 : (m.put2 (h.nx + 1) (w.heap.size, 0) (sz, c'.size)) (h.nx + 1) = some (w.heap.size, 0) := by unfold M.put2; simp only [if_pos]
  have hs' : ∀ k, k ≠ h.nx + 1 → (m.put2 (h.nx + 1) (w.heap.size, 0) (sz, c'.size)).sp k = m.sp k := fun k e => by unfold M.put2; simp only [if_neg e]
  have hs1 : (m.put2 (h.nx + 1) (w.heap.size, 0) (sz, c'.size)).sp (h.nx + 1) = some (sz, c'.size) := by unfold M.put2; simp only [if_pos]
  have hget : ∀ k, (T.set (h.nx + 1 + 1) h.bl (h.nx + 1) (.cells c h.nx false)).get k = if k = h.nx + 1 then some (.cells c h.nx false) else h.bl.get k := fun k => T.get_set _ _ _ _ _ (Nat.lt_succ_self _)
  have hgetf : ∀ f, (T.set (h.nx + 1 + 1) (T.set (h.nx + 1) h.fams h.nx [h.nx + 1]) (h.nx + 1) [sz]).get f = if f = h.nx + 1 then some [sz] else if f = h.nx then some [h.nx + 1] else h.fams.get f := by
    intro f
    rw [T.get_set _ _ _ _ _ (Nat.lt_succ_self _), T.get_set _ _ _ _ _ (Nat.lt_succ_self _)]
  have hblk : ∀ B2, B2 < w.heap.size → (w.alloc (.cells c' el fr)).heap[B2]? = w.heap[B2]? := fun B2 h2 => Below.heap_alloc _ _ _ h2
  have hcell : ∀ i, (w.alloc (.cells c' el fr)).cell? ⟨w.heap.size, i, none⟩ = c'[i]? := fun i => by
    have := heap_alloc_new w (.cells c' el fr)
    simp only [World.cell?, this]
    simp
  have hfroz : ∀ i, i < c'.size → (w.alloc (.cells c' el fr)).frozen? ⟨w.heap.size, i, none⟩ = false := fun i hi => by
    have := heap_alloc_new w (.cells c' el fr)
    obtain ⟨f1, f2⟩ := fr
    simp only [World.frozen?, this]
    simp only at hfr
    simp
    omega
  have hsz : (w.alloc (.cells c' el fr)).heap.size = w.heap.size + 1 := by show (w.heap.push _).size = _; simp
  refine ⟨?_, ?_, ?_, ?_, ?_, ?_, ?_, ?_, ?_, hW.below.alloc hW.below.size _, ?_⟩
  · intro k o ek
    simp only [hget] at ek
    by_cases hk1 : k = h.nx + 1
    · subst hk1
      rw [if_pos rfl] at ek
      cases ek
      refine ⟨w.heap.size, 0, hm1, ?_, fun _ => hW.below.size, fun hr => by cases hr⟩
      intro i v hv
      obtain ⟨v', q1, q2, q3⟩ := hc i v hv
      rw [Nat.zero_add]
      exact ⟨v', by rw [hcell]; exact q1, q2.mono hle, q3, fun _ => hfroz i (Array.getElem?_eq_some_iff.1 q1).1⟩
    · rw [if_neg hk1] at ek
      obtain ⟨B2, d2, k1, k2, k3⟩ := hW.obj k o ek
      exact ⟨B2, d2, by rw [hm' _ hk1]; exact k1, OR.mono hle (OR.frame (hblk B2 (hW.dom _ _ _ k1)) k2), k3⟩
  · intro k hk
    have hk' : h.nx + 1 + 1 ≤ k := hk
    have h2 := hW.fresh k (by omega)
    refine ⟨by rw [hm' _ (by omega)]; exact h2.1, ?_⟩
    simp only [hget]
    rw [if_neg (by omega)]
    exact h2.2
  · intro k hk
    have hk' : h.nx + 1 + 1 ≤ k := hk
    rw [hs' k (by omega)]
    exact hW.spn k (by omega)
  · intro k cc f ro ek
    simp only [hget] at ek
    by_cases hk1 : k = h.nx + 1
    · subst hk1
      rw [if_pos rfl] at ek
      cases ek
      rw [hs' _ (by omega)]
      exact hsn0
    · rw [if_neg hk1] at ek
      have := hW.fam _ _ _ _ ek
      rw [hs' _ (by omega)]
      exact hW.spf _ _ _ _ ek
  · intro k B2 d2 z E2 ek es
    by_cases hk1 : k = h.nx + 1
    · subst hk1
      rw [hm1] at ek
      rw [hs1] at es
      cases ek
      cases es
      refine ⟨fun j _ hj => ⟨?_, hfroz j hj⟩, fun v hv => by simp [hgetf] at hv; exact hv.symm⟩
      rw [hcell, Array.getElem?_eq_getElem hj]
      rfl
    · rw [hm' _ hk1] at ek
      rw [hs' _ hk1] at es
      obtain ⟨k1, k2⟩ := hW.spr k B2 d2 z E2 ek es
      have hb2 := hblk B2 (hW.dom _ _ _ ek)
      refine ⟨fun j j1 j2 => ?_, ?_⟩
      · obtain ⟨k3, k4⟩ := k1 j j1 j2
        rw [World.cell?_of_block (w := w) (a := ⟨B2, j, none⟩) hb2, World.frozen?_of_block (w := w) (a := ⟨B2, j, none⟩) hb2]
        exact ⟨k3, k4⟩
      · have hkn : k ≠ h.nx := fun e => by subst e; rw [hsn0] at es; cases es
        simp only [hgetf]
        rw [if_neg hk1, if_neg hkn]
        exact k2
  · intro k B2 d2 ek
    rw [hsz]
    by_cases hk1 : k = h.nx + 1
    · subst hk1
      rw [hm1] at ek
      cases ek
      omega
    · rw [hm' _ hk1] at ek
      have := hW.dom _ _ _ ek
      omega
  · intro b₁ b₂ o₁ o₂ B2 d₁ d₂ e1 e2 f1 f2 hne
    simp only [hget] at e1 e2
    by_cases h1 : b₁ = h.nx + 1
    · subst h1
      rw [hm1] at f1
      cases f1
      rw [hm' _ (fun e => hne e.symm)] at f2
      have := hW.dom _ _ _ f2
      omega
    · rw [if_neg h1] at e1
      rw [hm' _ h1] at f1
      by_cases h2 : b₂ = h.nx + 1
      · subst h2
        rw [hm1] at f2
        cases f2
        have := hW.dom _ _ _ f1
        omega
      · rw [if_neg h2] at e2
        rw [hm' _ h2] at f2
        exact hW.apart _ _ _ _ _ _ _ e1 e2 f1 f2 hne
  · intro k cc f ek hcc
    simp only [hget] at ek
    simp only [hgetf]
    by_cases hk1 : k = h.nx + 1
    · subst hk1
      rw [if_pos rfl] at ek
      cases ek
      rw [if_neg (by omega), if_pos rfl]
      exact ⟨_, rfl, by simp⟩
    · rw [if_neg hk1] at ek
      obtain ⟨l, g1, g2⟩ := hW.kin k cc f ek hcc
      have := hW.fam _ _ _ _ ek
      rw [if_neg (by omega), if_neg (by omega)]
      exact ⟨l, g1, g2⟩
  · intro k cc f ro ek
    simp only [hget] at ek
    show f < h.nx + 1 + 1
    by_cases hk1 : k = h.nx + 1
    · subst hk1
      rw [if_pos rfl] at ek
      cases ek
      omega
    · rw [if_neg hk1] at ek
      have := hW.fam _ _ _ _ ek
      omega
  · intro g hg'
    have := hW.glob g hg'
    have hne : g ≠ h.nx + 1 := fun e => by subst e; rw [hfn.1] at this; cases this
    rw [hm' g hne]
    exact this

theorem zeroCells_size (z : Array Value) (k : Nat) : (Builtin.zeroCells z k).size = k * z.size := by simp [Builtin.zeroCells]

theorem appendNil_rel (hW : WR P m w0 h w) {st tx ty el : TypeId} {new new' : List Value} {k sz : Nat} {x' : Value} {K : KV} (hst : P.underlying st = some (.slice el)) (hsz : sizeB P el = some sz)
    (hs : Src P sz tx x' k new' w) (hn : LR m new new') (h1 : ∀ u ∈ new', oneB u = true) (e : appendNil P h el sz new k K = true) :
    ∃ v v' w' m' h', (Builtin.append_ #[st, tx] ty #[.slice none 0 0, x']).run P w = .ok v' w' ∧ M.le m m' ∧ VR m' v v' ∧ WR P m' w0 h' w' ∧ K v h' = true := by
  obtain ⟨i, hi, his⟩ := sizeB_info hsz
  subst his
  unfold appendNil at e
  cases hk0 : Nat.beq k 0 with
  | true =>
    have hk : k = 0 := Nat.eq_of_beq_eq_true hk0
    subst hk
    rw [hk0, cond_true] at e
    refine ⟨_, .slice none 0 0, w, m, h, ?_, M.le_refl m, .nilSl, hW, e⟩
    rcases hs.kind with ⟨e', hk⟩ | hk <;> simp [Builtin.append_, run_und hst, run_und hk, run_size hi, hs.len, hs.cells]
  | false =>
    rw [hk0, cond_false] at e
    have hkpos : 0 < k := Nat.pos_of_ne_zero (Nat.ne_of_beq_eq_false hk0)
    cases hno : numOk P el k with
    | false => rw [hno] at e; cases e
    | true =>
      rw [hno, cond_true] at e
      obtain ⟨i', z, hi', hz, n1, n2, n3⟩ := numOk_info hno
      rw [hi] at hi'
      cases hi'
      obtain ⟨i2, hi2, hz2, _, _⟩ := zeroOf_info hz
      rw [hi] at hi2
      cases hi2
      obtain ⟨f1, f2⟩ := fits (c := 0) n1 n2 hkpos
      have hrun := run_append_grow_src (P := P) w st tx ty el i z hst hi hz2 none 0 0 [] (by simp [Builtin.firstCells]) x' k new' hs (by omega) (by simpa using f1) (by simpa using f2)
      simp only [Nat.zero_add, List.nil_append] at hrun
      have hcap := grownCap_ge w k 0 el
      have hW' := hW.drew
      have hlen : new'.length = k * i.size := hs.newsLen
      obtain ⟨h', q1, q2, q3⟩ := growN_rel hW' e (new'.toArray ++ Builtin.zeroCells z.cells (grownCap w k 0 el - k)) el (0, 0) (.inr rfl) (fun j v hj => by
        obtain ⟨v', k1, k2⟩ := hn.get j v hj
        refine ⟨v', ?_, k2, h1 v' (List.mem_of_getElem? k1)⟩
        rw [Array.getElem?_append_left (by simpa using (List.getElem?_eq_some_iff.1 k1).1)]
        simpa using k1)
      refine ⟨_, _, _, _, h', hrun, q1, ?_, q2, q3⟩
      have hE : (new'.toArray ++ Builtin.zeroCells z.cells (grownCap w k 0 el - k)).size = grownCap w k 0 el * i.size := by
        rw [Array.size_append, zeroCells_size, n3]
        simp only [List.size_toArray, hlen]
        rw [← Nat.add_mul]
        congr 1
        omega
      refine .sl (B := w.heap.size) (d := 0) 0 k k (grownCap w k 0 el) (M.put2_f m _ _ _) hcap (.inr ⟨i.size, _, M.put2_sp m _ _ _, ?_⟩)
      rw [hE]
      omega

theorem appendGrow_rel (hW : WR P m w0 h w) {st tx ty el : TypeId} {new new' : List Value} {k sz b off len cap cap' B d : Nat} {x' : Value} {K : KV} (hst : P.underlying st = some (.slice el)) (hsz : sizeB P el = some sz)
    (hs : Src P sz tx x' k new' w) (hn : LR m new new') (h1 : ∀ u ∈ new', oneB u = true) (hm : m b = some (B, d)) (hz0 : cap' = cap ∨ ∃ z E, m.sp b = some (z, E) ∧ off + d + cap' * z ≤ E) (hneed : cap < len + k)
    (e : appendGrow P h el sz b off len new k K = true) :
    ∃ v v' w' m' h', (Builtin.append_ #[st, tx] ty #[.slice (some ⟨B, off + d, none⟩) len cap', x']).run P w = .ok v' w' ∧ M.le m m' ∧ VR m' v v' ∧ WR P m' w0 h' w' ∧ K v h' = true := by
  obtain ⟨i, hi, his⟩ := sizeB_info hsz
  subst his
  unfold appendGrow at e
  split at e
  · rename_i c fam hg
    cases hcnd : (Nat.ble (Nat.add off (Nat.mul len i.size)) c.length && (numOk P el (Nat.add len k) && zOk h b i.size)) with
    | false => rw [hcnd] at e; cases e
    | true =>
      rw [hcnd, cond_true] at e
      simp only [Bool.and_eq_true] at hcnd
      obtain ⟨c1, c2, c3⟩ := hcnd
      have c1' : off + len * i.size ≤ c.length := Nat.le_of_ble_eq_true c1
      obtain ⟨i', z, hi', hz, n1, n2, n3⟩ := numOk_info c2
      rw [hi] at hi'
      cases hi'
      obtain ⟨i2, hi2, hz2, _, _⟩ := zeroOf_info hz
      rw [hi] at hi2
      cases hi2
      split at e
      · cases e
      · rename_i l hl
        obtain ⟨B', d', g1, g2, g3, _⟩ := hW.obj b _ hg
        rw [hm] at g1
        cases g1
        have hB := g3 rfl
        have hBlt := hW.dom _ _ _ hm
        have hlen : new'.length = k * i.size := hs.newsLen
        obtain ⟨olds', o1, o2, o3⟩ := cells_range g2 off ((c.drop off).take (len * i.size)) (fun j v hj => by
          rw [List.getElem?_take] at hj
          split at hj
          · simpa [List.getElem?_drop] using hj
          · cases hj)
        have holen : olds'.length = len * i.size := by rw [← o1.length]; simp; omega
        have hLR : LR m ((c.drop off).take (len * i.size) ++ new) (olds' ++ new') := o1.append hn
        have hones : ∀ u ∈ olds' ++ new', oneB u = true := by
          intro u hu
          rcases List.mem_append.1 hu with hu | hu
          · exact o2 u hu
          · exact h1 u hu
        by_cases hroom : len + k ≤ cap'
        · -- there is room in the world's row
          have hne : cap' ≠ cap := by omega
          obtain ⟨z0, E, z1, z2⟩ := hz0.resolve_left hne
          have hzz : z0 = i.size := zOk_eq hW c3 hm z1
          subst hzz
          obtain ⟨hsp, _⟩ := hW.spr b B d _ E hm z1
          have hmul : (len + k) * i.size ≤ cap' * i.size := Nat.mul_le_mul_right _ hroom
          have hsplit : (len + k) * i.size = len * i.size + k * i.size := Nat.add_mul _ _ _
          have hin : ∀ j, j < new'.length → (w.cell? ⟨B, off + d + len * i.size + j, none⟩).isSome = true ∧ w.frozen? ⟨B, off + d + len * i.size + j, none⟩ = false := fun j hj => hsp _ (by omega) (by omega)
          have hrun := run_append_room_src (P := P) w st tx ty el i hst hi B (off + d) len cap' x' k new' hs hroom (fun j hj => (hin j hj).1) (fun j hj => (hin j hj).2)
          obtain ⟨h', q1, q2⟩ := hW.grow (w' := w.setCells B (off + d + len * i.size) new') hg hm hl (off + len * i.size) i.size B (off + d) E rfl hB (by rw [size_setCells]; exact hBlt) (.inl rfl) (by rw [size_setCells]; exact Nat.le_refl _)
            (fun B2 _ hB2 => heap_setCells B new' _ w B2 hB2)
            (fun j hj => World.cell?_setCells_out B new' _ w ⟨B, d + j, none⟩ (fun _ _ => .inl (by show d + j < off + d + len * i.size; omega)))
            (fun j => World.frozen?_setCells B new' _ w _)
            (fun j hj => World.isSome_setCells B new' _ w _ hj)
            (fun j v hj => by
              obtain ⟨v', k1, k2⟩ := hLR.get j v hj
              have k3 := hones v' (List.mem_of_getElem? k1)
              have hjl : j < olds'.length + new'.length := by simpa using (List.getElem?_eq_some_iff.1 k1).1
              refine ⟨v', ?_, k2, k3, ?_⟩
              · by_cases hjo : j < olds'.length
                · rw [List.getElem?_append_left hjo] at k1
                  rw [World.cell?_setCells_out B new' _ w ⟨B, off + d + j, none⟩ (fun _ _ => .inl (by show off + d + j < off + d + len * i.size; omega))]
                  exact o3 j v' k1
                · rw [List.getElem?_append_right (by omega)] at k1
                  have hj2 : j - olds'.length < new'.length := by omega
                  have := World.cell?_setCells_in B new' (off + d + len * i.size) w (fun j hj => (hin j hj).1) (j - olds'.length) hj2
                  rw [show off + d + j = off + d + len * i.size + (j - olds'.length) by omega, this, ← k1, List.getElem?_eq_getElem hj2]
              · rw [World.frozen?_setCells]
                exact (hsp _ (by omega) (by omega)).2)
            (fun j j1 j2 => by
              obtain ⟨k3, k4⟩ := hsp j (by omega) j2
              exact ⟨World.isSome_setCells B new' _ w _ k3, by rw [World.frozen?_setCells]; exact k4⟩)
            (below_setCells B hB new' _ w hW.below) e
          rw [fNat_eq] at q2
          refine ⟨_, _, _, _, h', hrun, M.le_put2 (hW.fresh h.nx (Nat.le_refl _)).1 (hW.spn h.nx (Nat.le_refl _)) _ _, ?_, q1, q2⟩
          have hsl := VR.sl (m := m.put2 h.nx (B, off + d) (i.size, E)) (b := h.nx) (B := B) (d := off + d) 0 (len + k) (len + k) cap' (M.put2_f m _ _ _) hroom (.inr ⟨i.size, E, M.put2_sp m _ _ _, by omega⟩)
          rw [Nat.zero_add] at hsl
          exact hsl
        · -- the world's row grows
          obtain ⟨f1, f2⟩ := fits (c := cap') n1 n2 (by show cap' < len + k; omega)
          have hW' := hW.drew
          have hold : (Builtin.firstCells i.size len (.slice (some ⟨B, off + d, none⟩) len cap')).run P w.drew = .ok olds'.toArray w.drew := by
            refine run_firstCells_some (P := P) w.drew i.size len ⟨B, off + d, none⟩ len cap' olds' holen (fun j v hj => ?_)
            rw [Addr.add_mid]
            exact o3 j v hj
          have hrun := run_append_grow_src (P := P) w st tx ty el i z hst hi hz2 (some ⟨B, off + d, none⟩) len cap' olds' hold x' k new' hs (by omega) f1 f2
          have hcap := grownCap_ge w (len + k) cap' el
          have hE : ((olds' ++ new').toArray ++ Builtin.zeroCells z.cells (grownCap w (len + k) cap' el - (len + k))).size = grownCap w (len + k) cap' el * i.size := by
            rw [Array.size_append, zeroCells_size, n3]
            simp only [List.size_toArray, List.length_append, hlen, holen]
            rw [← Nat.add_mul, ← Nat.add_mul]
            congr 1
            omega
          generalize hcs : ((olds' ++ new').toArray ++ Builtin.zeroCells z.cells (grownCap w (len + k) cap' el - (len + k))) = cs at hrun hE
          have hnw := heap_alloc_new w.drew (.cells cs el)
          have hcell : ∀ j, (w.drew.alloc (.cells cs el)).cell? ⟨w.heap.size, j, none⟩ = cs[j]? := fun j => by
            have hnw' : (w.drew.alloc (.cells cs el)).heap[w.heap.size]? = some (.cells cs el) := hnw
            simp only [World.cell?, hnw']
            simp
          have hfroz : ∀ j, (w.drew.alloc (.cells cs el)).frozen? ⟨w.heap.size, j, none⟩ = false := fun j => by
            have hnw' : (w.drew.alloc (.cells cs el)).heap[w.heap.size]? = some (.cells cs el) := hnw
            simp only [World.frozen?, hnw']
            simp
          have hsz1 : (w.drew.alloc (.cells cs el)).heap.size = w.heap.size + 1 := by show (w.heap.push _).size = _; simp
          have hblk : ∀ B2, B2 < w.heap.size → (w.drew.alloc (.cells cs el)).heap[B2]? = w.heap[B2]? := fun B2 h2 => Below.heap_alloc w.drew _ _ h2
          obtain ⟨h', q1, q2⟩ := hW.grow (w' := w.drew.alloc (.cells cs el)) hg hm hl (off + len * i.size) i.size w.heap.size 0 cs.size rfl hW.below.size (by omega) (.inr (Nat.le_refl _)) (by omega)
            (fun B2 hB2 _ => hblk B2 hB2)
            (fun j _ => World.cell?_of_block (w := w) (a := ⟨B, d + j, none⟩) (hblk B hBlt))
            (fun j => World.frozen?_of_block (w := w) (a := ⟨B, j, none⟩) (hblk B hBlt))
            (fun j hj => by rw [World.cell?_of_block (w := w) (a := ⟨B, j, none⟩) (hblk B hBlt)]; exact hj)
            (fun j v hj => by
              obtain ⟨v', k1, k2⟩ := hLR.get j v hj
              refine ⟨v', ?_, k2, hones v' (List.mem_of_getElem? k1), hfroz _⟩
              rw [Nat.zero_add, hcell, ← hcs, Array.getElem?_append_left (by simpa using (List.getElem?_eq_some_iff.1 k1).1)]
              simpa using k1)
            (fun j _ hj => ⟨by rw [hcell, Array.getElem?_eq_getElem hj]; rfl, hfroz j⟩)
            (hW'.below.alloc hW'.below.size _) e
          rw [fNat_eq] at q2
          refine ⟨_, _, _, _, h', hrun, M.le_put2 (hW.fresh h.nx (Nat.le_refl _)).1 (hW.spn h.nx (Nat.le_refl _)) _ _, ?_, q1, q2⟩
          exact VR.sl (m := m.put2 h.nx (w.heap.size, 0) (i.size, cs.size)) (b := h.nx) (B := w.heap.size) (d := 0) 0 (len + k) (len + k) (grownCap w (len + k) cap' el) (M.put2_f m _ _ _) hcap (.inr ⟨i.size, cs.size, M.put2_sp m _ _ _, by rw [hE]; omega⟩)
  · cases e

end
end Go.Ev
