import Derived.Test.YtnlmonmeapbblaaGreatEv44
/- An append onto a copy. -/
namespace Go.Ev
open Go.RowKit
section
variable {P : Program} {n : Nat} {t : T Value} {h : AHeap} {ops : Array Oper} {call : CallT} {dst : Option Tmp} {ty : TypeId} {pos : String} {af : Array Edge} {g : Option (Nat × Bool)}
/-- A slice of a family from lo on, whether its rows were copied or not. -/
structure AppC (lo : Nat) (h : AHeap) (sz : Nat) (v : Value) (cs : List (List Value)) (F : Nat) : Prop where
  at_ : ∃ B l, v = .slice (some ⟨B, 0, none⟩) cs.length cs.length ∧ lo ≤ B ∧ B < h.nx ∧ h.bl.get B = some (.cells cs.flatten F false) ∧ lo ≤ F ∧ F < h.nx ∧ h.fams.get F = some l ∧ (∀ x, x ∈ l → lo ≤ x ∧ x < h.nx ∧ ∃ c, h.bl.get x = some (.cells c F false)) ∧ (F = B ∨ (h.fams.get B = some [sz] ∧ F ≠ B))
  sized : ∀ c, c ∈ cs → c.length = sz
theorem AppC.mono {lo sz F : Nat} {h h' : AHeap} {v : Value} {cs : List (List Value)} (k : AppC lo h sz v cs F) (a : Kp h h') : AppC lo h' sz v cs F := by
  obtain ⟨⟨B, l, k1, k2, k3, k4, k5, k6, k7, k8, k9⟩, k10⟩ := k
  have ha := a.1
  refine ⟨⟨B, l, k1, k2, by omega, (a.get k3).trans k4, k5, by omega, (a.fget k6).trans k7, fun x hx => ?_, ?_⟩, k10⟩
  · obtain ⟨q1, q2, c, q3⟩ := k8 x hx
    exact ⟨q1, by omega, c, (a.get q2).trans q3⟩
  · rcases k9 with k9 | ⟨k9, k11⟩
    · exact .inl k9
    · exact .inr ⟨(a.fget k3).trans k9, k11⟩
theorem Copied.appC {lo sz b : Nat} {h h' : AHeap} {v : Value} {cs : List (List Value)} (k : Copied h h' b sz v cs) (hl : lo ≤ b) (hb : b < h.nx) (hs : ∀ c, c ∈ cs → c.length = sz) : AppC lo h' sz v cs b := by
  obtain ⟨B, l, k1, k2, k3, k4, k5, k6, k7⟩ := k.at_
  have hle := k.le
  refine ⟨⟨B, l, k1, by omega, k3, k4, hl, by omega, k5, fun x hx => ?_, ?_⟩, hs⟩
  · obtain ⟨q1, q2, q3⟩ := k6 x hx
    exact ⟨by omega, q2, q3⟩
  · rcases k7 with k7 | k7
    · exact .inl k7.symm
    · exact .inr k7
/-- Rows at a block from lo on. -/
def RNew (lo : Nat) (h : AHeap) (sz : Nat) (v : Value) (rows : List (List Value)) : Prop := rows ≠ [] ∧ (∀ c, c ∈ rows → c.length = sz) ∧ ∃ b k f, v = .slice (some ⟨b, 0, none⟩) rows.length k ∧ lo ≤ b ∧ b < h.nx ∧ h.bl.get b = some (.cells rows.flatten f false)
theorem RNew.at {lo sz : Nat} {h : AHeap} {v : Value} {rows : List (List Value)} (k : RNew lo h sz v rows) : SlAt h sz v rows := by
  obtain ⟨k1, k2, b, c, f, k3, _, k5, k6⟩ := k
  exact .inr ⟨b, c, f, false, k1, k3, k5, k6, k2⟩
theorem RNew.upd {lo sz B f : Nat} {d : List Value} {h : AHeap} {v : Value} {rows : List (List Value)} (k : RNew lo h sz v rows) (hB : B < lo) : RNew lo (h.upd B d f) sz v rows := by
  obtain ⟨k1, k2, b, c, f, k3, k4, k5, k6⟩ := k
  exact ⟨k1, k2, b, c, f, k3, k4, k5, by rw [upd_ne _ _ _ (by omega)]; exact k6⟩
theorem Copied.kp {b sz : Nat} {H h h' : AHeap} {v : Value} {cs : List (List Value)} (k : Copied h h' b sz v cs) (a : Kp H h) (hb : H.nx ≤ b) : Kp H h' :=
  ⟨Nat.le_trans a.1 k.le, fun j hj => by
    have := a.1
    rw [k.bl j (by omega) (by omega), k.fam j (by omega) (by omega)]
    exact a.2 j hj⟩
theorem aw_appC {lo sz F : Nat} {v : Value} {cs : List (List Value)} {c : List Value} {e : TypeId} {st xt e' : TypeId} {s x : Operand} {bx cx fx : Nat} {rx : Bool} (hst : slOf P st = some e) (hxt : P.underlying xt = some (.slice e')) (hs : ev P t s = v) (hx : ev P t x = .slice (some ⟨bx, 0, none⟩) 1 cx)
    (k : AppC lo h sz v cs F) (hHh : lo ≤ h.nx) (hsz : sizeB P e = some sz) (hc : c.length = sz) (hbx : h.bl.get bx = some (.cells c fx rx)) (hnum : numOk P e 1 = true) (hn : cs.length + 1 < bigNat) :
    ∃ v' h', (∀ K : KV, awrite P call t h ⟨dst, .call ⟨.builtin .append, #[s, x], #[st, xt]⟩, ty, pos, af, g⟩ K = K v' h') ∧ RNew lo h' sz v' (cs ++ [c]) ∧ Sm lo h h' := by
  have hko : kindOk P xt (.slice (some ⟨bx, 0, none⟩) 1 cx) = true := by simp only [kindOk, hxt]
  have hsrc : srcCells h sz (.slice (some ⟨bx, 0, none⟩) 1 cx) = some (c, 1) := by
    have h1 : Nat.ble (Nat.add 0 (Nat.mul 1 sz)) c.length = true := Nat.ble_eq_true_of_le (by rw [hc]; show 0 + 1 * sz ≤ sz; omega)
    simp only [srcCells, hbx, h1, cond_true]
    rw [show Nat.mul 1 sz = sz from Nat.one_mul sz, List.drop_zero, List.take_of_length_le (by omega)]
  have hnn : numOk P e (Nat.add cs.length 1) = true := by
    unfold numOk at hnum ⊢
    split at hnum
    · simp only [Bool.and_eq_true] at hnum ⊢
      exact ⟨by rw [Nat.blt_eq]; exact hn, hnum.2⟩
    · cases hnum
  obtain ⟨⟨B, l, rfl, k2, k3, k4, k5, k6, k7, k8, k9⟩, k10⟩ := k
  have hfl : ∀ {l : List (List Value)}, (∀ c, c ∈ l → c.length = sz) → l.flatten.length = l.length * sz := by
    intro l
    induction l with
    | nil => intro _; simp
    | cons a l ih =>
      intro hl
      rw [List.flatten_cons, List.length_append, hl a (by simp), ih fun c hc => hl c (by simp [hc]), List.length_cons, Nat.succ_mul]; omega
  have hlen := hfl k10
  have hble : Nat.ble (Nat.add 0 (Nat.mul cs.length sz)) cs.flatten.length = true := Nat.ble_eq_true_of_le (by rw [hlen]; show 0 + cs.length * sz ≤ _; omega)
  have hz : zOk h B sz = true := by
    unfold zOk
    rw [k4]
    rcases k9 with rfl | ⟨k9, hne⟩
    · simp only [Nat.beq_refl, cond_true]
    · have : Nat.beq F B = false := by cases e : Nat.beq F B with | true => exact absurd (Nat.eq_of_beq_eq_true e) hne | false => rfl
      simp only [this, cond_false, k9, Nat.beq_refl]
  have hcap : Nat.ble (Nat.add cs.length 1) cs.length = false := by
    cases e : Nat.ble (Nat.add cs.length 1) cs.length with
    | false => rfl
    | true => have := Nat.le_of_ble_eq_true e; exact absurd this (by show ¬ cs.length + 1 ≤ cs.length; omega)
  have htk : cs.flatten.take (Nat.add 0 (Nat.mul cs.length sz)) = cs.flatten := List.take_of_length_le (by rw [hlen]; show cs.length * sz ≤ 0 + cs.length * sz; omega)
  have hdt : (cs.flatten.drop 0).take (Nat.mul cs.length sz) = cs.flatten := by
    rw [List.drop_zero, List.take_of_length_le (by rw [hlen]; exact Nat.le_refl _)]
  refine ⟨.slice (some ⟨h.nx, 0, none⟩) (cs.length + 1) (cs.length + 1), h.grow B F sz l cs.flatten (cs.flatten ++ c), fun K => ?_, ⟨by simp, ?_, h.nx, cs.length + 1, F, by simp, hHh, Nat.lt_succ_self _, ?_⟩, ⟨Nat.le_succ _, fun j hj => ⟨?_, ?_⟩⟩⟩
  · simp only [awrite, wCall, wAppend, hst, hs, hx, hko, cond_true, appendA, hsz, hsrc, hcap, cond_false, appendGrow, k4, hble, hnn, hz, Bool.and_self, k7, growH_eq, htk, hdt, fNat_eq]
  · intro d hd
    rcases List.mem_append.1 hd with hd | hd
    · exact k10 d hd
    · simp at hd; subst hd; exact hc
  · show (T.set (h.nx + 1) (T.set (B + 1) (kill l B h.bl) B (.cells cs.flatten F false)) h.nx (.cells (cs.flatten ++ c) F false)).get h.nx = _
    rw [get_eq (by omega), List.flatten_append]; simp
  · have hjl : j ∉ l := fun q => by have := (k8 j q).1; omega
    show (T.set (h.nx + 1) (T.set (B + 1) (kill l B h.bl) B (.cells cs.flatten F false)) h.nx (.cells (cs.flatten ++ c) F false)).get j = _
    rw [get_ne (by omega) (by omega), get_ne (by omega) (by omega), kill_get, if_neg (fun q => hjl q.1)]
  · show (T.set (h.nx + 1) (T.set (F + 1) h.fams F [h.nx, B]) h.nx [sz]).get j = _
    rw [get_ne (by omega) (by omega), get_ne (by omega) (by omega)]
variable {f : Nat} {l : List Info} {i m done : Nat} {hist : List Seen} {KR : T Value → AHeap → Bool} {d fl : Nat} {ids : List (Nat × Nat)}
theorem dmW_copyE {b sz : Nat} {v : Value} {cs : List (List Value)} {e st xt e' : TypeId} {s x : Operand} (hl : Nat.testBit fl i = false) (hi : idAt ids i = none) (hst : slOf P st = some e) (hxt : P.underlying xt = some (.slice e')) (hs : ev P t s = .slice (some ⟨b, 0, none⟩) 0 0) (hx : ev P t x = v) (hsz : sizeB P e = some sz)
    (hg : h.bl.get b = some (.cells [] b false)) (hf : h.fams.get b = some [b]) (hb : b < h.nx) (hv : SlAt h sz v cs) (hnum : numOk P e 1 = true) (hn : cs.length < bigNat) (hd : d < n)
    (kk : ∀ v' h', Copied h h' b sz v' cs → again P h' m hist = true ∧ drawGo P call ops n fl ids f l (Nat.lor done (Nat.pow 2 i)) hist (T.set (d + 1) t d v') h' KR = true) :
    dmW fl ids (some true) P call ops n f l done i m ⟨some d, .call ⟨.builtin .append, #[s, x], #[st, xt]⟩, ty, pos, af, g⟩ hist t h KR = true := by
  obtain ⟨v', h', hw, hc⟩ := aw_copyE (call := call) (dst := some d) (ty := ty) (pos := pos) (af := af) (g := g) hst hxt hs hx hsz hg hf hb hv hnum hn
  obtain ⟨k1, k2⟩ := kk v' h' hc
  exact dmW_some hl hi hw hd k1 k2
theorem dmW_appC {lo sz F : Nat} {v : Value} {cs : List (List Value)} {c : List Value} {e : TypeId} {st xt e' : TypeId} {s x : Operand} {bx cx fx : Nat} {rx : Bool} (hl : Nat.testBit fl i = false) (hi : idAt ids i = none) (hst : slOf P st = some e) (hxt : P.underlying xt = some (.slice e')) (hs : ev P t s = v) (hx : ev P t x = .slice (some ⟨bx, 0, none⟩) 1 cx)
    (k : AppC lo h sz v cs F) (hHh : lo ≤ h.nx) (hsz : sizeB P e = some sz) (hc : c.length = sz) (hbx : h.bl.get bx = some (.cells c fx rx)) (hnum : numOk P e 1 = true) (hn : cs.length + 1 < bigNat) (hd : d < n)
    (kk : ∀ v' h', RNew lo h' sz v' (cs ++ [c]) → Sm lo h h' → again P h' m hist = true ∧ drawGo P call ops n fl ids f l (Nat.lor done (Nat.pow 2 i)) hist (T.set (d + 1) t d v') h' KR = true) :
    dmW fl ids (some true) P call ops n f l done i m ⟨some d, .call ⟨.builtin .append, #[s, x], #[st, xt]⟩, ty, pos, af, g⟩ hist t h KR = true := by
  obtain ⟨v', h', hw, h1, h2⟩ := aw_appC (call := call) (dst := some d) (ty := ty) (pos := pos) (af := af) (g := g) hst hxt hs hx k hHh hsz hc hbx hnum hn
  obtain ⟨k1, k2⟩ := kk v' h' h1 h2
  exact dmW_some hl hi hw hd k1 k2
end
end Go.Ev
