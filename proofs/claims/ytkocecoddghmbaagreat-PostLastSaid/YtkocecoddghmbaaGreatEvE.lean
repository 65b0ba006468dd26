import Derived.Test.YtkocecoddghmbaaGreatEvD
/- Copies of slices, frames around one block, and writes in drawn regions. -/
namespace Go.Ev
open Go.RowKit

/-- All that was there is as it was, but for the cells of block B. -/
structure Fr (H : AHeap) (B : Nat) (h : AHeap) : Prop where
  le : H.nx ≤ h.nx
  bl : ∀ k, k < H.nx → k ≠ B → h.bl.get k = H.bl.get k
  fam : ∀ k, k < H.nx → h.fams.get k = H.fams.get k
theorem Fr.refl {H : AHeap} {B : Nat} : Fr H B H := ⟨Nat.le_refl _, fun _ _ _ => rfl, fun _ _ => rfl⟩
theorem Fr.kp {H h h' : AHeap} {B : Nat} (a : Fr H B h) (k : Kp h h') : Fr H B h' :=
  ⟨Nat.le_trans a.le k.1, fun j hj hn => (k.get (Nat.lt_of_lt_of_le hj a.le)).trans (a.bl j hj hn), fun j hj => (k.fget (Nat.lt_of_lt_of_le hj a.le)).trans (a.fam j hj)⟩
theorem Fr.sm {H h h' : AHeap} {B lo : Nat} (a : Fr H B h) (k : Sm lo h h') (hl : H.nx ≤ lo) : Fr H B h' :=
  ⟨Nat.le_trans a.le k.1, fun j hj hn => ((k.2 j (Nat.lt_of_lt_of_le hj hl)).1).trans (a.bl j hj hn), fun j hj => ((k.2 j (Nat.lt_of_lt_of_le hj hl)).2).trans (a.fam j hj)⟩
theorem Fr.upd {H h : AHeap} {B f : Nat} {c : List Value} (a : Fr H B h) : Fr H B (h.upd B c f) :=
  ⟨a.le, fun j hj hn => by rw [upd_ne _ _ _ hn]; exact a.bl j hj hn, fun j hj => by rw [upd_fams]; exact a.fam j hj⟩
theorem Fr.toKp {H0 H h : AHeap} {B : Nat} (k : Kp H0 H) (a : Fr H B h) (hB : H0.nx ≤ B) : Kp H0 h :=
  ⟨Nat.le_trans k.1 a.le, fun j hj => ⟨(a.bl j (Nat.lt_of_lt_of_le hj k.1) (by omega)).trans (k.get hj), (a.fam j (Nat.lt_of_lt_of_le hj k.1)).trans (k.fget hj)⟩⟩
section
variable {P : Program} {n : Nat} {t : T Value} {h : AHeap} {ops : Array Oper} {call : CallT} {f : Nat} {l : List Info} {i m done : Nat} {hist : List Seen} {rest : List Oper} {KR : T Value → AHeap → Bool} {dst : Option Tmp} {op : Op} {ty : TypeId} {pos : String} {af : Array Edge} {g : Option (Nat × Bool)} {d : Tmp}
theorem drW_give {v : Value} {h' : AHeap} (hw : ∀ K : KV, awrite P call t h ⟨some d, op, ty, pos, af, g⟩ K = K v h') (hd : d < n) (ha : again P h' m hist = true)
    (k : drawGo P call ops n 0 [] f l (Nat.lor done (Nat.pow 2 i)) hist (T.set (d + 1) t d v) h' KR = true) : drW (some true) P call ops n f l done i m ⟨some d, op, ty, pos, af, g⟩ hist t h KR = true := by
  have : Nat.blt d n = true := by rw [Nat.blt_eq]; exact hd
  simp only [drW, hw, ha, cond_true, putK, this, fV1_eq, T.setK_eq]
  exact k
theorem drW_giveN {v : Value} {h' : AHeap} (hw : ∀ K : KV, awrite P call t h ⟨none, op, ty, pos, af, g⟩ K = K v h') (ha : again P h' m hist = true)
    (k : drawGo P call ops n 0 [] f l (Nat.lor done (Nat.pow 2 i)) hist t h' KR = true) : drW (some true) P call ops n f l done i m ⟨none, op, ty, pos, af, g⟩ hist t h KR = true := by
  simp only [drW, hw, ha, cond_true, putK]
  exact k
theorem drW_app {lo sz F : Nat} {v : Value} {cs : List (List Value)} {c : List Value} {e : TypeId} {st xt e' : TypeId} {s x : Operand} {bx cx fx : Nat} {rx : Bool} (hst : slOf P st = some e) (hxt : P.underlying xt = some (.slice e')) (hs : ev P t s = v) (hx : ev P t x = .slice (some ⟨bx, 0, none⟩) 1 cx)
    (k : App lo h sz v cs F) (hHh : lo ≤ h.nx) (hsz : sizeB P e = some sz) (hc : c.length = sz) (hpos : 0 < sz) (hbx : h.bl.get bx = some (.cells c fx rx)) (hnum : numOk P e 1 = true) (hn : cs.length + 1 < bigNat) (hd : d < n)
    (kk : ∀ v' h' F', Grown lo h h' sz v' cs c F F' → again P h' m hist = true ∧ drawGo P call ops n 0 [] f l (Nat.lor done (Nat.pow 2 i)) hist (T.set (d + 1) t d v') h' KR = true) :
    drW (some true) P call ops n f l done i m ⟨some d, .call ⟨.builtin .append, #[s, x], #[st, xt]⟩, ty, pos, af, g⟩ hist t h KR = true := by
  obtain ⟨v', h', F', hw, hg⟩ := aw_append (call := call) (dst := some d) (ty := ty) (pos := pos) (af := af) (g := g) hst hxt hs hx k hHh hsz hc hpos hbx hnum hn
  obtain ⟨k1, k2⟩ := kk v' h' F' hg
  exact drW_give hw hd k1 k2

/-- A slice literal without elements. -/
theorem aw_lit0 {e : TypeId} {sz : Nat} {sl : TypeId} {z : Value} (h1 : slOf P sl = some e) (h2 : sizeB P e = some sz) (h3 : zeroOf P e = some z) (h4 : z.cells.size = sz) (K : KV) : awrite P call t h ⟨dst, .buildSlice sl 0 #[], ty, pos, af, g⟩ K = K (.slice (some ⟨h.nx, 0, none⟩) 0 0) (h.add []) := by
  have h5 : Nat.ble (Nat.mul 0 sz) 16777216 = true := Nat.ble_eq_true_of_le (by show 0 * sz ≤ _; omega)
  have h6 : okP ([] : List (Nat × Value)) = true := rfl
  have h7 : Nat.beq z.cells.size sz = true := by rw [h4]; exact Nat.beq_refl _
  have h8 : Instr.fill (fun k => some (k * sz, sz)) (⟨repl z.cells.toList 0 []⟩ : Array Value) [] = some #[] := rfl
  simp only [awrite, wBuildSlice, h1, h2, h3, List.map_nil, h6, h5, h7, Bool.and_self, cond_true, h8, wSlice1, newC_add]
/-- What lies behind an append of rows onto an empty literal at block b. -/
structure Copied (h h' : AHeap) (b sz : Nat) (v' : Value) (cs : List (List Value)) : Prop where
  le : h.nx ≤ h'.nx
  bl : ∀ k, k < h.nx → k ≠ b → h'.bl.get k = h.bl.get k
  fam : ∀ k, k < h.nx → k ≠ b → h'.fams.get k = h.fams.get k
  at_ : ∃ B l, v' = .slice (some ⟨B, 0, none⟩) cs.length cs.length ∧ (B = b ∨ B = h.nx) ∧ B < h'.nx ∧ h'.bl.get B = some (.cells cs.flatten b false) ∧ h'.fams.get b = some l ∧ (∀ x, x ∈ l → (x = b ∨ x = h.nx) ∧ x < h'.nx ∧ ∃ c, h'.bl.get x = some (.cells c b false)) ∧ (B = b ∨ (h'.fams.get B = some [sz] ∧ b ≠ B))
theorem aw_copyEX {b sz : Nat} {v : Value} {cs : List (List Value)} {e st xt e' : TypeId} {s x : Operand} (hst : slOf P st = some e) (hxt : P.underlying xt = some (.slice e')) (hs : ev P t s = .slice (some ⟨b, 0, none⟩) 0 0) (hx : ev P t x = v) (hsz : sizeB P e = some sz)
    (hg : h.bl.get b = some (.cells [] b false)) (hf : h.fams.get b = some [b]) (hb : b < h.nx) (hv : SlAt h sz v cs) (hnn : numOk P e cs.length = true) :
    ∃ v' h', (∀ K : KV, awrite P call t h ⟨dst, .call ⟨.builtin .append, #[s, x], #[st, xt]⟩, ty, pos, af, g⟩ K = K v' h') ∧ Copied h h' b sz v' cs := by
  have nil : ∀ w : Value, srcCells h sz w = some ([], 0) → kindOk P xt w = true → ev P t x = w → cs = [] →
      ∃ v' h', (∀ K : KV, awrite P call t h ⟨dst, .call ⟨.builtin .append, #[s, x], #[st, xt]⟩, ty, pos, af, g⟩ K = K v' h') ∧ Copied h h' b sz v' cs := by
    intro w hsw hkw hxw hcs
    subst hcs
    refine ⟨.slice (some ⟨b, 0, none⟩) 0 0, h, fun K => ?_, Nat.le_refl _, fun k _ _ => rfl, fun k _ _ => rfl, b, [b], rfl, .inl rfl, hb, hg, hf, fun y hy => ?_, .inl rfl⟩
    · have h1 : Nat.ble (Nat.add 0 0) 0 = true := rfl
      simp only [awrite, wCall, wAppend, hst, hs, hxw, hkw, cond_true, appendA, hsz, hsw, h1, storeC]
    · simp at hy; subst hy
      exact ⟨.inl rfl, hb, [], hg⟩
  rcases hv with ⟨k1, rfl | rfl⟩ | ⟨bx, cap, fx, ro, k1, rfl, k3, k4, k5⟩
  · exact nil _ rfl (by simp only [kindOk, hxt]) hx k1
  · exact nil _ rfl (by simp only [kindOk, hxt, emptyS]) hx k1
  · have hfl : ∀ {l : List (List Value)}, (∀ c, c ∈ l → c.length = sz) → l.flatten.length = l.length * sz := by
      intro l
      induction l with
      | nil => intro _; simp
      | cons a l ih =>
        intro hl
        rw [List.flatten_cons, List.length_append, hl a (by simp), ih fun c hc => hl c (by simp [hc]), List.length_cons, Nat.succ_mul]; omega
    have hlen := hfl k5
    have hsrc : srcCells h sz (.slice (some ⟨bx, 0, none⟩) cs.length cap) = some (cs.flatten, cs.length) := by
      have hb' : Nat.ble (Nat.add 0 (Nat.mul cs.length sz)) cs.flatten.length = true := Nat.ble_eq_true_of_le (by rw [hlen]; show 0 + cs.length * sz ≤ _; omega)
      simp only [srcCells, k4, hb', cond_true]
      rw [List.drop_zero, List.take_of_length_le (by rw [hlen]; exact Nat.le_refl _)]
    have hpos : 0 < cs.length := by cases cs with | nil => exact absurd rfl k1 | cons a r => simp
    have hcap : Nat.ble cs.length 0 = false := by
      cases q : Nat.ble cs.length 0 with
      | false => rfl
      | true => have := Nat.le_of_ble_eq_true q; omega
    have hble : Nat.ble (Nat.add 0 (Nat.mul 0 sz)) ([] : List Value).length = true := Nat.ble_eq_true_of_le (by show 0 + 0 * sz ≤ 0; omega)
    have hz : zOk h b sz = true := by unfold zOk; rw [hg]; simp only [Nat.beq_refl, cond_true]
    have hko : kindOk P xt (.slice (some ⟨bx, 0, none⟩) cs.length cap) = true := by simp only [kindOk, hxt]
    have htk : ([] : List Value).take (Nat.add 0 (Nat.mul 0 sz)) = [] := by simp
    have hdt : (([] : List Value).drop 0).take (Nat.mul 0 sz) ++ cs.flatten = cs.flatten := by simp
    have hg' : ∀ k, k < h.nx → k ≠ b → (h.grow b b sz [b] [] cs.flatten).bl.get k = h.bl.get k := by
      intro k hk hkb
      show (T.set (h.nx + 1) (T.set (b + 1) (kill [b] b h.bl) b (.cells [] b false)) h.nx (.cells cs.flatten b false)).get k = _
      rw [get_ne (by omega) (by omega), get_ne (by omega) hkb, kill_get, if_neg (fun q => by simp at q)]
    refine ⟨.slice (some ⟨h.nx, 0, none⟩) cs.length cs.length, h.grow b b sz [b] [] cs.flatten, fun K => ?_, Nat.le_succ _, hg', ?_, h.nx, [h.nx, b], rfl, .inr rfl, Nat.lt_succ_self _, get_eq (by omega), ?_, ?_, .inr ⟨get_eq (by omega), by omega⟩⟩
    · simp only [awrite, wCall, wAppend, hst, hs, hx, hko, cond_true, appendA, hsz, hsrc, hcap, cond_false, appendGrow, hg, hble, hnn, hz, Bool.and_self, hf, growH_eq, htk, hdt, fNat_eq, show Nat.add 0 cs.length = cs.length from Nat.zero_add _]
    · intro k hk hkb
      show (T.set (h.nx + 1) (T.set (b + 1) h.fams b [h.nx, b]) h.nx [sz]).get k = _
      rw [get_ne (by omega) (by omega), get_ne (by omega) hkb]
    · show (T.set (h.nx + 1) (T.set (b + 1) h.fams b [h.nx, b]) h.nx [sz]).get b = _
      rw [get_ne (by omega) (by omega), get_eq (by omega)]
    · intro y hy
      simp at hy
      rcases hy with rfl | rfl
      · exact ⟨.inr rfl, Nat.lt_succ_self _, _, get_eq (by omega)⟩
      · refine ⟨.inl rfl, Nat.lt_succ_of_lt hb, [], ?_⟩
        show (T.set (h.nx + 1) (T.set (y + 1) (kill [y] y h.bl) y (.cells [] y false)) h.nx (.cells cs.flatten y false)).get y = _
        rw [get_ne (by omega) (by omega), get_eq (by omega)]
end
end Go.Ev

/- An append onto a copy. -/
namespace Go.Ev
open Go.RowKit
section
variable {P : Program} {n : Nat} {t : T Value} {h : AHeap} {ops : Array Oper} {call : CallT} {dst : Option Tmp} {ty : TypeId} {pos : String} {af : Array Edge} {g : Option (Nat × Bool)}
/-- A slice of a family from lo on, whether its rows were copied or not. -/
structure AppC (lo : Nat) (h : AHeap) (sz : Nat) (v : Value) (cs : List (List Value)) (F : Nat) : Prop where
  at_ : ∃ B l, v = .slice (some ⟨B, 0, none⟩) cs.length cs.length ∧ lo ≤ B ∧ B < h.nx ∧ h.bl.get B = some (.cells cs.flatten F false) ∧ lo ≤ F ∧ F < h.nx ∧ h.fams.get F = some l ∧ (∀ x, x ∈ l → lo ≤ x ∧ x < h.nx ∧ ∃ c, h.bl.get x = some (.cells c F false)) ∧ (F = B ∨ (h.fams.get B = some [sz] ∧ F ≠ B))
  sized : ∀ c, c ∈ cs → c.length = sz
theorem AppC.mono {lo sz F : Nat} {h h' : AHeap} {v : Value} {cs : List (List Value)} (k : AppC lo h sz v cs F) (a : Kp h h') : AppC lo h' sz v cs F := by
  obtain ⟨⟨B, l, k1, k2, k3, k4, k5, k6, k7, k8, k9⟩, k10⟩ := k
  have ha := a.1
  refine ⟨⟨B, l, k1, k2, by omega, (a.get k3).trans k4, k5, by omega, (a.fget k6).trans k7, fun x hx => ?_, ?_⟩, k10⟩
  · obtain ⟨q1, q2, c, q3⟩ := k8 x hx
    exact ⟨q1, by omega, c, (a.get q2).trans q3⟩
  · rcases k9 with k9 | ⟨k9, k11⟩
    · exact .inl k9
    · exact .inr ⟨(a.fget k3).trans k9, k11⟩
theorem Copied.appC {lo sz b : Nat} {h h' : AHeap} {v : Value} {cs : List (List Value)} (k : Copied h h' b sz v cs) (hl : lo ≤ b) (hb : b < h.nx) (hs : ∀ c, c ∈ cs → c.length = sz) : AppC lo h' sz v cs b := by
  obtain ⟨B, l, k1, k2, k3, k4, k5, k6, k7⟩ := k.at_
  have hle := k.le
  refine ⟨⟨B, l, k1, by omega, k3, k4, hl, by omega, k5, fun x hx => ?_, ?_⟩, hs⟩
  · obtain ⟨q1, q2, q3⟩ := k6 x hx
    exact ⟨by omega, q2, q3⟩
  · rcases k7 with k7 | k7
    · exact .inl k7.symm
    · exact .inr k7
/-- Rows at a block from lo on. -/
def RNew (lo : Nat) (h : AHeap) (sz : Nat) (v : Value) (rows : List (List Value)) : Prop := rows ≠ [] ∧ (∀ c, c ∈ rows → c.length = sz) ∧ ∃ b k f, v = .slice (some ⟨b, 0, none⟩) rows.length k ∧ lo ≤ b ∧ b < h.nx ∧ h.bl.get b = some (.cells rows.flatten f false)
theorem RNew.at {lo sz : Nat} {h : AHeap} {v : Value} {rows : List (List Value)} (k : RNew lo h sz v rows) : SlAt h sz v rows := by
  obtain ⟨k1, k2, b, c, f, k3, _, k5, k6⟩ := k
  exact .inr ⟨b, c, f, false, k1, k3, k5, k6, k2⟩
theorem RNew.upd {lo sz B f : Nat} {d : List Value} {h : AHeap} {v : Value} {rows : List (List Value)} (k : RNew lo h sz v rows) (hB : B < lo) : RNew lo (h.upd B d f) sz v rows := by
  obtain ⟨k1, k2, b, c, f, k3, k4, k5, k6⟩ := k
  exact ⟨k1, k2, b, c, f, k3, k4, k5, by rw [upd_ne _ _ _ (by omega)]; exact k6⟩
theorem Copied.kp {b sz : Nat} {H h h' : AHeap} {v : Value} {cs : List (List Value)} (k : Copied h h' b sz v cs) (a : Kp H h) (hb : H.nx ≤ b) : Kp H h' :=
  ⟨Nat.le_trans a.1 k.le, fun j hj => by
    have := a.1
    rw [k.bl j (by omega) (by omega), k.fam j (by omega) (by omega)]
    exact a.2 j hj⟩
theorem aw_appCX {lo sz F : Nat} {v : Value} {cs : List (List Value)} {c : List Value} {e : TypeId} {st xt e' : TypeId} {s x : Operand} {bx cx fx : Nat} {rx : Bool} (hst : slOf P st = some e) (hxt : P.underlying xt = some (.slice e')) (hs : ev P t s = v) (hx : ev P t x = .slice (some ⟨bx, 0, none⟩) 1 cx)
    (k : AppC lo h sz v cs F) (hHh : lo ≤ h.nx) (hsz : sizeB P e = some sz) (hc : c.length = sz) (hbx : h.bl.get bx = some (.cells c fx rx)) (hnn : numOk P e (Nat.add cs.length 1) = true) :
    ∃ v' h', (∀ K : KV, awrite P call t h ⟨dst, .call ⟨.builtin .append, #[s, x], #[st, xt]⟩, ty, pos, af, g⟩ K = K v' h') ∧ RNew lo h' sz v' (cs ++ [c]) ∧ Sm lo h h' := by
  have hko : kindOk P xt (.slice (some ⟨bx, 0, none⟩) 1 cx) = true := by simp only [kindOk, hxt]
  have hsrc : srcCells h sz (.slice (some ⟨bx, 0, none⟩) 1 cx) = some (c, 1) := by
    have h1 : Nat.ble (Nat.add 0 (Nat.mul 1 sz)) c.length = true := Nat.ble_eq_true_of_le (by rw [hc]; show 0 + 1 * sz ≤ sz; omega)
    simp only [srcCells, hbx, h1, cond_true]
    rw [show Nat.mul 1 sz = sz from Nat.one_mul sz, List.drop_zero, List.take_of_length_le (by omega)]
  obtain ⟨⟨B, l, rfl, k2, k3, k4, k5, k6, k7, k8, k9⟩, k10⟩ := k
  have hfl : ∀ {l : List (List Value)}, (∀ c, c ∈ l → c.length = sz) → l.flatten.length = l.length * sz := by
    intro l
    induction l with
    | nil => intro _; simp
    | cons a l ih =>
      intro hl
      rw [List.flatten_cons, List.length_append, hl a (by simp), ih fun c hc => hl c (by simp [hc]), List.length_cons, Nat.succ_mul]; omega
  have hlen := hfl k10
  have hble : Nat.ble (Nat.add 0 (Nat.mul cs.length sz)) cs.flatten.length = true := Nat.ble_eq_true_of_le (by rw [hlen]; show 0 + cs.length * sz ≤ _; omega)
  have hz : zOk h B sz = true := by
    unfold zOk
    rw [k4]
    rcases k9 with rfl | ⟨k9, hne⟩
    · simp only [Nat.beq_refl, cond_true]
    · have : Nat.beq F B = false := by cases e : Nat.beq F B with | true => exact absurd (Nat.eq_of_beq_eq_true e) hne | false => rfl
      simp only [this, cond_false, k9, Nat.beq_refl]
  have hcap : Nat.ble (Nat.add cs.length 1) cs.length = false := by
    cases e : Nat.ble (Nat.add cs.length 1) cs.length with
    | false => rfl
    | true => have := Nat.le_of_ble_eq_true e; exact absurd this (by show ¬ cs.length + 1 ≤ cs.length; omega)
  have htk : cs.flatten.take (Nat.add 0 (Nat.mul cs.length sz)) = cs.flatten := List.take_of_length_le (by rw [hlen]; show cs.length * sz ≤ 0 + cs.length * sz; omega)
  have hdt : (cs.flatten.drop 0).take (Nat.mul cs.length sz) = cs.flatten := by
    rw [List.drop_zero, List.take_of_length_le (by rw [hlen]; exact Nat.le_refl _)]
  refine ⟨.slice (some ⟨h.nx, 0, none⟩) (cs.length + 1) (cs.length + 1), h.grow B F sz l cs.flatten (cs.flatten ++ c), fun K => ?_, ⟨by simp, ?_, h.nx, cs.length + 1, F, by simp, hHh, Nat.lt_succ_self _, ?_⟩, ⟨Nat.le_succ _, fun j hj => ⟨?_, ?_⟩⟩⟩
  · simp only [awrite, wCall, wAppend, hst, hs, hx, hko, cond_true, appendA, hsz, hsrc, hcap, cond_false, appendGrow, k4, hble, hnn, hz, Bool.and_self, k7, growH_eq, htk, hdt, fNat_eq]
  · intro d hd
    rcases List.mem_append.1 hd with hd | hd
    · exact k10 d hd
    · simp at hd; subst hd; exact hc
  · show (T.set (h.nx + 1) (T.set (B + 1) (kill l B h.bl) B (.cells cs.flatten F false)) h.nx (.cells (cs.flatten ++ c) F false)).get h.nx = _
    rw [get_eq (by omega), List.flatten_append]; simp
  · have hjl : j ∉ l := fun q => by have := (k8 j q).1; omega
    show (T.set (h.nx + 1) (T.set (B + 1) (kill l B h.bl) B (.cells cs.flatten F false)) h.nx (.cells (cs.flatten ++ c) F false)).get j = _
    rw [get_ne (by omega) (by omega), get_ne (by omega) (by omega), kill_get, if_neg (fun q => hjl q.1)]
  · show (T.set (h.nx + 1) (T.set (F + 1) h.fams F [h.nx, B]) h.nx [sz]).get j = _
    rw [get_ne (by omega) (by omega), get_ne (by omega) (by omega)]
variable {f : Nat} {l : List Info} {i m done : Nat} {hist : List Seen} {KR : T Value → AHeap → Bool} {d fl : Nat} {ids : List (Nat × Nat)}
end
end Go.Ev

/- Quotients. -/
namespace Go.Ev
open Go.RowKit
section
variable {P : Program} {t : T Value} {dst : Option Tmp} {ty a b : TypeId} {pos : String} {af : Array Edge} {g : Option (Nat × Bool)} {x y : Operand} {i j : Int}
end
end Go.Ev

/- Calls that change what was there. -/
namespace Go.Ev
open Go.RowKit
/-- What a call returns, and all that it leaves. -/
def BringsX (P : Program) (R : ExT) (g : FuncId) (args : List Value) (h : AHeap) (Post : Value → AHeap → Prop) : Prop :=
  ∀ K : KV, (∀ v h', Post v h' → K v h' = true) → callFunc1 P R g args h K = true
section
variable {P : Program} {pr : Prim} {R : ExT}
theorem bringsX_of {g : FuncId} {args : List Value} {h : AHeap} {Post : Value → AHeap → Prop} {fn : Func} {c : Code} (hf : P.funcs[g]? = some fn) (hb : fn.body = some c) (hname : (fn.name == "runtime.NumGoroutine") = false) (hlen : Nat.ble args.length fn.ntmps = true)
    (run : ∀ K : KV, (∀ v h', Post v h' → K v h' = true) → R fn.ntmps none c (argsT args) h [] (finish P fn K) = true) : BringsX P R g args h Post := by
  intro K hK
  unfold callFunc1
  simp only [hf, hb]
  unfold callBody
  rw [hname, cond_false, hlen, cond_true, setArgs_id]
  exact run K hK
variable {ops : Array Oper} {n : Nat} {rest : List Oper} {t : T Value} {h : AHeap} {KR : T Value → AHeap → Bool} {dst : Option Tmp}
theorem wr_bringsX {f : Operand} {as : Array Operand} {ts : Array TypeId} {fid : FuncId} {first captured : Array Value} {Post : Value → AHeap → Prop} (hf : ev P t f = .func (.func fid) first captured)
    (hp : pr fid (first.toList ++ evL P t as.toList ++ captured.toList) h = none) (hy : BringsX P R fid (first.toList ++ evL P t as.toList ++ captured.toList) h Post)
    (k : ∀ v h', Post v h' → putR P (withPrim pr (callVal P R)) ops n rest dst t v h' KR = true) :
    wrR P (withPrim pr (callVal P R)) ops n rest (.call ⟨.value f, as, ts⟩) dst t h KR = true := by
  simp only [wrR, awrite, wCall, hf, withPrim, hp, callVal]
  exact hy _ k
variable {f : Nat} {l : List Info} {i m done : Nat} {hist : List Seen} {ty : TypeId} {ps : String} {af : Array Edge} {g : Option (Nat × Bool)} {d : Tmp}
end
theorem Fr.trans {H h h' : AHeap} {B : Nat} (a : Fr H B h) (b : Fr h B h') : Fr H B h' :=
  ⟨Nat.le_trans a.le b.le, fun k hk hn => (b.bl k (Nat.lt_of_lt_of_le hk a.le) hn).trans (a.bl k hk hn), fun k hk => (b.fam k (Nat.lt_of_lt_of_le hk a.le)).trans (a.fam k hk)⟩
section
variable {H h : AHeap} {B : Nat}
end
end Go.Ev

/- Maps whose keys and values are pairs of integers. -/
namespace Go.Ev
open Go.RowKit
abbrev II := Int × Int
def pv (p : II) : List Value := [iv p.1, iv p.2]
section
variable {P : Program} {mt kt vt : TypeId}
end
section
variable {h h' : AHeap} {r : Nat} {v : Value} {es : List MapEntry} {n : Nat}
end
end Go.Ev

/- Two rows of booleans, compared by the model's own text. -/
namespace Go.Ev
open Go.RowKit

section
variable {P : Program}

theorem pureOf_bd {α β : Type} : ∀ (s : Sem α) (f : α → Sem β) (a : α), pureOf P s = some a → pureOf P (s >>= f) = pureOf P (f a)
  | .pure b, f, a, h => by
    have : b = a := by simpa [pureOf] using h
    subst this; rfl
  | .program k, f, a, h => by
    show pureOf P ((k P).bind f) = _
    exact pureOf_bd (k P) f a h
  | .mark m k, f, a, h => by
    show pureOf P (k.bind f) = _
    exact pureOf_bd k f a h
  | .load _ _ _, _, _, h => by cases h
  | .store _ _ _ _, _, _, h => by cases h
  | .new _ _, _, _, h => by cases h
  | .shape _ _, _, _, h => by cases h
  | .freeze _ _ _, _, _, h => by cases h
  | .frozen _ _, _, _, h => by cases h
  | .getObj _ _, _, _, h => by cases h
  | .setObj _ _ _, _, _, h => by cases h
  | .choose _ _, _, _, h => by cases h
  | .sys _ _, _, _, h => by cases h
  | .halt _, _, _, h => by cases h

theorem pureOf_und {t : TypeId} {d : TypeDesc} (h : P.underlying t = some d) : pureOf P (underlying t) = some d := by
  simp [underlying, pureOf, program, bind, Sem.bind, h, pure]

end
end Go.Ev

/- Two rows of integers, compared by the model's own text. -/
namespace Go.Ev
open Go.RowKit
section
variable {P : Program}
theorem all_rangeI : ∀ (xs ys : List Int), xs.length = ys.length → ((List.range xs.length).all fun i => xs.getD i 0 == ys.getD i 0) = (xs == ys)
  | [], [], _ => rfl
  | x :: xs, y :: ys, h => by
    have ih := all_rangeI xs ys (by simpa using h)
    rw [List.length_cons, List.range_succ_eq_map, List.all_cons, List.all_map]
    simp only [List.getD_cons_zero, Function.comp_def, List.getD_cons_succ, ih]
    simp [List.cons_beq_cons]
  | [], _ :: _, h => by simp at h
  | _ :: _, [], h => by simp at h
theorem pureOf_partZ {e : TypeId} (hag : pureOf P (isAgg e) = some false) (xs : List Int) (i : Nat) (hi : i < xs.length) : pureOf P (part e ⟨xs.map iv⟩ i) = some (iv (xs.getD i 0)) := by
  unfold part
  rw [pureOf_bd _ _ _ hag]
  have hx : (⟨xs.map iv⟩ : Array Value)[i]? = some (iv (xs.getD i 0)) := by
    show (List.toArray (xs.map iv))[i]? = _
    rw [List.getElem?_toArray, List.getElem?_map, List.getElem?_eq_getElem hi]
    simp [List.getD, List.getElem?_eq_getElem hi]
  simp only [Bool.false_eq_true, if_false]
  rw [hx]
  rfl
theorem pureOf_equal_ints (d : Nat) {t e : TypeId} {n : Nat} (ht : P.underlying t = some (.array n e)) (he : P.underlying e = some (.int .i64)) (hag : pureOf P (isAgg e) = some false) (hsz : pureOf P (sizeOf e) = some 1)
    (xs ys : List Int) (hx : xs.length = n) (hy : ys.length = n) :
    pureOf P (Op.equalIn (d + 2) t (.agg ⟨xs.map iv⟩) (.agg ⟨ys.map iv⟩)) = some (xs == ys) := by
  rw [← all_rangeI xs ys (hx.trans hy.symm), hx, List.range_eq_range', Op.equalIn]
  rw [pureOf_bd _ _ _ (pureOf_und ht)]
  simp only
  rw [pureOf_bd _ _ _ hsz]
  simp only [Std.Legacy.Range.forIn_eq_forIn_range', Std.Legacy.Range.size, Nat.sub_zero, Nat.add_sub_cancel, Nat.div_one]
  have hl : ∀ i ∈ List.range' 0 n 1, i < n := fun i hi => by simpa using (List.mem_range'_1.1 hi).2
  generalize List.range' 0 n 1 = l at hl ⊢
  induction l with
  | nil => rfl
  | cons i l ih =>
    have hi : i < n := hl i (by simp)
    have px : pureOf P (part e ⟨xs.map iv⟩ (i * 1)) = some (iv (xs.getD i 0)) := by rw [Nat.mul_one]; exact pureOf_partZ hag xs i (by omega)
    have py : pureOf P (part e ⟨ys.map iv⟩ (i * 1)) = some (iv (ys.getD i 0)) := by rw [Nat.mul_one]; exact pureOf_partZ hag ys i (by omega)
    have pe : pureOf P (Op.equalIn (d + 1) e (iv (xs.getD i 0)) (iv (ys.getD i 0))) = some (xs.getD i 0 == ys.getD i 0) := by
      rw [Op.equalIn, pureOf_bd _ _ _ (pureOf_und he)]
      rfl
    rw [List.all_cons]
    simp only [List.forIn_cons, bind_assoc]
    rw [pureOf_bd _ _ _ px, pureOf_bd _ _ _ py, pureOf_bd _ _ _ pe]
    cases hb : (xs.getD i 0 == ys.getD i 0)
    · rfl
    · exact ih fun j hj => hl j (by simp [hj])
end
end Go.Ev

/- Rows that are made at once, and stored one by one. -/
namespace Go.Ev
open Go.RowKit
section
variable {P : Program} {t : T Value} {h : AHeap} {call : CallT} {ops : Array Oper} {n : Nat} {rest : List Oper} {KR : T Value → AHeap → Bool} {dst : Option Tmp} {ty a e : TypeId} {pos : String} {af : Array Edge} {g : Option (Nat × Bool)}
/-- A new slice of rows. -/
theorem wr_makeRows {x y : Operand} {k sz : Nat} {ei : TypeInfo} {z : Value} (h1 : slOf P a = some e) (h2 : P.info? e = some ei) (h3 : zeroOf P e = some z) (h4 : Nat.blt ei.bytes bigNat = true) (h5 : ei.size = sz) (h6 : z.cells.size = sz)
    (hx : ev P t x = .int .i64 (k : Int)) (hy : ev P t y = .int .i64 (k : Int)) (hk : k < 1000000) (kk : putR P call ops n rest dst t (.slice (some ⟨h.nx, 0, none⟩) k k) (h.add ((List.replicate k z.cells.toList).flatten)) KR = true) :
    wrR P call ops n rest (.makeSlice a x y) dst t h KR = true := by
  have hb : Nat.blt k bigNat = true := by rw [Nat.blt_eq]; exact hk
  have he : repl z.cells.toList k [] = (List.replicate k z.cells.toList).flatten := by rw [repl_eq, List.append_nil]
  have h6' : Nat.beq z.cells.size ei.size = true := by rw [h5, h6]; exact Nat.beq_refl _
  have hx' : ev P t x = .int .i64 (.ofNat k) := hx
  have hy' : ev P t y = .int .i64 (.ofNat k) := hy
  simp only [wrR, awrite, wMakeSlice, h1, hx', hy', wMakeSlice1, h2, h3, Nat.ble_eq_true_of_le (Nat.le_refl k), hb, h4, h6', Bool.and_self, cond_true, newC_add, he]
  exact kk
/-- A store of a row into the middle of a block. -/
theorem aw_storeR {x y : Operand} {k0 B off s : Nat} {c : List Value} {fam : Nat} {ls : List Value} (hx : ev P t x = .pointer (some ⟨B, off, none⟩)) (hy : ev P t y = .agg ⟨ls⟩) (hs : sizeB P a = some s) (hne : 0 < s) (hls : ls.length = s)
    (hg : h.bl.get B = some (.cells c fam false)) (hf : h.fams.get fam = some [k0]) (hl : off + s ≤ c.length) (K : KV) : awrite P call t h ⟨dst, .store a x y, ty, pos, af, g⟩ K = K undef (h.upd B (c.take off ++ ls ++ c.drop (off + s)) fam) := by
  have h2 : (okV (.agg ⟨ls⟩) && Nat.beq (Value.cells (.agg ⟨ls⟩)).size s) = true := by
    rw [show (Value.cells (.agg ⟨ls⟩)).size = ls.length from rfl, hls, Nat.beq_refl]; rfl
  have h1 : Nat.ble (Nat.add off ls.length) c.length = true := Nat.ble_eq_true_of_le (by rw [hls]; exact hl)
  cases ls with
  | nil => simp at hls; omega
  | cons v0 l0 =>
    have hc : (Value.cells (.agg ⟨v0 :: l0⟩)).toList = v0 :: l0 := (rfl)
    have he : spliceL c off (v0 :: l0) = c.take off ++ (v0 :: l0) ++ c.drop (off + s) := by
      rw [spliceL_eq c off (v0 :: l0) (by rw [hls]; exact hl), hls]
    simp only [awrite, wStore, hx, hy, hs, h2, cond_true, hc, storeC, hg, storeC1, h1, fSpine_eq, hf, T.setK_eq, he]
    rfl
end
theorem flat_set2 {α : Type} {cv : α → List Value} {n : Nat} (hn : ∀ x, (cv x).length = n) : ∀ (l : List α) (i : Nat) (x : α), i < l.length → ((l.map cv).flatten.take (i * n) ++ cv x ++ (l.map cv).flatten.drop (i * n + n)) = ((l.set i x).map cv).flatten
  | [], _, _, h => by simp at h
  | y :: l, 0, x, _ => by
    simp only [List.map_cons, List.flatten_cons, Nat.zero_mul, List.take_zero, List.nil_append, Nat.zero_add, List.set_cons_zero]
    rw [List.drop_append_of_le_length (by rw [hn]; exact Nat.le_refl _), List.drop_of_length_le (by rw [hn]; exact Nat.le_refl _), List.nil_append]
  | y :: l, i + 1, x, h => by
    simp only [List.map_cons, List.flatten_cons, List.set_cons_succ]
    have ih := flat_set2 hn l i x (by simpa using h)
    rw [← ih]
    have e1 : (i + 1) * n = (cv y).length + i * n := by rw [hn, Nat.succ_mul]; omega
    rw [e1, List.take_length_add_append, show (cv y).length + i * n + n = (cv y).length + (i * n + n) from by omega, List.drop_length_add_append]
    simp only [List.append_assoc]
end Go.Ev

/- Bodies with labels. -/
namespace Go.Ev
open Go.RowKit
section
variable {P : Program} {pr : Prim} {R : ExT} {n : Nat} {rd : Option Nat} {t : T Value} {h : AHeap} {ds : List Nat} {K : KT}
end
end Go.Ev

/- Slices of integers that grew, stored into in place; new slices of integers, as an operation that hands on. -/
namespace Go.Ev
open Go.RowKit
end Go.Ev
namespace Go.Ev
open Go.RowKit
section
variable {P : Program} {call : CallT} {ops : Array Oper} {n : Nat} {rest : List Oper} {t : T Value} {h h' : AHeap} {KR : T Value → AHeap → Bool}
theorem drR_of' {w : Option Bool} {o : Option Value} {v : Value} {f : Nat} {l : List Info} {done i : Nat} {q : Oper} {hist : List Seen} (hr : o = some v) (k : drR w (some v) P call ops n f l done i q hist t h KR = true) : drR w o P call ops n f l done i q hist t h KR = true := by rw [hr]; exact k
end
end Go.Ev

/- Slices that grow beside each other. -/
namespace Go.Ev
open Go.RowKit
section
variable {P : Program} {n : Nat} {t : T Value} {h : AHeap} {ops : Array Oper} {call : CallT} {dst : Option Tmp} {rest : List Oper} {KR : T Value → AHeap → Bool}
theorem wr_grown {lo sz F : Nat} {v : Value} {cs : List (List Value)} {c : List Value} {e : TypeId} {st xt e' : TypeId} {s x : Operand} {bx cx fx : Nat} {rx : Bool} (hst : slOf P st = some e) (hxt : P.underlying xt = some (.slice e')) (hs : ev P t s = v) (hx : ev P t x = .slice (some ⟨bx, 0, none⟩) 1 cx)
    (k : App lo h sz v cs F) (hHh : lo ≤ h.nx) (hsz : sizeB P e = some sz) (hc : c.length = sz) (hpos : 0 < sz) (hbx : h.bl.get bx = some (.cells c fx rx)) (hnum : numOk P e 1 = true) (hn : cs.length + 1 < bigNat)
    (kk : ∀ v' h' F', Grown lo h h' sz v' cs c F F' → putR P call ops n rest dst t v' h' KR = true) :
    wrR P call ops n rest (.call ⟨.builtin .append, #[s, x], #[st, xt]⟩) dst t h KR = true := by
  obtain ⟨v', h', F', hw, hg⟩ := aw_append (call := call) (dst := dst) (ty := 0) (pos := "") (af := #[]) (g := none) hst hxt hs hx k hHh hsz hc hpos hbx hnum hn
  unfold wrR
  rw [hw]
  exact kk v' h' F' hg
end
theorem App.blk_lt1 {lo : Nat} {h : AHeap} {sz F b : Nat} {v : Value} {cs : List (List Value)} (k : App lo h sz v cs F) (hb : blk v = some b) : b < h.nx := by
  rcases k with ⟨_, rfl⟩ | ⟨b', l, _, rfl, _, k3, _⟩
  · cases hb
  · cases hb; exact k3
section
variable {lo : Nat} {h h' : AHeap} {xs ys : List (List Value)} {xv yv xv' : Value} {F1 F2 F1' : Nat} {c : List Value}
end
section
variable {lo : Nat} {h h' : AHeap} {xs ys zs : List (List Value)} {xv yv zv xv' : Value} {F1 F2 F3 F1' : Nat} {c : List Value}
end
end Go.Ev

/- Copies of integers onto a block; maps whose keys are pairs of integers and whose values are structs of integers. -/
namespace Go.Ev
open Go.RowKit
section
variable {P : Program} {call : CallT} {t : T Value} {h : AHeap} {dst : Option Tmp} {ty : TypeId} {ps : String} {af : Array Edge} {g : Option (Nat × Bool)}
end
/-! ## Maps of pairs to structs -/
section
variable {β : Type}
variable {P : Program} {mt kt vt : TypeId} {cv : β → List Value}
end
end Go.Ev
