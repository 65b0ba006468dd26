import Derived.Test.YtnlmonmeapbblaaGreatEvD
/- Copies of slices, frames around one block, and writes in drawn regions. -/
namespace Go.Ev
open Go.RowKit

/-- All that was there is as it was, but for the cells of block B. -/
structure Fr (H : AHeap) (B : Nat) (h : AHeap) : Prop where
  le : H.nx ≤ h.nx
  bl : ∀ k, k < H.nx → k ≠ B → h.bl.get k = H.bl.get k
  fam : ∀ k, k < H.nx → h.fams.get k = H.fams.get k
theorem Fr.refl {H : AHeap} {B : Nat} : Fr H B H := ⟨Nat.le_refl _, fun _ _ _ => rfl, fun _ _ => rfl⟩
theorem Fr.kp {H h h' : AHeap} {B : Nat} (a : Fr H B h) (k : Kp h h') : Fr H B h' :=
  ⟨Nat.le_trans a.le k.1, fun j hj hn => (k.get (Nat.lt_of_lt_of_le hj a.le)).trans (a.bl j hj hn), fun j hj => (k.fget (Nat.lt_of_lt_of_le hj a.le)).trans (a.fam j hj)⟩
theorem Fr.sm {H h h' : AHeap} {B lo : Nat} (a : Fr H B h) (k : Sm lo h h') (hl : H.nx ≤ lo) : Fr H B h' :=
  ⟨Nat.le_trans a.le k.1, fun j hj hn => ((k.2 j (Nat.lt_of_lt_of_le hj hl)).1).trans (a.bl j hj hn), fun j hj => ((k.2 j (Nat.lt_of_lt_of_le hj hl)).2).trans (a.fam j hj)⟩
theorem Fr.upd {H h : AHeap} {B f : Nat} {c : List Value} (a : Fr H B h) : Fr H B (h.upd B c f) :=
  ⟨a.le, fun j hj hn => by rw [upd_ne _ _ _ hn]; exact a.bl j hj hn, fun j hj => by rw [upd_fams]; exact a.fam j hj⟩
theorem Fr.toKp {H0 H h : AHeap} {B : Nat} (k : Kp H0 H) (a : Fr H B h) (hB : H0.nx ≤ B) : Kp H0 h :=
  ⟨Nat.le_trans k.1 a.le, fun j hj => ⟨(a.bl j (Nat.lt_of_lt_of_le hj k.1) (by omega)).trans (k.get hj), (a.fam j (Nat.lt_of_lt_of_le hj k.1)).trans (k.fget hj)⟩⟩
theorem App.fr {lo sz F B : Nat} {H h : AHeap} {v : Value} {cs : List (List Value)} (k : App lo H sz v cs F) (a : Fr H B h) (hB : B < lo) : App lo h sz v cs F := by
  have ha := a.le
  rcases k with k | ⟨b, l, k1, k2, k3, k4, k5, k6, k7, k8, k9, k10, k11, k12⟩
  · exact .inl k
  · refine .inr ⟨b, l, k1, k2, k3, by omega, (a.bl b k4 (by omega)).trans k5, k6, k7, by omega, (a.fam F k8).trans k9, fun x hx => ?_, (a.fam b k4).trans k11, k12⟩
    obtain ⟨q1, q2, c, q3⟩ := k10 x hx
    exact ⟨q1, by omega, c, (a.bl x q2 (by omega)).trans q3⟩

section
variable {P : Program} {n : Nat} {t : T Value} {h : AHeap} {ops : Array Oper} {call : CallT} {f : Nat} {l : List Info} {i m done : Nat} {hist : List Seen} {rest : List Oper} {KR : T Value → AHeap → Bool} {dst : Option Tmp} {op : Op} {ty : TypeId} {pos : String} {af : Array Edge} {g : Option (Nat × Bool)} {d : Tmp}
theorem drW_give {v : Value} {h' : AHeap} (hw : ∀ K : KV, awrite P call t h ⟨some d, op, ty, pos, af, g⟩ K = K v h') (hd : d < n) (ha : again P h' m hist = true)
    (k : drawGo P call ops n 0 [] f l (Nat.lor done (Nat.pow 2 i)) hist (T.set (d + 1) t d v) h' KR = true) : drW (some true) P call ops n f l done i m ⟨some d, op, ty, pos, af, g⟩ hist t h KR = true := by
  have : Nat.blt d n = true := by rw [Nat.blt_eq]; exact hd
  simp only [drW, hw, ha, cond_true, putK, this, fV1_eq, T.setK_eq]
  exact k
theorem drW_giveN {v : Value} {h' : AHeap} (hw : ∀ K : KV, awrite P call t h ⟨none, op, ty, pos, af, g⟩ K = K v h') (ha : again P h' m hist = true)
    (k : drawGo P call ops n 0 [] f l (Nat.lor done (Nat.pow 2 i)) hist t h' KR = true) : drW (some true) P call ops n f l done i m ⟨none, op, ty, pos, af, g⟩ hist t h KR = true := by
  simp only [drW, hw, ha, cond_true, putK]
  exact k
theorem drW_app {lo sz F : Nat} {v : Value} {cs : List (List Value)} {c : List Value} {e : TypeId} {st xt e' : TypeId} {s x : Operand} {bx cx fx : Nat} {rx : Bool} (hst : slOf P st = some e) (hxt : P.underlying xt = some (.slice e')) (hs : ev P t s = v) (hx : ev P t x = .slice (some ⟨bx, 0, none⟩) 1 cx)
    (k : App lo h sz v cs F) (hHh : lo ≤ h.nx) (hsz : sizeB P e = some sz) (hc : c.length = sz) (hpos : 0 < sz) (hbx : h.bl.get bx = some (.cells c fx rx)) (hnum : numOk P e 1 = true) (hn : cs.length + 1 < bigNat) (hd : d < n)
    (kk : ∀ v' h' F', Grown lo h h' sz v' cs c F F' → again P h' m hist = true ∧ drawGo P call ops n 0 [] f l (Nat.lor done (Nat.pow 2 i)) hist (T.set (d + 1) t d v') h' KR = true) :
    drW (some true) P call ops n f l done i m ⟨some d, .call ⟨.builtin .append, #[s, x], #[st, xt]⟩, ty, pos, af, g⟩ hist t h KR = true := by
  obtain ⟨v', h', F', hw, hg⟩ := aw_append (call := call) (dst := some d) (ty := ty) (pos := pos) (af := af) (g := g) hst hxt hs hx k hHh hsz hc hpos hbx hnum hn
  obtain ⟨k1, k2⟩ := kk v' h' F' hg
  exact drW_give hw hd k1 k2

/-- A slice literal without elements. -/
theorem aw_lit0 {e : TypeId} {sz : Nat} {sl : TypeId} {z : Value} (h1 : slOf P sl = some e) (h2 : sizeB P e = some sz) (h3 : zeroOf P e = some z) (h4 : z.cells.size = sz) (K : KV) : awrite P call t h ⟨dst, .buildSlice sl 0 #[], ty, pos, af, g⟩ K = K (.slice (some ⟨h.nx, 0, none⟩) 0 0) (h.add []) := by
  have h5 : Nat.ble (Nat.mul 0 sz) 16777216 = true := Nat.ble_eq_true_of_le (by show 0 * sz ≤ _; omega)
  have h6 : okP ([] : List (Nat × Value)) = true := rfl
  have h7 : Nat.beq z.cells.size sz = true := by rw [h4]; exact Nat.beq_refl _
  have h8 : Instr.fill (fun k => some (k * sz, sz)) (⟨repl z.cells.toList 0 []⟩ : Array Value) [] = some #[] := rfl
  simp only [awrite, wBuildSlice, h1, h2, h3, List.map_nil, h6, h5, h7, Bool.and_self, cond_true, h8, wSlice1, newC_add]
theorem wr_lit0 {e : TypeId} {sz : Nat} {sl : TypeId} {z : Value} (h1 : slOf P sl = some e) (h2 : sizeB P e = some sz) (h3 : zeroOf P e = some z) (h4 : z.cells.size = sz) (kk : putR P call ops n rest dst t (.slice (some ⟨h.nx, 0, none⟩) 0 0) (h.add []) KR = true) :
    wrR P call ops n rest (.buildSlice sl 0 #[]) dst t h KR = true := by
  unfold wrR
  rw [aw_lit0 h1 h2 h3 h4]
  exact kk

/-- What lies behind an append of rows onto an empty literal at block b. -/
structure Copied (h h' : AHeap) (b sz : Nat) (v' : Value) (cs : List (List Value)) : Prop where
  le : h.nx ≤ h'.nx
  bl : ∀ k, k < h.nx → k ≠ b → h'.bl.get k = h.bl.get k
  fam : ∀ k, k < h.nx → k ≠ b → h'.fams.get k = h.fams.get k
  at_ : ∃ B l, v' = .slice (some ⟨B, 0, none⟩) cs.length cs.length ∧ (B = b ∨ B = h.nx) ∧ B < h'.nx ∧ h'.bl.get B = some (.cells cs.flatten b false) ∧ h'.fams.get b = some l ∧ (∀ x, x ∈ l → (x = b ∨ x = h.nx) ∧ x < h'.nx ∧ ∃ c, h'.bl.get x = some (.cells c b false)) ∧ (B = b ∨ (h'.fams.get B = some [sz] ∧ b ≠ B))
theorem aw_copyE {b sz : Nat} {v : Value} {cs : List (List Value)} {e st xt e' : TypeId} {s x : Operand} (hst : slOf P st = some e) (hxt : P.underlying xt = some (.slice e')) (hs : ev P t s = .slice (some ⟨b, 0, none⟩) 0 0) (hx : ev P t x = v) (hsz : sizeB P e = some sz)
    (hg : h.bl.get b = some (.cells [] b false)) (hf : h.fams.get b = some [b]) (hb : b < h.nx) (hv : SlAt h sz v cs) (hnum : numOk P e 1 = true) (hn : cs.length < bigNat) :
    ∃ v' h', (∀ K : KV, awrite P call t h ⟨dst, .call ⟨.builtin .append, #[s, x], #[st, xt]⟩, ty, pos, af, g⟩ K = K v' h') ∧ Copied h h' b sz v' cs := by
  have hnum2 : ∀ m, m < bigNat → numOk P e m = true := fun m hm => by
    unfold numOk at hnum ⊢
    split at hnum
    · simp only [Bool.and_eq_true] at hnum ⊢
      exact ⟨by rw [Nat.blt_eq]; exact hm, hnum.2⟩
    · cases hnum
  have nil : ∀ w : Value, srcCells h sz w = some ([], 0) → kindOk P xt w = true → ev P t x = w → cs = [] →
      ∃ v' h', (∀ K : KV, awrite P call t h ⟨dst, .call ⟨.builtin .append, #[s, x], #[st, xt]⟩, ty, pos, af, g⟩ K = K v' h') ∧ Copied h h' b sz v' cs := by
    intro w hsw hkw hxw hcs
    subst hcs
    refine ⟨.slice (some ⟨b, 0, none⟩) 0 0, h, fun K => ?_, Nat.le_refl _, fun k _ _ => rfl, fun k _ _ => rfl, b, [b], rfl, .inl rfl, hb, hg, hf, fun y hy => ?_, .inl rfl⟩
    · have h1 : Nat.ble (Nat.add 0 0) 0 = true := rfl
      simp only [awrite, wCall, wAppend, hst, hs, hxw, hkw, cond_true, appendA, hsz, hsw, h1, storeC]
    · simp at hy; subst hy
      exact ⟨.inl rfl, hb, [], hg⟩
  rcases hv with ⟨k1, rfl | rfl⟩ | ⟨bx, cap, fx, ro, k1, rfl, k3, k4, k5⟩
  · exact nil _ rfl (by simp only [kindOk, hxt]) hx k1
  · exact nil _ rfl (by simp only [kindOk, hxt, emptyS]) hx k1
  · have hfl : ∀ {l : List (List Value)}, (∀ c, c ∈ l → c.length = sz) → l.flatten.length = l.length * sz := by
      intro l
      induction l with
      | nil => intro _; simp
      | cons a l ih =>
        intro hl
        rw [List.flatten_cons, List.length_append, hl a (by simp), ih fun c hc => hl c (by simp [hc]), List.length_cons, Nat.succ_mul]; omega
    have hlen := hfl k5
    have hsrc : srcCells h sz (.slice (some ⟨bx, 0, none⟩) cs.length cap) = some (cs.flatten, cs.length) := by
      have hb' : Nat.ble (Nat.add 0 (Nat.mul cs.length sz)) cs.flatten.length = true := Nat.ble_eq_true_of_le (by rw [hlen]; show 0 + cs.length * sz ≤ _; omega)
      simp only [srcCells, k4, hb', cond_true]
      rw [List.drop_zero, List.take_of_length_le (by rw [hlen]; exact Nat.le_refl _)]
    have hpos : 0 < cs.length := by cases cs with | nil => exact absurd rfl k1 | cons a r => simp
    have hcap : Nat.ble cs.length 0 = false := by
      cases q : Nat.ble cs.length 0 with
      | false => rfl
      | true => have := Nat.le_of_ble_eq_true q; omega
    have hble : Nat.ble (Nat.add 0 (Nat.mul 0 sz)) ([] : List Value).length = true := Nat.ble_eq_true_of_le (by show 0 + 0 * sz ≤ 0; omega)
    have hz : zOk h b sz = true := by unfold zOk; rw [hg]; simp only [Nat.beq_refl, cond_true]
    have hnn : numOk P e cs.length = true := hnum2 _ hn
    have hko : kindOk P xt (.slice (some ⟨bx, 0, none⟩) cs.length cap) = true := by simp only [kindOk, hxt]
    have htk : ([] : List Value).take (Nat.add 0 (Nat.mul 0 sz)) = [] := by simp
    have hdt : (([] : List Value).drop 0).take (Nat.mul 0 sz) ++ cs.flatten = cs.flatten := by simp
    have hg' : ∀ k, k < h.nx → k ≠ b → (h.grow b b sz [b] [] cs.flatten).bl.get k = h.bl.get k := by
      intro k hk hkb
      show (T.set (h.nx + 1) (T.set (b + 1) (kill [b] b h.bl) b (.cells [] b false)) h.nx (.cells cs.flatten b false)).get k = _
      rw [get_ne (by omega) (by omega), get_ne (by omega) hkb, kill_get, if_neg (fun q => by simp at q)]
    refine ⟨.slice (some ⟨h.nx, 0, none⟩) cs.length cs.length, h.grow b b sz [b] [] cs.flatten, fun K => ?_, Nat.le_succ _, hg', ?_, h.nx, [h.nx, b], rfl, .inr rfl, Nat.lt_succ_self _, get_eq (by omega), ?_, ?_, .inr ⟨get_eq (by omega), by omega⟩⟩
    · simp only [awrite, wCall, wAppend, hst, hs, hx, hko, cond_true, appendA, hsz, hsrc, hcap, cond_false, appendGrow, hg, hble, hnn, hz, Bool.and_self, hf, growH_eq, htk, hdt, fNat_eq, show Nat.add 0 cs.length = cs.length from Nat.zero_add _]
    · intro k hk hkb
      show (T.set (h.nx + 1) (T.set (b + 1) h.fams b [h.nx, b]) h.nx [sz]).get k = _
      rw [get_ne (by omega) (by omega), get_ne (by omega) hkb]
    · show (T.set (h.nx + 1) (T.set (b + 1) h.fams b [h.nx, b]) h.nx [sz]).get b = _
      rw [get_ne (by omega) (by omega), get_eq (by omega)]
    · intro y hy
      simp at hy
      rcases hy with rfl | rfl
      · exact ⟨.inr rfl, Nat.lt_succ_self _, _, get_eq (by omega)⟩
      · refine ⟨.inl rfl, Nat.lt_succ_of_lt hb, [], ?_⟩
        show (T.set (h.nx + 1) (T.set (y + 1) (kill [y] y h.bl) y (.cells [] y false)) h.nx (.cells cs.flatten y false)).get y = _
        rw [get_ne (by omega) (by omega), get_eq (by omega)]
theorem wr_copyE {b sz : Nat} {v : Value} {cs : List (List Value)} {e st xt e' : TypeId} {s x : Operand} (hst : slOf P st = some e) (hxt : P.underlying xt = some (.slice e')) (hs : ev P t s = .slice (some ⟨b, 0, none⟩) 0 0) (hx : ev P t x = v) (hsz : sizeB P e = some sz)
    (hg : h.bl.get b = some (.cells [] b false)) (hf : h.fams.get b = some [b]) (hb : b < h.nx) (hv : SlAt h sz v cs) (hnum : numOk P e 1 = true) (hn : cs.length < bigNat)
    (kk : ∀ v' h', Copied h h' b sz v' cs → putR P call ops n rest dst t v' h' KR = true) : wrR P call ops n rest (.call ⟨.builtin .append, #[s, x], #[st, xt]⟩) dst t h KR = true := by
  obtain ⟨v', h', hw, hc⟩ := aw_copyE (call := call) (dst := dst) (ty := 0) (pos := "") (af := #[]) (g := none) hst hxt hs hx hsz hg hf hb hv hnum hn
  unfold wrR
  rw [hw]
  exact kk v' h' hc
end
end Go.Ev
