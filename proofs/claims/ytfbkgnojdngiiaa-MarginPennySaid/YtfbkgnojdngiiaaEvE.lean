import Derived.Test.YtfbkgnojdngiiaaEvD
/- Copies of slices, frames around one block, and writes in drawn regions. -/
namespace Go.Ev
open Go.RowKit

/-- All that was there is as it was, but for the cells of block B. -/
structure Fr (H : AHeap) (B : Nat) (h : AHeap) : Prop where
  le : H.nx ≤ h.nx
  bl : ∀ k, k < H.nx → k ≠ B → h.bl.get k = H.bl.get k
  fam : ∀ k, k < H.nx → h.fams.get k = H.fams.get k
theorem Fr.refl {H : AHeap} {B : Nat} : Fr H B H := ⟨Nat.le_refl _, fun _ _ _ => rfl, fun _ _ => rfl⟩
theorem Fr.kp {H h h' : AHeap} {B : Nat} (a : Fr H B h) (k : Kp h h') : Fr H B h' :=
  ⟨Nat.le_trans a.le k.1, fun j hj hn => (k.get (Nat.lt_of_lt_of_le hj a.le)).trans (a.bl j hj hn), fun j hj => (k.fget (Nat.lt_of_lt_of_le hj a.le)).trans (a.fam j hj)⟩
theorem Fr.sm {H h h' : AHeap} {B lo : Nat} (a : Fr H B h) (k : Sm lo h h') (hl : H.nx ≤ lo) : Fr H B h' :=
  ⟨Nat.le_trans a.le k.1, fun j hj hn => ((k.2 j (Nat.lt_of_lt_of_le hj hl)).1).trans (a.bl j hj hn), fun j hj => ((k.2 j (Nat.lt_of_lt_of_le hj hl)).2).trans (a.fam j hj)⟩
theorem Fr.upd {H h : AHeap} {B f : Nat} {c : List Value} (a : Fr H B h) : Fr H B (h.upd B c f) :=
  ⟨a.le, fun j hj hn => by rw [upd_ne _ _ _ hn]; exact a.bl j hj hn, fun j hj => by rw [upd_fams]; exact a.fam j hj⟩
theorem Fr.toKp {H0 H h : AHeap} {B : Nat} (k : Kp H0 H) (a : Fr H B h) (hB : H0.nx ≤ B) : Kp H0 h :=
  ⟨Nat.le_trans k.1 a.le, fun j hj => ⟨(a.bl j (Nat.lt_of_lt_of_le hj k.1) (by omega)).trans (k.get hj), (a.fam j (Nat.lt_of_lt_of_le hj k.1)).trans (k.fget hj)⟩⟩
theorem App.fr {lo sz F B : Nat} {H h : AHeap} {v : Value} {cs : List (List Value)} (k : App lo H sz v cs F) (a : Fr H B h) (hB : B < lo) : App lo h sz v cs F := by
  have ha := a.le
  rcases k with k | ⟨b, l, k1, k2, k3, k4, k5, k6, k7, k8, k9, k10, k11, k12⟩
  · exact .inl k
  · refine .inr ⟨b, l, k1, k2, k3, by omega, (a.bl b k4 (by omega)).trans k5, k6, k7, by omega, (a.fam F k8).trans k9, fun x hx => ?_, (a.fam b k4).trans k11, k12⟩
    obtain ⟨q1, q2, c, q3⟩ := k10 x hx
    exact ⟨q1, by omega, c, (a.bl x q2 (by omega)).trans q3⟩

section
variable {P : Program} {n : Nat} {t : T Value} {h : AHeap} {ops : Array Oper} {call : CallT} {f : Nat} {l : List Info} {i m done : Nat} {hist : List Seen} {rest : List Oper} {KR : T Value → AHeap → Bool} {dst : Option Tmp} {op : Op} {ty : TypeId} {pos : String} {af : Array Edge} {g : Option (Nat × Bool)} {d : Tmp}
theorem drW_give {v : Value} {h' : AHeap} (hw : ∀ K : KV, awrite P call t h ⟨some d, op, ty, pos, af, g⟩ K = K v h') (hd : d < n) (ha : again P h' m hist = true)
    (k : drawGo P call ops n 0 [] f l (Nat.lor done (Nat.pow 2 i)) hist (T.set (d + 1) t d v) h' KR = true) : drW (some true) P call ops n f l done i m ⟨some d, op, ty, pos, af, g⟩ hist t h KR = true := by
  have : Nat.blt d n = true := by rw [Nat.blt_eq]; exact hd
  simp only [drW, hw, ha, cond_true, putK, this, fV1_eq, T.setK_eq]
  exact k
theorem drW_giveN {v : Value} {h' : AHeap} (hw : ∀ K : KV, awrite P call t h ⟨none, op, ty, pos, af, g⟩ K = K v h') (ha : again P h' m hist = true)
    (k : drawGo P call ops n 0 [] f l (Nat.lor done (Nat.pow 2 i)) hist t h' KR = true) : drW (some true) P call ops n f l done i m ⟨none, op, ty, pos, af, g⟩ hist t h KR = true := by
  simp only [drW, hw, ha, cond_true, putK]
  exact k
theorem drW_app {lo sz F : Nat} {v : Value} {cs : List (List Value)} {c : List Value} {e : TypeId} {st xt e' : TypeId} {s x : Operand} {bx cx fx : Nat} {rx : Bool} (hst : slOf P st = some e) (hxt : P.underlying xt = some (.slice e')) (hs : ev P t s = v) (hx : ev P t x = .slice (some ⟨bx, 0, none⟩) 1 cx)
    (k : App lo h sz v cs F) (hHh : lo ≤ h.nx) (hsz : sizeB P e = some sz) (hc : c.length = sz) (hpos : 0 < sz) (hbx : h.bl.get bx = some (.cells c fx rx)) (hnum : numOk P e 1 = true) (hn : cs.length + 1 < bigNat) (hd : d < n)
    (kk : ∀ v' h' F', Grown lo h h' sz v' cs c F F' → again P h' m hist = true ∧ drawGo P call ops n 0 [] f l (Nat.lor done (Nat.pow 2 i)) hist (T.set (d + 1) t d v') h' KR = true) :
    drW (some true) P call ops n f l done i m ⟨some d, .call ⟨.builtin .append, #[s, x], #[st, xt]⟩, ty, pos, af, g⟩ hist t h KR = true := by
  obtain ⟨v', h', F', hw, hg⟩ := aw_append (call := call) (dst := some d) (ty := ty) (pos := pos) (af := af) (g := g) hst hxt hs hx k hHh hsz hc hpos hbx hnum hn
  obtain ⟨k1, k2⟩ := kk v' h' F' hg
  exact drW_give hw hd k1 k2

/-- A slice literal without elements. -/
theorem aw_lit0 {e : TypeId} {sz : Nat} {sl : TypeId} {z : Value} (h1 : slOf P sl = some e) (h2 : sizeB P e = some sz) (h3 : zeroOf P e = some z) (h4 : z.cells.size = sz) (K : KV) : awrite P call t h ⟨dst, .buildSlice sl 0 #[], ty, pos, af, g⟩ K = K (.slice (some ⟨h.nx, 0, none⟩) 0 0) (h.add []) := by
  have h5 : Nat.ble (Nat.mul 0 sz) 16777216 = true := Nat.ble_eq_true_of_le (by show 0 * sz ≤ _; omega)
  have h6 : okP ([] : List (Nat × Value)) = true := rfl
  have h7 : Nat.beq z.cells.size sz = true := by rw [h4]; exact Nat.beq_refl _
  have h8 : Instr.fill (fun k => some (k * sz, sz)) (⟨repl z.cells.toList 0 []⟩ : Array Value) [] = some #[] := rfl
  simp only [awrite, wBuildSlice, h1, h2, h3, List.map_nil, h6, h5, h7, Bool.and_self, cond_true, h8, wSlice1, newC_add]
theorem wr_lit0 {e : TypeId} {sz : Nat} {sl : TypeId} {z : Value} (h1 : slOf P sl = some e) (h2 : sizeB P e = some sz) (h3 : zeroOf P e = some z) (h4 : z.cells.size = sz) (kk : putR P call ops n rest dst t (.slice (some ⟨h.nx, 0, none⟩) 0 0) (h.add []) KR = true) :
    wrR P call ops n rest (.buildSlice sl 0 #[]) dst t h KR = true := by
  unfold wrR
  rw [aw_lit0 h1 h2 h3 h4]
  exact kk

/-- What lies behind an append of rows onto an empty literal at block b. -/
structure Copied (h h' : AHeap) (b sz : Nat) (v' : Value) (cs : List (List Value)) : Prop where
  le : h.nx ≤ h'.nx
  bl : ∀ k, k < h.nx → k ≠ b → h'.bl.get k = h.bl.get k
  fam : ∀ k, k < h.nx → k ≠ b → h'.fams.get k = h.fams.get k
  at_ : ∃ B l, v' = .slice (some ⟨B, 0, none⟩) cs.length cs.length ∧ (B = b ∨ B = h.nx) ∧ B < h'.nx ∧ h'.bl.get B = some (.cells cs.flatten b false) ∧ h'.fams.get b = some l ∧ (∀ x, x ∈ l → (x = b ∨ x = h.nx) ∧ x < h'.nx ∧ ∃ c, h'.bl.get x = some (.cells c b false)) ∧ (B = b ∨ (h'.fams.get B = some [sz] ∧ b ≠ B))
theorem aw_copyE {b sz : Nat} {v : Value} {cs : List (List Value)} {e st xt e' : TypeId} {s x : Operand} (hst : slOf P st = some e) (hxt : P.underlying xt = some (.slice e')) (hs : ev P t s = .slice (some ⟨b, 0, none⟩) 0 0) (hx : ev P t x = v) (hsz : sizeB P e = some sz)
    (hg : h.bl.get b = some (.cells [] b false)) (hf : h.fams.get b = some [b]) (hb : b < h.nx) (hv : SlAt h sz v cs) (hnum : numOk P e 1 = true) (hn : cs.length < bigNat) :
    ∃ v' h', (∀ K : KV, awrite P call t h ⟨dst, .call ⟨.builtin .append, #[s, x], #[st, xt]⟩, ty, pos, af, g⟩ K = K v' h') ∧ Copied h h' b sz v' cs := by
  have hnum2 : ∀ m, m < bigNat → numOk P e m = true := fun m hm => by
    unfold numOk at hnum ⊢
    split at hnum
    · simp only [Bool.and_eq_true] at hnum ⊢
      exact ⟨by rw [Nat.blt_eq]; exact hm, hnum.2⟩
    · cases hnum
  have nil : ∀ w : Value, srcCells h sz w = some ([], 0) → kindOk P xt w = true → ev P t x = w → cs = [] →
      ∃ v' h', (∀ K : KV, awrite P call t h ⟨dst, .call ⟨.builtin .append, #[s, x], #[st, xt]⟩, ty, pos, af, g⟩ K = K v' h') ∧ Copied h h' b sz v' cs := by
    intro w hsw hkw hxw hcs
    subst hcs
    refine ⟨.slice (some ⟨b, 0, none⟩) 0 0, h, fun K => ?_, Nat.le_refl _, fun k _ _ => rfl, fun k _ _ => rfl, b, [b], rfl, .inl rfl, hb, hg, hf, fun y hy => ?_, .inl rfl⟩
    · have h1 : Nat.ble (Nat.add 0 0) 0 = true := rfl
      simp only [awrite, wCall, wAppend, hst, hs, hxw, hkw, cond_true, appendA, hsz, hsw, h1, storeC]
    · simp at hy; subst hy
      exact ⟨.inl rfl, hb, [], hg⟩
  rcases hv with ⟨k1, rfl | rfl⟩ | ⟨bx, cap, fx, ro, k1, rfl, k3, k4, k5⟩
  · exact nil _ rfl (by simp only [kindOk, hxt]) hx k1
  · exact nil _ rfl (by simp only [kindOk, hxt, emptyS]) hx k1
  · have hfl : ∀ {l : List (List Value)}, (∀ c, c ∈ l → c.length = sz) → l.flatten.length = l.length * sz := by
      intro l
      induction l with
      | nil => intro _; simp
      | cons a l ih =>
        intro hl
        rw [List.flatten_cons, List.length_append, hl a (by simp), ih fun c hc => hl c (by simp [hc]), List.length_cons, Nat.succ_mul]; omega
    have hlen := hfl k5
    have hsrc : srcCells h sz (.slice (some ⟨bx, 0, none⟩) cs.length cap) = some (cs.flatten, cs.length) := by
      have hb' : Nat.ble (Nat.add 0 (Nat.mul cs.length sz)) cs.flatten.length = true := Nat.ble_eq_true_of_le (by rw [hlen]; show 0 + cs.length * sz ≤ _; omega)
      simp only [srcCells, k4, hb', cond_true]
      rw [List.drop_zero, List.take_of_length_le (by rw [hlen]; exact Nat.le_refl _)]
    have hpos : 0 < cs.length := by cases cs with | nil => exact absurd rfl k1 | cons a r => simp
    have hcap : Nat.ble cs.length 0 = false := by
      cases q : Nat.ble cs.length 0 with
      | false => rfl
      | true => have := Nat.le_of_ble_eq_true q; omega
    have hble : Nat.ble (Nat.add 0 (Nat.mul 0 sz)) ([] : List Value).length = true := Nat.ble_eq_true_of_le (by show 0 + 0 * sz ≤ 0; omega)
    have hz : zOk h b sz = true := by unfold zOk; rw [hg]; simp only [Nat.beq_refl, cond_true]
    have hnn : numOk P e cs.length = true := hnum2 _ hn
    have hko : kindOk P xt (.slice (some ⟨bx, 0, none⟩) cs.length cap) = true := by simp only [kindOk, hxt]
    have htk : ([] : List Value).take (Nat.add 0 (Nat.mul 0 sz)) = [] := by simp
    have hdt : (([] : List Value).drop 0).take (Nat.mul 0 sz) ++ cs.flatten = cs.flatten := by simp
    have hg' : ∀ k, k < h.nx → k ≠ b → (h.grow b b sz [b] [] cs.flatten).bl.get k = h.bl.get k := by
      intro k hk hkb
      show (T.set (h.nx + 1) (T.set (b + 1) (kill [b] b h.bl) b (.cells [] b false)) h.nx (.cells cs.flatten b false)).get k = _
      rw [get_ne (by omega) (by omega), get_ne (by omega) hkb, kill_get, if_neg (fun q => by simp at q)]
    refine ⟨.slice (some ⟨h.nx, 0, none⟩) cs.length cs.length, h.grow b b sz [b] [] cs.flatten, fun K => ?_, Nat.le_succ _, hg', ?_, h.nx, [h.nx, b], rfl, .inr rfl, Nat.lt_succ_self _, get_eq (by omega), ?_, ?_, .inr ⟨get_eq (by omega), by omega⟩⟩
    · simp only [awrite, wCall, wAppend, hst, hs, hx, hko, cond_true, appendA, hsz, hsrc, hcap, cond_false, appendGrow, hg, hble, hnn, hz, Bool.and_self, hf, growH_eq, htk, hdt, fNat_eq, show Nat.add 0 cs.length = cs.length from Nat.zero_add _]
    · intro k hk hkb
      show (T.set (h.nx + 1) (T.set (b + 1) h.fams b [h.nx, b]) h.nx [sz]).get k = _
      rw [get_ne (by omega) (by omega), get_ne (by omega) hkb]
    · show (T.set (h.nx + 1) (T.set (b + 1) h.fams b [h.nx, b]) h.nx [sz]).get b = _
      rw [get_ne (by omega) (by omega), get_eq (by omega)]
    · intro y hy
      simp at hy
      rcases hy with rfl | rfl
      · exact ⟨.inr rfl, Nat.lt_succ_self _, _, get_eq (by omega)⟩
      · refine ⟨.inl rfl, Nat.lt_succ_of_lt hb, [], ?_⟩
        show (T.set (h.nx + 1) (T.set (y + 1) (kill [y] y h.bl) y (.cells [] y false)) h.nx (.cells cs.flatten y false)).get y = _
        rw [get_ne (by omega) (by omega), get_eq (by omega)]
theorem wr_copyE {b sz : Nat} {v : Value} {cs : List (List Value)} {e st xt e' : TypeId} {s x : Operand} (hst : slOf P st = some e) (hxt : P.underlying xt = some (.slice e')) (hs : ev P t s = .slice (some ⟨b, 0, none⟩) 0 0) (hx : ev P t x = v) (hsz : sizeB P e = some sz)
    (hg : h.bl.get b = some (.cells [] b false)) (hf : h.fams.get b = some [b]) (hb : b < h.nx) (hv : SlAt h sz v cs) (hnum : numOk P e 1 = true) (hn : cs.length < bigNat)
    (kk : ∀ v' h', Copied h h' b sz v' cs → putR P call ops n rest dst t v' h' KR = true) : wrR P call ops n rest (.call ⟨.builtin .append, #[s, x], #[st, xt]⟩) dst t h KR = true := by
  obtain ⟨v', h', hw, hc⟩ := aw_copyE (call := call) (dst := dst) (ty := 0) (pos := "") (af := #[]) (g := none) hst hxt hs hx hsz hg hf hb hv hnum hn
  unfold wrR
  rw [hw]
  exact kk v' h' hc
end
end Go.Ev

/- An append onto a copy. -/
namespace Go.Ev
open Go.RowKit
section
variable {P : Program} {n : Nat} {t : T Value} {h : AHeap} {ops : Array Oper} {call : CallT} {dst : Option Tmp} {ty : TypeId} {pos : String} {af : Array Edge} {g : Option (Nat × Bool)}
variable {f : Nat} {l : List Info} {i m done : Nat} {hist : List Seen} {KR : T Value → AHeap → Bool} {d fl : Nat} {ids : List (Nat × Nat)}
end
end Go.Ev

/- Quotients. -/
namespace Go.Ev
open Go.RowKit
section
variable {P : Program} {t : T Value} {dst : Option Tmp} {ty a b : TypeId} {pos : String} {af : Array Edge} {g : Option (Nat × Bool)} {x y : Operand} {i j : Int}
theorem bin_quo (hx : ev P t x = .int .i64 i) (hy : ev P t y = .int .i64 j) (hj : j ≠ 0) (h1 : -9223372036854775808 ≤ i.tdiv j) (h2 : i.tdiv j < 9223372036854775808) :
    rBin P t ⟨dst, .binOp .quo a x y b, ty, pos, af, g⟩ .quo a (.int .i64 j) (.int .i64 i) = some (.int .i64 (i.tdiv j)) := by
  show ground P t _ = _
  have e1 : evL P t (Op.operands (.binOp .quo a x y b)).toList = [.int .i64 i, .int .i64 j] := by simp only [Op.operands, evL, hx, hy]
  have ew : IntKind.i64.wrap (i.tdiv j) = i.tdiv j := by
    rw [← wrapF_eq, wrap64 _ h1 h2]
  have e6 : pureOf P (execOp (ev P t) ⟨dst, .binOp .quo a x y b, ty, pos, af, g⟩) = some (.value (.int .i64 (i.tdiv j))) := by
    simp [execOp, hx, hy, binOp, Op.intDiv, hj, ew, eqGuard, pureOf, bind, Sem.bind, pure]
  unfold ground
  rw [e1, e6]
  rfl
end
end Go.Ev

/- Calls that change what was there. -/
namespace Go.Ev
open Go.RowKit
/-- What a call returns, and all that it leaves. -/
def BringsX (P : Program) (R : ExT) (g : FuncId) (args : List Value) (h : AHeap) (Post : Value → AHeap → Prop) : Prop :=
  ∀ K : KV, (∀ v h', Post v h' → K v h' = true) → callFunc1 P R g args h K = true
section
variable {P : Program} {pr : Prim} {R : ExT}
theorem bringsX_of {g : FuncId} {args : List Value} {h : AHeap} {Post : Value → AHeap → Prop} {fn : Func} {c : Code} (hf : P.funcs[g]? = some fn) (hb : fn.body = some c) (hname : (fn.name == "runtime.NumGoroutine") = false) (hlen : Nat.ble args.length fn.ntmps = true)
    (run : ∀ K : KV, (∀ v h', Post v h' → K v h' = true) → R fn.ntmps none c (argsT args) h [] (finish P fn K) = true) : BringsX P R g args h Post := by
  intro K hK
  unfold callFunc1
  simp only [hf, hb]
  unfold callBody
  rw [hname, cond_false, hlen, cond_true, setArgs_id]
  exact run K hK
variable {ops : Array Oper} {n : Nat} {rest : List Oper} {t : T Value} {h : AHeap} {KR : T Value → AHeap → Bool} {dst : Option Tmp}
theorem wr_bringsX {f : Operand} {as : Array Operand} {ts : Array TypeId} {fid : FuncId} {first captured : Array Value} {Post : Value → AHeap → Prop} (hf : ev P t f = .func (.func fid) first captured)
    (hp : pr fid (first.toList ++ evL P t as.toList ++ captured.toList) h = none) (hy : BringsX P R fid (first.toList ++ evL P t as.toList ++ captured.toList) h Post)
    (k : ∀ v h', Post v h' → putR P (withPrim pr (callVal P R)) ops n rest dst t v h' KR = true) :
    wrR P (withPrim pr (callVal P R)) ops n rest (.call ⟨.value f, as, ts⟩) dst t h KR = true := by
  simp only [wrR, awrite, wCall, hf, withPrim, hp, callVal]
  exact hy _ k
variable {f : Nat} {l : List Info} {i m done : Nat} {hist : List Seen} {ty : TypeId} {ps : String} {af : Array Edge} {g : Option (Nat × Bool)} {d : Tmp}
end
theorem Fr.trans {H h h' : AHeap} {B : Nat} (a : Fr H B h) (b : Fr h B h') : Fr H B h' :=
  ⟨Nat.le_trans a.le b.le, fun k hk hn => (b.bl k (Nat.lt_of_lt_of_le hk a.le) hn).trans (a.bl k hk hn), fun k hk => (b.fam k (Nat.lt_of_lt_of_le hk a.le)).trans (a.fam k hk)⟩
theorem Kp.fr {h h' : AHeap} {B : Nat} (a : Kp h h') : Fr h B h' := Fr.refl.kp a
section
variable {H h : AHeap} {B : Nat}
theorem Fr.get (a : Fr H B h) {k : Nat} (hk : k < H.nx) (hn : k ≠ B) : h.bl.get k = H.bl.get k := a.bl k hk hn
end
end Go.Ev

/- Maps whose keys and values are pairs of integers. -/
namespace Go.Ev
open Go.RowKit
def AHeap.setm (h : AHeap) (r : Nat) (o : AObj) : AHeap := ⟨T.set (r + 1) h.bl r o, h.nx, h.fams⟩
theorem setm_eq {h : AHeap} {r : Nat} {o : AObj} : (AHeap.setm h r o).bl.get r = some o := get_eq (Nat.lt_succ_self _)
theorem setm_ne {h : AHeap} {r : Nat} {o : AObj} {B : Nat} (e : B ≠ r) : (AHeap.setm h r o).bl.get B = h.bl.get B := get_ne (Nat.lt_succ_self _) e
theorem setm_fams {h : AHeap} {r : Nat} {o : AObj} {B : Nat} : (AHeap.setm h r o).fams.get B = h.fams.get B := rfl
theorem Fr.setm {H h : AHeap} {r : Nat} {o : AObj} (a : Fr H r h) : Fr H r (AHeap.setm h r o) :=
  ⟨a.le, fun j hj hn => by rw [setm_ne hn]; exact a.bl j hj hn, fun j hj => by rw [setm_fams]; exact a.fam j hj⟩
theorem setMap_eq (h : AHeap) (r clock : Nat) (es : List MapEntry) (K : AHeap → Bool) : setMap h r clock es K = K (AHeap.setm h r (.map es clock)) := by
  simp only [setMap, fSpine_eq, setO, T.setK_eq, AHeap.setm]

abbrev II := Int × Int
def pv (p : II) : List Value := [iv p.1, iv p.2]
def eqII (p q : II) : Bool := decide (p.1 = q.1) && decide (p.2 = q.2)
theorem eqII_iff {p q : II} : eqII p q = true ↔ p = q := by
  unfold eqII
  simp only [Bool.and_eq_true, decide_eq_true_eq]
  exact ⟨fun h => Prod.ext h.1 h.2, fun h => by rw [h]; exact ⟨rfl, rfl⟩⟩
theorem eqInts_pv (p q : II) : eqInts (pv p) (pv q) = some (eqII p q) := by
  unfold eqII
  simp only [pv, eqInts, beqKind, cond_true, beqI_eq]
  by_cases h1 : p.1 = q.1 <;> by_cases h2 : p.2 = q.2 <;> simp [h1, h2]
section
variable {P : Program} {mt kt vt : TypeId}
end
theorem aw_alloc {P : Program} {call : CallT} {t : T Value} {h : AHeap} {dst : Option Tmp} {ty a : TypeId} {ps : String} {af : Array Edge} {g : Option (Nat × Bool)} {z : Value} (hz : zeroOf P a = some z) (K : KV) : awrite P call t h ⟨dst, .alloc a, ty, ps, af, g⟩ K = K (.pointer (some ⟨h.nx, 0, none⟩)) (h.add z.cells.toList) := by
  simp only [awrite, wAlloc, hz, newC_add, ptrK]
theorem rd_lookup {P : Program} {t : T Value} {h : AHeap} {dst : Option Tmp} {ty a : TypeId} {pos : String} {af : Array Edge} {g : Option (Nat × Bool)} {x y : Operand} {ok : Bool} : aread P t h ⟨dst, .lookup a x y ok, ty, pos, af, g⟩ = rLookup P t h ⟨dst, .lookup a x y ok, ty, pos, af, g⟩ a (ev P t y) ok (ev P t x) := (rfl)
theorem w_lookup {P : Program} {a : TypeId} {x y : Operand} {ok : Bool} : isW P (.lookup a x y ok) = false := (rfl)
theorem aw_mapUpdate {P : Program} {call : CallT} {t : T Value} {h : AHeap} {dst : Option Tmp} {ty a : TypeId} {ps : String} {af : Array Edge} {g : Option (Nat × Bool)} {x y z : Operand} {K : KV} : awrite P call t h ⟨dst, .mapUpdate a x y z, ty, ps, af, g⟩ K = wMapUpdate P h a (ev P t y) (ev P t z) K (ev P t x) := (rfl)
theorem wr_mkmap {P : Program} {call : CallT} {ops : Array Oper} {n : Nat} {rest : List Oper} {t : T Value} {h : AHeap} {KR : T Value → AHeap → Bool} {dst : Option Tmp} {a : TypeId} :
    wrR P call ops n rest (.makeMap a none) dst t h KR = putR P call ops n rest dst t (.map (some h.nx)) ⟨T.set (h.nx + 1) h.bl h.nx (.map [] 0), h.nx + 1, h.fams⟩ KR := by
  simp only [wrR, awrite, wMakeMap, newO, fNat_eq, T.setK_eq]
section
variable {h h' : AHeap} {r : Nat} {v : Value} {es : List MapEntry} {n : Nat}
theorem IAt.frm {l : List Int} (k : IAt h v l) (a : Fr h r h') (hm : h.bl.get r = some (.map es n)) : IAt h' v l := by
  rcases k with k | ⟨b, c, f, ro, k1, k2, k3⟩
  · exact .inl k
  · have hb : b ≠ r := fun e => by rw [e, hm] at k3; cases k3
    exact .inr ⟨b, c, f, ro, k1, Nat.lt_of_lt_of_le k2 a.le, (a.bl b k2 hb).trans k3⟩
theorem SlAt.frm {sz : Nat} {cs : List (List Value)} (k : SlAt h sz v cs) (a : Fr h r h') (hm : h.bl.get r = some (.map es n)) : SlAt h' sz v cs := by
  rcases k with k | ⟨b, c, f, ro, k1, k2, k3, k4, k5⟩
  · exact .inl k
  · have hb : b ≠ r := fun e => by rw [e, hm] at k4; cases k4
    exact .inr ⟨b, c, f, ro, k1, k2, Nat.lt_of_lt_of_le k3 a.le, (a.bl b k3 hb).trans k4, k5⟩
end
end Go.Ev

/- Two rows of booleans, compared by the model's own text. -/
namespace Go.Ev
open Go.RowKit

section
variable {P : Program}

end
end Go.Ev

/- Two rows of integers, compared by the model's own text. -/
namespace Go.Ev
open Go.RowKit
section
variable {P : Program}
end
end Go.Ev

/- Rows that are made at once, and stored one by one. -/
namespace Go.Ev
open Go.RowKit
section
variable {P : Program} {t : T Value} {h : AHeap} {call : CallT} {ops : Array Oper} {n : Nat} {rest : List Oper} {KR : T Value → AHeap → Bool} {dst : Option Tmp} {ty a e : TypeId} {pos : String} {af : Array Edge} {g : Option (Nat × Bool)}
end
end Go.Ev

/- Bodies with labels. -/
namespace Go.Ev
open Go.RowKit
section
variable {P : Program} {pr : Prim} {R : ExT} {n : Nat} {rd : Option Nat} {t : T Value} {h : AHeap} {ds : List Nat} {K : KT}
end
end Go.Ev

/- Slices of integers that grew, stored into in place; new slices of integers, as an operation that hands on. -/
namespace Go.Ev
open Go.RowKit
end Go.Ev
namespace Go.Ev
open Go.RowKit
section
variable {P : Program} {call : CallT} {ops : Array Oper} {n : Nat} {rest : List Oper} {t : T Value} {h h' : AHeap} {KR : T Value → AHeap → Bool}
theorem drR_of' {w : Option Bool} {o : Option Value} {v : Value} {f : Nat} {l : List Info} {done i : Nat} {q : Oper} {hist : List Seen} (hr : o = some v) (k : drR w (some v) P call ops n f l done i q hist t h KR = true) : drR w o P call ops n f l done i q hist t h KR = true := by rw [hr]; exact k
end
end Go.Ev

/- Slices that grow beside each other. -/
namespace Go.Ev
open Go.RowKit
section
variable {P : Program} {n : Nat} {t : T Value} {h : AHeap} {ops : Array Oper} {call : CallT} {dst : Option Tmp} {rest : List Oper} {KR : T Value → AHeap → Bool}
theorem wr_grown {lo sz F : Nat} {v : Value} {cs : List (List Value)} {c : List Value} {e : TypeId} {st xt e' : TypeId} {s x : Operand} {bx cx fx : Nat} {rx : Bool} (hst : slOf P st = some e) (hxt : P.underlying xt = some (.slice e')) (hs : ev P t s = v) (hx : ev P t x = .slice (some ⟨bx, 0, none⟩) 1 cx)
    (k : App lo h sz v cs F) (hHh : lo ≤ h.nx) (hsz : sizeB P e = some sz) (hc : c.length = sz) (hpos : 0 < sz) (hbx : h.bl.get bx = some (.cells c fx rx)) (hnum : numOk P e 1 = true) (hn : cs.length + 1 < bigNat)
    (kk : ∀ v' h' F', Grown lo h h' sz v' cs c F F' → putR P call ops n rest dst t v' h' KR = true) :
    wrR P call ops n rest (.call ⟨.builtin .append, #[s, x], #[st, xt]⟩) dst t h KR = true := by
  obtain ⟨v', h', F', hw, hg⟩ := aw_append (call := call) (dst := dst) (ty := 0) (pos := "") (af := #[]) (g := none) hst hxt hs hx k hHh hsz hc hpos hbx hnum hn
  unfold wrR
  rw [hw]
  exact kk v' h' F' hg
end
/-- Two slices that grow beside each other. -/
structure Two1 (lo : Nat) (h : AHeap) (xs ys : List (List Value)) (xv yv : Value) (F1 F2 : Nat) : Prop where
  x : App lo h 1 xv xs F1
  y : App lo h 1 yv ys F2
  fx : xs ≠ [] → F1 < h.nx
  fy : ys ≠ [] → F2 < h.nx
  ne : xs ≠ [] → ys ≠ [] → F1 ≠ F2 ∧ blk xv ≠ some F2 ∧ blk yv ≠ some F1
theorem App.blk_lt1 {lo : Nat} {h : AHeap} {sz F b : Nat} {v : Value} {cs : List (List Value)} (k : App lo h sz v cs F) (hb : blk v = some b) : b < h.nx := by
  rcases k with ⟨_, rfl⟩ | ⟨b', l, _, rfl, _, k3, _⟩
  · cases hb
  · cases hb; exact k3
section
variable {lo : Nat} {h h' : AHeap} {xs ys : List (List Value)} {xv yv xv' : Value} {F1 F2 F1' : Nat} {c : List Value}
theorem Two1.symm (k : Two1 lo h xs ys xv yv F1 F2) : Two1 lo h ys xs yv xv F2 F1 :=
  ⟨k.y, k.x, k.fy, k.fx, fun a b => ⟨fun e => (k.ne b a).1 e.symm, (k.ne b a).2.2, (k.ne b a).2.1⟩⟩
theorem Two1.mono (k : Two1 lo h xs ys xv yv F1 F2) (a : Kp h h') : Two1 lo h' xs ys xv yv F1 F2 :=
  ⟨k.x.mono a, k.y.mono a, fun q => Nat.lt_of_lt_of_le (k.fx q) a.1, fun q => Nat.lt_of_lt_of_le (k.fy q) a.1, k.ne⟩
theorem Two1.grow (k : Two1 lo h xs ys xv yv F1 F2) (g : Grown lo h h' 1 xv' xs c F1 F1') : Two1 lo h' (xs ++ [c]) ys xv' yv F1' F2 := by
  have hn := g.sm.1
  obtain ⟨b, n, m, rfl, hb⟩ := g.blk
  refine ⟨g.app, App.left k.y g.left fun hx hy => ⟨fun e => (k.ne hx hy).1 e.symm, (k.ne hx hy).2.2⟩, fun _ => g.app.fam_lt (by simp), fun q => by have := k.fy q; omega, fun _ hy => ⟨fun e => ?_, fun e => ?_, fun e => ?_⟩⟩
  · have := k.fy hy
    by_cases hx : xs = []
    · have := g.fresh hx; omega
    · rw [g.same hx] at e; exact (k.ne hx hy).1 e
  · have := k.fy hy
    have e : b = F2 := by cases e; rfl
    omega
  · by_cases hx : xs = []
    · have h1 := g.fresh hx
      have h2 := App.blk_lt1 k.y e
      omega
    · rw [g.same hx] at e; exact (k.ne hx hy).2.2 e
end
/-- Three slices that grow beside each other. -/
structure Tri (lo : Nat) (h : AHeap) (xs ys zs : List (List Value)) (xv yv zv : Value) (F1 F2 F3 : Nat) : Prop where
  xy : Two1 lo h xs ys xv yv F1 F2
  xz : Two1 lo h xs zs xv zv F1 F3
  yz : Two1 lo h ys zs yv zv F2 F3
section
variable {lo : Nat} {h h' : AHeap} {xs ys zs : List (List Value)} {xv yv zv xv' : Value} {F1 F2 F3 F1' : Nat} {c : List Value}
theorem Tri.start {lo : Nat} {h : AHeap} : Tri lo h [] [] [] (.slice none 0 0) (.slice none 0 0) (.slice none 0 0) 0 0 0 :=
  have t : Two1 lo h [] [] (.slice none 0 0) (.slice none 0 0) 0 0 := ⟨.inl ⟨rfl, rfl⟩, .inl ⟨rfl, rfl⟩, fun e => absurd rfl e, fun e => absurd rfl e, fun e => absurd rfl e⟩
  ⟨t, t, t⟩
end
end Go.Ev

/- Copies of integers onto a block; maps whose keys are pairs of integers and whose values are structs of integers. -/
namespace Go.Ev
open Go.RowKit
section
variable {P : Program} {call : CallT} {t : T Value} {h : AHeap} {dst : Option Tmp} {ty : TypeId} {ps : String} {af : Array Edge} {g : Option (Nat × Bool)}
theorem aw_copyI {dt st e : TypeId} {d s : Operand} {B N cap : Nat} {k0 fam : Nat} {c : List Value} {v : Value} {l : List Int} (h1 : slOf P dt = some e) (h2 : sizeB P e = some 1) (hu : ∃ e', P.underlying st = some (.slice e')) (hd : ev P t d = .slice (some ⟨B, 0, none⟩) N cap) (hs : ev P t s = v) (hv : IAt h v l) (hne : l ≠ []) (hl : l.length ≤ N)
    (hg : h.bl.get B = some (.cells c fam false)) (hf : h.fams.get fam = some [k0]) (hc : N ≤ c.length) (K : KV) :
    awrite P call t h ⟨dst, .call ⟨.builtin .copy, #[d, s], #[dt, st]⟩, ty, ps, af, g⟩ K = K (.int .i64 (l.length : Int)) (h.upd B (l.map iv ++ c.drop l.length) fam) := by
  rcases hv with ⟨k1, _⟩ | ⟨b, cp, f, ro, rfl, k2, k3⟩
  · exact absurd k1 hne
  · obtain ⟨e', hu⟩ := hu
    have hk : kindOk P st (.slice (some ⟨b, 0, none⟩) l.length cp) = true := by simp only [kindOk, hu]
    have hsrc : srcCells h 1 (.slice (some ⟨b, 0, none⟩) l.length cp) = some (l.map iv, l.length) := by
      have hb : Nat.ble (Nat.add 0 (Nat.mul l.length 1)) (l.map iv).length = true := Nat.ble_eq_true_of_le (by rw [List.length_map]; show 0 + l.length * 1 ≤ _; omega)
      simp only [srcCells, k3, hb, cond_true]
      rw [show Nat.mul l.length 1 = l.length from Nat.mul_one _, List.drop_zero, List.take_of_length_le (by rw [List.length_map]; exact Nat.le_refl _)]
    have hmin : Nat.min l.length N = l.length := Nat.min_eq_left hl
    have hb2 : Nat.ble (Nat.add 0 (l.map iv).length) c.length = true := Nat.ble_eq_true_of_le (by rw [List.length_map]; show 0 + l.length ≤ _; omega)
    have he : spliceL c 0 (l.map iv) = l.map iv ++ c.drop l.length := by
      rw [spliceL_eq c 0 (l.map iv) (by rw [List.length_map]; omega), List.length_map, List.take_zero, List.nil_append, Nat.zero_add]
    have e1 : (#[dt, st] : Array TypeId).toList = [dt, st] := rfl
    have e2 : (#[d, s] : Array Operand).toList = [d, s] := rfl
    obtain ⟨v0, l0, e0⟩ : ∃ v0 l0, l.map iv = v0 :: l0 := by
      cases l with
      | nil => exact absurd rfl hne
      | cons a r => exact ⟨_, _, rfl⟩
    rw [e0] at hsrc hb2 he ⊢
    simp only [awrite, wCall, wCopy, h1, h2, hd, hs, hk, cond_true, wCopy2, hmin, fNat_eq, wCopy1, hsrc, storeC, hg, storeC1, hb2, fSpine_eq, he, hf, T.setK_eq]
    rfl
end
/-! ## Maps of pairs to structs -/
section
variable {β : Type}
abbrev GL (β : Type) := List (II × β)
def mkG (cv : β → List Value) : GL β → Nat → List MapEntry
  | [], _ => []
  | e :: r, i => ⟨.agg ⟨pv e.1⟩, .agg ⟨cv e.2⟩, i⟩ :: mkG cv r (i + 1)
def lkG : GL β → II → Nat → Option (Nat × β)
  | [], _, _ => none
  | e :: r, p, j => bif eqII p e.1 then some (j, e.2) else lkG r p (j + 1)
theorem findI_mkG (cv : β → List Value) (p : II) : ∀ (L : GL β) (i j : Nat), findI (pv p) (mkG cv L i) j = some ((lkG L p j).map fun x => (x.1, .agg ⟨cv x.2⟩))
  | [], i, j => rfl
  | e :: r, i, j => by
    simp only [mkG, findI, eqInts_pv, lkG]
    cases hq : eqII p e.1 with
    | true => rfl
    | false =>
      simp only [cond_false, fNat_eq]
      exact findI_mkG cv p r (i + 1) (Nat.succ j)
theorem lkG_mem {p : II} : ∀ {L : GL β} {j : Nat} {x : Nat × β}, lkG L p j = some x → (p, x.2) ∈ L
  | [], _, _, h => by cases h
  | e :: r, j, x, h => by
    simp only [lkG] at h
    cases hq : eqII p e.1 with
    | true =>
      rw [hq, cond_true] at h
      cases h
      rw [eqII_iff.1 hq]; simp
    | false =>
      rw [hq, cond_false] at h
      exact List.mem_cons_of_mem _ (lkG_mem h)
theorem lkG_snoc {p q : II} {f : β} : ∀ {L : GL β} {j : Nat}, lkG L p j = none → p ≠ q → lkG (L ++ [(q, f)]) p j = none
  | [], j, _, hn => by
    have : eqII p q = false := by
      cases h : eqII p q with
      | true => exact absurd (eqII_iff.1 h) hn
      | false => rfl
    simp only [List.nil_append, lkG, this, cond_false]
  | e :: r, j, h, hn => by
    simp only [List.cons_append, lkG] at h ⊢
    cases hq : eqII p e.1 with
    | true => rw [hq, cond_true] at h; cases h
    | false =>
      rw [hq, cond_false] at h
      simp only [cond_false]
      exact lkG_snoc h hn
theorem mkG_append (cv : β → List Value) : ∀ (L : GL β) (p : II) (f : β) (i : Nat), mkG cv L i ++ [⟨.agg ⟨pv p⟩, .agg ⟨cv f⟩, i + L.length⟩] = mkG cv (L ++ [(p, f)]) i
  | [], p, f, i => rfl
  | e :: r, p, f, i => by
    simp only [mkG, List.cons_append, List.length_cons]
    rw [← mkG_append cv r p f (i + 1), show i + 1 + r.length = i + (r.length + 1) from by omega]
variable {P : Program} {mt kt vt : TypeId} {cv : β → List Value}
theorem findK_G (hk : intKey P kt = some 2) (empty : Bool) (L : GL β) (p : II) : findK P empty kt (.agg ⟨pv p⟩) (mkG cv L 0) = some ((lkG L p 0).map fun x => (x.1, .agg ⟨cv x.2⟩)) := by
  have h1 : plainB (.agg ⟨pv p⟩) = true := rfl
  simp only [findK, h1, cond_true, hk, findKeyF1]
  have h2 : Nat.beq (pv p).length 2 = true := rfl
  simp only [h2, cond_true, findI_mkG, findKeyF2]
def lkTG (cv : β → List Value) (z : Value) : Option (Nat × β) → Value
  | some x => .tuple #[.agg ⟨cv x.2⟩, .bool true]
  | none => .tuple #[z, .bool false]
theorem lookup_G {t : T Value} {h : AHeap} {o : Oper} {r n : Nat} {L : GL β} {p : II} {z : Value} (hm : mapOf P mt = some (kt, vt)) (hk : intKey P kt = some 2) (hz : zeroOf P vt = some z) (hg : h.bl.get r = some (.map (mkG cv L 0) n)) :
    rLookup P t h o mt (.agg ⟨pv p⟩) true (.map (some r)) = some (lkTG cv z (lkG L p 0)) := by
  simp only [rLookup, hm, entriesOf, hg, findK_G hk, hz]
  cases lkG L p 0 with
  | some x => rfl
  | none => rfl
theorem update_G {h : AHeap} {r : Nat} {L : GL β} {p : II} {f : β} (ho : okV (.agg ⟨cv f⟩) = true) (hm : mapOf P mt = some (kt, vt)) (hk : intKey P kt = some 2) (hg : h.bl.get r = some (.map (mkG cv L 0) L.length)) (hn : lkG L p 0 = none) (K : KV) :
    wMapUpdate P h mt (.agg ⟨pv p⟩) (.agg ⟨cv f⟩) K (.map (some r)) = K undef (AHeap.setm h r (.map (mkG cv (L ++ [(p, f)]) 0) (L ++ [(p, f)]).length)) := by
  have ha := mkG_append cv L p f 0
  rw [Nat.zero_add] at ha
  simp only [wMapUpdate, hm, entriesOf, hg, ho, cond_true, findK_G hk, hn, Option.map_none, wMapUpdate1, fNat_eq, setMap_eq, ha]
  rw [List.length_append]
  rfl
end
end Go.Ev
