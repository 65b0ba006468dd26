import Derived.Test.YtfbkgnojdngiiaaEvD
/- Copies of slices, frames around one block, and writes in drawn regions. -/
namespace Go.Ev
open Go.RowKit

section
variable {P : Program} {n : Nat} {t : T Value} {h : AHeap} {ops : Array Oper} {call : CallT} {f : Nat} {l : List Info} {i m done : Nat} {hist : List Seen} {rest : List Oper} {KR : T Value → AHeap → Bool} {dst : Option Tmp} {op : Op} {ty : TypeId} {pos : String} {af : Array Edge} {g : Option (Nat × Bool)} {d : Tmp}
/-- A slice literal without elements. -/
theorem aw_lit0 {e : TypeId} {sz : Nat} {sl : TypeId} {z : Value} (h1 : slOf P sl = some e) (h2 : sizeB P e = some sz) (h3 : zeroOf P e = some z) (h4 : z.cells.size = sz) (K : KV) : awrite P call t h ⟨dst, .buildSlice sl 0 #[], ty, pos, af, g⟩ K = K (.slice (some ⟨h.nx, 0, none⟩) 0 0) (h.add []) := by
  have h5 : Nat.ble (Nat.mul 0 sz) 16777216 = true := Nat.ble_eq_true_of_le (by show 0 * sz ≤ _; omega)
  have h6 : okP ([] : List (Nat × Value)) = true := rfl
  have h7 : Nat.beq z.cells.size sz = true := by rw [h4]; exact Nat.beq_refl _
  have h8 : Instr.fill (fun k => some (k * sz, sz)) (⟨repl z.cells.toList 0 []⟩ : Array Value) [] = some #[] := rfl
  simp only [awrite, wBuildSlice, h1, h2, h3, List.map_nil, h6, h5, h7, Bool.and_self, cond_true, h8, wSlice1, newC_add]
theorem wr_lit0 {e : TypeId} {sz : Nat} {sl : TypeId} {z : Value} (h1 : slOf P sl = some e) (h2 : sizeB P e = some sz) (h3 : zeroOf P e = some z) (h4 : z.cells.size = sz) (kk : putR P call ops n rest dst t (.slice (some ⟨h.nx, 0, none⟩) 0 0) (h.add []) KR = true) :
    wrR P call ops n rest (.buildSlice sl 0 #[]) dst t h KR = true := by
  unfold wrR
  rw [aw_lit0 h1 h2 h3 h4]
  exact kk

/-- What lies behind an append of rows onto an empty literal at block b. -/
structure Copied (h h' : AHeap) (b sz : Nat) (v' : Value) (cs : List (List Value)) : Prop where
  le : h.nx ≤ h'.nx
  bl : ∀ k, k < h.nx → k ≠ b → h'.bl.get k = h.bl.get k
  fam : ∀ k, k < h.nx → k ≠ b → h'.fams.get k = h.fams.get k
  at_ : ∃ B l, v' = .slice (some ⟨B, 0, none⟩) cs.length cs.length ∧ (B = b ∨ B = h.nx) ∧ B < h'.nx ∧ h'.bl.get B = some (.cells cs.flatten b false) ∧ h'.fams.get b = some l ∧ (∀ x, x ∈ l → (x = b ∨ x = h.nx) ∧ x < h'.nx ∧ ∃ c, h'.bl.get x = some (.cells c b false)) ∧ (B = b ∨ (h'.fams.get B = some [sz] ∧ b ≠ B))
theorem aw_copyE {b sz : Nat} {v : Value} {cs : List (List Value)} {e st xt e' : TypeId} {s x : Operand} (hst : slOf P st = some e) (hxt : P.underlying xt = some (.slice e')) (hs : ev P t s = .slice (some ⟨b, 0, none⟩) 0 0) (hx : ev P t x = v) (hsz : sizeB P e = some sz)
    (hg : h.bl.get b = some (.cells [] b false)) (hf : h.fams.get b = some [b]) (hb : b < h.nx) (hv : SlAt h sz v cs) (hnum : numOk P e 1 = true) (hn : cs.length < bigNat) :
    ∃ v' h', (∀ K : KV, awrite P call t h ⟨dst, .call ⟨.builtin .append, #[s, x], #[st, xt]⟩, ty, pos, af, g⟩ K = K v' h') ∧ Copied h h' b sz v' cs := by
  have hnum2 : ∀ m, m < bigNat → numOk P e m = true := fun m hm => by
    unfold numOk at hnum ⊢
    split at hnum
    · simp only [Bool.and_eq_true] at hnum ⊢
      exact ⟨by rw [Nat.blt_eq]; exact hm, hnum.2⟩
    · cases hnum
  have nil : ∀ w : Value, srcCells h sz w = some ([], 0) → kindOk P xt w = true → ev P t x = w → cs = [] →
      ∃ v' h', (∀ K : KV, awrite P call t h ⟨dst, .call ⟨.builtin .append, #[s, x], #[st, xt]⟩, ty, pos, af, g⟩ K = K v' h') ∧ Copied h h' b sz v' cs := by
    intro w hsw hkw hxw hcs
    subst hcs
    refine ⟨.slice (some ⟨b, 0, none⟩) 0 0, h, fun K => ?_, Nat.le_refl _, fun k _ _ => rfl, fun k _ _ => rfl, b, [b], rfl, .inl rfl, hb, hg, hf, fun y hy => ?_, .inl rfl⟩
    · have h1 : Nat.ble (Nat.add 0 0) 0 = true := rfl
      simp only [awrite, wCall, wAppend, hst, hs, hxw, hkw, cond_true, appendA, hsz, hsw, h1, storeC]
    · simp at hy; subst hy
      exact ⟨.inl rfl, hb, [], hg⟩
  rcases hv with ⟨k1, rfl | rfl⟩ | ⟨bx, cap, fx, ro, k1, rfl, k3, k4, k5⟩
  · exact nil _ rfl (by simp only [kindOk, hxt]) hx k1
  · exact nil _ rfl (by simp only [kindOk, hxt, emptyS]) hx k1
  · have hfl : ∀ {l : List (List Value)}, (∀ c, c ∈ l → c.length = sz) → l.flatten.length = l.length * sz := by
      intro l
      induction l with
      | nil => intro _; simp
      | cons a l ih =>
        intro hl
        rw [List.flatten_cons, List.length_append, hl a (by simp), ih fun c hc => hl c (by simp [hc]), List.length_cons, Nat.succ_mul]; omega
    have hlen := hfl k5
    have hsrc : srcCells h sz (.slice (some ⟨bx, 0, none⟩) cs.length cap) = some (cs.flatten, cs.length) := by
      have hb' : Nat.ble (Nat.add 0 (Nat.mul cs.length sz)) cs.flatten.length = true := Nat.ble_eq_true_of_le (by rw [hlen]; show 0 + cs.length * sz ≤ _; omega)
      simp only [srcCells, k4, hb', cond_true]
      rw [List.drop_zero, List.take_of_length_le (by rw [hlen]; exact Nat.le_refl _)]
    have hpos : 0 < cs.length := by cases cs with | nil => exact absurd rfl k1 | cons a r => simp
    have hcap : Nat.ble cs.length 0 = false := by
      cases q : Nat.ble cs.length 0 with
      | false => rfl
      | true => have := Nat.le_of_ble_eq_true q; omega
    have hble : Nat.ble (Nat.add 0 (Nat.mul 0 sz)) ([] : List Value).length = true := Nat.ble_eq_true_of_le (by show 0 + 0 * sz ≤ 0; omega)
    have hz : zOk h b sz = true := by unfold zOk; rw [hg]; simp only [Nat.beq_refl, cond_true]
    have hnn : numOk P e cs.length = true := hnum2 _ hn
    have hko : kindOk P xt (.slice (some ⟨bx, 0, none⟩) cs.length cap) = true := by simp only [kindOk, hxt]
    have htk : ([] : List Value).take (Nat.add 0 (Nat.mul 0 sz)) = [] := by simp
    have hdt : (([] : List Value).drop 0).take (Nat.mul 0 sz) ++ cs.flatten = cs.flatten := by simp
    have hg' : ∀ k, k < h.nx → k ≠ b → (h.grow b b sz [b] [] cs.flatten).bl.get k = h.bl.get k := by
      intro k hk hkb
      show (T.set (h.nx + 1) (T.set (b + 1) (kill [b] b h.bl) b (.cells [] b false)) h.nx (.cells cs.flatten b false)).get k = _
      rw [get_ne (by omega) (by omega), get_ne (by omega) hkb, kill_get, if_neg (fun q => by simp at q)]
    refine ⟨.slice (some ⟨h.nx, 0, none⟩) cs.length cs.length, h.grow b b sz [b] [] cs.flatten, fun K => ?_, Nat.le_succ _, hg', ?_, h.nx, [h.nx, b], rfl, .inr rfl, Nat.lt_succ_self _, get_eq (by omega), ?_, ?_, .inr ⟨get_eq (by omega), by omega⟩⟩
    · simp only [awrite, wCall, wAppend, hst, hs, hx, hko, cond_true, appendA, hsz, hsrc, hcap, cond_false, appendGrow, hg, hble, hnn, hz, Bool.and_self, hf, growH_eq, htk, hdt, fNat_eq, show Nat.add 0 cs.length = cs.length from Nat.zero_add _]
    · intro k hk hkb
      show (T.set (h.nx + 1) (T.set (b + 1) h.fams b [h.nx, b]) h.nx [sz]).get k = _
      rw [get_ne (by omega) (by omega), get_ne (by omega) hkb]
    · show (T.set (h.nx + 1) (T.set (b + 1) h.fams b [h.nx, b]) h.nx [sz]).get b = _
      rw [get_ne (by omega) (by omega), get_eq (by omega)]
    · intro y hy
      simp at hy
      rcases hy with rfl | rfl
      · exact ⟨.inr rfl, Nat.lt_succ_self _, _, get_eq (by omega)⟩
      · refine ⟨.inl rfl, Nat.lt_succ_of_lt hb, [], ?_⟩
        show (T.set (h.nx + 1) (T.set (y + 1) (kill [y] y h.bl) y (.cells [] y false)) h.nx (.cells cs.flatten y false)).get y = _
        rw [get_ne (by omega) (by omega), get_eq (by omega)]
theorem wr_copyE {b sz : Nat} {v : Value} {cs : List (List Value)} {e st xt e' : TypeId} {s x : Operand} (hst : slOf P st = some e) (hxt : P.underlying xt = some (.slice e')) (hs : ev P t s = .slice (some ⟨b, 0, none⟩) 0 0) (hx : ev P t x = v) (hsz : sizeB P e = some sz)
    (hg : h.bl.get b = some (.cells [] b false)) (hf : h.fams.get b = some [b]) (hb : b < h.nx) (hv : SlAt h sz v cs) (hnum : numOk P e 1 = true) (hn : cs.length < bigNat)
    (kk : ∀ v' h', Copied h h' b sz v' cs → putR P call ops n rest dst t v' h' KR = true) : wrR P call ops n rest (.call ⟨.builtin .append, #[s, x], #[st, xt]⟩) dst t h KR = true := by
  obtain ⟨v', h', hw, hc⟩ := aw_copyE (call := call) (dst := dst) (ty := 0) (pos := "") (af := #[]) (g := none) hst hxt hs hx hsz hg hf hb hv hnum hn
  unfold wrR
  rw [hw]
  exact kk v' h' hc
end
end Go.Ev

/- An append onto a copy. -/
namespace Go.Ev
open Go.RowKit
section
variable {P : Program} {n : Nat} {t : T Value} {h : AHeap} {ops : Array Oper} {call : CallT} {dst : Option Tmp} {ty : TypeId} {pos : String} {af : Array Edge} {g : Option (Nat × Bool)}
variable {f : Nat} {l : List Info} {i m done : Nat} {hist : List Seen} {KR : T Value → AHeap → Bool} {d fl : Nat} {ids : List (Nat × Nat)}
end
end Go.Ev

/- Quotients. -/
namespace Go.Ev
open Go.RowKit
section
variable {P : Program} {t : T Value} {dst : Option Tmp} {ty a b : TypeId} {pos : String} {af : Array Edge} {g : Option (Nat × Bool)} {x y : Operand} {i j : Int}
theorem bin_quo (hx : ev P t x = .int .i64 i) (hy : ev P t y = .int .i64 j) (hj : j ≠ 0) (h1 : -9223372036854775808 ≤ i.tdiv j) (h2 : i.tdiv j < 9223372036854775808) :
    rBin P t ⟨dst, .binOp .quo a x y b, ty, pos, af, g⟩ .quo a (.int .i64 j) (.int .i64 i) = some (.int .i64 (i.tdiv j)) := by
  show ground P t _ = _
  have e1 : evL P t (Op.operands (.binOp .quo a x y b)).toList = [.int .i64 i, .int .i64 j] := by simp only [Op.operands, evL, hx, hy]
  have ew : IntKind.i64.wrap (i.tdiv j) = i.tdiv j := by
    rw [← wrapF_eq, wrap64 _ h1 h2]
  have e6 : pureOf P (execOp (ev P t) ⟨dst, .binOp .quo a x y b, ty, pos, af, g⟩) = some (.value (.int .i64 (i.tdiv j))) := by
    simp [execOp, hx, hy, binOp, Op.intDiv, hj, ew, eqGuard, pureOf, bind, Sem.bind, pure]
  unfold ground
  rw [e1, e6]
  rfl
end
end Go.Ev

/- Calls that change what was there. -/
namespace Go.Ev
open Go.RowKit
section
variable {P : Program} {pr : Prim} {R : ExT}
variable {ops : Array Oper} {n : Nat} {rest : List Oper} {t : T Value} {h : AHeap} {KR : T Value → AHeap → Bool} {dst : Option Tmp}
variable {f : Nat} {l : List Info} {i m done : Nat} {hist : List Seen} {ty : TypeId} {ps : String} {af : Array Edge} {g : Option (Nat × Bool)} {d : Tmp}
end
section
variable {H h : AHeap} {B : Nat}
end
end Go.Ev

/- Maps whose keys and values are pairs of integers. -/
namespace Go.Ev
open Go.RowKit
abbrev II := Int × Int
def pv (p : II) : List Value := [iv p.1, iv p.2]
section
variable {P : Program} {mt kt vt : TypeId}
end
section
variable {h h' : AHeap} {r : Nat} {v : Value} {es : List MapEntry} {n : Nat}
end
end Go.Ev

/- Two rows of booleans, compared by the model's own text. -/
namespace Go.Ev
open Go.RowKit

section
variable {P : Program}

end
end Go.Ev

/- Two rows of integers, compared by the model's own text. -/
namespace Go.Ev
open Go.RowKit
section
variable {P : Program}
end
end Go.Ev

/- Rows that are made at once, and stored one by one. -/
namespace Go.Ev
open Go.RowKit
section
variable {P : Program} {t : T Value} {h : AHeap} {call : CallT} {ops : Array Oper} {n : Nat} {rest : List Oper} {KR : T Value → AHeap → Bool} {dst : Option Tmp} {ty a e : TypeId} {pos : String} {af : Array Edge} {g : Option (Nat × Bool)}
end
end Go.Ev

/- Bodies with labels. -/
namespace Go.Ev
open Go.RowKit
def scopeK (K : KT) : KT := fun e t h ds => match e with | .goto _ => false | e => K e t h ds
section
variable {P : Program} {pr : Prim} {R : ExT} {n : Nat} {rd : Option Nat} {t : T Value} {h : AHeap} {ds : List Nat} {K : KT}
theorem Steps.scope (S : Steps P pr R) {b : Code} (k : R n rd b t h ds (scopeK K) = true) : R n rd (.scope b) t h ds K = true := S.step k
theorem Steps.label (S : Steps P pr R) {l : Nat} (k : K .normal t h ds = true) : R n rd (.label l) t h ds K = true := S.step k
theorem scopeK_normal : scopeK K .normal t h ds = K .normal t h ds := (rfl)
theorem scopeK_ret : scopeK K .ret t h ds = K .ret t h ds := (rfl)
end
end Go.Ev

/- Slices of integers that grew, stored into in place; new slices of integers, as an operation that hands on. -/
namespace Go.Ev
open Go.RowKit
/-- A block of integers that nobody else has, with the family in which it grew. -/
def OwnF (lo : Nat) (h : AHeap) (b F : Nat) (l : List Int) : Prop :=
  lo ≤ b ∧ b < h.nx ∧ h.bl.get b = some (.cells (l.map iv) F false) ∧ lo ≤ F ∧ F < h.nx ∧ ∃ fl, h.fams.get F = some fl ∧ ∀ x, x ∈ fl → lo ≤ x
theorem flatI (l : List Int) : (l.map fun n => [iv n]).flatten = l.map iv := by
  induction l with
  | nil => rfl
  | cons a l ih => simp only [List.map_cons, List.flatten_cons, List.singleton_append, ih]
theorem App.ownF {lo F : Nat} {h : AHeap} {v : Value} {l : List Int} (k : App lo h 1 v (l.map fun n => [iv n]) F) (hne : l ≠ []) : ∃ b, v = .slice (some ⟨b, 0, none⟩) l.length l.length ∧ OwnF lo h b F l := by
  rcases k with ⟨k, _⟩ | ⟨b, fl, _, k2, k3, k4, k5, _, k7, k8, k9, k10, _⟩
  · exact absurd (List.map_eq_nil_iff.1 k) hne
  · rw [List.length_map] at k2
    rw [flatI] at k5
    exact ⟨b, k2, k3, k4, k5, k7, k8, fl, k9, fun x hx => (k10 x hx).1⟩
theorem OwnF.at {lo b F : Nat} {h : AHeap} {l : List Int} (k : OwnF lo h b F l) : IAt h (.slice (some ⟨b, 0, none⟩) l.length l.length) l := .inr ⟨b, _, _, _, rfl, k.2.1, k.2.2.1⟩
theorem OwnF.store {lo b F : Nat} {h : AHeap} {l : List Int} (k : OwnF lo h b F l) {i : Nat} (hi : i < l.length) (z : Int) : ∃ h', (∀ K : AHeap → Bool, storeC h b i [iv z] K = K h') ∧ OwnF lo h' b F (l.set i z) ∧ Sm lo h h' := by
  obtain ⟨k1, k2, k3, k4, k5, fl, k6, k7⟩ := k
  have h1 : Nat.ble (Nat.add i ([iv z] : List Value).length) (l.map iv).length = true := Nat.ble_eq_true_of_le (by rw [List.length_map]; exact hi)
  have hs : (l.map iv).set i (iv z) = (l.set i z).map iv := List.map_set.symm
  have one : ∀ K : AHeap → Bool, storeC h b i [iv z] K = storeC1 h b i [iv z] (l.map iv) F K := fun K => by simp only [storeC, k3]
  have two : (∃ x, fl = [x]) ∨ ∀ K : AHeap → Bool, storeC1 h b i [iv z] (l.map iv) F K = K ⟨T.set (b + 1) (kill fl b h.bl) b (.cells ((l.set i z).map iv) F false), h.nx, T.set (F + 1) h.fams F [b]⟩ := by
    match fl, k6 with
    | [], k6 => exact .inr fun K => by simp only [storeC1, h1, cond_true, fSpine_eq, spliceL_one, hs, k6, killK_eq, T.setK_eq]
    | [x], _ => exact .inl ⟨x, rfl⟩
    | x :: y :: r, k6 => exact .inr fun K => by simp only [storeC1, h1, cond_true, fSpine_eq, spliceL_one, hs, k6, killK_eq, T.setK_eq]
  rcases two with ⟨x, rfl⟩ | two
  · refine ⟨h.upd b ((l.set i z).map iv) F, fun K => ?_, ⟨k1, k2, upd_eq _ _ _, k4, k5, [x], by rw [upd_fams]; exact k6, k7⟩, Nat.le_refl _, fun j hj => ⟨upd_ne _ _ _ (by omega), by rw [upd_fams]⟩⟩
    rw [one]
    simp only [storeC1, h1, cond_true, fSpine_eq, spliceL_one, hs, k6, T.setK_eq]
    rfl
  · refine ⟨⟨T.set (b + 1) (kill fl b h.bl) b (.cells ((l.set i z).map iv) F false), h.nx, T.set (F + 1) h.fams F [b]⟩, fun K => by rw [one, two], ⟨k1, k2, get_eq (Nat.lt_succ_self _), k4, k5, [b], get_eq (Nat.lt_succ_self _), fun x hx => by simp at hx; omega⟩, Nat.le_refl _, fun j hj => ⟨?_, get_ne (Nat.lt_succ_self _) (by omega)⟩⟩
    show (T.set (b + 1) (kill fl b h.bl) b (.cells ((l.set i z).map iv) F false)).get j = _
    rw [get_ne (Nat.lt_succ_self _) (by omega), kill_get, if_neg (fun q => by have := k7 j q.1; omega)]
theorem aw_storeF {P : Program} {call : CallT} {t : T Value} {h h' : AHeap} {ty a : TypeId} {ps : String} {af : Array Edge} {g : Option (Nat × Bool)} {x y : Operand} {b i : Nat} {z : Int} (hx : ev P t x = .pointer (some ⟨b, i, none⟩)) (hy : ev P t y = iv z) (hs : sizeB P a = some 1) (hst : ∀ K : AHeap → Bool, storeC h b i [iv z] K = K h') (K : KV) :
    awrite P call t h ⟨none, .store a x y, ty, ps, af, g⟩ K = K undef h' := by
  have h2 : (okV (iv z) && Nat.beq (Value.cells (iv z)).size 1) = true := rfl
  have hc : (Value.cells (iv z)).toList = [iv z] := rfl
  simp only [awrite, wStore, hx, hy, hs, h2, cond_true, hc, hst]
theorem aw_makeInts {P : Program} {call : CallT} {t : T Value} {h : AHeap} {a e : TypeId} {dst : Option Tmp} {ty : TypeId} {ps : String} {af : Array Edge} {g : Option (Nat × Bool)} {x y : Operand} {k : Nat} {ei : TypeInfo} (h1 : slOf P a = some e) (h2 : P.info? e = some ei) (h3 : zeroOf P e = some (.int .i64 0)) (h4 : Nat.blt ei.bytes bigNat = true) (h5 : ei.size = 1)
    (hx : ev P t x = .int .i64 (k : Int)) (hy : ev P t y = .int .i64 (k : Int)) (hk : k < 1000000) (K : KV) :
    awrite P call t h ⟨dst, .makeSlice a x y, ty, ps, af, g⟩ K = K (.slice (some ⟨h.nx, 0, none⟩) k k) (h.add ((List.replicate k 0).map iv)) := by
  have hb : Nat.blt k bigNat = true := by rw [Nat.blt_eq]; exact hk
  have he : repl (Value.cells (.int .i64 0)).toList k [] = (List.replicate k (0 : Int)).map iv := by
    rw [repl_eq, List.append_nil]
    show (List.replicate k [Value.int .i64 0]).flatten = _
    clear hx hy hk hb
    induction k with
    | zero => rfl
    | succ k ih => simp only [List.replicate_succ, List.flatten_cons, List.map_cons, List.singleton_append, ih]
  have h6 : Nat.beq (Value.cells (.int .i64 0)).size ei.size = true := by rw [h5]; rfl
  have hx' : ev P t x = .int .i64 (.ofNat k) := hx
  have hy' : ev P t y = .int .i64 (.ofNat k) := hy
  simp only [awrite, wMakeSlice, h1, hx', hy', wMakeSlice1, h2, h3, Nat.ble_eq_true_of_le (Nat.le_refl k), hb, h4, h6, Bool.and_self, cond_true, newC_add, he]
theorem own_new (h : AHeap) (l : List Int) : Own (h.add (l.map iv)) h.nx l := ⟨Nat.lt_succ_self _, ag_eq rfl, af_eq rfl⟩
end Go.Ev
namespace Go.Ev
open Go.RowKit
section
variable {P : Program} {call : CallT} {ops : Array Oper} {n : Nat} {rest : List Oper} {t : T Value} {h h' : AHeap} {KR : T Value → AHeap → Bool}
theorem wr_storeF {a : TypeId} {x y : Operand} {b i : Nat} {z : Int} (hx : ev P t x = .pointer (some ⟨b, i, none⟩)) (hy : ev P t y = iv z) (hs : sizeB P a = some 1) (hst : ∀ K : AHeap → Bool, storeC h b i [iv z] K = K h') (k : runOps P call ops n rest t h' KR = true) :
    wrR P call ops n rest (.store a x y) none t h KR = true := by
  unfold wrR
  rw [aw_storeF hx hy hs hst]
  exact k
theorem drR_of' {w : Option Bool} {o : Option Value} {v : Value} {f : Nat} {l : List Info} {done i : Nat} {q : Oper} {hist : List Seen} (hr : o = some v) (k : drR w (some v) P call ops n f l done i q hist t h KR = true) : drR w o P call ops n f l done i q hist t h KR = true := by rw [hr]; exact k
end
end Go.Ev
