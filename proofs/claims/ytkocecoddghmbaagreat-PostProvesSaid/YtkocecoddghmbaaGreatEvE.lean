import Derived.Test.YtkocecoddghmbaaGreatEvD
/- Copies of slices, frames around one block, and writes in drawn regions. -/
namespace Go.Ev
open Go.RowKit

/-- All that was there is as it was, but for the cells of block B. -/
structure Fr (H : AHeap) (B : Nat) (h : AHeap) : Prop where
  le : H.nx ≤ h.nx
  bl : ∀ k, k < H.nx → k ≠ B → h.bl.get k = H.bl.get k
  fam : ∀ k, k < H.nx → h.fams.get k = H.fams.get k
theorem Fr.refl {H : AHeap} {B : Nat} : Fr H B H := ⟨Nat.le_refl _, fun _ _ _ => rfl, fun _ _ => rfl⟩
theorem Fr.kp {H h h' : AHeap} {B : Nat} (a : Fr H B h) (k : Kp h h') : Fr H B h' :=
  ⟨Nat.le_trans a.le k.1, fun j hj hn => (k.get (Nat.lt_of_lt_of_le hj a.le)).trans (a.bl j hj hn), fun j hj => (k.fget (Nat.lt_of_lt_of_le hj a.le)).trans (a.fam j hj)⟩
theorem Fr.sm {H h h' : AHeap} {B lo : Nat} (a : Fr H B h) (k : Sm lo h h') (hl : H.nx ≤ lo) : Fr H B h' :=
  ⟨Nat.le_trans a.le k.1, fun j hj hn => ((k.2 j (Nat.lt_of_lt_of_le hj hl)).1).trans (a.bl j hj hn), fun j hj => ((k.2 j (Nat.lt_of_lt_of_le hj hl)).2).trans (a.fam j hj)⟩
theorem Fr.upd {H h : AHeap} {B f : Nat} {c : List Value} (a : Fr H B h) : Fr H B (h.upd B c f) :=
  ⟨a.le, fun j hj hn => by rw [upd_ne _ _ _ hn]; exact a.bl j hj hn, fun j hj => by rw [upd_fams]; exact a.fam j hj⟩
theorem Fr.toKp {H0 H h : AHeap} {B : Nat} (k : Kp H0 H) (a : Fr H B h) (hB : H0.nx ≤ B) : Kp H0 h :=
  ⟨Nat.le_trans k.1 a.le, fun j hj => ⟨(a.bl j (Nat.lt_of_lt_of_le hj k.1) (by omega)).trans (k.get hj), (a.fam j (Nat.lt_of_lt_of_le hj k.1)).trans (k.fget hj)⟩⟩
theorem App.fr {lo sz F B : Nat} {H h : AHeap} {v : Value} {cs : List (List Value)} (k : App lo H sz v cs F) (a : Fr H B h) (hB : B < lo) : App lo h sz v cs F := by
  have ha := a.le
  rcases k with k | ⟨b, l, k1, k2, k3, k4, k5, k6, k7, k8, k9, k10, k11, k12⟩
  · exact .inl k
  · refine .inr ⟨b, l, k1, k2, k3, by omega, (a.bl b k4 (by omega)).trans k5, k6, k7, by omega, (a.fam F k8).trans k9, fun x hx => ?_, (a.fam b k4).trans k11, k12⟩
    obtain ⟨q1, q2, c, q3⟩ := k10 x hx
    exact ⟨q1, by omega, c, (a.bl x q2 (by omega)).trans q3⟩

section
variable {P : Program} {n : Nat} {t : T Value} {h : AHeap} {ops : Array Oper} {call : CallT} {f : Nat} {l : List Info} {i m done : Nat} {hist : List Seen} {rest : List Oper} {KR : T Value → AHeap → Bool} {dst : Option Tmp} {op : Op} {ty : TypeId} {pos : String} {af : Array Edge} {g : Option (Nat × Bool)} {d : Tmp}
theorem drW_give {v : Value} {h' : AHeap} (hw : ∀ K : KV, awrite P call t h ⟨some d, op, ty, pos, af, g⟩ K = K v h') (hd : d < n) (ha : again P h' m hist = true)
    (k : drawGo P call ops n 0 [] f l (Nat.lor done (Nat.pow 2 i)) hist (T.set (d + 1) t d v) h' KR = true) : drW (some true) P call ops n f l done i m ⟨some d, op, ty, pos, af, g⟩ hist t h KR = true := by
  have : Nat.blt d n = true := by rw [Nat.blt_eq]; exact hd
  simp only [drW, hw, ha, cond_true, putK, this, fV1_eq, T.setK_eq]
  exact k
theorem drW_giveN {v : Value} {h' : AHeap} (hw : ∀ K : KV, awrite P call t h ⟨none, op, ty, pos, af, g⟩ K = K v h') (ha : again P h' m hist = true)
    (k : drawGo P call ops n 0 [] f l (Nat.lor done (Nat.pow 2 i)) hist t h' KR = true) : drW (some true) P call ops n f l done i m ⟨none, op, ty, pos, af, g⟩ hist t h KR = true := by
  simp only [drW, hw, ha, cond_true, putK]
  exact k
theorem drW_app {lo sz F : Nat} {v : Value} {cs : List (List Value)} {c : List Value} {e : TypeId} {st xt e' : TypeId} {s x : Operand} {bx cx fx : Nat} {rx : Bool} (hst : slOf P st = some e) (hxt : P.underlying xt = some (.slice e')) (hs : ev P t s = v) (hx : ev P t x = .slice (some ⟨bx, 0, none⟩) 1 cx)
    (k : App lo h sz v cs F) (hHh : lo ≤ h.nx) (hsz : sizeB P e = some sz) (hc : c.length = sz) (hpos : 0 < sz) (hbx : h.bl.get bx = some (.cells c fx rx)) (hnum : numOk P e 1 = true) (hn : cs.length + 1 < bigNat) (hd : d < n)
    (kk : ∀ v' h' F', Grown lo h h' sz v' cs c F F' → again P h' m hist = true ∧ drawGo P call ops n 0 [] f l (Nat.lor done (Nat.pow 2 i)) hist (T.set (d + 1) t d v') h' KR = true) :
    drW (some true) P call ops n f l done i m ⟨some d, .call ⟨.builtin .append, #[s, x], #[st, xt]⟩, ty, pos, af, g⟩ hist t h KR = true := by
  obtain ⟨v', h', F', hw, hg⟩ := aw_append (call := call) (dst := some d) (ty := ty) (pos := pos) (af := af) (g := g) hst hxt hs hx k hHh hsz hc hpos hbx hnum hn
  obtain ⟨k1, k2⟩ := kk v' h' F' hg
  exact drW_give hw hd k1 k2

end
end Go.Ev

/- An append onto a copy. -/
namespace Go.Ev
open Go.RowKit
section
variable {P : Program} {n : Nat} {t : T Value} {h : AHeap} {ops : Array Oper} {call : CallT} {dst : Option Tmp} {ty : TypeId} {pos : String} {af : Array Edge} {g : Option (Nat × Bool)}
variable {f : Nat} {l : List Info} {i m done : Nat} {hist : List Seen} {KR : T Value → AHeap → Bool} {d fl : Nat} {ids : List (Nat × Nat)}
end
end Go.Ev

/- Quotients. -/
namespace Go.Ev
open Go.RowKit
section
variable {P : Program} {t : T Value} {dst : Option Tmp} {ty a b : TypeId} {pos : String} {af : Array Edge} {g : Option (Nat × Bool)} {x y : Operand} {i j : Int}
end
end Go.Ev

/- Calls that change what was there. -/
namespace Go.Ev
open Go.RowKit
/-- What a call returns, and all that it leaves. -/
def BringsX (P : Program) (R : ExT) (g : FuncId) (args : List Value) (h : AHeap) (Post : Value → AHeap → Prop) : Prop :=
  ∀ K : KV, (∀ v h', Post v h' → K v h' = true) → callFunc1 P R g args h K = true
section
variable {P : Program} {pr : Prim} {R : ExT}
theorem bringsX_of {g : FuncId} {args : List Value} {h : AHeap} {Post : Value → AHeap → Prop} {fn : Func} {c : Code} (hf : P.funcs[g]? = some fn) (hb : fn.body = some c) (hname : (fn.name == "runtime.NumGoroutine") = false) (hlen : Nat.ble args.length fn.ntmps = true)
    (run : ∀ K : KV, (∀ v h', Post v h' → K v h' = true) → R fn.ntmps none c (argsT args) h [] (finish P fn K) = true) : BringsX P R g args h Post := by
  intro K hK
  unfold callFunc1
  simp only [hf, hb]
  unfold callBody
  rw [hname, cond_false, hlen, cond_true, setArgs_id]
  exact run K hK
variable {ops : Array Oper} {n : Nat} {rest : List Oper} {t : T Value} {h : AHeap} {KR : T Value → AHeap → Bool} {dst : Option Tmp}
theorem wr_bringsX {f : Operand} {as : Array Operand} {ts : Array TypeId} {fid : FuncId} {first captured : Array Value} {Post : Value → AHeap → Prop} (hf : ev P t f = .func (.func fid) first captured)
    (hp : pr fid (first.toList ++ evL P t as.toList ++ captured.toList) h = none) (hy : BringsX P R fid (first.toList ++ evL P t as.toList ++ captured.toList) h Post)
    (k : ∀ v h', Post v h' → putR P (withPrim pr (callVal P R)) ops n rest dst t v h' KR = true) :
    wrR P (withPrim pr (callVal P R)) ops n rest (.call ⟨.value f, as, ts⟩) dst t h KR = true := by
  simp only [wrR, awrite, wCall, hf, withPrim, hp, callVal]
  exact hy _ k
variable {f : Nat} {l : List Info} {i m done : Nat} {hist : List Seen} {ty : TypeId} {ps : String} {af : Array Edge} {g : Option (Nat × Bool)} {d : Tmp}
end
theorem Fr.trans {H h h' : AHeap} {B : Nat} (a : Fr H B h) (b : Fr h B h') : Fr H B h' :=
  ⟨Nat.le_trans a.le b.le, fun k hk hn => (b.bl k (Nat.lt_of_lt_of_le hk a.le) hn).trans (a.bl k hk hn), fun k hk => (b.fam k (Nat.lt_of_lt_of_le hk a.le)).trans (a.fam k hk)⟩
theorem Kp.fr {h h' : AHeap} {B : Nat} (a : Kp h h') : Fr h B h' := Fr.refl.kp a
section
variable {H h : AHeap} {B : Nat}
end
end Go.Ev

/- Maps whose keys and values are pairs of integers. -/
namespace Go.Ev
open Go.RowKit
def AHeap.setm (h : AHeap) (r : Nat) (o : AObj) : AHeap := ⟨T.set (r + 1) h.bl r o, h.nx, h.fams⟩
theorem setm_eq {h : AHeap} {r : Nat} {o : AObj} : (AHeap.setm h r o).bl.get r = some o := get_eq (Nat.lt_succ_self _)
theorem setm_ne {h : AHeap} {r : Nat} {o : AObj} {B : Nat} (e : B ≠ r) : (AHeap.setm h r o).bl.get B = h.bl.get B := get_ne (Nat.lt_succ_self _) e
theorem setMap_eq (h : AHeap) (r clock : Nat) (es : List MapEntry) (K : AHeap → Bool) : setMap h r clock es K = K (AHeap.setm h r (.map es clock)) := by
  simp only [setMap, fSpine_eq, setO, T.setK_eq, AHeap.setm]

abbrev II := Int × Int
def pv (p : II) : List Value := [iv p.1, iv p.2]
section
variable {P : Program} {mt kt vt : TypeId}
end
theorem rd_lookup {P : Program} {t : T Value} {h : AHeap} {dst : Option Tmp} {ty a : TypeId} {pos : String} {af : Array Edge} {g : Option (Nat × Bool)} {x y : Operand} {ok : Bool} : aread P t h ⟨dst, .lookup a x y ok, ty, pos, af, g⟩ = rLookup P t h ⟨dst, .lookup a x y ok, ty, pos, af, g⟩ a (ev P t y) ok (ev P t x) := (rfl)
theorem w_lookup {P : Program} {a : TypeId} {x y : Operand} {ok : Bool} : isW P (.lookup a x y ok) = false := (rfl)
theorem wr_mkmap {P : Program} {call : CallT} {ops : Array Oper} {n : Nat} {rest : List Oper} {t : T Value} {h : AHeap} {KR : T Value → AHeap → Bool} {dst : Option Tmp} {a : TypeId} :
    wrR P call ops n rest (.makeMap a none) dst t h KR = putR P call ops n rest dst t (.map (some h.nx)) ⟨T.set (h.nx + 1) h.bl h.nx (.map [] 0), h.nx + 1, h.fams⟩ KR := by
  simp only [wrR, awrite, wMakeMap, newO, fNat_eq, T.setK_eq]
section
variable {h h' : AHeap} {r : Nat} {v : Value} {es : List MapEntry} {n : Nat}
end
end Go.Ev

/- Two rows of booleans, compared by the model's own text. -/
namespace Go.Ev
open Go.RowKit

section
variable {P : Program}

theorem pureOf_bd {α β : Type} : ∀ (s : Sem α) (f : α → Sem β) (a : α), pureOf P s = some a → pureOf P (s >>= f) = pureOf P (f a)
  | .pure b, f, a, h => by
    have : b = a := by simpa [pureOf] using h
    subst this; rfl
  | .program k, f, a, h => by
    show pureOf P ((k P).bind f) = _
    exact pureOf_bd (k P) f a h
  | .mark m k, f, a, h => by
    show pureOf P (k.bind f) = _
    exact pureOf_bd k f a h
  | .load _ _ _, _, _, h => by cases h
  | .store _ _ _ _, _, _, h => by cases h
  | .new _ _, _, _, h => by cases h
  | .shape _ _, _, _, h => by cases h
  | .freeze _ _ _, _, _, h => by cases h
  | .frozen _ _, _, _, h => by cases h
  | .getObj _ _, _, _, h => by cases h
  | .setObj _ _ _, _, _, h => by cases h
  | .choose _ _, _, _, h => by cases h
  | .sys _ _, _, _, h => by cases h
  | .halt _, _, _, h => by cases h

theorem pureOf_und {t : TypeId} {d : TypeDesc} (h : P.underlying t = some d) : pureOf P (underlying t) = some d := by
  simp [underlying, pureOf, program, bind, Sem.bind, h, pure]

end
end Go.Ev

/- Two rows of integers, compared by the model's own text. -/
namespace Go.Ev
open Go.RowKit
section
variable {P : Program}
theorem all_rangeI : ∀ (xs ys : List Int), xs.length = ys.length → ((List.range xs.length).all fun i => xs.getD i 0 == ys.getD i 0) = (xs == ys)
  | [], [], _ => rfl
  | x :: xs, y :: ys, h => by
    have ih := all_rangeI xs ys (by simpa using h)
    rw [List.length_cons, List.range_succ_eq_map, List.all_cons, List.all_map]
    simp only [List.getD_cons_zero, Function.comp_def, List.getD_cons_succ, ih]
    simp [List.cons_beq_cons]
  | [], _ :: _, h => by simp at h
  | _ :: _, [], h => by simp at h
theorem pureOf_partZ {e : TypeId} (hag : pureOf P (isAgg e) = some false) (xs : List Int) (i : Nat) (hi : i < xs.length) : pureOf P (part e ⟨xs.map iv⟩ i) = some (iv (xs.getD i 0)) := by
  unfold part
  rw [pureOf_bd _ _ _ hag]
  have hx : (⟨xs.map iv⟩ : Array Value)[i]? = some (iv (xs.getD i 0)) := by
    show (List.toArray (xs.map iv))[i]? = _
    rw [List.getElem?_toArray, List.getElem?_map, List.getElem?_eq_getElem hi]
    simp [List.getD, List.getElem?_eq_getElem hi]
  simp only [Bool.false_eq_true, if_false]
  rw [hx]
  rfl
theorem pureOf_equal_ints (d : Nat) {t e : TypeId} {n : Nat} (ht : P.underlying t = some (.array n e)) (he : P.underlying e = some (.int .i64)) (hag : pureOf P (isAgg e) = some false) (hsz : pureOf P (sizeOf e) = some 1)
    (xs ys : List Int) (hx : xs.length = n) (hy : ys.length = n) :
    pureOf P (Op.equalIn (d + 2) t (.agg ⟨xs.map iv⟩) (.agg ⟨ys.map iv⟩)) = some (xs == ys) := by
  rw [← all_rangeI xs ys (hx.trans hy.symm), hx, List.range_eq_range', Op.equalIn]
  rw [pureOf_bd _ _ _ (pureOf_und ht)]
  simp only
  rw [pureOf_bd _ _ _ hsz]
  simp only [Std.Legacy.Range.forIn_eq_forIn_range', Std.Legacy.Range.size, Nat.sub_zero, Nat.add_sub_cancel, Nat.div_one]
  have hl : ∀ i ∈ List.range' 0 n 1, i < n := fun i hi => by simpa using (List.mem_range'_1.1 hi).2
  generalize List.range' 0 n 1 = l at hl ⊢
  induction l with
  | nil => rfl
  | cons i l ih =>
    have hi : i < n := hl i (by simp)
    have px : pureOf P (part e ⟨xs.map iv⟩ (i * 1)) = some (iv (xs.getD i 0)) := by rw [Nat.mul_one]; exact pureOf_partZ hag xs i (by omega)
    have py : pureOf P (part e ⟨ys.map iv⟩ (i * 1)) = some (iv (ys.getD i 0)) := by rw [Nat.mul_one]; exact pureOf_partZ hag ys i (by omega)
    have pe : pureOf P (Op.equalIn (d + 1) e (iv (xs.getD i 0)) (iv (ys.getD i 0))) = some (xs.getD i 0 == ys.getD i 0) := by
      rw [Op.equalIn, pureOf_bd _ _ _ (pureOf_und he)]
      rfl
    rw [List.all_cons]
    simp only [List.forIn_cons, bind_assoc]
    rw [pureOf_bd _ _ _ px, pureOf_bd _ _ _ py, pureOf_bd _ _ _ pe]
    cases hb : (xs.getD i 0 == ys.getD i 0)
    · rfl
    · exact ih fun j hj => hl j (by simp [hj])
end
end Go.Ev

/- Rows that are made at once, and stored one by one. -/
namespace Go.Ev
open Go.RowKit
section
variable {P : Program} {t : T Value} {h : AHeap} {call : CallT} {ops : Array Oper} {n : Nat} {rest : List Oper} {KR : T Value → AHeap → Bool} {dst : Option Tmp} {ty a e : TypeId} {pos : String} {af : Array Edge} {g : Option (Nat × Bool)}
/-- A new slice of rows. -/
theorem wr_makeRows {x y : Operand} {k sz : Nat} {ei : TypeInfo} {z : Value} (h1 : slOf P a = some e) (h2 : P.info? e = some ei) (h3 : zeroOf P e = some z) (h4 : Nat.blt ei.bytes bigNat = true) (h5 : ei.size = sz) (h6 : z.cells.size = sz)
    (hx : ev P t x = .int .i64 (k : Int)) (hy : ev P t y = .int .i64 (k : Int)) (hk : k < 1000000) (kk : putR P call ops n rest dst t (.slice (some ⟨h.nx, 0, none⟩) k k) (h.add ((List.replicate k z.cells.toList).flatten)) KR = true) :
    wrR P call ops n rest (.makeSlice a x y) dst t h KR = true := by
  have hb : Nat.blt k bigNat = true := by rw [Nat.blt_eq]; exact hk
  have he : repl z.cells.toList k [] = (List.replicate k z.cells.toList).flatten := by rw [repl_eq, List.append_nil]
  have h6' : Nat.beq z.cells.size ei.size = true := by rw [h5, h6]; exact Nat.beq_refl _
  have hx' : ev P t x = .int .i64 (.ofNat k) := hx
  have hy' : ev P t y = .int .i64 (.ofNat k) := hy
  simp only [wrR, awrite, wMakeSlice, h1, hx', hy', wMakeSlice1, h2, h3, Nat.ble_eq_true_of_le (Nat.le_refl k), hb, h4, h6', Bool.and_self, cond_true, newC_add, he]
  exact kk
/-- A store of a row into the middle of a block. -/
theorem aw_storeR {x y : Operand} {k0 B off s : Nat} {c : List Value} {fam : Nat} {ls : List Value} (hx : ev P t x = .pointer (some ⟨B, off, none⟩)) (hy : ev P t y = .agg ⟨ls⟩) (hs : sizeB P a = some s) (hne : 0 < s) (hls : ls.length = s)
    (hg : h.bl.get B = some (.cells c fam false)) (hf : h.fams.get fam = some [k0]) (hl : off + s ≤ c.length) (K : KV) : awrite P call t h ⟨dst, .store a x y, ty, pos, af, g⟩ K = K undef (h.upd B (c.take off ++ ls ++ c.drop (off + s)) fam) := by
  have h2 : (okV (.agg ⟨ls⟩) && Nat.beq (Value.cells (.agg ⟨ls⟩)).size s) = true := by
    rw [show (Value.cells (.agg ⟨ls⟩)).size = ls.length from rfl, hls, Nat.beq_refl]; rfl
  have h1 : Nat.ble (Nat.add off ls.length) c.length = true := Nat.ble_eq_true_of_le (by rw [hls]; exact hl)
  cases ls with
  | nil => simp at hls; omega
  | cons v0 l0 =>
    have hc : (Value.cells (.agg ⟨v0 :: l0⟩)).toList = v0 :: l0 := (rfl)
    have he : spliceL c off (v0 :: l0) = c.take off ++ (v0 :: l0) ++ c.drop (off + s) := by
      rw [spliceL_eq c off (v0 :: l0) (by rw [hls]; exact hl), hls]
    simp only [awrite, wStore, hx, hy, hs, h2, cond_true, hc, storeC, hg, storeC1, h1, fSpine_eq, hf, T.setK_eq, he]
    rfl
end
theorem flat_set2 {α : Type} {cv : α → List Value} {n : Nat} (hn : ∀ x, (cv x).length = n) : ∀ (l : List α) (i : Nat) (x : α), i < l.length → ((l.map cv).flatten.take (i * n) ++ cv x ++ (l.map cv).flatten.drop (i * n + n)) = ((l.set i x).map cv).flatten
  | [], _, _, h => by simp at h
  | y :: l, 0, x, _ => by
    simp only [List.map_cons, List.flatten_cons, Nat.zero_mul, List.take_zero, List.nil_append, Nat.zero_add, List.set_cons_zero]
    rw [List.drop_append_of_le_length (by rw [hn]; exact Nat.le_refl _), List.drop_of_length_le (by rw [hn]; exact Nat.le_refl _), List.nil_append]
  | y :: l, i + 1, x, h => by
    simp only [List.map_cons, List.flatten_cons, List.set_cons_succ]
    have ih := flat_set2 hn l i x (by simpa using h)
    rw [← ih]
    have e1 : (i + 1) * n = (cv y).length + i * n := by rw [hn, Nat.succ_mul]; omega
    rw [e1, List.take_length_add_append, show (cv y).length + i * n + n = (cv y).length + (i * n + n) from by omega, List.drop_length_add_append]
    simp only [List.append_assoc]
end Go.Ev

/- Bodies with labels. -/
namespace Go.Ev
open Go.RowKit
section
variable {P : Program} {pr : Prim} {R : ExT} {n : Nat} {rd : Option Nat} {t : T Value} {h : AHeap} {ds : List Nat} {K : KT}
end
end Go.Ev

/- Slices of integers that grew, stored into in place; new slices of integers, as an operation that hands on. -/
namespace Go.Ev
open Go.RowKit
end Go.Ev
namespace Go.Ev
open Go.RowKit
section
variable {P : Program} {call : CallT} {ops : Array Oper} {n : Nat} {rest : List Oper} {t : T Value} {h h' : AHeap} {KR : T Value → AHeap → Bool}
theorem drR_of' {w : Option Bool} {o : Option Value} {v : Value} {f : Nat} {l : List Info} {done i : Nat} {q : Oper} {hist : List Seen} (hr : o = some v) (k : drR w (some v) P call ops n f l done i q hist t h KR = true) : drR w o P call ops n f l done i q hist t h KR = true := by rw [hr]; exact k
end
end Go.Ev

/- Slices that grow beside each other. -/
namespace Go.Ev
open Go.RowKit
section
variable {P : Program} {n : Nat} {t : T Value} {h : AHeap} {ops : Array Oper} {call : CallT} {dst : Option Tmp} {rest : List Oper} {KR : T Value → AHeap → Bool}
theorem wr_grown {lo sz F : Nat} {v : Value} {cs : List (List Value)} {c : List Value} {e : TypeId} {st xt e' : TypeId} {s x : Operand} {bx cx fx : Nat} {rx : Bool} (hst : slOf P st = some e) (hxt : P.underlying xt = some (.slice e')) (hs : ev P t s = v) (hx : ev P t x = .slice (some ⟨bx, 0, none⟩) 1 cx)
    (k : App lo h sz v cs F) (hHh : lo ≤ h.nx) (hsz : sizeB P e = some sz) (hc : c.length = sz) (hpos : 0 < sz) (hbx : h.bl.get bx = some (.cells c fx rx)) (hnum : numOk P e 1 = true) (hn : cs.length + 1 < bigNat)
    (kk : ∀ v' h' F', Grown lo h h' sz v' cs c F F' → putR P call ops n rest dst t v' h' KR = true) :
    wrR P call ops n rest (.call ⟨.builtin .append, #[s, x], #[st, xt]⟩) dst t h KR = true := by
  obtain ⟨v', h', F', hw, hg⟩ := aw_append (call := call) (dst := dst) (ty := 0) (pos := "") (af := #[]) (g := none) hst hxt hs hx k hHh hsz hc hpos hbx hnum hn
  unfold wrR
  rw [hw]
  exact kk v' h' F' hg
end
theorem App.blk_lt1 {lo : Nat} {h : AHeap} {sz F b : Nat} {v : Value} {cs : List (List Value)} (k : App lo h sz v cs F) (hb : blk v = some b) : b < h.nx := by
  rcases k with ⟨_, rfl⟩ | ⟨b', l, _, rfl, _, k3, _⟩
  · cases hb
  · cases hb; exact k3
section
variable {lo : Nat} {h h' : AHeap} {xs ys : List (List Value)} {xv yv xv' : Value} {F1 F2 F1' : Nat} {c : List Value}
end
section
variable {lo : Nat} {h h' : AHeap} {xs ys zs : List (List Value)} {xv yv zv xv' : Value} {F1 F2 F3 F1' : Nat} {c : List Value}
end
end Go.Ev

/- Copies of integers onto a block; maps whose keys are pairs of integers and whose values are structs of integers. -/
namespace Go.Ev
open Go.RowKit
section
variable {P : Program} {call : CallT} {t : T Value} {h : AHeap} {dst : Option Tmp} {ty : TypeId} {ps : String} {af : Array Edge} {g : Option (Nat × Bool)}
end
/-! ## Maps of pairs to structs -/
section
variable {β : Type}
variable {P : Program} {mt kt vt : TypeId} {cv : β → List Value}
end
end Go.Ev
