import Derived.Test.YtkocecoddghmbaaGreatPoH
import Derived.Test.YtkocecoddghmbaaGreatPp7
import Derived.Test.YtkocecoddghmbaaGreatPoM
import Derived.Test.YtkocecoddghmbaaGreatPoO
import Derived.Test.YtkocecoddghmbaaGreatPoU
import Derived.Test.YtkocecoddghmbaaGreatPp5
import Derived.Test.YtkocecoddghmbaaGreatPoT
/- A slice of rows that nobody else has, changed in place. -/
namespace Go.Proofs.Po
open Go Go.Ev Go.RowKit
set_option linter.unusedSimpArgs false
/-- A block of cells that nobody else has, with the family in which it grew, in a window of blocks. -/
def OwnC (lo hi : Nat) (h : AHeap) (b F : Nat) (c : List Value) : Prop :=
  lo ≤ b ∧ b < hi ∧ hi ≤ h.nx ∧ h.bl.get b = some (.cells c F false) ∧ lo ≤ F ∧ F < hi ∧ ∃ fl, h.fams.get F = some fl ∧ ∀ x, x ∈ fl → lo ≤ x ∧ x < hi
/-- Only blocks in a window have changed. -/
def Win (lo hi : Nat) (h h' : AHeap) : Prop := h'.nx = h.nx ∧ ∀ j, (j < lo ∨ hi ≤ j) → h'.bl.get j = h.bl.get j ∧ h'.fams.get j = h.fams.get j
section
variable {lo hi b F off : Nat} {h h' : AHeap} {c ls : List Value}
theorem OwnC.mono (k : OwnC lo hi h b F c) (a : Kp h h') : OwnC lo hi h' b F c := by
  obtain ⟨k1, k2, k3, k4, k5, k6, fl, k7, k8⟩ := k
  exact ⟨k1, k2, Nat.le_trans k3 a.1, (a.get (by omega)).trans k4, k5, k6, fl, (a.fget (by omega)).trans k7, k8⟩
theorem OwnC.sm {lo2 : Nat} (k : OwnC lo hi h b F c) (a : Sm lo2 h h') (hl : hi ≤ lo2) : OwnC lo hi h' b F c := by
  obtain ⟨k1, k2, k3, k4, k5, k6, fl, k7, k8⟩ := k
  exact ⟨k1, k2, Nat.le_trans k3 a.1, (a.2 b (by omega)).1.trans k4, k5, k6, fl, (a.2 F (by omega)).2.trans k7, k8⟩
theorem OwnC.store (k : OwnC lo hi h b F c) (hne : ls ≠ []) (hl : off + ls.length ≤ c.length) :
    ∃ h', (∀ K : AHeap → Bool, storeC h b off ls K = K h') ∧ Win lo hi h h' ∧ OwnC lo hi h' b F (c.take off ++ ls ++ c.drop (off + ls.length)) := by
  obtain ⟨k1, k2, k3, k4, k5, k6, fl, k7, k8⟩ := k
  have h1 : Nat.ble (Nat.add off ls.length) c.length = true := Nat.ble_eq_true_of_le hl
  have hs := spliceL_eq c off ls hl
  obtain ⟨v0, l0, rfl⟩ : ∃ v0 l0, ls = v0 :: l0 := by
    cases ls with
    | nil => exact absurd rfl hne
    | cons v0 l0 => exact ⟨v0, l0, rfl⟩
  have one : ∀ K : AHeap → Bool, storeC h b off (v0 :: l0) K = storeC1 h b off (v0 :: l0) c F K := fun K => by simp only [storeC, k4]
  generalize hc : c.take off ++ (v0 :: l0) ++ c.drop (off + (v0 :: l0).length) = c' at hs ⊢
  have two : (∃ x, fl = [x]) ∨ ∀ K : AHeap → Bool, storeC1 h b off (v0 :: l0) c F K = K ⟨T.set (b + 1) (kill fl b h.bl) b (.cells c' F false), h.nx, T.set (F + 1) h.fams F [b]⟩ := by
    match fl, k7 with
    | [], k7 => exact .inr fun K => by simp only [storeC1, h1, cond_true, fSpine_eq, hs, k7, killK_eq, T.setK_eq]
    | [x], _ => exact .inl ⟨x, rfl⟩
    | x :: y :: r, k7 => exact .inr fun K => by simp only [storeC1, h1, cond_true, fSpine_eq, hs, k7, killK_eq, T.setK_eq]
  rcases two with ⟨x, rfl⟩ | two
  · refine ⟨h.upd b c' F, fun K => ?_, ⟨rfl, fun j hj => ⟨upd_ne _ _ _ (by omega), by rw [upd_fams]⟩⟩, k1, k2, k3, upd_eq _ _ _, k5, k6, [x], by rw [upd_fams]; exact k7, k8⟩
    rw [one]
    simp only [storeC1, h1, cond_true, fSpine_eq, hs, k7, T.setK_eq]
    rfl
  · refine ⟨⟨T.set (b + 1) (kill fl b h.bl) b (.cells c' F false), h.nx, T.set (F + 1) h.fams F [b]⟩, fun K => by rw [one, two], ⟨rfl, fun j hj => ⟨?_, get_ne (Nat.lt_succ_self _) (by omega)⟩⟩, k1, k2, k3, get_eq (Nat.lt_succ_self _), k5, k6, [b], get_eq (Nat.lt_succ_self _), fun x hx => by simp at hx; omega⟩
    show (T.set (b + 1) (kill fl b h.bl) b (.cells c' F false)).get j = _
    rw [get_ne (Nat.lt_succ_self _) (by omega), kill_get, if_neg (fun q => by have := k8 j q.1; omega)]
theorem Win.kp {h0 : AHeap} (k : Win lo hi h h') (hl : h0.nx ≤ lo) (a : Kp h0 h) : Kp h0 h' :=
  ⟨by rw [k.1]; exact a.1, fun j hj => ⟨(k.2 j (.inl (by omega))).1.trans (a.2 j hj).1, (k.2 j (.inl (by omega))).2.trans (a.2 j hj).2⟩⟩
theorem app_win {lo2 sz F2 : Nat} {v : Value} {cs : List (List Value)} (k : App lo2 h sz v cs F2) (a : Win lo hi h h') (hl : hi ≤ lo2) : App lo2 h' sz v cs F2 := by
  rcases k with k | ⟨b, l, k1, k2, k3, k4, k5, k6, k7, k8, k9, k10, k11, k12⟩
  · exact .inl k
  · refine .inr ⟨b, l, k1, k2, k3, by rw [a.1]; exact k4, (a.2 b (.inr (by omega))).1.trans k5, k6, k7, by rw [a.1]; exact k8, (a.2 F2 (.inr (by omega))).2.trans k9, fun x hx => ?_, (a.2 b (.inr (by omega))).2.trans k11, k12⟩
    obtain ⟨q1, q2, d, q3⟩ := k10 x hx
    exact ⟨q1, by rw [a.1]; exact q2, d, (a.2 x (.inr (by omega))).1.trans q3⟩
theorem copied_own {sz : Nat} {v' : Value} {cs : List (List Value)} (k : Copied h h' b sz v' cs) (hl : lo ≤ b) (hb : b < h.nx) : ∃ B, v' = .slice (some ⟨B, 0, none⟩) cs.length cs.length ∧ OwnC lo h'.nx h' B b cs.flatten := by
  have hle := k.le
  obtain ⟨B, l, q1, q2, q3, q4, q5, q6, _⟩ := k.at_
  refine ⟨B, q1, by omega, q3, Nat.le_refl _, q4, hl, by omega, l, q5, fun x hx => ?_⟩
  have := q6 x hx
  omega
end
section
variable {P : Program} {call : CallT} {ops : Array Oper} {n : Nat} {rest : List Oper} {t : T Value} {h h' : AHeap} {KR : T Value → AHeap → Bool} {x y : Operand} {a : TypeId} {dst : Option Tmp}
/-- A store of some cells of such a block. -/
theorem wr_storeC {B s off : Nat} {l : List Value} (hx : ev P t x = .pointer (some ⟨B, off, none⟩)) (hy : ev P t y = .agg ⟨l⟩) (hs : sizeB P a = some s) (hls : l.length = s)
    (hst : ∀ K : AHeap → Bool, storeC h B off l K = K h') (kk : putR P call ops n rest dst t undef h' KR = true) :
    wrR P call ops n rest (.store a x y) dst t h KR = true := by
  have h2 : (okV (.agg ⟨l⟩) && Nat.beq (Value.cells (.agg ⟨l⟩)).size s) = true := by
    rw [show (Value.cells (.agg ⟨l⟩)).size = l.length from rfl, hls, Nat.beq_refl]; rfl
  have hc : (Value.cells (.agg ⟨l⟩)).toList = l := (rfl)
  simp only [wrR, awrite, wStore, hx, hy, hs, h2, cond_true, hc, hst]
  exact kk
end
/-! ## Orders whose minutes are replaced -/
def setT (x : Od) (n : Int) : Od := ⟨x.b, x.l, x.n, n, n⟩
def upO : List Od → List Int → List Od
  | x :: O, n :: ns => setT x n :: upO O ns
  | [], _ => []
  | x :: O, [] => x :: O
theorem upO_nil : ∀ O : List Od, upO O [] = O
  | [] => rfl
  | _ :: _ => rfl
theorem upO_len : ∀ (O : List Od) (ns : List Int), (upO O ns).length = O.length
  | x :: O, n :: ns => by unfold upO; rw [List.length_cons, List.length_cons, upO_len O ns]
  | [], _ => by unfold upO; rfl
  | x :: O, [] => rfl
theorem upO_get : ∀ {O : List Od} {ns : List Int} {i : Nat} {x : Od}, O[i]? = some x → (upO O ns)[i]? = some (match ns[i]? with | some n => setT x n | none => x)
  | y :: O, n :: ns, 0, x, h => by
    obtain rfl : y = x := by simpa using h
    rfl
  | y :: O, n :: ns, i + 1, x, h => by
    have h' : O[i]? = some x := by simpa using h
    have := upO_get (ns := ns) h'
    unfold upO
    rw [List.getElem?_cons_succ, this, List.getElem?_cons_succ]
  | [], _, _, _, h => by simp at h
  | y :: O, [], i, x, h => by rw [upO_nil, h]; rfl
theorem upO_snoc : ∀ {O : List Od} {ns : List Int} {n : Int} {x : Od}, O[ns.length]? = some x → upO O (ns ++ [n]) = (upO O ns).set ns.length (setT x n)
  | y :: O, [], n, x, h => by
    obtain rfl : y = x := by simpa using h
    show setT y n :: upO O [] = _
    rw [upO_nil]; rfl
  | y :: O, m :: ns, n, x, h => by
    have h' : O[ns.length]? = some x := by simpa using h
    show setT y m :: upO O (ns ++ [n]) = (setT y m :: upO O ns).set (ns.length + 1) (setT x n)
    rw [upO_snoc h', List.set_cons_succ]
  | [], _, _, _, h => by simp at h
theorem rows_set {l : List Od} {i : Nat} {x : Od} {n : Int} (hi : l[i]? = some x) : ((l.map cOd).flatten.take (i * 5 + 3) ++ c2 (n, n) ++ (l.map cOd).flatten.drop (i * 5 + 3 + (c2 (n, n)).length)) = ((l.set i (setT x n)).map cOd).flatten := by
  obtain ⟨hlt, he⟩ := List.getElem?_eq_some_iff.1 hi
  rw [← flat_set2 (cv := cOd) (n := 5) cOd_len l i (setT x n) hlt]
  have hm : (l.map cOd)[i]? = some (cOd x) := by rw [List.getElem?_map, hi]; rfl
  have hsz : ∀ c, c ∈ l.map cOd → c.length = 5 := fun c hc => by obtain ⟨z, _, rfl⟩ := List.mem_map.1 hc; rfl
  obtain ⟨q1, _⟩ := flat_part hsz hm
  have e3 : ((l.map cOd).flatten.drop (i * 5)).take 3 = [.bool x.b, iv x.l, iv x.n] := by
    have : ((l.map cOd).flatten.drop (i * 5)).take 3 = (((l.map cOd).flatten.drop (i * 5)).take 5).take 3 := by rw [List.take_take]; rfl
    rw [this, q1]; rfl
  rw [List.take_add, e3]
  show (l.map cOd).flatten.take (i * 5) ++ [.bool x.b, iv x.l, iv x.n] ++ [iv n, iv n] ++ (l.map cOd).flatten.drop (i * 5 + 3 + 2) = (l.map cOd).flatten.take (i * 5) ++ [.bool x.b, iv x.l, iv x.n, iv n, iv n] ++ (l.map cOd).flatten.drop (i * 5 + 5)
  rw [Nat.add_assoc, List.append_assoc ((l.map cOd).flatten.take (i * 5))]
  rfl
theorem own_at {lo hi b F : Nat} {h : AHeap} {l : List Od} (k : OwnC lo hi h b F (l.map cOd).flatten) (hne : l ≠ []) : SlAt h 5 (.slice (some ⟨b, 0, none⟩) l.length l.length) (l.map cOd) := by
  obtain ⟨k1, k2, k3, k4, _⟩ := k
  refine .inr ⟨b, l.length, F, false, fun e => hne (List.map_eq_nil_iff.1 e), by rw [List.length_map], by omega, k4, fun c hc => ?_⟩
  obtain ⟨z, _, rfl⟩ := List.mem_map.1 hc; rfl
/-- What is picked for each order: of the side before 10, else behind 10. -/
def PickOk (S : Bool) (O : List Od) (ns : List Int) : Prop := ∀ (i : Nat) (x : Od) (n : Int), O[i]? = some x → ns[i]? = some n → 0 ≤ n ∧ n ≤ 20 ∧ ((x.b = S ∧ n < 10) ∨ (x.b = !S ∧ 10 < n))
theorem pick_snoc {S : Bool} {O : List Od} {ns : List Int} {x : Od} {n : Int} (h : PickOk S O ns) (hx : O[ns.length]? = some x) (hn : 0 ≤ n ∧ n ≤ 20 ∧ ((x.b = S ∧ n < 10) ∨ (x.b = !S ∧ 10 < n))) : PickOk S O (ns ++ [n]) := by
  intro i y m hy hm
  by_cases e : i < ns.length
  · rw [List.getElem?_append_left e] at hm
    exact h i y m hy hm
  · have hi : i = ns.length := by
      have := (List.getElem?_eq_some_iff.1 hm).1
      rw [List.length_append] at this
      have : i < ns.length + 1 := this
      omega
    subst hi
    rw [hx] at hy; cases hy
    rw [List.getElem?_append_right (Nat.le_refl _), Nat.sub_self] at hm
    cases hm
    exact hn
theorem upO_val {S : Bool} {O : List Od} {ns : List Int} (hv : Val O) (hl : ns.length = O.length) (h : PickOk S O ns) : Val (upO O ns) ∧ truthB (upO O ns) ns = true ∧ ∀ i x, ns[i]? = some x → ((od (upO O ns) i).b = S ∧ x < 10) ∨ ((od (upO O ns) i).b = !S ∧ 10 < x) := by
  have get : ∀ i (hi : i < O.length), ∃ n, ns[i]? = some n ∧ (upO O ns)[i]? = some (setT O[i] n) ∧ 0 ≤ n ∧ n ≤ 20 ∧ ((O[i].b = S ∧ n < 10) ∨ (O[i].b = !S ∧ 10 < n)) := fun i hi => by
    have hn : ns[i]? = some ns[i] := List.getElem?_eq_getElem (by omega)
    have hx : O[i]? = some O[i] := List.getElem?_eq_getElem hi
    refine ⟨ns[i], hn, ?_, h i _ _ hx hn⟩
    rw [upO_get hx, hn]
  have hul := upO_len O ns
  refine ⟨⟨by rw [hul]; exact hv.l1, by rw [hul]; exact hv.l6, fun x hx => ?_⟩, ?_, fun i x hx => ?_⟩
  · obtain ⟨i, hi⟩ := List.mem_iff_getElem?.1 hx
    have hlt := (List.getElem?_eq_some_iff.1 hi).1
    obtain ⟨n, _, g2, g3, g4, _⟩ := get i (by omega)
    rw [hi] at g2; cases g2
    have ok := hv.ok O[i] (List.getElem_mem _)
    exact ⟨ok.l1, ok.l2, ok.n1, ok.n2, g3, Int.le_refl _, by show n ≤ 30; omega⟩
  · unfold truthB
    rw [Bool.and_eq_true, decide_eq_true_eq]
    refine ⟨by rw [hul, hl], List.all_eq_true.2 fun z hz => ?_⟩
    obtain ⟨i, hi, rfl⟩ := List.mem_iff_getElem.1 hz
    rw [List.length_zip, hul] at hi
    obtain ⟨n, g1, g2, _⟩ := get i (by omega)
    rw [List.getElem_zip]
    have e1 := (List.getElem?_eq_some_iff.1 g2).2
    have e2 := (List.getElem?_eq_some_iff.1 g1).2
    rw [e1, e2]
    exact inB_iff.2 ⟨Int.le_refl _, Int.le_refl _⟩
  · have hlt := (List.getElem?_eq_some_iff.1 hx).1
    obtain ⟨n, g1, g2, _, _, g5⟩ := get i (by omega)
    rw [hx] at g1; cases g1
    have : od (upO O ns) i = setT O[i] x := by
      unfold od; rw [List.getD_eq_getElem?_getD, g2]; rfl
    rw [this]; exact g5
end Go.Proofs.Po

/- PostFirst. -/
namespace Go.Proofs.Po
open Go Go.Ev Go.RowKit
set_option linter.unusedSimpArgs false
variable {pr : Prim} {R : ExT}
theorem bA1 (p : Option Addr) (n c : Nat) : rBuild Tryz.prog 24 [(0, .slice p n c)] = some (.agg ⟨poV (.slice p n c)⟩) := by kernel_rfl
theorem brR (a b : Int) : rBuild Tryz.prog 68 [(0, iv a), (1, iv b)] = some (.agg ⟨c2 (a, b)⟩) := by kernel_rfl
theorem eqBf {i j : Nat} (hij : i ≠ j) {t : T Value} {ty : TypeId} {pos : String} {af : Array Edge} {g : Option (Nat × Bool)} {dst : Option Tmp} {p q : Bool} (h1 : tget t i = .bool p) (h2 : tget t j = .bool q)
    (hr : ground Tryz.prog (T.set (j + 1) (T.set (i + 1) .leaf i (.bool p)) j (.bool q)) ⟨dst, .binOp .eql 4 (.tmp i) (.tmp j) 4, ty, pos, af, g⟩ = some (.bool (p == q))) :
    rBin Tryz.prog t ⟨dst, .binOp .eql 4 (.tmp i) (.tmp j) 4, ty, pos, af, g⟩ .eql 4 (.bool q) (.bool p) = some (.bool (p == q)) := by
  rw [rBin_bool, nilB]
  exact bin_congr (t' := T.set (j + 1) (T.set (i + 1) .leaf i (.bool p)) j (.bool q)) h1 h2 (by rw [tget_ne (Nat.lt_succ_self _) hij, tget_eq (Nat.lt_succ_self _)]) (tget_eq (Nat.lt_succ_self _)) hr
section
variable {t : T Value} {ty : TypeId} {pos : String} {af : Array Edge} {g : Option (Nat × Bool)} {dst : Option Tmp} {p q : Bool}
theorem ne50 (h1 : tget t 50 = .bool p) (h2 : tget t 51 = .bool q) : rBin Tryz.prog t ⟨dst, .binOp .neq 4 (.tmp 50) (.tmp 51) 4, ty, pos, af, g⟩ .neq 4 (.bool q) (.bool p) = some (.bool (p != q)) := neqB (by decide) h1 h2 (by cases p <;> cases q <;> kernel_rfl)
theorem eq116 (h1 : tget t 116 = .bool p) (h2 : tget t 117 = .bool q) : rBin Tryz.prog t ⟨dst, .binOp .eql 4 (.tmp 116) (.tmp 117) 4, ty, pos, af, g⟩ .eql 4 (.bool q) (.bool p) = some (.bool (p == q)) := eqBf (by decide) h1 h2 (by cases p <;> cases q <;> kernel_rfl)
theorem eq165 (h1 : tget t 165 = .bool p) (h2 : tget t 166 = .bool q) : rBin Tryz.prog t ⟨dst, .binOp .eql 4 (.tmp 165) (.tmp 166) 4, ty, pos, af, g⟩ .eql 4 (.bool q) (.bool p) = some (.bool (p == q)) := eqBf (by decide) h1 h2 (by cases p <;> cases q <;> kernel_rfl)
end
structure IFw (Sd : Bool) (O : List Od) (wv : Value) (h0 : AHeap) (lo hi lo2 b F B7 : Nat) (k : Nat) (t : T Value) (h : AHeap) : Prop where
  kp : Kp h0 h
  ex : ∃ (ns : List Int) (vp : Value) (F2 : Nat), ns.length = k ∧ PickOk Sd O ns ∧ OwnC lo hi h b F ((upO O ns).map cOd).flatten ∧ App lo2 h 1 vp (ns.map fun n => [iv n]) F2 ∧ tget t 8 = vp
  b7 : h.bl.get B7 = some (.cells (poV (.slice (some ⟨b, 0, none⟩) O.length O.length)) B7 false)
  l2 : lo2 ≤ h.nx
  t1 : tget t 1 = wv
  t2 : tget t 2 = .bool Sd
  t7 : tget t 7 = ptr0 B7
  t9 : tget t 9 = iv (k : Int)
  hk : k ≤ O.length
structure IFx (n : Nat) (G : AHeap) (B7 : Nat) (w cv : Value) (Sd : Bool) (a : Nat) (t : T Value) (h : AHeap) : Prop where
  kp : Kp G h
  t2 : tget t 2 = .bool Sd
  t7 : tget t 7 = ptr0 B7
  t11 : tget t 11 = w
  t13 : tget t 13 = cv
  t14 : tget t 14 = iv (a : Int)
  ha : a ≤ n
structure IFy (n : Nat) (G : AHeap) (B7 : Nat) (w cv : Value) (Sd : Bool) (a i : Nat) (fi : Int) (q : Nat) (t : T Value) (h : AHeap) : Prop where
  kp : Kp G h
  t2 : tget t 2 = .bool Sd
  t7 : tget t 7 = ptr0 B7
  t11 : tget t 11 = w
  t13 : tget t 13 = cv
  t14 : tget t 14 = iv (a : Int)
  t15 : tget t 15 = iv (i : Int)
  t16 : tget t 16 = iv fi
  t18 : tget t 18 = iv (q : Int)
  hq : q ≤ n
def betT (p o : Od) : Bool := bif p.b then decide (o.l < p.l) else decide (p.l < o.l)
theorem betT_vl {p o : Od} {Sd : Bool} (h : p.b = Sd) : betT p o = decide (vl Sd o < vl Sd p) := by
  unfold betT vl
  rw [h]
  cases Sd with
  | true => rfl
  | false =>
    simp only [cond_false]
    by_cases q : p.l < o.l
    · rw [decide_eq_true q, decide_eq_true (by omega)]
    · rw [decide_eq_false q, decide_eq_false (by omega)]
theorem vl_eq {p o : Od} {Sd : Bool} (h : p.l = o.l) : vl Sd p = vl Sd o := by unfold vl; rw [h]
set_option maxRecDepth 100000 in
set_option maxHeartbeats 64000000 in
theorem first_law (S : Ev.Steps Tryz.prog pr R) (hT : Tab pr) (h0 : AHeap) (v : Value) (O : List Od) (hb : PoAt h0 v O) (wv : Value) (ws : List Int) (hw : WdAt h0 wv ws) (hwl : (ws.length : Int) < 9223372036854775808) (Sd : Bool) :
    Brings Tryz.prog R 8 [.agg ⟨poV v⟩, wv, .bool Sd] h0 fun u _ => u = .bool true := by
  have hoff := hT.off
  refine brings_of (fn := Tryz.f8) (c := (Tryz.f8.body).getD .skip) (by kernel_rfl) rfl (by kernel_rfl) rfl (fun K hK => ?_)
  generalize hF : finish Tryz.prog Tryz.f8 K = KF
  simp only [Tryz.f8, Option.getD_some, argsT, setArgs, fV1_eq, T.setK_eq, id]
  have hKr : ∀ g, Kp h0 g → K (.bool true) g = true := fun g hk => hK _ _ hk rfl
  clear hK
  have awake : ∀ {ops : Array Oper} {n : Nat} {rest : List Oper} {t : T Value} {h : AHeap} {KR : T Value → AHeap → Bool} {dst : Option Tmp}, putR Tryz.prog (withPrim pr (callVal Tryz.prog R)) ops n rest dst t (.bool true) h KR = true →
      wrR Tryz.prog (withPrim pr (callVal Tryz.prog R)) ops n rest (.call ⟨.value (.func 11), #[], #[]⟩) dst t h KR = true := fun k => wr_prim (fid := 11) (first := #[]) (captured := #[]) (v := .bool true) rfl (hT.awake _) k
  have tq0 : ∀ a b : Value, (⟨[a, b]⟩ : Array Value)[0]? = some a := fun _ _ => rfl
  have tq1 : ∀ a b : Value, (⟨[a, b]⟩ : Array Value)[1]? = some b := fun _ _ => rfl
  have hdd : ∀ z : Int, decide (z = z) = true := fun z => decide_eq_true rfl
  repeat refine S.seq ?_
  refine S.region ?_
  simp (disch := first | omega | (simp only [add_nx, upd_nx] <;> omega) | decide) only [rUz, ↓reduceIte, Nat.reduceEqDiff, Nat.reduceAdd]
  have hb1 : (h0.add (poV v)).bl.get h0.nx = some (.cells (poV v) h0.nx false) := ag_eq rfl
  have hn1 : h0.nx < (h0.add (poV v)).nx := Nat.lt_succ_self _
  have hk1 : Kp h0 (h0.add (poV v)) := Kp.refl.add
  generalize h0.add (poV v) = H at hb1 hn1 hk1 ⊢
  generalize h0.nx = B1 at hb1 hn1 ⊢
  repeat refine S.seq ?_
  refine S.region ?_
  simp (disch := first | omega | (simp only [add_nx, upd_nx] <;> omega) | decide) only [rUz, ↓reduceIte, Nat.reduceEqDiff, Nat.reduceAdd, hb1, part_0 pA (poV_len v)]
  refine wr_brings (fid := 34) (first := #[]) (captured := #[]) (Post := fun u _ => u = .bool (readyB O)) rfl (hoff _ _ _ rfl) (by simp (disch := first | omega | (simp only [add_nx, upd_nx] <;> omega) | decide) only [rUz, ↓reduceIte, Nat.reduceEqDiff, Nat.reduceAdd]; exact ready_y S hoff H v O (hb.mono hk1)) ?_
  rintro u g hkg rfl
  replace hb1 := (hkg.get hn1).trans hb1
  replace hn1 := Nat.lt_of_lt_of_le hn1 hkg.1
  replace hk1 := hk1.trans hkg
  clear hkg
  clear H
  cases hre : readyB O with
  | false =>
    simp (disch := first | omega | (simp only [add_nx, upd_nx] <;> omega) | decide) only [rUz, ↓reduceIte, Nat.reduceEqDiff, Nat.reduceAdd, un_not, hre, Bool.not_false]
    repeat refine S.seq ?_
    refine S.cond (v := true) (by first | rfl | (simp (disch := first | omega | (simp only [add_nx, upd_nx] <;> omega) | decide) only [rUz, ↓reduceIte, Nat.reduceEqDiff, Nat.reduceAdd] <;> rfl)) (fun _ => ?_) (fun e => by cases e)
    repeat refine S.seq ?_
    refine S.region ?_
    simp (disch := first | omega | (simp only [add_nx, upd_nx] <;> omega) | decide) only [rUz, ↓reduceIte, Nat.reduceEqDiff, Nat.reduceAdd]
    refine awake ?_
    simp (disch := first | omega | (simp only [add_nx, upd_nx] <;> omega) | decide) only [rUz, ↓reduceIte, Nat.reduceEqDiff, Nat.reduceAdd]
    refine S.ret ?_
    try simp only [seqK_ret, blockK_ret]
    subst hF
    simp only [finish, endMarks]
    rw [show Tryz.f8.results.toList = [.tmp 6] from rfl]
    simp (disch := first | omega | (simp only [add_nx, upd_nx] <;> omega) | decide) only [resA, ev_tmp, tget_ne, tget_eq, get_ne, get_eq, upd_eq, upd_ne, ag_eq, ag_ne, result1]
    exact hKr _ hk1
  | true =>
  have hv : Val O := by
    unfold readyB at hre
    rw [Bool.and_eq_true] at hre
    exact val_iff.1 (of_decide_eq_true hre.2)
  have h6 := hv.l6
  have h1O := hv.l1
  simp (disch := first | omega | (simp only [add_nx, upd_nx] <;> omega) | decide) only [rUz, ↓reduceIte, Nat.reduceEqDiff, Nat.reduceAdd, un_not, hre, Bool.not_true]
  repeat refine S.seq ?_
  refine S.cond (v := false) (by first | rfl | (simp (disch := first | omega | (simp only [add_nx, upd_nx] <;> omega) | decide) only [rUz, ↓reduceIte, Nat.reduceEqDiff, Nat.reduceAdd] <;> rfl)) (fun e => by cases e) (fun _ => ?_)
  repeat refine S.seq ?_
  refine S.skip ?_
  simp (disch := first | omega | (simp only [add_nx, upd_nx] <;> omega) | decide) only [rUz, ↓reduceIte, Nat.reduceEqDiff, Nat.reduceAdd]
  have hk0 : Kp g (g.add []) := Kp.refl.add
  have hb1a := (hk0.get hn1).trans hb1
  repeat refine S.seq ?_
  refine S.region ?_
  simp (disch := first | omega | (simp only [add_nx, upd_nx] <;> omega) | decide) only [rUz, ↓reduceIte, Nat.reduceEqDiff, Nat.reduceAdd, w_buildSlice]
  refine wr_lit0 slrO srO zrO rfl ?_
  simp (disch := first | omega | (simp only [add_nx, upd_nx] <;> omega) | decide) only [rUz, ↓reduceIte, Nat.reduceEqDiff, Nat.reduceAdd, hb1a, fieldAddr_ptr fA0 lrO, qrO, po0, w_append]
  refine wr_copyE (b := g.nx) (v := v) (cs := O.map cOd) slrO urO (by simp (disch := first | omega | (simp only [add_nx, upd_nx] <;> omega) | decide) only [rUz, ↓reduceIte, Nat.reduceEqDiff, Nat.reduceAdd]) (by simp (disch := first | omega | (simp only [add_nx, upd_nx] <;> omega) | decide) only [rUz, ↓reduceIte, Nat.reduceEqDiff, Nat.reduceAdd]) srO (ag_eq rfl) (af_eq rfl) (Nat.lt_succ_self _) (SlAt.mono hb (hk1.trans hk0)) nrO (by rw [List.length_map]; show _ < 1000000; omega) ?_
  intro v3 h3 hc3
  have hk3 : Kp g h3 := hc3.kp hk0 (Nat.le_refl _)
  obtain ⟨b, hv3, own⟩ := copied_own hc3 (lo := g.nx) (Nat.le_refl _) (Nat.lt_succ_self _)
  rw [List.length_map] at hv3
  subst hv3
  simp (disch := first | omega | (simp only [add_nx, upd_nx] <;> omega) | decide) only [rUz, ↓reduceIte, Nat.reduceEqDiff, Nat.reduceAdd, rd_build, List.map_cons, List.map_nil, bA1, wr_alloc zA]
  refine wr_storeN (B := h3.nx) (c := [nl]) (fam := h3.nx) (k := h3.nx) (l := poV (.slice (some ⟨b, 0, none⟩) O.length O.length)) (by simp (disch := first | omega | (simp only [add_nx, upd_nx] <;> omega) | decide) only [rUz, ↓reduceIte, Nat.reduceEqDiff, Nat.reduceAdd]) (by simp (disch := first | omega | (simp only [add_nx, upd_nx] <;> omega) | decide) only [rUz, ↓reduceIte, Nat.reduceEqDiff, Nat.reduceAdd]) sA (by omega) rfl (ag_eq rfl) (af_eq rfl) rfl ?_
  have hk4 : Kp h3 ((h3.add [nl]).upd h3.nx (poV (.slice (some ⟨b, 0, none⟩) O.length O.length)) h3.nx) := Kp.refl.add.upd (Nat.le_refl _)
  have hb7 : ((h3.add [nl]).upd h3.nx (poV (.slice (some ⟨b, 0, none⟩) O.length O.length)) h3.nx).bl.get h3.nx = some (.cells (poV (.slice (some ⟨b, 0, none⟩) O.length O.length)) h3.nx false) := upd_eq _ _ _
  have hn7 : ((h3.add [nl]).upd h3.nx (poV (.slice (some ⟨b, 0, none⟩) O.length O.length)) h3.nx).nx = h3.nx + 1 := rfl
  simp (disch := first | omega | (simp only [add_nx, upd_nx] <;> omega) | decide) only [rUz, ↓reduceIte, Nat.reduceEqDiff, Nat.reduceAdd]
  generalize (h3.add [nl]).upd h3.nx (poV (.slice (some ⟨b, 0, none⟩) O.length O.length)) h3.nx = h4 at hk4 hb7 hn7 ⊢
  replace own := own.mono hk4
  have kp4 := (hk1.trans hk3).trans hk4
  have hlo := hk1.1
  obtain ⟨lo, hlo'⟩ : ∃ z, z = g.nx := ⟨_, rfl⟩
  obtain ⟨B7, hB7⟩ : ∃ z, z = h3.nx := ⟨_, rfl⟩
  obtain ⟨lo2, hlo2⟩ : ∃ z, z = h4.nx := ⟨_, rfl⟩
  rw [← hlo', ← hB7] at own
  rw [← hB7] at hb7 hn7 ⊢
  rw [← hlo'] at hlo
  have hh7 : B7 < lo2 := by omega
  have hl24 : lo2 ≤ h4.nx := by omega
  clear hlo2 hB7 hlo' hc3 hk3 hk4 hb1a hk0 hb1 hn1 hk1 hn7 hre
  try clear h3
  obtain ⟨F, hF2⟩ : ∃ F, OwnC lo B7 h4 b F (O.map cOd).flatten := ⟨_, own⟩
  clear own
  try clear g
  repeat refine S.seq ?_
  refine S.region ?_
  simp (disch := first | omega | (simp only [add_nx, upd_nx] <;> omega) | decide) only [rUz, ↓reduceIte, Nat.reduceEqDiff, Nat.reduceAdd]
  repeat refine S.seq ?_
  refine S.region ?_
  simp (disch := first | omega | (simp only [add_nx, upd_nx] <;> omega) | decide) only [rUz, ↓reduceIte, Nat.reduceEqDiff, Nat.reduceAdd]
  repeat refine S.seq ?_
  refine S.block ?_
  refine S.loop (ι := Nat) (IFw Sd O wv h0 lo B7 lo2 b F B7) (fun k => O.length - k) ?_ 0 _ _ ?_
  rotate_left
  · refine ⟨kp4, ⟨[], nl, 0, rfl, (fun i x n _ h => by simp at h), by rw [upO_nil]; exact hF2, .inl ⟨rfl, rfl⟩, ?_⟩, hb7, hl24, ?_, ?_, ?_, ?_, Nat.zero_le _⟩
    all_goals (first | rfl | (simp (disch := first | omega | (simp only [add_nx, upd_nx] <;> omega) | decide) only [rUz, ↓reduceIte, Nat.reduceEqDiff, Nat.reduceAdd]; done) | (simp (disch := first | omega | (simp only [add_nx, upd_nx] <;> omega) | decide) only [rUz, ↓reduceIte, Nat.reduceEqDiff, Nat.reduceAdd]; rfl))
  clear kp4 hb7 hl24 hF2
  clear h4
  intro k t h ⟨kp, ⟨ns, vp, F2, hnl, hpk, own, app, t8⟩, b7h, l2, t1, t2, t7, t9, hk⟩ K' hn he
  have hrl := upO_len O ns
  have hne : upO O ns ≠ [] := fun e => by rw [e] at hrl; simp at hrl; omega
  have hsl := own_at own hne
  rw [hrl] at hsl
  have lX : ∀ (t : T Value) (h1 : AHeap) (o : Oper), rLen Tryz.prog t h1 o 22 (.slice (some ⟨b, 0, none⟩) O.length O.length) = some (iv (O.length : Int)) := fun t h1 o => by rw [row_len hsl isrO t h1 o, hrl]
  repeat refine S.seq ?_
  refine S.region ?_
  simp (disch := first | omega | (simp only [add_nx, upd_nx] <;> omega) | decide) only [rUz, ↓reduceIte, Nat.reduceEqDiff, Nat.reduceAdd, t7, t9, b7h, fieldAddr_ptr fA0 lrO, qrO, po0, lX]
  repeat refine S.seq ?_
  refine S.cond (v := decide ((k : Int) < (O.length : Int))) (by first | rfl | (simp (disch := first | omega | (simp only [add_nx, upd_nx] <;> omega) | decide) only [rUz, ↓reduceIte, Nat.reduceEqDiff, Nat.reduceAdd] <;> rfl)) (fun e => ?_) (fun e => ?_)
  · have hkn : k < O.length := by have := of_decide_eq_true e; omega
    clear e
    have hps : O[k]? = some O[k] := List.getElem?_eq_getElem hkn
    generalize O[k] = x at hps
    have hxu : (upO O ns)[k]? = some x := by rw [upO_get hps, List.getElem?_eq_none (by omega : ns.length ≤ k)]
    obtain ⟨rb, rf, ro, rc, r1, r2, r3, r4, r5, r6⟩ := row_idx hsl slrO srO hxu
    have y0 := r6 0 _ (cOd0 x)
    rw [Nat.add_zero] at y0
    repeat refine S.seq ?_
    refine S.skip ?_
    simp (disch := first | omega | (simp only [add_nx, upd_nx] <;> omega) | decide) only [rUz, ↓reduceIte, Nat.reduceEqDiff, Nat.reduceAdd]
    repeat refine S.seq ?_
    refine S.block ?_
    repeat refine S.seq ?_
    refine S.region ?_
    simp (disch := first | omega | (simp only [add_nx, upd_nx] <;> omega) | decide) only [rUz, ↓reduceIte, Nat.reduceEqDiff, Nat.reduceAdd, t1, t9]
    refine wr_brings (fid := 38) (first := #[]) (captured := #[]) (Post := fun u h' => (∃ n, u = iv n ∧ 0 ≤ n ∧ n ≤ 255) ∧ h = h') rfl (hoff _ _ _ rfl) (by simp (disch := first | omega | (simp only [add_nx, upd_nx] <;> omega) | decide) only [rUz, ↓reduceIte, Nat.reduceEqDiff, Nat.reduceAdd]; exact word_y S h wv ws (hw.mono kp) hwl (k : Int) (by omega)) ?_
    rintro u g' - ⟨⟨z, rfl, hz0, hz1⟩, rfl⟩
    simp (disch := first | omega | (simp only [add_nx, upd_nx] <;> omega) | decide) only [rUz, ↓reduceIte, Nat.reduceEqDiff, Nat.reduceAdd]
    refine optR_of' (bin_rem (i := z) (j := 10) (by simp (disch := first | omega | (simp only [add_nx, upd_nx] <;> omega) | decide) only [rUz, ↓reduceIte, Nat.reduceEqDiff, Nat.reduceAdd]) (by simp (disch := first | omega | (simp only [add_nx, upd_nx] <;> omega) | decide) only [rUz, ↓reduceIte, Nat.reduceEqDiff, Nat.reduceAdd]) (by omega)) ?_
    obtain ⟨m, hm⟩ : ∃ m, m = z.tmod 10 := ⟨_, rfl⟩
    have hm0 : 0 ≤ m ∧ m < 10 := by subst hm; exact ⟨Int.tmod_nonneg _ hz0, Int.tmod_lt_of_pos _ (by omega)⟩
    rw [← hm]
    clear hm hz0 hz1
    simp (disch := first | omega | (simp only [add_nx, upd_nx] <;> omega) | decide) only [rUz, ↓reduceIte, Nat.reduceEqDiff, Nat.reduceAdd]
    repeat refine S.seq ?_
    refine S.region ?_
    simp (disch := first | omega | (simp only [add_nx, upd_nx] <;> omega) | decide) only [rUz, ↓reduceIte, Nat.reduceEqDiff, Nat.reduceAdd, t2, t7, t9, b7h, fieldAddr_ptr fA0 lrO, qrO, po0, r1, r3, fieldAddr_ptr frO0 sb, pb, y0]
    refine optR_of' (ne50 (p := x.b) (q := Sd) (by simp (disch := first | omega | (simp only [add_nx, upd_nx] <;> omega) | decide) only [rUz, ↓reduceIte, Nat.reduceEqDiff, Nat.reduceAdd]) (by simp (disch := first | omega | (simp only [add_nx, upd_nx] <;> omega) | decide) only [rUz, ↓reduceIte, Nat.reduceEqDiff, Nat.reduceAdd])) ?_
    simp (disch := first | omega | (simp only [add_nx, upd_nx] <;> omega) | decide) only [rUz, ↓reduceIte, Nat.reduceEqDiff, Nat.reduceAdd]
    have hxT : (x.b != Sd) = true → x.b = !Sd := by cases x.b <;> cases Sd <;> simp
    have hxF : (x.b != Sd) = false → x.b = Sd := by cases x.b <;> cases Sd <;> simp
    repeat refine S.seq ?_
    generalize hJJ : seqK _ _ _ _ _ = KJ
    suffices hJ : ∀ t n, tget t 1 = wv → tget t 2 = .bool Sd → tget t 7 = ptr0 B7 → tget t 8 = vp → tget t 9 = iv (k : Int) → tget t 10 = iv n → (0 ≤ n ∧ n ≤ 20 ∧ ((x.b = Sd ∧ n < 10) ∨ (x.b = !Sd ∧ 10 < n))) → KJ .normal t h [] = true by
      clear hJJ hn he
      cases hxs : (x.b != Sd) with
      | true =>
        have hq := hxT hxs
        repeat refine S.seq ?_
        refine S.cond (v := true) (by first | rfl | (simp (disch := first | omega | (simp only [add_nx, upd_nx] <;> omega) | decide) only [rUz, ↓reduceIte, Nat.reduceEqDiff, Nat.reduceAdd, hxs] <;> rfl)) (fun _ => ?_) (fun e => by cases e)
        repeat refine S.seq ?_
        refine S.region ?_
        simp (disch := first | omega | (simp only [add_nx, upd_nx] <;> omega) | decide) only [rUz, ↓reduceIte, Nat.reduceEqDiff, Nat.reduceAdd]
        have hok : 0 ≤ m + 11 ∧ m + 11 ≤ 20 ∧ ((x.b = Sd ∧ m + 11 < 10) ∨ (x.b = !Sd ∧ 10 < m + 11)) := ⟨by omega, by omega, .inr ⟨hq, by omega⟩⟩
        refine hJ _ (m + 11) ?_ ?_ ?_ ?_ ?_ ?_ hok
        all_goals (first | rfl | (simp (disch := first | omega | (simp only [add_nx, upd_nx] <;> omega) | decide) only [rUz, ↓reduceIte, Nat.reduceEqDiff, Nat.reduceAdd, t1, t2, t7, t8, t9]; done) | (simp (disch := first | omega | (simp only [add_nx, upd_nx] <;> omega) | decide) only [rUz, ↓reduceIte, Nat.reduceEqDiff, Nat.reduceAdd, t1, t2, t7, t8, t9]; rfl))
      | false =>
        have hq := hxF hxs
        repeat refine S.seq ?_
        refine S.cond (v := false) (by first | rfl | (simp (disch := first | omega | (simp only [add_nx, upd_nx] <;> omega) | decide) only [rUz, ↓reduceIte, Nat.reduceEqDiff, Nat.reduceAdd, hxs] <;> rfl)) (fun e => by cases e) (fun _ => ?_)
        refine S.skip ?_
        have hok : 0 ≤ m ∧ m ≤ 20 ∧ ((x.b = Sd ∧ m < 10) ∨ (x.b = !Sd ∧ 10 < m)) := ⟨by omega, by omega, .inl ⟨hq, by omega⟩⟩
        refine hJ _ m ?_ ?_ ?_ ?_ ?_ ?_ hok
        all_goals (first | rfl | (simp (disch := first | omega | (simp only [add_nx, upd_nx] <;> omega) | decide) only [rUz, ↓reduceIte, Nat.reduceEqDiff, Nat.reduceAdd, t1, t2, t7, t8, t9]; done) | (simp (disch := first | omega | (simp only [add_nx, upd_nx] <;> omega) | decide) only [rUz, ↓reduceIte, Nat.reduceEqDiff, Nat.reduceAdd, t1, t2, t7, t8, t9]; rfl))
    clear t1 t2 t7 t8 t9 hxT hxF hm0 r1 r2 r3 r4 r5 r6 y0
    clear t
    intro t n t1 t2 t7 t8 t9 t10 hno
    subst hJJ
    simp only [seqK_normal]
    have ia : rIndexAddr Tryz.prog 22 (.slice (some ⟨b, 0, none⟩) O.length O.length) (iv (k : Int)) = some (.pointer (some ⟨b, k * 5, none⟩)) := by rw [indexAddr_sl slrO srO hkn, Nat.zero_add]
    have hsz5 : k * 5 + 3 + (c2 (n, n)).length ≤ ((upO O ns).map cOd).flatten.length := by
      have hfl : ∀ l : List Od, (l.map cOd).flatten.length = l.length * 5 := fun l => by
        induction l with
        | nil => rfl
        | cons a l ih => rw [List.map_cons, List.flatten_cons, List.length_append, ih, List.length_cons, cOd_len]; omega
      rw [hfl, hrl]
      show k * 5 + 3 + 2 ≤ O.length * 5
      omega
    obtain ⟨h5, hst, win, own5⟩ := own.store (off := k * 5 + 3) (ls := c2 (n, n)) (by simp [c2]) hsz5
    have hup : upO O (ns ++ [n]) = (upO O ns).set k (setT x n) := by rw [← hnl]; exact upO_snoc (by rw [hnl]; exact hps)
    rw [rows_set hxu, ← hup] at own5
    have kp5 := win.kp hlo kp
    have app5 := app_win app win (Nat.le_of_lt hh7)
    have b75 := (win.2 B7 (.inr (Nat.le_refl _))).1.trans b7h
    have l25 : lo2 ≤ h5.nx := by rw [win.1]; exact l2
    repeat refine S.seq ?_
    refine S.region ?_
    simp (disch := first | omega | (simp only [add_nx, upd_nx] <;> omega) | decide) only [rUz, ↓reduceIte, Nat.reduceEqDiff, Nat.reduceAdd, t7, t9, t10, b7h, fieldAddr_ptr fA0 lrO, qrO, po0, ia, fieldAddr_ptr frO3 SrR, rd_build, List.map_cons, List.map_nil, brR]
    refine wr_storeC (B := b) (off := k * 5 + 3) (l := c2 (n, n)) (by simp (disch := first | omega | (simp only [add_nx, upd_nx] <;> omega) | decide) only [rUz, ↓reduceIte, Nat.reduceEqDiff, Nat.reduceAdd]) (by simp (disch := first | omega | (simp only [add_nx, upd_nx] <;> omega) | decide) only [rUz, ↓reduceIte, Nat.reduceEqDiff, Nat.reduceAdd]) srR rfl hst ?_
    simp (disch := first | omega | (simp only [add_nx, upd_nx] <;> omega) | decide) only [rUz, ↓reduceIte, Nat.reduceEqDiff, Nat.reduceAdd]
    clear own app b7h l2 kp hsl lX ia hst win
    clear h
    repeat refine S.seq ?_
    refine S.region ?_
    simp (disch := first | omega | (simp only [add_nx, upd_nx] <;> omega) | decide) only [rUz, ↓reduceIte, Nat.reduceEqDiff, Nat.reduceAdd, t8, t10, w_buildSlice]
    refine wr_lit1 slI s3' z3 rfl (by omega) (u := iv n) (l := [iv n]) (by simp (disch := first | omega | (simp only [add_nx, upd_nx] <;> omega) | decide) only [rUz, ↓reduceIte, Nat.reduceEqDiff, Nat.reduceAdd, t10]) rfl rfl ?_
    simp (disch := first | omega | (simp only [add_nx, upd_nx] <;> omega) | decide) only [rUz, ↓reduceIte, Nat.reduceEqDiff, Nat.reduceAdd, w_append]
    refine wr_grown (bx := h5.nx) (cx := 1) (v := vp) slI uI (by simp (disch := first | omega | (simp only [add_nx, upd_nx] <;> omega) | decide) only [rUz, ↓reduceIte, Nat.reduceEqDiff, Nat.reduceAdd, t8]) (by simp (disch := first | omega | (simp only [add_nx, upd_nx] <;> omega) | decide) only [rUz, ↓reduceIte, Nat.reduceEqDiff, Nat.reduceAdd]) (app5.mono (Kp.refl.add (c := [iv n]))) (by show lo2 ≤ h5.nx + 1; omega) s3' rfl (by omega) (ag_eq rfl) nI (by rw [List.length_map]; show _ < 1000000; omega) ?_
    intro v6 h8 F6 gr
    have hkA : Kp h5 (h5.add [iv n]) := Kp.refl.add
    have b76 : h8.bl.get B7 = some (.cells (poV (.slice (some ⟨b, 0, none⟩) O.length O.length)) B7 false) := (gr.sm.2 B7 hh7).1.trans ((hkA.get (by omega)).trans b75)
    have own6 := (own5.mono hkA).sm gr.sm (Nat.le_of_lt hh7)
    have kp6 : Kp h0 h8 := gr.sm.kp (by have := own5.1; have := own5.2.1; omega) (kp5.trans hkA)
    have l26 : lo2 ≤ h8.nx := by have := gr.sm.1; have : (h5.add [iv n]).nx = h5.nx + 1 := rfl; omega
    have hap : (ns ++ [n]).map (fun n => [iv n]) = ns.map (fun n => [iv n]) ++ [[iv n]] := by rw [List.map_append]; rfl
    simp (disch := first | omega | (simp only [add_nx, upd_nx] <;> omega) | decide) only [rUz, ↓reduceIte, Nat.reduceEqDiff, Nat.reduceAdd]
    repeat refine S.seq ?_
    refine S.region ?_
    simp (disch := first | omega | (simp only [add_nx, upd_nx] <;> omega) | decide) only [rUz, ↓reduceIte, Nat.reduceEqDiff, Nat.reduceAdd, t9]
    refine hn (k + 1) _ _ (by omega) ⟨kp6, ⟨ns ++ [n], v6, F6, by rw [List.length_append, hnl]; rfl, pick_snoc hpk (by rw [hnl]; exact hps) hno, own6, by rw [hap]; exact gr.app, ?_⟩, b76, l26, ?_, ?_, ?_, ?_, by omega⟩
    all_goals (first | rfl | (simp (disch := first | omega | (simp only [add_nx, upd_nx] <;> omega) | decide) only [rUz, ↓reduceIte, Nat.reduceEqDiff, Nat.reduceAdd, t1, t2, t7]; done) | (simp (disch := first | omega | (simp only [add_nx, upd_nx] <;> omega) | decide) only [rUz, ↓reduceIte, Nat.reduceEqDiff, Nat.reduceAdd, t1, t2, t7]; rfl))
  have hkn : k = O.length := by have := of_decide_eq_false e; omega
  subst hkn
  obtain ⟨hvX, htX, hsd⟩ := upO_val hv hnl hpk
  have htru := tru_of hvX htX
  have hpoX : PoAt h (.slice (some ⟨b, 0, none⟩) O.length O.length) (upO O ns) := hsl
  have hns : IS h vp ns := app.at
  refine S.exit (he _ _ _ _ (fun e => by cases e) ?_)
  clear hn he K' e hpk own lX hne hsl t9 t1
  generalize upO O ns = X at hrl hvX htX hsd htru hpoX
  simp (disch := first | omega | (simp only [add_nx, upd_nx] <;> omega) | decide) only [rUz, ↓reduceIte, Nat.reduceEqDiff, Nat.reduceAdd]
  have hn7 : B7 < h.nx := by omega
  repeat refine S.seq ?_
  refine S.region ?_
  simp (disch := first | omega | (simp only [add_nx, upd_nx] <;> omega) | decide) only [rUz, ↓reduceIte, Nat.reduceEqDiff, Nat.reduceAdd, t7, t8, b7h, part_0 pA (poV_len _)]
  refine wr_brings (fid := 13) (first := #[]) (captured := #[]) (Post := fun u h => ∃ v', u = .agg ⟨poV v'⟩ ∧ PoAt h v' X) rfl (hoff _ _ _ rfl) (by simp (disch := first | omega | (simp only [add_nx, upd_nx] <;> omega) | decide) only [rUz, ↓reduceIte, Nat.reduceEqDiff, Nat.reduceAdd]; exact postC_y S hoff h _ X hpoX (by omega)) ?_
  rintro u g2 hkg2 ⟨v2, rfl, hb2⟩
  simp (disch := first | omega | (simp only [add_nx, upd_nx] <;> omega) | decide) only [rUz, ↓reduceIte, Nat.reduceEqDiff, Nat.reduceAdd, t8]
  refine wr_brings (fid := 14) (first := #[]) (captured := #[]) (Post := fun u h => IAt h u ns) rfl (hoff _ _ _ rfl) (by simp (disch := first | omega | (simp only [add_nx, upd_nx] <;> omega) | decide) only [rUz, ↓reduceIte, Nat.reduceEqDiff, Nat.reduceAdd]; exact list_y S g2 vp ns (hns.mono hkg2) (by omega)) ?_
  rintro tv2 g3 hkg3 ht2
  simp (disch := first | omega | (simp only [add_nx, upd_nx] <;> omega) | decide) only [rUz, ↓reduceIte, Nat.reduceEqDiff, Nat.reduceAdd]
  refine wr_brings (fid := 12) (first := #[]) (captured := #[]) (Post := fun u h => PlayAt X ns u h) rfl (hoff _ _ _ rfl) (by simp (disch := first | omega | (simp only [add_nx, upd_nx] <;> omega) | decide) only [rUz, ↓reduceIte, Nat.reduceEqDiff, Nat.reduceAdd]; exact play_y S hoff g3 v2 tv2 X ns (hb2.mono hkg3) ht2 (by omega)) ?_
  rintro u g4 hkg4 hpl
  have hkg24 := (hkg2.trans hkg3).trans hkg4
  have hfT : faultT X ns = 0 := by rw [faultT, decide_eq_true (val_iff.2 hvX), htX]; rfl
  obtain ⟨w, rfl, hs⟩ : ∃ w, u = .tuple ⟨[w, iv 0]⟩ ∧ SlAt g4 4 w ((playZ X ns).2.map cSa) := by
    rcases hpl with ⟨_, w, e, hs, _⟩ | ⟨hz, _⟩
    · exact ⟨w, e, hs⟩
    · exact absurd hfT hz
  clear hpl
  simp (disch := first | omega | (simp only [add_nx, upd_nx] <;> omega) | decide) only [rUz, ↓reduceIte, Nat.reduceEqDiff, Nat.reduceAdd, tq0, tq1]
  replace b7h := (hkg24.get hn7).trans b7h
  replace hn7 := Nat.lt_of_lt_of_le hn7 hkg24.1
  replace kp := kp.trans hkg24
  replace hpoX := hpoX.mono hkg24
  replace hns := hns.mono hkg24
  have h6s := sales_six hvX htru
  have hso := sales_saok hvX htru
  have hff := fun a b i k ha hb hi hk hf hr => first_fill hvX htru hsd (a := a) (b := b) (i := i) (k := k) ha hb hi hk hf hr
  have hol := ord_len htru.rng
  have hclt : ∀ j, j ∈ ordZ ns → j < O.length := fun j hj => by have := ord_lt hj; omega
  clear hkg2 hkg3 hkg4 hkg24 hb2 ht2 hfT app
  generalize (playZ X ns).2 = M at hs h6s hso hff
  have ls := fun t h1 o => row_len hs iscS t h1 o
  have h40 : decide (40 < (M.length : Int)) = false := decide_eq_false (by omega)
  repeat refine S.seq ?_
  refine S.region ?_
  simp (disch := first | omega | (simp only [add_nx, upd_nx] <;> omega) | decide) only [rUz, ↓reduceIte, Nat.reduceEqDiff, Nat.reduceAdd, hdd, decide_true, Bool.not_true, ls, h40]
  repeat refine S.seq ?_
  refine S.cond (v := false) (by first | rfl | (simp (disch := first | omega | (simp only [add_nx, upd_nx] <;> omega) | decide) only [rUz, ↓reduceIte, Nat.reduceEqDiff, Nat.reduceAdd] <;> rfl)) (fun e => by cases e) (fun _ => ?_)
  repeat refine S.seq ?_
  refine S.skip ?_
  simp (disch := first | omega | (simp only [add_nx, upd_nx] <;> omega) | decide) only [rUz, ↓reduceIte, Nat.reduceEqDiff, Nat.reduceAdd]
  repeat refine S.seq ?_
  refine S.region ?_
  simp (disch := first | omega | (simp only [add_nx, upd_nx] <;> omega) | decide) only [rUz, ↓reduceIte, Nat.reduceEqDiff, Nat.reduceAdd, t7, t8, b7h, part_0 pA (poV_len _)]
  refine wr_brings (fid := 39) (first := #[]) (captured := #[]) (Post := fun u h => SlAt h 1 u ((ordZ ns).map cn) ∧ ∀ b, blk u = some b → g4.nx ≤ b) rfl (hoff _ _ _ rfl) (by simp (disch := first | omega | (simp only [add_nx, upd_nx] <;> omega) | decide) only [rUz, ↓reduceIte, Nat.reduceEqDiff, Nat.reduceAdd]; exact comes_y S g4 _ vp ns hns.at (by omega)) ?_
  rintro cv g5 hkg5 ⟨hcm, hcx⟩
  clear hcx
  simp (disch := first | omega | (simp only [add_nx, upd_nx] <;> omega) | decide) only [rUz, ↓reduceIte, Nat.reduceEqDiff, Nat.reduceAdd]
  generalize ordZ ns = Cz at hff hol hclt hcm
  have hcI : IAt g5 cv (Cz.map fun a : Nat => (a : Int)) := by
    have e : Cz.map cn = (Cz.map fun a : Nat => (a : Int)).map fun n => [iv n] := by rw [List.map_map]; rfl
    rw [e] at hcm
    exact (show IS g5 cv _ from hcm).at
  have hcl : (Cz.map fun a : Nat => (a : Int)).length = O.length := by rw [List.length_map]; omega
  have hcz : Cz.length = O.length := by omega
  have hcg : ∀ (a i : Nat), Cz[a]? = some i → (Cz.map fun a : Nat => (a : Int))[a]? = some (i : Int) := fun a i e => by rw [List.getElem?_map, e]; rfl
  replace b7h := (hkg5.get hn7).trans b7h
  replace hn7 := Nat.lt_of_lt_of_le hn7 hkg5.1
  replace kp := kp.trans hkg5
  replace hpoX := hpoX.mono hkg5
  replace hs := SlAt.mono hs hkg5
  clear hcm hkg5 ls h40 hns htru htX hsd hvX hol
  clear g4
  generalize (Cz.map fun a : Nat => (a : Int)) = CI at hcI hcl hcg
  repeat refine S.seq ?_
  refine S.region ?_
  simp (disch := first | omega | (simp only [add_nx, upd_nx] <;> omega) | decide) only [rUz, ↓reduceIte, Nat.reduceEqDiff, Nat.reduceAdd]
  repeat refine S.seq ?_
  refine S.block ?_
  refine S.loop (ι := Nat) (IFx CI.length g5 B7 w cv Sd) (fun a => CI.length - a) ?_ 0 _ _ ?_
  rotate_left
  · refine ⟨Kp.refl, ?_, ?_, ?_, ?_, ?_, Nat.zero_le _⟩
    all_goals (first | rfl | (simp (disch := first | omega | (simp only [add_nx, upd_nx] <;> omega) | decide) only [rUz, ↓reduceIte, Nat.reduceEqDiff, Nat.reduceAdd, t2, t7]; done) | (simp (disch := first | omega | (simp only [add_nx, upd_nx] <;> omega) | decide) only [rUz, ↓reduceIte, Nat.reduceEqDiff, Nat.reduceAdd, t2, t7]; rfl))
  clear t2 t7 t8 l2
  clear t
  clear h
  intro a t h ⟨kpa, t2, t7, t11, t13, t14, ha⟩ K' hn he
  have lC := fun t h1 o => iv_len (hcI.mono kpa) t h1 o
  repeat refine S.seq ?_
  refine S.region ?_
  simp (disch := first | omega | (simp only [add_nx, upd_nx] <;> omega) | decide) only [rUz, ↓reduceIte, Nat.reduceEqDiff, Nat.reduceAdd, t13, t14, lC]
  repeat refine S.seq ?_
  refine S.cond (v := decide ((a : Int) < (CI.length : Int))) (by first | rfl | (simp (disch := first | omega | (simp only [add_nx, upd_nx] <;> omega) | decide) only [rUz, ↓reduceIte, Nat.reduceEqDiff, Nat.reduceAdd] <;> rfl)) (fun e => ?_) (fun e => ?_)
  · have han : a < CI.length := by have := of_decide_eq_true e; omega
    clear e
    have hia : Cz[a]? = some Cz[a] := List.getElem?_eq_getElem (by omega)
    generalize Cz[a] = i at hia
    have hiO := hclt i (List.mem_of_getElem? hia)
    obtain ⟨b1, f1, o1, r1, r2, r3, r4⟩ := (hcI.mono kpa).idx slI s3' han
    have hci : CI[a] = (i : Int) := by
      have := hcg a i hia
      rw [List.getElem?_eq_getElem han] at this
      exact Option.some.inj this
    rw [hci] at r4
    repeat refine S.seq ?_
    refine S.skip ?_
    simp (disch := first | omega | (simp only [add_nx, upd_nx] <;> omega) | decide) only [rUz, ↓reduceIte, Nat.reduceEqDiff, Nat.reduceAdd]
    repeat refine S.seq ?_
    refine S.block ?_
    repeat refine S.seq ?_
    refine S.region ?_
    simp (disch := first | omega | (simp only [add_nx, upd_nx] <;> omega) | decide) only [rUz, ↓reduceIte, Nat.reduceEqDiff, Nat.reduceAdd, t13, t14, r1, r3, p3, r4]
    repeat refine S.seq ?_
    refine S.region ?_
    simp (disch := first | omega | (simp only [add_nx, upd_nx] <;> omega) | decide) only [rUz, ↓reduceIte, Nat.reduceEqDiff, Nat.reduceAdd, t11]
    refine wr_brings (fid := 19) (first := #[]) (captured := #[]) (Post := fun u h => SlAt h 4 u (M.map cSa)) rfl (hoff _ _ _ rfl) (by simp (disch := first | omega | (simp only [add_nx, upd_nx] <;> omega) | decide) only [rUz, ↓reduceIte, Nat.reduceEqDiff, Nat.reduceAdd]; exact back_y S h w M (SlAt.mono hs kpa) (by omega)) ?_
    rintro u8 g8 hkg8 hs8
    simp (disch := first | omega | (simp only [add_nx, upd_nx] <;> omega) | decide) only [rUz, ↓reduceIte, Nat.reduceEqDiff, Nat.reduceAdd]
    refine wr_brings (fid := 37) (first := #[]) (captured := #[]) (Post := fun u h => u = .tuple ⟨[iv (fnZ (i : Int) M), iv (fmZ (i : Int) M)]⟩ ∧ g8 = h) rfl (hoff _ _ _ rfl) (by simp (disch := first | omega | (simp only [add_nx, upd_nx] <;> omega) | decide) only [rUz, ↓reduceIte, Nat.reduceEqDiff, Nat.reduceAdd]; exact filled_y S g8 u8 M (i : Int) hs8 hso (by omega)) ?_
    rintro u9 g9 - ⟨rfl, rfl⟩
    simp (disch := first | omega | (simp only [add_nx, upd_nx] <;> omega) | decide) only [rUz, ↓reduceIte, Nat.reduceEqDiff, Nat.reduceAdd, tq0, tq1]
    have kpg := kpa.trans hkg8
    clear r1 r2 r3 r4 hs8 lC
    repeat refine S.seq ?_
    refine S.region ?_
    simp (disch := first | omega | (simp only [add_nx, upd_nx] <;> omega) | decide) only [rUz, ↓reduceIte, Nat.reduceEqDiff, Nat.reduceAdd]
    repeat refine S.seq ?_
    refine S.block ?_
    refine S.loop (ι := Nat) (IFy CI.length g8 B7 w cv Sd a i (fnZ (i : Int) M)) (fun q => CI.length - q) ?_ 0 _ _ ?_
    rotate_left
    · refine ⟨Kp.refl, ?_, ?_, ?_, ?_, ?_, ?_, ?_, ?_, Nat.zero_le _⟩
      all_goals (first | rfl | (simp (disch := first | omega | (simp only [add_nx, upd_nx] <;> omega) | decide) only [rUz, ↓reduceIte, Nat.reduceEqDiff, Nat.reduceAdd, t2, t7, t11, t13, t14]; done) | (simp (disch := first | omega | (simp only [add_nx, upd_nx] <;> omega) | decide) only [rUz, ↓reduceIte, Nat.reduceEqDiff, Nat.reduceAdd, t2, t7, t11, t13, t14]; rfl))
    clear t2 t7 t11 t13 t14
    clear t
    intro q t h7 ⟨kp7, t2, t7, t11, t13, t14, t15, t16, t18, hq⟩ K2 hn2 he2
    have kpb := kpg.trans kp7
    have b7q := (kpb.get hn7).trans b7h
    have hn7q := Nat.lt_of_lt_of_le hn7 kpb.1
    have hpq := hpoX.mono kpb
    have lC := fun t h1 o => iv_len (hcI.mono kpb) t h1 o
    have hiX : i < X.length := by omega
    obtain ⟨b1, f1, o1, c1, u1, u2, u3, u4, u5, u6⟩ := row_idx hpq slrO srO (od_get hiX)
    have c0 := u6 0 _ (cOd0 (od X i))
    rw [Nat.add_zero] at c0
    have fin : ∀ t, tget t 2 = .bool Sd → tget t 7 = ptr0 B7 → tget t 11 = w → tget t 13 = cv → tget t 14 = iv (a : Int) → K2 (.exit 4) t h7 [] = true := fun t t2 t7 t11 t13 t14 => by
      refine he2 _ _ _ _ (fun e => by cases e) ?_
      simp (disch := first | omega | (simp only [add_nx, upd_nx] <;> omega) | decide) only [rUz, ↓reduceIte, Nat.reduceEqDiff, Nat.reduceAdd]
      repeat refine S.seq ?_
      refine S.region ?_
      simp (disch := first | omega | (simp only [add_nx, upd_nx] <;> omega) | decide) only [rUz, ↓reduceIte, Nat.reduceEqDiff, Nat.reduceAdd, t14]
      refine hn (a + 1) _ _ (by omega) ⟨kpb, ?_, ?_, ?_, ?_, ?_, by omega⟩
      all_goals (first | rfl | (simp (disch := first | omega | (simp only [add_nx, upd_nx] <;> omega) | decide) only [rUz, ↓reduceIte, Nat.reduceEqDiff, Nat.reduceAdd, t2, t7, t11, t13]; done) | (simp (disch := first | omega | (simp only [add_nx, upd_nx] <;> omega) | decide) only [rUz, ↓reduceIte, Nat.reduceEqDiff, Nat.reduceAdd, t2, t7, t11, t13]; rfl))
    rcases tr2 (decide ((q : Int) < (CI.length : Int))) with e1 | e1
    rotate_left
    · repeat refine S.seq ?_
      refine S.region ?_
      simp (disch := first | omega | (simp only [add_nx, upd_nx] <;> omega) | decide) only [rUz, ↓reduceIte, Nat.reduceEqDiff, Nat.reduceAdd, t13, t18, lC, e1]
      repeat refine S.seq ?_
      refine S.cond (v := false) (by first | rfl | (simp (disch := first | omega | (simp only [add_nx, upd_nx] <;> omega) | decide) only [rUz, ↓reduceIte, Nat.reduceEqDiff, Nat.reduceAdd] <;> rfl)) (fun e => by cases e) (fun _ => ?_)
      refine S.exit (fin _ ?_ ?_ ?_ ?_ ?_)
      all_goals (first | rfl | (simp (disch := first | omega | (simp only [add_nx, upd_nx] <;> omega) | decide) only [rUz, ↓reduceIte, Nat.reduceEqDiff, Nat.reduceAdd, t2, t7, t11, t13, t14]; done) | (simp (disch := first | omega | (simp only [add_nx, upd_nx] <;> omega) | decide) only [rUz, ↓reduceIte, Nat.reduceEqDiff, Nat.reduceAdd, t2, t7, t11, t13, t14]; rfl))
    rcases tr2 (decide (0 < fnZ (i : Int) M)) with e2 | e2
    rotate_left
    · repeat refine S.seq ?_
      refine S.region ?_
      simp (disch := first | omega | (simp only [add_nx, upd_nx] <;> omega) | decide) only [rUz, ↓reduceIte, Nat.reduceEqDiff, Nat.reduceAdd, t13, t16, t18, lC, e1, e2]
      repeat refine S.seq ?_
      refine S.cond (v := false) (by first | rfl | (simp (disch := first | omega | (simp only [add_nx, upd_nx] <;> omega) | decide) only [rUz, ↓reduceIte, Nat.reduceEqDiff, Nat.reduceAdd] <;> rfl)) (fun e => by cases e) (fun _ => ?_)
      refine S.exit (fin _ ?_ ?_ ?_ ?_ ?_)
      all_goals (first | rfl | (simp (disch := first | omega | (simp only [add_nx, upd_nx] <;> omega) | decide) only [rUz, ↓reduceIte, Nat.reduceEqDiff, Nat.reduceAdd, t2, t7, t11, t13, t14]; done) | (simp (disch := first | omega | (simp only [add_nx, upd_nx] <;> omega) | decide) only [rUz, ↓reduceIte, Nat.reduceEqDiff, Nat.reduceAdd, t2, t7, t11, t13, t14]; rfl))
    repeat refine S.seq ?_
    refine S.region ?_
    simp (disch := first | omega | (simp only [add_nx, upd_nx] <;> omega) | decide) only [rUz, ↓reduceIte, Nat.reduceEqDiff, Nat.reduceAdd, t2, t7, t13, t15, t16, t18, lC, e1, e2, b7q, fieldAddr_ptr fA0 lrO, qrO, po0, u1, u3, fieldAddr_ptr frO0 sb, pb, c0]
    refine optR_of' (eq116 (p := (od X i).b) (q := Sd) (by simp (disch := first | omega | (simp only [add_nx, upd_nx] <;> omega) | decide) only [rUz, ↓reduceIte, Nat.reduceEqDiff, Nat.reduceAdd]) (by simp (disch := first | omega | (simp only [add_nx, upd_nx] <;> omega) | decide) only [rUz, ↓reduceIte, Nat.reduceEqDiff, Nat.reduceAdd])) ?_
    rcases tr2 ((od X i).b == Sd) with e3 | e3
    rotate_left
    · simp (disch := first | omega | (simp only [add_nx, upd_nx] <;> omega) | decide) only [rUz, ↓reduceIte, Nat.reduceEqDiff, Nat.reduceAdd, e3]
      repeat refine S.seq ?_
      refine S.cond (v := false) (by first | rfl | (simp (disch := first | omega | (simp only [add_nx, upd_nx] <;> omega) | decide) only [rUz, ↓reduceIte, Nat.reduceEqDiff, Nat.reduceAdd] <;> rfl)) (fun e => by cases e) (fun _ => ?_)
      refine S.exit (fin _ ?_ ?_ ?_ ?_ ?_)
      all_goals (first | rfl | (simp (disch := first | omega | (simp only [add_nx, upd_nx] <;> omega) | decide) only [rUz, ↓reduceIte, Nat.reduceEqDiff, Nat.reduceAdd, t2, t7, t11, t13, t14]; done) | (simp (disch := first | omega | (simp only [add_nx, upd_nx] <;> omega) | decide) only [rUz, ↓reduceIte, Nat.reduceEqDiff, Nat.reduceAdd, t2, t7, t11, t13, t14]; rfl))
    clear fin
    simp (disch := first | omega | (simp only [add_nx, upd_nx] <;> omega) | decide) only [rUz, ↓reduceIte, Nat.reduceEqDiff, Nat.reduceAdd, e3]
    repeat refine S.seq ?_
    refine S.cond (v := true) (by first | rfl | (simp (disch := first | omega | (simp only [add_nx, upd_nx] <;> omega) | decide) only [rUz, ↓reduceIte, Nat.reduceEqDiff, Nat.reduceAdd] <;> rfl)) (fun _ => ?_) (fun e => by cases e)
    repeat refine S.seq ?_
    refine S.skip ?_
    simp (disch := first | omega | (simp only [add_nx, upd_nx] <;> omega) | decide) only [rUz, ↓reduceIte, Nat.reduceEqDiff, Nat.reduceAdd]
    repeat refine S.seq ?_
    refine S.block ?_
    have hqn : q < CI.length := by have := of_decide_eq_true e1; omega
    have hfi : 0 < fnZ (i : Int) M := of_decide_eq_true e2
    have hiS : (od X i).b = Sd := by rw [beq_iff_eq] at e3; exact e3
    have hkz : Cz[q]? = some Cz[q] := List.getElem?_eq_getElem (by omega)
    generalize Cz[q] = kk at hkz
    have hkO := hclt kk (List.mem_of_getElem? hkz)
    have hkX : kk < X.length := by omega
    obtain ⟨b4, f4, o4, r1, r2, r3, r4⟩ := (hcI.mono kpb).idx slI s3' hqn
    have hci : CI[q] = (kk : Int) := by
      have := hcg q kk hkz
      rw [List.getElem?_eq_getElem hqn] at this
      exact Option.some.inj this
    rw [hci] at r4
    repeat refine S.seq ?_
    refine S.region ?_
    simp (disch := first | omega | (simp only [add_nx, upd_nx] <;> omega) | decide) only [rUz, ↓reduceIte, Nat.reduceEqDiff, Nat.reduceAdd, t13, t18, r1, r3, p3, r4]
    obtain ⟨b2, f2, o2, c2', w1, w2, w3, w4, w5, w6⟩ := row_idx hpq slrO srO (od_get hkX)
    have up := part_at prO u4 u5
    have wp := part_at prO w4 w5
    have hz1 : h7.res.res.fams.get h7.nx = some [] := by rw [res_fn (by show h7.nx ≠ h7.nx + 1; omega)]; exact res_fe rfl
    have hz2 : h7.res.res.fams.get (h7.nx + 1) = some [] := res_fe rfl
    obtain ⟨B20, hB20⟩ : ∃ z, z = h7.nx := ⟨_, rfl⟩
    obtain ⟨B21, hB21⟩ : ∃ z, z = h7.nx + 1 := ⟨_, rfl⟩
    have hbv := row_veq hpq
    clear r1 r2 r3 r4 e1 e2 e3
    repeat refine S.seq ?_
    refine S.drawnM [(false, 0), (false, 1), (false, 0), (false, 7), (false, 15), (false, 0), (false, 32), (false, 0), (false, 224), (false, 480), (true, 0), (true, 0), (true, 3103), (true, 8191)] 3072 [10, 11] (by kernel_rfl) (by kernel_rfl) (by kernel_rfl) (by kernel_rfl) (by kernel_rfl) ?_
    generalize hJJ : (fun (t : T Value) (h : AHeap) => _) = KJ
    suffices hJ : ∀ t h, Kp h7 h → tget t 2 = .bool Sd → tget t 7 = ptr0 B7 → tget t 11 = w → tget t 13 = cv → tget t 14 = iv (a : Int) → tget t 15 = iv (i : Int) → tget t 16 = iv (fnZ (i : Int) M) → tget t 18 = iv (q : Int) → tget t 19 = iv (kk : Int) → tget t 20 = ptr0 B20 → tget t 21 = ptr0 B21 → B20 < h.nx ∧ B21 < h.nx → h.bl.get B20 = some (.cells (cOd (od X i)) B20 false) → h.bl.get B21 = some (.cells (cOd (od X kk)) B21 false) → KJ t h = true by
      clear hJJ hn he hn2 he2 hff
      simp (disch := first | omega | (simp only [add_nx, upd_nx] <;> omega) | decide) only [rUz, ↓reduceIte, Nat.reduceEqDiff, Nat.reduceAdd, rMz, infoL, Nat.reduceSub, res_bl, t7, t15, b7q, fieldAddr_ptr fA0 lrO, qrO, po0, u1, u3, up, w1, w3, wp]
      refine dm_two rfl rfl ?_ ?_
      · refine dmW_alloc (r := h7.nx) (z := .agg ⟨[.bool false, iv 0, iv 0, iv 0, iv 0]⟩) rfl zrO hz1 (Nat.le_of_ble_eq_true rfl) ?_ ?_
        · skip
          have keep : ∀ B, B < h7.nx → (h7.res.res.putAt (h7.nx) [.bool false, iv 0, iv 0, iv 0, iv 0]).bl.get B = h7.bl.get B := fun B hB => by rw [putAt_ne (by omega)]; rfl
          have x7 := (keep _ hn7q).trans b7q
          have xi := (keep _ u2).trans u3
          have xk := (keep _ w2).trans w3
          try simp (disch := first | decide | rfl) only [again_nil, again_skip, again_free]
          rw [again_same (v := .agg ⟨cOd (od X kk)⟩) (by simp (disch := first | omega | (simp only [add_nx, upd_nx] <;> omega) | decide) only [rUz, ↓reduceIte, Nat.reduceEqDiff, Nat.reduceAdd, rDz, infoL, Nat.reduceSub, xk, wp]) (veq_cOd _)]
          try simp (disch := first | decide | rfl) only [again_nil, again_skip, again_free]
          rw [again_same (v := .slice (some ⟨b, 0, none⟩) O.length O.length) (by simp (disch := first | omega | (simp only [add_nx, upd_nx] <;> omega) | decide) only [rUz, ↓reduceIte, Nat.reduceEqDiff, Nat.reduceAdd, rDz, infoL, Nat.reduceSub, x7, fieldAddr_ptr fA0 lrO, qrO, po0]) hbv]
          try simp (disch := first | decide | rfl) only [again_nil, again_skip, again_free]
          rw [again_same (v := .agg ⟨cOd (od X i)⟩) (by simp (disch := first | omega | (simp only [add_nx, upd_nx] <;> omega) | decide) only [rUz, ↓reduceIte, Nat.reduceEqDiff, Nat.reduceAdd, rDz, infoL, Nat.reduceSub, xi, up]) (veq_cOd _)]
          try simp (disch := first | decide | rfl) only [again_nil, again_skip, again_free]
          rw [again_same (v := .slice (some ⟨b, 0, none⟩) O.length O.length) (by simp (disch := first | omega | (simp only [add_nx, upd_nx] <;> omega) | decide) only [rUz, ↓reduceIte, Nat.reduceEqDiff, Nat.reduceAdd, rDz, infoL, Nat.reduceSub, x7, fieldAddr_ptr fA0 lrO, qrO, po0]) hbv]
          try simp (disch := first | decide | rfl) only [again_nil, again_skip, again_free]
        simp (disch := first | omega | (simp only [add_nx, upd_nx] <;> omega) | decide) only [rUz, ↓reduceIte, Nat.reduceEqDiff, Nat.reduceAdd, rMz, infoL, Nat.reduceSub]
        refine dm_one rfl rfl ?_
        refine dmW_alloc (r := h7.nx + 1) (z := .agg ⟨[.bool false, iv 0, iv 0, iv 0, iv 0]⟩) rfl zrO (by rw [putAt_fn (by omega)]; exact hz2) (Nat.le_of_ble_eq_true rfl) ?_ ?_
        · skip
          have keep : ∀ B, B < h7.nx → ((h7.res.res.putAt (h7.nx) [.bool false, iv 0, iv 0, iv 0, iv 0]).putAt (h7.nx + 1) [.bool false, iv 0, iv 0, iv 0, iv 0]).bl.get B = h7.bl.get B := fun B hB => by rw [putAt_ne (by omega), putAt_ne (by omega)]; rfl
          have x7 := (keep _ hn7q).trans b7q
          have xi := (keep _ u2).trans u3
          have xk := (keep _ w2).trans w3
          try simp (disch := first | decide | rfl) only [again_nil, again_skip, again_free]
          rw [again_same (v := .agg ⟨cOd (od X kk)⟩) (by simp (disch := first | omega | (simp only [add_nx, upd_nx] <;> omega) | decide) only [rUz, ↓reduceIte, Nat.reduceEqDiff, Nat.reduceAdd, rDz, infoL, Nat.reduceSub, xk, wp]) (veq_cOd _)]
          try simp (disch := first | decide | rfl) only [again_nil, again_skip, again_free]
          rw [again_same (v := .slice (some ⟨b, 0, none⟩) O.length O.length) (by simp (disch := first | omega | (simp only [add_nx, upd_nx] <;> omega) | decide) only [rUz, ↓reduceIte, Nat.reduceEqDiff, Nat.reduceAdd, rDz, infoL, Nat.reduceSub, x7, fieldAddr_ptr fA0 lrO, qrO, po0]) hbv]
          try simp (disch := first | decide | rfl) only [again_nil, again_skip, again_free]
          rw [again_same (v := .agg ⟨cOd (od X i)⟩) (by simp (disch := first | omega | (simp only [add_nx, upd_nx] <;> omega) | decide) only [rUz, ↓reduceIte, Nat.reduceEqDiff, Nat.reduceAdd, rDz, infoL, Nat.reduceSub, xi, up]) (veq_cOd _)]
          try simp (disch := first | decide | rfl) only [again_nil, again_skip, again_free]
          rw [again_same (v := .slice (some ⟨b, 0, none⟩) O.length O.length) (by simp (disch := first | omega | (simp only [add_nx, upd_nx] <;> omega) | decide) only [rUz, ↓reduceIte, Nat.reduceEqDiff, Nat.reduceAdd, rDz, infoL, Nat.reduceSub, x7, fieldAddr_ptr fA0 lrO, qrO, po0]) hbv]
          try simp (disch := first | decide | rfl) only [again_nil, again_skip, again_free]
        simp (disch := first | omega | (simp only [add_nx, upd_nx] <;> omega) | decide) only [rUz, ↓reduceIte, Nat.reduceEqDiff, Nat.reduceAdd, rMz, infoL, Nat.reduceSub]
        refine dm_one rfl rfl ?_
        refine dmW_none rfl rfl (aw_storeN (B := h7.nx) (ls := cOd (od X i)) (by simp (disch := first | omega | (simp only [add_nx, upd_nx] <;> omega) | decide) only [rUz, ↓reduceIte, Nat.reduceEqDiff, Nat.reduceAdd, rMz, infoL, Nat.reduceSub]) (by simp (disch := first | omega | (simp only [add_nx, upd_nx] <;> omega) | decide) only [rUz, ↓reduceIte, Nat.reduceEqDiff, Nat.reduceAdd, rMz, infoL, Nat.reduceSub]) srO (by omega) rfl ((putAt_ne (by omega)).trans (putAt_eq rfl)) ((putAt_fn (by omega)).trans (putAt_fe rfl)) rfl) ?_ ?_
        · skip
          have keep : ∀ B, B < h7.nx → (((h7.res.res.putAt (h7.nx) [.bool false, iv 0, iv 0, iv 0, iv 0]).putAt (h7.nx + 1) [.bool false, iv 0, iv 0, iv 0, iv 0]).upd h7.nx (cOd (od X i)) h7.nx).bl.get B = h7.bl.get B := fun B hB => by rw [upd_ne _ _ _ (by omega), putAt_ne (by omega), putAt_ne (by omega)]; rfl
          have x7 := (keep _ hn7q).trans b7q
          have xi := (keep _ u2).trans u3
          have xk := (keep _ w2).trans w3
          try simp (disch := first | decide | rfl) only [again_nil, again_skip, again_free]
          rw [again_same (v := .agg ⟨cOd (od X kk)⟩) (by simp (disch := first | omega | (simp only [add_nx, upd_nx] <;> omega) | decide) only [rUz, ↓reduceIte, Nat.reduceEqDiff, Nat.reduceAdd, rDz, infoL, Nat.reduceSub, xk, wp]) (veq_cOd _)]
          try simp (disch := first | decide | rfl) only [again_nil, again_skip, again_free]
          rw [again_same (v := .slice (some ⟨b, 0, none⟩) O.length O.length) (by simp (disch := first | omega | (simp only [add_nx, upd_nx] <;> omega) | decide) only [rUz, ↓reduceIte, Nat.reduceEqDiff, Nat.reduceAdd, rDz, infoL, Nat.reduceSub, x7, fieldAddr_ptr fA0 lrO, qrO, po0]) hbv]
          try simp (disch := first | decide | rfl) only [again_nil, again_skip, again_free]
        simp (disch := first | omega | (simp only [add_nx, upd_nx] <;> omega) | decide) only [rUz, ↓reduceIte, Nat.reduceEqDiff, Nat.reduceAdd, rMz, infoL, Nat.reduceSub]
        refine dm_one rfl rfl ?_
        refine dmW_none rfl rfl (aw_storeN (B := h7.nx + 1) (ls := cOd (od X kk)) (by simp (disch := first | omega | (simp only [add_nx, upd_nx] <;> omega) | decide) only [rUz, ↓reduceIte, Nat.reduceEqDiff, Nat.reduceAdd, rMz, infoL, Nat.reduceSub]) (by simp (disch := first | omega | (simp only [add_nx, upd_nx] <;> omega) | decide) only [rUz, ↓reduceIte, Nat.reduceEqDiff, Nat.reduceAdd, rMz, infoL, Nat.reduceSub]) srO (by omega) rfl ((upd_ne _ _ _ (by omega)).trans (putAt_eq rfl)) (by rw [upd_fams]; exact putAt_fe rfl) rfl) ?_ ?_
        · try simp (disch := first | decide | rfl) only [again_nil, again_skip, again_free]
        simp (disch := first | omega | (simp only [add_nx, upd_nx] <;> omega) | decide) only [rUz, ↓reduceIte, Nat.reduceEqDiff, Nat.reduceAdd, rMz, infoL, Nat.reduceSub]
        subst hB20 hB21
        refine hJ _ _ ?_ ?_ ?_ ?_ ?_ ?_ ?_ ?_ ?_ ?_ ?_ ?_ ⟨?_, ?_⟩ ?_ ?_
        · exact (((Kp.refl.res.res.putAt (by omega)).putAt (by omega)).upd (by omega)).upd (by omega)
        · simp (disch := first | omega | (simp only [add_nx, upd_nx] <;> omega) | decide) only [rUz, ↓reduceIte, Nat.reduceEqDiff, Nat.reduceAdd, t2, t7, t11, t13, t14, t15, t16, t18]
        · simp (disch := first | omega | (simp only [add_nx, upd_nx] <;> omega) | decide) only [rUz, ↓reduceIte, Nat.reduceEqDiff, Nat.reduceAdd, t2, t7, t11, t13, t14, t15, t16, t18]
        · simp (disch := first | omega | (simp only [add_nx, upd_nx] <;> omega) | decide) only [rUz, ↓reduceIte, Nat.reduceEqDiff, Nat.reduceAdd, t2, t7, t11, t13, t14, t15, t16, t18]
        · simp (disch := first | omega | (simp only [add_nx, upd_nx] <;> omega) | decide) only [rUz, ↓reduceIte, Nat.reduceEqDiff, Nat.reduceAdd, t2, t7, t11, t13, t14, t15, t16, t18]
        · simp (disch := first | omega | (simp only [add_nx, upd_nx] <;> omega) | decide) only [rUz, ↓reduceIte, Nat.reduceEqDiff, Nat.reduceAdd, t2, t7, t11, t13, t14, t15, t16, t18]
        · simp (disch := first | omega | (simp only [add_nx, upd_nx] <;> omega) | decide) only [rUz, ↓reduceIte, Nat.reduceEqDiff, Nat.reduceAdd, t2, t7, t11, t13, t14, t15, t16, t18]
        · simp (disch := first | omega | (simp only [add_nx, upd_nx] <;> omega) | decide) only [rUz, ↓reduceIte, Nat.reduceEqDiff, Nat.reduceAdd, t2, t7, t11, t13, t14, t15, t16, t18]
        · simp (disch := first | omega | (simp only [add_nx, upd_nx] <;> omega) | decide) only [rUz, ↓reduceIte, Nat.reduceEqDiff, Nat.reduceAdd, t2, t7, t11, t13, t14, t15, t16, t18]
        · simp (disch := first | omega | (simp only [add_nx, upd_nx] <;> omega) | decide) only [rUz, ↓reduceIte, Nat.reduceEqDiff, Nat.reduceAdd, t2, t7, t11, t13, t14, t15, t16, t18]
        · simp (disch := first | omega | (simp only [add_nx, upd_nx] <;> omega) | decide) only [rUz, ↓reduceIte, Nat.reduceEqDiff, Nat.reduceAdd, t2, t7, t11, t13, t14, t15, t16, t18]
        · simp (disch := first | omega | (simp only [add_nx, upd_nx] <;> omega) | decide) only [rUz, ↓reduceIte, Nat.reduceEqDiff, Nat.reduceAdd, t2, t7, t11, t13, t14, t15, t16, t18]
        · show h7.nx < h7.nx + 2; omega
        · show h7.nx + 1 < h7.nx + 2; omega
        · rw [upd_ne _ _ _ (by omega)]; exact upd_eq _ _ _
        · exact upd_eq _ _ _
      · refine dmW_alloc (r := h7.nx + 1) (z := .agg ⟨[.bool false, iv 0, iv 0, iv 0, iv 0]⟩) rfl zrO hz2 (Nat.le_of_ble_eq_true rfl) ?_ ?_
        · skip
          have keep : ∀ B, B < h7.nx → (h7.res.res.putAt (h7.nx + 1) [.bool false, iv 0, iv 0, iv 0, iv 0]).bl.get B = h7.bl.get B := fun B hB => by rw [putAt_ne (by omega)]; rfl
          have x7 := (keep _ hn7q).trans b7q
          have xi := (keep _ u2).trans u3
          have xk := (keep _ w2).trans w3
          try simp (disch := first | decide | rfl) only [again_nil, again_skip, again_free]
          rw [again_same (v := .agg ⟨cOd (od X kk)⟩) (by simp (disch := first | omega | (simp only [add_nx, upd_nx] <;> omega) | decide) only [rUz, ↓reduceIte, Nat.reduceEqDiff, Nat.reduceAdd, rDz, infoL, Nat.reduceSub, xk, wp]) (veq_cOd _)]
          try simp (disch := first | decide | rfl) only [again_nil, again_skip, again_free]
          rw [again_same (v := .slice (some ⟨b, 0, none⟩) O.length O.length) (by simp (disch := first | omega | (simp only [add_nx, upd_nx] <;> omega) | decide) only [rUz, ↓reduceIte, Nat.reduceEqDiff, Nat.reduceAdd, rDz, infoL, Nat.reduceSub, x7, fieldAddr_ptr fA0 lrO, qrO, po0]) hbv]
          try simp (disch := first | decide | rfl) only [again_nil, again_skip, again_free]
          rw [again_same (v := .agg ⟨cOd (od X i)⟩) (by simp (disch := first | omega | (simp only [add_nx, upd_nx] <;> omega) | decide) only [rUz, ↓reduceIte, Nat.reduceEqDiff, Nat.reduceAdd, rDz, infoL, Nat.reduceSub, xi, up]) (veq_cOd _)]
          try simp (disch := first | decide | rfl) only [again_nil, again_skip, again_free]
          rw [again_same (v := .slice (some ⟨b, 0, none⟩) O.length O.length) (by simp (disch := first | omega | (simp only [add_nx, upd_nx] <;> omega) | decide) only [rUz, ↓reduceIte, Nat.reduceEqDiff, Nat.reduceAdd, rDz, infoL, Nat.reduceSub, x7, fieldAddr_ptr fA0 lrO, qrO, po0]) hbv]
          try simp (disch := first | decide | rfl) only [again_nil, again_skip, again_free]
        simp (disch := first | omega | (simp only [add_nx, upd_nx] <;> omega) | decide) only [rUz, ↓reduceIte, Nat.reduceEqDiff, Nat.reduceAdd, rMz, infoL, Nat.reduceSub]
        refine dm_one rfl rfl ?_
        refine dmW_alloc (r := h7.nx) (z := .agg ⟨[.bool false, iv 0, iv 0, iv 0, iv 0]⟩) rfl zrO (by rw [putAt_fn (by omega)]; exact hz1) (Nat.le_of_ble_eq_true rfl) ?_ ?_
        · skip
          have keep : ∀ B, B < h7.nx → ((h7.res.res.putAt (h7.nx + 1) [.bool false, iv 0, iv 0, iv 0, iv 0]).putAt (h7.nx) [.bool false, iv 0, iv 0, iv 0, iv 0]).bl.get B = h7.bl.get B := fun B hB => by rw [putAt_ne (by omega), putAt_ne (by omega)]; rfl
          have x7 := (keep _ hn7q).trans b7q
          have xi := (keep _ u2).trans u3
          have xk := (keep _ w2).trans w3
          try simp (disch := first | decide | rfl) only [again_nil, again_skip, again_free]
          rw [again_same (v := .agg ⟨cOd (od X kk)⟩) (by simp (disch := first | omega | (simp only [add_nx, upd_nx] <;> omega) | decide) only [rUz, ↓reduceIte, Nat.reduceEqDiff, Nat.reduceAdd, rDz, infoL, Nat.reduceSub, xk, wp]) (veq_cOd _)]
          try simp (disch := first | decide | rfl) only [again_nil, again_skip, again_free]
          rw [again_same (v := .slice (some ⟨b, 0, none⟩) O.length O.length) (by simp (disch := first | omega | (simp only [add_nx, upd_nx] <;> omega) | decide) only [rUz, ↓reduceIte, Nat.reduceEqDiff, Nat.reduceAdd, rDz, infoL, Nat.reduceSub, x7, fieldAddr_ptr fA0 lrO, qrO, po0]) hbv]
          try simp (disch := first | decide | rfl) only [again_nil, again_skip, again_free]
          rw [again_same (v := .agg ⟨cOd (od X i)⟩) (by simp (disch := first | omega | (simp only [add_nx, upd_nx] <;> omega) | decide) only [rUz, ↓reduceIte, Nat.reduceEqDiff, Nat.reduceAdd, rDz, infoL, Nat.reduceSub, xi, up]) (veq_cOd _)]
          try simp (disch := first | decide | rfl) only [again_nil, again_skip, again_free]
          rw [again_same (v := .slice (some ⟨b, 0, none⟩) O.length O.length) (by simp (disch := first | omega | (simp only [add_nx, upd_nx] <;> omega) | decide) only [rUz, ↓reduceIte, Nat.reduceEqDiff, Nat.reduceAdd, rDz, infoL, Nat.reduceSub, x7, fieldAddr_ptr fA0 lrO, qrO, po0]) hbv]
          try simp (disch := first | decide | rfl) only [again_nil, again_skip, again_free]
        simp (disch := first | omega | (simp only [add_nx, upd_nx] <;> omega) | decide) only [rUz, ↓reduceIte, Nat.reduceEqDiff, Nat.reduceAdd, rMz, infoL, Nat.reduceSub]
        refine dm_one rfl rfl ?_
        refine dmW_none rfl rfl (aw_storeN (B := h7.nx) (ls := cOd (od X i)) (by simp (disch := first | omega | (simp only [add_nx, upd_nx] <;> omega) | decide) only [rUz, ↓reduceIte, Nat.reduceEqDiff, Nat.reduceAdd, rMz, infoL, Nat.reduceSub]) (by simp (disch := first | omega | (simp only [add_nx, upd_nx] <;> omega) | decide) only [rUz, ↓reduceIte, Nat.reduceEqDiff, Nat.reduceAdd, rMz, infoL, Nat.reduceSub]) srO (by omega) rfl (putAt_eq rfl) (putAt_fe rfl) rfl) ?_ ?_
        · skip
          have keep : ∀ B, B < h7.nx → (((h7.res.res.putAt (h7.nx + 1) [.bool false, iv 0, iv 0, iv 0, iv 0]).putAt (h7.nx) [.bool false, iv 0, iv 0, iv 0, iv 0]).upd h7.nx (cOd (od X i)) h7.nx).bl.get B = h7.bl.get B := fun B hB => by rw [upd_ne _ _ _ (by omega), putAt_ne (by omega), putAt_ne (by omega)]; rfl
          have x7 := (keep _ hn7q).trans b7q
          have xi := (keep _ u2).trans u3
          have xk := (keep _ w2).trans w3
          try simp (disch := first | decide | rfl) only [again_nil, again_skip, again_free]
          rw [again_same (v := .agg ⟨cOd (od X kk)⟩) (by simp (disch := first | omega | (simp only [add_nx, upd_nx] <;> omega) | decide) only [rUz, ↓reduceIte, Nat.reduceEqDiff, Nat.reduceAdd, rDz, infoL, Nat.reduceSub, xk, wp]) (veq_cOd _)]
          try simp (disch := first | decide | rfl) only [again_nil, again_skip, again_free]
          rw [again_same (v := .slice (some ⟨b, 0, none⟩) O.length O.length) (by simp (disch := first | omega | (simp only [add_nx, upd_nx] <;> omega) | decide) only [rUz, ↓reduceIte, Nat.reduceEqDiff, Nat.reduceAdd, rDz, infoL, Nat.reduceSub, x7, fieldAddr_ptr fA0 lrO, qrO, po0]) hbv]
          try simp (disch := first | decide | rfl) only [again_nil, again_skip, again_free]
        simp (disch := first | omega | (simp only [add_nx, upd_nx] <;> omega) | decide) only [rUz, ↓reduceIte, Nat.reduceEqDiff, Nat.reduceAdd, rMz, infoL, Nat.reduceSub]
        refine dm_one rfl rfl ?_
        refine dmW_none rfl rfl (aw_storeN (B := h7.nx + 1) (ls := cOd (od X kk)) (by simp (disch := first | omega | (simp only [add_nx, upd_nx] <;> omega) | decide) only [rUz, ↓reduceIte, Nat.reduceEqDiff, Nat.reduceAdd, rMz, infoL, Nat.reduceSub]) (by simp (disch := first | omega | (simp only [add_nx, upd_nx] <;> omega) | decide) only [rUz, ↓reduceIte, Nat.reduceEqDiff, Nat.reduceAdd, rMz, infoL, Nat.reduceSub]) srO (by omega) rfl ((upd_ne _ _ _ (by omega)).trans ((putAt_ne (by omega)).trans (putAt_eq rfl))) (by rw [upd_fams]; exact (putAt_fn (by omega)).trans (putAt_fe rfl)) rfl) ?_ ?_
        · try simp (disch := first | decide | rfl) only [again_nil, again_skip, again_free]
        simp (disch := first | omega | (simp only [add_nx, upd_nx] <;> omega) | decide) only [rUz, ↓reduceIte, Nat.reduceEqDiff, Nat.reduceAdd, rMz, infoL, Nat.reduceSub]
        subst hB20 hB21
        refine hJ _ _ ?_ ?_ ?_ ?_ ?_ ?_ ?_ ?_ ?_ ?_ ?_ ?_ ⟨?_, ?_⟩ ?_ ?_
        · exact (((Kp.refl.res.res.putAt (by omega)).putAt (by omega)).upd (by omega)).upd (by omega)
        · simp (disch := first | omega | (simp only [add_nx, upd_nx] <;> omega) | decide) only [rUz, ↓reduceIte, Nat.reduceEqDiff, Nat.reduceAdd, t2, t7, t11, t13, t14, t15, t16, t18]
        · simp (disch := first | omega | (simp only [add_nx, upd_nx] <;> omega) | decide) only [rUz, ↓reduceIte, Nat.reduceEqDiff, Nat.reduceAdd, t2, t7, t11, t13, t14, t15, t16, t18]
        · simp (disch := first | omega | (simp only [add_nx, upd_nx] <;> omega) | decide) only [rUz, ↓reduceIte, Nat.reduceEqDiff, Nat.reduceAdd, t2, t7, t11, t13, t14, t15, t16, t18]
        · simp (disch := first | omega | (simp only [add_nx, upd_nx] <;> omega) | decide) only [rUz, ↓reduceIte, Nat.reduceEqDiff, Nat.reduceAdd, t2, t7, t11, t13, t14, t15, t16, t18]
        · simp (disch := first | omega | (simp only [add_nx, upd_nx] <;> omega) | decide) only [rUz, ↓reduceIte, Nat.reduceEqDiff, Nat.reduceAdd, t2, t7, t11, t13, t14, t15, t16, t18]
        · simp (disch := first | omega | (simp only [add_nx, upd_nx] <;> omega) | decide) only [rUz, ↓reduceIte, Nat.reduceEqDiff, Nat.reduceAdd, t2, t7, t11, t13, t14, t15, t16, t18]
        · simp (disch := first | omega | (simp only [add_nx, upd_nx] <;> omega) | decide) only [rUz, ↓reduceIte, Nat.reduceEqDiff, Nat.reduceAdd, t2, t7, t11, t13, t14, t15, t16, t18]
        · simp (disch := first | omega | (simp only [add_nx, upd_nx] <;> omega) | decide) only [rUz, ↓reduceIte, Nat.reduceEqDiff, Nat.reduceAdd, t2, t7, t11, t13, t14, t15, t16, t18]
        · simp (disch := first | omega | (simp only [add_nx, upd_nx] <;> omega) | decide) only [rUz, ↓reduceIte, Nat.reduceEqDiff, Nat.reduceAdd, t2, t7, t11, t13, t14, t15, t16, t18]
        · simp (disch := first | omega | (simp only [add_nx, upd_nx] <;> omega) | decide) only [rUz, ↓reduceIte, Nat.reduceEqDiff, Nat.reduceAdd, t2, t7, t11, t13, t14, t15, t16, t18]
        · simp (disch := first | omega | (simp only [add_nx, upd_nx] <;> omega) | decide) only [rUz, ↓reduceIte, Nat.reduceEqDiff, Nat.reduceAdd, t2, t7, t11, t13, t14, t15, t16, t18]
        · show h7.nx < h7.nx + 2; omega
        · show h7.nx + 1 < h7.nx + 2; omega
        · rw [upd_ne _ _ _ (by omega)]; exact upd_eq _ _ _
        · exact upd_eq _ _ _
    clear u1 u2 u3 u4 u5 u6 up w1 w2 w3 w4 w5 w6 wp hz1 hz2 c0 t2 t7 t11 t13 t14 t15 t16 t18 hbv b7q hn7q hpq lC
    clear t
    intro t h8 hk8 t2 t7 t11 t13 t14 t15 t16 t18 t19 t20 t21 ⟨hl20, hl21⟩ hb20 hb21
    subst hJJ
    simp only [seqK_normal]
    have kpc := kpb.trans hk8
    have kpd := kp7.trans hk8
    repeat refine S.seq ?_
    refine S.region ?_
    generalize hJJ : (fun (t : T Value) (h : AHeap) => _) = KJ
    suffices hJ : ∀ t, tget t 2 = .bool Sd → tget t 7 = ptr0 B7 → tget t 11 = w → tget t 13 = cv → tget t 14 = iv (a : Int) → tget t 15 = iv (i : Int) → tget t 16 = iv (fnZ (i : Int) M) → tget t 18 = iv (q : Int) → tget t 19 = iv (kk : Int) → tget t 20 = ptr0 B20 → tget t 21 = ptr0 B21 → tget t 22 = .bool (betT (od X kk) (od X i)) → KJ t h8 = true by
      clear hJJ hn he hn2 he2 hff
      unfold betT at hJ
      rcases tr2 ((od X kk).b) with e4 | e4
      · rw [e4, cond_true] at hJ
        rcases tr2 (decide ((od X i).l < (od X kk).l)) with e5 | e5
        · rw [e5] at hJ
          simp (disch := first | omega | (simp only [add_nx, upd_nx] <;> omega) | decide) only [rUz, ↓reduceIte, Nat.reduceEqDiff, Nat.reduceAdd, t20, t21, hb20, hb21, fieldAddr_ptr frO0 sb, fieldAddr_ptr frO1 s3, p3, pb, cOd0, cOd1, un_not, e4, e5, Bool.not_true]
          refine hJ _ ?_ ?_ ?_ ?_ ?_ ?_ ?_ ?_ ?_ ?_ ?_ ?_
          all_goals (first | rfl | (simp (disch := first | omega | (simp only [add_nx, upd_nx] <;> omega) | decide) only [rUz, ↓reduceIte, Nat.reduceEqDiff, Nat.reduceAdd, t2, t7, t11, t13, t14, t15, t16, t18, t19, t20, t21]; done) | (simp (disch := first | omega | (simp only [add_nx, upd_nx] <;> omega) | decide) only [rUz, ↓reduceIte, Nat.reduceEqDiff, Nat.reduceAdd, t2, t7, t11, t13, t14, t15, t16, t18, t19, t20, t21]; rfl))
        · rw [e5] at hJ
          simp (disch := first | omega | (simp only [add_nx, upd_nx] <;> omega) | decide) only [rUz, ↓reduceIte, Nat.reduceEqDiff, Nat.reduceAdd, t20, t21, hb20, hb21, fieldAddr_ptr frO0 sb, fieldAddr_ptr frO1 s3, p3, pb, cOd0, cOd1, un_not, e4, e5, Bool.not_true]
          refine hJ _ ?_ ?_ ?_ ?_ ?_ ?_ ?_ ?_ ?_ ?_ ?_ ?_
          all_goals (first | rfl | (simp (disch := first | omega | (simp only [add_nx, upd_nx] <;> omega) | decide) only [rUz, ↓reduceIte, Nat.reduceEqDiff, Nat.reduceAdd, t2, t7, t11, t13, t14, t15, t16, t18, t19, t20, t21]; done) | (simp (disch := first | omega | (simp only [add_nx, upd_nx] <;> omega) | decide) only [rUz, ↓reduceIte, Nat.reduceEqDiff, Nat.reduceAdd, t2, t7, t11, t13, t14, t15, t16, t18, t19, t20, t21]; rfl))
      · rw [e4, cond_false] at hJ
        rcases tr2 (decide ((od X kk).l < (od X i).l)) with e5 | e5
        · rw [e5] at hJ
          simp (disch := first | omega | (simp only [add_nx, upd_nx] <;> omega) | decide) only [rUz, ↓reduceIte, Nat.reduceEqDiff, Nat.reduceAdd, t20, t21, hb20, hb21, fieldAddr_ptr frO0 sb, fieldAddr_ptr frO1 s3, p3, pb, cOd0, cOd1, un_not, e4, e5, Bool.not_false]
          refine hJ _ ?_ ?_ ?_ ?_ ?_ ?_ ?_ ?_ ?_ ?_ ?_ ?_
          all_goals (first | rfl | (simp (disch := first | omega | (simp only [add_nx, upd_nx] <;> omega) | decide) only [rUz, ↓reduceIte, Nat.reduceEqDiff, Nat.reduceAdd, t2, t7, t11, t13, t14, t15, t16, t18, t19, t20, t21]; done) | (simp (disch := first | omega | (simp only [add_nx, upd_nx] <;> omega) | decide) only [rUz, ↓reduceIte, Nat.reduceEqDiff, Nat.reduceAdd, t2, t7, t11, t13, t14, t15, t16, t18, t19, t20, t21]; rfl))
        · rw [e5] at hJ
          simp (disch := first | omega | (simp only [add_nx, upd_nx] <;> omega) | decide) only [rUz, ↓reduceIte, Nat.reduceEqDiff, Nat.reduceAdd, t20, t21, hb20, hb21, fieldAddr_ptr frO0 sb, fieldAddr_ptr frO1 s3, p3, pb, cOd0, cOd1, un_not, e4, e5, Bool.not_false]
          refine hJ _ ?_ ?_ ?_ ?_ ?_ ?_ ?_ ?_ ?_ ?_ ?_ ?_
          all_goals (first | rfl | (simp (disch := first | omega | (simp only [add_nx, upd_nx] <;> omega) | decide) only [rUz, ↓reduceIte, Nat.reduceEqDiff, Nat.reduceAdd, t2, t7, t11, t13, t14, t15, t16, t18, t19, t20, t21]; done) | (simp (disch := first | omega | (simp only [add_nx, upd_nx] <;> omega) | decide) only [rUz, ↓reduceIte, Nat.reduceEqDiff, Nat.reduceAdd, t2, t7, t11, t13, t14, t15, t16, t18, t19, t20, t21]; rfl))
    clear t2 t7 t11 t13 t14 t15 t16 t18 t19 t20 t21
    clear t
    intro t t2 t7 t11 t13 t14 t15 t16 t18 t19 t20 t21 t22
    subst hJJ
    simp only [seqK_normal]
    repeat refine S.seq ?_
    refine S.region ?_
    simp (disch := first | omega | (simp only [add_nx, upd_nx] <;> omega) | decide) only [rUz, ↓reduceIte, Nat.reduceEqDiff, Nat.reduceAdd, t11]
    refine wr_brings (fid := 19) (first := #[]) (captured := #[]) (Post := fun u h => SlAt h 4 u (M.map cSa)) rfl (hoff _ _ _ rfl) (by simp (disch := first | omega | (simp only [add_nx, upd_nx] <;> omega) | decide) only [rUz, ↓reduceIte, Nat.reduceEqDiff, Nat.reduceAdd]; exact back_y S h8 w M (SlAt.mono hs kpc) (by omega)) ?_
    rintro u8 g9 hkg9 hs9
    simp (disch := first | omega | (simp only [add_nx, upd_nx] <;> omega) | decide) only [rUz, ↓reduceIte, Nat.reduceEqDiff, Nat.reduceAdd, t19]
    refine wr_brings (fid := 37) (first := #[]) (captured := #[]) (Post := fun u h => u = .tuple ⟨[iv (fnZ (kk : Int) M), iv (fmZ (kk : Int) M)]⟩ ∧ g9 = h) rfl (hoff _ _ _ rfl) (by simp (disch := first | omega | (simp only [add_nx, upd_nx] <;> omega) | decide) only [rUz, ↓reduceIte, Nat.reduceEqDiff, Nat.reduceAdd]; exact filled_y S g9 u8 M (kk : Int) hs9 hso (by omega)) ?_
    rintro u9 g10 - ⟨rfl, rfl⟩
    simp (disch := first | omega | (simp only [add_nx, upd_nx] <;> omega) | decide) only [rUz, ↓reduceIte, Nat.reduceEqDiff, Nat.reduceAdd, tq0, tq1]
    replace hb20 := (hkg9.get hl20).trans hb20
    replace hb21 := (hkg9.get hl21).trans hb21
    have kpe := kpd.trans hkg9
    repeat refine S.seq ?_
    refine S.region ?_
    simp (disch := first | omega | (simp only [add_nx, upd_nx] <;> omega) | decide) only [rUz, ↓reduceIte, Nat.reduceEqDiff, Nat.reduceAdd, t2, t20, t21, hb20, hb21, fieldAddr_ptr frO0 sb, pb, cOd0]
    refine optR_of' (eq165 (p := (od X kk).b) (q := Sd) (by simp (disch := first | omega | (simp only [add_nx, upd_nx] <;> omega) | decide) only [rUz, ↓reduceIte, Nat.reduceEqDiff, Nat.reduceAdd]) (by simp (disch := first | omega | (simp only [add_nx, upd_nx] <;> omega) | decide) only [rUz, ↓reduceIte, Nat.reduceEqDiff, Nat.reduceAdd])) ?_
    rcases tr2 ((od X kk).b == Sd) with e6 | e6
    rotate_left
    · simp (disch := first | omega | (simp only [add_nx, upd_nx] <;> omega) | decide) only [rUz, ↓reduceIte, Nat.reduceEqDiff, Nat.reduceAdd, e6]
      repeat refine S.seq ?_
      refine S.cond (v := false) (by first | rfl | (simp (disch := first | omega | (simp only [add_nx, upd_nx] <;> omega) | decide) only [rUz, ↓reduceIte, Nat.reduceEqDiff, Nat.reduceAdd] <;> rfl)) (fun e => by cases e) (fun _ => ?_)
      repeat refine S.seq ?_
      refine S.skip ?_
      simp (disch := first | omega | (simp only [add_nx, upd_nx] <;> omega) | decide) only [rUz, ↓reduceIte, Nat.reduceEqDiff, Nat.reduceAdd]
      repeat refine S.seq ?_
      refine S.region ?_
      simp (disch := first | omega | (simp only [add_nx, upd_nx] <;> omega) | decide) only [rUz, ↓reduceIte, Nat.reduceEqDiff, Nat.reduceAdd, t18]
      refine hn2 (q + 1) _ _ (by omega) ⟨kpe, ?_, ?_, ?_, ?_, ?_, ?_, ?_, ?_, by omega⟩
      all_goals (first | rfl | (simp (disch := first | omega | (simp only [add_nx, upd_nx] <;> omega) | decide) only [rUz, ↓reduceIte, Nat.reduceEqDiff, Nat.reduceAdd, t2, t7, t11, t13, t14, t15, t16]; done) | (simp (disch := first | omega | (simp only [add_nx, upd_nx] <;> omega) | decide) only [rUz, ↓reduceIte, Nat.reduceEqDiff, Nat.reduceAdd, t2, t7, t11, t13, t14, t15, t16]; rfl))
    have hkS : (od X kk).b = Sd := by rw [beq_iff_eq] at e6; exact e6
    have hbt := betT_vl (o := od X i) hkS
    have full := fun hr => hff a q i kk hia hkz hiS hkS hfi hr
    rcases tr2 (betT (od X kk) (od X i)) with e7 | e7
    · have hfk : decide (fnZ (kk : Int) M < (od X kk).n) = false := decide_eq_false (by
        rw [e7] at hbt
        have := full (.inl (of_decide_eq_true hbt.symm))
        omega)
      simp (disch := first | omega | (simp only [add_nx, upd_nx] <;> omega) | decide) only [rUz, ↓reduceIte, Nat.reduceEqDiff, Nat.reduceAdd, e6, t22, e7, t21, hb21, fieldAddr_ptr frO2 s3, p3, cOd2, hfk]
      repeat refine S.seq ?_
      refine S.cond (v := false) (by first | rfl | (simp (disch := first | omega | (simp only [add_nx, upd_nx] <;> omega) | decide) only [rUz, ↓reduceIte, Nat.reduceEqDiff, Nat.reduceAdd] <;> rfl)) (fun e => by cases e) (fun _ => ?_)
      repeat refine S.seq ?_
      refine S.skip ?_
      simp (disch := first | omega | (simp only [add_nx, upd_nx] <;> omega) | decide) only [rUz, ↓reduceIte, Nat.reduceEqDiff, Nat.reduceAdd]
      repeat refine S.seq ?_
      refine S.region ?_
      simp (disch := first | omega | (simp only [add_nx, upd_nx] <;> omega) | decide) only [rUz, ↓reduceIte, Nat.reduceEqDiff, Nat.reduceAdd, t18]
      refine hn2 (q + 1) _ _ (by omega) ⟨kpe, ?_, ?_, ?_, ?_, ?_, ?_, ?_, ?_, by omega⟩
      all_goals (first | rfl | (simp (disch := first | omega | (simp only [add_nx, upd_nx] <;> omega) | decide) only [rUz, ↓reduceIte, Nat.reduceEqDiff, Nat.reduceAdd, t2, t7, t11, t13, t14, t15, t16]; done) | (simp (disch := first | omega | (simp only [add_nx, upd_nx] <;> omega) | decide) only [rUz, ↓reduceIte, Nat.reduceEqDiff, Nat.reduceAdd, t2, t7, t11, t13, t14, t15, t16]; rfl))
    rcases tr2 (decide ((od X kk).l = (od X i).l)) with e8 | e8
    rotate_left
    · simp (disch := first | omega | (simp only [add_nx, upd_nx] <;> omega) | decide) only [rUz, ↓reduceIte, Nat.reduceEqDiff, Nat.reduceAdd, e6, t22, e7, t20, t21, hb20, hb21, fieldAddr_ptr frO1 s3, p3, cOd1, e8]
      repeat refine S.seq ?_
      refine S.cond (v := false) (by first | rfl | (simp (disch := first | omega | (simp only [add_nx, upd_nx] <;> omega) | decide) only [rUz, ↓reduceIte, Nat.reduceEqDiff, Nat.reduceAdd] <;> rfl)) (fun e => by cases e) (fun _ => ?_)
      repeat refine S.seq ?_
      refine S.skip ?_
      simp (disch := first | omega | (simp only [add_nx, upd_nx] <;> omega) | decide) only [rUz, ↓reduceIte, Nat.reduceEqDiff, Nat.reduceAdd]
      repeat refine S.seq ?_
      refine S.region ?_
      simp (disch := first | omega | (simp only [add_nx, upd_nx] <;> omega) | decide) only [rUz, ↓reduceIte, Nat.reduceEqDiff, Nat.reduceAdd, t18]
      refine hn2 (q + 1) _ _ (by omega) ⟨kpe, ?_, ?_, ?_, ?_, ?_, ?_, ?_, ?_, by omega⟩
      all_goals (first | rfl | (simp (disch := first | omega | (simp only [add_nx, upd_nx] <;> omega) | decide) only [rUz, ↓reduceIte, Nat.reduceEqDiff, Nat.reduceAdd, t2, t7, t11, t13, t14, t15, t16]; done) | (simp (disch := first | omega | (simp only [add_nx, upd_nx] <;> omega) | decide) only [rUz, ↓reduceIte, Nat.reduceEqDiff, Nat.reduceAdd, t2, t7, t11, t13, t14, t15, t16]; rfl))
    rcases tr2 (decide ((q : Int) < (a : Int))) with e9 | e9
    rotate_left
    · simp (disch := first | omega | (simp only [add_nx, upd_nx] <;> omega) | decide) only [rUz, ↓reduceIte, Nat.reduceEqDiff, Nat.reduceAdd, e6, t22, e7, t14, t18, t20, t21, hb20, hb21, fieldAddr_ptr frO1 s3, p3, cOd1, e8, e9]
      repeat refine S.seq ?_
      refine S.cond (v := false) (by first | rfl | (simp (disch := first | omega | (simp only [add_nx, upd_nx] <;> omega) | decide) only [rUz, ↓reduceIte, Nat.reduceEqDiff, Nat.reduceAdd] <;> rfl)) (fun e => by cases e) (fun _ => ?_)
      repeat refine S.seq ?_
      refine S.skip ?_
      simp (disch := first | omega | (simp only [add_nx, upd_nx] <;> omega) | decide) only [rUz, ↓reduceIte, Nat.reduceEqDiff, Nat.reduceAdd]
      repeat refine S.seq ?_
      refine S.region ?_
      simp (disch := first | omega | (simp only [add_nx, upd_nx] <;> omega) | decide) only [rUz, ↓reduceIte, Nat.reduceEqDiff, Nat.reduceAdd, t18]
      refine hn2 (q + 1) _ _ (by omega) ⟨kpe, ?_, ?_, ?_, ?_, ?_, ?_, ?_, ?_, by omega⟩
      all_goals (first | rfl | (simp (disch := first | omega | (simp only [add_nx, upd_nx] <;> omega) | decide) only [rUz, ↓reduceIte, Nat.reduceEqDiff, Nat.reduceAdd, t2, t7, t11, t13, t14, t15, t16]; done) | (simp (disch := first | omega | (simp only [add_nx, upd_nx] <;> omega) | decide) only [rUz, ↓reduceIte, Nat.reduceEqDiff, Nat.reduceAdd, t2, t7, t11, t13, t14, t15, t16]; rfl))
    have hfk : decide (fnZ (kk : Int) M < (od X kk).n) = false := decide_eq_false (by
      have h1 := of_decide_eq_true e9
      have := full (.inr ⟨vl_eq (of_decide_eq_true e8), by omega⟩)
      omega)
    simp (disch := first | omega | (simp only [add_nx, upd_nx] <;> omega) | decide) only [rUz, ↓reduceIte, Nat.reduceEqDiff, Nat.reduceAdd, e6, t22, e7, t14, t18, t20, t21, hb20, hb21, fieldAddr_ptr frO1 s3, fieldAddr_ptr frO2 s3, p3, cOd1, cOd2, e8, e9, hfk]
    repeat refine S.seq ?_
    refine S.cond (v := false) (by first | rfl | (simp (disch := first | omega | (simp only [add_nx, upd_nx] <;> omega) | decide) only [rUz, ↓reduceIte, Nat.reduceEqDiff, Nat.reduceAdd] <;> rfl)) (fun e => by cases e) (fun _ => ?_)
    repeat refine S.seq ?_
    refine S.skip ?_
    simp (disch := first | omega | (simp only [add_nx, upd_nx] <;> omega) | decide) only [rUz, ↓reduceIte, Nat.reduceEqDiff, Nat.reduceAdd]
    repeat refine S.seq ?_
    refine S.region ?_
    simp (disch := first | omega | (simp only [add_nx, upd_nx] <;> omega) | decide) only [rUz, ↓reduceIte, Nat.reduceEqDiff, Nat.reduceAdd, t18]
    refine hn2 (q + 1) _ _ (by omega) ⟨kpe, ?_, ?_, ?_, ?_, ?_, ?_, ?_, ?_, by omega⟩
    all_goals (first | rfl | (simp (disch := first | omega | (simp only [add_nx, upd_nx] <;> omega) | decide) only [rUz, ↓reduceIte, Nat.reduceEqDiff, Nat.reduceAdd, t2, t7, t11, t13, t14, t15, t16]; done) | (simp (disch := first | omega | (simp only [add_nx, upd_nx] <;> omega) | decide) only [rUz, ↓reduceIte, Nat.reduceEqDiff, Nat.reduceAdd, t2, t7, t11, t13, t14, t15, t16]; rfl))
  refine S.exit (he _ _ _ _ (fun e => by cases e) ?_)
  simp (disch := first | omega | (simp only [add_nx, upd_nx] <;> omega) | decide) only [rUz, ↓reduceIte, Nat.reduceEqDiff, Nat.reduceAdd]
  repeat refine S.seq ?_
  refine S.region ?_
  simp (disch := first | omega | (simp only [add_nx, upd_nx] <;> omega) | decide) only [rUz, ↓reduceIte, Nat.reduceEqDiff, Nat.reduceAdd]
  refine awake ?_
  simp (disch := first | omega | (simp only [add_nx, upd_nx] <;> omega) | decide) only [rUz, ↓reduceIte, Nat.reduceEqDiff, Nat.reduceAdd]
  refine S.ret ?_
  try simp only [seqK_ret, blockK_ret]
  subst hF
  simp only [finish, endMarks]
  rw [show Tryz.f8.results.toList = [.tmp 6] from rfl]
  simp (disch := first | omega | (simp only [add_nx, upd_nx] <;> omega) | decide) only [resA, ev_tmp, tget_ne, tget_eq, get_ne, get_eq, upd_eq, upd_ne, ag_eq, ag_ne, result1]
  exact hKr _ (kp.trans kpa)
end Go.Proofs.Po
