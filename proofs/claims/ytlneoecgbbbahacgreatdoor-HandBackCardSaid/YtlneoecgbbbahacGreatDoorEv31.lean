/- Variables that the world holds whole: rows that read them. -/
import Derived.Test.YtlneoecgbbbahacGreatDoorEv28
namespace Go.Ev
open Go.RowKit

/-- Variables, each with its cells. -/
abbrev Tabs := List (Nat × List Value)

def TabsIn (P : Program) (tb : Tabs) (w : World) : Prop :=
  P.globals.size ≤ w.heap.size ∧ ∀ p, p ∈ tb → ∃ t fr, w.heap[p.1]? = some (.cells p.2.toArray t fr)

def tabT : Tabs → T AObj
  | [] => .leaf
  | p :: l => T.set (p.1 + 1) (tabT l) p.1 (.tab p.2)

theorem tabT_get : ∀ (tb : Tabs) (k : Nat) (o : AObj), (tabT tb).get k = some o → ∃ c, o = .tab c ∧ (k, c) ∈ tb
  | [], k, o, e => by simp [tabT, T.get_leaf] at e
  | p :: l, k, o, e => by
    simp only [tabT, T.get_set _ _ _ _ _ (Nat.lt_succ_self _)] at e
    split at e
    · rename_i hk
      cases e
      subst hk
      exact ⟨p.2, rfl, by simp⟩
    · obtain ⟨c, h1, h2⟩ := tabT_get l k o e
      exact ⟨c, h1, by simp [h2]⟩

def tabH (P : Program) (tb : Tabs) : AHeap := ⟨tabT tb, P.globals.size, .leaf⟩

theorem wr_tabs {P : Program} {tb : Tabs} {w : World} (hw : TabsIn P tb w) (hg : ∀ p, p ∈ tb → p.1 < P.globals.size) :
    WR P ⟨fun g => if g < P.globals.size then some (g, 0) else none, fun _ => none⟩ w (tabH P tb) w where
  obj := fun b o e => by
    obtain ⟨c, rfl, hm⟩ := tabT_get tb b o e
    have hb : b < P.globals.size := hg _ hm
    refine ⟨b, 0, by simp [hb], hw.2 _ hm, (fun hr => by cases hr), fun _ => Nat.lt_of_lt_of_le hb hw.1⟩
  fresh := fun b hb => by
    have hb' : P.globals.size ≤ b := hb
    refine ⟨by simp; omega, ?_⟩
    cases hq : (tabH P tb).bl.get b with
    | none => rfl
    | some o =>
      obtain ⟨c, _, hm⟩ := tabT_get tb b o hq
      have : b < P.globals.size := hg _ hm
      omega
  spn := fun _ _ => rfl
  spf := fun _ _ _ _ _ => rfl
  spr := fun b B d z E _ h => by cases h
  dom := fun b B d h => by
    have h1 := hw.1
    simp only at h
    split at h
    · cases h; omega
    · cases h
  apart := fun b₁ b₂ o₁ o₂ B d₁ d₂ h1 h2 _ _ _ => by
    obtain ⟨c1, rfl, _⟩ := tabT_get tb b₁ o₁ h1
    obtain ⟨c2, rfl, _⟩ := tabT_get tb b₂ o₂ h2
    exact .inl ⟨rfl, rfl⟩
  kin := fun b c f h => by
    obtain ⟨c1, h1, _⟩ := tabT_get tb b _ h
    cases h1
  fam := fun b c f ro h => by
    obtain ⟨c1, h1, _⟩ := tabT_get tb b _ h
    cases h1
  below := Below.refl _ _
  glob := fun g hg => by simp [hg]

theorem calls_tabs {P : Program} {tb : Tabs} (hg : ∀ p, p ∈ tb → p.1 < P.globals.size) {f : FuncId} {fn : Func} {c : Code} (hf : P.funcs[f]? = some fn) (hb : fn.body = some c) (hname : (fn.name == "runtime.NumGoroutine") = false) {args : List Value} (hp : plainL args = true)
    (hlen : Nat.ble args.length fn.ntmps = true) {v : Value} (hplain : plainB v = true)
    (e : exA P fn.ntmps none c (argsT args) (tabH P tb) [] (finish P fn fun u _ => @decide (u = v) (Classical.propDecidable _)) = true) {w : World} (hw : TabsIn P tb w) :
    Calls P f args.toArray w fun e w' => e = .returned v ∧ Below w.heap.size w w' := by
  have e2 : callBody (exA P) P fn c args (tabH P tb) (fun u _ => @decide (u = v) (Classical.propDecidable _)) = true := by
    unfold callBody
    rw [hname, cond_false, hlen, cond_true, setArgs_id]
    exact e
  obtain ⟨_, k⟩ := callBody_sound (rd := none) (nn := 0) (exA_sound P) hf hb (wr_tabs hw hg) (plainL_rel _ _ hp) e2 (R := fun v' w' => v' = v ∧ Below w.heap.size w w') (fun m' u v' h' w' hle hv hW hK => by
    have hP := @of_decide_eq_true _ (Classical.propDecidable _) hK
    subst hP
    exact ⟨(plain_eq _ _ hplain hv).symm, hW.below⟩)
  have k2 : CallsIn Fence.wide 0 P f args.toArray w _ := k
  refine (callsIn_wide.1 k2).mono fun e w' he => ?_
  cases e with
  | returned u => exact ⟨by rw [he.1], he.2⟩
  | panicked _ => exact he.elim
  | outgrown => exact he.elim

/-- What a call returns in every world that holds these variables. -/
def RowT (P : Program) (tb : Tabs) (g : FuncId) (l : List Value) (v : Value) : Prop :=
  plainL l = true ∧ plainB v = true ∧ (∃ fn c, P.funcs[g]? = some fn ∧ fn.body = some c ∧ (fn.name == "runtime.NumGoroutine") = false) ∧
    ∀ w : World, TabsIn P tb w → Calls P g l.toArray w fun e w' => e = .returned v ∧ Below w.heap.size w w'

theorem rowT_of {P : Program} (hmix : P.follows .mixedOrders = true) {pr : Prim} (hp : PrimSound P pr) {tb : Tabs} (hg : ∀ p, p ∈ tb → p.1 < P.globals.size) {g : FuncId} {fn : Func} {c : Code} (hf : P.funcs[g]? = some fn) (hb : fn.body = some c) (hname : (fn.name == "runtime.NumGoroutine") = false)
    {args : List Value} {v : Value} (hpl : plainL args = true) (hlen : Nat.ble args.length fn.ntmps = true) (hv : plainB v = true)
    (run : ∀ R : ExT, Ev.Steps P pr R → ∀ K : KV, (∀ h, K v h = true) → R fn.ntmps none c (argsT args) (tabH P tb) [] (finish P fn K) = true) : RowT P tb g args v :=
  ⟨hpl, hv, ⟨fn, c, hf, hb, hname⟩, fun _ hw => calls_tabs hg hf hb hname hpl hlen hv (run (exA P) (steps_exA hmix hp) _ fun _ => @decide_eq_true _ (Classical.propDecidable _) rfl) hw⟩

theorem RowT.prim {P : Program} {tb : Tabs} {g : FuncId} {l : List Value} {v : Value} (k : RowT P tb g l v) (hg : ∀ p, p ∈ tb → p.1 < P.globals.size) (h : AHeap) (hh : ∀ p, p ∈ tb → h.bl.get p.1 = some (.tab p.2)) :
    plainB v = true ∧ (∃ fn c, P.funcs[g]? = some fn ∧ fn.body = some c ∧ (fn.name == "runtime.NumGoroutine") = false) ∧
    ∀ (m : M) (w0 w : World) (l' : List Value), WR P m w0 h w → LR m l l' → Calls P g l'.toArray w fun e w' => e = .returned v ∧ Below w.heap.size w w' := by
  obtain ⟨k1, k2, k3, k4⟩ := k
  refine ⟨k2, k3, fun m w0 w l' hW hl => ?_⟩
  have := plainL_eq _ _ k1 hl
  subst this
  refine k4 w ⟨wr_globals hW, fun p hp => ?_⟩
  obtain ⟨B, d, e1, e2, _⟩ := hW.obj _ _ (hh p hp)
  rw [hW.glob _ (hg p hp)] at e1
  cases e1
  exact e2

theorem RowOk.tabs {P : Program} {g : FuncId} {l : List Value} {v : Value} (k : RowOk P g l v) (tb : Tabs) : RowT P tb g l v :=
  ⟨k.1, k.2.1, k.2.2.1, fun w hw => k.2.2.2 w hw.1⟩

/-! ## Strings -/
section
variable {P : Program} {t : T Value} {h : AHeap} {call : CallT} {ops : Array Oper} {n : Nat} {rest : List Oper} {KR : T Value → AHeap → Bool} {dst : Option Tmp} {a a' ty : TypeId} {x y : Operand} {pos : String} {af : Array Edge} {g : Option (Nat × Bool)}

theorem len_str {s : ByteArray} {o : Oper} (hs : isStrTy P a = true) : rLen P t h o a (.string s) = some (.int .i64 ((s.data.toList.length : Nat) : Int)) := by
  rcases s with ⟨⟨l⟩⟩
  simp only [rLen, hs, cond_true]; rfl

/-- A new row whose capacity nobody knows. -/
def AHeap.addN (h : AHeap) (c : List Value) : AHeap := ⟨T.set (h.nx + 2) h.bl (h.nx + 1) (.cells c h.nx false), h.nx + 2, T.set (h.nx + 2) (T.set (h.nx + 1) h.fams h.nx [h.nx + 1]) (h.nx + 1) [1]⟩
theorem addN_nx (c : List Value) : (h.addN c).nx = h.nx + 2 := (rfl)
theorem addN_get (c : List Value) {B : Nat} : (h.addN c).bl.get B = if B = h.nx + 1 then some (.cells c h.nx false) else h.bl.get B := T.get_set _ _ _ _ _ (Nat.lt_succ_self _)

theorem rd_conv : aread P t h ⟨dst, .convert a a' x, ty, pos, af, g⟩ = rConv P t h ⟨dst, .convert a a' x, ty, pos, af, g⟩ a a' (ev P t x) := (rfl)
theorem w_dig (hd : isDig P a a' = true) : isW P (.convert a a' x) = true := hd
theorem wr_dig {s : ByteArray} {e : TypeId} (hx : ev P t x = .string s) (h1 : slOf P a' = some e) (h2 : isStrTy P a = true) (h3 : isU8 P e = true) (h4 : s.size < bigNat)
    (k : putR P call ops n rest dst t (.slice (some ⟨h.nx + 1, 0, none⟩) s.size s.size) (h.addN (s.data.toList.map fun b => .int .u8 (b.toNat : Int))) KR = true) :
    wrR P call ops n rest (.convert a a' x) dst t h KR = true := by
  have h5 : Nat.blt s.size bigNat = true := by rw [Nat.blt_eq]; exact h4
  simp only [wrR, awrite, wDig, hx, h1, h2, h3, h5, Bool.and_self, cond_true, growN, fSpine_eq, fNat_eq, T.setK_eq]
  exact k

theorem add_strs {x y : ByteArray} {b : TypeId} (hty : nilEqT P a (.string x) (.string y) = none) (hl : ((x.size + y.size : Nat) : Int) ≤ 9223372036854775807) :
    aread P .leaf ⟨.leaf, 0, .leaf⟩ ⟨none, .binOp .add a (.const (.string x)) (.const (.string y)) b, 0, "", #[], none⟩ = some (.string (x ++ y)) := by
  show rBin2 P .leaf _ .add (nilEqT P a (.string x) (.string y)) = _
  rw [hty]
  show ground P .leaf _ = _
  have hn : ¬ ((x.size + y.size : Nat) : Int) > IntKind.i64.max := by
    have : IntKind.i64.max = 9223372036854775807 := by decide
    omega
  have e : pureOf P (execOp (ev P .leaf) ⟨none, .binOp .add a (.const (.string x)) (.const (.string y)) b, 0, "", #[], none⟩) = some (.value (.string (x ++ y))) := by
    show pureOf P ((do eqGuard .add a (.const (.string x)) (.const (.string y)) (.string x) (.string y); binOp .add a (.string x) (.string y)) >>= fun r => pure (Next.value r)) = _
    simp only [eqGuard, binOp, Op.stringOp, if_neg hn]
    rfl
  show (match pureOf P (execOp (ev P .leaf) ⟨none, .binOp .add a (.const (.string x)) (.const (.string y)) b, 0, "", #[], none⟩) with | some (.value v) => bif plainB v then some v else none | _ => none) = _
  rw [e]
  rfl

theorem addN_fget (c : List Value) {B : Nat} : (h.addN c).fams.get B = if B = h.nx + 1 then some [1] else if B = h.nx then some [h.nx + 1] else h.fams.get B := by
  show (T.set (h.nx + 2) (T.set (h.nx + 1) h.fams h.nx [h.nx + 1]) (h.nx + 1) [1]).get B = _
  rw [T.get_set _ _ _ _ _ (Nat.lt_succ_self _), T.get_set _ _ _ _ _ (Nat.lt_succ_self _)]

theorem rd_index : aread P t h ⟨dst, .index a x y, ty, pos, af, g⟩ = rIndex P t ⟨dst, .index a x y, ty, pos, af, g⟩ a (ev P t y) (ev P t x) := (rfl)
theorem index_str {o : Oper} {l : List UInt8} {i : Nat} {b : UInt8} {kd : IntKind} (hs : isStrTy P a = true) (hb : l[i]? = some b) : rIndex P t o a (.int kd (i : Int)) (.string ⟨⟨l⟩⟩) = some (.int .u8 (b.toNat : Int)) := by
  show rIndexStr P a l (.int kd (.ofNat i)) = _
  simp only [rIndexStr, hs, cond_true, hb]; rfl
theorem index_str0 {o : Oper} {l : List UInt8} {b : UInt8} {kd : IntKind} (hs : isStrTy P a = true) (hb : l[0]? = some b) : rIndex P t o a (.int kd 0) (.string ⟨⟨l⟩⟩) = some (.int .u8 (b.toNat : Int)) := index_str (i := 0) hs hb
end

theorem plainL_cons1 (a : Value) (l : List Value) (ha : plainB a = true) (hl : plainL l = true) : plainL (a :: l) = true := by simp only [plainL, ha, hl]; rfl
theorem plainL_one (a : Value) (ha : plainB a = true) : plainL [a] = true := plainL_cons1 a [] ha rfl
theorem plainL_i64s : ∀ l : List Int, plainL (l.map (.int .i64)) = true
  | [] => rfl
  | _ :: l => plainL_cons1 _ _ rfl (plainL_i64s l)
theorem oneL_i64s : ∀ l : List Int, oneL (l.map (.int .i64)) = true
  | [] => rfl
  | b :: l => by simp only [List.map_cons, oneL, oneL_i64s l]; rfl
theorem plain_ints (l : List Int) : plainB (.agg ⟨l.map (.int .i64)⟩) = true := by
  simp only [plainB, plainA, oneA, plainL_i64s, oneL_i64s]; rfl
end Go.Ev
