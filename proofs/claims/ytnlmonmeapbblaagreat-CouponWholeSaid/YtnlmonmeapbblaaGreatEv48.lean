import Derived.Test.YtnlmonmeapbblaaGreatEv47
/- Maps whose keys and values are pairs of integers. -/
namespace Go.Ev
open Go.RowKit
def AHeap.setm (h : AHeap) (r : Nat) (o : AObj) : AHeap := ⟨T.set (r + 1) h.bl r o, h.nx, h.fams⟩
theorem setm_nx {h : AHeap} {r : Nat} {o : AObj} : (AHeap.setm h r o).nx = h.nx := rfl
theorem setm_eq {h : AHeap} {r : Nat} {o : AObj} : (AHeap.setm h r o).bl.get r = some o := get_eq (Nat.lt_succ_self _)
theorem setm_ne {h : AHeap} {r : Nat} {o : AObj} {B : Nat} (e : B ≠ r) : (AHeap.setm h r o).bl.get B = h.bl.get B := get_ne (Nat.lt_succ_self _) e
theorem setm_fams {h : AHeap} {r : Nat} {o : AObj} {B : Nat} : (AHeap.setm h r o).fams.get B = h.fams.get B := rfl
theorem Fr.setm {H h : AHeap} {r : Nat} {o : AObj} (a : Fr H r h) : Fr H r (AHeap.setm h r o) :=
  ⟨a.le, fun j hj hn => by rw [setm_ne hn]; exact a.bl j hj hn, fun j hj => by rw [setm_fams]; exact a.fam j hj⟩
theorem setMap_eq (h : AHeap) (r clock : Nat) (es : List MapEntry) (K : AHeap → Bool) : setMap h r clock es K = K (AHeap.setm h r (.map es clock)) := by
  simp only [setMap, fSpine_eq, setO, T.setK_eq, AHeap.setm]

abbrev II := Int × Int
abbrev FL := List (II × II)
def pv (p : II) : List Value := [iv p.1, iv p.2]
def eqII (p q : II) : Bool := decide (p.1 = q.1) && decide (p.2 = q.2)
theorem eqII_iff {p q : II} : eqII p q = true ↔ p = q := by
  unfold eqII
  simp only [Bool.and_eq_true, decide_eq_true_eq]
  exact ⟨fun h => Prod.ext h.1 h.2, fun h => by rw [h]; exact ⟨rfl, rfl⟩⟩
def mkF : FL → Nat → List MapEntry
  | [], _ => []
  | e :: r, i => ⟨.agg ⟨pv e.1⟩, .agg ⟨pv e.2⟩, i⟩ :: mkF r (i + 1)
def lkF : FL → II → Nat → Option (Nat × II)
  | [], _, _ => none
  | e :: r, p, j => bif eqII p e.1 then some (j, e.2) else lkF r p (j + 1)
theorem eqInts_pv (p q : II) : eqInts (pv p) (pv q) = some (eqII p q) := by
  unfold eqII
  simp only [pv, eqInts, beqKind, cond_true, beqI_eq]
  by_cases h1 : p.1 = q.1 <;> by_cases h2 : p.2 = q.2 <;> simp [h1, h2]
theorem findI_mkF (p : II) : ∀ (L : FL) (i j : Nat), findI (pv p) (mkF L i) j = some ((lkF L p j).map fun x => (x.1, .agg ⟨pv x.2⟩))
  | [], i, j => rfl
  | e :: r, i, j => by
    simp only [mkF, findI, eqInts_pv, lkF]
    cases hq : eqII p e.1 with
    | true => rfl
    | false =>
      simp only [cond_false, fNat_eq]
      exact findI_mkF p r (i + 1) (Nat.succ j)
theorem lkF_mem {p : II} : ∀ {L : FL} {j : Nat} {x : Nat × II}, lkF L p j = some x → (p, x.2) ∈ L
  | [], _, _, h => by cases h
  | e :: r, j, x, h => by
    simp only [lkF] at h
    cases hq : eqII p e.1 with
    | true =>
      rw [hq, cond_true] at h
      cases h
      rw [eqII_iff.1 hq]; simp
    | false =>
      rw [hq, cond_false] at h
      exact List.mem_cons_of_mem _ (lkF_mem h)
theorem mkF_append : ∀ (L : FL) (p f : II) (i : Nat), mkF L i ++ [⟨.agg ⟨pv p⟩, .agg ⟨pv f⟩, i + L.length⟩] = mkF (L ++ [(p, f)]) i
  | [], p, f, i => rfl
  | e :: r, p, f, i => by
    simp only [mkF, List.cons_append, List.length_cons]
    rw [← mkF_append r p f (i + 1), show i + 1 + r.length = i + (r.length + 1) from by omega]
section
variable {P : Program} {mt kt vt : TypeId}
theorem findK_F (hk : intKey P kt = some 2) (empty : Bool) (L : FL) (p : II) : findK P empty kt (.agg ⟨pv p⟩) (mkF L 0) = some ((lkF L p 0).map fun x => (x.1, .agg ⟨pv x.2⟩)) := by
  have h1 : plainB (.agg ⟨pv p⟩) = true := rfl
  simp only [findK, h1, cond_true, hk, findKeyF1]
  have h2 : Nat.beq (pv p).length 2 = true := rfl
  simp only [h2, cond_true, findI_mkF, findKeyF2]
def lkT (z : Value) : Option (Nat × II) → Value
  | some x => .tuple #[.agg ⟨pv x.2⟩, .bool true]
  | none => .tuple #[z, .bool false]
theorem lookup_F {t : T Value} {h : AHeap} {o : Oper} {r n : Nat} {L : FL} {p : II} {z : Value} (hm : mapOf P mt = some (kt, vt)) (hk : intKey P kt = some 2) (hz : zeroOf P vt = some z) (hg : h.bl.get r = some (.map (mkF L 0) n)) :
    rLookup P t h o mt (.agg ⟨pv p⟩) true (.map (some r)) = some (lkT z (lkF L p 0)) := by
  simp only [rLookup, hm, entriesOf, hg, findK_F hk, hz]
  cases lkF L p 0 with
  | some x => rfl
  | none => rfl
theorem update_F {h : AHeap} {r : Nat} {L : FL} {p f : II} (hm : mapOf P mt = some (kt, vt)) (hk : intKey P kt = some 2) (hg : h.bl.get r = some (.map (mkF L 0) L.length)) (hn : lkF L p 0 = none) (K : KV) :
    wMapUpdate P h mt (.agg ⟨pv p⟩) (.agg ⟨pv f⟩) K (.map (some r)) = K undef (AHeap.setm h r (.map (mkF (L ++ [(p, f)]) 0) (L ++ [(p, f)]).length)) := by
  have ho : okV (.agg ⟨pv f⟩) = true := rfl
  have ha := mkF_append L p f 0
  rw [Nat.zero_add] at ha
  simp only [wMapUpdate, hm, entriesOf, hg, ho, cond_true, findK_F hk, hn, Option.map_none, wMapUpdate1, fNat_eq, setMap_eq, ha]
  rw [List.length_append]
  rfl
end
theorem aw_alloc {P : Program} {call : CallT} {t : T Value} {h : AHeap} {dst : Option Tmp} {ty a : TypeId} {ps : String} {af : Array Edge} {g : Option (Nat × Bool)} {z : Value} (hz : zeroOf P a = some z) (K : KV) : awrite P call t h ⟨dst, .alloc a, ty, ps, af, g⟩ K = K (.pointer (some ⟨h.nx, 0, none⟩)) (h.add z.cells.toList) := by
  simp only [awrite, wAlloc, hz, newC_add, ptrK]
theorem rd_lookup {P : Program} {t : T Value} {h : AHeap} {dst : Option Tmp} {ty a : TypeId} {pos : String} {af : Array Edge} {g : Option (Nat × Bool)} {x y : Operand} {ok : Bool} : aread P t h ⟨dst, .lookup a x y ok, ty, pos, af, g⟩ = rLookup P t h ⟨dst, .lookup a x y ok, ty, pos, af, g⟩ a (ev P t y) ok (ev P t x) := (rfl)
theorem w_lookup {P : Program} {a : TypeId} {x y : Operand} {ok : Bool} : isW P (.lookup a x y ok) = false := (rfl)
theorem aw_mapUpdate {P : Program} {call : CallT} {t : T Value} {h : AHeap} {dst : Option Tmp} {ty a : TypeId} {ps : String} {af : Array Edge} {g : Option (Nat × Bool)} {x y z : Operand} {K : KV} : awrite P call t h ⟨dst, .mapUpdate a x y z, ty, ps, af, g⟩ K = wMapUpdate P h a (ev P t y) (ev P t z) K (ev P t x) := (rfl)
theorem wr_mkmap {P : Program} {call : CallT} {ops : Array Oper} {n : Nat} {rest : List Oper} {t : T Value} {h : AHeap} {KR : T Value → AHeap → Bool} {dst : Option Tmp} {a : TypeId} :
    wrR P call ops n rest (.makeMap a none) dst t h KR = putR P call ops n rest dst t (.map (some h.nx)) ⟨T.set (h.nx + 1) h.bl h.nx (.map [] 0), h.nx + 1, h.fams⟩ KR := by
  simp only [wrR, awrite, wMakeMap, newO, fNat_eq, T.setK_eq]
section
variable {h h' : AHeap} {r : Nat} {v : Value} {es : List MapEntry} {n : Nat}
theorem IAt.frm {l : List Int} (k : IAt h v l) (a : Fr h r h') (hm : h.bl.get r = some (.map es n)) : IAt h' v l := by
  rcases k with k | ⟨b, c, f, ro, k1, k2, k3⟩
  · exact .inl k
  · have hb : b ≠ r := fun e => by rw [e, hm] at k3; cases k3
    exact .inr ⟨b, c, f, ro, k1, Nat.lt_of_lt_of_le k2 a.le, (a.bl b k2 hb).trans k3⟩
theorem SlAt.frm {sz : Nat} {cs : List (List Value)} (k : SlAt h sz v cs) (a : Fr h r h') (hm : h.bl.get r = some (.map es n)) : SlAt h' sz v cs := by
  rcases k with k | ⟨b, c, f, ro, k1, k2, k3, k4, k5⟩
  · exact .inl k
  · have hb : b ≠ r := fun e => by rw [e, hm] at k4; cases k4
    exact .inr ⟨b, c, f, ro, k1, k2, Nat.lt_of_lt_of_le k3 a.le, (a.bl b k3 hb).trans k4, k5⟩
end
end Go.Ev
