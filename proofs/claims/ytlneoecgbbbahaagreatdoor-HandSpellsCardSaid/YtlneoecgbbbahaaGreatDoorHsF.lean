import Derived.Test.YtlneoecgbbbahaaGreatDoorHsE
import Derived.Test.YtlneoecgbbbahaaGreatDoorHbA
namespace Go.Proofs.Hs
open Go Go.Ev Go.RowKit
set_option linter.unusedSimpArgs false

/-! ## The table -/
theorem awake_row : RowOk Tryz.prog 5 [] (.bool true) :=
  ⟨rfl, rfl, ⟨Tryz.f5, (Tryz.f5.body).getD .skip, by kernel_rfl, rfl, by kernel_rfl⟩, fun w hw =>
    truly_sound (P := Tryz.prog) hmixT Tryz.func5 (by kernel_rfl) (fuel := 1000) (by rw [show Tryz.prog.globals.size = 4 from by kernel_rfl, ← trulyC_eq]; exact run_awake) hw⟩

def primV : Prim := ext 6 (fun l h => match l with | [.string s] => (match tabsOf h with | some _ => bif Nat.ble s.size 1000 then some (valV (valL s.data.toList)) else none | none => none) | _ => none) noPrim
theorem primV_sound : PrimSound Tryz.prog primV := by
  refine ext_sound (noPrim_sound _) fun l h v e => ?_
  split at e
  · rename_i s
    split at e
    · rename_i m hm
      cases hb : Nat.ble s.size 1000 with
      | false => rw [hb] at e; cases e
      | true =>
        rw [hb, cond_true] at e
        cases e
        exact (value_row m s (Nat.le_of_ble_eq_true hb)).prim (tbs_lt m) h (tabsOf_eq hm)
    · cases e
  · cases e
def primS : Prim := ext 7 (fun l h => match l with | [.int .i64 v] => (match tabsOf h with | some _ => bif intB v then some (spV v) else none | none => none) | _ => none) primV
theorem primS_sound : PrimSound Tryz.prog primS := by
  refine ext_sound primV_sound fun l h v e => ?_
  split at e
  · rename_i n
    split at e
    · rename_i m hm
      cases hb : intB n with
      | false => rw [hb] at e; cases e
      | true =>
        rw [hb, cond_true] at e
        simp only [intB, leI_eq, Bool.and_eq_true, decide_eq_true_eq] at hb
        cases e
        exact (spell_row m n hb.1 hb.2).prim (tbs_lt m) h (tabsOf_eq hm)
    · cases e
  · cases e
def primL : Prim := ext 5 (fun l _ => match l with | [] => some (.bool true) | _ => none) primS
theorem primL_sound : PrimSound Tryz.prog primL := by
  refine ext_sound primS_sound fun l h v e => ?_
  split at e
  · cases e
    exact awake_row.prim h
  · cases e
theorem offL : Off primL := by
  intro g l h hg
  unfold offB at hg
  simp only [Bool.not_eq_true', Bool.or_eq_false_iff] at hg
  simp only [primL, primS, primV, ext, hg.1, hg.2.1, hg.2.2, cond_false, noPrim]
theorem primL_value {h : AHeap} {m : Int} {s : List UInt8} (hs : s.length ≤ 9) (h0 : h.bl.get 0 = some (.tab pow10V)) (h1 : h.bl.get 1 = some (.tab [.int .i64 m])) :
    primL 6 [.string ⟨⟨s⟩⟩] h = some (.tuple #[.int .i64 (valL s).1, .int .i64 (valL s).2]) := by
  show (match tabsOf h with | some _ => bif Nat.ble (⟨⟨s⟩⟩ : ByteArray).size 1000 then some (valV (valL s)) else none | none => none) = _
  rw [tabsOf_some h0 h1]
  have : Nat.ble (⟨⟨s⟩⟩ : ByteArray).size 1000 = true := Nat.ble_eq_true_of_le (by show s.length ≤ 1000; omega)
  simp only [this, cond_true]
  rfl
theorem primL_spell {h : AHeap} {m : Int} {v : Int} (h2 : -9223372036854775808 ≤ v) (h3 : v ≤ 9223372036854775807) (h0 : h.bl.get 0 = some (.tab pow10V)) (h1 : h.bl.get 1 = some (.tab [.int .i64 m])) :
    primL 7 [.int .i64 v] h = some (spV v) := by
  have hb : intB v = true := by
    simp only [intB, leI_eq, Bool.and_eq_true, decide_eq_true_eq]; omega
  show (match tabsOf h with | some _ => bif intB v then some (spV v) else none | none => none) = _
  rw [tabsOf_some h0 h1]
  simp only [hb, cond_true]

/-! ## Regions in which a read comes before a write that is ahead of it -/
section
variable {P : Program} {pr : Prim} {R : ExT} {n f : Nat} {l todo rest : List Info} {a : Info} {ops : Array Oper} {done i m : Nat} {hist : List Seen} {t : T Value} {h : AHeap} {KR : T Value → AHeap → Bool} {dst : Option Tmp} {ty : TypeId} {ps : String} {af : Array Edge} {g : Option (Nat × Bool)} {d : Tmp} {call : CallT}
theorem draw_pick (hp : pickR done todo = some (a, rest)) : drawGo P call ops n 0 [] (f + 1) todo done hist t h KR = drR (wantA t ops a.o.guard) (aread P t h a.o) P call ops n f rest done a.i a.o hist t h KR := by
  simp only [drawGo, hp, drR, fV1_eq, fNat_eq]
  cases wantA t ops a.o.guard with
  | none => rfl
  | some b =>
    cases b with
    | false => rfl
    | true => cases aread P t h a.o <;> rfl
theorem draw_pick' (hp : pickR done todo = some (a, rest)) (k : drR (wantA t ops a.o.guard) (aread P t h a.o) P call ops n f rest done a.i a.o hist t h KR = true) : drawGo P call ops n 0 [] (f + 1) todo done hist t h KR = true := by rw [draw_pick hp]; exact k
theorem drW_brings {fo : Operand} {xs : Array Operand} {ts : Array TypeId} {fid : FuncId} {first captured : Array Value} {Post : Value → AHeap → Prop} (hf : ev P t fo = .func (.func fid) first captured)
    (hp : pr fid (first.toList ++ evL P t xs.toList ++ captured.toList) h = none) (hy : Brings P R fid (first.toList ++ evL P t xs.toList ++ captured.toList) h Post) (hd : d < n)
    (k : ∀ v h', Kp h h' → Post v h' → again P h' m hist = true ∧ drawGo P (withPrim pr (callVal P R)) ops n 0 [] f l (Nat.lor done (Nat.pow 2 i)) hist (T.set (d + 1) t d v) h' KR = true) :
    drW (some true) P (withPrim pr (callVal P R)) ops n f l done i m ⟨some d, .call ⟨.value fo, xs, ts⟩, ty, ps, af, g⟩ hist t h KR = true := by
  have hb : Nat.blt d n = true := by rw [Nat.blt_eq]; exact hd
  simp only [drW, awrite, wCall, hf, withPrim, hp, callVal]
  refine hy _ fun v h' hk hP => ?_
  obtain ⟨k1, k2⟩ := k v h' hk hP
  simp only [k1, cond_true, putK, hb, fV1_eq, T.setK_eq]
  exact k2
end
theorem veq_hand {h : AHeap} {cv : Value} {cl : List Prs} (hc : ClAt h cv cl) (er : Int) : veq (.agg ⟨[cv, .int .i64 er]⟩) (.agg ⟨[cv, .int .i64 er]⟩) = true := by
  have h1 : veq cv cv = true := by
    obtain ⟨vs, k, _⟩ := hc
    rcases k with ⟨_, rfl | rfl⟩ | ⟨b, cap, f, ro, _, rfl, _⟩
    · simp only [veq]
    · simp only [emptyS, veq]
    · simp only [veq, Nat.beq_refl, Bool.and_self]
  simp only [veq, veqA, veqL, h1, beqKind, beqI_eq, decide_true, Bool.and_self]
theorem spell_text (m e : Nat) (hm : m ≤ 9999) (he : e < 8) : spellL ((8 * m + e : Nat) : Int) = Lib.decDigits m ++ (if e = 0 then [] else [47, B e]) := by
  obtain ⟨l, hl⟩ := whole_of m (by omega)
  have := spell_textOf hl e he
  rw [show ((8 * m + e : Nat) : Int) = 8 * (m : Int) + e from by omega, this, hl.dec]
  rfl
end Go.Proofs.Hs
