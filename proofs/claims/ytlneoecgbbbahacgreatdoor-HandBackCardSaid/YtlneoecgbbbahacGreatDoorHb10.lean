import Derived.Test.YtlneoecgbbbahacGreatDoorHb8
import Derived.Test.YtlneoecgbbbahacGreatDoorHb9
import Derived.Test.YtlneoecgbbbahacGreatDoorHbA
namespace Go.Proofs
open Go Go.Ev Go.RowKit
set_option linter.unusedSimpArgs false

theorem awake_row : RowOk Tryz.prog 4 [] (.bool true) :=
  ⟨rfl, rfl, ⟨Tryz.f4, (Tryz.f4.body).getD .skip, by kernel_rfl, rfl, by kernel_rfl⟩, fun w hw =>
    truly_sound (P := Tryz.prog) hmixT Tryz.func4 (by kernel_rfl) (fuel := 1000) (by rw [show Tryz.prog.globals.size = 4 from by kernel_rfl, ← trulyC_eq]; exact run_awake) hw⟩

def primS : Prim := ext 5 (fun l h => match l with | [.int .i64 v] => (match tabsOf h with | some _ => bif intB v then some (spV v) else none | none => none) | _ => none) primD
theorem primS_sound : PrimSound Tryz.prog primS := by
  refine ext_sound primD_sound fun l h v e => ?_
  split at e
  · rename_i n
    split at e
    · rename_i m hm
      cases hb : intB n with
      | false => rw [hb] at e; cases e
      | true =>
        rw [hb, cond_true] at e
        simp only [intB, leI_eq, Bool.and_eq_true, decide_eq_true_eq] at hb
        cases e
        exact (spell_row m n hb.1 hb.2).prim (tbs_lt m) h (tabsOf_eq hm)
    · cases e
  · cases e
def primE : Prim := ext 4 (fun l _ => match l with | [] => some (.bool true) | _ => none) primS
theorem primE_sound : PrimSound Tryz.prog primE := by
  refine ext_sound primS_sound fun l h v e => ?_
  split at e
  · cases e
    exact awake_row.prim h
  · cases e

theorem primE_value {h : AHeap} {m : Int} {s : ByteArray} (hs : s.size ≤ 1000) (h0 : h.bl.get 0 = some (.tab pow10V)) (h1 : h.bl.get 1 = some (.tab [.int .i64 m])) :
    primE 7 [.string s] h = some (valV (valL s.data.toList)) := by
  show (match tabsOf h with | some _ => bif Nat.ble s.size 1000 then some (valV (valL s.data.toList)) else none | none => none) = _
  rw [tabsOf_some h0 h1]
  simp only [Nat.ble_eq_true_of_le hs, cond_true]
theorem primE_spell {h : AHeap} {m : Int} {v : Int} (h2 : -9223372036854775808 ≤ v) (h3 : v ≤ 9223372036854775807) (h0 : h.bl.get 0 = some (.tab pow10V)) (h1 : h.bl.get 1 = some (.tab [.int .i64 m])) :
    primE 5 [.int .i64 v] h = some (spV v) := by
  have hb : intB v = true := by
    simp only [intB, leI_eq, Bool.and_eq_true, decide_eq_true_eq]; omega
  show (match tabsOf h with | some _ => bif intB v then some (spV v) else none | none => none) = _
  rw [tabsOf_some h0 h1]
  simp only [hb, cond_true]

theorem spell_len (v : Int) (h0 : 0 ≤ v) (h1 : v ≤ 79999) : (spellL v).length ≤ 1000 := by
  obtain ⟨l, hl⟩ := whole_of (v.toNat / 8) (by omega)
  have e1 : v = 8 * ((v.toNat / 8 : Nat) : Int) + ((v.toNat % 8 : Nat) : Int) := by omega
  have := hl.len
  rw [e1, spell_textOf hl _ (by omega)]
  unfold textOf
  rw [List.length_append, List.length_map]
  split
  · simp only [List.length_nil]; omega
  · simp only [List.length_cons, List.length_nil]; omega

/-- The law returns true, at every value and every string. -/
theorem law_row (m v : Int) (s : ByteArray) (h1 : -9223372036854775808 ≤ v) (h2 : v ≤ 9223372036854775807) : RowT Tryz.prog (tbs pow10V m) 3 [.int .i64 v, .string s] (.bool true) := by
  refine rowT_of hmixT primE_sound (tbs_lt m) (fn := Tryz.f3) (c := (Tryz.f3.body).getD .skip) (by kernel_rfl) rfl (by kernel_rfl) rfl rfl rfl (fun R S K hK => ?_)
  have t0 := tabT0 m
  have t1 := tabT1 m
  have hback := spell_value s.data.toList
  refine law_run S (tabH Tryz.prog (tbs pow10V m)) v s (valL s.data.toList).1 (valL s.data.toList).2 rfl (primE_spell h1 h2 t0 t1) rfl (fun hr => ?_) (fun hs => ?_) ?_ (fun hc => ?_) K hK
  · simp only [Bool.and_eq_true, decide_eq_true_eq] at hr
    have hl := spell_len v hr.1 hr.2
    rw [primE_value (s := ⟨⟨spellL v⟩⟩) hl t0 t1]
    show some (valV (valL (spellL v))) = _
    rw [value_spell v hr.1 hr.2]
    rfl
  · exact primE_value (by show s.data.toList.length ≤ 1000; omega) t0 t1
  · rcases hback with e | e
    · rw [e]; exact .inr rfl
    · exact .inl e.1
  · rcases hback with e | ⟨_, e1, e2, e3⟩
    · rw [e] at hc; cases hc
    · rw [primE_spell (by omega) (by omega) t0 t1]
      unfold spV
      rw [decide_eq_true e1, decide_eq_true e2, e3]
      rfl
end Go.Proofs
