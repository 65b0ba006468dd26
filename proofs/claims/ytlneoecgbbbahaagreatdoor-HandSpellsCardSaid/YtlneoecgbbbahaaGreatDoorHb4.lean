import Derived.Test.YtlneoecgbbbahaaGreatDoorHb3
import Derived.Test.YtlneoecgbbbahaaGreatDoorShelf
import Derived.Test.YtlneoecgbbbahaaGreatDoorChecked
import Derived.Lib.AppendIntMem
namespace Go.Proofs
open Go Go.Ev Go.RowKit
set_option linter.unusedSimpArgs false

theorem hmixT : Tryz.prog.follows .mixedOrders = true := Tryz.checked.mixed
def pow10V : List Value := Lib.pow10Tab.map (.int .u64)
theorem pow10V_eq : veqL pow10V pow10V = true := by kernel_rfl
theorem tbs_lt (m : Int) : ∀ p, p ∈ tbs pow10V m → p.1 < Tryz.prog.globals.size := by
  intro p hp
  rw [show Tryz.prog.globals.size = 4 from by kernel_rfl]
  simp only [tbs, List.mem_cons, List.not_mem_nil, or_false] at hp
  rcases hp with rfl | rfl
  · show 0 < 4; decide
  · show 1 < 4; decide

/-- Does the heap bear both tables? -/
def tabsOf (h : AHeap) : Option Int :=
  match h.bl.get 0 with
  | some (.tab c) => bif veqL c pow10V then (match h.bl.get 1 with | some (.tab [.int .i64 m]) => some m | _ => none) else none
  | _ => none
theorem tabsOf_some {h : AHeap} {m : Int} (h0 : h.bl.get 0 = some (.tab pow10V)) (h1 : h.bl.get 1 = some (.tab [.int .i64 m])) : tabsOf h = some m := by
  unfold tabsOf
  rw [h0, h1]
  simp only [pow10V_eq, cond_true]
theorem tabsOf_eq {h : AHeap} {m : Int} (e : tabsOf h = some m) : ∀ p, p ∈ tbs pow10V m → h.bl.get p.1 = some (.tab p.2) := by
  unfold tabsOf at e
  split at e
  · rename_i c h0
    cases hv : veqL c pow10V with
    | false => rw [hv] at e; cases e
    | true =>
      rw [hv, cond_true] at e
      obtain rfl := veqL_eq _ _ hv
      split at e
      · rename_i m' h1
        cases e
        intro p hp
        simp only [tbs, List.mem_cons, List.not_mem_nil, or_false] at hp
        rcases hp with rfl | rfl
        · exact h0
        · exact h1
      · cases e
  · cases e

/-! ## Contracts of the library, as rows -/
theorem itoa_row (m : Int) (n : Int) (h0 : -9223372036854775808 ≤ n) (h1 : n ≤ 9223372036854775807) : RowT Tryz.prog (tbs pow10V m) 26 [.int .i64 n] (.string ⟨(Lib.itoa n).toArray⟩) := by
  refine ⟨rfl, rfl, ⟨Tryz.f26, (Tryz.f26.body).getD .skip, by kernel_rfl, rfl, by kernel_rfl⟩, fun w hw => ?_⟩
  have htab : Lib.TabIs Tryz.prog w "internal/strconv.uint64pow10" .u64 Lib.pow10Tab := by
    unfold Lib.TabIs World.var?
    rw [show Tryz.prog.globalNamed "internal/strconv.uint64pow10" = some 0 from by kernel_rfl]
    obtain ⟨t, fr, e⟩ := hw.2 (0, pow10V) (by simp [tbs])
    simp only [Option.bind_some]
    rw [e]
    rfl
  refine (Tryz.strconv_Itoa n h0 h1 w htab).mono ?_
  rintro e w' ⟨rfl, k, os, rfl⟩
  exact ⟨rfl, Lib.below_grow _ _ (Nat.le_refl _) _ _⟩

theorem cut_row (m : Int) (s sep : ByteArray) (hs : s.size < 4294967281) : RowT Tryz.prog (tbs pow10V m) 63 [.string s, .string sep]
    (.tuple #[.string ⟨(Lib.cut s.data.toList sep.data.toList).1.toArray⟩, .string ⟨(Lib.cut s.data.toList sep.data.toList).2.1.toArray⟩, .bool (Lib.cut s.data.toList sep.data.toList).2.2]) := by
  refine ⟨rfl, rfl, ⟨Tryz.f63, (Tryz.f63.body).getD .skip, by kernel_rfl, rfl, by kernel_rfl⟩, fun w hw => ?_⟩
  have hm : w.cell? ⟨1, 0, none⟩ = some (.int .i64 m) := by
    obtain ⟨t, fr, e⟩ := hw.2 (1, [.int .i64 m]) (by simp [tbs])
    simp only [World.cell?]
    rw [e]
    rfl
  refine (Tryz.strings_Cut s sep m w hs hm).mono ?_
  rintro e w' ⟨rfl, k, rfl⟩
  exact ⟨rfl, rfl, rfl, rfl, Nat.le_refl _, fun _ _ => rfl⟩

/-! ## The table -/
def intB (n : Int) : Bool := leI (-9223372036854775808) n && leI n 9223372036854775807
def smallB (x : Int) : Bool := leI (-1) x && leI x 9
def valOf (l : List Int) : Int := if l[4]?.getD 0 = -1 then 8 * numK l 4 else 8 * numK l 4 + l[4]?.getD 0
def primA : Prim := fun g l h =>
  bif Nat.beq g 25 then (match l with | [.agg ⟨[.int .i64 lo, .int .i64 hi]⟩, .int .i64 i] => some (.bool (decide (lo ≤ i) && decide (i ≤ hi))) | _ => none)
  else bif Nat.beq g 12 then (match l with | [.int .i64 i, .int .i64 lo, .int .i64 hi] => some (.bool (decide (lo ≤ i) && decide (i ≤ hi))) | _ => none)
  else bif Nat.beq g 65 then (match l with | [.int .u8 b] => some (.bool (sign b)) | _ => none)
  else bif Nat.beq g 66 then (match l with | [.int .u8 (.ofNat b)] => bif Nat.blt b 256 then some (.int .i64 ((b : Int) - 48)) else none | _ => none)
  else bif Nat.beq g 45 then (match l with | [.agg ⟨[.int .i64 a, .int .i64 b, .int .i64 _, .int .i64 _, .int .i64 e]⟩] => some (.bool (isTextB a b e)) | _ => none)
  else bif Nat.beq g 24 then (match l with | [.agg ⟨vs⟩] => (match intsV vs with | some fs => bif Nat.beq fs.length 5 && fs.all smallB then some (.int .i64 (valOf fs)) else none | none => none) | _ => none)
  else bif Nat.beq g 63 then (match l with | [.string s, .string sep] => (match tabsOf h with | some _ => bif Nat.blt s.size 4294967281 then some (.tuple #[.string ⟨(Lib.cut s.data.toList sep.data.toList).1.toArray⟩, .string ⟨(Lib.cut s.data.toList sep.data.toList).2.1.toArray⟩, .bool (Lib.cut s.data.toList sep.data.toList).2.2]) else none | none => none) | _ => none)
  else bif Nat.beq g 26 then (match l with | [.int .i64 n] => (match tabsOf h with | some _ => bif intB n then some (.string ⟨(Lib.itoa n).toArray⟩) else none | none => none) | _ => none)
  else none

theorem primA_sound : PrimSound Tryz.prog primA := by
  intro g l h v e
  unfold primA at e
  cases h1 : Nat.beq g 25 with
  | true =>
    rw [h1, cond_true] at e
    obtain rfl := Nat.eq_of_beq_eq_true h1
    split at e
    · rename_i lo hi i
      cases e
      exact (row_of hmixT (noPrim_sound _) (g := 25) (fn := Tryz.f25) (c := (Tryz.f25.body).getD .skip) (by kernel_rfl) rfl (by kernel_rfl) rfl rfl rfl (fun R S K hK => has_run S lo hi i K hK)).prim h
    · cases e
  | false =>
  rw [h1, cond_false] at e
  clear h1
  cases h1 : Nat.beq g 12 with
  | true =>
    rw [h1, cond_true] at e
    obtain rfl := Nat.eq_of_beq_eq_true h1
    split at e
    · rename_i i lo hi
      cases e
      exact (row_of hmixT (noPrim_sound _) (g := 12) (fn := Tryz.f12) (c := (Tryz.f12.body).getD .skip) (by kernel_rfl) rfl (by kernel_rfl) rfl rfl rfl (fun R S K hK => in_run S i lo hi K hK)).prim h
    · cases e
  | false =>
  rw [h1, cond_false] at e
  clear h1
  cases h1 : Nat.beq g 65 with
  | true =>
    rw [h1, cond_true] at e
    obtain rfl := Nat.eq_of_beq_eq_true h1
    split at e
    · rename_i b
      cases e
      exact (row_of hmixT (noPrim_sound _) (g := 65) (fn := Tryz.f65) (c := (Tryz.f65.body).getD .skip) (by kernel_rfl) rfl (by kernel_rfl) rfl rfl rfl (fun R S K hK => isSign_run S b K hK)).prim h
    · cases e
  | false =>
  rw [h1, cond_false] at e
  clear h1
  cases h1 : Nat.beq g 66 with
  | true =>
    rw [h1, cond_true] at e
    obtain rfl := Nat.eq_of_beq_eq_true h1
    split at e
    · rename_i b
      cases hb : Nat.blt b 256 with
      | false => rw [hb] at e; cases e
      | true =>
        rw [hb, cond_true] at e
        have hb' : b < 256 := by simpa [Nat.blt_eq] using hb
        cases e
        exact (row_of hmixT (noPrim_sound _) (g := 66) (fn := Tryz.f66) (c := (Tryz.f66.body).getD .skip) (by kernel_rfl) rfl (by kernel_rfl) rfl rfl rfl (fun R S K hK => figure_run S b hb' K hK)).prim h
    · cases e
  | false =>
  rw [h1, cond_false] at e
  clear h1
  cases h1 : Nat.beq g 45 with
  | true =>
    rw [h1, cond_true] at e
    obtain rfl := Nat.eq_of_beq_eq_true h1
    split at e
    · rename_i a b c d x
      cases e
      exact (row_of hmixT (noPrim_sound _) (g := 45) (fn := Tryz.f45) (c := (Tryz.f45.body).getD .skip) (by kernel_rfl) rfl (by kernel_rfl) rfl rfl rfl (fun R S K hK => isText_run S a b c d x K hK)).prim h
    · cases e
  | false =>
  rw [h1, cond_false] at e
  clear h1
  cases h1 : Nat.beq g 24 with
  | true =>
    rw [h1, cond_true] at e
    obtain rfl := Nat.eq_of_beq_eq_true h1
    split at e
    · rename_i vs
      split at e
      · rename_i fs hfs
        obtain rfl := intsV_eq _ _ hfs
        cases hb : (Nat.beq fs.length 5 && fs.all smallB) with
        | false => rw [hb] at e; cases e
        | true =>
          rw [hb, cond_true] at e
          simp only [Bool.and_eq_true] at hb
          have hl5 := Nat.eq_of_beq_eq_true hb.1
          have hsm : ∀ x, x ∈ fs → smallI x := fun x hx => by
            have := List.all_eq_true.1 hb.2 x hx
            simp only [smallB, leI_eq, Bool.and_eq_true, decide_eq_true_eq] at this
            exact this
          cases e
          have hpl : plainL [.agg ⟨fs.map (.int .i64)⟩] = true := plainL_one _ (plain_ints fs)
          exact (row_of hmixT (noPrim_sound _) (g := 24) (fn := Tryz.f24) (c := (Tryz.f24.body).getD .skip) (by kernel_rfl) rfl (by kernel_rfl) hpl rfl rfl (fun R S K hK => value_run S fs hl5 hsm K hK)).prim h
      · cases e
    · cases e
  | false =>
  rw [h1, cond_false] at e
  clear h1
  cases h1 : Nat.beq g 63 with
  | true =>
    rw [h1, cond_true] at e
    obtain rfl := Nat.eq_of_beq_eq_true h1
    split at e
    · rename_i s sep
      split at e
      · rename_i m hm
        cases hb : Nat.blt s.size 4294967281 with
        | false => rw [hb] at e; cases e
        | true =>
          rw [hb, cond_true] at e
          have hb' : s.size < 4294967281 := by simpa [Nat.blt_eq] using hb
          cases e
          exact (cut_row m s sep hb').prim (tbs_lt m) h (tabsOf_eq hm)
      · cases e
    · cases e
  | false =>
  rw [h1, cond_false] at e
  clear h1
  cases h1 : Nat.beq g 26 with
  | true =>
    rw [h1, cond_true] at e
    obtain rfl := Nat.eq_of_beq_eq_true h1
    split at e
    · rename_i n
      split at e
      · rename_i m hm
        cases hb : intB n with
        | false => rw [hb] at e; cases e
        | true =>
          rw [hb, cond_true] at e
          simp only [intB, leI_eq, Bool.and_eq_true, decide_eq_true_eq] at hb
          cases e
          exact (itoa_row m n hb.1 hb.2).prim (tbs_lt m) h (tabsOf_eq hm)
      · cases e
    · cases e
  | false => rw [h1, cond_false] at e; cases e
end Go.Proofs
