import Derived.Test.YtfbkgnojdngiiaaMhK
/- A bank with no interest; the sum of all calls. -/
namespace Go.Proofs.Mg
open Go Go.Ev Go.RowKit
set_option linter.unusedSimpArgs false
section
variable {P : Program} {call : CallT} {ops : Array Oper} {n : Nat} {rest : List Oper} {t : T Value} {h : AHeap} {KR : T Value → AHeap → Bool} {x y : Operand} {a : TypeId} {k : Nat} {dst : Option Tmp}
/-- A store of some cells of a block. -/
theorem wr_storeP {B s off : Nat} {c : List Value} {fam : Nat} {l c' : List Value} (hx : ev P t x = .pointer (some ⟨B, off, none⟩)) (hy : ev P t y = .agg ⟨l⟩) (hs : sizeB P a = some s) (hne : 0 < s) (hls : l.length = s)
    (hg : h.bl.get B = some (.cells c fam false)) (hf : h.fams.get fam = some [k]) (hl : off + s ≤ c.length) (he' : c.take off ++ l ++ c.drop (off + s) = c') (kk : putR P call ops n rest dst t undef (h.upd B c' fam) KR = true) :
    wrR P call ops n rest (.store a x y) dst t h KR = true := by
  have h2 : (okV (.agg ⟨l⟩) && Nat.beq (Value.cells (.agg ⟨l⟩)).size s) = true := by
    rw [show (Value.cells (.agg ⟨l⟩)).size = l.length from rfl, hls, Nat.beq_refl]; rfl
  have h1 : Nat.ble (Nat.add off l.length) c.length = true := Nat.ble_eq_true_of_le (by rw [hls]; exact hl)
  cases l with
  | nil => simp at hls; omega
  | cons v0 l0 =>
    have hc : (Value.cells (.agg ⟨v0 :: l0⟩)).toList = v0 :: l0 := (rfl)
    have he : spliceL c off (v0 :: l0) = c' := by
      rw [spliceL_eq c off (v0 :: l0) (by rw [hls]; exact hl), hls]
      exact he'
    simp only [wrR, awrite, wStore, hx, hy, hs, h2, cond_true, hc, storeC, hg, storeC1, h1, fSpine_eq, hf, T.setK_eq, he]
    exact kk
end
theorem brR0 : rBuild Try.prog 81 [] = some (.agg ⟨[iv 0, iv 0]⟩) := by kernel_rfl
/-- A day, without interest if so. -/
def freeD (b : Bool) (x : PD) : PD := (x.1, x.2.1, bif b then (0, 0) else x.2.2)
theorem val_free {st : Int} {D : List PD} {L : List PL} (hv : Val st D L) (b : Bool) : Val st (D.map (freeD b)) L := by
  refine ⟨hv.s1, hv.s4, by rw [List.length_map]; exact hv.d4, by rw [List.length_map]; exact hv.d0, hv.l4, fun x hx => ?_, hv.ln⟩
  obtain ⟨y, hy, rfl⟩ := List.mem_map.1 hx
  have h := okD_iff.1 (hv.dy y hy)
  refine okD_iff.2 ?_
  cases b with
  | false => exact ⟨h.len, h.r0, h.r1, h.r2, h.pr⟩
  | true => exact ⟨h.len, Int.le_refl _, Int.le_refl _, by show (0 : Int) ≤ 100; omega, h.pr⟩
theorem rates_free {st : Int} {D : List PD} {Ts : List PT} {rt : List Int} (h : truthB st (D.map (freeD true)) Ts rt = true) {k : Nat} (hk : k < D.length) : rsF rt k = 0 := by
  simp only [truthB, Bool.and_eq_true, decide_eq_true_eq, List.length_map] at h
  obtain ⟨h1, h2, h3⟩ := h
  have h4 := (zip_all.1 h3) k (by rw [List.length_map]; exact hk) (by rw [List.length_zip]; omega)
  rw [List.getElem_zip, List.getElem_map] at h4
  simp only [okT, okT1, freeD, cond_true, Bool.and_eq_true, inB_iff] at h4
  have h5 := h4.1.2
  unfold rsF
  rw [List.getD_eq_getElem?_getD, List.getElem?_eq_getElem (by omega), Option.getD_some]
  omega
theorem callsZ_succ (m g : Int) (vs rs : Nat → Int) (n : Nat) : callsZ m g vs rs (n + 1) = callsZ m g vs rs n ++ [callZ m g vs rs n] := by
  unfold callsZ
  rw [List.range_succ, List.map_append]; rfl
theorem calls_sum {m g : Int} {vs rs : Nat → Int} : ∀ n : Nat, (∀ k, k < n → rs k = 0) → sumL (callsZ m g vs rs n) = m - debtZ m g vs rs n
  | 0, _ => by show (0 : Int) = m - m; omega
  | n + 1, h => by
    rw [callsZ_succ, sumL_snoc, calls_sum n fun k hk => h k (by omega)]
    have e : owedZ m g vs rs n = debtZ m g vs rs n := by
      unfold owedZ grownZ
      rw [h n (by omega), Int.mul_zero]
      show _ + (0 : Int).tdiv 10000 = _
      rw [Int.zero_tdiv, Int.add_zero]
    unfold callZ
    omega
theorem call_bnd {m g : Int} {vs rs : Nat → Int} {n : Nat} (hr : Rates n vs rs) (m0 : 0 ≤ m) (m1 : m ≤ 100000) (g0 : 0 ≤ g) (g1 : g ≤ 100) (hn : (n : Int) ≤ 4) {k : Nat} (hk : k < n) : 0 ≤ callZ m g vs rs k ∧ callZ m g vs rs k ≤ 120000 := by
  have h1 := owed_bnd hr m0 m1 g0 g1 hn hk
  have h2 := debt_bnd hr m0 m1 g0 g1 hn (k + 1) (by omega)
  have h3 : debtZ m g vs rs (k + 1) ≤ owedZ m g vs rs k := by
    show min2 (owedZ m g vs rs k) _ ≤ _
    unfold min2
    split <;> omega
  unfold callZ
  omega
theorem calls_bnd {m g : Int} {vs rs : Nat → Int} {n : Nat} (hr : Rates n vs rs) (m0 : 0 ≤ m) (m1 : m ≤ 100000) (g0 : 0 ≤ g) (g1 : g ≤ 100) (hn : (n : Int) ≤ 4) : ∀ x, x ∈ callsZ m g vs rs n → 0 ≤ x ∧ x ≤ 1000000 := fun x hx => by
  obtain ⟨k, hk, rfl⟩ := List.mem_map.1 hx
  have := call_bnd hr m0 m1 g0 g1 hn (List.mem_range.1 hk)
  omega
theorem callsZ_get (m g : Int) (vs rs : Nat → Int) {n k : Nat} (hk : k < n) : (callsZ m g vs rs n)[k]? = some (callZ m g vs rs k) := by
  unfold callsZ
  rw [List.getElem?_map, List.getElem?_range hk]; rfl
theorem aftersZ_get (m g : Int) (vs rs : Nat → Int) {n k : Nat} (hk : k < n) : (aftersZ m g vs rs n)[k]? = some (debtZ m g vs rs (k + 1)) := by
  unfold aftersZ
  rw [List.getElem?_map, List.getElem?_range hk]; rfl
theorem ready_iff {st : Int} {D : List PD} {L : List PL} (h : readyB st D L = true) : Thin7 D L [] [] ∧ Val st D L := by
  simp only [readyB, Bool.and_eq_true, decide_eq_true_eq] at h
  exact ⟨thin7 h.1, val_iff.1 h.2⟩
end Go.Proofs.Mg
