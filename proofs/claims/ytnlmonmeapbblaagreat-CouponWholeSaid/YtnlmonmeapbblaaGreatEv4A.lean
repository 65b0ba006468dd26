import Derived.Test.YtnlmonmeapbblaaGreatEv49
/- Rows that are made at once, and stored one by one. -/
namespace Go.Ev
open Go.RowKit
section
variable {P : Program} {t : T Value} {h : AHeap} {call : CallT} {ops : Array Oper} {n : Nat} {rest : List Oper} {KR : T Value → AHeap → Bool} {dst : Option Tmp} {ty a e : TypeId} {pos : String} {af : Array Edge} {g : Option (Nat × Bool)}
/-- A new slice of rows. -/
theorem wr_makeRows {x y : Operand} {k sz : Nat} {ei : TypeInfo} {z : Value} (h1 : slOf P a = some e) (h2 : P.info? e = some ei) (h3 : zeroOf P e = some z) (h4 : Nat.blt ei.bytes bigNat = true) (h5 : ei.size = sz) (h6 : z.cells.size = sz)
    (hx : ev P t x = .int .i64 (k : Int)) (hy : ev P t y = .int .i64 (k : Int)) (hk : k < 1000000) (kk : putR P call ops n rest dst t (.slice (some ⟨h.nx, 0, none⟩) k k) (h.add ((List.replicate k z.cells.toList).flatten)) KR = true) :
    wrR P call ops n rest (.makeSlice a x y) dst t h KR = true := by
  have hb : Nat.blt k bigNat = true := by rw [Nat.blt_eq]; exact hk
  have he : repl z.cells.toList k [] = (List.replicate k z.cells.toList).flatten := by rw [repl_eq, List.append_nil]
  have h6' : Nat.beq z.cells.size ei.size = true := by rw [h5, h6]; exact Nat.beq_refl _
  have hx' : ev P t x = .int .i64 (.ofNat k) := hx
  have hy' : ev P t y = .int .i64 (.ofNat k) := hy
  simp only [wrR, awrite, wMakeSlice, h1, hx', hy', wMakeSlice1, h2, h3, Nat.ble_eq_true_of_le (Nat.le_refl k), hb, h4, h6', Bool.and_self, cond_true, newC_add, he]
  exact kk
/-- A store of a row into the middle of a block. -/
theorem aw_storeR {x y : Operand} {k0 B off s : Nat} {c : List Value} {fam : Nat} {ls : List Value} (hx : ev P t x = .pointer (some ⟨B, off, none⟩)) (hy : ev P t y = .agg ⟨ls⟩) (hs : sizeB P a = some s) (hne : 0 < s) (hls : ls.length = s)
    (hg : h.bl.get B = some (.cells c fam false)) (hf : h.fams.get fam = some [k0]) (hl : off + s ≤ c.length) (K : KV) : awrite P call t h ⟨dst, .store a x y, ty, pos, af, g⟩ K = K undef (h.upd B (c.take off ++ ls ++ c.drop (off + s)) fam) := by
  have h2 : (okV (.agg ⟨ls⟩) && Nat.beq (Value.cells (.agg ⟨ls⟩)).size s) = true := by
    rw [show (Value.cells (.agg ⟨ls⟩)).size = ls.length from rfl, hls, Nat.beq_refl]; rfl
  have h1 : Nat.ble (Nat.add off ls.length) c.length = true := Nat.ble_eq_true_of_le (by rw [hls]; exact hl)
  cases ls with
  | nil => simp at hls; omega
  | cons v0 l0 =>
    have hc : (Value.cells (.agg ⟨v0 :: l0⟩)).toList = v0 :: l0 := (rfl)
    have he : spliceL c off (v0 :: l0) = c.take off ++ (v0 :: l0) ++ c.drop (off + s) := by
      rw [spliceL_eq c off (v0 :: l0) (by rw [hls]; exact hl), hls]
    simp only [awrite, wStore, hx, hy, hs, h2, cond_true, hc, storeC, hg, storeC1, h1, fSpine_eq, hf, T.setK_eq, he]
    rfl
end
theorem flat_set2 {α : Type} {cv : α → List Value} {n : Nat} (hn : ∀ x, (cv x).length = n) : ∀ (l : List α) (i : Nat) (x : α), i < l.length → ((l.map cv).flatten.take (i * n) ++ cv x ++ (l.map cv).flatten.drop (i * n + n)) = ((l.set i x).map cv).flatten
  | [], _, _, h => by simp at h
  | y :: l, 0, x, _ => by
    simp only [List.map_cons, List.flatten_cons, Nat.zero_mul, List.take_zero, List.nil_append, Nat.zero_add, List.set_cons_zero]
    rw [List.drop_append_of_le_length (by rw [hn]; exact Nat.le_refl _), List.drop_of_length_le (by rw [hn]; exact Nat.le_refl _), List.nil_append]
  | y :: l, i + 1, x, h => by
    simp only [List.map_cons, List.flatten_cons, List.set_cons_succ]
    have ih := flat_set2 hn l i x (by simpa using h)
    rw [← ih]
    have e1 : (i + 1) * n = (cv y).length + i * n := by rw [hn, Nat.succ_mul]; omega
    rw [e1, List.take_length_add_append, show (cv y).length + i * n + n = (cv y).length + (i * n + n) from by omega, List.drop_length_add_append]
    simp only [List.append_assoc]
end Go.Ev
