/- Operations that write, all but calls. -/
import Derived.Test.YtlneoecgbbbahacGreatDoorEv12
namespace Go.Ev
open Go.RowKit

section
variable {P : Program} {m : M} {w0 w : World} {h : AHeap} {t : T Value} {n : Nat} {a : Act}

theorem wDig_rel (hW : WR P m w0 h w) {src dst : TypeId} {x : Operand} {xv : Value} {K : KV} (e : wDig P h src dst K xv = true) (o : Oper) (ρ : Operand → Value) (ho : o.op = .convert src dst x)
    (hx : VR m xv (ρ x)) : Ran P m w0 w K (execOp ρ o) := by
  unfold wDig at e
  split at e
  · rename_i s
    split at e
    · rename_i el hs
      cases hc : (isStrTy P src && (isU8 P el && Nat.blt s.size bigNat)) with
      | false => rw [hc] at e; cases e
      | true =>
        rw [hc, cond_true] at e
        simp only [Bool.and_eq_true] at hc
        obtain ⟨c1, c2, c3⟩ := hc
        have hu8 : P.underlying el = some (.int .u8) := by
          unfold isU8 at c2
          split at c2
          · assumption
          · cases c2
        generalize hxe : ρ x = x' at hx
        cases hx
        have hrun := run_bytes_of_string (P := P) w src dst el s (strTy_und c1) (slOf_und hs) hu8
        have hW' := hW.drew
        have hcap := grownCap_ge w s.size 0 el
        obtain ⟨h', q1, q2, q3⟩ := growN_rel hW' e (bytesRow s (grownCap w s.size 0 el)) el ((bytesRow s (grownCap w s.size 0 el)).size, (bytesRow s (grownCap w s.size 0 el)).size + 1) (.inl (Nat.le_refl _)) (fun i v hv => by
          simp only [List.getElem?_map, Option.map_eq_some_iff] at hv
          obtain ⟨b, hb1, hb2⟩ := hv
          refine ⟨v, ?_, plain_rel m v (by rw [← hb2]; rfl), by rw [← hb2]; rfl⟩
          have hi : i < s.data.size := by simpa using (List.getElem?_eq_some_iff.1 hb1).1
          unfold bytesRow
          rw [Array.getElem?_append_left (by simpa using hi)]
          rw [Array.getElem?_map]
          rw [← Array.getElem?_toList, hb1, ← hb2]
          rfl)
        rw [fNat_eq] at q3
        refine ⟨.value (.slice (some ⟨w.heap.size, 0, none⟩) s.size (grownCap w s.size 0 el)), _, _, _, _, h', ?_, .inl rfl, q1, ?_, q2, q3⟩
        · simp only [execOp, ho, hxe]
          exact run_v hrun
        · have hE : (bytesRow s (grownCap w s.size 0 el)).size = grownCap w s.size 0 el := by
            unfold bytesRow
            have : s.data.size = s.size := rfl
            simp
            omega
          exact VR.sl (B := w.heap.size) (d := 0) 0 s.size s.size (grownCap w s.size 0 el) (M.put2_f m _ _ _) hcap (.inr ⟨1, _, M.put2_sp m _ _ _, by rw [hE]; omega⟩)
    · cases e
  · cases e

theorem wAppend_rel (hW : WR P m w0 h w) (hT : TR m t n a.tmps) {c : Call} {K : KV} (e : wAppend P t h c K = true) (o : Oper) (ho : o.op = .call c) (hc : c.callee = .builtin .append) :
    Ran P m w0 w K (execOp a.eval o) := by
  unfold wAppend at e
  split at e
  · rename_i st xt s x hty hargs
    have hty' : c.argTypes = #[st, xt] := by rw [← Array.toArray_toList (xs := c.argTypes), hty]
    have hargs' : c.args = #[s, x] := by rw [← Array.toArray_toList (xs := c.args), hargs]
    split at e
    · rename_i el hel
      cases hk : kindOk P xt (ev P t x) with
      | false => rw [hk] at e; cases e
      | true =>
        rw [hk, cond_true] at e
        have hs := ev_rel (P := P) hT hW.glob s
        have hx := ev_rel (P := P) hT hW.glob x
        have hex : ∀ u w', (Builtin.append_ #[st, xt] o.type #[a.eval s, a.eval x]).run P w = .ok u w' → (execOp a.eval o).run P w = .ok (.value u) w' := by
          intro u w' hu
          simp only [execOp, ho, resolve, hc, hargs', hty', Sem.run_bind, Sem.run_pure, Result.andThen_ok, invoke, builtin]
          simp [hu]
        have fin : (∃ v v' w' m' h', (Builtin.append_ #[st, xt] o.type #[a.eval s, a.eval x]).run P w = .ok v' w' ∧ M.le m m' ∧ VR m' v v' ∧ WR P m' w0 h' w' ∧ K v h' = true) → Ran P m w0 w K (execOp a.eval o) := by
          rintro ⟨v, v', w', m', h', k1, k2, k3, k4, k5⟩
          exact ⟨.value v', v, v', w', m', h', hex _ _ k1, .inl rfl, k2, k3, k4, k5⟩
        unfold appendA at e
        split at e
        · cases e
        · rename_i sz hsz
          split at e
          · cases e
          · rename_i new k hsrc
            obtain ⟨new', q1, q2, q3⟩ := srcCells_rel hW hk hsrc hx
            obtain ⟨i, hi, his⟩ := sizeB_info hsz
            generalize hse : ev P t s = sv at e hs
            generalize hse' : a.eval s = sv' at hs fin
            split at e
            · cases hs
              exact fin (appendNil_rel hW (slOf_und hel) hsz q1 q2 q3 e)
            · rename_i b off len cap
              cases hs with
              | @sl _ B d _ _ _ cap' hm hcc hz =>
                cases hroom : Nat.ble (Nat.add len k) cap with
                | true =>
                  rw [hroom, cond_true] at e
                  have hroom' : len + k ≤ cap := Nat.le_of_ble_eq_true hroom
                  obtain ⟨h', k1, k2, k3⟩ := storeC_rel hW e hm q2 q3
                  refine fin ⟨_, _, _, m, h', ?_, M.le_refl m, .sl off (len + k) cap cap' hm hcc hz, k1, k2⟩
                  subst his
                  have := run_append_room_src (P := P) w st xt o.type el i (slOf_und hel) hi B (off + d) len cap' (a.eval x) k new' q1 (by omega)
                    (fun j hj => by have := (k3 j hj).1; rwa [show off + d + len * i.size + j = off + len * i.size + d + j by omega])
                    (fun j hj => by have := (k3 j hj).2; rwa [show off + d + len * i.size + j = off + len * i.size + d + j by omega])
                  rw [show off + d + len * i.size = off + len * i.size + d by omega] at this
                  exact this
                | false =>
                  rw [hroom, cond_false] at e
                  have hroom' : ¬ (len + k ≤ cap) := fun hle => by have h2 : Nat.ble (Nat.add len k) cap = true := Nat.ble_eq_true_of_le hle; rw [hroom] at h2; cases h2
                  exact fin (appendGrow_rel hW (slOf_und hel) hsz q1 q2 q3 hm hz (by omega) e)
            · cases e
    · cases e
  · cases e

/-- All but calls of function values. -/
theorem awrite_ran (hW : WR P m w0 h w) (hT : TR m t n a.tmps) {o : Oper} {call : CallT} {K : KV} (e : awrite P call t h o K = true)
    (hnc : ∀ c f, o.op = .call c → c.callee ≠ .value f) : Ran P m w0 w K (execOp a.eval o) := by
  have hx := fun x => ev_rel (P := P) hT hW.glob x
  unfold awrite at e
  split at e
  · rename_i el ho; exact wAlloc_rel hW e o _ ho
  · rename_i el x ho; exact wBox_rel hW e o _ ho (hx x)
  · rename_i ty len parts ho
    refine wBuildSlice_rel hW e o _ ho (parts_rel hT hW.glob parts.toList) ?_
    apply Array.toList_inj.1
    simp
  · rename_i ty p x ho; exact wStore_rel hW e o _ ho (hx p) (hx x)
  · rename_i ty ho; exact wMakeMap_op hW e ty o _ ho
  · rename_i ty x ho
    split at e
    · rename_i p hp
      cases hi : isIntV (ev P t x) with
      | false => rw [hi] at e; cases e
      | true => rw [hi, cond_true] at e; exact wMakeMap_op' hW e ty x hp o _ ho (hx x) hi
    · cases e
  · rename_i ty l c ho; exact wMakeSlice_rel hW e o _ ho (hx l) (hx c)
  · rename_i ty mm k x ho; exact wMapUpdate_rel hW e o _ (.inl ho) (hx mm) (hx k) (hx x)
  · rename_i ty mm k x ho; exact wMapUpdate_rel hW e o _ (.inr ho) (hx mm) (hx k) (hx x)
  · rename_i ty mm k ho; exact wMapEntry_rel hW e o _ ho (hx mm) (hx k)
  · rename_i ty mm s x ho; exact wEntryStore_rel hW e o _ ho (hx mm) (hx s) (hx x)
  · rename_i src dst x ho; exact wDig_rel hW e o _ ho (hx x)
  · rename_i c ho
    unfold wCall at e
    split at e
    · rename_i hc; exact wAppend_rel hW hT e o ho hc
    · rename_i f hc; exact absurd hc (hnc c f ho)
    · cases e
  · cases e

end
end Go.Ev
