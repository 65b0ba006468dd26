/- Single operations that write: slices, maps. -/
import Derived.Test.YtlneoecgbbbahacGreatDoorEv10
namespace Go.Ev
open Go.RowKit

section
variable {P : Program} {m : M} {w0 w : World} {h : AHeap} {t : T Value} {n : Nat} {a : Act}

theorem wMakeSlice_rel (hW : WR P m w0 h w) {ty : TypeId} {lx cx : Operand} {lv cv : Value} {K : KV} (e : wMakeSlice P h ty lv cv K = true) (o : Oper) (ρ : Operand → Value) (ho : o.op = .makeSlice ty lx cx)
    (hl : VR m lv (ρ lx)) (hc : VR m cv (ρ cx)) : Ran P m w0 w K (execOp ρ o) := by
  unfold wMakeSlice at e
  split at e
  · rename_i el l c hs
    generalize hl' : ρ lx = l' at hl
    generalize hc' : ρ cx = c' at hc
    cases hl
    cases hc
    unfold wMakeSlice1 at e
    split at e
    · rename_i ei z hei hz
      obtain ⟨_, q1, q2, hpz, hoz⟩ := zeroOf_info hz
      cases hb : (Nat.ble l c && (Nat.blt c bigNat && (Nat.blt ei.bytes bigNat && Nat.beq z.cells.size ei.size))) with
      | false => rw [hb] at e; cases e
      | true =>
        rw [hb, cond_true] at e
        simp only [Bool.and_eq_true] at hb
        obtain ⟨b1, b2, b3, b4⟩ := hb
        have b1' : l ≤ c := Nat.le_of_ble_eq_true b1
        have b2' : c < 1000000 := by simpa [Nat.blt_eq, bigNat] using b2
        have b3' : ei.bytes < 1000000 := by simpa [Nat.blt_eq, bigNat] using b3
        have b4' : z.cells.size = ei.size := Nat.eq_of_beq_eq_true b4
        have hzs := zeros_eq z.cells c
        rw [b4'] at hzs
        obtain ⟨m', h', k1, k2, k3, k4⟩ := newC_rel hW e ((Array.range (c * ei.size)).map fun i => z.cells[i % ei.size]!) el
          (by rw [hzs]; exact repl_rel (plain_cells hpz) c) (by rw [hzs]; exact fun u hu => plain_ones hpz hoz u (repl_mem c u hu))
        refine ⟨.value (.slice (some ⟨w.heap.size, 0, none⟩) l c), _, _, _, m', h', ?_, .inl rfl, k1, .sl 0 l c c k2 (Nat.le_refl _) (.inl rfl), k3, k4⟩
        simp only [execOp, ho, hl', hc']
        refine run_v ?_
        have hmul : ei.bytes * c ≤ 1000000 * 1000000 := Nat.mul_le_mul (by omega) (by omega)
        have hwl : IntKind.i64.wrap (l : Int) = l := IntWalk.i64_in _ (by omega)
        have hwc : IntKind.i64.wrap (c : Int) = c := IntWalk.i64_in _ (by omega)
        have hmul' : ((ei.bytes : Int) * (c : Int)) ≤ 1000000000000 := by
          have : ((ei.bytes * c : Nat) : Int) ≤ ((1000000 * 1000000 : Nat) : Int) := Int.ofNat_le.2 hmul
          simpa using this
        simp only [Instr.makeSlice, Sem.run_bind, run_und (slOf_und hs), Result.andThen_ok, asInt, asIntOf, Sem.run_pure, run_info hei, Int.ofNat_eq_natCast, hwl, hwc]
        have hcond : ((decide ((c : Int) < 0) || decide (((ei.bytes : Int) * (c : Int)) > 2 ^ 48)) || decide ((l : Int) < 0) || decide ((l : Int) > c)) = false := by
          simp
          omega
        rw [hcond]
        simp only [Bool.false_eq_true, if_false, Sem.run_bind, run_askRoom, Result.andThen_ok, run_size hei, Int.toNat_natCast]
        have hz4 : c * ei.size = 0 → ((Array.range (c * ei.size)).map fun i => (#[] : Array Value)[i % (#[] : Array Value).size]!) = (Array.range (c * ei.size)).map fun i => z.cells[i % ei.size]! := by
          intro h0; rw [h0]; simp
        by_cases h0 : c * ei.size = 0
        · simp only [if_pos h0, Sem.run_bind, Sem.run_pure, Result.andThen_ok, hz4 h0, run_newRow]
        · simp only [if_neg h0, Sem.run_bind, Sem.run_pure, Result.andThen_ok, run_zero hz, b4', run_newRow]
    · cases e
  · cases e

/-! ## Maps -/
theorem modE_eq (f : MapEntry → MapEntry) : ∀ (es : List MapEntry) (i : Nat), modE es i f = es.modify i f
  | [], i => by simp [modE]
  | e :: es, 0 => by simp [modE]
  | e :: es, i + 1 => by simp [modE, modE_eq f es i]

theorem ER.modify {f f' : MapEntry → MapEntry} (hf : ∀ e e' : MapEntry, e.key = e'.key → e.born = e'.born → VR m e.val e'.val → (f e).key = (f' e').key ∧ (f e).born = (f' e').born ∧ VR m (f e).val (f' e').val) :
    ∀ {es es' : List MapEntry}, ER m es es' → ∀ i : Nat, ER m (modE es i f) (es'.modify i f')
  | _, _, .nil, i => by simp [modE]; exact .nil
  | _, _, .cons hk hb hv ht, 0 => by
    simp only [modE, List.modify_zero_cons]
    obtain ⟨a, b, c⟩ := hf _ _ hk hb hv
    exact .cons a b c ht
  | _, _, .cons hk hb hv ht, i + 1 => by
    simp only [modE, List.modify_succ_cons]
    exact .cons hk hb hv (ER.modify hf ht i)

theorem ER.append : ∀ {a a' b b' : List MapEntry}, ER m a a' → ER m b b' → ER m (a ++ b) (a' ++ b')
  | _, _, _, _, .nil, k => k
  | _, _, _, _, .cons x y z h, k => .cons x y z (ER.append h k)

theorem ER.get : ∀ {es es' : List MapEntry}, ER m es es' → ∀ (i : Nat) (e : MapEntry), es[i]? = some e → ∃ e', es'[i]? = some e' ∧ e.key = e'.key ∧ e.born = e'.born ∧ VR m e.val e'.val
  | _, _, .nil, i, e, h => by simp at h
  | _, _, .cons hk hb hv ht, 0, e, h => by simp at h; subst h; exact ⟨_, rfl, hk, hb, hv⟩
  | _, _, .cons hk hb hv ht, i + 1, e, h => by simpa using ER.get ht i e (by simpa using h)

theorem run_getObj_map {R : Nat} {es' : Array MapEntry} {clock : Nat} (g : w.heap[R]? = some (.map es' clock)) : (getObj R).run P w = .ok (.map es' clock) w := by
  simp only [getObj, Sem.run, g]

theorem run_setObj_map {R : Nat} {es' : Array MapEntry} {clock : Nat} (g : w.heap[R]? = some (.map es' clock)) (x : Obj) : (setObj R x).run P w = .ok () { w with heap := w.heap.setIfInBounds R x } := by
  simp only [setObj, Sem.run, g]

theorem WR.entries_full (_ : WR P m w0 h w) {r : Nat} {es : List MapEntry} {clock : Nat} (e : entriesOf (h.bl.get r) = some (es, clock)) : h.bl.get r = some (.map es clock) := by
  cases hg : h.bl.get r with
  | none => rw [hg] at e; cases e
  | some o =>
    rw [hg] at e
    cases o with
    | map es' clock' => simp only [entriesOf, Option.some.injEq, Prod.mk.injEq] at e; rw [e.1, e.2]
    | _ => cases e

theorem setMap_rel (hW : WR P m w0 h w) {r R d clock clock' : Nat} {es es2 : List MapEntry} {es' es2' : Array MapEntry} {K : AHeap → Bool} (e : setMap h r clock' es2 K = true)
    (hg : h.bl.get r = some (.map es clock)) (hm : m r = some (R, d)) (g1 : w.heap[R]? = some (.map es' clock)) (h2 : ER m es2 es2'.toList) :
    ∃ h', WR P m w0 h' { w with heap := w.heap.setIfInBounds R (.map es2' clock') } ∧ K h' = true := by
  unfold setMap at e
  rw [fSpine_eq] at e
  refine setO_rel hW e hg hm rfl rfl rfl (.map es2' clock') ⟨es2', ?_, h2⟩
  have : R < w.heap.size := (Array.getElem?_eq_some_iff.1 g1).1
  simp [this]

theorem keyStays {es : List MapEntry} {es' : Array MapEntry} (hE : ER m es es'.toList) {i : Nat} {k : Value} (e : sameKeyAt es i k = true) (w : World) :
    (Instr.keyThatStays (((es'[i]?).map (·.key)).getD k) k).run P w = .ok k w ∧ ∃ e0 e1, es[i]? = some e0 ∧ es'[i]? = some e1 ∧ e0.born = e1.born ∧ VR m e0.val e1.val := by
  unfold sameKeyAt at e
  split at e
  · rename_i e0 h0
    obtain ⟨e1, g1, g2, g3, g4⟩ := hE.get i e0 h0
    rw [Array.getElem?_toList] at g1
    refine ⟨?_, e0, e1, h0, g1, g3, g4⟩
    rw [g1]
    simp only [Option.map_some, Option.getD_some, Instr.keyThatStays, ← g2, e, if_true]
    rfl
  · cases e

theorem wMapUpdate_run (hW : WR P m w0 h w) {ty : TypeId} {mv kv xv mv' kv' xv' : Value} {K : KV} (e : wMapUpdate P h ty kv xv K mv = true)
    (hm : VR m mv mv') (hk : VR m kv kv') (hx : VR m xv xv') :
    ∃ w' h', (Instr.mapUpdate ty mv' kv' xv').run P w = .ok () w' ∧ WR P m w0 h' w' ∧ K undef h' = true := by
  unfold wMapUpdate at e
  split at e
  · rename_i r
    cases hm with
    | @map _ R d hm =>
      split at e
      · rename_i kt et es clock hmap hes
        have hg := hW.entries_full hes
        obtain ⟨es', g1, g2⟩ := hW.entries hes hm
        cases hok : okV xv with
        | false => rw [hok] at e; cases e
        | true =>
          rw [hok, cond_true] at e
          unfold wMapUpdate1 at e
          split at e
          · rename_i i v0 hf
            obtain ⟨rfl, q2, r', q3, q4⟩ := findK_rel (P := P) hk g2 hf w
            cases r' with
            | none => exact q4.elim
            | some p =>
              obtain ⟨j, v'⟩ := p
              obtain ⟨rfl, hv⟩ := q4
              cases hsk : sameKeyAt es i kv with
              | false => rw [hsk] at e; cases e
              | true =>
                rw [hsk, cond_true] at e
                obtain ⟨s1, s2⟩ := keyStays (P := P) g2 hsk w
                have h2 := ER.modify (m := m) (f := fun e => { key := kv, val := xv, born := e.born }) (f' := fun e => { key := kv, val := xv', born := e.born }) (fun _ _ _ hb _ => ⟨rfl, hb, hx⟩) g2 i
                obtain ⟨h', k1, k2⟩ := setMap_rel hW (es2' := es'.modify i fun e => { key := kv, val := xv', born := e.born }) e hg hm g1 (by simpa using h2)
                refine ⟨_, h', ?_, k1, k2⟩
                simp only [Instr.mapUpdate, Sem.run_bind, run_und (mapOf_und hmap), Result.andThen_ok, run_getObj_map g1, q2, q3, s1, run_setObj_map g1]
          · rename_i hf
            rw [fNat_eq] at e
            obtain ⟨rfl, q2, r', q3, q4⟩ := findK_rel (P := P) hk g2 hf w
            cases r' with
            | some p => exact q4.elim
            | none =>
              have h2 : ER m (es ++ [⟨kv, xv, clock⟩]) (es'.push { key := kv, val := xv', born := clock }).toList := by
                rw [Array.toList_push]
                exact g2.append (.cons rfl rfl hx .nil)
              obtain ⟨h', k1, k2⟩ := setMap_rel hW e hg hm g1 h2
              refine ⟨_, h', ?_, k1, k2⟩
              simp only [Instr.mapUpdate, Sem.run_bind, run_und (mapOf_und hmap), Result.andThen_ok, run_getObj_map g1, q2, q3, run_setObj_map g1]
          · cases e
      · cases e
  · cases e

theorem wMapUpdate_rel (hW : WR P m w0 h w) {ty : TypeId} {mo ko xo : Operand} {mv kv xv : Value} {K : KV} (e : wMapUpdate P h ty kv xv K mv = true) (o : Oper) (ρ : Operand → Value)
    (ho : o.op = .mapUpdate ty mo ko xo ∨ o.op = .insert ty mo ko xo) (hm : VR m mv (ρ mo)) (hk : VR m kv (ρ ko)) (hx : VR m xv (ρ xo)) : Ran P m w0 w K (execOp ρ o) := by
  obtain ⟨w', h', k1, k2, k3⟩ := wMapUpdate_run hW e hm hk hx
  refine ⟨.skip, undef, undef, w', m, h', ?_, .inr ⟨rfl, rfl⟩, M.le_refl m, undef_rel m, k2, k3⟩
  rcases ho with ho | ho <;> simp [execOp, ho, k1]

theorem wMapEntry_rel (hW : WR P m w0 h w) {ty : TypeId} {mo ko : Operand} {mv kv : Value} {K : KV} (e : wMapEntry P h ty kv K mv = true) (o : Oper) (ρ : Operand → Value)
    (ho : o.op = .mapEntry ty mo ko) (hm : VR m mv (ρ mo)) (hk : VR m kv (ρ ko)) : Ran P m w0 w K (execOp ρ o) := by
  unfold wMapEntry at e
  split at e
  · rename_i r
    generalize hme : ρ mo = mv' at hm
    generalize hke : ρ ko = kv' at hk
    cases hm with
    | @map _ R d hm =>
      split at e
      · rename_i kt et es clock hmap hes
        have hg := hW.entries_full hes
        obtain ⟨es', g1, g2⟩ := hW.entries hes hm
        unfold wMapEntry1 at e
        split at e
        · rename_i i v0 hf
          obtain ⟨rfl, q2, r', q3, q4⟩ := findK_rel (P := P) hk g2 hf w
          cases r' with
          | none => exact q4.elim
          | some p =>
            obtain ⟨j, v'⟩ := p
            obtain ⟨rfl, hv⟩ := q4
            split at e
            · rename_i e0 he0
              cases hsk : sameKeyAt es i kv with
              | false => rw [hsk] at e; cases e
              | true =>
                rw [hsk, cond_true] at e
                obtain ⟨s1, e0', e1, s2, s3, s4, s5⟩ := keyStays (P := P) g2 hsk w
                rw [he0] at s2
                cases s2
                rw [s3] at s1
                simp only [Option.map_some, Option.getD_some] at s1
                have h2 := ER.modify (m := m) (f := fun e => { key := kv, val := e.val, born := e.born }) (f' := fun e => { key := kv, val := e.val, born := e.born }) (fun _ _ _ hb hv => ⟨rfl, hb, hv⟩) g2 i
                obtain ⟨h', k1, k2⟩ := setMap_rel hW (es2' := es'.modify i fun e => { key := kv, val := e.val, born := e.born }) e hg hm g1 (by simpa using h2)
                refine ⟨.value (.tuple #[v', goInt e1.born]), _, _, _, m, h', ?_, .inl rfl, M.le_refl m, .tuple (.cons hv (.cons ?_ .nil)), k1, k2⟩
                · simp only [execOp, ho, hme, hke]
                  refine run_v ?_
                  simp only [Instr.mapEntry, Sem.run_bind, run_und (mapOf_und hmap), Result.andThen_ok, run_getObj_map g1, q2, q3, s1, run_setObj_map g1, Sem.run_pure, s3, Option.map_some, Option.getD_some]
                · rw [s4]; exact .int _ _
            · cases e
        · rename_i hf
          split at e
          · rename_i z hz
            rw [fNat_eq] at e
            obtain ⟨_, _, _, hpz, _⟩ := zeroOf_info hz
            obtain ⟨rfl, q2, r', q3, q4⟩ := findK_rel (P := P) hk g2 hf w
            cases r' with
            | some p => exact q4.elim
            | none =>
              have h2 : ER m (es ++ [⟨kv, z, clock⟩]) (es'.push { key := kv, val := z, born := clock }).toList := by
                rw [Array.toList_push]
                exact g2.append (.cons rfl rfl (plain_rel m z hpz) .nil)
              obtain ⟨h', k1, k2⟩ := setMap_rel hW e hg hm g1 h2
              refine ⟨.value (.tuple #[z, goInt clock]), _, _, _, m, h', ?_, .inl rfl, M.le_refl m, .tuple (.cons (plain_rel m z hpz) (.cons (.int _ _) .nil)), k1, k2⟩
              simp only [execOp, ho, hme, hke]
              refine run_v ?_
              simp only [Instr.mapEntry, Sem.run_bind, run_und (mapOf_und hmap), Result.andThen_ok, run_getObj_map g1, q2, q3, run_zero hz, run_setObj_map g1, Sem.run_pure]
          · cases e
        · cases e
      · cases e
  · cases e

theorem findBorn_rel : ∀ {es es' : List MapEntry}, ER m es es' → ∀ (b i j : Nat), findBorn es b i = some j → ∃ k, j = i + k ∧ es'.findIdx? (fun e => (e.born : Int) == (b : Int)) = some k
  | _, _, .nil, b, i, j, h => by cases h
  | _, _, .cons (e := e) (e' := e') hk hb hv ht, b, i, j, h => by
    simp only [findBorn] at h
    cases hbb : Nat.beq e.born b with
    | true =>
      rw [hbb, cond_true] at h
      cases h
      refine ⟨0, rfl, ?_⟩
      rw [List.findIdx?_cons, if_pos]
      rw [← hb, Nat.eq_of_beq_eq_true hbb]
      simp
    | false =>
      rw [hbb, cond_false] at h
      obtain ⟨k, rfl, g2⟩ := findBorn_rel ht b (i + 1) j h
      refine ⟨k + 1, by omega, ?_⟩
      rw [List.findIdx?_cons, if_neg, g2]
      · rfl
      · rw [← hb]
        have := Nat.ne_of_beq_eq_false hbb
        simp
        omega

theorem wEntryStore_rel (hW : WR P m w0 h w) {ty : TypeId} {mo so xo : Operand} {mv sv xv : Value} {K : KV} (e : wEntryStore h sv xv K mv = true) (o : Oper) (ρ : Operand → Value)
    (ho : o.op = .entryStore ty mo so xo) (hm : VR m mv (ρ mo)) (hs : VR m sv (ρ so)) (hx : VR m xv (ρ xo)) : Ran P m w0 w K (execOp ρ o) := by
  unfold wEntryStore at e
  split at e
  · rename_i r
    generalize hme : ρ mo = mv' at hm
    generalize hse : ρ so = sv' at hs
    cases hm with
    | @map _ R d hm =>
      split at e
      · rename_i es clock k b hes
        cases hs
        have hg := hW.entries_full hes
        obtain ⟨es', g1, g2⟩ := hW.entries hes hm
        cases hok : okV xv with
        | false => rw [hok] at e; cases e
        | true =>
          rw [hok, cond_true] at e
          unfold wEntryStore1 at e
          split at e
          · rename_i i hf
            obtain ⟨j, q1, q2⟩ := findBorn_rel g2 b 0 i hf
            have : i = j := by omega
            subst this
            have h2 := ER.modify (m := m) (f := fun e => { key := e.key, val := xv, born := e.born }) (f' := fun e => { key := e.key, val := ρ xo, born := e.born }) (fun _ _ hk hb _ => ⟨hk, hb, hx⟩) g2 i
            obtain ⟨h', k1, k2⟩ := setMap_rel hW (es2' := es'.modify i fun e => { key := e.key, val := ρ xo, born := e.born }) e hg hm g1 (by simpa using h2)
            refine ⟨.skip, undef, undef, _, m, h', ?_, .inr ⟨rfl, rfl⟩, M.le_refl m, undef_rel m, k1, k2⟩
            have q3 : es'.findIdx? (fun e => (e.born : Int) == (b : Int)) = some i := by
              have q4 := List.findIdx?_toArray (fun e : MapEntry => (e.born : Int) == (b : Int)) es'.toList
              rw [Array.toArray_toList] at q4
              rw [q4]
              exact q2
            simp only [execOp, ho, hme, hse, Sem.run_bind, Instr.entryStore, run_getObj_map g1, Result.andThen_ok, asInt, asIntOf, Sem.run_pure, Int.ofNat_eq_natCast, q3, run_setObj_map g1]
          · cases e
      · cases e
  · cases e

end
end Go.Ev
