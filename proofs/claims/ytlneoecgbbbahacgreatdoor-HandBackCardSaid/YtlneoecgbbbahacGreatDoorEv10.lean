/- Single operations that write. -/
import Derived.Test.YtlneoecgbbbahacGreatDoorEv9
namespace Go.Ev
open Go.RowKit

section
variable {P : Program} {m : M} {w0 w : World} {h : AHeap} {t : T Value} {n : Nat} {a : Act}

/-- The operation runs, and hands over something that the continuation takes. -/
def Ran (P : Program) (m : M) (w0 w : World) (K : KV) (s : Sem Next) : Prop :=
  ∃ r v v' w' m' h', s.run P w = .ok r w' ∧ (r = .value v' ∨ (r = .skip ∧ v' = undef)) ∧ M.le m m' ∧ VR m' v v' ∧ WR P m' w0 h' w' ∧ K v h' = true

theorem run_newRow (el : TypeId) (c : Array Value) (w : World) : (newRow el c).run P w = .ok ⟨w.heap.size, 0, none⟩ (w.alloc (.cells c el)) := by
  simp only [newRow, Sem.run_bind, run_newObj, Result.andThen_ok, Sem.run_pure]
  rfl

theorem run_newVar (el : TypeId) (v : Value) (w : World) : (newVar el v).run P w = .ok ⟨w.heap.size, 0, none⟩ (w.alloc (.cells v.cells el)) := run_newRow el v.cells w

theorem wAlloc_rel (hW : WR P m w0 h w) {el : TypeId} {K : KV} (e : wAlloc P h el K = true) (o : Oper) (ρ : Operand → Value) (ho : o.op = .alloc el) : Ran P m w0 w K (execOp ρ o) := by
  unfold wAlloc at e
  split at e
  · rename_i z hz
    obtain ⟨_, _, _, hpz, hoz⟩ := zeroOf_info hz
    obtain ⟨m', h', k1, k2, k3, k4⟩ := newC_rel hW e z.cells el (plain_cells hpz) (plain_ones hpz hoz)
    refine ⟨.value (.pointer (some ⟨w.heap.size, 0, none⟩)), _, _, _, m', h', ?_, .inl rfl, k1, .ptr 0 k2, k3, k4⟩
    simp only [execOp, ho]
    refine run_v ?_
    simp only [Instr.alloc, Sem.run_bind, run_zero hz, Result.andThen_ok, run_newVar, Sem.run_pure]
  · cases e

theorem wBox_rel (hW : WR P m w0 h w) {el : TypeId} {x : Operand} {v : Value} {K : KV} (e : wBox h v K = true) (o : Oper) (ρ : Operand → Value) (ho : o.op = .box el x) (hv : VR m v (ρ x)) : Ran P m w0 w K (execOp ρ o) := by
  unfold wBox at e
  cases hok : okV v with
  | false => rw [hok] at e; cases e
  | true =>
    rw [hok, cond_true] at e
    obtain ⟨q1, q2⟩ := cells_rel hv hok
    obtain ⟨m', h', k1, k2, k3, k4⟩ := newC_rel hW e (ρ x).cells el q1 q2
    refine ⟨.value (.pointer (some ⟨w.heap.size, 0, none⟩)), _, _, _, m', h', ?_, .inl rfl, k1, .ptr 0 k2, k3, k4⟩
    simp only [execOp, ho]
    refine run_v ?_
    simp only [Instr.box, Sem.run_bind, Result.andThen_ok, run_newVar, Sem.run_pure]

/-! ## Rows of zeros -/
theorem repl_append (z : List Value) : ∀ (k : Nat) (acc : List Value), repl z k acc = repl z k [] ++ acc
  | 0, acc => rfl
  | k + 1, acc => by
    simp only [repl]
    rw [repl_append z k (z ++ acc), repl_append z k (z ++ [])]
    simp

theorem repl_succ (z : List Value) (k : Nat) : repl z (k + 1) [] = repl z k [] ++ z := by
  simp only [repl]
  rw [repl_append]
  simp

theorem repl_length (z : List Value) : ∀ k : Nat, (repl z k []).length = k * z.length
  | 0 => by simp [repl]
  | k + 1 => by rw [repl_succ, List.length_append, repl_length z k, Nat.add_mul]; simp

theorem repl_get (z : List Value) : ∀ (k i : Nat), i < k * z.length → (repl z k [])[i]? = z[i % z.length]?
  | 0, i, hi => by simp at hi
  | k + 1, i, hi => by
    rw [repl_succ]
    by_cases h : i < k * z.length
    · rw [List.getElem?_append_left (by rw [repl_length]; exact h), repl_get z k i h]
    · rw [List.getElem?_append_right (by rw [repl_length]; omega), repl_length]
      have h2 : i - k * z.length < z.length := by rw [Nat.add_mul] at hi; omega
      have h3 : i % z.length = i - k * z.length := by
        have h4 : k * z.length = z.length * k := Nat.mul_comm _ _
        obtain ⟨j, hj⟩ : ∃ j, i = j + k * z.length := ⟨i - k * z.length, by omega⟩
        have h5 : i - k * z.length = j := by omega
        rw [h5] at h2 ⊢
        rw [hj, h4, Nat.add_mul_mod_self_left, Nat.mod_eq_of_lt h2]
      rw [h3]

theorem zeros_eq (z : Array Value) (k : Nat) : ((Array.range (k * z.size)).map fun i => z[i % z.size]!).toList = repl z.toList k [] := by
  apply List.ext_getElem?
  intro i
  by_cases hi : i < k * z.size
  · rw [repl_get z.toList k i (by simpa using hi)]
    have hz : 0 < z.size := by
      rcases Nat.eq_zero_or_pos z.size with h0 | h0
      · rw [h0] at hi; simp at hi
      · exact h0
    have hm : i % z.size < z.size := Nat.mod_lt _ hz
    simp only [Array.toList_map, Array.toList_range, List.getElem?_map, List.getElem?_range hi, Option.map_some, Array.length_toList, Array.getElem?_toList]
    rw [getElem!_pos z _ hm, Array.getElem?_eq_getElem hm]
  · rw [List.getElem?_eq_none (by simpa using hi), List.getElem?_eq_none (by rw [repl_length]; simpa using hi)]

theorem repl_rel {z : List Value} (hz : LR m z z) : ∀ k : Nat, LR m (repl z k []) (repl z k [])
  | 0 => .nil
  | k + 1 => by rw [repl_succ]; exact (repl_rel hz k).append hz

theorem repl_mem {z : List Value} : ∀ (k : Nat) (u : Value), u ∈ repl z k [] → u ∈ z
  | 0, u, hu => by simp [repl] at hu
  | k + 1, u, hu => by
    rw [repl_succ, List.mem_append] at hu
    rcases hu with hu | hu
    · exact repl_mem k u hu
    · exact hu

theorem wBuildSlice_rel (hW : WR P m w0 h w) {ty : TypeId} {len : Nat} {parts : Array (Nat × Operand)} {l l' : List (Nat × Value)} {K : KV} (e : wBuildSlice P h ty len l K = true)
    (o : Oper) (ρ : Operand → Value) (ho : o.op = .buildSlice ty len parts) (hl : PR m l l') (hp : (parts.map fun p => (p.1, ρ p.2)) = l'.toArray) : Ran P m w0 w K (execOp ρ o) := by
  unfold wBuildSlice at e
  split at e
  · rename_i el hs
    split at e
    · rename_i sz z hsz hz
      obtain ⟨_, _, _, hpz, hoz⟩ := zeroOf_info hz
      cases hc : (okP l && (Nat.ble (Nat.mul len sz) 16777216 && Nat.beq z.cells.size sz)) with
      | false => rw [hc] at e; cases e
      | true =>
        rw [hc, cond_true] at e
        simp only [Bool.and_eq_true] at hc
        obtain ⟨c1, c2, c3⟩ := hc
        have c2' : len * sz ≤ 16777216 := Nat.le_of_ble_eq_true c2
        have c3' : z.cells.size = sz := Nat.eq_of_beq_eq_true c3
        unfold wSlice1 at e
        split at e
        · rename_i cs hf
          have hzs := zeros_eq z.cells len
          rw [c3'] at hzs
          obtain ⟨r', g1, g2, g3⟩ := fill_rel (m := m) (place' := fun k => some (k * sz, sz)) (fun _ _ h => h) hl c1 (cs' := (Array.range (len * sz)).map fun i => z.cells[i % sz]!)
            (by rw [hzs]; exact repl_rel (plain_cells hpz) len) (by rw [hzs]; exact fun u hu => plain_ones hpz hoz u (repl_mem len u hu)) hf
          obtain ⟨m', h', k1, k2, k3, k4⟩ := newC_rel hW e r' el g2 g3
          refine ⟨.value (.slice (some ⟨w.heap.size, 0, none⟩) len len), _, _, _, m', h', ?_, .inl rfl, k1, .sl 0 len len len k2 (Nat.le_refl _) (.inl rfl), k3, k4⟩
          simp only [execOp, ho]
          refine run_v ?_
          have hz4 : len * sz = 0 → ((Array.range (len * sz)).map fun i => (#[] : Array Value)[i % (#[] : Array Value).size]!) = (Array.range (len * sz)).map fun i => z.cells[i % sz]! := by
            intro h0; rw [h0]; simp
          simp only [Instr.buildSlice, Sem.run_bind, run_und (slOf_und hs), Result.andThen_ok, run_sizeB hsz]
          rw [if_neg (by omega)]
          by_cases h0 : len * sz = 0
          · simp only [if_pos h0, Sem.run_bind, Sem.run_pure, Result.andThen_ok, hz4 h0, hp, g1, run_newRow]
          · simp only [if_neg h0, Sem.run_bind, Sem.run_pure, Result.andThen_ok, run_zero hz, c3', hp, g1, run_newRow]
        · cases e
    · cases e
  · cases e

theorem wStore_rel (hW : WR P m w0 h w) {ty : TypeId} {p x : Operand} {pv xv : Value} {K : KV} (e : wStore P h ty xv K pv = true) (o : Oper) (ρ : Operand → Value) (ho : o.op = .store ty p x)
    (hp : VR m pv (ρ p)) (hx : VR m xv (ρ x)) : Ran P m w0 w K (execOp ρ o) := by
  unfold wStore at e
  split at e
  · rename_i b off
    generalize hpe : ρ p = p' at hp
    cases hp with
    | @ptr _ B d _ hm =>
      split at e
      · rename_i sz hsz
        cases hc : (okV xv && Nat.beq xv.cells.size sz) with
        | false => rw [hc] at e; cases e
        | true =>
          rw [hc, cond_true] at e
          simp only [Bool.and_eq_true] at hc
          have c2 : xv.cells.size = sz := Nat.eq_of_beq_eq_true hc.2
          obtain ⟨q1, q2⟩ := cells_rel hx hc.1
          obtain ⟨h', k1, k2, k3⟩ := storeC_rel hW e hm q1 q2
          refine ⟨.skip, undef, undef, _, m, h', ?_, .inr ⟨rfl, rfl⟩, M.le_refl m, undef_rel m, k1, k2⟩
          have hst := run_storeCells_cells (P := P) B (off + d) (ρ x).cells.toList 0 w (fun j hj => (k3 j hj).1) (fun j hj => (k3 j hj).2) (fun v hv => by rw [← oneB_eq]; exact q2 v hv)
          simp only [Nat.add_zero] at hst
          have hsz2 := cells_size hx hc.1
          simp only [execOp, ho, hpe]
          simp only [Instr.storeAt, Instr.sureAddr, Sem.run_bind, Sem.run_pure, Result.andThen_ok, storeVar, run_sizeB hsz]
          rw [if_neg (by omega)]
          simp only [Result.andThen_ok, hst]
      · cases e
  · cases e

theorem wMakeMap_rel (hW : WR P m w0 h w) {K : KV} (e : wMakeMap h K = true) :
    ∃ v v' m' h', M.le m m' ∧ v' = .map (some w.heap.size) ∧ VR m' v v' ∧ WR P m' w0 h' (w.alloc (.map #[] 0)) ∧ K v h' = true := by
  unfold wMakeMap at e
  obtain ⟨m', h', k1, k2, k3, k4⟩ := newO_rel hW e (.map #[] 0) rfl rfl (fun m' _ => ⟨#[], heap_alloc_new w _, .nil⟩)
  exact ⟨_, _, m', h', k1, rfl, .map k2, k3, k4⟩

theorem wMakeMap_op (hW : WR P m w0 h w) {K : KV} (e : wMakeMap h K = true) (ty : TypeId) (o : Oper) (ρ : Operand → Value) (ho : o.op = .makeMap ty none) : Ran P m w0 w K (execOp ρ o) := by
  obtain ⟨v, v', m', h', k1, rfl, k2, k3, k4⟩ := wMakeMap_rel hW e
  refine ⟨.value (.map (some w.heap.size)), v, _, _, m', h', ?_, .inl rfl, k1, k2, k3, k4⟩
  simp only [execOp, ho]
  refine run_v ?_
  simp [Instr.makeMap]

theorem wMakeMap_op' (hW : WR P m w0 h w) {K : KV} (e : wMakeMap h K = true) (ty : TypeId) (x : Operand) {v0 : Value} {p : TypeId × TypeId} (hm : mapOf P ty = some p) (o : Oper) (ρ : Operand → Value) (ho : o.op = .makeMap ty (some x))
    (hx : VR m v0 (ρ x)) (hi : isIntV v0 = true) : Ran P m w0 w K (execOp ρ o) := by
  obtain ⟨v, v', m', h', k1, rfl, k2, k3, k4⟩ := wMakeMap_rel hW e
  refine ⟨.value (.map (some w.heap.size)), v, _, _, m', h', ?_, .inl rfl, k1, k2, k3, k4⟩
  obtain ⟨kt, et⟩ := p
  generalize hr : ρ x = x' at hx
  cases v0 with
  | int k i =>
    cases hx
    simp only [execOp, ho, Option.map_some, hr]
    refine run_v ?_
    simp [Instr.makeMap, run_und (mapOf_und hm), asInt, asIntOf]
  | _ => cases hi

end
end Go.Ev
