/- Operations that only read: aggregates, maps, bytes; the theorem. -/
import Derived.Test.YtlneoecgbbbahacGreatDoorEv6
import Derived.Laws.IdiomStrings
namespace Go.Ev
open Go.RowKit

section
variable {P : Program} {m : M} {w0 w : World} {h : AHeap} {t : T Value} {n : Nat} {a : Act}

/-! ## Aggregates -/
theorem LR.set : ∀ {l l' : List Value}, LR m l l' → ∀ (i : Nat) {v v' : Value}, VR m v v' → LR m (l.set i v) (l'.set i v')
  | _, _, .nil, _, _, _, _ => by simp; exact .nil
  | _, _, .cons _ k, 0, _, _, hv => by simp only [List.set_cons_zero]; exact .cons hv k
  | _, _, .cons x k, i + 1, _, _, hv => by simp only [List.set_cons_succ]; exact .cons x (LR.set k i hv)

theorem cells_rel {v v' : Value} (k : VR m v v') (ho : okV v = true) : LR m v.cells.toList v'.cells.toList ∧ ∀ u ∈ v'.cells.toList, oneB u = true := by
  cases k with
  | any _ _ _ _ => cases ho
  | tuple _ => cases ho
  | agg k h1 => exact ⟨k, h1⟩
  | bool b => exact ⟨.cons (.bool b) .nil, by simp [Value.cells, oneB]⟩
  | int k n => exact ⟨.cons (.int k n) .nil, by simp [Value.cells, oneB]⟩
  | float k n => exact ⟨.cons (.float k n) .nil, by simp [Value.cells, oneB]⟩
  | string s => exact ⟨.cons (.string s) .nil, by simp [Value.cells, oneB]⟩
  | nilPtr => exact ⟨.cons .nilPtr .nil, by simp [Value.cells, oneB]⟩
  | ptr off e => exact ⟨.cons (.ptr off e) .nil, by simp [Value.cells, oneB]⟩
  | nilSl => exact ⟨.cons .nilSl .nil, by simp [Value.cells, oneB]⟩
  | sl off len cap cap' e hc hz => exact ⟨.cons (.sl off len cap cap' e hc hz) .nil, by simp [Value.cells, oneB]⟩
  | emp a c => exact ⟨.cons (.emp a c) .nil, by simp [Value.cells, oneB]⟩
  | nilMap => exact ⟨.cons .nilMap .nil, by simp [Value.cells, oneB]⟩
  | map e => exact ⟨.cons (.map e) .nil, by simp [Value.cells, oneB]⟩
  | nilChan => exact ⟨.cons .nilChan .nil, by simp [Value.cells, oneB]⟩
  | func f a c => exact ⟨.cons (.func f a c) .nil, by simp [Value.cells, oneB]⟩
  | yield e a c => exact ⟨.cons (.yield e a c) .nil, by simp [Value.cells, oneB]⟩
  | nilFunc => exact ⟨.cons .nilFunc .nil, by simp [Value.cells, oneB]⟩
  | nilIface => exact ⟨.cons .nilIface .nil, by simp [Value.cells, oneB]⟩
  | iface t k => exact ⟨.cons (.iface t k) .nil, by simp [Value.cells, oneB]⟩

theorem cells_size {v v' : Value} (k : VR m v v') (ho : okV v = true) : v.cells.size = v'.cells.size := by
  have := (cells_rel k ho).1.length
  simpa using this

def putAt (off : Nat) (cs : Array Value) (p : Value × Nat) : Array Value := cs.setIfInBounds (off + p.2) p.1

theorem fold_rel (off : Nat) : ∀ {l l' : List Value}, LR m l l' → ∀ (j : Nat) {cs cs' : Array Value}, LR m cs.toList cs'.toList →
    LR m ((l.zipIdx j).foldl (putAt off) cs).toList ((l'.zipIdx j).foldl (putAt off) cs').toList
  | _, _, .nil, _, _, _, k => by simpa using k
  | _, _, .cons x r, j, cs, cs', k => by
    simp only [List.zipIdx_cons, List.foldl_cons]
    refine fold_rel off r (j + 1) ?_
    simp only [putAt, Array.toList_setIfInBounds]
    exact k.set _ x

theorem fold_one (off : Nat) : ∀ (l : List Value), (∀ u ∈ l, oneB u = true) → ∀ (j : Nat) (cs : Array Value), (∀ u ∈ cs.toList, oneB u = true) →
    ∀ u ∈ ((l.zipIdx j).foldl (putAt off) cs).toList, oneB u = true
  | [], _, _, cs, k => by simpa using k
  | x :: r, hl, j, cs, k => by
    simp only [List.zipIdx_cons, List.foldl_cons]
    refine fold_one off r (fun u hu => hl u (by simp [hu])) (j + 1) _ ?_
    simp only [putAt, Array.toList_setIfInBounds]
    intro u hu
    rcases List.mem_or_eq_of_mem_set hu with hu | hu
    · exact k u hu
    · subst hu; exact hl _ (by simp)

inductive PR (m : M) : List (Nat × Value) → List (Nat × Value) → Prop
  | nil : PR m [] []
  | cons {i : Nat} {v v' : Value} {l l' : List (Nat × Value)} (h : VR m v v') (ht : PR m l l') : PR m ((i, v) :: l) ((i, v') :: l')

theorem parts_rel (hT : TR m t n a.tmps) (hg : ∀ g, g < P.globals.size → m g = some (g, 0)) : ∀ l : List (Nat × Operand),
    PR m (l.map fun p => (p.1, ev P t p.2)) (l.map fun p => (p.1, a.eval p.2))
  | [] => .nil
  | p :: l => .cons (ev_rel hT hg p.2) (parts_rel hT hg l)

theorem fill_rel {place place' : Nat → Option (Nat × Nat)} (hp : ∀ k p, place k = some p → place' k = some p) : ∀ {l l' : List (Nat × Value)}, PR m l l' → okP l = true → ∀ {cs cs' : Array Value} {r : Array Value},
    LR m cs.toList cs'.toList → (∀ u ∈ cs'.toList, oneB u = true) → Instr.fill place cs l = some r →
    ∃ r', Instr.fill place' cs' l' = some r' ∧ LR m r.toList r'.toList ∧ ∀ u ∈ r'.toList, oneB u = true
  | _, _, .nil, _, cs, cs', r, k, k1, e => by
    simp only [Instr.fill, Option.some.injEq] at e
    subst e
    exact ⟨cs', by simp [Instr.fill], k, k1⟩
  | _, _, .cons (i := i) (v := v) (v' := v') hv ht, ho, cs, cs', r, k, k1, e => by
    simp only [okP, Bool.and_eq_true] at ho
    simp only [Instr.fill] at e
    split at e
    · cases e
    · rename_i off size hpl
      split at e
      · cases e
      · rename_i hc
        have hsz := cells_size hv ho.1
        have hcs : cs.size = cs'.size := by simpa using k.length
        have hr := cells_rel hv ho.1
        have e1 : (v.cells.zipIdx.foldl (fun cs x => cs.setIfInBounds (off + x.2) x.1) cs) = (v.cells.toList.zipIdx 0).foldl (putAt off) cs := by
          rw [← Array.foldl_toList]
          simp
          rfl
        have e1' : (v'.cells.zipIdx.foldl (fun cs x => cs.setIfInBounds (off + x.2) x.1) cs') = (v'.cells.toList.zipIdx 0).foldl (putAt off) cs' := by
          rw [← Array.foldl_toList]
          simp
          rfl
        rw [e1] at e
        obtain ⟨r', g1, g2, g3⟩ := fill_rel hp ht ho.2 (fold_rel off hr.1 0 k) (fold_one off _ hr.2 0 cs' k1) e
        refine ⟨r', ?_, g2, g3⟩
        simp only [Instr.fill, hp _ _ hpl]
        rw [if_neg (by rw [← hsz, ← hcs]; exact hc), e1']
        exact g1

theorem zeroOf_info {ty : TypeId} {z : Value} (e : zeroOf P ty = some z) : ∃ i, P.info? ty = some i ∧ i.zero = some z ∧ plainB z = true ∧ okV z = true := by
  unfold zeroOf at e
  split at e
  · rename_i i hi
    split at e
    · rename_i z' hz
      cases hp : (plainB z' && okV z') with
      | false => rw [hp] at e; cases e
      | true =>
        rw [hp, cond_true] at e; cases e
        simp only [Bool.and_eq_true] at hp
        exact ⟨i, hi, hz, hp.1, hp.2⟩
    · cases e
  · cases e

theorem run_zero {ty : TypeId} {z : Value} (e : zeroOf P ty = some z) (w : World) : (zeroValue ty).run P w = .ok z w := by
  obtain ⟨i, hi, hz, _⟩ := zeroOf_info e
  simp [zeroValue, run_info hi, hz]

theorem plain_cells {m : M} {z : Value} (hp : plainB z = true) : LR m z.cells.toList z.cells.toList := by
  cases z with
  | agg cs => simp only [plainB, Bool.and_eq_true] at hp; exact plainA_rel m cs hp.1
  | _ => exact .cons (plain_rel m _ hp) .nil

theorem plain_ones {z : Value} (hp : plainB z = true) (ho : okV z = true) : ∀ u ∈ z.cells.toList, oneB u = true := (cells_rel (m := ⟨fun _ => none, fun _ => none⟩) (plain_rel _ z hp) ho).2

theorem placesL_run : ∀ {fs : List Field} {ps : List (Nat × Nat)}, placesL P fs = some ps → ∀ w, (fs.mapM fun f => do pure (f.offset, ← sizeOf f.type) : Sem (List (Nat × Nat))).run P w = .ok ps w
  | [], ps, e, w => by simp only [placesL, Option.some.injEq] at e; subst e; simp
  | f :: l, ps, e, w => by
    simp only [placesL] at e
    split at e
    · rename_i sz qs h1 h2
      cases e
      have := placesL_run h2 w
      simp only [List.mapM_cons, Sem.run_bind, run_sizeB h1, Result.andThen_ok, Sem.run_pure, this]
    · cases e

theorem rBuild_rel {ty : TypeId} {l l' : List (Nat × Value)} {v : Value} (k : PR m l l') (e : rBuild P ty l = some v) : ∃ v', (Instr.build ty l'.toArray).run P w = .ok v' w ∧ VR m v v' := by
  unfold rBuild at e
  have key : ∀ (place place' : Nat → Option (Nat × Nat)) (z : Value), plainB z = true → okV z = true → (∀ k p, place k = some p → place' k = some p) → fillA place z l = some v →
      ∃ r', Instr.fill place' z.cells l' = some r' ∧ VR m v (.agg r') := by
    intro place place' z hz hoz hp he
    unfold fillA at he
    cases ho : okP l with
    | false => rw [ho] at he; cases he
    | true =>
      rw [ho, cond_true] at he
      split at he
      · rename_i cs hf
        cases he
        obtain ⟨r', g1, g2, g3⟩ := fill_rel hp k ho (plain_cells hz) (plain_ones hz hoz) hf
        exact ⟨r', g1, .agg g2 g3⟩
      · cases he
  split at e
  · rename_i z fields hz hu
    obtain ⟨_, _, _, hpz, hoz⟩ := zeroOf_info hz
    split at e
    · rename_i ps hps
      obtain ⟨r', g1, g2⟩ := key _ (fun k => ps[k]?) z hpz hoz (fun _ _ h => h) e
      refine ⟨_, ?_, g2⟩
      have hm : (fields.mapM fun f => do pure (f.offset, ← sizeOf f.type) : Sem (Array (Nat × Nat))).run P w = .ok ps.toArray w := by
        rw [Array.mapM_eq_mapM_toList, Sem.run_map, placesL_run hps w]
        rfl
      simp only [Instr.build, Sem.run_bind, run_zero hz, Result.andThen_ok, run_und hu, hm]
      simp only [List.getElem?_toArray, g1]
      rfl
    · cases e
  · rename_i z len el hz hu
    obtain ⟨_, _, _, hpz, hoz⟩ := zeroOf_info hz
    split at e
    · rename_i sz hs
      obtain ⟨r', g1, g2⟩ := key _ _ z hpz hoz (fun _ _ h => h) e
      refine ⟨_, ?_, g2⟩
      simp only [Instr.build, Sem.run_bind, run_zero hz, Result.andThen_ok, run_und hu, run_sizeB hs, g1]
      rfl
    · cases e
  · cases e

/-! ## Maps -/
/-- What a search finds. -/
def KR (m : M) : Option (Nat × Value) → Option (Nat × Value) → Prop
  | none, none => True
  | some (i, v), some (j, v') => i = j ∧ VR m v v'
  | _, _ => False

theorem findNow_rel (d : TypeDesc) (k : Value) : ∀ {es es' : List MapEntry}, ER m es es' → ∀ i : Nat,
    (Instr.findNow d k es i = none → Instr.findNow d k es' i = none) ∧ (∀ r, Instr.findNow d k es i = some r → ∃ r', Instr.findNow d k es' i = some r' ∧ KR m r r')
  | _, _, .nil, i => ⟨fun h => by simp [Instr.findNow] at h, fun r h => by simp only [Instr.findNow, Option.some.injEq] at h; subst h; exact ⟨none, by simp [Instr.findNow], trivial⟩⟩
  | _, _, .cons (e := e) (e' := e') hk hb hv ht, i => by
    have ih := findNow_rel d k ht (i + 1)
    simp only [Instr.findNow, ← hk]
    cases hs : Instr.sameNow d k e.key with
    | none => exact ⟨fun _ => rfl, fun r h => by cases h⟩
    | some b =>
      cases b with
      | true => exact ⟨fun h => (by cases h), fun r h => by simp only [Option.some.injEq] at h; subst h; exact ⟨_, rfl, rfl, hv⟩⟩
      | false => exact ih

theorem pureOf_bind {α β : Type} (x : Sem α) (f : α → Sem β) : pureOf P (x >>= f) = match pureOf P x with | some a => pureOf P (f a) | none => none := by
  show pureOf P (x.bind f) = _
  induction x with
  | pure b => rfl
  | program k ih => simp only [Sem.bind, pureOf]; exact ih P
  | mark mk k ih => simp only [Sem.bind, pureOf]; exact ih
  | _ => rfl

theorem findAsking_rel (kt : TypeId) (k : Value) : ∀ {es es' : List MapEntry}, ER m es es' → ∀ (i : Nat) {r : Option (Nat × Value)}, pureOf P (Instr.findAsking kt k es i) = some r →
    ∃ r', (Instr.findAsking kt k es' i).run P w = .ok r' w ∧ KR m r r'
  | _, _, .nil, i, r, h => by
    simp only [Instr.findAsking, pureOf, pure, Option.some.injEq] at h
    subst h
    exact ⟨none, by simp [Instr.findAsking], trivial⟩
  | _, _, .cons (e := e) (e' := e') hk hb hv ht, i, r, h => by
    simp only [Instr.findAsking, pureOf_bind] at h
    split at h
    · rename_i b hb
      have hrun := pureOf_run (P := P) _ _ w hb
      rw [hk] at hrun
      cases b with
      | true =>
        simp only [if_true, pureOf, pure, Option.some.injEq] at h
        subst h
        exact ⟨some (i, e'.val), by simp [Instr.findAsking, hrun], rfl, hv⟩
      | false =>
        simp only [Bool.false_eq_true, if_false] at h
        obtain ⟨r', g1, g2⟩ := findAsking_rel kt k ht (i + 1) h
        exact ⟨r', by simp [Instr.findAsking, hrun, g1], g2⟩
    · cases h

theorem findKey_rel {kt : TypeId} {k : Value} {es es' : List MapEntry} (hE : ER m es es') {r : Option (Nat × Value)} (e : findKeyL P kt k es = some r) (w : World) :
    ∃ r', (Instr.findKey kt k es').run P w = .ok r' w ∧ KR m r r' := by
  unfold findKeyL Instr.findKey at e
  rw [pureOf_bind] at e
  split at e
  · rename_i d hd
    have hrd := pureOf_run (P := P) _ _ w hd
    have hf := findNow_rel d k hE 0
    simp only [Instr.findKey, Sem.run_bind, hrd, Result.andThen_ok]
    cases hn : Instr.findNow d k es 0 with
    | none =>
      rw [hn] at e
      obtain ⟨r', g1, g2⟩ := findAsking_rel (w := w) kt k hE 0 e
      exact ⟨r', by rw [hf.1 hn]; exact g1, g2⟩
    | some r0 =>
      rw [hn] at e
      simp only [pureOf, pure, Option.some.injEq] at e
      subst e
      obtain ⟨r', g1, g2⟩ := hf.2 _ hn
      exact ⟨r', by rw [g1]; rfl, g2⟩
  · cases e

theorem findK_rel {empty : Bool} {kt : TypeId} {k k' : Value} (hk : VR m k k') {es es' : List MapEntry} (hE : ER m es es') {r : Option (Nat × Value)} (e : findK P empty kt k es = some r) (w : World) :
    k = k' ∧ (Instr.checkKey empty 10000 kt k').run P w = .ok () w ∧ ∃ r', (Instr.findKey kt k' es').run P w = .ok r' w ∧ KR m r r' := by
  unfold findK at e
  cases hp : plainB k with
  | false => rw [hp] at e; cases e
  | true =>
    rw [hp, cond_true] at e
    obtain rfl := plain_eq _ _ hp hk
    split at e
    · rename_i u hu
      exact ⟨rfl, pureOf_run (P := P) _ _ w hu, findKey_rel hE e w⟩
    · cases e

theorem ER.length : ∀ {es es' : List MapEntry}, ER m es es' → es.length = es'.length
  | _, _, .nil => rfl
  | _, _, .cons _ _ _ h => by simp [ER.length h]

theorem ER.isEmpty {es : List MapEntry} {es' : Array MapEntry} (k : ER m es es'.toList) : es.isEmpty = es'.isEmpty := by
  have := k.length
  rw [Bool.eq_iff_iff]
  simp only [List.isEmpty_iff_length_eq_zero, Array.isEmpty_iff_size_eq_zero]
  rw [this]
  simp

theorem rLookup_rel (hW : WR P m w0 h w) (hT : TR m t n a.tmps) {o : Oper} {ty : TypeId} {x ix : Operand} {ok : Bool} {v : Value}
    (ho : o.op = .lookup ty x ix ok) (e : rLookup P t h o ty (ev P t ix) ok (ev P t x) = some v) :
    ∃ v', (execOp a.eval o).run P w = .ok (.value v') w ∧ VR m v v' := by
  have hx := ev_rel (P := P) hT hW.glob x
  have hi := ev_rel (P := P) hT hW.glob ix
  unfold rLookup at e
  split at e
  · rename_i r hev
    rw [hev] at hx
    generalize hx' : a.eval x = x' at hx
    cases hx with
    | @map _ R d hm =>
      split at e
      · rename_i kt et es clock hmap hes
        obtain ⟨es', g1, g2⟩ := hW.entries hes hm
        have hget : ∀ w', w' = w → (getObj R).run P w' = .ok (.map es' clock) w' := by
          rintro _ rfl
          simp only [getObj, Sem.run, g1]
        unfold rLookup1 at e
        split at e
        · rename_i i v0 hf
          split at e
          · rename_i z hz
            obtain ⟨q1, q2, r', q3, q4⟩ := findK_rel (P := P) hi g2 hf w
            cases r' with
            | none => exact q4.elim
            | some p =>
              obtain ⟨j, v'⟩ := p
              obtain ⟨rfl, hv⟩ := q4
              cases e
              rw [g2.isEmpty] at q2
              have hrun : (Instr.lookup ty (.map (some R)) (a.eval ix) ok).run P w = .ok (if ok then .tuple #[v', .bool true] else v') w := by
                simp only [Instr.lookup, Sem.run_bind, run_und (mapOf_und hmap), Result.andThen_ok, hget w rfl, Sem.run_pure, q2, q3]
              refine ⟨_, by simp only [execOp, ho, hx']; exact run_v hrun, ?_⟩
              cases ok with
              | true => exact .tuple (.cons hv (.cons (.bool true) .nil))
              | false => exact hv
          · cases e
        · rename_i hf
          split at e
          · rename_i z hz
            obtain ⟨q1, q2, r', q3, q4⟩ := findK_rel (P := P) hi g2 hf w
            obtain ⟨_, _, _, hpz, _⟩ := zeroOf_info hz
            cases r' with
            | some p => exact q4.elim
            | none =>
              cases e
              rw [g2.isEmpty] at q2
              have hrun : (Instr.lookup ty (.map (some R)) (a.eval ix) ok).run P w = .ok (if ok then .tuple #[z, .bool false] else z) w := by
                simp only [Instr.lookup, Sem.run_bind, run_und (mapOf_und hmap), Result.andThen_ok, hget w rfl, Sem.run_pure, q2, q3, run_zero hz]
              refine ⟨_, by simp only [execOp, ho, hx']; exact run_v hrun, ?_⟩
              cases ok with
              | true => exact .tuple (.cons (plain_rel m z hpz) (.cons (.bool false) .nil))
              | false => exact plain_rel m z hpz
          · cases e
        · cases e
      · cases e
  · exact ground_rel hT hW.glob o e w

/-! ## Bytes -/
theorem bytesGo_ints : ∀ (l : List Value) (acc : List UInt8) {v : Value}, bytesGo l acc = some v →
    ∃ bs : List UInt8, l = bs.map (fun b => Value.int .u8 (b.toNat : Int)) ∧ v = .string ⟨⟨acc.reverse ++ bs⟩⟩
  | [], acc, v, e => by simp only [bytesGo, Option.some.injEq] at e; exact ⟨[], rfl, by simp [← e]⟩
  | x :: l, acc, v, e => by
    unfold bytesGo at e
    split at e
    · contradiction
    · rename_i k l' heq
      cases heq
      cases hb : Nat.blt k 256 with
      | false => rw [hb] at e; cases e
      | true =>
        rw [hb, cond_true] at e
        have hk : k < 256 := by simpa [Nat.blt_eq] using hb
        obtain ⟨bs, h1, h2⟩ := bytesGo_ints l _ e
        refine ⟨UInt8.ofNat k :: bs, ?_, by simp [h2]⟩
        have : (UInt8.ofNat k).toNat = k := by simp; omega
        rw [List.map_cons, ← h1, this]
        rfl
    · cases e

theorem isBytes_und {src dst : TypeId} (e : isBytesTy P src dst = true) : ∃ el, P.underlying src = some (.slice el) ∧ P.underlying el = some (.int .u8) ∧ P.underlying dst = some .string := by
  unfold isBytesTy at e
  split at e
  · rename_i el hs
    split at e
    · rename_i hu; exact ⟨el, slOf_und hs, hu, strTy_und e⟩
    · cases e
  · cases e

theorem plainL_ints : ∀ bs : List UInt8, plainL (bs.map (fun b => Value.int .u8 (b.toNat : Int))) = true
  | [] => rfl
  | b :: bs => by simp only [List.map_cons, plainL, plainB, Bool.true_and]; exact plainL_ints bs

theorem rConv_rel (hW : WR P m w0 h w) (hT : TR m t n a.tmps) {o : Oper} {src dst : TypeId} {x : Operand} {v : Value}
    (ho : o.op = .convert src dst x) (e : rConv P t h o src dst (ev P t x) = some v) :
    ∃ v', (execOp a.eval o).run P w = .ok (.value v') w ∧ VR m v v' := by
  have hx := ev_rel (P := P) hT hW.glob x
  unfold rConv at e
  split at e
  · rename_i k z hev
    rw [hev] at hx
    generalize hx' : a.eval x = x' at hx
    cases hx
    unfold rConvInt at e
    split at e
    · rename_i d k' hs hd
      cases e
      refine ⟨_, ?_, .int _ _⟩
      simp only [execOp, ho, hx']
      refine run_v ?_
      rw [wrapF_eq]
      simp only [convert, Sem.run_bind, run_und hs, run_und hd, Result.andThen_ok, Conv.intToInt, Sem.run_pure]
    · exact ground_rel hT hW.glob o e w
  · rename_i b off k cap hev
    rw [hev] at hx
    generalize hx' : a.eval x = x' at hx
    cases hx with
    | @sl _ B d _ _ _ cap' hm hc _ =>
      cases hb : isBytesTy P src dst with
      | false => rw [hb] at e; cases e
      | true =>
        rw [hb, cond_true] at e
        obtain ⟨el, u1, u2, u3⟩ := isBytes_und hb
        split at e
        · rename_i c hcl
          obtain ⟨fam, ro, hor⟩ := hW.cells hcl hm
          unfold bytesOf at e
          cases hlen : Nat.beq ((c.drop off).take k).length k with
          | false => rw [hlen] at e; cases e
          | true =>
            rw [hlen, cond_true] at e
            have hlen' : ((c.drop off).take k).length = k := Nat.eq_of_beq_eq_true hlen
            obtain ⟨bs, e1, e2⟩ := bytesGo_ints _ _ e
            obtain ⟨l', k1, k2, k3⟩ := cells_range hor off ((c.drop off).take k) (fun j v hj => by
              rw [List.getElem?_take] at hj
              split at hj
              · simpa [List.getElem?_drop] using hj
              · cases hj)
            rw [e1] at k1 hlen'
            have k4 := plainL_eq _ _ (plainL_ints bs) k1
            subst k4
            have hk : bs.length = k := by simpa using hlen'
            refine ⟨.string ⟨bs.toArray⟩, ?_, ?_⟩
            · simp only [execOp, ho, hx']
              refine run_v ?_
              have := run_convert_bytes_back (P := P) w src dst el ⟨B, off + d, none⟩ cap' bs u1 u2 u3 (fun j hj => by
                rw [Addr.add_mid]
                exact k3 j _ (by simp [hj]))
              rw [hk] at this
              exact this
            · rw [e2]
              simp only [List.reverse_nil, List.nil_append]
              exact .string _
        · cases e
  · exact ground_rel hT hW.glob o e w

theorem rLen_rel (hW : WR P m w0 h w) (hT : TR m t n a.tmps) {o : Oper} {c : Call} {ty : TypeId} {tys : List TypeId} {x : Operand} {v : Value}
    (ho : o.op = .call c) (hc : c.callee = .builtin .len) (ha : c.args.toList = [x]) (ht : c.argTypes.toList = ty :: tys) (e : rLen P t h o ty (ev P t x) = some v) :
    ∃ v', (execOp a.eval o).run P w = .ok (.value v') w ∧ VR m v v' := by
  have hx := ev_rel (P := P) hT hW.glob x
  have ha' : c.args = #[x] := by rw [← Array.toArray_toList (xs := c.args), ha]
  have ht' : c.argTypes[0]? = some ty := by rw [← Array.getElem?_toList, ht]; rfl
  have hex : ∀ u, (Builtin.len_ c.argTypes o.type #[a.eval x]).run P w = .ok u w → (execOp a.eval o).run P w = .ok (.value u) w := by
    intro u hu
    simp only [execOp, ho, resolve, hc, ha', Sem.run_bind, Sem.run_pure, Result.andThen_ok, invoke, builtin]
    simp [hu]
  unfold rLen at e
  split at e
  · rename_i ad k cap hev
    rw [hev] at hx
    cases hs : isSlTy P ty with
    | false => rw [hs] at e; cases e
    | true =>
      rw [hs, cond_true] at e
      cases e
      obtain ⟨el, hel⟩ : ∃ el, slOf P ty = some el := by
        unfold isSlTy at hs
        split at hs
        · rename_i el hel; exact ⟨el, hel⟩
        · cases hs
      refine ⟨.int .i64 k, hex _ ?_, .int _ _⟩
      generalize hx' : a.eval x = x' at hx
      cases hx <;> simp [Builtin.len_, ht', run_und (slOf_und hel), goInt]
  · rename_i l hev
    rw [hev] at hx
    generalize hx' : a.eval x = x' at hx hex
    cases hx
    cases hs : isStrTy P ty with
    | false => rw [hs] at e; cases e
    | true =>
      rw [hs, cond_true] at e
      cases e
      exact ⟨.int .i64 l.length, hex _ (by simp [Builtin.len_, ht', run_und (strTy_und hs), goInt]; rfl), .int _ _⟩
  · rename_i r hev
    rw [hev] at hx
    generalize hx' : a.eval x = x' at hx hex
    cases hx with
    | @map _ R d hm =>
      split at e
      · rename_i p es clock hmap hes
        cases e
        obtain ⟨es', g1, g2⟩ := hW.entries hes hm
        have hget : (getObj R).run P w = .ok (.map es' clock) w := by simp only [getObj, Sem.run, g1]
        obtain ⟨kt, et⟩ := p
        refine ⟨.int .i64 es'.size, hex _ (by simp [Builtin.len_, ht', run_und (mapOf_und hmap), hget, goInt]), ?_⟩
        have := g2.length
        rw [this]
        simp only [Array.length_toList]
        exact .int _ _
      · cases e
  · exact ground_rel hT hW.glob o e w

theorem aread_rel (hW : WR P m w0 h w) (hT : TR m t n a.tmps) {o : Oper} {v : Value} (e : aread P t h o = some v) :
    ∃ v', (execOp a.eval o).run P w = .ok (.value v') w ∧ VR m v v' := by
  have hx := fun x => ev_rel (P := P) hT hW.glob x
  have hgr := fun e => ground_rel hT hW.glob o (v := v) e w
  unfold aread at e
  split at e
  · rename_i x ho; cases e; exact ⟨_, by simp [execOp, ho], hx x⟩
  · rename_i x ho; cases e; exact ⟨_, by simp [execOp, ho], hx x⟩
  · rename_i c p q ho
    obtain ⟨v', g1, g2⟩ := rPick_rel (P := P) (w := w) (hx p) (hx q) (hx c) e
    exact ⟨v', by simp only [execOp, ho]; exact g1, g2⟩
  · rename_i ty x ho
    obtain ⟨v', g1, g2⟩ := rLoad_rel hW (hx x) e
    exact ⟨v', by simp only [execOp, ho]; exact run_v g1, g2⟩
  · rename_i x ho
    exact rNilCheck_rel (hx x) e o a.eval x ho rfl
  · rename_i s x f ho
    obtain ⟨v', g1, g2⟩ := rFieldAddr_rel (w := w) (hx x) e
    exact ⟨v', by simp only [execOp, ho]; exact run_v g1, g2⟩
  · rename_i s x f ho
    obtain ⟨v', g1, g2⟩ := rField_rel (w := w) (hx x) e
    exact ⟨v', by simp only [execOp, ho]; exact run_v g1, g2⟩
  · rename_i ty x ix ho
    obtain ⟨v', g1, g2⟩ := rIndexAddr_rel (w := w) (hx x) (hx ix) e
    exact ⟨v', by simp only [execOp, ho]; exact run_v g1, g2⟩
  · rename_i ty x ix ho
    exact rIndex_rel hT hW.glob ho e
  · rename_i ty x lo hi ho
    exact rSlice_rel hW hT ho e
  · rename_i ty x ix ok ho
    exact rLookup_rel hW hT ho e
  · rename_i x i ho
    obtain ⟨v', g1, g2⟩ := rExtract_rel (P := P) (w := w) (hx x) e
    exact ⟨v', by simp only [execOp, ho]; exact run_v g1, g2⟩
  · rename_i ty x ho
    obtain ⟨v', g1, g2⟩ := rIface_rel (P := P) (w := w) (hx x) e
    exact ⟨v', by simp only [execOp, ho]; exact run_v g1, g2⟩
  · rename_i fn first captured ho
    cases hf : isFuncFn fn with
    | false => rw [hf] at e; cases e
    | true =>
      rw [hf, cond_true] at e
      cases e
      cases fn with
      | func f =>
        refine ⟨.func (.func f) (first.map a.eval) (captured.map a.eval), by simp [execOp, ho, Instr.makeFunc], .func f ?_ ?_⟩
        · simpa using evL_rel (P := P) hT hW.glob first.toList
        · simpa using evL_rel (P := P) hT hW.glob captured.toList
      | _ => cases hf
  · rename_i ty parts ho
    obtain ⟨v', g1, g2⟩ := rBuild_rel (P := P) (w := w) (parts_rel hT hW.glob parts.toList) e
    refine ⟨v', ?_, g2⟩
    simp only [execOp, ho]
    refine run_v ?_
    have hp : (parts.map fun p => (p.1, a.eval p.2)) = (parts.toList.map fun p => (p.1, a.eval p.2)).toArray := by
      apply Array.toList_inj.1
      simp
    rw [← g1, ← hp]
  · rename_i op ty x y yt ho
    exact rBin_rel hT hW.glob ho e
  · rename_i op ty x ho
    exact rUn_rel hT hW.glob ho e
  · rename_i src dst x ho
    exact rConv_rel hW hT ho e
  · rename_i c ho
    unfold rCall at e
    split at e
    · rename_i hc
      split at e
      · rename_i x ty tys ha ht
        exact rLen_rel hW hT ho hc ha ht e
      · cases e
    · exact hgr e
    · exact hgr e
    · cases e
  · cases e

end
end Go.Ev
