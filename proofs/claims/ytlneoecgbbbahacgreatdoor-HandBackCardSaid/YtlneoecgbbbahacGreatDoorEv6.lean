/- Operations that only read: the rest, and all of them. -/
import Derived.Test.YtlneoecgbbbahacGreatDoorEv5
import Derived.Laws.BytesString
import Derived.Laws.Slices
import Derived.IntWalk
namespace Go.Ev
open Go.RowKit

section
variable {P : Program} {m : M} {w0 w : World} {h : AHeap} {t : T Value} {n : Nat} {a : Act}

theorem run_v {s : Sem Value} {v : Value} {w w' : World} (e : s.run P w = .ok v w') : (do let y ← s; pure (Next.value y) : Sem Next).run P w = .ok (.value v) w' := by simp [e]

/-! ## Numbers -/
theorem beqI_iff (a b : Int) : beqI a b = (a == b) := by
  rw [Bool.eq_iff_iff, beq_iff_eq]
  cases a with
  | ofNat a => cases b with
    | ofNat b =>
      simp only [beqI, Int.ofNat_eq_natCast]
      exact ⟨fun h => by rw [Nat.eq_of_beq_eq_true h], fun h => by rw [Int.ofNat_inj.1 h]; exact Nat.beq_refl _⟩
    | negSucc b => simp [beqI]
  | negSucc a => cases b with
    | ofNat b => simp [beqI]
    | negSucc b =>
      simp only [beqI]
      exact ⟨fun h => by rw [Nat.eq_of_beq_eq_true h], fun h => by rw [Int.negSucc.inj h]; exact Nat.beq_refl _⟩

theorem leI_iff (a b : Int) : leI a b = decide (a ≤ b) := by
  rw [Bool.eq_iff_iff]
  cases a with
  | ofNat a => cases b with
    | ofNat b => simp only [leI, Nat.ble_eq, decide_eq_true_eq, Int.ofNat_eq_natCast]; omega
    | negSucc b => simp only [leI, decide_eq_true_eq, Int.ofNat_eq_natCast, Int.negSucc_eq, Bool.false_eq_true, false_iff]; omega
  | negSucc a => cases b with
    | ofNat b => simp only [leI, decide_eq_true_eq, Int.ofNat_eq_natCast, Int.negSucc_eq, true_iff]; omega
    | negSucc b => simp only [leI, Nat.ble_eq, decide_eq_true_eq, Int.negSucc_eq]; omega

theorem i64_key (z : Int) (h1 : -9223372036854775808 ≤ z) (h2 : z ≤ 9223372036854775807) : z = IntKind.i64.wrap z := (IntWalk.i64_in z ⟨h1, h2⟩).symm

theorem neg_key (k : Nat) (h : k < 9223372036854775808) : Int.negSucc k = IntKind.i64.wrap (Int.negSucc k) := by
  have e := Int.negSucc_eq k
  generalize Int.negSucc k = z at e
  exact i64_key z (by omega) (by omega)

theorem wrapF_eq (k : IntKind) (n : Int) : wrapF k n = k.wrap n := by
  cases k <;> try rfl
  cases n with
  | ofNat m =>
    simp only [wrapF]
    cases hb : Nat.blt m 9223372036854775808 with
    | false => rfl
    | true =>
      have hb' : m < 9223372036854775808 := by simpa [Nat.blt_eq] using hb
      rw [cond_true, Int.ofNat_eq_natCast]
      exact i64_key _ (by omega) (by omega)
  | negSucc m =>
    simp only [wrapF]
    cases hb : Nat.blt m 9223372036854775808 with
    | false => rw [cond_false]
    | true =>
      rw [cond_true]
      exact neg_key m (by simpa [Nat.blt_eq] using hb)

theorem beqKind_eq {k j : IntKind} (e : beqKind k j = true) : k = j := by cases k <;> cases j <;> first | rfl | cases e

theorem fastBin_run {op : BinOp} {k : IntKind} {x y : Int} {v : Value} (e : fastBin op k x y = some v) (ty : TypeId) (p q : Operand) (w : World) :
    (do eqGuard op ty p q (.int k x) (.int k y); binOp op ty (.int k x) (.int k y) : Sem Value).run P w = .ok v w := by
  have hg : (eqGuard op ty p q (.int k x) (.int k y)).run P w = .ok () w := by
    unfold eqGuard
    cases op <;> simp
  rw [Sem.run_bind, hg, Result.andThen_ok]
  unfold fastBin at e
  split at e <;> cases e
  all_goals simp only [binOp, Op.intArith, Op.intCmp, wrapF_eq, beqI_iff, leI_iff, ne_eq, not_true_eq_false, if_false, Sem.run_pure]
  all_goals try rfl
  all_goals
    congr 2
    rw [Bool.eq_iff_iff]
    simp

theorem nilEq_run {d : TypeDesc} {x x' y y' : Value} {b : Bool} (hx : VR m x x') (hy : VR m y y') (e : nilEq d x y = some b) {ty : TypeId} (hu : P.underlying ty = some d) (w : World) :
    (Op.equal ty x' y').run P w = .ok b w ∧ (∀ op p q, (eqGuard op ty p q x' y').run P w = .ok () w) ∧ (∀ op, op = .eql ∨ op = .neq → binOp op ty x' y' = match op with | .eql => (do pure (.bool (← Op.equal ty x' y'))) | _ => (do pure (.bool (!(← Op.equal ty x' y'))))) := by
  unfold nilEq at e
  split at e <;> cases e <;> cases hx <;> cases hy
  all_goals
    refine ⟨?_, ?_, ?_⟩
    · unfold Op.equal; rw [show Op.maxDepth = 9999 + 1 from rfl, Op.equalIn]; simp [run_und hu]
    · intro op p q
      unfold eqGuard
      cases op <;> simp
    · rintro op (rfl | rfl) <;> rfl

theorem rBin_rel (hT : TR m t n a.tmps) (hg : ∀ g, g < P.globals.size → m g = some (g, 0)) {o : Oper} {op : BinOp} {ty yt : TypeId} {x y : Operand} {v : Value}
    (ho : o.op = .binOp op ty x y yt) (e : rBin P t o op ty (ev P t y) (ev P t x) = some v) :
    ∃ v', (execOp a.eval o).run P w = .ok (.value v') w ∧ VR m v v' := by
  have hx := ev_rel (P := P) hT hg x
  have hy := ev_rel (P := P) hT hg y
  have hgr := fun e => ground_rel hT hg o (v := v) e w
  unfold rBin at e
  split at e
  · rename_i k x0 hev
    rw [hev] at hx
    unfold rBin1 at e
    split at e
    · rename_i k' y0 hev'
      rw [hev'] at hy
      cases hk : beqKind k k' with
      | false => rw [hk] at e; cases e
      | true =>
        rw [hk, cond_true] at e
        obtain rfl := beqKind_eq hk
        split at e
        · rename_i v0 hf
          cases e
          generalize hx' : a.eval x = x' at hx
          generalize hy' : a.eval y = y' at hy
          cases hx
          cases hy
          have := fastBin_run (P := P) hf ty x y w
          refine ⟨v, ?_, ?_⟩
          · simp only [execOp, ho, hx', hy']
            exact run_v this
          · unfold fastBin at hf
            split at hf <;> cases hf <;> first | exact .int _ _ | exact .bool _
        · exact hgr e
    · cases e
  · unfold rBin2 at e
    split at e
    · rename_i b hb
      unfold nilEqT at hb
      split at hb
      · rename_i d hu
        obtain ⟨k1, k2, k3⟩ := nilEq_run (P := P) hx hy hb hu w
        split at e
        · cases e
          refine ⟨_, ?_, .bool _⟩
          simp only [execOp, ho]
          refine run_v ?_
          rw [Sem.run_bind, k2, Result.andThen_ok, k3 _ (.inl rfl)]
          simp [k1]
        · cases e
          refine ⟨_, ?_, .bool _⟩
          simp only [execOp, ho]
          refine run_v ?_
          rw [Sem.run_bind, k2, Result.andThen_ok, k3 _ (.inr rfl)]
          simp [k1]
        · cases e
      · cases hb
    · exact hgr e

theorem rUn_rel (hT : TR m t n a.tmps) (hg : ∀ g, g < P.globals.size → m g = some (g, 0)) {o : Oper} {op : UnOp} {ty : TypeId} {x : Operand} {v : Value}
    (ho : o.op = .unOp op ty x) (e : rUn P t o op (ev P t x) = some v) : ∃ v', (execOp a.eval o).run P w = .ok (.value v') w ∧ VR m v v' := by
  have hx := ev_rel (P := P) hT hg x
  unfold rUn at e
  split at e
  · rename_i b hev
    rw [hev] at hx
    generalize hx' : a.eval x = x' at hx
    cases hx
    split at e
    · cases e
      exact ⟨_, by simp [execOp, ho, hx', Op.unary], .bool _⟩
    · cases e
  · exact ground_rel hT hg o e w

theorem rIndex_rel (hT : TR m t n a.tmps) (hg : ∀ g, g < P.globals.size → m g = some (g, 0)) {o : Oper} {ty : TypeId} {x ix : Operand} {v : Value}
    (ho : o.op = .index ty x ix) (e : rIndex P t o ty (ev P t ix) (ev P t x) = some v) : ∃ v', (execOp a.eval o).run P w = .ok (.value v') w ∧ VR m v v' := by
  have hx := ev_rel (P := P) hT hg x
  have hi := ev_rel (P := P) hT hg ix
  generalize hx' : a.eval x = x' at hx
  generalize hi' : a.eval ix = i' at hi
  unfold rIndex at e
  split at e
  · rename_i cs hev
    rw [hev] at hx
    unfold rIndexAgg at e
    split at e
    · rename_i k i hevi
      rw [hevi] at hi
      cases hi
      cases hx with
      | @agg _ cs' hk h1 =>
        split at e
        · rename_i len el ha
          cases hb : Nat.blt i len with
          | false => rw [hb] at e; cases e
          | true =>
            rw [hb, cond_true] at e
            have hb' : i < len := by simpa [Nat.blt_eq] using hb
            split at e
            · rename_i sz hs
              obtain ⟨v', g1, g2⟩ := partL_part hk h1 e w
              refine ⟨v', ?_, g2⟩
              simp only [execOp, ho, hx', hi']
              refine run_v ?_
              simp only [Instr.index, Sem.run_bind, asIntOf, Sem.run_pure, Result.andThen_ok, run_und (arrOf_und ha)]
              have g3 : (part el cs' (i * sz)).run P w = .ok v' w := by simpa using g1
              simp [hb', run_sizeB hs, g3]
            · cases e
        · cases e
    · cases e
  · rename_i l hev
    rw [hev] at hx
    cases hx
    unfold rIndexStr at e
    split at e
    · rename_i k i hevi
      rw [hevi] at hi
      cases hi
      cases hs : isStrTy P ty with
      | false => rw [hs] at e; cases e
      | true =>
        rw [hs, cond_true] at e
        split at e
        · rename_i b hb
          cases e
          refine ⟨_, ?_, .int _ _⟩
          simp only [execOp, ho, hx', hi']
          refine run_v ?_
          have hb2 : (ByteArray.mk ⟨l⟩)[i]? = some b := by
            have hlt : i < l.length := (List.getElem?_eq_some_iff.1 hb).1
            have : i < (ByteArray.mk ⟨l⟩).size := hlt
            have h2 := (List.getElem?_eq_some_iff.1 hb).2
            show (if h : i < (ByteArray.mk ⟨l⟩).size then some ((ByteArray.mk ⟨l⟩)[i]) else none) = some b
            rw [dif_pos this, ← h2]
            rfl
          simp only [Instr.index, Sem.run_bind, asIntOf, Sem.run_pure, Result.andThen_ok, run_und (strTy_und hs)]
          simp [hb2]
        · cases e
    · cases e
  · exact ground_rel hT hg o e w

theorem rExtract_rel {i : Nat} {x x' v : Value} (hx : VR m x x') (e : rExtract i x = some v) : ∃ v', (Instr.extract x' i).run P w = .ok v' w ∧ VR m v v' := by
  unfold rExtract at e
  split at e
  · rename_i vs
    cases hx with
    | tuple k =>
      obtain ⟨v', h1, h2⟩ := k.get i v (by simpa using e)
      exact ⟨v', by simp [Instr.extract, show _ from (by simpa using h1)], h2⟩
  · cases e

theorem rIface_rel {ty : TypeId} {x x' v : Value} (hx : VR m x x') (e : rIface P ty x = some v) : ∃ v', (Instr.makeInterface ty x').run P w = .ok v' w ∧ VR m v v' := by
  unfold rIface at e
  split at e
  · cases e
  · rename_i d hne hu
    cases e
    refine ⟨_, ?_, .iface ty hx⟩
    simp only [Instr.makeInterface, Sem.run_bind, run_und hu, Result.andThen_ok]
    try (cases d <;> simp_all)
  · cases e

end
end Go.Ev
