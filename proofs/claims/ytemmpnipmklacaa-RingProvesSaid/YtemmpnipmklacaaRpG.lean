import Derived.Test.YtemmpnipmklacaaRpF
namespace Go.Proofs.Rg
open Go Go.Ev
set_option linter.unusedSimpArgs false

/-! ## Rings in a heap -/
abbrev R2 := List Int × Int
def rc (p : Value × R2) : List Value := [p.1, iv p.2.2]
def RA (Q : AHeap → Value → List Int → Prop) (h : AHeap) (rv : Value) (rl : List R2) : Prop :=
  ∃ vs : List Value, vs.length = rl.length ∧ SlAt h 2 rv ((vs.zip rl).map rc) ∧ ∀ (i : Nat) s r, vs[i]? = some s → rl[i]? = some r → Q h s r.1
section
variable {Q : AHeap → Value → List Int → Prop} {h h' : AHeap} {rv : Value} {rl : List R2}
theorem RA.mono (hQ : ∀ {h h' v l}, Q h v l → Kp h h' → Q h' v l) (k : RA Q h rv rl) (a : Kp h h') : RA Q h' rv rl := by
  obtain ⟨vs, k1, k2, k3⟩ := k
  exact ⟨vs, k1, k2.mono a, fun i s r e1 e2 => hQ (k3 i s r e1 e2) a⟩
theorem RA.len (k : RA Q h rv rl) {a : TypeId} (ha : isSlTy Try.prog a = true) (t : T Value) (h1 : AHeap) (o : Oper) : rLen Try.prog t h1 o a rv = some (iv (rl.length : Int)) := by
  obtain ⟨vs, k1, k2, _⟩ := k
  rw [k2.len ha, List.length_map, List.length_zip, k1, Nat.min_self]
theorem RA.idx (k : RA Q h rv rl) {a e : TypeId} (h1 : slOf Try.prog a = some e) (h2 : sizeB Try.prog e = some 2) {i : Nat} {r : R2} (hi : rl[i]? = some r) :
    ∃ b f ro cells s, (∀ kd : IntKind, rIndexAddr Try.prog a rv (.int kd (i : Int)) = some (.pointer (some ⟨b, i * 2, none⟩))) ∧ b < h.nx ∧ h.bl.get b = some (.cells cells f ro) ∧
      (cells.drop (i * 2)).take 2 = [s, iv r.2] ∧ Nat.ble (Nat.add (i * 2) 2) cells.length = true ∧ cells[i * 2]? = some s ∧ cells[i * 2 + 1]? = some (iv r.2) ∧ Q h s r.1 := by
  obtain ⟨vs, k1, k2, k3⟩ := k
  have hlt : i < rl.length := (List.getElem?_eq_some_iff.1 hi).1
  have hv : vs[i]? = some vs[i] := List.getElem?_eq_getElem (by omega)
  obtain ⟨b, f, ro, q1, q2, q3⟩ := SlAt.idx k2 h1 h2 (i := i) (by rw [List.length_map, List.length_zip]; omega)
  have hm : ((vs.zip rl).map rc)[i]? = some [vs[i], iv r.2] := by
    rw [List.getElem?_map, (List.getElem?_zip_eq_some (z := (vs[i], r))).2 ⟨hv, hi⟩]; rfl
  obtain ⟨u4, u5⟩ := flat_part (SlAt.sized k2) hm
  have u0 := flat_get (SlAt.sized k2) (j := 0) hm (x := vs[i]) rfl
  rw [Nat.add_zero] at u0
  exact ⟨b, f, ro, _, vs[i], q1, q2, q3, u4, Nat.ble_eq_true_of_le (by show i * 2 + 2 ≤ _; exact u5), u0, flat_get (SlAt.sized k2) (j := 1) hm rfl, k3 i _ r hv hi⟩
end
theorem sRr : sizeB Try.prog 56 = some 2 := by kernel_rfl
theorem sRp : sizeB Try.prog 72 = some 2 := by kernel_rfl
theorem slRr : slOf Try.prog 53 = some 56 := by kernel_rfl
theorem slRp : slOf Try.prog 62 = some 72 := by kernel_rfl
theorem isRr : isSlTy Try.prog 53 = true := by kernel_rfl
theorem isRp : isSlTy Try.prog 62 = true := by kernel_rfl
theorem uRp : Try.prog.underlying 62 = some (.slice 72) := by kernel_rfl
theorem nRp : numOk Try.prog 72 1 = true := by kernel_rfl
theorem zRp : zeroOf Try.prog 72 = some (.agg ⟨[.slice none 0 0, iv 0]⟩) := by kernel_rfl
theorem fRr0 : fieldOf Try.prog 56 0 = some (0, 27) := by kernel_rfl
theorem fRr1 : fieldOf Try.prog 56 1 = some (1, 3) := by kernel_rfl
theorem fRp0 : fieldOf Try.prog 72 0 = some (0, 27) := by kernel_rfl
theorem fRp1 : fieldOf Try.prog 72 1 = some (1, 3) := by kernel_rfl
theorem sI1 : sizeB Try.prog 27 = some (0 + 1) := by kernel_rfl
theorem pI1 (c : List Value) (o : Nat) : partL Try.prog 27 c o = c[o]? := by kernel_rfl
theorem pRp (c : List Value) (o : Nat) : partL Try.prog 72 c o = bif Nat.ble (Nat.add o 2) c.length then some (.agg ⟨(c.drop o).take 2⟩) else none := by kernel_rfl
theorem pRr (c : List Value) (o : Nat) : partL Try.prog 56 c o = bif Nat.ble (Nat.add o 2) c.length then some (.agg ⟨(c.drop o).take 2⟩) else none := by kernel_rfl
theorem part_rc {ty : TypeId} (hp : ∀ (c : List Value) (o : Nat), partL Try.prog ty c o = bif Nat.ble (Nat.add o 2) c.length then some (.agg ⟨(c.drop o).take 2⟩) else none) {cells : List Value} {o : Nat} {l : List Value} (h1 : (cells.drop o).take 2 = l) (h2 : Nat.ble (Nat.add o 2) cells.length = true) : partL Try.prog ty cells o = some (.agg ⟨l⟩) := by
  rw [hp, h2, cond_true, h1]
theorem bRp {s : Value} (hs : (∃ q n c, s = .slice q n c)) (a : Int) : rBuild Try.prog 72 [(0, s), (1, iv a)] = some (.agg ⟨[s, iv a]⟩) := by
  obtain ⟨q, n, c, rfl⟩ := hs
  kernel_rfl

section
variable {P : Program} {n : Nat} {t : T Value} {h : AHeap} {ops : Array Oper} {call : CallT} {f : Nat} {l : List Info} {i m done : Nat} {hist : List Seen} {KR : T Value → AHeap → Bool} {ty : TypeId} {pos : String} {af : Array Edge} {g : Option (Nat × Bool)} {d : Tmp}
theorem drW_append {lo sz F : Nat} {v : Value} {cs : List (List Value)} {c : List Value} {e : TypeId} {st xt e' : TypeId} {s x : Operand} {bx cx fx : Nat} {rx : Bool} (hst : slOf P st = some e) (hxt : P.underlying xt = some (.slice e')) (hs : ev P t s = v) (hx : ev P t x = .slice (some ⟨bx, 0, none⟩) 1 cx)
    (k : App lo h sz v cs F) (hHh : lo ≤ h.nx) (hsz : sizeB P e = some sz) (hc : c.length = sz) (hpos : 0 < sz) (hbx : h.bl.get bx = some (.cells c fx rx)) (hnum : numOk P e 1 = true) (hn : cs.length + 1 < bigNat) (hd : d < n)
    (kk : ∀ v' h' F', Grown lo h h' sz v' cs c F F' → again P h' m hist = true ∧ drawGo P call ops n 0 [] f l (Nat.lor done (Nat.pow 2 i)) hist (T.set (d + 1) t d v') h' KR = true) :
    drW (some true) P call ops n f l done i m ⟨some d, .call ⟨.builtin .append, #[s, x], #[st, xt]⟩, ty, pos, af, g⟩ hist t h KR = true := by
  obtain ⟨v', h', F', hw, hg⟩ := aw_append (call := call) (dst := some d) (ty := ty) (pos := pos) (af := af) (g := g) hst hxt hs hx k hHh hsz hc hpos hbx hnum hn
  obtain ⟨k1, k2⟩ := kk v' h' F' hg
  exact drW_some hw hd k1 k2
end

variable {pr : Prim} {R : ExT}
def IRg (rl : List R2) (h0 : AHeap) (rv : Value) (lo : Nat) (k : Nat) (t : T Value) (h : AHeap) : Prop :=
  k ≤ rl.length ∧ Kp h0 h ∧ lo ≤ h.nx ∧ tget t 0 = rv ∧ tget t 4 = iv (k : Int) ∧
  ∃ (v : Value) (F : Nat) (vs : List Value), tget t 3 = v ∧ vs.length = k ∧ App lo h 2 v ((vs.zip rl).map rc) F ∧ (k ≠ 0 → F < h.nx) ∧ ∀ (i : Nat) s r, vs[i]? = some s → rl[i]? = some r → IAf h s r.1 F
theorem IAf.left0 {h h' : AHeap} {v : Value} {l : List Int} {F F' : Nat} (k : IAf h v l F') (a : Ev.Left [] F h h') : IAf h' v l F' := by
  have ha := a.le
  rcases k with k | ⟨b, c, f, ro, k1, k2, k3, k4, k5⟩
  · exact .inl k
  · exact .inr ⟨b, c, f, ro, k1, by omega, a.bl b _ f ro k2 k3 (fun q => absurd rfl q), by omega, k5⟩
theorem zip_snoc {vs : List Value} {rl : List R2} {s : Value} {r : R2} (h : rl[vs.length]? = some r) : ((vs ++ [s]).zip rl).map rc = ((vs.zip rl).map rc) ++ [[s, iv r.2]] := by
  induction vs generalizing rl with
  | nil =>
    cases rl with
    | nil => simp at h
    | cons a rl => simp at h; subst h; rfl
  | cons a vs ih =>
    cases rl with
    | nil => simp at h
    | cons b rl =>
      simp only [List.cons_append, List.zip_cons_cons, List.map_cons]
      rw [ih (by simpa using h)]
set_option maxHeartbeats 16000000 in
theorem rings_y (S : Ev.Steps Try.prog pr R) (hoff : Off pr) (h0 : AHeap) (rv : Value) (rl : List R2) (hr : RA IS h0 rv rl) (hsz : rl.length ≤ 10) (hsz2 : ∀ r, r ∈ rl → r.1.length ≤ 8) :
    Brings Try.prog R 30 [rv] h0 fun u h => RA IAt h u rl := by
  refine brings_of (fn := Try.f30) (c := (Try.f30.body).getD .skip) (by kernel_rfl) rfl (by kernel_rfl) rfl (fun K hK => ?_)
  generalize hF : finish Try.prog Try.f30 K = KF
  simp only [Try.f30, Option.getD_some, argsT, setArgs, fV1_eq, T.setK_eq, id]
  have hlen := fun t h1 o => hr.len isRr t h1 o
  repeat refine S.seq ?_
  refine S.region ?_
  simp (disch := first | omega | (simp only [add_nx, upd_nx] <;> omega) | decide) only [rUz, ↓reduceIte, Nat.reduceEqDiff, Nat.reduceAdd]
  repeat refine S.seq ?_
  refine S.region ?_
  simp (disch := first | omega | (simp only [add_nx, upd_nx] <;> omega) | decide) only [rUz, ↓reduceIte, Nat.reduceEqDiff, Nat.reduceAdd]
  repeat refine S.seq ?_
  refine S.region ?_
  simp (disch := first | omega | (simp only [add_nx, upd_nx] <;> omega) | decide) only [rUz, ↓reduceIte, Nat.reduceEqDiff, Nat.reduceAdd]
  repeat refine S.seq ?_
  refine S.block ?_
  refine S.loop (ι := Nat) (IRg rl h0 rv h0.nx) (fun k => rl.length - k) ?_ 0 _ _ ?_
  · intro k t h ⟨hk, hkp, hlo, t0, t4, v, F, vs, t3, hvl, happ, hFl, hvs⟩ K' hn he
    repeat refine S.seq ?_
    refine S.region ?_
    simp (disch := first | omega | (simp only [add_nx, upd_nx] <;> omega) | decide) only [rUz, ↓reduceIte, Nat.reduceEqDiff, Nat.reduceAdd, t0, t4, hlen]
    repeat refine S.seq ?_
    refine S.cond (v := decide ((k : Int) < (rl.length : Int))) (by first | rfl | (simp (disch := first | omega | (simp only [add_nx, upd_nx] <;> omega) | decide) only [rUz, ↓reduceIte, Nat.reduceEqDiff, Nat.reduceAdd] <;> rfl)) (fun e => ?_) (fun e => ?_)
    · have hkn : k < rl.length := by have := of_decide_eq_true e; omega
      clear e
      have hps : rl[k]? = some rl[k] := List.getElem?_eq_getElem hkn
      have hmem : rl[k] ∈ rl := List.getElem_mem hkn
      generalize rl[k] = r at hps hmem
      have hrl := hsz2 r hmem
      obtain ⟨b, f, ro, cells, s, q1, q2, q3, q4, q5, q6, q7, q8⟩ := (RA.mono (Q := IS) IS.mono hr hkp).idx slRr sRr hps
      repeat refine S.seq ?_
      refine S.skip ?_
      simp (disch := first | omega | (simp only [add_nx, upd_nx] <;> omega) | decide) only [rUz, ↓reduceIte, Nat.reduceEqDiff, Nat.reduceAdd]
      repeat refine S.seq ?_
      refine S.block ?_
      repeat refine S.seq ?_
      refine S.drawnL [(false, 0), (false, 0), (false, 0), (false, 6), (false, 14), (false, 30), (true, 62), (false, 0), (false, 0), (false, 384), (false, 896), (false, 1920), (false, 4094), (true, 8190), (true, 16383), (false, 32767)] (by kernel_rfl) (by kernel_rfl) (by kernel_rfl) ?_
      simp (disch := first | omega | (simp only [add_nx, upd_nx] <;> omega) | decide) only [rUz, ↓reduceIte, Nat.reduceEqDiff, Nat.reduceAdd, rDz, infoL, Nat.reduceSub, t0, t3, t4, q1, q3, fieldAddr_ptr fRr0 sI1, pI1, q6]
      refine draw_pick' rfl ?_
      simp (disch := first | omega | (simp only [add_nx, upd_nx] <;> omega) | decide) only [rUz, ↓reduceIte, Nat.reduceEqDiff, Nat.reduceAdd, rDz, infoL, Nat.reduceSub, t0, t4, q1, q3, fieldAddr_ptr fRr1 s3, p3, q7]
      refine draw_pick' rfl ?_
      simp (disch := first | omega | (simp only [add_nx, upd_nx] <;> omega) | decide) only [rUz, ↓reduceIte, Nat.reduceEqDiff, Nat.reduceAdd, rDz, infoL, Nat.reduceSub, t0, t4, q1, q3, fieldAddr_ptr fRr1 s3, p3, q7]
      refine draw_pick' rfl ?_
      simp (disch := first | omega | (simp only [add_nx, upd_nx] <;> omega) | decide) only [rUz, ↓reduceIte, Nat.reduceEqDiff, Nat.reduceAdd, rDz, infoL, Nat.reduceSub, t0, t4, q1, q3, fieldAddr_ptr fRr1 s3, p3, q7]
      refine draw_pick' rfl ?_
      simp (disch := first | omega | (simp only [add_nx, upd_nx] <;> omega) | decide) only [rUz, ↓reduceIte, Nat.reduceEqDiff, Nat.reduceAdd, rDz, infoL, Nat.reduceSub, t0, t4, q1, q3, fieldAddr_ptr fRr1 s3, p3, q7]
      refine draw_pick' rfl ?_
      simp (disch := first | omega | (simp only [add_nx, upd_nx] <;> omega) | decide) only [rUz, ↓reduceIte, Nat.reduceEqDiff, Nat.reduceAdd, rDz, infoL, Nat.reduceSub, t0, t4, q1, q3, fieldAddr_ptr fRr1 s3, p3, q7]
      refine drW_brings (fid := 28) (first := #[]) (captured := #[]) (Post := fun u g => (∀ F, (F < h.nx ∨ g.nx ≤ F) → IAf g u r.1 F) ∧ (u = .slice none 0 0 ∨ ∃ b c, u = .slice (some ⟨b, 0, none⟩) r.1.length c)) (by first | rfl | (simp (disch := first | omega | (simp only [add_nx, upd_nx] <;> omega) | decide) only [rUz, ↓reduceIte, Nat.reduceEqDiff, Nat.reduceAdd]; rfl) | (simp (disch := first | omega | (simp only [add_nx, upd_nx] <;> omega) | decide) only [rUz, ↓reduceIte, Nat.reduceEqDiff, Nat.reduceAdd])) (hoff _ _ _ rfl) (by simp (disch := first | omega | (simp only [add_nx, upd_nx] <;> omega) | decide) only [rUz, ↓reduceIte, Nat.reduceEqDiff, Nat.reduceAdd]; exact list_y S h s r.1 q8 (by omega)) (Nat.le_of_ble_eq_true rfl) ?_
      rintro u g hk2 ⟨hu, hsl⟩
      have q3' := (hk2.get q2).trans q3
      refine ⟨?_, ?_⟩
      · try simp (disch := first | decide | rfl) only [again_nil, again_skip, again_free]
        rw [again_same (v := iv r.2) (by simp (disch := first | omega | (simp only [add_nx, upd_nx] <;> omega) | decide) only [rUz, ↓reduceIte, Nat.reduceEqDiff, Nat.reduceAdd, rDz, infoL, Nat.reduceSub, t0, t4, q1, q3', fieldAddr_ptr fRr1 s3, p3, q7]) veq_int]
        try simp (disch := first | decide | rfl) only [again_nil, again_skip, again_free]
      have hsl' : ∃ q n c, u = .slice q n c := by
        rcases hsl with rfl | ⟨b, c, rfl⟩
        · exact ⟨_, _, _, rfl⟩
        · exact ⟨_, _, _, rfl⟩
      have hb := bRp hsl' r.2
      simp (disch := first | omega | (simp only [add_nx, upd_nx] <;> omega) | decide) only [rUz, ↓reduceIte, Nat.reduceEqDiff, Nat.reduceAdd, rDz, infoL, Nat.reduceSub, rd_build, w_build, List.map_cons, List.map_nil, hb]
      have hok : okV (.agg ⟨[u, iv r.2]⟩) = true := by
        obtain ⟨q, n, c, rfl⟩ := hsl'
        rfl
      have hfill : Instr.fill (fun k => some (k * 2, 2)) ⟨repl (Value.cells (.agg ⟨[.slice none 0 0, iv 0]⟩)).toList 1 []⟩ [(0, .agg ⟨[u, iv r.2]⟩)] = some ⟨[u, iv r.2]⟩ := rfl
      refine drW_some (v := .slice (some ⟨g.nx, 0, none⟩) 1 1) (h' := g.add [u, iv r.2]) (aw_lit1 slRp sRp zRp rfl (by omega) (u := .agg ⟨[u, iv r.2]⟩) (l := [u, iv r.2]) (by simp (disch := first | omega | (simp only [add_nx, upd_nx] <;> omega) | decide) only [rUz, ↓reduceIte, Nat.reduceEqDiff, Nat.reduceAdd]) hok hfill) (Nat.le_of_ble_eq_true rfl) ?_ ?_
      · try simp (disch := first | decide | rfl) only [again_nil, again_skip, again_free]
      simp (disch := first | omega | (simp only [add_nx, upd_nx] <;> omega) | decide) only [rUz, ↓reduceIte, Nat.reduceEqDiff, Nat.reduceAdd, rDz, infoL, Nat.reduceSub]
      have hkg := hkp.trans hk2
      refine drW_append (bx := g.nx) (cx := 1) (v := v) slRp uRp (by simp (disch := first | omega | (simp only [add_nx, upd_nx] <;> omega) | decide) only [rUz, ↓reduceIte, Nat.reduceEqDiff, Nat.reduceAdd, rDz, infoL, Nat.reduceSub, t3]) (by simp (disch := first | omega | (simp only [add_nx, upd_nx] <;> omega) | decide) only [rUz, ↓reduceIte, Nat.reduceEqDiff, Nat.reduceAdd, rDz, infoL, Nat.reduceSub]) ((happ.mono hk2).mono Kp.refl.add) (by have := hk2.1; show h0.nx ≤ g.nx + 1; omega) sRp rfl (by omega) (ag_eq rfl) nRp (by rw [List.length_map, List.length_zip]; show _ < 1000000; omega) (Nat.le_of_ble_eq_true rfl) ?_
      intro v3 h3 F3 gr
      refine ⟨?_, ?_⟩
      · try simp (disch := first | decide | rfl) only [again_nil, again_skip, again_free]
      simp (disch := first | omega | (simp only [add_nx, upd_nx] <;> omega) | decide) only [rUz, ↓reduceIte, Nat.reduceEqDiff, Nat.reduceAdd, rDz, infoL, Nat.reduceSub]
      repeat refine S.seq ?_
      refine S.region ?_
      simp (disch := first | omega | (simp only [add_nx, upd_nx] <;> omega) | decide) only [rUz, ↓reduceIte, Nat.reduceEqDiff, Nat.reduceAdd, t4]
      have hgn : (g.add [u, iv r.2]).nx = g.nx + 1 := rfl
      have hgk := hk2.1
      have hne : ((vs.zip rl).map rc) ≠ [] ↔ k ≠ 0 := by
        rw [← hvl]
        constructor
        · intro h1 h2
          rw [List.length_eq_zero_iff.1 h2] at h1
          exact h1 rfl
        · intro h1 h2
          have := congrArg List.length h2
          simp at this
          rcases this with h3 | h3
          · exact h1 (by rw [h3]; rfl)
          · rw [h3] at hkn; simp at hkn
      refine hn (k + 1) _ _ (by omega) ⟨by omega, gr.sm.kp (Nat.le_refl _) hkg.add, ?_, ?_, ?_, v3, F3, vs ++ [u], ?_, by simp [hvl], ?_, ?_, ?_⟩
      · have := gr.sm.1; omega
      · simp (disch := first | omega | (simp only [add_nx, upd_nx] <;> omega) | decide) only [rUz, ↓reduceIte, Nat.reduceEqDiff, Nat.reduceAdd, t0]
      · simp (disch := first | omega | (simp only [add_nx, upd_nx] <;> omega) | decide) only [rUz, ↓reduceIte, Nat.reduceEqDiff, Nat.reduceAdd]
      · simp (disch := first | omega | (simp only [add_nx, upd_nx] <;> omega) | decide) only [rUz, ↓reduceIte, Nat.reduceEqDiff, Nat.reduceAdd]
      · rw [zip_snoc (by rw [hvl]; exact hps)]; exact gr.app
      · intro _; exact gr.app.fam_lt (by simp)
      · intro i s' r' e1 e2
        have hF3 : ((vs.zip rl).map rc) = [] → (g.add [u, iv r.2]).nx ≤ F3 := gr.fresh
        by_cases hi : i < vs.length
        · rw [List.getElem?_append_left hi] at e1
          have hk0 : k ≠ 0 := by omega
          have := gr.same (hne.2 hk0)
          exact (((hvs i s' r' e1 e2).mono hk2).mono Kp.refl.add).left gr.left (fun _ => this) (fun q => absurd q (hne.2 hk0))
        · rw [List.getElem?_append_right (by omega)] at e1
          have hik : i = k := by
            have := (List.getElem?_eq_some_iff.1 e1).1
            simp at this
            omega
          subst hik
          rw [hvl, Nat.sub_self] at e1
          cases e1
          rw [hps] at e2
          cases e2
          by_cases hk0 : i = 0
          · have hnil : ((vs.zip rl).map rc) = [] := by
              cases q : ((vs.zip rl).map rc) with
              | nil => rfl
              | cons a b => exact absurd hk0 (hne.1 (by rw [q]; simp))
            have gl := gr.left
            have h3' := hF3 hnil
            rw [hnil] at gl
            exact IAf.left0 ((hu F3 (.inr (by omega))).mono Kp.refl.add) gl
          · have e := gr.same (hne.2 hk0)
            rw [e]
            exact ((hu F (.inl (hFl hk0))).mono Kp.refl.add).left gr.left (fun _ => rfl) (fun q => absurd q (hne.2 hk0))
    · have hkn : k = rl.length := by have := of_decide_eq_false e; omega
      subst hkn
      refine S.exit (he _ _ _ _ (fun e => by cases e) ?_)
      simp (disch := first | omega | (simp only [add_nx, upd_nx] <;> omega) | decide) only [rUz, ↓reduceIte, Nat.reduceEqDiff, Nat.reduceAdd]
      repeat refine S.seq ?_
      refine S.region ?_
      simp (disch := first | omega | (simp only [add_nx, upd_nx] <;> omega) | decide) only [rUz, ↓reduceIte, Nat.reduceEqDiff, Nat.reduceAdd, t3]
      refine S.ret ?_
      try simp only [seqK_ret, blockK_ret]
      subst hF
      simp only [finish, endMarks]
      rw [show Try.f30.results.toList = [.tmp 2] from rfl]
      simp (disch := first | omega | (simp only [add_nx, upd_nx] <;> omega) | decide) only [resA, ev_tmp, tget_ne, tget_eq, get_ne, get_eq, upd_eq, upd_ne, ag_eq, ag_ne, result1]
      exact hK _ _ hkp ⟨vs, hvl, happ.at, fun i s r e1 e2 => (hvs i s r e1 e2).at⟩
  · refine ⟨Nat.zero_le _, Kp.refl, Nat.le_refl _, ?_, ?_, .slice none 0 0, 0, [], ?_, rfl, .inl ⟨rfl, rfl⟩, fun q => absurd rfl q, fun i s r e => by simp at e⟩
    all_goals (first | rfl | (simp (disch := first | omega | (simp only [add_nx, upd_nx] <;> omega) | decide) only [rUz, ↓reduceIte, Nat.reduceEqDiff, Nat.reduceAdd]; done) | (simp (disch := first | omega | (simp only [add_nx, upd_nx] <;> omega) | decide) only [rUz, ↓reduceIte, Nat.reduceEqDiff, Nat.reduceAdd]; rfl))
end Go.Proofs.Rg
