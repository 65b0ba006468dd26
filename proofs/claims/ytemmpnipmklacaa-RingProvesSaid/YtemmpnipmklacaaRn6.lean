import Derived.Test.YtemmpnipmklacaaRn5
namespace Go.Proofs.Rg
open Go Go.Ev
set_option linter.unusedSimpArgs false

theorem pI3 (l : List Int) {i : Nat} (hi : i < l.length) : (l.map iv)[i]? = some (iv l[i]) := by rw [List.getElem?_map, List.getElem?_eq_getElem hi]; rfl
theorem getD_of {l : List Int} {i : Nat} (hi : i < l.length) : l[i] = l.getD i 0 := by simp [List.getD_eq_getElem?_getD, hi]
noncomputable def inf3 := (Try.prog.info? 3).getD default
theorem info3 : Try.prog.info? 3 = some inf3 := by kernel_rfl
theorem info3b : Nat.blt inf3.bytes bigNat = true := by kernel_rfl
theorem info3s : inf3.size = 1 := by kernel_rfl
theorem z3 : zeroOf Try.prog 3 = some (.int .i64 0) := by kernel_rfl

def accJ (acc : List Int) (c : C4) (a : Int) : Nat → List Int
  | 0 => acc
  | 1 => addAt acc c.1.toNat (-a)
  | _ => stepB acc c a
def IB (n : Nat) (cs : List C4) (am : List Int) (h0 : AHeap) (B5 : Nat) (cv av : Value) (k : Nat) (t : T Value) (h : AHeap) : Prop :=
  k ≤ cs.length ∧ Kp h0 h ∧ tget t 1 = av ∧ tget t 5 = .slice (some ⟨B5, 0, none⟩) n n ∧ tget t 14 = cv ∧ tget t 15 = iv (cs.length : Int) ∧ tget t 16 = iv (k : Int) ∧
  ∃ acc, Own h B5 acc ∧ acc.length = n ∧ bnd (400000 * k) acc ∧ balG (cs.drop k) (am.drop k) acc = bal n cs am
def IJ (n : Nat) (cs : List C4) (c : C4) (a : Int) (acc : List Int) (h0 : AHeap) (B5 B7 : Nat) (cv av : Value) (k : Nat) (j : Nat) (t : T Value) (h : AHeap) : Prop :=
  j ≤ 2 ∧ Kp h0 h ∧ B7 < h.nx ∧ tget t 1 = av ∧ tget t 5 = .slice (some ⟨B5, 0, none⟩) n n ∧ tget t 6 = iv (k : Int) ∧ tget t 7 = ptr0 B7 ∧ tget t 14 = cv ∧ tget t 15 = iv (cs.length : Int) ∧ tget t 16 = iv (k : Int) ∧ tget t 21 = .agg ⟨sidesV⟩ ∧ tget t 22 = iv (j : Int) ∧
  h.bl.get B7 = some (.cells (cc c) B7 false) ∧ Own h B5 (accJ acc c a j)

variable {pr : Prim} {R : ExT}
set_option maxHeartbeats 16000000 in
theorem balances_y (S : Ev.Steps Try.prog pr R) (hoff : Off pr) (h0 : AHeap) (n : Nat) (hn6 : n ≤ 6) (cv : Value) (cs : List C4) (hc : CAt h0 cv cs) (hsz : cs.length ≤ 12) (hv : Hs n cs) (av : Value) (am : List Int) (ha : IAt h0 av am) (hal : am.length = cs.length) (hb : bnd 200000 am) :
    Brings Try.prog R 43 [.agg ⟨[iv (n : Int), cv]⟩, av] h0 fun v h => ∃ B, v = .slice (some ⟨B, 0, none⟩) n n ∧ h0.nx ≤ B ∧ Own h B (bal n cs am) := by
  refine brings_of (fn := Try.f43) (c := (Try.f43.body).getD .skip) (by kernel_rfl) rfl (by kernel_rfl) rfl (fun K hK => ?_)
  generalize hF : finish Try.prog Try.f43 K = KF
  simp only [Try.f43, Option.getD_some, argsT, setArgs, fV1_eq, T.setK_eq, id]
  have hlen := fun t h1 o => hc.len isB t h1 o
  repeat refine S.seq ?_
  refine S.region ?_
  simp (disch := first | omega | (simp only [add_nx, upd_nx] <;> omega) | decide) only [rUz, ↓reduceIte, Nat.reduceEqDiff, Nat.reduceAdd]
  repeat refine S.seq ?_
  refine S.region ?_
  simp (disch := first | omega | (simp only [add_nx, upd_nx] <;> omega) | decide) only [rUz, ↓reduceIte, Nat.reduceEqDiff, Nat.reduceAdd, fieldAddr_ptr fB0 s3, p3, w_makeSlice]
  refine wr_makeInts (k := n) slI info3 z3 info3b info3s (by simp (disch := first | omega | (simp only [add_nx, upd_nx] <;> omega) | decide) only [rUz, ↓reduceIte, Nat.reduceEqDiff, Nat.reduceAdd]) (by simp (disch := first | omega | (simp only [add_nx, upd_nx] <;> omega) | decide) only [rUz, ↓reduceIte, Nat.reduceEqDiff, Nat.reduceAdd]) (by omega) (fun hown => ?_)
  have hk1 : Kp h0 ((h0.add [iv (n : Int), cv]).add ((List.replicate n 0).map iv)) := Kp.refl.add.add
  have hb2 : ((h0.add [iv (n : Int), cv]).add ((List.replicate n 0).map iv)).bl.get h0.nx = some (.cells [iv (n : Int), cv] h0.nx false) := by rw [ag_ne (by show h0.nx ≠ h0.nx + 1; omega)]; exact ag_eq rfl
  simp (disch := first | omega | (simp only [add_nx, upd_nx] <;> omega) | decide) only [rUz, ↓reduceIte, Nat.reduceEqDiff, Nat.reduceAdd]
  have hB5 : h0.nx ≤ h0.nx + 1 := Nat.le_succ _
  rw [add_nx] at hown
  generalize ((h0.add [iv (n : Int), cv]).add ((List.replicate n 0).map iv)) = H1 at hown hk1 hb2 ⊢
  generalize h0.nx + 1 = B5 at hown hB5 ⊢
  repeat refine S.seq ?_
  refine S.region ?_
  simp (disch := first | omega | (simp only [add_nx, upd_nx] <;> omega) | decide) only [rUz, ↓reduceIte, Nat.reduceEqDiff, Nat.reduceAdd, fieldAddr_ptr fB1 sBc, pBc, hb2, hlen]
  repeat refine S.seq ?_
  refine S.block ?_
  refine S.loop (ι := Nat) (IB n cs am h0 B5 cv av) (fun k => cs.length - k) ?_ 0 _ _ ?_
  · intro k t h ⟨hk, hkp, t1, t5, t14, t15, t16, acc, how, hal', hbd, hbal⟩ K' hn he
    have hnx := hkp.1
    repeat refine S.seq ?_
    refine S.region ?_
    simp (disch := first | omega | (simp only [add_nx, upd_nx] <;> omega) | decide) only [rUz, ↓reduceIte, Nat.reduceEqDiff, Nat.reduceAdd, t15, t16]
    repeat refine S.seq ?_
    refine S.cond (v := decide ((k : Int) < (cs.length : Int))) (by first | rfl | (simp (disch := first | omega | (simp only [add_nx, upd_nx] <;> omega) | decide) only [rUz, ↓reduceIte, Nat.reduceEqDiff, Nat.reduceAdd] <;> rfl)) (fun e => ?_) (fun e => ?_)
    · have hkn : k < cs.length := by have := of_decide_eq_true e; omega
      clear e
      have hps : cs[k]? = some cs[k] := List.getElem?_eq_getElem hkn
      have hmem : cs[k] ∈ cs := List.getElem_mem hkn
      have hka : k < am.length := by omega
      have hda : am.drop k = am[k] :: am.drop (k + 1) := List.drop_eq_getElem_cons hka
      have hba := hb am[k] (List.getElem_mem hka)
      have hia := fun {h'} (hk' : Kp h0 h') => (ha.mono hk').idx slI s3' hka
      rw [List.drop_eq_getElem_cons hkn, hda] at hbal
      simp only [balG] at hbal
      generalize cs[k] = c at hps hmem hbal
      generalize am[k] = a at hba hbal hia
      obtain ⟨⟨f, to, hf, hto, hfn, htn, hne⟩, _⟩ := hv c hmem
      obtain ⟨b, fb, ro, cells, q1, q2, q3, q4, q5, _⟩ := (hc.mono hkp).idx slB sL hps
      have qp := part_cc pL q4 q5
      repeat refine S.seq ?_
      refine S.skip ?_
      simp (disch := first | omega | (simp only [add_nx, upd_nx] <;> omega) | decide) only [rUz, ↓reduceIte, Nat.reduceEqDiff, Nat.reduceAdd]
      repeat refine S.seq ?_
      refine S.block ?_
      repeat refine S.seq ?_
      refine S.region ?_
      simp (disch := first | omega | (simp only [add_nx, upd_nx] <;> omega) | decide) only [rUz, ↓reduceIte, Nat.reduceEqDiff, Nat.reduceAdd, t14, t16, q1, q3, qp, wr_alloc zL]
      refine wr_storeN (B := h.nx) (c := [iv 0, iv 0, iv 0, iv 0]) (fam := h.nx) (k := h.nx) (l := cc c) (by simp (disch := first | omega | (simp only [add_nx, upd_nx] <;> omega) | decide) only [rUz, ↓reduceIte, Nat.reduceEqDiff, Nat.reduceAdd]) (by simp (disch := first | omega | (simp only [add_nx, upd_nx] <;> omega) | decide) only [rUz, ↓reduceIte, Nat.reduceEqDiff, Nat.reduceAdd]) sL (by omega) rfl (ag_eq rfl) (af_eq rfl) rfl ?_
      have hk4 : Kp h ((h.add [iv 0, iv 0, iv 0, iv 0]).upd h.nx (cc c) h.nx) := Kp.refl.add.upd (Nat.le_refl _)
      have hg4 : ((h.add [iv 0, iv 0, iv 0, iv 0]).upd h.nx (cc c) h.nx).bl.get h.nx = some (.cells (cc c) h.nx false) := upd_eq _ _ _
      have hlt4 : h.nx < ((h.add [iv 0, iv 0, iv 0, iv 0]).upd h.nx (cc c) h.nx).nx := Nat.lt_succ_self _
      simp (disch := first | omega | (simp only [add_nx, upd_nx] <;> omega) | decide) only [rUz, ↓reduceIte, Nat.reduceEqDiff, Nat.reduceAdd]
      have hB75 : B5 < h.nx := how.1
      have hB7 : h0.nx ≤ h.nx := hnx
      generalize (h.add [iv 0, iv 0, iv 0, iv 0]).upd h.nx (cc c) h.nx = h4 at hk4 hg4 hlt4 ⊢
      have how4 := how.mono hk4
      have hkp4 := hkp.trans hk4
      generalize h.nx = B7 at hg4 hlt4 hB75 hB7 ⊢
      clear q1 q2 q3 q4 q5 qp hk4 hkp how hnx
      repeat refine S.seq ?_
      refine S.region ?_
      simp (disch := first | omega | (simp only [add_nx, upd_nx] <;> omega) | decide) only [rUz, ↓reduceIte, Nat.reduceEqDiff, Nat.reduceAdd]
      refine wr_brings (fid := 65) (first := #[]) (captured := #[]) (Post := fun v _ => v = .agg ⟨sidesV⟩) (by first | rfl | (simp (disch := first | omega | (simp only [add_nx, upd_nx] <;> omega) | decide) only [rUz, ↓reduceIte, Nat.reduceEqDiff, Nat.reduceAdd] <;> rfl)) (hoff _ _ _ rfl) (by simp (disch := first | omega | (simp only [add_nx, upd_nx] <;> omega) | decide) only [rUz, ↓reduceIte, Nat.reduceEqDiff, Nat.reduceAdd]; exact sides_y S _) ?_
      rintro v h5 hk5 rfl
      have how5 := how4.mono hk5
      have hkp5 := hkp4.trans hk5
      have hg5 := (hk5.get hlt4).trans hg4
      have hlt5 := Nat.lt_of_lt_of_le hlt4 hk5.1
      clear hg4 hlt4 how4 hkp4 hk5
      simp (disch := first | omega | (simp only [add_nx, upd_nx] <;> omega) | decide) only [rUz, ↓reduceIte, Nat.reduceEqDiff, Nat.reduceAdd]
      repeat refine S.seq ?_
      refine S.block ?_
      refine S.loop (ι := Nat) (IJ n cs c a acc h0 B5 B7 cv av k) (fun j => 2 - j) ?_ 0 _ _ ?_
      · intro j t h ⟨hj, hkp, hlt7, t1, t5, t6, t7, t14, t15, t16, t21, t22, hg7, how⟩ K'' hn2 he2
        repeat refine S.seq ?_
        refine S.region ?_
        simp (disch := first | omega | (simp only [add_nx, upd_nx] <;> omega) | decide) only [rUz, ↓reduceIte, Nat.reduceEqDiff, Nat.reduceAdd, t22]
        repeat refine S.seq ?_
        refine S.cond (v := decide ((j : Int) < 2)) (by first | rfl | (simp (disch := first | omega | (simp only [add_nx, upd_nx] <;> omega) | decide) only [rUz, ↓reduceIte, Nat.reduceEqDiff, Nat.reduceAdd] <;> rfl)) (fun e => ?_) (fun e => ?_)
        · have hj2 : j < 2 := by have := of_decide_eq_true e; omega
          clear e
          obtain ⟨G, sg, kk, hG, hidx, hcall, hkk, hsg, hnext⟩ : ∃ (G : FuncId) (sg : Int) (kk : Nat), offB G = true ∧ (∀ (t : T Value) (o : Oper), rIndex Try.prog t o 97 (iv (j : Int)) (.agg ⟨sidesV⟩) = some (.agg ⟨[fnV G, iv sg]⟩)) ∧
              (∀ h', Brings Try.prog R G [.agg ⟨cc c⟩] h' fun v _ => v = iv (kk : Int)) ∧ kk < n ∧ (sg = 1 ∨ sg = -1) ∧ accJ acc c a (j + 1) = addAt (accJ acc c a j) kk (sg * a) := by
            have hj' : j = 0 ∨ j = 1 := by omega
            rcases hj' with rfl | rfl
            · refine ⟨66, -1, f, rfl, is0, fun h' => ?_, hfn, .inr rfl, ?_⟩
              · rw [← hf]; exact seller_y S h' c
              · show addAt acc c.1.toNat (-a) = addAt acc f (-1 * a)
                rw [hf, Int.toNat_natCast, Int.neg_one_mul]
            · refine ⟨67, 1, to, rfl, is1, fun h' => ?_, htn, .inl rfl, ?_⟩
              · rw [← hto]; exact buyer_y S h' c
              · show stepB acc c a = addAt (addAt acc c.1.toNat (-a)) to (1 * a)
                rw [stepB, hto, Int.toNat_natCast, Int.one_mul]
          have hbj : bnd (400000 * k + 200000) (accJ acc c a j) := by
            have hj' : j = 0 ∨ j = 1 := by omega
            rcases hj' with rfl | rfl
            · exact bnd_mono hbd (by omega)
            · exact bnd_addAt hbd (by omega) (by omega) (by omega) (by omega)
          have hlj : (accJ acc c a j).length = n := by
            have hj' : j = 0 ∨ j = 1 := by omega
            rcases hj' with rfl | rfl
            · exact hal'
            · show (addAt acc c.1.toNat (-a)).length = n
              rw [addAt_len]; exact hal'
          generalize hAJ : accJ acc c a j = aj at how hnext hbj hlj
          generalize hAN : accJ acc c a (j + 1) = an at hnext
          repeat refine S.seq ?_
          refine S.skip ?_
          simp (disch := first | omega | (simp only [add_nx, upd_nx] <;> omega) | decide) only [rUz, ↓reduceIte, Nat.reduceEqDiff, Nat.reduceAdd]
          repeat refine S.seq ?_
          refine S.block ?_
          have hx0 : (h.add [.nilFunc, iv 0]).bl.get h.nx = some (.cells [.nilFunc, iv 0] h.nx false) := ag_eq rfl
          repeat refine S.seq ?_
          refine S.region ?_
          simp (disch := first | omega | (simp only [add_nx, upd_nx] <;> omega) | decide) only [rUz, ↓reduceIte, Nat.reduceEqDiff, Nat.reduceAdd, t21, t22, rd_index, hidx, wr_alloc zs]
          refine wr_storeN (B := h.nx) (c := [.nilFunc, iv 0]) (fam := h.nx) (k := h.nx) (l := [fnV G, iv sg]) (by simp (disch := first | omega | (simp only [add_nx, upd_nx] <;> omega) | decide) only [rUz, ↓reduceIte, Nat.reduceEqDiff, Nat.reduceAdd]) (by simp (disch := first | omega | (simp only [add_nx, upd_nx] <;> omega) | decide) only [rUz, ↓reduceIte, Nat.reduceEqDiff, Nat.reduceAdd]) ss (by omega) rfl (ag_eq rfl) (af_eq rfl) rfl ?_
          have hk9 : Kp h ((h.add [.nilFunc, iv 0]).upd h.nx [fnV G, iv sg] h.nx) := Kp.refl.add.upd (Nat.le_refl _)
          have hg9 : ((h.add [.nilFunc, iv 0]).upd h.nx [fnV G, iv sg] h.nx).bl.get h.nx = some (.cells [fnV G, iv sg] h.nx false) := upd_eq _ _ _
          have hlt9 : h.nx < ((h.add [.nilFunc, iv 0]).upd h.nx [fnV G, iv sg] h.nx).nx := Nat.lt_succ_self _
          simp (disch := first | omega | (simp only [add_nx, upd_nx] <;> omega) | decide) only [rUz, ↓reduceIte, Nat.reduceEqDiff, Nat.reduceAdd]
          clear hx0
          generalize (h.add [.nilFunc, iv 0]).upd h.nx [fnV G, iv sg] h.nx = h6 at hk9 hg9 hlt9 ⊢
          generalize h.nx = B9 at hg9 hlt9 ⊢
          have hkp6 := hkp.trans hk9
          have how6 := how.mono hk9
          have hg76 := (hk9.get hlt7).trans hg7
          have hlt76 := Nat.lt_of_lt_of_le hlt7 hk9.1
          obtain ⟨ba, fa, ra, u1, u2, u3, u4⟩ := hia hkp6
          repeat refine S.seq ?_
          refine S.drawnL [(false, 0), (false, 0), (false, 2), (false, 0), (true, 14), (false, 31), (false, 63), (false, 0), (false, 128), (false, 0), (false, 0), (false, 1536), (false, 3584), (false, 8064), (false, 16383), (false, 32767), (true, 65535)] (by kernel_rfl) (by kernel_rfl) (by kernel_rfl) ?_
          have hmul : -200000 ≤ sg * a ∧ sg * a ≤ 200000 := by rcases hsg with rfl | rfl <;> omega
          simp (disch := first | omega | (simp only [add_nx, upd_nx] <;> omega) | decide) only [rUz, ↓reduceIte, Nat.reduceEqDiff, Nat.reduceAdd, rDz, infoL, Nat.reduceSub, t1, t5, t6, t7, hg9, hg76, fieldAddr_ptr fs0 sf, fieldAddr_ptr fs1 s3, pf, p3, part_c0 pL, u1, u3, u4]
          refine draw_pick' rfl ?_
          simp (disch := first | omega | (simp only [add_nx, upd_nx] <;> omega) | decide) only [rUz, ↓reduceIte, Nat.reduceEqDiff, Nat.reduceAdd, rDz, infoL, Nat.reduceSub, t1, t5, t6, t7, hg9, hg76, fieldAddr_ptr fs0 sf, fieldAddr_ptr fs1 s3, pf, p3, part_c0 pL, u1, u3, u4]
          refine draw_pick' rfl ?_
          simp (disch := first | omega | (simp only [add_nx, upd_nx] <;> omega) | decide) only [rUz, ↓reduceIte, Nat.reduceEqDiff, Nat.reduceAdd, rDz, infoL, Nat.reduceSub, t1, t5, t6, t7, hg9, hg76, fieldAddr_ptr fs0 sf, fieldAddr_ptr fs1 s3, pf, p3, part_c0 pL, u1, u3, u4]
          refine draw_pick' rfl ?_
          simp (disch := first | omega | (simp only [add_nx, upd_nx] <;> omega) | decide) only [rUz, ↓reduceIte, Nat.reduceEqDiff, Nat.reduceAdd, rDz, infoL, Nat.reduceSub, t1, t5, t6, t7, hg9, hg76, fieldAddr_ptr fs0 sf, fieldAddr_ptr fs1 s3, pf, p3, part_c0 pL, u1, u3, u4]
          refine draw_pick' rfl ?_
          simp (disch := first | omega | (simp only [add_nx, upd_nx] <;> omega) | decide) only [rUz, ↓reduceIte, Nat.reduceEqDiff, Nat.reduceAdd, rDz, infoL, Nat.reduceSub, t1, t5, t6, t7, hg9, hg76, fieldAddr_ptr fs0 sf, fieldAddr_ptr fs1 s3, pf, p3, part_c0 pL, u1, u3, u4]
          refine draw_pick' rfl ?_
          simp (disch := first | omega | (simp only [add_nx, upd_nx] <;> omega) | decide) only [rUz, ↓reduceIte, Nat.reduceEqDiff, Nat.reduceAdd, rDz, infoL, Nat.reduceSub, t1, t5, t6, t7, hg9, hg76, fieldAddr_ptr fs0 sf, fieldAddr_ptr fs1 s3, pf, p3, part_c0 pL, u1, u3, u4]
          refine draw_pick' rfl ?_
          simp (disch := first | omega | (simp only [add_nx, upd_nx] <;> omega) | decide) only [rUz, ↓reduceIte, Nat.reduceEqDiff, Nat.reduceAdd, rDz, infoL, Nat.reduceSub, t1, t5, t6, t7, hg9, hg76, fieldAddr_ptr fs0 sf, fieldAddr_ptr fs1 s3, pf, p3, part_c0 pL, u1, u3, u4]
          refine draw_pick' rfl ?_
          simp (disch := first | omega | (simp only [add_nx, upd_nx] <;> omega) | decide) only [rUz, ↓reduceIte, Nat.reduceEqDiff, Nat.reduceAdd, rDz, infoL, Nat.reduceSub, t1, t5, t6, t7, hg9, hg76, fieldAddr_ptr fs0 sf, fieldAddr_ptr fs1 s3, pf, p3, part_c0 pL, u1, u3, u4]
          refine drW_brings (fid := G) (first := #[]) (captured := #[]) (Post := fun v _ => v = iv (kk : Int)) (by simp (disch := first | omega | (simp only [add_nx, upd_nx] <;> omega) | decide) only [rUz, ↓reduceIte, Nat.reduceEqDiff, Nat.reduceAdd]) (hoff _ _ _ hG) (by simp (disch := first | omega | (simp only [add_nx, upd_nx] <;> omega) | decide) only [rUz, ↓reduceIte, Nat.reduceEqDiff, Nat.reduceAdd]; exact hcall _) (Nat.le_of_ble_eq_true rfl) ?_
          rintro v h7 hk7 rfl
          have hg97 := (hk7.get hlt9).trans hg9
          have hu37 := (hk7.get u2).trans u3
          have how7 := how6.mono hk7
          have hkp7 := hkp6.trans hk7
          have hg77 := (hk7.get hlt76).trans hg76
          have hlt77 := Nat.lt_of_lt_of_le hlt76 hk7.1
          refine ⟨?_, ?_⟩
          · try simp (disch := first | decide | rfl) only [again_nil, again_skip, again_free]
            rw [again_same (v := iv a) (by simp (disch := first | omega | (simp only [add_nx, upd_nx] <;> omega) | decide) only [rUz, ↓reduceIte, Nat.reduceEqDiff, Nat.reduceAdd, rDz, infoL, Nat.reduceSub, hu37, p3, u4]) (by first | assumption | exact veq_int | rfl)]
            try simp (disch := first | decide | rfl) only [again_nil, again_skip, again_free]
            rw [again_same (v := iv sg) (by simp (disch := first | omega | (simp only [add_nx, upd_nx] <;> omega) | decide) only [rUz, ↓reduceIte, Nat.reduceEqDiff, Nat.reduceAdd, rDz, infoL, Nat.reduceSub, hg97, p3]) (by first | assumption | exact veq_int | rfl)]
            try simp (disch := first | decide | rfl) only [again_nil, again_skip, again_free]
          have hgd := bnd_getD hbj (by omega) kk
          have hgk : (aj.map iv)[kk]? = some (iv (aj.getD kk 0)) := by rw [pI3 aj (by omega : kk < aj.length), getD_of]
          have hnn := addAt_len aj kk (sg * a)
          have hkk2 : kk < aj.length := by omega
          generalize hda' : sg * a = d at hmul hnext hnn ⊢
          have hst : (aj.map iv).set kk (iv (aj.getD kk 0 + d)) = (addAt aj kk d).map iv := by rw [addAt, List.map_set]
          simp (disch := first | omega | (simp only [add_nx, upd_nx] <;> omega) | decide) only [rUz, ↓reduceIte, Nat.reduceEqDiff, Nat.reduceAdd, rDz, infoL, Nat.reduceSub, indexAddr_sl slI s3' (by omega : kk < n), how7.2.1, hgk, p3]
          refine drW_store (B := B5) (off := kk) (c := aj.map iv) (fam := B5) (k0 := B5) (kd := .i64) (z := aj.getD kk 0 + d) (by simp (disch := first | omega | (simp only [add_nx, upd_nx] <;> omega) | decide) only [rUz, ↓reduceIte, Nat.reduceEqDiff, Nat.reduceAdd, rDz, infoL, Nat.reduceSub]) (by simp (disch := first | omega | (simp only [add_nx, upd_nx] <;> omega) | decide) only [rUz, ↓reduceIte, Nat.reduceEqDiff, Nat.reduceAdd, rDz, infoL, Nat.reduceSub]) s3' how7.2.1 how7.2.2 (by rw [List.length_map]; exact hkk2) ?_ ?_
          · try simp (disch := first | decide | rfl) only [again_nil, again_skip, again_free]
          rw [hst]
          have hup : Own (h7.upd B5 ((addAt aj kk d).map iv) B5) B5 (addAt aj kk d) := ⟨how7.1, upd_eq _ _ _, how7.2.2⟩
          simp (disch := first | omega | (simp only [add_nx, upd_nx] <;> omega) | decide) only [rUz, ↓reduceIte, Nat.reduceEqDiff, Nat.reduceAdd, rDz, infoL, Nat.reduceSub]
          repeat refine S.seq ?_
          refine S.region ?_
          simp (disch := first | omega | (simp only [add_nx, upd_nx] <;> omega) | decide) only [rUz, ↓reduceIte, Nat.reduceEqDiff, Nat.reduceAdd, t22]
          refine hn2 (j + 1) _ _ (by omega) ⟨by omega, hkp7.upd (by omega), hlt77, ?_, ?_, ?_, ?_, ?_, ?_, ?_, ?_, ?_, ?_, by rw [hAN, hnext]; exact hup⟩
          rotate_right
          · rw [upd_ne _ _ _ (by omega)]; exact hg77
          all_goals (first | rfl | (simp (disch := first | omega | (simp only [add_nx, upd_nx] <;> omega) | decide) only [rUz, ↓reduceIte, Nat.reduceEqDiff, Nat.reduceAdd, t1, t5, t6, t7, t14, t15, t16, t21, t22]; done) | (simp (disch := first | omega | (simp only [add_nx, upd_nx] <;> omega) | decide) only [rUz, ↓reduceIte, Nat.reduceEqDiff, Nat.reduceAdd, t1, t5, t6, t7, t14, t15, t16, t21, t22]; rfl))
        · have hj2 : j = 2 := by have := of_decide_eq_false e; omega
          subst hj2
          refine S.exit (he2 _ _ _ _ (fun e => by cases e) ?_)
          simp (disch := first | omega | (simp only [add_nx, upd_nx] <;> omega) | decide) only [rUz, ↓reduceIte, Nat.reduceEqDiff, Nat.reduceAdd]
          repeat refine S.seq ?_
          refine S.region ?_
          simp (disch := first | omega | (simp only [add_nx, upd_nx] <;> omega) | decide) only [rUz, ↓reduceIte, Nat.reduceEqDiff, Nat.reduceAdd, t16]
          refine hn (k + 1) _ _ (by omega) ⟨by omega, hkp, ?_, ?_, ?_, ?_, ?_, stepB acc c a, how, by rw [stepB_len]; exact hal', ?_, hbal⟩
          rotate_right
          · exact bnd_mono (stepB_bnd (M := 200000) hbd (by omega) (by omega) (by omega)) (by omega)
          all_goals (first | rfl | (simp (disch := first | omega | (simp only [add_nx, upd_nx] <;> omega) | decide) only [rUz, ↓reduceIte, Nat.reduceEqDiff, Nat.reduceAdd, t1, t5, t14, t15, t16]; done) | (simp (disch := first | omega | (simp only [add_nx, upd_nx] <;> omega) | decide) only [rUz, ↓reduceIte, Nat.reduceEqDiff, Nat.reduceAdd, t1, t5, t14, t15, t16]; rfl))
      · refine ⟨by omega, hkp5, hlt5, ?_, ?_, ?_, ?_, ?_, ?_, ?_, ?_, ?_, hg5, how5⟩
        all_goals (first | rfl | (simp (disch := first | omega | (simp only [add_nx, upd_nx] <;> omega) | decide) only [rUz, ↓reduceIte, Nat.reduceEqDiff, Nat.reduceAdd, t1, t5, t14, t15, t16]; done) | (simp (disch := first | omega | (simp only [add_nx, upd_nx] <;> omega) | decide) only [rUz, ↓reduceIte, Nat.reduceEqDiff, Nat.reduceAdd, t1, t5, t14, t15, t16]; rfl))
    · have hkn : k = cs.length := by have := of_decide_eq_false e; omega
      subst hkn
      rw [List.drop_of_length_le (Nat.le_refl _)] at hbal
      have hbal' : acc = bal n cs am := by rw [← hbal]; simp only [balG]
      subst hbal'
      refine S.exit (he _ _ _ _ (fun e => by cases e) ?_)
      simp (disch := first | omega | (simp only [add_nx, upd_nx] <;> omega) | decide) only [rUz, ↓reduceIte, Nat.reduceEqDiff, Nat.reduceAdd]
      repeat refine S.seq ?_
      refine S.region ?_
      simp (disch := first | omega | (simp only [add_nx, upd_nx] <;> omega) | decide) only [rUz, ↓reduceIte, Nat.reduceEqDiff, Nat.reduceAdd, t5]
      refine S.ret ?_
      try simp only [seqK_ret, blockK_ret]
      subst hF
      simp only [finish, endMarks]
      rw [show Try.f43.results.toList = [.tmp 4] from rfl]
      simp (disch := first | omega | (simp only [add_nx, upd_nx] <;> omega) | decide) only [resA, ev_tmp, tget_ne, tget_eq, get_ne, get_eq, upd_eq, upd_ne, ag_eq, ag_ne, result1]
      exact hK _ _ hkp ⟨B5, rfl, hB5, how⟩
  · refine ⟨Nat.zero_le _, hk1, ?_, ?_, ?_, ?_, ?_, List.replicate n 0, hown, List.length_replicate, bnd_zero n, rfl⟩
    all_goals (first | rfl | (simp (disch := first | omega | (simp only [add_nx, upd_nx] <;> omega) | decide) only [rUz, ↓reduceIte, Nat.reduceEqDiff, Nat.reduceAdd]; done) | (simp (disch := first | omega | (simp only [add_nx, upd_nx] <;> omega) | decide) only [rUz, ↓reduceIte, Nat.reduceEqDiff, Nat.reduceAdd]; rfl))
end Go.Proofs.Rg
