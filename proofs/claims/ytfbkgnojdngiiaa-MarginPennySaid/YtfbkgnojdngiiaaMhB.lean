import Derived.Test.YtfbkgnojdngiiaaMhA
/- Whether a truth is one of a bank, by the program. -/
namespace Go.Proofs.Mg
open Go Go.Ev Go.RowKit
set_option linter.unusedSimpArgs false
variable {pr : Prim} {R : ExT}
theorem zip_all {α β : Type} {q : α × β → Bool} {cs : List α} {ps : List β} : (List.zip cs ps).all q = true ↔ ∀ (i : Nat) (h1 : i < cs.length) (h2 : i < ps.length), q (cs[i], ps[i]) = true := by
  rw [List.all_eq_true]
  constructor
  · intro h i h1 h2
    have hi : i < (List.zip cs ps).length := by rw [List.length_zip]; omega
    have hm := List.getElem_mem hi
    rw [List.getElem_zip] at hm
    exact h _ hm
  · intro h z hz
    obtain ⟨i, hi, rfl⟩ := List.mem_iff_getElem.1 hz
    rw [List.length_zip] at hi
    rw [List.getElem_zip]
    exact h i (by omega) (by omega)
def hpB (z : PD × PT) : Bool := decide ((z.1.2.1.length : Int) = (z.2.2.length : Int)) && pricesB z.1.2.1 z.2.2
def hrB (z : PD × Int) : Bool := inB z.2 z.1.2.2.1 z.1.2.2.2
def allowsZ (D : List PD) (Ts : List PT) (rt : List Int) : Bool := (decide ((D.length : Int) = (Ts.length : Int)) && (List.zip D Ts).all hpB) && (decide ((D.length : Int) = (rt.length : Int)) && (List.zip D rt).all hrB)
theorem allows_eq {st : Int} {D : List PD} {L : List PL} (hv : Val st D L) (Ts : List PT) (rt : List Int) : allowsZ D Ts rt = truthB st D Ts rt := by
  rw [Bool.eq_iff_iff]
  simp only [allowsZ, truthB, Bool.and_eq_true, decide_eq_true_eq, zip_all]
  constructor
  · rintro ⟨⟨h1, h2⟩, h3, h4⟩
    refine ⟨h1.symm, h3.symm, fun i hD hz => ?_⟩
    have hT : i < Ts.length := by omega
    have hR : i < rt.length := by omega
    have a := h2 i hD hT
    have b := h4 i hD hR
    have hl := (okD_iff.1 (hv.dy D[i] (List.getElem_mem hD))).len
    rw [List.getElem_zip]
    simp only [hpB, hrB, okT, okT1, Bool.and_eq_true, decide_eq_true_eq] at a b ⊢
    exact ⟨⟨by omega, b⟩, a.2⟩
  · rintro ⟨h1, h2, h3⟩
    refine ⟨⟨h1.symm, fun i hD hT => ?_⟩, h2.symm, fun i hD hR => ?_⟩
    · have hR : i < rt.length := by omega
      have a := h3 i hD (by rw [List.length_zip]; omega)
      have hl := (okD_iff.1 (hv.dy D[i] (List.getElem_mem hD))).len
      rw [List.getElem_zip] at a
      simp only [hpB, okT, okT1, Bool.and_eq_true, decide_eq_true_eq] at a ⊢
      exact ⟨by omega, a.2⟩
    · have hT : i < Ts.length := by omega
      have a := h3 i hD (by rw [List.length_zip]; omega)
      rw [List.getElem_zip] at a
      simp only [hrB, okT, okT1, Bool.and_eq_true, decide_eq_true_eq] at a ⊢
      exact a.1.2
set_option maxHeartbeats 4000000 in
theorem hasPrices_y (S : Ev.Steps Try.prog pr R) (hoff : Off pr) (h0 : AHeap) (x : PD) (p : PT) (hx : SlAt h0 2 x.1 (x.2.1.map c2)) (hp : IAt h0 p.1 p.2) (h7 : (x.2.1.length : Int) ≤ 7) :
    Brings Try.prog R 90 [.agg ⟨cD x⟩, p.1] h0 fun u _ => u = .bool (hpB (x, p)) := by
  refine brings_of (fn := Try.f90) (c := (Try.f90.body).getD .skip) (by kernel_rfl) rfl (by kernel_rfl) rfl (fun K hK => ?_)
  generalize hF : finish Try.prog Try.f90 K = KF
  simp only [Try.f90, Option.getD_some, argsT, setArgs, fV1_eq, T.setK_eq, id]
  repeat refine S.seq ?_
  refine S.region ?_
  simp (disch := first | omega | (simp only [add_nx, upd_nx] <;> omega) | decide) only [rUz, ↓reduceIte, Nat.reduceEqDiff, Nat.reduceAdd]
  repeat refine S.seq ?_
  refine S.region ?_
  simp (disch := first | omega | (simp only [add_nx, upd_nx] <;> omega) | decide) only [rUz, ↓reduceIte, Nat.reduceEqDiff, Nat.reduceAdd, fieldAddr_ptr fcD0 lcR, qcR, cD0]
  refine wr_brings (fid := 103) (first := #[]) (captured := #[]) (Post := fun u _ => u = .bool (hpB (x, p))) rfl (hoff _ _ _ rfl) (by simp (disch := first | omega | (simp only [add_nx, upd_nx] <;> omega) | decide) only [rUz, ↓reduceIte, Nat.reduceEqDiff, Nat.reduceAdd]; exact eqRI_y S hoff (h0.add (cD x)) x.1 p.1 x.2.1 p.2 (SlAt.mono hx Kp.refl.add) (hp.mono Kp.refl.add) (by omega) 46 rfl (fun z => inB z.2 z.1.1 z.1.2) (fun h' _ r n _ _ => rhas_y S h' r n)) ?_
  rintro u g hk rfl
  simp (disch := first | omega | (simp only [add_nx, upd_nx] <;> omega) | decide) only [rUz, ↓reduceIte, Nat.reduceEqDiff, Nat.reduceAdd]
  refine S.ret ?_
  try simp only [seqK_ret, blockK_ret]
  subst hF
  simp only [finish, endMarks]
  rw [show Try.f90.results.toList = [.tmp 4] from rfl]
  simp (disch := first | omega | (simp only [add_nx, upd_nx] <;> omega) | decide) only [resA, ev_tmp, tget_ne, tget_eq, get_ne, get_eq, upd_eq, upd_ne, ag_eq, ag_ne, result1]
  exact hK _ _ (Kp.refl.add.trans hk) rfl
set_option maxHeartbeats 4000000 in
theorem hasRate_y (S : Ev.Steps Try.prog pr R) (hoff : Off pr) (h0 : AHeap) (x : PD) (r : Int) :
    Brings Try.prog R 92 [.agg ⟨cD x⟩, iv r] h0 fun u _ => u = .bool (hrB (x, r)) := by
  refine brings_of (fn := Try.f92) (c := (Try.f92.body).getD .skip) (by kernel_rfl) rfl (by kernel_rfl) rfl (fun K hK => ?_)
  generalize hF : finish Try.prog Try.f92 K = KF
  simp only [Try.f92, Option.getD_some, argsT, setArgs, fV1_eq, T.setK_eq, id]
  have hrt : ∀ c : List Value, c = cD x → partL Try.prog 48 c 1 = some (.agg ⟨c2 x.2.2⟩) := fun c e => by subst e; rw [pcR]; rfl
  repeat refine S.seq ?_
  refine S.region ?_
  simp (disch := first | omega | (simp only [add_nx, upd_nx] <;> omega) | decide) only [rUz, ↓reduceIte, Nat.reduceEqDiff, Nat.reduceAdd]
  repeat refine S.seq ?_
  refine S.region ?_
  simp (disch := first | omega | (simp only [add_nx, upd_nx] <;> omega) | decide) only [rUz, ↓reduceIte, Nat.reduceEqDiff, Nat.reduceAdd, fieldAddr_ptr fcD1 ScR, hrt _ rfl]
  refine wr_brings (fid := 46) (first := #[]) (captured := #[]) (Post := fun u _ => u = .bool (inB r x.2.2.1 x.2.2.2)) rfl (hoff _ _ _ rfl) (by simp (disch := first | omega | (simp only [add_nx, upd_nx] <;> omega) | decide) only [rUz, ↓reduceIte, Nat.reduceEqDiff, Nat.reduceAdd]; exact rhas_y S _ x.2.2 r) ?_
  rintro u g hk rfl
  simp (disch := first | omega | (simp only [add_nx, upd_nx] <;> omega) | decide) only [rUz, ↓reduceIte, Nat.reduceEqDiff, Nat.reduceAdd]
  refine S.ret ?_
  try simp only [seqK_ret, blockK_ret]
  subst hF
  simp only [finish, endMarks]
  rw [show Try.f92.results.toList = [.tmp 4] from rfl]
  simp (disch := first | omega | (simp only [add_nx, upd_nx] <;> omega) | decide) only [resA, ev_tmp, tget_ne, tget_eq, get_ne, get_eq, upd_eq, upd_ne, ag_eq, ag_ne, result1]
  exact hK _ _ (Kp.refl.add.trans hk) rfl
set_option maxHeartbeats 4000000 in
theorem allows_y (S : Ev.Steps Try.prog pr R) (hoff : Off pr) (h0 : AHeap) (st : Int) (dv lv pv rv : Value) (D : List PD) (L : List PL) (Ts : List PT) (rt : List Int) (hb : BkAt h0 dv lv D L) (ht : TuAt h0 pv rv Ts rt) (hv : Val st D L) :
    Brings Try.prog R 76 [.agg ⟨bkV st dv lv⟩, .agg ⟨tuV pv rv⟩] h0 fun u _ => u = .bool (truthB st D Ts rt) := by
  refine brings_of (fn := Try.f76) (c := (Try.f76.body).getD .skip) (by kernel_rfl) rfl (by kernel_rfl) rfl (fun K hK => ?_)
  generalize hF : finish Try.prog Try.f76 K = KF
  simp only [Try.f76, Option.getD_some, argsT, setArgs, fV1_eq, T.setK_eq, id]
  have hK' : ∀ b, b = allowsZ D Ts rt → ∀ g, Kp h0 g → K (.bool b) g = true := fun b e g hk => hK _ _ hk (by rw [e, allows_eq hv])
  clear hK
  unfold allowsZ at hK'
  have hs4 := hv.s4
  have hd4 := hv.d4
  have hp7 : ∀ x, x ∈ D → (x.2.1.length : Int) ≤ 7 := fun x hx => by have := (okD_iff.1 (hv.dy x hx)).len; omega
  repeat refine S.seq ?_
  refine S.region ?_
  simp (disch := first | omega | (simp only [add_nx, upd_nx] <;> omega) | decide) only [rUz, ↓reduceIte, Nat.reduceEqDiff, Nat.reduceAdd]
  obtain ⟨B2, hB2⟩ : ∃ x, x = h0.nx := ⟨_, rfl⟩
  obtain ⟨B3, hB3⟩ : ∃ x, x = h0.nx + 1 := ⟨_, rfl⟩
  have hb2 : ((h0.add (bkV st dv lv)).add (tuV pv rv)).bl.get B2 = some (.cells (bkV st dv lv) B2 false) := by rw [ag_ne (by show B2 ≠ h0.nx + 1; omega)]; subst hB2; exact ag_eq rfl
  have hb3 : ((h0.add (bkV st dv lv)).add (tuV pv rv)).bl.get B3 = some (.cells (tuV pv rv) B3 false) := by subst hB3; exact ag_eq rfl
  have hk1 : Kp h0 ((h0.add (bkV st dv lv)).add (tuV pv rv)) := Kp.refl.add.add
  have hn2 : B2 < ((h0.add (bkV st dv lv)).add (tuV pv rv)).nx := by show B2 < h0.nx + 2; omega
  have hn3 : B3 < ((h0.add (bkV st dv lv)).add (tuV pv rv)).nx := by show B3 < h0.nx + 2; omega
  rw [← hB3, ← hB2]
  clear hB2 hB3
  generalize (h0.add (bkV st dv lv)).add (tuV pv rv) = H at hb2 hb3 hk1 hn2 hn3 ⊢
  have hbH := hb.mono hk1
  have htH := ht.mono hk1
  repeat refine S.seq ?_
  refine S.region ?_
  simp (disch := first | omega | (simp only [add_nx, upd_nx] <;> omega) | decide) only [rUz, ↓reduceIte, Nat.reduceEqDiff, Nat.reduceAdd, fieldAddr_ptr fB1 lcD, fieldAddr_ptr fcU0 lII, qcD, qII, hb2, hb3, bk1, tu0]
  refine wr_brings (fid := 89) (first := #[]) (captured := #[]) (Post := fun u _ => u = .bool (decide ((D.length : Int) = (Ts.length : Int)) && (List.zip D Ts).all hpB)) rfl (hoff _ _ _ rfl) (by simp (disch := first | omega | (simp only [add_nx, upd_nx] <;> omega) | decide) only [rUz, ↓reduceIte, Nat.reduceEqDiff, Nat.reduceAdd]; exact eqDT_y S hoff H dv pv D Ts hbH.dy htH.pr (by omega) 90 rfl hpB (fun h' hk x p hx hp => hasPrices_y S hoff h' x p (SlAt.mono (hbH.pr x hx) hk) ((htH.ps p hp).mono hk) (hp7 x hx))) ?_
  rintro u g hkg rfl
  replace hb2 := (hkg.get hn2).trans hb2
  replace hb3 := (hkg.get hn3).trans hb3
  have hbg := hbH.mono hkg
  have htg := htH.mono hkg
  cases h1 : (decide ((D.length : Int) = (Ts.length : Int)) && (List.zip D Ts).all hpB) with
  | false =>
    rw [h1, Bool.false_and] at hK'
    simp (disch := first | omega | (simp only [add_nx, upd_nx] <;> omega) | decide) only [rUz, ↓reduceIte, Nat.reduceEqDiff, Nat.reduceAdd, h1]
    repeat refine S.seq ?_
    refine S.region ?_
    simp (disch := first | omega | (simp only [add_nx, upd_nx] <;> omega) | decide) only [rUz, ↓reduceIte, Nat.reduceEqDiff, Nat.reduceAdd]
    refine S.ret ?_
    try simp only [seqK_ret, blockK_ret]
    subst hF
    simp only [finish, endMarks]
    rw [show Try.f76.results.toList = [.tmp 4] from rfl]
    simp (disch := first | omega | (simp only [add_nx, upd_nx] <;> omega) | decide) only [resA, ev_tmp, tget_ne, tget_eq, get_ne, get_eq, upd_eq, upd_ne, ag_eq, ag_ne, result1]
    exact hK' _ rfl _ (hk1.trans hkg)
  | true =>
  rw [h1, Bool.true_and] at hK'
  simp (disch := first | omega | (simp only [add_nx, upd_nx] <;> omega) | decide) only [rUz, ↓reduceIte, Nat.reduceEqDiff, Nat.reduceAdd, h1]
  repeat refine S.seq ?_
  refine S.region ?_
  simp (disch := first | omega | (simp only [add_nx, upd_nx] <;> omega) | decide) only [rUz, ↓reduceIte, Nat.reduceEqDiff, Nat.reduceAdd, fieldAddr_ptr fB1 lcD, fieldAddr_ptr fcU1 lI, qcD, qI, hb2, hb3, bk1, tu1]
  refine wr_brings (fid := 91) (first := #[]) (captured := #[]) (Post := fun u _ => u = .bool (decide ((D.length : Int) = (rt.length : Int)) && (List.zip D rt).all hrB)) rfl (hoff _ _ _ rfl) (by simp (disch := first | omega | (simp only [add_nx, upd_nx] <;> omega) | decide) only [rUz, ↓reduceIte, Nat.reduceEqDiff, Nat.reduceAdd]; exact eqDI_y S hoff g dv rv D rt hbg.dy htg.rt (by omega) 92 rfl hrB (fun h' _ x r _ _ => hasRate_y S hoff h' x r)) ?_
  rintro u g2 hkg2 rfl
  simp (disch := first | omega | (simp only [add_nx, upd_nx] <;> omega) | decide) only [rUz, ↓reduceIte, Nat.reduceEqDiff, Nat.reduceAdd]
  refine S.ret ?_
  try simp only [seqK_ret, blockK_ret]
  subst hF
  simp only [finish, endMarks]
  rw [show Try.f76.results.toList = [.tmp 4] from rfl]
  simp (disch := first | omega | (simp only [add_nx, upd_nx] <;> omega) | decide) only [resA, ev_tmp, tget_ne, tget_eq, get_ne, get_eq, upd_eq, upd_ne, ag_eq, ag_ne, result1]
  exact hK' _ rfl _ (hk1.trans (hkg.trans hkg2))
end Go.Proofs.Mg
