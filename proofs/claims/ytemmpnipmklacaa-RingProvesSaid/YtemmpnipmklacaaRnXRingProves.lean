import Derived.Test.YtemmpnipmklacaaRnF2
import Derived.Test.YtemmpnipmklacaaRnT
import Derived.Test.YtemmpnipmklacaaRpQ
/- RingProves: at every argument. No condition. -/
namespace Go.Proofs.Ytemmpnipmklacaa.ringProves
open Go Go.Ev Go.ChangeShapes Go.WideShapes Go.ChangeAt Go.RowKit Go.Proofs.Rg

theorem argsRdN {H : Type} {P : Program} {h : AHeap} {k : Nat} {t0 t1 t2 t3 t4 t5 : TypeId} {v0 v1 v2 v3 v4 v5 : Value} {d0 d1 d2 d3 d4 d5 : DataW H} : ∀ {xs : List Value}, ArgsRd P h k [t0, t1, t2, t3, t4, t5] [v0, v1, v2, v3, v4, v5] xs [d0, d1, d2, d3, d4, d5] →
    ∃ c0 c1 c2 c3 c4 c5, xs = [toV v0 c0, toV v1 c1, toV v2 c2, toV v3 c3, toV v4 c4, toV v5 c5] ∧ Rd P h k t0 c0 d0 ∧ Rd P h k t1 c1 d1 ∧ Rd P h k t2 c2 d2 ∧ Rd P h k t3 c3 d3 ∧ Rd P h k t4 c4 d4 ∧ Rd P h k t5 c5 d5
  | [_, _, _, _, _, _], ⟨⟨c0, e0, k0⟩, ⟨c1, e1, k1⟩, ⟨c2, e2, k2⟩, ⟨c3, e3, k3⟩, ⟨c4, e4, k4⟩, ⟨c5, e5, k5⟩, _⟩ => ⟨c0, c1, c2, c3, c4, c5, by rw [e0, e1, e2, e3, e4, e5], k0, k1, k2, k3, k4, k5⟩
  | [], h => h.elim
  | [_], ⟨_, h⟩ => h.elim
  | [_, _], ⟨_, _, h⟩ => h.elim
  | [_, _, _], ⟨_, _, _, h⟩ => h.elim
  | [_, _, _, _], ⟨_, _, _, _, h⟩ => h.elim
  | [_, _, _, _, _], ⟨_, _, _, _, _, h⟩ => h.elim
  | _ :: _ :: _ :: _ :: _ :: _ :: _ :: _, ⟨_, _, _, _, _, _, h⟩ => h.elim

set_option maxRecDepth 100000 in
theorem contract (H : Type) (enc : TypeId × Value → H) (W : World) (base : Nat) (args : Array Value) (ds gs : List (DataW H)) (bef : List MemPlace) (hsh : W.ShapedOpen Try.prog)
    (hval : ∀ (j : Nat) (t : TypeId) (v : Value), Try.f6.params[j]? = some t → args[j]? = some v → Value.okWide Try.prog W .any base t v)
    (hW : DataW.Whole enc Try.prog Try.f6.params.toList Rows.ringProvesSpec.vars false W args.toList ds gs bef) :
    Calls Try.prog 6 args W fun e W' => ∃ v, e = .returned v ∧ Rows.ringProvesSpec.post enc Try.prog Try.f6 false true false false W args v W' := by
  have hW' := hW
  obtain ⟨p, q, hA0, hV, rfl, hfz, hnd⟩ := hW
  have hA : DataW.TrodAll enc Try.prog W 0 (fun _ => true) true Try.f6.params.toList args.toList ds p := hA0
  rw [Try.params6] at hA hval
  have hA' := hA
  obtain ⟨v0, r0, d0, e0, p0, q0, ha0, rfl, hpq0, hT0, hA0_⟩ := trodAll_cons hA
  obtain ⟨v1, r1, d1, e1, p1, q1, ha1, rfl, hpq1, hT1, hA1_⟩ := trodAll_cons hA0_
  obtain ⟨v2, r2, d2, e2, p2, q2, ha2, rfl, hpq2, hT2, hA2_⟩ := trodAll_cons hA1_
  obtain ⟨v3, r3, d3, e3, p3, q3, ha3, rfl, hpq3, hT3, hA3_⟩ := trodAll_cons hA2_
  obtain ⟨v4, r4, d4, e4, p4, q4, ha4, rfl, hpq4, hT4, hA4_⟩ := trodAll_cons hA3_
  obtain ⟨v5, r5, d5, e5, p5, q5, ha5, rfl, hpq5, hT5, hA5_⟩ := trodAll_cons hA4_
  obtain ⟨rfl, rfl, rfl⟩ := trodAll_nil hA5_
  subst ha5 ha4 ha3 ha2 ha1
  obtain rfl : args = #[v0, v1, v2, v3, v4, v5] := by apply Array.toList_inj.1; exact ha0
  obtain ⟨a0, rfl, _⟩ := okWide_struct Try.underlying24 (hval 0 24 v0 rfl rfl)
  obtain ⟨a1, l1, m1, rfl⟩ := okWide_slice Try.underlying27 (hval 1 27 v1 rfl rfl)
  obtain ⟨a2, l2, m2, rfl⟩ := okWide_slice Try.underlying27 (hval 2 27 v2 rfl rfl)
  obtain ⟨a3, l3, m3, rfl⟩ := okWide_slice Try.underlying53 (hval 3 53 v3 rfl rfl)
  obtain ⟨a4, l4, m4, rfl⟩ := okWide_slice Try.underlying27 (hval 4 27 v4 rfl rfl)
  obtain ⟨a5, rfl⟩ := okWide_int Try.underlying3 (hval 5 3 v5 rfl rfl)
  obtain ⟨rfl, rfl⟩ := trodVars_none hV
  have hk : ∀ t, t ∈ [24, 27, 27, 53, 27, 3] → okTy Try.prog 8 t = true := fun t ht => by
    simp only [List.mem_cons, List.not_mem_nil, or_false] at ht
    rcases ht with rfl | rfl | rfl | rfl | rfl | rfl
    · kernel_rfl
    · kernel_rfl
    · kernel_rfl
    · kernel_rfl
    · kernel_rfl
    · kernel_rfl
  refine (calls_args (k := 8) (tb := []) (fun p hp => by cases hp) Try.func6 (c := (Try.f6.body).getD .skip) rfl (by kernel_rfl) hA' hk (by kernel_rfl) (v := .bool true) rfl ⟨globalsIn hsh, fun p hp => by cases hp⟩ (fun h xs _ _ hR => ?_)).mono fun e W' ⟨he, hB⟩ => ?_
  · obtain ⟨cs0, cs1, cs2, cs3, cs4, cs5, rfl, hd0, hd1, hd2, hd3, hd4, hd5⟩ := argsRdN hR
    obtain ⟨hs0, cv0, bk0, z0, hc0⟩ := rd_book hd0
    obtain ⟨av1, am1, z1, ha1_, hm1⟩ := rd_intsS hd1
    obtain ⟨av2, am2, z2, ha2_, hm2⟩ := rd_intsS hd2
    obtain ⟨rv3, rl3, z3, hr3⟩ := rd_rings hd3
    obtain ⟨av4, am4, z4, ha4_, hm4⟩ := rd_intsS hd4
    obtain ⟨n5, z5, hn5⟩ := rd_intw Try.underlying3 hd5
    subst z0 z1 z2 z3 z4 z5
    refine brings_body (fn := Try.f6) (g := 6) (by kernel_rfl) rfl (by kernel_rfl) rfl (proves_law (steps_exA hmixT primR_sound) primR_tab h hs0 cv0 bk0 hc0 av1 am1 ha1_ av2 am2 ha2_ rv3 rl3 hr3 av4 am4 ha4_ n5 hn5) _ fun u g _ hu => @decide_eq_true _ (Classical.propDecidable _) hu
  · subst he
    refine ⟨_, rfl, post_below (pa := p) (pv := []) hW' (fun _ _ _ => trodAll_cons_mk (shut_bool Try.underlying4 _) trodAll_mk0) (fun sp hsp => ?_) (fun _ _ => rfl) rfl hB (ok_one (by kernel_rfl) rfl (okWide_bool_mk Try.underlying4 _))⟩
    rw [Try.params6]
    have hlt := hW'.lt
    rw [List.append_nil] at hsp hlt
    exact trodAll_below (k := 8) hB hA' hk hlt hsp

def arg0 : Array Value := #[.agg #[.int .i64 0, .slice none 0 0], .slice none 0 0, .slice none 0 0, .slice none 0 0, .slice none 0 0, .int .i64 0]
set_option maxRecDepth 100000 in
theorem laid_met (os : Os) : laidMet Try.prog Rows.ringProvesRow.laid ((laidWorld os).forCall (fun _ _ => 0) ⟨#[], arg0, []⟩).memory :=
  laidMet_of_run' 80 (by kernel_rfl) (by kernel_rfl)
set_option maxRecDepth 100000 in
theorem reads (os : Os) {H : Type} (enc : TypeId × Value → H) : ∃ places, DataW.whole enc Try.prog ((laidWorld os).forCall (fun _ _ => 0) ⟨#[], arg0, []⟩).memory Try.f6.params.toList Rows.ringProvesSpec.vars false arg0.toList 8 = some ([.agg [.lit (.int .i64 0), .nil], .nil, .nil, .nil, .nil, .lit (.int .i64 0)], [], places) :=
  ⟨[], by kernel_rfl⟩

set_option maxRecDepth 100000 in
theorem lifted (os : Os) (started : os.Started) (H : Type) (enc : TypeId × Value → H) (F : Stop.Interp) :
    ReturnsInHanded {} Try.checked os 6 .any ((OpenSpec.ofChange Rows.ringProvesSpec).preRow enc Try.prog Try.f6 Rows.ringProvesRow.domain false Rows.ringProvesRow.laid) (((OpenSpec.ofChange Rows.ringProvesSpec).at F).post enc Try.prog Try.f6 false true false false) := by
  obtain ⟨places, hx⟩ := reads os enc
  refine returnsInHanded_of_row (C := Try.checked) (s := OpenSpec.ofChange Rows.ringProvesSpec) own started (by kernel_rfl) Try.func6
    (witness_row_at (enc := enc) (C := Try.checked) false (laidWorld os) arg0 rfl (by kernel_rfl) (by kernel_rfl) (by kernel_rfl)
      (OpenSpec.preRow_of_cond 8 hx (by kernel_rfl) (fun k hk => by cases hk) (by kernel_rfl) (laid_met os))) ?_
  intro W base args ds gs bef hval hW _ _ _ _ hsh _
  exact contract H enc W base args ds gs bef hsh hval hW

theorem closed : joinedFacts Try.pinned.checked.prog 6 Try.f6 (OpenSpec.ofChange Rows.ringProvesSpec).bare Rows.ringProvesRow = true := by kernel_rfl

theorem said : Rows.RingProvesSaid :=
  OpenClaim.holds_of_cond 6 Try.f6 rfl rfl rfl rfl rfl rfl rfl ⟨rfl, rfl, rfl, rfl, rfl⟩ rfl rfl rfl rfl rfl (by kernel_rfl) Try.func6 closed
    (of_decide_eq_true (by kernel_rfl)) (by unfold Func.isWrapper; first | (rw [if_pos (by decide +kernel)]; kernel_rfl) | (rw [if_neg (by decide +kernel)]; exact ⟨rfl, rfl⟩))
    (fun os started H enc _ F => by rw [OpenClaim.pre_eq_preRow]; exact lifted os started H enc F)
end Go.Proofs.Ytemmpnipmklacaa.ringProves

