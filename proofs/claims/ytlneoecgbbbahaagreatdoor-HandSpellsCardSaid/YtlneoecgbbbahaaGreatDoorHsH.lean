import Derived.Test.YtlneoecgbbbahaaGreatDoorGive
import Derived.Test.YtlneoecgbbbahaaGreatDoorHsG
import Derived.Test.YtlneoecgbbbahaaGreatDoorEvD
import Derived.Stop.LaidErr
import Derived.Lib.LaidTab
import Derived.ChangeMaps5
import Derived.ChangeSame
import Derived.Shelf.LaysM
/- How any hand of checks is found, and what any string reads as a value, and how any number is spelled: at every hand, every string and every number. The tables are laid. -/
namespace Go.Proofs.YtlneoecgbbbahaaGreatDoor.handSpells
open Go Go.Ev Go.ChangeMaps Go.ChangeShapes Go.WideShapes Go.ChangeAt Go.RowKit Go.Proofs.Hs

section
variable {H : Type} {P : Program} {h : AHeap} {k : Nat} {t : TypeId} {cs : List Value} {d : DataW H}
theorem rd_struct2 {f0 f1 : Field} (hu : P.underlying t = some (.struct #[f0, f1])) (hd : Rd P h (k + 1) t cs d) : ∃ (c0 c1 : List Value) (y0 y1 : DataW H), cs = c0 ++ c1 ∧ Rd P h k f0.type c0 y0 ∧ Rd P h k f1.type c1 y1 := by
  unfold Rd at hd
  rw [hu] at hd
  obtain ⟨parts, css, rfl, rfl, h1, h2, h3⟩ := hd
  match css, parts, h1, h2 with
  | [c0, c1], [y0, y1], _, _ => exact ⟨c0, c1, y0, y1, by simp, (h3 0 f0 c0 y0 rfl rfl rfl).2, (h3 1 f1 c1 y1 rfl rfl rfl).2⟩
theorem rd_int {q : IntKind} (hu : P.underlying t = some (.int q)) (hd : Rd P h (k + 1) t cs d) : ∃ n, cs = [.int q n] := by
  unfold Rd at hd
  rw [hu] at hd
  obtain ⟨n, _, _, rfl⟩ := hd
  exact ⟨n, rfl⟩
theorem rd_str {l : List UInt8} (hu : P.underlying t = some .string) (hd : Rd P h (k + 1) t cs (.lit (.string l) : DataW H)) : cs = [.string ⟨⟨l⟩⟩] := by
  unfold Rd at hd
  rw [hu] at hd
  obtain ⟨s, e, _, rfl⟩ := hd
  cases e
  rfl
theorem rd_int' {q : IntKind} {n : Int} (hu : P.underlying t = some (.int q)) (hd : Rd P h (k + 1) t cs (.lit (.int q n) : DataW H)) : cs = [.int q n] := by
  unfold Rd at hd
  rw [hu] at hd
  obtain ⟨m, e, _, rfl⟩ := hd
  cases e
  rfl
end
theorem argsRd3 {H : Type} {P : Program} {h : AHeap} {k : Nat} {t1 t2 t3 : TypeId} {v1 v2 v3 : Value} {d1 d2 d3 : DataW H} : ∀ {xs : List Value}, ArgsRd P h k [t1, t2, t3] [v1, v2, v3] xs [d1, d2, d3] →
    ∃ cs1 cs2 cs3, xs = [toV v1 cs1, toV v2 cs2, toV v3 cs3] ∧ Rd P h k t1 cs1 d1 ∧ Rd P h k t2 cs2 d2 ∧ Rd P h k t3 cs3 d3
  | [_, _, _], ⟨⟨c1, e1, k1⟩, ⟨c2, e2, k2⟩, ⟨c3, e3, k3⟩, _⟩ => ⟨c1, c2, c3, by rw [e1, e2, e3], k1, k2, k3⟩
  | [], h => h.elim
  | [_], ⟨_, h⟩ => h.elim
  | [_, _], ⟨_, _, h⟩ => h.elim
  | _ :: _ :: _ :: _ :: _, ⟨_, _, _, h⟩ => h.elim
theorem pairs_of : ∀ {l : List (List Value)}, (∀ c, c ∈ l → ∃ p : Int × Int, c = pc p) → ∃ ps : Prs, l = ps.map pc
  | [], _ => ⟨[], rfl⟩
  | c :: l, k => by
    obtain ⟨p, rfl⟩ := k c (by simp)
    obtain ⟨ps, rfl⟩ := pairs_of (l := l) fun c hc => k c (by simp [hc])
    exact ⟨p :: ps, rfl⟩
theorem clerks_of {h : AHeap} : ∀ {l : List (List Value)}, (∀ c, c ∈ l → ∃ (v : Value) (ps : Prs), c = [v] ∧ SlAt h 2 v (ps.map pc)) →
    ∃ (vs : List Value) (cl : List Prs), l = (vs.map fun v => [v]) ∧ vs.length = cl.length ∧ ∀ (i : Nat) v ps, vs[i]? = some v → cl[i]? = some ps → SlAt h 2 v (ps.map pc)
  | [], _ => ⟨[], [], rfl, rfl, fun i v ps e => by simp at e⟩
  | c :: l, k => by
    obtain ⟨v, ps, rfl, hs⟩ := k c (by simp)
    obtain ⟨vs, cl, rfl, hl, hr⟩ := clerks_of (l := l) fun c hc => k c (by simp [hc])
    refine ⟨v :: vs, ps :: cl, rfl, by simp [hl], fun i u q e1 e2 => ?_⟩
    cases i with
    | zero => simp at e1 e2; subst e1; subst e2; exact hs
    | succ i => simp at e1 e2; exact hr i u q e1 e2
set_option maxRecDepth 100000 in
theorem rd_hand {H : Type} {h : AHeap} {cs : List Value} {d : DataW H} (hd : Rd Tryz.prog h 8 24 cs d) : ∃ cv er cl, cs = [cv, .int .i64 er] ∧ ClAt h cv cl ∧ cl.length ≤ maxLen := by
  obtain ⟨c0, c1, y0, y1, rfl, h0, h1⟩ := rd_struct2 Tryz.underlying24 hd
  obtain ⟨er, rfl⟩ := rd_int Tryz.underlying3 h1
  obtain ⟨cv, css, els, rfl, hs, hl, hr, hm, _⟩ := rd_slice_at Tryz.underlying22 h0
  rw [show Tryz.prog.cellsOf 45 = 1 from by kernel_rfl] at hs
  obtain ⟨vs, cl, rfl, hvl, hvr⟩ := clerks_of (h := h) (l := css) fun c hc => by
    obtain ⟨i, hi⟩ := List.mem_iff_getElem?.1 hc
    have hlt : i < els.length := by
      have := (List.getElem?_eq_some_iff.1 hi).1
      omega
    obtain ⟨v, css', els', rfl, hs', hl', hr', _⟩ := rd_slice_at Tryz.underlying45 (hr i c els[i] hi (List.getElem?_eq_getElem hlt))
    rw [show Tryz.prog.cellsOf 77 = 2 from by kernel_rfl] at hs'
    obtain ⟨ps, rfl⟩ := pairs_of (l := css') fun c hc => by
      obtain ⟨i, hi⟩ := List.mem_iff_getElem?.1 hc
      have hlt : i < els'.length := by
        have := (List.getElem?_eq_some_iff.1 hi).1
        omega
      obtain ⟨c0, c1, y0, y1, rfl, k0, k1⟩ := rd_struct2 Tryz.underlying77 (hr' i c els'[i] hi (List.getElem?_eq_getElem hlt))
      obtain ⟨a, rfl⟩ := rd_int Tryz.underlying3 k0
      obtain ⟨b, rfl⟩ := rd_int Tryz.underlying3 k1
      exact ⟨(a, b), rfl⟩
    exact ⟨v, ps, rfl, hs'⟩
  refine ⟨cv, er, cl, rfl, ⟨vs, hs, hvl, hvr⟩, ?_⟩
  rw [List.length_map] at hm
  omega
theorem brings_body {P : Program} {R : ExT} {g : FuncId} {args : List Value} {h : AHeap} {Post : Value → AHeap → Prop} {fn : Func} {c : Code} (hf : P.funcs[g]? = some fn) (hb : fn.body = some c) (hname : (fn.name == "runtime.NumGoroutine") = false) (hlen : Nat.ble args.length fn.ntmps = true)
    (y : Brings P R g args h Post) (K : KV) (hK : ∀ v h', Kp h h' → Post v h' → K v h' = true) : R fn.ntmps none c (argsT args) h [] (finish P fn K) = true := by
  have := y K hK
  unfold callFunc1 at this
  simp only [hf, hb] at this
  unfold callBody at this
  rwa [hname, cond_false, hlen, cond_true, setArgs_id] at this

theorem tabs_in {W : World} (h : W.ShapedOpen Tryz.prog) (hL : laidMet Tryz.prog Rows.handSpellsRow.laid W) : ∃ m, Ev.TabsIn Tryz.prog (tbs pow10V m) W := by
  have e : Rows.handSpellsRow.laid = [("math/bits.deBruijn32tab", Rows.laid_math_bits_deBruijn32tab), ("math/bits.deBruijn64tab", Rows.laid_math_bits_deBruijn64tab), ("internal/strconv.uint64pow10", Lib.tabData .u64 Lib.pow10Tab)] := by kernel_rfl
  rw [e] at hL
  have htab : Lib.TabIs Tryz.prog W "internal/strconv.uint64pow10" .u64 Lib.pow10Tab := Lib.tabIs_of_head (g := 0) (t := 169) (e := 144) (n := 20) (by kernel_rfl) (by kernel_rfl) (by kernel_rfl) (by kernel_rfl) (by kernel_rfl) (by kernel_rfl) hL.tail.tail
  obtain ⟨m, hm⟩ := cell_of_shapedOpen_int (g := 1) (zero := #[.int .i64 0]) (t := 3) h (of_decide_eq_true (by kernel_rfl)) (by kernel_rfl) rfl (by kernel_rfl) (by kernel_rfl) Tryz.underlying3
  obtain ⟨cs, hc, hsz, _⟩ := h.1 1 #[.int .i64 0] 3 (by rw [four]; decide) (by kernel_rfl)
  refine ⟨m, globalsIn h, fun p hp => ?_⟩
  simp only [tbs, List.mem_cons, List.not_mem_nil, or_false] at hp
  rcases hp with rfl | rfl
  · unfold Lib.TabIs World.var? at htab
    rw [show Tryz.prog.globalNamed "internal/strconv.uint64pow10" = some 0 from by kernel_rfl] at htab
    simp only [Option.bind_some] at htab
    split at htab
    · rename_i cs' t' fr' hq
      cases htab
      exact ⟨t', fr', hq⟩
    · cases htab
  · simp only [World.cell?, hc] at hm
    obtain ⟨l⟩ := cs
    match l, hsz with
    | [x], _ =>
      cases hm
      exact ⟨_, _, hc⟩


theorem bool_t : Tryz.prog.underlying 4 = some .bool := Tryz.underlying4

set_option maxRecDepth 100000 in
theorem contract (H : Type) (enc : TypeId × Value → H) (W : World) (base : Nat) (args : Array Value) (ds gs : List (DataW H)) (bef : List MemPlace) (hsh : W.ShapedOpen Tryz.prog) (hL : laidMet Tryz.prog Rows.handSpellsRow.laid W)
    (hval : ∀ (j : Nat) (t : TypeId) (v : Value), Tryz.f3.params[j]? = some t → args[j]? = some v → Value.okWide Tryz.prog W .any base t v)
    (hW : DataW.Whole enc Tryz.prog Tryz.f3.params.toList Rows.handSpellsSpec.vars false W args.toList ds gs bef) :
    Calls Tryz.prog 3 args W fun e W' => ∃ v, e = .returned v ∧ Rows.handSpellsSpec.post enc Tryz.prog Tryz.f3 false true false false W args v W' := by
  have hW' := hW
  obtain ⟨p, q, hA0, hV, rfl, hfz, hnd⟩ := hW
  have hA : DataW.TrodAll enc Tryz.prog W 0 (fun _ => true) true Tryz.f3.params.toList args.toList ds p := hA0
  rw [Tryz.params3] at hA hval
  have hA' := hA
  obtain ⟨v1, r1, d1, e1, p1, q1, ha1, rfl, hpq, hT1, hA1⟩ := trodAll_cons hA
  obtain ⟨v2, r2, d2, e2, p2, q2, ha2, rfl, hpq2, hT2, hA2⟩ := trodAll_cons hA1
  obtain ⟨v3, r3, d3, e3, p3, q3, ha3, rfl, hpq3, hT3, hA3⟩ := trodAll_cons hA2
  obtain ⟨rfl, rfl, rfl⟩ := trodAll_nil hA3
  subst ha3 ha2
  obtain rfl : args = #[v1, v2, v3] := by apply Array.toList_inj.1; exact ha1
  obtain ⟨c1, rfl, _⟩ := okWide_struct Tryz.underlying24 (hval 0 24 v1 rfl rfl)
  obtain ⟨⟨⟨l⟩⟩, rfl, rfl, rfl, hs⟩ := open_string Tryz.underlying9 (hval 1 9 v2 rfl rfl) hT2
  obtain ⟨n, rfl, rfl, rfl, hn⟩ := open_int Tryz.underlying3 (hval 2 3 v3 rfl rfl) hT3
  obtain ⟨rfl, rfl⟩ := trodVars_none hV
  obtain ⟨m, htb⟩ := tabs_in hsh hL
  have hr : -9223372036854775808 ≤ n ∧ n ≤ 9223372036854775807 := by
    have := hn
    simp only [Lit.wf, Bool.and_eq_true, decide_eq_true_eq] at this
    exact this
  have hk : ∀ t, t ∈ [24, 9, 3] → okTy Tryz.prog 8 t = true := fun t ht => by
    simp only [List.mem_cons, List.not_mem_nil, or_false] at ht
    rcases ht with rfl | rfl | rfl
    · kernel_rfl
    · kernel_rfl
    · kernel_rfl
  refine (calls_args (k := 8) (tb := tbs pow10V m) (tbs_lt m) Tryz.func3 (c := (Tryz.f3.body).getD .skip) rfl (by kernel_rfl) hA' hk (by kernel_rfl) (v := .bool true) rfl htb (fun h xs hg hnx hR => ?_)).mono fun e W' ⟨he, hB⟩ => ?_
  · obtain ⟨cs1, cs2, cs3, rfl, hd1, hd2, hd3⟩ := argsRd3 hR
    obtain ⟨cv, er, cl, e1, hc, hcl⟩ := rd_hand hd1
    have e2 := rd_str Tryz.underlying9 hd2
    have e3 := rd_int' Tryz.underlying3 hd3
    rw [e1, e2, e3]
    have hg0 := hg 0 (by rw [four]; decide)
    have hg1 := hg 1 (by rw [four]; decide)
    rw [four] at hnx
    refine brings_body (fn := Tryz.f3) (g := 3) (by kernel_rfl) rfl (by kernel_rfl) rfl (law_y (steps_exA hmixT primL_sound) h m (hg0.trans rfl) (hg1.trans rfl) hnx cv er cl hc hcl l hs n hr.1 hr.2) _ fun u g _ hu => @decide_eq_true _ (Classical.propDecidable _) hu
  · subst he
    refine ⟨_, rfl, post_below (pa := p) (pv := []) hW' (fun _ _ _ => trodAll_cons_mk (shut_bool bool_t _) trodAll_mk0) (fun sp hsp => ?_) (fun _ _ => rfl) rfl hB (ok_one (by kernel_rfl) rfl (okWide_bool_mk bool_t _))⟩
    rw [Tryz.params3]
    have hlt := hW'.lt
    rw [List.append_nil] at hsp hlt
    exact trodAll_below (k := 8) hB hA' hk hlt hsp

def arg0 : Array Value := #[.agg #[.slice none 0 0, .int .i64 0], .string ⟨#[]⟩, .int .i64 0]
set_option maxRecDepth 100000 in
theorem laid_met (os : Os) : laidMet Tryz.prog Rows.handSpellsRow.laid ((laidWorld os).forCall (fun _ _ => 0) ⟨#[], arg0, []⟩).memory :=
  laidMet_of_run' 80 (by kernel_rfl) (by kernel_rfl)
set_option maxRecDepth 100000 in
theorem reads (os : Os) {H : Type} (enc : TypeId × Value → H) : ∃ places, DataW.whole enc Tryz.prog ((laidWorld os).forCall (fun _ _ => 0) ⟨#[], arg0, []⟩).memory Tryz.f3.params.toList Rows.handSpellsSpec.vars false arg0.toList 8 = some ([.agg [.nil, .lit (.int .i64 0)], .lit (.string []), .lit (.int .i64 0)], [], places) :=
  ⟨[], by kernel_rfl⟩

set_option maxRecDepth 100000 in
theorem lifted (os : Os) (started : os.Started) (H : Type) (enc : TypeId × Value → H) (F : Stop.Interp) :
    ReturnsInHanded {} Tryz.checked os 3 .any ((OpenSpec.ofChange Rows.handSpellsSpec).preRow enc Tryz.prog Tryz.f3 Rows.handSpellsRow.domain false Rows.handSpellsRow.laid) (((OpenSpec.ofChange Rows.handSpellsSpec).at F).post enc Tryz.prog Tryz.f3 false true false false) := by
  obtain ⟨places, hx⟩ := reads os enc
  refine returnsInHanded_of_row (C := Tryz.checked) (s := OpenSpec.ofChange Rows.handSpellsSpec) own started (by kernel_rfl) Tryz.func3
    (witness_row_at (enc := enc) (C := Tryz.checked) false (laidWorld os) arg0 rfl (by kernel_rfl) (by kernel_rfl) (by kernel_rfl)
      (OpenSpec.preRow_of_cond 8 hx (by kernel_rfl) (fun k hk => by cases hk) (by kernel_rfl) (laid_met os))) ?_
  intro W base args ds gs bef hval hW _ _ _ hL hsh _
  rw [MakeChecks.laidMetH_plain _ _ _ (by kernel_rfl)] at hL
  exact contract H enc W base args ds gs bef hsh hL hval hW

theorem closed : joinedFacts Tryz.pinned.checked.prog 3 Tryz.f3 (OpenSpec.ofChange Rows.handSpellsSpec).bare Rows.handSpellsRow = true := by kernel_rfl

theorem said : Rows.HandSpellsSaid :=
  OpenClaim.holds_of_cond 3 Tryz.f3 rfl rfl rfl rfl rfl rfl rfl ⟨rfl, rfl, rfl, rfl, rfl⟩ rfl rfl rfl rfl rfl (by kernel_rfl) Tryz.func3 closed
    (of_decide_eq_true (by kernel_rfl)) (by unfold Func.isWrapper; first | (rw [if_pos (by decide +kernel)]; kernel_rfl) | (rw [if_neg (by decide +kernel)]; exact ⟨rfl, rfl⟩))
    (fun os started H enc _ F => by rw [OpenClaim.pre_eq_preRow]; exact lifted os started H enc F)

theorem plain (f : FuncId) (fn : Func) (hf : Tryz.pinned.checked.prog.funcNamed "contango/contangolaw01.HandSpells" = some f) (hfn : Tryz.pinned.checked.prog.funcs[f]? = some fn) :
    false = Tryz.pinned.checked.prog.looks [] ∧ ∀ (j : Nat) t, fn.params[j]? = some t → Tryz.pinned.checked.prog.wantsStandIn t = false := by
  obtain rfl : f = 3 := Option.some.inj ((show Tryz.prog.funcNamed "contango/contangolaw01.HandSpells" = some 3 by kernel_rfl).symm.trans hf) |>.symm
  obtain rfl : fn = Tryz.f3 := (Option.some.inj (Tryz.func3.symm.trans hfn)).symm
  refine ⟨by kernel_rfl, fun j t ht => ?_⟩
  rw [Tryz.params3] at ht
  match j with
  | 0 => cases ht; exact (show Tryz.prog.wantsStandIn 24 = false by kernel_rfl)
  | 1 => cases ht; exact (show Tryz.prog.wantsStandIn 9 = false by kernel_rfl)
  | 2 => cases ht; exact (show Tryz.prog.wantsStandIn 3 = false by kernel_rfl)
  | j + 3 => simp at ht

theorem card : Rows.HandSpellsCardSaid :=
  Claim7.holds_tied_plain_at .later [] _ _ _ _ said (fun _ h => by cases h) (by kernel_rfl) (fun _ h => by cases h) handSpells_row_tie rfl ⟨rfl, rfl⟩ (by kernel_rfl) rfl plain (by kernel_rfl)
end Go.Proofs.YtlneoecgbbbahaaGreatDoor.handSpells
