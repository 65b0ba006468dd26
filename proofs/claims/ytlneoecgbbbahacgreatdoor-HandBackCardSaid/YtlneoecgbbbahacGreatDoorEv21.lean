/- Regions that draw their order: what the evaluator says is so. -/
import Derived.Test.YtlneoecgbbbahacGreatDoorEv20
namespace Go.Ev
open Go.RowKit

section
variable {P : Program} {m : M} {w0 w : World} {h : AHeap} {t : T Value} {n : Nat} {a : Act} {rd : Option Nat} {nn : Nat} {ops : Array Oper}
  {listed : Array Bool} {todo : List Info} {done : Nat} {hist : List Seen} {L : List PE}

/-- Nothing ready: all is done. -/
theorem Inv.all (hreg : regOk P ops = true) (I : Inv P ops n h m a listed todo done hist t L) (hr : Region.ready .any ops listed = []) : L = [] ∧ todo = [] := by
  have hall : ∀ i : Nat, ∀ k, k ≤ i → k < ops.size → listed.getD k false = true := by
    intro i
    induction i with
    | zero =>
      intro k hk hlt
      rcases getD_alt (k := k) (by rw [I.sz]; exact hlt) with h1 | h1
      · exfalso
        have hm : k ∈ Region.ready .any ops listed := by
          rw [mem_ready]
          refine ⟨h1, ops[k], Array.getElem?_eq_getElem hlt, fun e he hb => ?_⟩
          obtain ⟨x, hx⟩ := infos_some (P := P) (Array.getElem?_eq_getElem hlt)
          obtain ⟨h2, h3, _⟩ := infos_get hx
          rw [Array.getElem?_eq_getElem hlt] at h2
          have h4 : ops[k] = x.o := Option.some.inj h2
          have := regOk_edges hreg (List.mem_of_getElem? hx) e (by rw [← h4]; exact he) hb
          omega
        rw [hr] at hm
        cases hm
      · exact h1
    | succ i ih =>
      intro k hk hlt
      rcases getD_alt (k := k) (by rw [I.sz]; exact hlt) with h1 | h1
      · exfalso
        have hm : k ∈ Region.ready .any ops listed := by
          rw [mem_ready]
          refine ⟨h1, ops[k], Array.getElem?_eq_getElem hlt, fun e he hb => ?_⟩
          obtain ⟨x, hx⟩ := infos_some (P := P) (Array.getElem?_eq_getElem hlt)
          obtain ⟨h2, h3, _⟩ := infos_get hx
          rw [Array.getElem?_eq_getElem hlt] at h2
          have h4 : ops[k] = x.o := Option.some.inj h2
          have := regOk_edges hreg (List.mem_of_getElem? hx) e (by rw [← h4]; exact he) hb
          exact ih e.on (by omega) (by omega)
        rw [hr] at hm
        cases hm
      · exact h1
  have hlt : ∀ x ∈ infos P ops, x.i < ops.size := fun x hx => by
    have := (infos_get (infos_self hx)).1
    exact (Array.getElem?_eq_some_iff.1 this).1
  constructor
  · cases hL : L with
    | nil => rfl
    | cons q L' =>
      have hq : q ∈ L := by rw [hL]; simp
      exact (getD_conf (I.lU q hq) (hall q.i q.i (Nat.le_refl _) (hlt _ (I.lop q hq)))).elim
  · cases hL : todo with
    | nil => rfl
    | cons x L' =>
      have hx : x ∈ todo := by rw [hL]; simp
      exact (getD_conf (I.tU x hx) (hall x.i x.i (Nat.le_refl _) (hlt _ (I.top x hx)))).elim

theorem drawGo_end {call : CallT} {K : T Value → AHeap → Bool} : ∀ {f : Nat}, drawGo P call ops n f [] done hist t h K = true → K t h = true
  | 0, e => by cases e
  | f + 1, e => by simpa [drawGo, pickR, wreadies, splits] using e

theorem draw_wp {call : CallT} (hcall : CallSound P call) (hreg : regOk P ops = true) {K : T Value → AHeap → Bool} {Q : Exit → Act → World → Prop} (ds : List Deferred) : ∀ (fuel : Nat) (m : M) (h : AHeap) (w : World) (a : Act) (listed : Array Bool) (f : Nat) (todo : List Info) (done : Nat) (hist : List Seen) (t : T Value) (L : List PE),
    WR P m w0 h w → Inv P ops n h m a listed todo done hist t L → drawGo P call ops n f todo done hist t h K = true → L.length + todo.length ≤ fuel → a.defers = ds →
    (∀ m' t' h' a' w', M.le m m' → TR m' t' n a'.tmps → WR P m' w0 h' w' → a'.defers = ds → K t' h' = true → Q .normal a' w') → wpAnyIn (FW rd) nn P .any ops Q fuel listed a w := by
  intro fuel
  induction fuel with
  | zero =>
    intro m h w a listed f todo done hist t L hW I e hlen hd hq
    have hL : L = [] := List.length_eq_zero_iff.1 (by omega)
    have ht : todo = [] := List.length_eq_zero_iff.1 (by omega)
    subst hL ht
    refine ⟨?_, hq m t h a w (M.le_refl m) I.lag hW hd (drawGo_end e)⟩
    apply List.eq_nil_iff_forall_not_mem.2
    intro j hj
    obtain ⟨h0, _⟩ := I.ready hj
    rcases I.cover j h0 with ⟨q, hq, _⟩ | ⟨q, hq, _⟩ <;> cases hq
  | succ fuel ih =>
    intro m h w a listed f todo done hist t L hW I e hlen hd hq
    refine ⟨fun hr => ?_, fun j hj => ?_⟩
    · obtain ⟨rfl, rfl⟩ := I.all hreg hr
      exact hq m t h a w (M.le_refl m) I.lag hW hd (drawGo_end e)
    · obtain ⟨hju, x, hx, hxi, hxo, hpre⟩ := I.ready hj
      obtain ⟨f1, todo1, done1, hist1, t1, L1, I1, e1, hlen1, hcase⟩ := advance j f todo done hist t L I e hlen
      have hsame : ∀ y ∈ infos P ops, y.i = j → y = x := fun y hy hyi => by
        have h1 := infos_self hy
        have h2 := infos_self hx
        rw [hyi] at h1
        rw [hxi] at h2
        rw [h1] at h2
        exact Option.some.inj h2
      unfold wpOpIn
      rw [hxo]
      simp only
      by_cases hmem : ∃ q ∈ L1, q.i = j
      · clear hcase
        obtain ⟨q, hqL, hqi⟩ := hmem
        have hqx : (⟨q.i, q.o, false, q.pre⟩ : Info) = x := hsame _ (I1.lop q hqL) hqi
        subst hqx
        obtain ⟨A, B, rfl⟩ := List.append_of_mem hqL
        have hnd := I1.lnd
        rw [List.pairwise_append] at hnd
        have hne : ∀ r ∈ A, r.i ≠ q.i := fun r hr => hnd.2.2 r hr q (by simp)
        have hap : ∀ r ∈ A, q.o.apart ops r.o = true := by
          intro r hr
          have hrL : r ∈ A ++ q :: B := by simp [hr]
          have hb1 : q.pre.testBit r.i = false := by
            cases hb : q.pre.testBit r.i with
            | false => rfl
            | true => exact (getD_conf (I1.lU r hrL) (hpre _ hb)).elim
          have hb2 : r.pre.testBit q.i = false := by
            cases hb : r.pre.testBit q.i with
            | false => rfl
            | true =>
              obtain ⟨A1, A2, rfl⟩ := List.append_of_mem hr
              rcases I1.ord A1 r (A2 ++ q :: B) (by simp) _ hb with h3 | ⟨p, h3, h4⟩
              · exact (getD_conf (I1.lU q hqL) h3).elim
              · exact absurd h4 (hne p (by simp [h3]))
          exact regOk_apart hreg (I1.lop q hqL) (I1.lop r hrL) (fun e => hne r hr e.symm) hb1 hb2
        obtain ⟨b, hb1, hb2, hb3⟩ := Lag.at hap (fun r hr => I1.hval hW r (by simp [hr])) I1.lag
        have hwant : Region.wanted q.o (yielded ops a.tmps) = q.wants := by rw [← hb2.wanted]; exact hb3
        have hgo : ∀ v', VR m q.v v' → wpAnyIn (FW rd) nn P .any ops Q fuel (listed.setIfInBounds j true) (a.put q.o.dst v') w := fun v' hv => by
          have I2 := I1.out hpre hap hv
          rw [hqi] at I2
          refine ih m h w _ _ f1 todo1 done1 hist1 t1 _ hW I2 e1 ?_ (by rw [put_defers]; exact hd) hq
          simp only [List.length_append, List.length_cons] at hlen1 ⊢
          omega
        rw [hwant]
        cases hqw : q.wants with
        | true =>
          simp only [if_true]
          obtain ⟨h1, _⟩ := I1.seen q hqL hqw
          obtain ⟨v', hrun, hv⟩ := aread_rel hW hb1 h1
          rw [hb2.op (not_select_read h1)] at hrun
          exact read_wp hrun (not_defer_read h1) (hgo v' hv)
        | false =>
          simp only [Bool.false_eq_true, if_false]
          exact ⟨fun _ _ => trivial, hgo undef (by rw [I1.lund q hqL hqw]; exact undef_rel m)⟩
      · have hp : pickR done1 todo1 = none := hcase.resolve_left hmem
        obtain ⟨x', hxt, hxi'⟩ := (I1.cover j hju).resolve_left hmem
        have hxx := hsame x' (I1.top x' hxt) hxi'
        subst hxx
        have hxw : x'.w = true := by
          cases hw : x'.w with
          | true => rfl
          | false => exact absurd (land_pre' fun k hk => (I1.bits k).2 (.inl (hpre k hk))) (pickR_none hp x' hxt hw)
        cases f1 with
        | zero => cases e1
        | succ f1 =>
          simp only [drawGo] at e1
          rw [hp] at e1
          simp only at e1
          obtain ⟨A, B, h1⟩ := List.append_of_mem hxt
          have hmemW : (x', A ++ B) ∈ wreadies done1 todo1 := by
            rw [h1]
            exact mem_wreadies hxw (land_pre' fun k hk => (I1.bits k).2 (.inl (hpre k hk)))
          split at e1
          · rename_i hwr
            rw [hwr] at hmemW
            cases hmemW
          · rename_i p ps hwr
            rw [hwr] at hmemW
            have e1 := allB_mem e1 _ hmemW
            simp only at e1
            have hap : ∀ q ∈ L1, x'.o.apart ops q.o = true := by
              intro q hqL
              have hb1 : x'.pre.testBit q.i = false := by
                cases hb : x'.pre.testBit q.i with
                | false => rfl
                | true => exact (getD_conf (I1.lU q hqL) (hpre _ hb)).elim
              have hb2 : q.pre.testBit x'.i = false := by
                cases hb : q.pre.testBit x'.i with
                | false => rfl
                | true =>
                  obtain ⟨A1, A2, hA⟩ := List.append_of_mem hqL
                  rcases I1.ord A1 q A2 hA _ hb with h3 | ⟨p, h3, h4⟩
                  · exact (getD_conf (I1.tU x' hxt) h3).elim
                  · exact absurd h4 (I1.tL x' hxt p (by rw [hA]; simp [h3]))
              exact regOk_apart hreg hx (I1.lop q hqL) (fun e => I1.tL x' hxt q hqL e.symm) hb1 hb2
            obtain ⟨c, hc, hag⟩ := Lag.reach hap (I1.hval hW) I1.lag
            have hlen2 : L1.length + (A ++ B).length ≤ fuel := by
              rw [h1] at hlen1
              simp only [List.length_append, List.length_cons] at hlen1 ⊢
              omega
            split at e1
            · cases e1
            · rename_i hw
              have hwant : Region.wanted x'.o (yielded ops a.tmps) = false := by rw [← hag.wanted]; exact want_rel hc hw
              rw [hwant]
              simp only [Bool.false_eq_true, if_false]
              obtain ⟨t', e', hpt⟩ := putK_rel e1
              rw [fNat_eq] at e'
              have I2 := I1.wr h1 hpre hap (M.le_refl m) (fun q hq hqw => (I1.seen q hq hqw).1) hpt (undef_rel m)
              rw [hxi'] at I2 e'
              exact ⟨fun _ _ => trivial, ih m h w _ _ f1 _ _ hist1 t' L1 hW I2 e' hlen2 (by rw [put_defers]; exact hd) hq⟩
            · rename_i hw
              have hwant : Region.wanted x'.o (yielded ops a.tmps) = true := by rw [← hag.wanted]; exact want_rel hc hw
              rw [hwant]
              simp only [if_true]
              refine awrite_wp2 hcall hW hc hag e1 fun m' v v' h' w' hle hv hW' hK => ?_
              cases hagn : again P h' x'.pre hist1 with
              | false => rw [hagn] at hK; cases hK
              | true =>
                rw [hagn, cond_true] at hK
                obtain ⟨t', e', hpt⟩ := putK_rel hK
                rw [fNat_eq] at e'
                have hst : ∀ q ∈ L1, q.wants = true → aread P q.t h' q.o = some q.v := by
                  intro q hqL hqw
                  obtain ⟨h4, h5⟩ := I1.seen q hqL hqw
                  rcases again_spec hagn _ h5 with h6 | h6 | h6
                  · rw [← aread_still h h' h6]; exact h4
                  · exact (getD_conf (I1.lU q hqL) (hpre _ h6)).elim
                  · exact h6
                have I2 := I1.wr h1 hpre hap hle hst hpt hv
                rw [hxi'] at I2 e'
                exact ih m' h' w' _ _ f1 _ _ hist1 t' L1 hW' I2 e' hlen2 (by rw [put_defers]; exact hd) (fun m2 t2 h2 a2 w2 hle2 => hq m2 t2 h2 a2 w2 (M.le_trans hle hle2))

theorem joinK_eq (many : Bool) (K : T Value → AHeap → Bool) : joinK many K = K := by
  cases many with
  | false => rfl
  | true => funext t h; simp only [joinK, cond_true]; cases K t h <;> rfl

theorem drawSound (hm : P.follows .mixedOrders = true) : DrawSound P := by
  intro call hcall ops n t h K m w0 w a rd nn Q hW hT e hq tt
  unfold runRegion at e
  rw [cond_true] at e
  cases hreg : regOk P ops with
  | false => rw [hreg] at e; cases e
  | true =>
    rw [hreg, cond_true, joinK_eq] at e
    simp only [Region.schedule, hm, Bool.true_or, if_true]
    have hlen : (infos P ops).length = ops.size := by rw [infos, infoGo_length, Array.length_toList]
    have hf : ∀ i : Nat, (Array.replicate ops.size false).getD i false = false := fun i => by
      rw [Array.getD_eq_getD_getElem?, Array.getElem?_replicate]
      split <;> rfl
    have hself : ∀ x ∈ infos P ops, x.i < ops.size := fun x hx => (Array.getElem?_eq_some_iff.1 (infos_get (infos_self hx)).1).1
    have ht : ∀ i : Nat, (Array.replicate ops.size false).getD i true = false ↔ i < ops.size := fun i => by
      rw [Array.getD_eq_getD_getElem?, Array.getElem?_replicate]
      split <;> simp_all
    refine wpAnyIn_sound ops.size tt _ a w (draw_wp hcall hreg a.defers ops.size m h w a _ _ _ 0 [] t [] hW ?_ e (by simp [hlen]) rfl hq)
    exact {
      sz := by simp
      closed := fun i hi => by rw [hf i] at hi; cases hi
      bits := fun k => by simp [hf k]
      lU := fun q hq => by cases hq
      lnd := .nil
      tU := fun x hx => (ht x.i).2 (hself x hx)
      tL := fun x _ q hq => by cases hq
      tnd := by
        rw [List.pairwise_iff_getElem]
        intro i j hi hj hij
        have h1 := (infos_get (List.getElem?_eq_getElem hi)).2.1
        have h2 := (infos_get (List.getElem?_eq_getElem hj)).2.1
        rw [h1, h2]
        omega
      cover := fun i hi => by
        have hlt := (ht i).1 hi
        obtain ⟨x, hx⟩ := infos_some (P := P) (Array.getElem?_eq_getElem hlt)
        exact .inr ⟨x, List.mem_of_getElem? hx, (infos_get hx).2.1⟩
      lop := fun q hq => by cases hq
      lund := fun q hq => by cases hq
      top := fun x hx => hx
      ord := fun A q B hL => by simp at hL
      seen := fun q hq => by cases hq
      lag := hT }

end
end Go.Ev
