import Derived.Test.YtkocecoddghmbaaGreatPoN
import Derived.Test.YtkocecoddghmbaaGreatPoS
import Derived.Test.YtkocecoddghmbaaGreatPp6
import Derived.Test.YtkocecoddghmbaaGreatEvE
/- Copies onto which can be appended; structs compared in the program's regions that draw their order. -/
namespace Go.Proofs.Po
open Go Go.Ev Go.RowKit
set_option linter.unusedSimpArgs false
variable {pr : Prim} {R : ExT}
section
variable {P : Program} {h : AHeap} {call : CallT} {ops : Array Oper} {n : Nat} {rest : List Oper} {t : T Value} {KR : T Value → AHeap → Bool} {dst : Option Tmp} {v : Value} {l : List Int} {a e : TypeId} {x : Operand}
/-- A copy of integers that grows. -/
theorem wr_copyA (h1 : slOf P a = some e) (hu : P.underlying a = some (.slice e)) (h2 : sizeB P e = some 1) (hn : numOk P e 1 = true) (hx : ev P t x = v) (hv : IS h v l) (hl : l.length < 1000000)
    (kk : ∀ v' h' F, Kp h h' → App h.nx h' 1 v' (l.map fun n => [iv n]) F → putR P call ops n rest dst t v' h' KR = true) :
    wrR P call ops n rest (.call ⟨.builtin .append, #[.const (.slice none 0 0), x], #[a, a]⟩) dst t h KR = true := by
  have hnum2 : ∀ m, m < bigNat → numOk P e m = true := fun m hm => numOk_small hn hm
  have hc : ev P t (.const (.slice none 0 0)) = .slice none 0 0 := rfl
  rcases hv with ⟨k1, rfl | rfl⟩ | ⟨b, cap, f, ro, k1, rfl, k3, k4, k5⟩
  · have hko : Ev.kindOk P a (.slice none 0 0) = true := by simp only [Ev.kindOk, hu]
    simp only [wrR, awrite, wCall, wAppend, h1, hx, hc, hko, cond_true, appendA, h2, srcCells, appendNil]
    exact kk _ _ 0 Kp.refl (.inl ⟨k1, rfl⟩)
  · have hko : Ev.kindOk P a emptyS = true := by simp only [Ev.kindOk, hu, emptyS]
    have hs : srcCells h 1 emptyS = some ([], 0) := rfl
    simp only [wrR, awrite, wCall, wAppend, h1, hx, hc, hko, cond_true, appendA, h2, hs, appendNil]
    exact kk _ _ 0 Kp.refl (.inl ⟨k1, rfl⟩)
  · have hfl : (l.map fun n => [iv n]).flatten = l.map iv := flat1 l
    rw [hfl] at k4
    rw [List.length_map] at hx
    have hln : l.length ≠ 0 := fun q => k1 (by rw [List.length_eq_zero_iff.1 q]; rfl)
    have hs : srcCells h 1 (.slice (some ⟨b, 0, none⟩) l.length cap) = some (l.map iv, l.length) := by
      have hb : Nat.ble (Nat.add 0 (Nat.mul l.length 1)) (l.map iv).length = true := Nat.ble_eq_true_of_le (by rw [List.length_map]; show 0 + l.length * 1 ≤ _; omega)
      simp only [srcCells, k4, hb, cond_true]
      rw [show Nat.mul l.length 1 = l.length from Nat.mul_one _, List.drop_zero, List.take_of_length_le (by rw [List.length_map]; exact Nat.le_refl _)]
    have hz : Nat.beq l.length 0 = false := by cases q : Nat.beq l.length 0 with | true => exact absurd (Nat.eq_of_beq_eq_true q) hln | false => rfl
    have hko : Ev.kindOk P a (.slice (some ⟨b, 0, none⟩) l.length cap) = true := by simp only [Ev.kindOk, hu]
    simp only [wrR, awrite, wCall, wAppend, h1, hx, hc, hko, cond_true, appendA, h2, hs, appendNil, hz, cond_false, hnum2 _ hl, growN_eq]
    have g1 : ∀ k, k < h.nx → (T.set (h.nx + 2) h.bl (h.nx + 1) (.cells (l.map iv) h.nx false)).get k = h.bl.get k := fun k hk => get_ne (by omega) (by omega)
    have g2 : ∀ k, k < h.nx → (T.set (h.nx + 2) (T.set (h.nx + 1) h.fams h.nx [h.nx + 1]) (h.nx + 1) [1]).get k = h.fams.get k := fun k hk => by rw [get_ne (by omega) (by omega), get_ne (by omega) (by omega)]
    have ge : (T.set (h.nx + 2) h.bl (h.nx + 1) (.cells (l.map iv) h.nx false)).get (h.nx + 1) = some (.cells (l.map iv) h.nx false) := get_eq (by omega)
    have gF : (T.set (h.nx + 2) (T.set (h.nx + 1) h.fams h.nx [h.nx + 1]) (h.nx + 1) [1]).get h.nx = some [h.nx + 1] := by rw [get_ne (by omega) (by omega)]; exact get_eq (by omega)
    have gB : (T.set (h.nx + 2) (T.set (h.nx + 1) h.fams h.nx [h.nx + 1]) (h.nx + 1) [1]).get (h.nx + 1) = some [1] := get_eq (by omega)
    refine kk _ _ h.nx ⟨by show h.nx ≤ h.nx + 2; omega, fun k hk => ⟨g1 k hk, g2 k hk⟩⟩ (.inr ⟨h.nx + 1, [h.nx + 1], k1, ?_, by omega, by show h.nx + 1 < h.nx + 2; omega, ?_, fun c hc => ?_, Nat.le_refl _, by show h.nx < h.nx + 2; omega, gF, fun x hx => ?_, gB, by omega⟩)
    · rw [List.length_map]
    · rw [hfl]; exact ge
    · obtain ⟨z, _, rfl⟩ := List.mem_map.1 hc; rfl
    · simp at hx; subst hx
      exact ⟨by omega, by show h.nx + 1 < h.nx + 2; omega, _, ge⟩
end
set_option maxHeartbeats 4000000 in
theorem listA_y (S : Ev.Steps Tryz.prog pr R) (h0 : AHeap) (v : Value) (l : List Int) (hv : IS h0 v l) (hl : l.length ≤ 1000) :
    Brings Tryz.prog R 14 [v] h0 fun u h => ∃ F, App h0.nx h 1 u (l.map fun n => [iv n]) F := by
  refine brings_of (fn := Tryz.f14) (c := (Tryz.f14.body).getD .skip) (by kernel_rfl) rfl (by kernel_rfl) rfl (fun K hK => ?_)
  generalize hF : finish Tryz.prog Tryz.f14 K = KF
  simp only [Tryz.f14, Option.getD_some, argsT, setArgs, fV1_eq, T.setK_eq, id]
  repeat refine S.seq ?_
  refine S.region ?_
  simp (disch := first | omega | (simp only [add_nx, upd_nx] <;> omega) | decide) only [rUz, ↓reduceIte, Nat.reduceEqDiff, Nat.reduceAdd]
  repeat refine S.seq ?_
  refine S.region ?_
  simp (disch := first | omega | (simp only [add_nx, upd_nx] <;> omega) | decide) only [rUz, ↓reduceIte, Nat.reduceEqDiff, Nat.reduceAdd, w_append]
  refine wr_copyA slI uI s3' nI (by simp (disch := first | omega | (simp only [add_nx, upd_nx] <;> omega) | decide) only [rUz, ↓reduceIte, Nat.reduceEqDiff, Nat.reduceAdd]) hv (by omega) ?_
  intro v' h' F hk hA
  simp (disch := first | omega | (simp only [add_nx, upd_nx] <;> omega) | decide) only [rUz, ↓reduceIte, Nat.reduceEqDiff, Nat.reduceAdd]
  refine S.ret ?_
  try simp only [seqK_ret, blockK_ret]
  subst hF
  simp only [finish, endMarks]
  rw [show Tryz.f14.results.toList = [.tmp 2] from rfl]
  simp (disch := first | omega | (simp only [add_nx, upd_nx] <;> omega) | decide) only [resA, ev_tmp, tget_ne, tget_eq, get_ne, get_eq, upd_eq, upd_ne, ag_eq, ag_ne, result1]
  exact hK _ _ hk ⟨F, hA⟩
section
variable {P : Program} {n : Nat} {t : T Value} {h : AHeap} {ops : Array Oper} {call : CallT} {fl : Nat} {ids : List (Nat × Nat)} {f : Nat} {l : List Info} {i m done : Nat} {hist : List Seen} {KR : T Value → AHeap → Bool} {ty : TypeId} {pos : String} {af : Array Edge} {g : Option (Nat × Bool)} {d : Tmp}
theorem dmW_copyEX {b sz : Nat} {v : Value} {cs : List (List Value)} {e st xt e' : TypeId} {s x : Operand} (hl : Nat.testBit fl i = false) (hi : idAt ids i = none) (hst : slOf P st = some e) (hxt : P.underlying xt = some (.slice e')) (hs : ev P t s = .slice (some ⟨b, 0, none⟩) 0 0) (hx : ev P t x = v) (hsz : sizeB P e = some sz)
    (hg : h.bl.get b = some (.cells [] b false)) (hf : h.fams.get b = some [b]) (hb : b < h.nx) (hv : SlAt h sz v cs) (hnn : numOk P e cs.length = true) (hd : d < n)
    (kk : ∀ v' h', Copied h h' b sz v' cs → again P h' m hist = true ∧ drawGo P call ops n fl ids f l (Nat.lor done (Nat.pow 2 i)) hist (T.set (d + 1) t d v') h' KR = true) :
    dmW fl ids (some true) P call ops n f l done i m ⟨some d, .call ⟨.builtin .append, #[s, x], #[st, xt]⟩, ty, pos, af, g⟩ hist t h KR = true := by
  obtain ⟨v', h', hw, hc⟩ := aw_copyEX (call := call) (dst := some d) (ty := ty) (pos := pos) (af := af) (g := g) hst hxt hs hx hsz hg hf hb hv hnn
  obtain ⟨k1, k2⟩ := kk v' h' hc
  exact dmW_some hl hi hw hd k1 k2
theorem dmW_appCX {lo sz F : Nat} {v : Value} {cs : List (List Value)} {c : List Value} {e : TypeId} {st xt e' : TypeId} {s x : Operand} {bx cx fx : Nat} {rx : Bool} (hl : Nat.testBit fl i = false) (hi : idAt ids i = none) (hst : slOf P st = some e) (hxt : P.underlying xt = some (.slice e')) (hs : ev P t s = v) (hx : ev P t x = .slice (some ⟨bx, 0, none⟩) 1 cx)
    (k : AppC lo h sz v cs F) (hHh : lo ≤ h.nx) (hsz : sizeB P e = some sz) (hc : c.length = sz) (hbx : h.bl.get bx = some (.cells c fx rx)) (hnn : numOk P e (Nat.add cs.length 1) = true) (hd : d < n)
    (kk : ∀ v' h', RNew lo h' sz v' (cs ++ [c]) → Sm lo h h' → again P h' m hist = true ∧ drawGo P call ops n fl ids f l (Nat.lor done (Nat.pow 2 i)) hist (T.set (d + 1) t d v') h' KR = true) :
    dmW fl ids (some true) P call ops n f l done i m ⟨some d, .call ⟨.builtin .append, #[s, x], #[st, xt]⟩, ty, pos, af, g⟩ hist t h KR = true := by
  obtain ⟨v', h', hw, h1, h2⟩ := aw_appCX (call := call) (dst := some d) (ty := ty) (pos := pos) (af := af) (g := g) hst hxt hs hx k hHh hsz hc hbx hnn
  obtain ⟨k1, k2⟩ := kk v' h' h1 h2
  exact dmW_some hl hi hw hd k1 k2
end
theorem RNew.put {lo sz r : Nat} {d : List Value} {h : AHeap} {v : Value} {rows : List (List Value)} (k : RNew lo h sz v rows) (hr : r < lo) : RNew lo (h.putAt r d) sz v rows := by
  obtain ⟨k1, k2, b, c, f, k3, k4, k5, k6⟩ := k
  exact ⟨k1, k2, b, c, f, k3, k4, k5, by rw [putAt_ne (by omega)]; exact k6⟩
theorem kSaC : intKey Tryz.prog 57 = some 4 := by kernel_rfl
theorem gSaC : Tryz.prog.eqGuardType Tryz.prog.depth 57 = false := by kernel_rfl
/-- Truth values at two temporaries, compared. -/
theorem neqB {i j : Nat} (hij : i ≠ j) {t : T Value} {ty : TypeId} {pos : String} {af : Array Edge} {g : Option (Nat × Bool)} {dst : Option Tmp} {p q : Bool} (h1 : tget t i = .bool p) (h2 : tget t j = .bool q)
    (hr : ground Tryz.prog (T.set (j + 1) (T.set (i + 1) .leaf i (.bool p)) j (.bool q)) ⟨dst, .binOp .neq 4 (.tmp i) (.tmp j) 4, ty, pos, af, g⟩ = some (.bool (p != q))) :
    rBin Tryz.prog t ⟨dst, .binOp .neq 4 (.tmp i) (.tmp j) 4, ty, pos, af, g⟩ .neq 4 (.bool q) (.bool p) = some (.bool (p != q)) := by
  rw [rBin_bool, nilB]
  exact bin_congr (t' := T.set (j + 1) (T.set (i + 1) .leaf i (.bool p)) j (.bool q)) h1 h2 (by rw [tget_ne (Nat.lt_succ_self _) hij, tget_eq (Nat.lt_succ_self _)]) (tget_eq (Nat.lt_succ_self _)) hr
end Go.Proofs.Po
