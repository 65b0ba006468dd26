import Derived.Test.YtkocecoddghmbaaGreatPoH
import Derived.Test.YtkocecoddghmbaaGreatPoM
import Derived.Test.YtkocecoddghmbaaGreatPp5
import Derived.Test.YtkocecoddghmbaaGreatPoT
/- PostLast. -/
namespace Go.Proofs.Po
open Go Go.Ev Go.RowKit
set_option linter.unusedSimpArgs false
variable {pr : Prim} {R : ExT}
theorem bA0 (p : Option Addr) (n c : Nat) : rBuild Tryz.prog 24 [(0, .slice p n c)] = some (.agg ⟨[.slice p n c]⟩) := by kernel_rfl
structure ILa (M : List Sa) (G : AHeap) (B3 : Nat) (w1 w2 : Value) (k : Nat) (t : T Value) (h : AHeap) : Prop where
  kp : Kp G h
  t3 : tget t 3 = ptr0 B3
  t9 : tget t 9 = w1
  t11 : tget t 11 = w2
  t13 : tget t 13 = iv (k : Int)
  hk : k ≤ M.length
theorem tru_app {O : List Od} {m : Od} {t : List Int} (h : truthB O t = true) (h1 : m.lo ≤ 30) (h2 : m.hi = 30) : truthB (O ++ [m]) (t ++ [30]) = true := by
  unfold truthB at h ⊢
  rw [Bool.and_eq_true, decide_eq_true_eq] at h
  have hl : O.length = t.length := by omega
  rw [List.zip_append hl, List.all_append, h.2, Bool.and_eq_true, decide_eq_true_eq]
  refine ⟨by rw [List.length_append, List.length_append]; show _ = _; simp; omega, ?_⟩
  show (true && (comeQ (m, 30) && true)) = true
  have : comeQ (m, 30) = true := by unfold comeQ; exact inB_iff.2 ⟨h1, by show (30 : Int) ≤ m.hi; omega⟩
  rw [this]; rfl
set_option maxRecDepth 100000 in
set_option maxHeartbeats 32000000 in
theorem last_law (S : Ev.Steps Tryz.prog pr R) (hT : Tab pr) (h0 : AHeap) (v : Value) (O : List Od) (hb : PoAt h0 v O) (wv : Value) (ws : List Int) (hw : WdAt h0 wv ws) (hwl : (ws.length : Int) < 9223372036854775808) (m : Od) (hN0 : numOk Tryz.prog 70 O.length = true) (hN1 : numOk Tryz.prog 70 (Nat.add O.length 1) = true) :
    Brings Tryz.prog R 9 [.agg ⟨poV v⟩, wv, .agg ⟨cOd m⟩] h0 fun u _ => u = .bool true := by
  have hoff := hT.off
  refine brings_of (fn := Tryz.f9) (c := (Tryz.f9.body).getD .skip) (by kernel_rfl) rfl (by kernel_rfl) rfl (fun K hK => ?_)
  generalize hF : finish Tryz.prog Tryz.f9 K = KF
  simp only [Tryz.f9, Option.getD_some, argsT, setArgs, fV1_eq, T.setK_eq, id]
  have hKr : ∀ g, Kp h0 g → K (.bool true) g = true := fun g hk => hK _ _ hk rfl
  clear hK
  have awake : ∀ {ops : Array Oper} {n : Nat} {rest : List Oper} {t : T Value} {h : AHeap} {KR : T Value → AHeap → Bool} {dst : Option Tmp}, putR Tryz.prog (withPrim pr (callVal Tryz.prog R)) ops n rest dst t (.bool true) h KR = true →
      wrR Tryz.prog (withPrim pr (callVal Tryz.prog R)) ops n rest (.call ⟨.value (.func 11), #[], #[]⟩) dst t h KR = true := fun k => wr_prim (fid := 11) (first := #[]) (captured := #[]) (v := .bool true) rfl (hT.awake _) k
  have tq0 : ∀ a b : Value, (⟨[a, b]⟩ : Array Value)[0]? = some a := fun _ _ => rfl
  have tq1 : ∀ a b : Value, (⟨[a, b]⟩ : Array Value)[1]? = some b := fun _ _ => rfl
  have hdd : ∀ z : Int, decide (z = z) = true := fun z => decide_eq_true rfl
  have hbv := row_veq hb
  have hmv := veq_cOd m
  have cm5 : partL Tryz.prog 70 (cOd m) 0 = some (.agg ⟨cOd m⟩) := part_0 prO (cOd_len m)
  repeat refine S.seq ?_
  refine S.region ?_
  simp (disch := first | omega | (simp only [add_nx, upd_nx] <;> omega) | decide) only [rUz, ↓reduceIte, Nat.reduceEqDiff, Nat.reduceAdd]
  obtain ⟨B3, hB3⟩ : ∃ x, x = h0.nx := ⟨_, rfl⟩
  obtain ⟨B5, hB5⟩ : ∃ x, x = h0.nx + 1 := ⟨_, rfl⟩
  have hb3 : ((h0.add (poV v)).add (cOd m)).bl.get B3 = some (.cells (poV v) B3 false) := by rw [ag_ne (by show B3 ≠ h0.nx + 1; omega)]; subst hB3; exact ag_eq rfl
  have hb5 : ((h0.add (poV v)).add (cOd m)).bl.get B5 = some (.cells (cOd m) B5 false) := by subst hB5; exact ag_eq rfl
  have hn5 : B5 < ((h0.add (poV v)).add (cOd m)).nx := by show B5 < h0.nx + 2; omega
  have hn3 : B3 < ((h0.add (poV v)).add (cOd m)).nx := by show B3 < h0.nx + 2; omega
  have hk1 : Kp h0 ((h0.add (poV v)).add (cOd m)) := Kp.refl.add.add
  rw [← hB5, ← hB3]
  clear hB3 hB5
  generalize (h0.add (poV v)).add (cOd m) = H at hb3 hb5 hn5 hn3 hk1 ⊢
  have hbH : SlAt H 5 v (O.map cOd) := hb.mono hk1
  obtain ⟨B7, hB7⟩ : ∃ x, x = H.nx := ⟨_, rfl⟩
  repeat refine S.seq ?_
  refine S.drawnM [(true, 0), (false, 0), (false, 2), (true, 7), (false, 0), (true, 16), (true, 63), (false, 127), (true, 0), (true, 511)] 256 [8] (by kernel_rfl) (by kernel_rfl) (by kernel_rfl) (by kernel_rfl) (by kernel_rfl) ?_
  generalize hJJ : (fun (t : T Value) (h : AHeap) => _) = KJ
  suffices hJ : ∀ t h w, Kp H h → tget t 1 = wv → tget t 3 = ptr0 B3 → tget t 5 = ptr0 B5 → tget t 7 = ptr0 B7 → B7 < h.nx → h.bl.get B7 = some (.cells (poV w) B7 false) → PoAt h w (O ++ [m]) → KJ t h = true by
    clear hJJ
    have hkR : Kp H H.res := Kp.refl.res
    have f7 : H.res.fams.get B7 = some [] := by subst hB7; exact res_fe rfl
    have nR : H.res.nx = B7 + 1 := by subst hB7; rfl
    have r3 : H.res.bl.get B3 = some (.cells (poV v) B3 false) := (hkR.get hn3).trans hb3
    have r5 : H.res.bl.get B5 = some (.cells (cOd m) B5 false) := (hkR.get hn5).trans hb5
    have hm0 : numOk Tryz.prog 70 (O.map cOd).length = true := by rw [List.length_map]; exact hN0
    have hm1 : numOk Tryz.prog 70 (Nat.add (O.map cOd).length 1) = true := by rw [List.length_map]; exact hN1
    have hsz : ∀ c, c ∈ O.map cOd → c.length = 5 := fun c hc => by obtain ⟨x, _, rfl⟩ := List.mem_map.1 hc; rfl
    have hrows : O.map cOd ++ [cOd m] = (O ++ [m]).map cOd := by rw [List.map_append]; rfl
    simp (disch := first | omega | (simp only [add_nx, upd_nx] <;> omega) | decide) only [rUz, ↓reduceIte, Nat.reduceEqDiff, Nat.reduceAdd, rMz, infoL, Nat.reduceSub]
    refine dm_pick rfl ?_
    simp (disch := first | omega | (simp only [add_nx, upd_nx] <;> omega) | decide) only [rUz, ↓reduceIte, Nat.reduceEqDiff, Nat.reduceAdd, rMz, infoL, Nat.reduceSub, res_bl, hb3, hb5, fieldAddr_ptr fA0 lrO, qrO, po0, cm5]
    refine dm_pick rfl ?_
    simp (disch := first | omega | (simp only [add_nx, upd_nx] <;> omega) | decide) only [rUz, ↓reduceIte, Nat.reduceEqDiff, Nat.reduceAdd, rMz, infoL, Nat.reduceSub, res_bl, hb3, hb5, fieldAddr_ptr fA0 lrO, qrO, po0, cm5]
    refine dm_pick rfl ?_
    simp (disch := first | omega | (simp only [add_nx, upd_nx] <;> omega) | decide) only [rUz, ↓reduceIte, Nat.reduceEqDiff, Nat.reduceAdd, rMz, infoL, Nat.reduceSub, res_bl, hb3, hb5, fieldAddr_ptr fA0 lrO, qrO, po0, cm5]
    rw [← hB7]
    generalize H.res = R0 at hkR f7 nR r3 r5 ⊢
    have hOR : SlAt R0 5 v (O.map cOd) := SlAt.mono hbH hkR
    have m3 : B3 < R0.nx := Nat.lt_of_lt_of_le hn3 hkR.1
    have m5 : B5 < R0.nx := Nat.lt_of_lt_of_le hn5 hkR.1
    have m7 : B7 < R0.nx := by omega
    have h37 : B3 ≠ B7 := by omega
    have h57 : B5 ≠ B7 := by omega
    refine dm_two rfl rfl ?_ ?_
    · skip
      have k1 : Kp R0 (R0.add []) := (Kp.refl : Kp R0 R0).add
      refine dmW_some (v := .slice (some ⟨R0.nx, 0, none⟩) 0 0) (h' := R0.add []) rfl rfl (aw_lit0 slrO srO zrO rfl) (Nat.le_of_ble_eq_true rfl) ?_ ?_
      · try simp (disch := first | decide | rfl) only [again_nil, again_skip, again_free]
        rw [again_same (v := .agg ⟨cOd m⟩) (by simp (disch := first | omega | (simp only [add_nx, upd_nx] <;> omega) | decide) only [rUz, ↓reduceIte, Nat.reduceEqDiff, Nat.reduceAdd, rDz, infoL, Nat.reduceSub, (k1.get m5).trans r5, cm5]) hmv]
        try simp (disch := first | decide | rfl) only [again_nil, again_skip, again_free]
        rw [again_same (v := v) (by simp (disch := first | omega | (simp only [add_nx, upd_nx] <;> omega) | decide) only [rUz, ↓reduceIte, Nat.reduceEqDiff, Nat.reduceAdd, rDz, infoL, Nat.reduceSub, (k1.get m3).trans r3, fieldAddr_ptr fA0 lrO, qrO, po0]) hbv]
        try simp (disch := first | decide | rfl) only [again_nil, again_skip, again_free]
      obtain ⟨b0, hb0⟩ : ∃ z, z = R0.nx := ⟨_, rfl⟩
      have g0 : (R0.add []).bl.get b0 = some (.cells [] b0 false) := by subst hb0; exact ag_eq rfl
      have e0 : (R0.add []).fams.get b0 = some [b0] := by subst hb0; exact af_eq rfl
      have n0 : b0 < (R0.add []).nx := by subst hb0; exact Nat.lt_succ_self _
      have l0 : R0.nx ≤ b0 := by have := (Kp.refl : Kp R0 R0).1; omega
      rw [← hb0]
      clear hb0
      generalize R0.add [] = X1 at g0 e0 n0 k1 ⊢
      simp (disch := first | omega | (simp only [add_nx, upd_nx] <;> omega) | decide) only [rUz, ↓reduceIte, Nat.reduceEqDiff, Nat.reduceAdd, rMz, infoL, Nat.reduceSub]
      refine dm_two rfl rfl ?_ ?_
      · skip
        refine dmW_copyEX (b := b0) (v := v) (cs := O.map cOd) rfl rfl slrO urO (by simp (disch := first | omega | (simp only [add_nx, upd_nx] <;> omega) | decide) only [rUz, ↓reduceIte, Nat.reduceEqDiff, Nat.reduceAdd, rMz, infoL, Nat.reduceSub]) (by simp (disch := first | omega | (simp only [add_nx, upd_nx] <;> omega) | decide) only [rUz, ↓reduceIte, Nat.reduceEqDiff, Nat.reduceAdd, rMz, infoL, Nat.reduceSub]) srO g0 e0 n0 (SlAt.mono hOR k1) hm0 (Nat.le_of_ble_eq_true rfl) ?_
        intro v3 X2 hc3
        have k2 : Kp R0 X2 := hc3.kp k1 l0
        have hA3 : AppC b0 X2 5 v3 (O.map cOd) b0 := hc3.appC (Nat.le_refl _) n0 hsz
        have hl3 := hc3.le
        have hn0_3 : b0 ≤ X2.nx := by have := n0; omega
        refine ⟨?_, ?_⟩
        · try simp (disch := first | decide | rfl) only [again_nil, again_skip, again_free]
          rw [again_same (v := .agg ⟨cOd m⟩) (by simp (disch := first | omega | (simp only [add_nx, upd_nx] <;> omega) | decide) only [rUz, ↓reduceIte, Nat.reduceEqDiff, Nat.reduceAdd, rDz, infoL, Nat.reduceSub, (k2.get m5).trans r5, cm5]) hmv]
          try simp (disch := first | decide | rfl) only [again_nil, again_skip, again_free]
        simp (disch := first | omega | (simp only [add_nx, upd_nx] <;> omega) | decide) only [rUz, ↓reduceIte, Nat.reduceEqDiff, Nat.reduceAdd, rMz, infoL, Nat.reduceSub]
        refine dm_one rfl rfl ?_
        have k3 : Kp R0 (X2.add (cOd m)) := k2.add
        refine dmW_some (v := .slice (some ⟨X2.nx, 0, none⟩) 1 1) (h' := X2.add (cOd m)) rfl rfl (aw_lit1 slrO srO zrO rfl (by omega) (u := .agg ⟨cOd m⟩) (l := cOd m) (by simp (disch := first | omega | (simp only [add_nx, upd_nx] <;> omega) | decide) only [rUz, ↓reduceIte, Nat.reduceEqDiff, Nat.reduceAdd, rMz, infoL, Nat.reduceSub]) rfl rfl) (Nat.le_of_ble_eq_true rfl) ?_ ?_
        · try simp (disch := first | decide | rfl) only [again_nil, again_skip, again_free]
          rw [again_same (v := v) (by simp (disch := first | omega | (simp only [add_nx, upd_nx] <;> omega) | decide) only [rUz, ↓reduceIte, Nat.reduceEqDiff, Nat.reduceAdd, rDz, infoL, Nat.reduceSub, (k3.get m3).trans r3, fieldAddr_ptr fA0 lrO, qrO, po0]) hbv]
          try simp (disch := first | decide | rfl) only [again_nil, again_skip, again_free]
        obtain ⟨b5, hb5_⟩ : ∃ z, z = X2.nx := ⟨_, rfl⟩
        have g5 : (X2.add (cOd m)).bl.get b5 = some (.cells (cOd m) b5 false) := by subst hb5_; exact ag_eq rfl
        have n5 : b5 < (X2.add (cOd m)).nx := by subst hb5_; exact Nat.lt_succ_self _
        have hA5 : AppC b0 (X2.add (cOd m)) 5 v3 (O.map cOd) b0 := hA3.mono Kp.refl.add
        have lA5 : b0 ≤ (X2.add (cOd m)).nx := Nat.le_succ_of_le hn0_3
        rw [← hb5_]
        clear hb5_
        generalize X2.add (cOd m) = X3 at g5 n5 k3 hA5 lA5 ⊢
        simp (disch := first | omega | (simp only [add_nx, upd_nx] <;> omega) | decide) only [rUz, ↓reduceIte, Nat.reduceEqDiff, Nat.reduceAdd, rMz, infoL, Nat.reduceSub]
        refine dm_one rfl rfl ?_
        refine dmW_appCX (lo := b0) (F := b0) (v := v3) (cs := O.map cOd) (c := cOd m) (bx := b5) (cx := 1) rfl rfl slrO urO (by simp (disch := first | omega | (simp only [add_nx, upd_nx] <;> omega) | decide) only [rUz, ↓reduceIte, Nat.reduceEqDiff, Nat.reduceAdd, rMz, infoL, Nat.reduceSub]) (by simp (disch := first | omega | (simp only [add_nx, upd_nx] <;> omega) | decide) only [rUz, ↓reduceIte, Nat.reduceEqDiff, Nat.reduceAdd, rMz, infoL, Nat.reduceSub]) hA5 lA5 srO rfl g5 hm1 (Nat.le_of_ble_eq_true rfl) ?_
        intro v6 X4 hR6 hS6
        have k4 : Kp R0 X4 := hS6.kp l0 k3
        obtain ⟨p6, m6, c6, hv6⟩ := row_sl hR6.at
        refine ⟨?_, ?_⟩
        · try simp (disch := first | decide | rfl) only [again_nil, again_skip, again_free]
        simp (disch := first | omega | (simp only [add_nx, upd_nx] <;> omega) | decide) only [rUz, ↓reduceIte, Nat.reduceEqDiff, Nat.reduceAdd, rMz, infoL, Nat.reduceSub, rd_build, List.map_cons, List.map_nil]
        have hbA : rBuild Tryz.prog 24 [(0, v6)] = some (.agg ⟨poV v6⟩) := by subst hv6; exact bA0 p6 m6 c6
        simp (disch := first | omega | (simp only [add_nx, upd_nx] <;> omega) | decide) only [rUz, ↓reduceIte, Nat.reduceEqDiff, Nat.reduceAdd, rMz, infoL, Nat.reduceSub, hbA]
        refine dm_one rfl rfl ?_
        refine dmW_alloc (r := B7) (z := .agg ⟨[nl]⟩) rfl zA ((k4.fget m7).trans f7) (Nat.le_of_ble_eq_true rfl) ?_ ?_
        · have y3 : (X4.putAt B7 [nl]).bl.get B3 = some (.cells (poV v) B3 false) := by rw [putAt_ne h37]; exact (k4.get m3).trans r3
          have y5 : (X4.putAt B7 [nl]).bl.get B5 = some (.cells (cOd m) B5 false) := by rw [putAt_ne h57]; exact (k4.get m5).trans r5
          try simp (disch := first | decide | rfl) only [again_nil, again_skip, again_free]
          rw [again_same (v := .agg ⟨cOd m⟩) (by simp (disch := first | omega | (simp only [add_nx, upd_nx] <;> omega) | decide) only [rUz, ↓reduceIte, Nat.reduceEqDiff, Nat.reduceAdd, rDz, infoL, Nat.reduceSub, y5, cm5]) hmv]
          try simp (disch := first | decide | rfl) only [again_nil, again_skip, again_free]
          rw [again_same (v := v) (by simp (disch := first | omega | (simp only [add_nx, upd_nx] <;> omega) | decide) only [rUz, ↓reduceIte, Nat.reduceEqDiff, Nat.reduceAdd, rDz, infoL, Nat.reduceSub, y3, fieldAddr_ptr fA0 lrO, qrO, po0]) hbv]
          try simp (disch := first | decide | rfl) only [again_nil, again_skip, again_free]
        simp (disch := first | omega | (simp only [add_nx, upd_nx] <;> omega) | decide) only [rUz, ↓reduceIte, Nat.reduceEqDiff, Nat.reduceAdd, rMz, infoL, Nat.reduceSub]
        refine dm_one rfl rfl ?_
        refine dmW_none rfl rfl (aw_storeN (B := B7) (ls := poV v6) (by simp (disch := first | omega | (simp only [add_nx, upd_nx] <;> omega) | decide) only [rUz, ↓reduceIte, Nat.reduceEqDiff, Nat.reduceAdd, rMz, infoL, Nat.reduceSub]) (by simp (disch := first | omega | (simp only [add_nx, upd_nx] <;> omega) | decide) only [rUz, ↓reduceIte, Nat.reduceEqDiff, Nat.reduceAdd, rMz, infoL, Nat.reduceSub]) sA (by omega) rfl (putAt_eq rfl) (putAt_fe rfl) rfl) ?_ ?_
        · try simp (disch := first | decide | rfl) only [again_nil, again_skip, again_free]
        simp (disch := first | omega | (simp only [add_nx, upd_nx] <;> omega) | decide) only [rUz, ↓reduceIte, Nat.reduceEqDiff, Nat.reduceAdd, rMz, infoL, Nat.reduceSub]
        have hk7 := k4.1
        refine hJ _ _ v6 ?_ ?_ ?_ ?_ ?_ ?_ ?_ ?_
        · exact ((hkR.trans k4).putAt (by omega)).upd (by omega)
        · simp (disch := first | omega | (simp only [add_nx, upd_nx] <;> omega) | decide) only [rUz, ↓reduceIte, Nat.reduceEqDiff, Nat.reduceAdd]
        · simp (disch := first | omega | (simp only [add_nx, upd_nx] <;> omega) | decide) only [rUz, ↓reduceIte, Nat.reduceEqDiff, Nat.reduceAdd]
        · simp (disch := first | omega | (simp only [add_nx, upd_nx] <;> omega) | decide) only [rUz, ↓reduceIte, Nat.reduceEqDiff, Nat.reduceAdd]
        · simp (disch := first | omega | (simp only [add_nx, upd_nx] <;> omega) | decide) only [rUz, ↓reduceIte, Nat.reduceEqDiff, Nat.reduceAdd]
        · show B7 < X4.nx; omega
        · exact upd_eq _ _ _
        · unfold PoAt; rw [← hrows]; exact RNew.at (RNew.upd (RNew.put hR6 (by omega)) (by omega))
      · skip
        have k2 : Kp R0 (X1.add (cOd m)) := k1.add
        refine dmW_some (v := .slice (some ⟨X1.nx, 0, none⟩) 1 1) (h' := X1.add (cOd m)) rfl rfl (aw_lit1 slrO srO zrO rfl (by omega) (u := .agg ⟨cOd m⟩) (l := cOd m) (by simp (disch := first | omega | (simp only [add_nx, upd_nx] <;> omega) | decide) only [rUz, ↓reduceIte, Nat.reduceEqDiff, Nat.reduceAdd, rMz, infoL, Nat.reduceSub]) rfl rfl) (Nat.le_of_ble_eq_true rfl) ?_ ?_
        · try simp (disch := first | decide | rfl) only [again_nil, again_skip, again_free]
          rw [again_same (v := v) (by simp (disch := first | omega | (simp only [add_nx, upd_nx] <;> omega) | decide) only [rUz, ↓reduceIte, Nat.reduceEqDiff, Nat.reduceAdd, rDz, infoL, Nat.reduceSub, (k2.get m3).trans r3, fieldAddr_ptr fA0 lrO, qrO, po0]) hbv]
          try simp (disch := first | decide | rfl) only [again_nil, again_skip, again_free]
        obtain ⟨b5, hb5_⟩ : ∃ z, z = X1.nx := ⟨_, rfl⟩
        have g5 : (X1.add (cOd m)).bl.get b5 = some (.cells (cOd m) b5 false) := by subst hb5_; exact ag_eq rfl
        have n5 : b5 < (X1.add (cOd m)).nx := by subst hb5_; exact Nat.lt_succ_self _
        have g0b : (X1.add (cOd m)).bl.get b0 = some (.cells [] b0 false) := by rw [ag_ne (by have := n0; omega)]; exact g0
        have e0b : (X1.add (cOd m)).fams.get b0 = some [b0] := by rw [af_ne (by have := n0; omega)]; exact e0
        have n0b : b0 < (X1.add (cOd m)).nx := Nat.lt_succ_of_lt n0
        have ne5 : b5 ≠ b0 := by have := n0; omega
        rw [← hb5_]
        clear hb5_
        generalize X1.add (cOd m) = X2 at g5 n5 k2 g0b e0b n0b ⊢
        simp (disch := first | omega | (simp only [add_nx, upd_nx] <;> omega) | decide) only [rUz, ↓reduceIte, Nat.reduceEqDiff, Nat.reduceAdd, rMz, infoL, Nat.reduceSub]
        refine dm_one rfl rfl ?_
        refine dmW_copyEX (b := b0) (v := v) (cs := O.map cOd) rfl rfl slrO urO (by simp (disch := first | omega | (simp only [add_nx, upd_nx] <;> omega) | decide) only [rUz, ↓reduceIte, Nat.reduceEqDiff, Nat.reduceAdd, rMz, infoL, Nat.reduceSub]) (by simp (disch := first | omega | (simp only [add_nx, upd_nx] <;> omega) | decide) only [rUz, ↓reduceIte, Nat.reduceEqDiff, Nat.reduceAdd, rMz, infoL, Nat.reduceSub]) srO g0b e0b n0b (SlAt.mono hOR k2) hm0 (Nat.le_of_ble_eq_true rfl) ?_
        intro v3 X3 hc3
        have k3 : Kp R0 X3 := hc3.kp k2 l0
        have hA3 : AppC b0 X3 5 v3 (O.map cOd) b0 := hc3.appC (Nat.le_refl _) n0b hsz
        have hl3 := hc3.le
        have hn0_3 : b0 ≤ X3.nx := by have := n0b; omega
        have g5c : X3.bl.get b5 = some (.cells (cOd m) b5 false) := (hc3.bl b5 n5 ne5).trans g5
        refine ⟨?_, ?_⟩
        · try simp (disch := first | decide | rfl) only [again_nil, again_skip, again_free]
          rw [again_same (v := .agg ⟨cOd m⟩) (by simp (disch := first | omega | (simp only [add_nx, upd_nx] <;> omega) | decide) only [rUz, ↓reduceIte, Nat.reduceEqDiff, Nat.reduceAdd, rDz, infoL, Nat.reduceSub, (k3.get m5).trans r5, cm5]) hmv]
          try simp (disch := first | decide | rfl) only [again_nil, again_skip, again_free]
        simp (disch := first | omega | (simp only [add_nx, upd_nx] <;> omega) | decide) only [rUz, ↓reduceIte, Nat.reduceEqDiff, Nat.reduceAdd, rMz, infoL, Nat.reduceSub]
        refine dm_one rfl rfl ?_
        refine dmW_appCX (lo := b0) (F := b0) (v := v3) (cs := O.map cOd) (c := cOd m) (bx := b5) (cx := 1) rfl rfl slrO urO (by simp (disch := first | omega | (simp only [add_nx, upd_nx] <;> omega) | decide) only [rUz, ↓reduceIte, Nat.reduceEqDiff, Nat.reduceAdd, rMz, infoL, Nat.reduceSub]) (by simp (disch := first | omega | (simp only [add_nx, upd_nx] <;> omega) | decide) only [rUz, ↓reduceIte, Nat.reduceEqDiff, Nat.reduceAdd, rMz, infoL, Nat.reduceSub]) hA3 hn0_3 srO rfl g5c hm1 (Nat.le_of_ble_eq_true rfl) ?_
        intro v6 X4 hR6 hS6
        have k4 : Kp R0 X4 := hS6.kp l0 k3
        obtain ⟨p6, m6, c6, hv6⟩ := row_sl hR6.at
        refine ⟨?_, ?_⟩
        · try simp (disch := first | decide | rfl) only [again_nil, again_skip, again_free]
        simp (disch := first | omega | (simp only [add_nx, upd_nx] <;> omega) | decide) only [rUz, ↓reduceIte, Nat.reduceEqDiff, Nat.reduceAdd, rMz, infoL, Nat.reduceSub, rd_build, List.map_cons, List.map_nil]
        have hbA : rBuild Tryz.prog 24 [(0, v6)] = some (.agg ⟨poV v6⟩) := by subst hv6; exact bA0 p6 m6 c6
        simp (disch := first | omega | (simp only [add_nx, upd_nx] <;> omega) | decide) only [rUz, ↓reduceIte, Nat.reduceEqDiff, Nat.reduceAdd, rMz, infoL, Nat.reduceSub, hbA]
        refine dm_one rfl rfl ?_
        refine dmW_alloc (r := B7) (z := .agg ⟨[nl]⟩) rfl zA ((k4.fget m7).trans f7) (Nat.le_of_ble_eq_true rfl) ?_ ?_
        · have y3 : (X4.putAt B7 [nl]).bl.get B3 = some (.cells (poV v) B3 false) := by rw [putAt_ne h37]; exact (k4.get m3).trans r3
          have y5 : (X4.putAt B7 [nl]).bl.get B5 = some (.cells (cOd m) B5 false) := by rw [putAt_ne h57]; exact (k4.get m5).trans r5
          try simp (disch := first | decide | rfl) only [again_nil, again_skip, again_free]
          rw [again_same (v := .agg ⟨cOd m⟩) (by simp (disch := first | omega | (simp only [add_nx, upd_nx] <;> omega) | decide) only [rUz, ↓reduceIte, Nat.reduceEqDiff, Nat.reduceAdd, rDz, infoL, Nat.reduceSub, y5, cm5]) hmv]
          try simp (disch := first | decide | rfl) only [again_nil, again_skip, again_free]
          rw [again_same (v := v) (by simp (disch := first | omega | (simp only [add_nx, upd_nx] <;> omega) | decide) only [rUz, ↓reduceIte, Nat.reduceEqDiff, Nat.reduceAdd, rDz, infoL, Nat.reduceSub, y3, fieldAddr_ptr fA0 lrO, qrO, po0]) hbv]
          try simp (disch := first | decide | rfl) only [again_nil, again_skip, again_free]
        simp (disch := first | omega | (simp only [add_nx, upd_nx] <;> omega) | decide) only [rUz, ↓reduceIte, Nat.reduceEqDiff, Nat.reduceAdd, rMz, infoL, Nat.reduceSub]
        refine dm_one rfl rfl ?_
        refine dmW_none rfl rfl (aw_storeN (B := B7) (ls := poV v6) (by simp (disch := first | omega | (simp only [add_nx, upd_nx] <;> omega) | decide) only [rUz, ↓reduceIte, Nat.reduceEqDiff, Nat.reduceAdd, rMz, infoL, Nat.reduceSub]) (by simp (disch := first | omega | (simp only [add_nx, upd_nx] <;> omega) | decide) only [rUz, ↓reduceIte, Nat.reduceEqDiff, Nat.reduceAdd, rMz, infoL, Nat.reduceSub]) sA (by omega) rfl (putAt_eq rfl) (putAt_fe rfl) rfl) ?_ ?_
        · try simp (disch := first | decide | rfl) only [again_nil, again_skip, again_free]
        simp (disch := first | omega | (simp only [add_nx, upd_nx] <;> omega) | decide) only [rUz, ↓reduceIte, Nat.reduceEqDiff, Nat.reduceAdd, rMz, infoL, Nat.reduceSub]
        have hk7 := k4.1
        refine hJ _ _ v6 ?_ ?_ ?_ ?_ ?_ ?_ ?_ ?_
        · exact ((hkR.trans k4).putAt (by omega)).upd (by omega)
        · simp (disch := first | omega | (simp only [add_nx, upd_nx] <;> omega) | decide) only [rUz, ↓reduceIte, Nat.reduceEqDiff, Nat.reduceAdd]
        · simp (disch := first | omega | (simp only [add_nx, upd_nx] <;> omega) | decide) only [rUz, ↓reduceIte, Nat.reduceEqDiff, Nat.reduceAdd]
        · simp (disch := first | omega | (simp only [add_nx, upd_nx] <;> omega) | decide) only [rUz, ↓reduceIte, Nat.reduceEqDiff, Nat.reduceAdd]
        · simp (disch := first | omega | (simp only [add_nx, upd_nx] <;> omega) | decide) only [rUz, ↓reduceIte, Nat.reduceEqDiff, Nat.reduceAdd]
        · show B7 < X4.nx; omega
        · exact upd_eq _ _ _
        · unfold PoAt; rw [← hrows]; exact RNew.at (RNew.upd (RNew.put hR6 (by omega)) (by omega))
    · skip
      have k1 : Kp R0 (R0.add (cOd m)) := (Kp.refl : Kp R0 R0).add
      refine dmW_some (v := .slice (some ⟨R0.nx, 0, none⟩) 1 1) (h' := R0.add (cOd m)) rfl rfl (aw_lit1 slrO srO zrO rfl (by omega) (u := .agg ⟨cOd m⟩) (l := cOd m) (by simp (disch := first | omega | (simp only [add_nx, upd_nx] <;> omega) | decide) only [rUz, ↓reduceIte, Nat.reduceEqDiff, Nat.reduceAdd, rMz, infoL, Nat.reduceSub]) rfl rfl) (Nat.le_of_ble_eq_true rfl) ?_ ?_
      · try simp (disch := first | decide | rfl) only [again_nil, again_skip, again_free]
        rw [again_same (v := v) (by simp (disch := first | omega | (simp only [add_nx, upd_nx] <;> omega) | decide) only [rUz, ↓reduceIte, Nat.reduceEqDiff, Nat.reduceAdd, rDz, infoL, Nat.reduceSub, (k1.get m3).trans r3, fieldAddr_ptr fA0 lrO, qrO, po0]) hbv]
        try simp (disch := first | decide | rfl) only [again_nil, again_skip, again_free]
      obtain ⟨b5, hb5_⟩ : ∃ z, z = R0.nx := ⟨_, rfl⟩
      have g5 : (R0.add (cOd m)).bl.get b5 = some (.cells (cOd m) b5 false) := by subst hb5_; exact ag_eq rfl
      have n5 : b5 < (R0.add (cOd m)).nx := by subst hb5_; exact Nat.lt_succ_self _
      rw [← hb5_]
      have l5 : b5 < R0.nx + 1 := by omega
      clear hb5_
      generalize R0.add (cOd m) = X1 at g5 n5 k1 ⊢
      simp (disch := first | omega | (simp only [add_nx, upd_nx] <;> omega) | decide) only [rUz, ↓reduceIte, Nat.reduceEqDiff, Nat.reduceAdd, rMz, infoL, Nat.reduceSub]
      refine dm_one rfl rfl ?_
      have k2 : Kp R0 (X1.add []) := k1.add
      refine dmW_some (v := .slice (some ⟨X1.nx, 0, none⟩) 0 0) (h' := X1.add []) rfl rfl (aw_lit0 slrO srO zrO rfl) (Nat.le_of_ble_eq_true rfl) ?_ ?_
      · try simp (disch := first | decide | rfl) only [again_nil, again_skip, again_free]
        rw [again_same (v := .agg ⟨cOd m⟩) (by simp (disch := first | omega | (simp only [add_nx, upd_nx] <;> omega) | decide) only [rUz, ↓reduceIte, Nat.reduceEqDiff, Nat.reduceAdd, rDz, infoL, Nat.reduceSub, (k2.get m5).trans r5, cm5]) hmv]
        try simp (disch := first | decide | rfl) only [again_nil, again_skip, again_free]
        rw [again_same (v := v) (by simp (disch := first | omega | (simp only [add_nx, upd_nx] <;> omega) | decide) only [rUz, ↓reduceIte, Nat.reduceEqDiff, Nat.reduceAdd, rDz, infoL, Nat.reduceSub, (k2.get m3).trans r3, fieldAddr_ptr fA0 lrO, qrO, po0]) hbv]
        try simp (disch := first | decide | rfl) only [again_nil, again_skip, again_free]
      obtain ⟨b0, hb0⟩ : ∃ z, z = X1.nx := ⟨_, rfl⟩
      have g0 : (X1.add []).bl.get b0 = some (.cells [] b0 false) := by subst hb0; exact ag_eq rfl
      have e0 : (X1.add []).fams.get b0 = some [b0] := by subst hb0; exact af_eq rfl
      have n0 : b0 < (X1.add []).nx := by subst hb0; exact Nat.lt_succ_self _
      have l0 : R0.nx ≤ b0 := by have := k1.1; omega
      have g5b : (X1.add []).bl.get b5 = some (.cells (cOd m) b5 false) := by rw [ag_ne (by omega)]; exact g5
      have n5b : b5 < (X1.add []).nx := Nat.lt_succ_of_lt n5
      have ne5 : b5 ≠ b0 := by omega
      rw [← hb0]
      clear hb0
      generalize X1.add [] = X2 at g0 e0 n0 k2 g5b n5b ⊢
      simp (disch := first | omega | (simp only [add_nx, upd_nx] <;> omega) | decide) only [rUz, ↓reduceIte, Nat.reduceEqDiff, Nat.reduceAdd, rMz, infoL, Nat.reduceSub]
      refine dm_one rfl rfl ?_
      refine dmW_copyEX (b := b0) (v := v) (cs := O.map cOd) rfl rfl slrO urO (by simp (disch := first | omega | (simp only [add_nx, upd_nx] <;> omega) | decide) only [rUz, ↓reduceIte, Nat.reduceEqDiff, Nat.reduceAdd, rMz, infoL, Nat.reduceSub]) (by simp (disch := first | omega | (simp only [add_nx, upd_nx] <;> omega) | decide) only [rUz, ↓reduceIte, Nat.reduceEqDiff, Nat.reduceAdd, rMz, infoL, Nat.reduceSub]) srO g0 e0 n0 (SlAt.mono hOR k2) hm0 (Nat.le_of_ble_eq_true rfl) ?_
      intro v3 X3 hc3
      have k3 : Kp R0 X3 := hc3.kp k2 l0
      have hA3 : AppC b0 X3 5 v3 (O.map cOd) b0 := hc3.appC (Nat.le_refl _) n0 hsz
      have hl3 := hc3.le
      have hn0_3 : b0 ≤ X3.nx := by have := n0; omega
      have g5c : X3.bl.get b5 = some (.cells (cOd m) b5 false) := (hc3.bl b5 n5b ne5).trans g5b
      refine ⟨?_, ?_⟩
      · try simp (disch := first | decide | rfl) only [again_nil, again_skip, again_free]
        rw [again_same (v := .agg ⟨cOd m⟩) (by simp (disch := first | omega | (simp only [add_nx, upd_nx] <;> omega) | decide) only [rUz, ↓reduceIte, Nat.reduceEqDiff, Nat.reduceAdd, rDz, infoL, Nat.reduceSub, (k3.get m5).trans r5, cm5]) hmv]
        try simp (disch := first | decide | rfl) only [again_nil, again_skip, again_free]
      simp (disch := first | omega | (simp only [add_nx, upd_nx] <;> omega) | decide) only [rUz, ↓reduceIte, Nat.reduceEqDiff, Nat.reduceAdd, rMz, infoL, Nat.reduceSub]
      refine dm_one rfl rfl ?_
      refine dmW_appCX (lo := b0) (F := b0) (v := v3) (cs := O.map cOd) (c := cOd m) (bx := b5) (cx := 1) rfl rfl slrO urO (by simp (disch := first | omega | (simp only [add_nx, upd_nx] <;> omega) | decide) only [rUz, ↓reduceIte, Nat.reduceEqDiff, Nat.reduceAdd, rMz, infoL, Nat.reduceSub]) (by simp (disch := first | omega | (simp only [add_nx, upd_nx] <;> omega) | decide) only [rUz, ↓reduceIte, Nat.reduceEqDiff, Nat.reduceAdd, rMz, infoL, Nat.reduceSub]) hA3 hn0_3 srO rfl g5c hm1 (Nat.le_of_ble_eq_true rfl) ?_
      intro v6 X4 hR6 hS6
      have k4 : Kp R0 X4 := hS6.kp l0 k3
      obtain ⟨p6, m6, c6, hv6⟩ := row_sl hR6.at
      refine ⟨?_, ?_⟩
      · try simp (disch := first | decide | rfl) only [again_nil, again_skip, again_free]
      simp (disch := first | omega | (simp only [add_nx, upd_nx] <;> omega) | decide) only [rUz, ↓reduceIte, Nat.reduceEqDiff, Nat.reduceAdd, rMz, infoL, Nat.reduceSub, rd_build, List.map_cons, List.map_nil]
      have hbA : rBuild Tryz.prog 24 [(0, v6)] = some (.agg ⟨poV v6⟩) := by subst hv6; exact bA0 p6 m6 c6
      simp (disch := first | omega | (simp only [add_nx, upd_nx] <;> omega) | decide) only [rUz, ↓reduceIte, Nat.reduceEqDiff, Nat.reduceAdd, rMz, infoL, Nat.reduceSub, hbA]
      refine dm_one rfl rfl ?_
      refine dmW_alloc (r := B7) (z := .agg ⟨[nl]⟩) rfl zA ((k4.fget m7).trans f7) (Nat.le_of_ble_eq_true rfl) ?_ ?_
      · have y3 : (X4.putAt B7 [nl]).bl.get B3 = some (.cells (poV v) B3 false) := by rw [putAt_ne h37]; exact (k4.get m3).trans r3
        have y5 : (X4.putAt B7 [nl]).bl.get B5 = some (.cells (cOd m) B5 false) := by rw [putAt_ne h57]; exact (k4.get m5).trans r5
        try simp (disch := first | decide | rfl) only [again_nil, again_skip, again_free]
        rw [again_same (v := .agg ⟨cOd m⟩) (by simp (disch := first | omega | (simp only [add_nx, upd_nx] <;> omega) | decide) only [rUz, ↓reduceIte, Nat.reduceEqDiff, Nat.reduceAdd, rDz, infoL, Nat.reduceSub, y5, cm5]) hmv]
        try simp (disch := first | decide | rfl) only [again_nil, again_skip, again_free]
        rw [again_same (v := v) (by simp (disch := first | omega | (simp only [add_nx, upd_nx] <;> omega) | decide) only [rUz, ↓reduceIte, Nat.reduceEqDiff, Nat.reduceAdd, rDz, infoL, Nat.reduceSub, y3, fieldAddr_ptr fA0 lrO, qrO, po0]) hbv]
        try simp (disch := first | decide | rfl) only [again_nil, again_skip, again_free]
      simp (disch := first | omega | (simp only [add_nx, upd_nx] <;> omega) | decide) only [rUz, ↓reduceIte, Nat.reduceEqDiff, Nat.reduceAdd, rMz, infoL, Nat.reduceSub]
      refine dm_one rfl rfl ?_
      refine dmW_none rfl rfl (aw_storeN (B := B7) (ls := poV v6) (by simp (disch := first | omega | (simp only [add_nx, upd_nx] <;> omega) | decide) only [rUz, ↓reduceIte, Nat.reduceEqDiff, Nat.reduceAdd, rMz, infoL, Nat.reduceSub]) (by simp (disch := first | omega | (simp only [add_nx, upd_nx] <;> omega) | decide) only [rUz, ↓reduceIte, Nat.reduceEqDiff, Nat.reduceAdd, rMz, infoL, Nat.reduceSub]) sA (by omega) rfl (putAt_eq rfl) (putAt_fe rfl) rfl) ?_ ?_
      · try simp (disch := first | decide | rfl) only [again_nil, again_skip, again_free]
      simp (disch := first | omega | (simp only [add_nx, upd_nx] <;> omega) | decide) only [rUz, ↓reduceIte, Nat.reduceEqDiff, Nat.reduceAdd, rMz, infoL, Nat.reduceSub]
      have hk7 := k4.1
      refine hJ _ _ v6 ?_ ?_ ?_ ?_ ?_ ?_ ?_ ?_
      · exact ((hkR.trans k4).putAt (by omega)).upd (by omega)
      · simp (disch := first | omega | (simp only [add_nx, upd_nx] <;> omega) | decide) only [rUz, ↓reduceIte, Nat.reduceEqDiff, Nat.reduceAdd]
      · simp (disch := first | omega | (simp only [add_nx, upd_nx] <;> omega) | decide) only [rUz, ↓reduceIte, Nat.reduceEqDiff, Nat.reduceAdd]
      · simp (disch := first | omega | (simp only [add_nx, upd_nx] <;> omega) | decide) only [rUz, ↓reduceIte, Nat.reduceEqDiff, Nat.reduceAdd]
      · simp (disch := first | omega | (simp only [add_nx, upd_nx] <;> omega) | decide) only [rUz, ↓reduceIte, Nat.reduceEqDiff, Nat.reduceAdd]
      · show B7 < X4.nx; omega
      · exact upd_eq _ _ _
      · unfold PoAt; rw [← hrows]; exact RNew.at (RNew.upd (RNew.put hR6 (by omega)) (by omega))
  clear hbv
  intro t h w hkH t1 t3 t5 t7 hn7 hb7 hPx
  subst hJJ
  simp only [seqK_normal]
  replace hb3 := (hkH.get hn3).trans hb3
  replace hb5 := (hkH.get hn5).trans hb5
  replace hn3 := Nat.lt_of_lt_of_le hn3 hkH.1
  replace hn5 := Nat.lt_of_lt_of_le hn5 hkH.1
  replace hk1 := hk1.trans hkH
  clear hkH hbH hB7
  clear H
  repeat refine S.seq ?_
  refine S.region ?_
  simp (disch := first | omega | (simp only [add_nx, upd_nx] <;> omega) | decide) only [rUz, ↓reduceIte, Nat.reduceEqDiff, Nat.reduceAdd, t3, hb3, part_0 pA (poV_len v)]
  refine wr_brings (fid := 34) (first := #[]) (captured := #[]) (Post := fun u _ => u = .bool (readyB O)) rfl (hoff _ _ _ rfl) (by simp (disch := first | omega | (simp only [add_nx, upd_nx] <;> omega) | decide) only [rUz, ↓reduceIte, Nat.reduceEqDiff, Nat.reduceAdd]; exact ready_y S hoff h v O (hb.mono hk1)) ?_
  rintro u g hkg rfl
  cases hre : readyB O with
  | false =>
    simp (disch := first | omega | (simp only [add_nx, upd_nx] <;> omega) | decide) only [rUz, ↓reduceIte, Nat.reduceEqDiff, Nat.reduceAdd, un_not, hre, Bool.not_false]
    repeat refine S.seq ?_
    refine S.cond (v := true) (by first | rfl | (simp (disch := first | omega | (simp only [add_nx, upd_nx] <;> omega) | decide) only [rUz, ↓reduceIte, Nat.reduceEqDiff, Nat.reduceAdd] <;> rfl)) (fun _ => ?_) (fun e => by cases e)
    repeat refine S.seq ?_
    refine S.region ?_
    simp (disch := first | omega | (simp only [add_nx, upd_nx] <;> omega) | decide) only [rUz, ↓reduceIte, Nat.reduceEqDiff, Nat.reduceAdd]
    refine awake ?_
    simp (disch := first | omega | (simp only [add_nx, upd_nx] <;> omega) | decide) only [rUz, ↓reduceIte, Nat.reduceEqDiff, Nat.reduceAdd]
    refine S.ret ?_
    try simp only [seqK_ret, blockK_ret]
    subst hF
    simp only [finish, endMarks]
    rw [show Tryz.f9.results.toList = [.tmp 6] from rfl]
    simp (disch := first | omega | (simp only [add_nx, upd_nx] <;> omega) | decide) only [resA, ev_tmp, tget_ne, tget_eq, get_ne, get_eq, upd_eq, upd_ne, ag_eq, ag_ne, result1]
    exact hKr _ (hk1.trans hkg)
  | true =>
  have hb7g := (hkg.get hn7).trans hb7
  simp (disch := first | omega | (simp only [add_nx, upd_nx] <;> omega) | decide) only [rUz, ↓reduceIte, Nat.reduceEqDiff, Nat.reduceAdd, un_not, hre, Bool.not_true, t7, hb7g, part_0 pA (poV_len w)]
  refine wr_brings (fid := 34) (first := #[]) (captured := #[]) (Post := fun u _ => u = .bool (readyB (O ++ [m]))) rfl (hoff _ _ _ rfl) (by simp (disch := first | omega | (simp only [add_nx, upd_nx] <;> omega) | decide) only [rUz, ↓reduceIte, Nat.reduceEqDiff, Nat.reduceAdd]; exact ready_y S hoff g w (O ++ [m]) (hPx.mono hkg)) ?_
  rintro u g2 hkg2 rfl
  have hk12 := hk1.trans (hkg.trans hkg2)
  cases hrx : readyB (O ++ [m]) with
  | false =>
    simp (disch := first | omega | (simp only [add_nx, upd_nx] <;> omega) | decide) only [rUz, ↓reduceIte, Nat.reduceEqDiff, Nat.reduceAdd, un_not, hrx, Bool.not_false]
    repeat refine S.seq ?_
    refine S.cond (v := true) (by first | rfl | (simp (disch := first | omega | (simp only [add_nx, upd_nx] <;> omega) | decide) only [rUz, ↓reduceIte, Nat.reduceEqDiff, Nat.reduceAdd] <;> rfl)) (fun _ => ?_) (fun e => by cases e)
    repeat refine S.seq ?_
    refine S.region ?_
    simp (disch := first | omega | (simp only [add_nx, upd_nx] <;> omega) | decide) only [rUz, ↓reduceIte, Nat.reduceEqDiff, Nat.reduceAdd]
    refine awake ?_
    simp (disch := first | omega | (simp only [add_nx, upd_nx] <;> omega) | decide) only [rUz, ↓reduceIte, Nat.reduceEqDiff, Nat.reduceAdd]
    refine S.ret ?_
    try simp only [seqK_ret, blockK_ret]
    subst hF
    simp only [finish, endMarks]
    rw [show Tryz.f9.results.toList = [.tmp 6] from rfl]
    simp (disch := first | omega | (simp only [add_nx, upd_nx] <;> omega) | decide) only [resA, ev_tmp, tget_ne, tget_eq, get_ne, get_eq, upd_eq, upd_ne, ag_eq, ag_ne, result1]
    exact hKr _ hk12
  | true =>
  have hb5g := ((hkg.trans hkg2).get hn5).trans hb5
  cases h30 : decide (m.hi = 30) with
  | false =>
    simp (disch := first | omega | (simp only [add_nx, upd_nx] <;> omega) | decide) only [rUz, ↓reduceIte, Nat.reduceEqDiff, Nat.reduceAdd, un_not, hrx, Bool.not_true, t5, hb5g, fieldAddr_ptr frO3 SrR, fieldAddr_ptr frR1 s3, p3, cOd4, h30, Bool.not_false]
    repeat refine S.seq ?_
    refine S.cond (v := true) (by first | rfl | (simp (disch := first | omega | (simp only [add_nx, upd_nx] <;> omega) | decide) only [rUz, ↓reduceIte, Nat.reduceEqDiff, Nat.reduceAdd] <;> rfl)) (fun _ => ?_) (fun e => by cases e)
    repeat refine S.seq ?_
    refine S.region ?_
    simp (disch := first | omega | (simp only [add_nx, upd_nx] <;> omega) | decide) only [rUz, ↓reduceIte, Nat.reduceEqDiff, Nat.reduceAdd]
    refine awake ?_
    simp (disch := first | omega | (simp only [add_nx, upd_nx] <;> omega) | decide) only [rUz, ↓reduceIte, Nat.reduceEqDiff, Nat.reduceAdd]
    refine S.ret ?_
    try simp only [seqK_ret, blockK_ret]
    subst hF
    simp only [finish, endMarks]
    rw [show Tryz.f9.results.toList = [.tmp 6] from rfl]
    simp (disch := first | omega | (simp only [add_nx, upd_nx] <;> omega) | decide) only [resA, ev_tmp, tget_ne, tget_eq, get_ne, get_eq, upd_eq, upd_ne, ag_eq, ag_ne, result1]
    exact hKr _ hk12
  | true =>
  simp (disch := first | omega | (simp only [add_nx, upd_nx] <;> omega) | decide) only [rUz, ↓reduceIte, Nat.reduceEqDiff, Nat.reduceAdd, un_not, hrx, Bool.not_true, t5, hb5g, fieldAddr_ptr frO3 SrR, fieldAddr_ptr frR1 s3, p3, cOd4, h30]
  repeat refine S.seq ?_
  refine S.cond (v := false) (by first | rfl | (simp (disch := first | omega | (simp only [add_nx, upd_nx] <;> omega) | decide) only [rUz, ↓reduceIte, Nat.reduceEqDiff, Nat.reduceAdd] <;> rfl)) (fun e => by cases e) (fun _ => ?_)
  repeat refine S.seq ?_
  refine S.skip ?_
  simp (disch := first | omega | (simp only [add_nx, upd_nx] <;> omega) | decide) only [rUz, ↓reduceIte, Nat.reduceEqDiff, Nat.reduceAdd]
  have hv : Val O := by
    unfold readyB at hre
    rw [Bool.and_eq_true] at hre
    exact val_iff.1 (of_decide_eq_true hre.2)
  have hvx : Val (O ++ [m]) := by
    unfold readyB at hrx
    rw [Bool.and_eq_true] at hrx
    exact val_iff.1 (of_decide_eq_true hrx.2)
  have h6 := hv.l6
  have h6x : O.length + 1 ≤ 6 := by have := hvx.l6; rw [List.length_append] at this; exact this
  have hxl : (O ++ [m]).length ≤ 9 := by rw [List.length_append]; show O.length + 1 ≤ 9; omega
  have hmo := hvx.ok m (by simp)
  have hm30 := of_decide_eq_true h30
  have hm1' := hmo.m1
  have hkg12 := hkg.trans hkg2
  replace hb3 := (hkg12.get hn3).trans hb3
  replace hb7 := (hkg12.get hn7).trans hb7
  replace hn3 := Nat.lt_of_lt_of_le hn3 hkg12.1
  replace hn7 := Nat.lt_of_lt_of_le hn7 hkg12.1
  replace hk1 := hk12
  replace hPx := hPx.mono hkg12
  clear hkg12 hkg hkg2 hk12 hb7g hb5g hb5 hn5 hre hrx h30
  clear h g
  repeat refine S.seq ?_
  refine S.region ?_
  simp (disch := first | omega | (simp only [add_nx, upd_nx] <;> omega) | decide) only [rUz, ↓reduceIte, Nat.reduceEqDiff, Nat.reduceAdd, t3, hb3, t1, part_0 pA (poV_len v)]
  refine wr_brings (fid := 35) (first := #[]) (captured := #[]) (Post := fun u h => ∃ t0, IS h u t0 ∧ truthB O t0 = true) rfl (hoff _ _ _ rfl) (by simp (disch := first | omega | (simp only [add_nx, upd_nx] <;> omega) | decide) only [rUz, ↓reduceIte, Nat.reduceEqDiff, Nat.reduceAdd]; exact picked_y S hoff g2 v O (hb.mono hk1) hv wv ws (hw.mono hk1) hwl) ?_
  rintro tv g3 hkg3 ⟨t0, ht, htr⟩
  have htru := tru_of hv htr
  have htl := htru.len
  replace hb3 := (hkg3.get hn3).trans hb3
  replace hb7 := (hkg3.get hn7).trans hb7
  replace hn3 := Nat.lt_of_lt_of_le hn3 hkg3.1
  replace hn7 := Nat.lt_of_lt_of_le hn7 hkg3.1
  replace hk1 := hk1.trans hkg3
  replace hPx := hPx.mono hkg3
  clear hkg3
  clear g2
  simp (disch := first | omega | (simp only [add_nx, upd_nx] <;> omega) | decide) only [rUz, ↓reduceIte, Nat.reduceEqDiff, Nat.reduceAdd]
  repeat refine S.seq ?_
  refine S.region ?_
  simp (disch := first | omega | (simp only [add_nx, upd_nx] <;> omega) | decide) only [rUz, ↓reduceIte, Nat.reduceEqDiff, Nat.reduceAdd, t3, hb3, part_0 pA (poV_len v)]
  refine wr_brings (fid := 13) (first := #[]) (captured := #[]) (Post := fun u h => ∃ v', u = .agg ⟨poV v'⟩ ∧ PoAt h v' O) rfl (hoff _ _ _ rfl) (by simp (disch := first | omega | (simp only [add_nx, upd_nx] <;> omega) | decide) only [rUz, ↓reduceIte, Nat.reduceEqDiff, Nat.reduceAdd]; exact postC_y S hoff g3 v O (hb.mono hk1) (by omega)) ?_
  rintro u g4 hkg4 ⟨v2, rfl, hp2⟩
  simp (disch := first | omega | (simp only [add_nx, upd_nx] <;> omega) | decide) only [rUz, ↓reduceIte, Nat.reduceEqDiff, Nat.reduceAdd]
  refine wr_brings (fid := 14) (first := #[]) (captured := #[]) (Post := fun u h => ∃ F, App g4.nx h 1 u (t0.map fun n => [iv n]) F) rfl (hoff _ _ _ rfl) (by simp (disch := first | omega | (simp only [add_nx, upd_nx] <;> omega) | decide) only [rUz, ↓reduceIte, Nat.reduceEqDiff, Nat.reduceAdd]; exact listA_y S g4 tv t0 (ht.mono hkg4) (by omega)) ?_
  rintro u5 g5 hkg5 ⟨F5, app5⟩
  simp (disch := first | omega | (simp only [add_nx, upd_nx] <;> omega) | decide) only [rUz, ↓reduceIte, Nat.reduceEqDiff, Nat.reduceAdd]
  refine wr_brings (fid := 12) (first := #[]) (captured := #[]) (Post := fun u h => PlayAt O t0 u h) rfl (hoff _ _ _ rfl) (by simp (disch := first | omega | (simp only [add_nx, upd_nx] <;> omega) | decide) only [rUz, ↓reduceIte, Nat.reduceEqDiff, Nat.reduceAdd]; exact play_y S hoff g5 v2 u5 O t0 (hp2.mono hkg5) (show IS g5 u5 t0 from app5.at).at (by omega)) ?_
  rintro u g6 hkg6 hpl
  have hfT : faultT O t0 = 0 := by rw [faultT, decide_eq_true (val_iff.2 hv), htr]; rfl
  obtain ⟨w1, rfl, hs1⟩ : ∃ w, u = .tuple ⟨[w, iv 0]⟩ ∧ SlAt g6 4 w ((playZ O t0).2.map cSa) := by
    rcases hpl with ⟨_, w, e, hs, _⟩ | ⟨hz, _⟩
    · exact ⟨w, e, hs⟩
    · exact absurd hfT hz
  clear hpl
  simp (disch := first | omega | (simp only [add_nx, upd_nx] <;> omega) | decide) only [rUz, ↓reduceIte, Nat.reduceEqDiff, Nat.reduceAdd, tq0, tq1]
  have hkg46 := (hkg4.trans hkg5).trans hkg6
  replace hb3 := (hkg46.get hn3).trans hb3
  replace hb7 := (hkg46.get hn7).trans hb7
  replace hn3 := Nat.lt_of_lt_of_le hn3 hkg46.1
  replace hn7 := Nat.lt_of_lt_of_le hn7 hkg46.1
  replace hk1 := hk1.trans hkg46
  replace hPx := hPx.mono hkg46
  replace ht := ht.mono hkg46
  clear hkg46 hkg4 hkg5 hkg6 hp2 app5 hfT
  clear g5 g4 g3
  repeat refine S.seq ?_
  refine S.region ?_
  simp (disch := first | omega | (simp only [add_nx, upd_nx] <;> omega) | decide) only [rUz, ↓reduceIte, Nat.reduceEqDiff, Nat.reduceAdd, t7, hb7, part_0 pA (poV_len w)]
  refine wr_brings (fid := 13) (first := #[]) (captured := #[]) (Post := fun u h => ∃ v', u = .agg ⟨poV v'⟩ ∧ PoAt h v' (O ++ [m])) rfl (hoff _ _ _ rfl) (by simp (disch := first | omega | (simp only [add_nx, upd_nx] <;> omega) | decide) only [rUz, ↓reduceIte, Nat.reduceEqDiff, Nat.reduceAdd]; exact postC_y S hoff g6 w (O ++ [m]) hPx hxl) ?_
  rintro u g7 hkg7 ⟨v3, rfl, hp3⟩
  simp (disch := first | omega | (simp only [add_nx, upd_nx] <;> omega) | decide) only [rUz, ↓reduceIte, Nat.reduceEqDiff, Nat.reduceAdd]
  refine wr_brings (fid := 14) (first := #[]) (captured := #[]) (Post := fun u h => ∃ F, App g7.nx h 1 u (t0.map fun n => [iv n]) F) rfl (hoff _ _ _ rfl) (by simp (disch := first | omega | (simp only [add_nx, upd_nx] <;> omega) | decide) only [rUz, ↓reduceIte, Nat.reduceEqDiff, Nat.reduceAdd]; exact listA_y S g7 tv t0 (ht.mono hkg7) (by omega)) ?_
  rintro u8 g8 hkg8 ⟨F8, app8⟩
  simp (disch := first | omega | (simp only [add_nx, upd_nx] <;> omega) | decide) only [rUz, ↓reduceIte, Nat.reduceEqDiff, Nat.reduceAdd, w_buildSlice]
  refine wr_lit1 slI s3' z3 rfl (by omega) (u := iv 30) (l := [iv 30]) (by simp (disch := first | omega | (simp only [add_nx, upd_nx] <;> omega) | decide) only [rUz, ↓reduceIte, Nat.reduceEqDiff, Nat.reduceAdd]) rfl rfl ?_
  simp (disch := first | omega | (simp only [add_nx, upd_nx] <;> omega) | decide) only [rUz, ↓reduceIte, Nat.reduceEqDiff, Nat.reduceAdd, w_append]
  refine wr_append (bx := g8.nx) (cx := 1) (v := u8) slI uI (by simp (disch := first | omega | (simp only [add_nx, upd_nx] <;> omega) | decide) only [rUz, ↓reduceIte, Nat.reduceEqDiff, Nat.reduceAdd]) (by simp (disch := first | omega | (simp only [add_nx, upd_nx] <;> omega) | decide) only [rUz, ↓reduceIte, Nat.reduceEqDiff, Nat.reduceAdd]) (app8.mono (Kp.refl.add (c := [iv 30]))) (by have := hkg8.1; show g7.nx ≤ g8.nx + 1; omega) s3' rfl (by omega) (ag_eq rfl) nI (by rw [List.length_map]; show _ < 1000000; omega) ?_
  intro u9 g9 F9 app9 sm9 x1 x2 x3
  clear x1 x2 x3
  have hkg79 : Kp g7 g9 := sm9.kp (Nat.le_refl _) (hkg8.trans (Kp.refl.add (c := [iv 30])))
  have hl9 : (t0.map fun n => [iv n]) ++ [[iv 30]] = (t0 ++ [30]).map fun n => [iv n] := by rw [List.map_append]; rfl
  rw [hl9] at app9
  simp (disch := first | omega | (simp only [add_nx, upd_nx] <;> omega) | decide) only [rUz, ↓reduceIte, Nat.reduceEqDiff, Nat.reduceAdd]
  refine wr_brings (fid := 12) (first := #[]) (captured := #[]) (Post := fun u h => PlayAt (O ++ [m]) (t0 ++ [30]) u h) rfl (hoff _ _ _ rfl) (by simp (disch := first | omega | (simp only [add_nx, upd_nx] <;> omega) | decide) only [rUz, ↓reduceIte, Nat.reduceEqDiff, Nat.reduceAdd]; exact play_y S hoff g9 v3 u9 (O ++ [m]) (t0 ++ [30]) (hp3.mono hkg79) (show IS g9 u9 (t0 ++ [30]) from app9.at).at hxl) ?_
  rintro u g10 hkg10 hpl
  have htx : truthB (O ++ [m]) (t0 ++ [30]) = true := tru_app htr (by omega) hm30
  have hfX : faultT (O ++ [m]) (t0 ++ [30]) = 0 := by rw [faultT, decide_eq_true (val_iff.2 hvx), htx]; rfl
  obtain ⟨w2, rfl, hs2⟩ : ∃ w, u = .tuple ⟨[w, iv 0]⟩ ∧ SlAt g10 4 w ((playZ (O ++ [m]) (t0 ++ [30])).2.map cSa) := by
    rcases hpl with ⟨_, w, e, hs, _⟩ | ⟨hz, _⟩
    · exact ⟨w, e, hs⟩
    · exact absurd hfX hz
  clear hpl
  simp (disch := first | omega | (simp only [add_nx, upd_nx] <;> omega) | decide) only [rUz, ↓reduceIte, Nat.reduceEqDiff, Nat.reduceAdd, tq0, tq1]
  have hkgX := (hkg7.trans hkg79).trans hkg10
  replace hb3 := (hkgX.get hn3).trans hb3
  replace hn3 := Nat.lt_of_lt_of_le hn3 hkgX.1
  replace hk1 := hk1.trans hkgX
  replace hs1 := SlAt.mono hs1 hkgX
  obtain ⟨E, hE, hE1, hE2⟩ := play_last (m := m) hv htru
  have h6s := sales_six hvx (tru_of hvx htx)
  rw [hE] at hs2 h6s
  clear hE hkgX hkg7 hkg8 hkg79 hkg10 hp3 app8 app9 sm9 hfX htx hb7 hn7 hPx ht

  generalize (playZ O t0).2 = L at hs1 hs2 h6s hE2
  obtain ⟨M, hM⟩ : ∃ M, M = L ++ E := ⟨_, rfl⟩
  rw [← hM] at hs2 h6s
  have hML : L.length ≤ M.length := by rw [hM, List.length_append]; omega
  have ls1 := fun t h1 o => row_len hs1 iscS t h1 o
  have ls2 := fun t h1 o => row_len hs2 iscS t h1 o
  have hlt : decide ((M.length : Int) < (L.length : Int)) = false := decide_eq_false (by omega)
  repeat refine S.seq ?_
  refine S.region ?_
  simp (disch := first | omega | (simp only [add_nx, upd_nx] <;> omega) | decide) only [rUz, ↓reduceIte, Nat.reduceEqDiff, Nat.reduceAdd, hdd, decide_true, Bool.not_true, ls1, ls2, hlt]
  repeat refine S.seq ?_
  refine S.cond (v := false) (by first | rfl | (simp (disch := first | omega | (simp only [add_nx, upd_nx] <;> omega) | decide) only [rUz, ↓reduceIte, Nat.reduceEqDiff, Nat.reduceAdd] <;> rfl)) (fun e => by cases e) (fun _ => ?_)
  repeat refine S.seq ?_
  refine S.skip ?_
  simp (disch := first | omega | (simp only [add_nx, upd_nx] <;> omega) | decide) only [rUz, ↓reduceIte, Nat.reduceEqDiff, Nat.reduceAdd]
  repeat refine S.seq ?_
  refine S.region ?_
  simp (disch := first | omega | (simp only [add_nx, upd_nx] <;> omega) | decide) only [rUz, ↓reduceIte, Nat.reduceEqDiff, Nat.reduceAdd]
  repeat refine S.seq ?_
  refine S.block ?_
  refine S.loop (ι := Nat) (ILa M g10 B3 w1 w2) (fun k => M.length - k) ?_ 0 _ _ ?_
  rotate_left
  · refine ⟨Kp.refl, ?_, ?_, ?_, ?_, Nat.zero_le _⟩
    all_goals (first | rfl | (simp (disch := first | omega | (simp only [add_nx, upd_nx] <;> omega) | decide) only [rUz, ↓reduceIte, Nat.reduceEqDiff, Nat.reduceAdd, t3]; done) | (simp (disch := first | omega | (simp only [add_nx, upd_nx] <;> omega) | decide) only [rUz, ↓reduceIte, Nat.reduceEqDiff, Nat.reduceAdd, t3]; rfl))
  clear t1 t3 t5 t7
  clear t
  intro k t h ⟨kp, t3, t9, t11, t13, hk⟩ K' hn he
  have hb3h := (kp.get hn3).trans hb3
  have hbh := hb.mono (hk1.trans kp)
  have s1h := SlAt.mono hs1 kp
  have s2h := SlAt.mono hs2 kp
  have lO := fun t h1 o => row_len hbh isrO t h1 o
  repeat refine S.seq ?_
  refine S.region ?_
  simp (disch := first | omega | (simp only [add_nx, upd_nx] <;> omega) | decide) only [rUz, ↓reduceIte, Nat.reduceEqDiff, Nat.reduceAdd, t11, t13, ls2]
  repeat refine S.seq ?_
  refine S.cond (v := decide ((k : Int) < (M.length : Int))) (by first | rfl | (simp (disch := first | omega | (simp only [add_nx, upd_nx] <;> omega) | decide) only [rUz, ↓reduceIte, Nat.reduceEqDiff, Nat.reduceAdd] <;> rfl)) (fun e => ?_) (fun e => ?_)
  · have hkn : k < M.length := by have := of_decide_eq_true e; omega
    clear e
    have hps : M[k]? = some M[k] := List.getElem?_eq_getElem hkn
    generalize M[k] = z at hps
    obtain ⟨b1, f1, o1, c1, r1, r2, r3, r4, r5, r6⟩ := row_idx s2h slcS scS hps
    have rp := part_at pcS r4 r5
    have c0 := r6 0 _ (cSa0 z)
    rw [Nat.add_zero] at c0
    have c1' := r6 1 _ (cSa1 z)
    rcases Nat.lt_or_ge k L.length with hkL | hkL
    · have hpl : L[k]? = some z := by rw [hM, List.getElem?_append_left hkL] at hps; exact hps
      obtain ⟨b2, f2, o2, c2', u1, u2, u3, u4, u5, _⟩ := row_idx s1h slcS scS hpl
      have up := part_at pcS u4 u5
      have hnz := hE2 z (List.mem_of_getElem? hpl)
      have d1 : decide (z.bu = (O.length : Int)) = false := decide_eq_false fun q => hnz (.inl q)
      have d2 : decide (z.se = (O.length : Int)) = false := decide_eq_false fun q => hnz (.inr q)
      have d3 : decide ((k : Int) < (L.length : Int)) = true := decide_eq_true (by omega)
      have d4 : decide ((L.length : Int) ≤ (k : Int)) = false := decide_eq_false (by omega)
      repeat refine S.seq ?_
      refine S.skip ?_
      simp (disch := first | omega | (simp only [add_nx, upd_nx] <;> omega) | decide) only [rUz, ↓reduceIte, Nat.reduceEqDiff, Nat.reduceAdd]
      repeat refine S.seq ?_
      refine S.block ?_
      repeat refine S.seq ?_
      refine S.drawnL [(false, 0), (false, 0), (false, 3), (false, 7), (false, 15), (false, 0), (false, 32), (false, 96), (false, 255), (false, 511), (false, 1023), (false, 1023), (false, 4095), (false, 8191), (false, 16383), (false, 1023), (false, 33791), (false, 99327), (false, 262143), (false, 524287), (false, 1048575)] (by kernel_rfl) (by kernel_rfl) (by kernel_rfl) ?_
      simp (disch := first | omega | (simp only [add_nx, upd_nx] <;> omega) | decide) only [rUz, ↓reduceIte, Nat.reduceEqDiff, Nat.reduceAdd, rDz, infoL, Nat.reduceSub, t3, t11, t13, hb3h, r1, r3, c0, c1', fieldAddr_ptr fcS0 s3, fieldAddr_ptr fcS1 s3, p3, fieldAddr_ptr fA0 lrO, qrO, po0, lO, d1, d2]
      repeat refine S.seq ?_
      refine S.drawnL [(false, 0), (false, 0), (false, 2), (false, 7), (false, 15), (false, 31), (false, 31), (false, 127), (false, 255), (false, 31), (false, 31), (false, 1567), (false, 3615), (false, 8191), (false, 16383), (false, 32767), (false, 65535), (false, 65535), (false, 65535), (false, 327679), (false, 983039), (false, 2097151), (false, 4194303)] (by kernel_rfl) (by kernel_rfl) (by kernel_rfl) ?_
      simp (disch := first | omega | (simp only [add_nx, upd_nx] <;> omega) | decide) only [rUz, ↓reduceIte, Nat.reduceEqDiff, Nat.reduceAdd, rDz, infoL, Nat.reduceSub, t9, t11, t13, ls1, d3, r1, r3, rp, u1, u3, up]
      refine drR_of' (v := .bool (!eqSa z z)) (bin_neInts kSaC gSaC rfl (eqInts_Sa z z) (plain_Sa z) (plain_Sa z) (by simp (disch := first | omega | (simp only [add_nx, upd_nx] <;> omega) | decide) only [rUz, ↓reduceIte, Nat.reduceEqDiff, Nat.reduceAdd, rDz, infoL, Nat.reduceSub]) (by simp (disch := first | omega | (simp only [add_nx, upd_nx] <;> omega) | decide) only [rUz, ↓reduceIte, Nat.reduceEqDiff, Nat.reduceAdd, rDz, infoL, Nat.reduceSub])) ?_
      rw [eqSa_refl]
      simp (disch := first | omega | (simp only [add_nx, upd_nx] <;> omega) | decide) only [rUz, ↓reduceIte, Nat.reduceEqDiff, Nat.reduceAdd, rDz, infoL, Nat.reduceSub, Bool.not_true, t9, t13, ls1, d4]
      refine drR_of' (v := .bool (false != false)) (neqB (i := 114) (j := 118) (by decide) (p := false) (q := false) (by simp (disch := first | omega | (simp only [add_nx, upd_nx] <;> omega) | decide) only [rUz, ↓reduceIte, Nat.reduceEqDiff, Nat.reduceAdd, rDz, infoL, Nat.reduceSub]) (by simp (disch := first | omega | (simp only [add_nx, upd_nx] <;> omega) | decide) only [rUz, ↓reduceIte, Nat.reduceEqDiff, Nat.reduceAdd, rDz, infoL, Nat.reduceSub]) (by kernel_rfl)) ?_
      have hff : (false != false) = false := rfl
      simp (disch := first | omega | (simp only [add_nx, upd_nx] <;> omega) | decide) only [rUz, ↓reduceIte, Nat.reduceEqDiff, Nat.reduceAdd, rDz, infoL, Nat.reduceSub, hff]
      repeat refine S.seq ?_
      refine S.cond (v := false) (by first | rfl | (simp (disch := first | omega | (simp only [add_nx, upd_nx] <;> omega) | decide) only [rUz, ↓reduceIte, Nat.reduceEqDiff, Nat.reduceAdd] <;> rfl)) (fun e => by cases e) (fun _ => ?_)
      repeat refine S.seq ?_
      refine S.skip ?_
      simp (disch := first | omega | (simp only [add_nx, upd_nx] <;> omega) | decide) only [rUz, ↓reduceIte, Nat.reduceEqDiff, Nat.reduceAdd]
      repeat refine S.seq ?_
      refine S.region ?_
      simp (disch := first | omega | (simp only [add_nx, upd_nx] <;> omega) | decide) only [rUz, ↓reduceIte, Nat.reduceEqDiff, Nat.reduceAdd, t13]
      refine hn (k + 1) _ _ (by omega) ⟨kp, ?_, ?_, ?_, ?_, by omega⟩
      all_goals (first | rfl | (simp (disch := first | omega | (simp only [add_nx, upd_nx] <;> omega) | decide) only [rUz, ↓reduceIte, Nat.reduceEqDiff, Nat.reduceAdd, t3, t9, t11]; done) | (simp (disch := first | omega | (simp only [add_nx, upd_nx] <;> omega) | decide) only [rUz, ↓reduceIte, Nat.reduceEqDiff, Nat.reduceAdd, t3, t9, t11]; rfl))
    · have hzE : z ∈ E := by
        rw [hM, List.getElem?_append_right hkL] at hps
        exact List.mem_of_getElem? hps
      have d3 : decide ((k : Int) < (L.length : Int)) = false := decide_eq_false (by omega)
      have d4 : decide ((L.length : Int) ≤ (k : Int)) = true := decide_eq_true (by omega)
      have htt : (true != true) = false := rfl
      by_cases q1 : z.bu = (O.length : Int)
      · have d1 : decide (z.bu = (O.length : Int)) = true := decide_eq_true q1
        repeat refine S.seq ?_
        refine S.skip ?_
        simp (disch := first | omega | (simp only [add_nx, upd_nx] <;> omega) | decide) only [rUz, ↓reduceIte, Nat.reduceEqDiff, Nat.reduceAdd]
        repeat refine S.seq ?_
        refine S.block ?_
        repeat refine S.seq ?_
        refine S.drawnL [(false, 0), (false, 0), (false, 3), (false, 7), (false, 15), (false, 0), (false, 32), (false, 96), (false, 255), (false, 511), (false, 1023), (false, 1023), (false, 4095), (false, 8191), (false, 16383), (false, 1023), (false, 33791), (false, 99327), (false, 262143), (false, 524287), (false, 1048575)] (by kernel_rfl) (by kernel_rfl) (by kernel_rfl) ?_
        simp (disch := first | omega | (simp only [add_nx, upd_nx] <;> omega) | decide) only [rUz, ↓reduceIte, Nat.reduceEqDiff, Nat.reduceAdd, rDz, infoL, Nat.reduceSub, t3, t11, t13, hb3h, r1, r3, c0, c1', fieldAddr_ptr fcS0 s3, fieldAddr_ptr fcS1 s3, p3, fieldAddr_ptr fA0 lrO, qrO, po0, lO, d1]
        repeat refine S.seq ?_
        refine S.drawnL [(false, 0), (false, 0), (false, 2), (false, 7), (false, 15), (false, 31), (false, 31), (false, 127), (false, 255), (false, 31), (false, 31), (false, 1567), (false, 3615), (false, 8191), (false, 16383), (false, 32767), (false, 65535), (false, 65535), (false, 65535), (false, 327679), (false, 983039), (false, 2097151), (false, 4194303)] (by kernel_rfl) (by kernel_rfl) (by kernel_rfl) ?_
        simp (disch := first | omega | (simp only [add_nx, upd_nx] <;> omega) | decide) only [rUz, ↓reduceIte, Nat.reduceEqDiff, Nat.reduceAdd, rDz, infoL, Nat.reduceSub, t9, t11, t13, ls1, d3, d4]
        refine drR_of' (v := .bool (true != true)) (neqB (i := 114) (j := 118) (by decide) (p := true) (q := true) (by simp (disch := first | omega | (simp only [add_nx, upd_nx] <;> omega) | decide) only [rUz, ↓reduceIte, Nat.reduceEqDiff, Nat.reduceAdd, rDz, infoL, Nat.reduceSub]) (by simp (disch := first | omega | (simp only [add_nx, upd_nx] <;> omega) | decide) only [rUz, ↓reduceIte, Nat.reduceEqDiff, Nat.reduceAdd, rDz, infoL, Nat.reduceSub]) (by kernel_rfl)) ?_
        simp (disch := first | omega | (simp only [add_nx, upd_nx] <;> omega) | decide) only [rUz, ↓reduceIte, Nat.reduceEqDiff, Nat.reduceAdd, rDz, infoL, Nat.reduceSub, htt]
        repeat refine S.seq ?_
        refine S.cond (v := false) (by first | rfl | (simp (disch := first | omega | (simp only [add_nx, upd_nx] <;> omega) | decide) only [rUz, ↓reduceIte, Nat.reduceEqDiff, Nat.reduceAdd] <;> rfl)) (fun e => by cases e) (fun _ => ?_)
        repeat refine S.seq ?_
        refine S.skip ?_
        simp (disch := first | omega | (simp only [add_nx, upd_nx] <;> omega) | decide) only [rUz, ↓reduceIte, Nat.reduceEqDiff, Nat.reduceAdd]
        repeat refine S.seq ?_
        refine S.region ?_
        simp (disch := first | omega | (simp only [add_nx, upd_nx] <;> omega) | decide) only [rUz, ↓reduceIte, Nat.reduceEqDiff, Nat.reduceAdd, t13]
        refine hn (k + 1) _ _ (by omega) ⟨kp, ?_, ?_, ?_, ?_, by omega⟩
        all_goals (first | rfl | (simp (disch := first | omega | (simp only [add_nx, upd_nx] <;> omega) | decide) only [rUz, ↓reduceIte, Nat.reduceEqDiff, Nat.reduceAdd, t3, t9, t11]; done) | (simp (disch := first | omega | (simp only [add_nx, upd_nx] <;> omega) | decide) only [rUz, ↓reduceIte, Nat.reduceEqDiff, Nat.reduceAdd, t3, t9, t11]; rfl))
      · have d1 : decide (z.bu = (O.length : Int)) = false := decide_eq_false q1
        have d2 : decide (z.se = (O.length : Int)) = true := decide_eq_true ((hE1 z hzE).resolve_left q1)
        repeat refine S.seq ?_
        refine S.skip ?_
        simp (disch := first | omega | (simp only [add_nx, upd_nx] <;> omega) | decide) only [rUz, ↓reduceIte, Nat.reduceEqDiff, Nat.reduceAdd]
        repeat refine S.seq ?_
        refine S.block ?_
        repeat refine S.seq ?_
        refine S.drawnL [(false, 0), (false, 0), (false, 3), (false, 7), (false, 15), (false, 0), (false, 32), (false, 96), (false, 255), (false, 511), (false, 1023), (false, 1023), (false, 4095), (false, 8191), (false, 16383), (false, 1023), (false, 33791), (false, 99327), (false, 262143), (false, 524287), (false, 1048575)] (by kernel_rfl) (by kernel_rfl) (by kernel_rfl) ?_
        simp (disch := first | omega | (simp only [add_nx, upd_nx] <;> omega) | decide) only [rUz, ↓reduceIte, Nat.reduceEqDiff, Nat.reduceAdd, rDz, infoL, Nat.reduceSub, t3, t11, t13, hb3h, r1, r3, c0, c1', fieldAddr_ptr fcS0 s3, fieldAddr_ptr fcS1 s3, p3, fieldAddr_ptr fA0 lrO, qrO, po0, lO, d1, d2]
        repeat refine S.seq ?_
        refine S.drawnL [(false, 0), (false, 0), (false, 2), (false, 7), (false, 15), (false, 31), (false, 31), (false, 127), (false, 255), (false, 31), (false, 31), (false, 1567), (false, 3615), (false, 8191), (false, 16383), (false, 32767), (false, 65535), (false, 65535), (false, 65535), (false, 327679), (false, 983039), (false, 2097151), (false, 4194303)] (by kernel_rfl) (by kernel_rfl) (by kernel_rfl) ?_
        simp (disch := first | omega | (simp only [add_nx, upd_nx] <;> omega) | decide) only [rUz, ↓reduceIte, Nat.reduceEqDiff, Nat.reduceAdd, rDz, infoL, Nat.reduceSub, t9, t11, t13, ls1, d3, d4]
        refine drR_of' (v := .bool (true != true)) (neqB (i := 114) (j := 118) (by decide) (p := true) (q := true) (by simp (disch := first | omega | (simp only [add_nx, upd_nx] <;> omega) | decide) only [rUz, ↓reduceIte, Nat.reduceEqDiff, Nat.reduceAdd, rDz, infoL, Nat.reduceSub]) (by simp (disch := first | omega | (simp only [add_nx, upd_nx] <;> omega) | decide) only [rUz, ↓reduceIte, Nat.reduceEqDiff, Nat.reduceAdd, rDz, infoL, Nat.reduceSub]) (by kernel_rfl)) ?_
        simp (disch := first | omega | (simp only [add_nx, upd_nx] <;> omega) | decide) only [rUz, ↓reduceIte, Nat.reduceEqDiff, Nat.reduceAdd, rDz, infoL, Nat.reduceSub, htt]
        repeat refine S.seq ?_
        refine S.cond (v := false) (by first | rfl | (simp (disch := first | omega | (simp only [add_nx, upd_nx] <;> omega) | decide) only [rUz, ↓reduceIte, Nat.reduceEqDiff, Nat.reduceAdd] <;> rfl)) (fun e => by cases e) (fun _ => ?_)
        repeat refine S.seq ?_
        refine S.skip ?_
        simp (disch := first | omega | (simp only [add_nx, upd_nx] <;> omega) | decide) only [rUz, ↓reduceIte, Nat.reduceEqDiff, Nat.reduceAdd]
        repeat refine S.seq ?_
        refine S.region ?_
        simp (disch := first | omega | (simp only [add_nx, upd_nx] <;> omega) | decide) only [rUz, ↓reduceIte, Nat.reduceEqDiff, Nat.reduceAdd, t13]
        refine hn (k + 1) _ _ (by omega) ⟨kp, ?_, ?_, ?_, ?_, by omega⟩
        all_goals (first | rfl | (simp (disch := first | omega | (simp only [add_nx, upd_nx] <;> omega) | decide) only [rUz, ↓reduceIte, Nat.reduceEqDiff, Nat.reduceAdd, t3, t9, t11]; done) | (simp (disch := first | omega | (simp only [add_nx, upd_nx] <;> omega) | decide) only [rUz, ↓reduceIte, Nat.reduceEqDiff, Nat.reduceAdd, t3, t9, t11]; rfl))
  refine S.exit (he _ _ _ _ (fun e => by cases e) ?_)
  simp (disch := first | omega | (simp only [add_nx, upd_nx] <;> omega) | decide) only [rUz, ↓reduceIte, Nat.reduceEqDiff, Nat.reduceAdd]
  repeat refine S.seq ?_
  refine S.region ?_
  simp (disch := first | omega | (simp only [add_nx, upd_nx] <;> omega) | decide) only [rUz, ↓reduceIte, Nat.reduceEqDiff, Nat.reduceAdd]
  refine awake ?_
  simp (disch := first | omega | (simp only [add_nx, upd_nx] <;> omega) | decide) only [rUz, ↓reduceIte, Nat.reduceEqDiff, Nat.reduceAdd]
  refine S.ret ?_
  try simp only [seqK_ret, blockK_ret]
  subst hF
  simp only [finish, endMarks]
  rw [show Tryz.f9.results.toList = [.tmp 6] from rfl]
  simp (disch := first | omega | (simp only [add_nx, upd_nx] <;> omega) | decide) only [resA, ev_tmp, tget_ne, tget_eq, get_ne, get_eq, upd_eq, upd_ne, ag_eq, ag_ne, result1]
  exact hKr _ (hk1.trans kp)
end Go.Proofs.Po
