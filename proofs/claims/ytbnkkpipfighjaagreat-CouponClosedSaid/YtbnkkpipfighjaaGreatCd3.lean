import Derived.Test.YtbnkkpipfighjaaGreatCd2
import Derived.Test.YtbnkkpipfighjaaGreatCt7
namespace Go.Proofs.Cp
open Go Go.Ev Go.RowKit
set_option linter.unusedSimpArgs false
theorem holdB_get {c : Co} (hv : Val c) (ex day : Int) (i : Nat) : ∀ (tr : List Tr) (a b l : List Int), (∀ x, x ∈ tr → Tok c.hs x) → l.length = 4 → a.length = tr.length → b.length = tr.length → (holdG c day (belQ ex) tr (datesL c a b) l).getD i 0 = rgtG c ex day i tr a (l.getD i 0)
 | [], _, _, _, _, _, _, _ => by rw [holdG_nil, rgtG_nil]
 | x :: r, [], _, _, _, _, h, _ => by simp at h
 | x :: r, s :: a, [], _, _, _, _, h => by simp at h
 | x :: r, s :: a, e :: b, l, ht, hl, ha, hb => by
  show (holdG c day (belQ ex) r (datesL c a b) (bif decide (s < ex) then aftL l x (facU c x.sh s day) else l)).getD i 0 = rgtG c ex day i r a (rgtT c ex day i x s (l.getD i 0))
  unfold rgtT
  cases decide (s < ex) with
  | true =>
   simp only [cond_true]
   rw [holdB_get hv ex day i r a b _ (fun y hy => ht y (by simp [hy])) (by rw [aftL_len]; exact hl) (by simpa using ha) (by simpa using hb), aftL_get hl (ht x (by simp)) hv.h4, units_eq hv]
  | false =>
   simp only [cond_false]
   exact holdB_get hv ex day i r a b _ (fun y hy => ht y (by simp [hy])) hl (by simpa using ha) (by simpa using hb)
theorem rgt_eq {c : Co} (hv : Val c) {a b : List Int} (la : a.length = c.tr.length) (lb : b.length = c.tr.length) (d : T3) : rgtP c (datesL c a b) d = rgtL c a d := by
 have hl := hv.held
 have h4 := hv.h4
 have e1 : (rgtP c (datesL c a b) d).length = c.held.length := by unfold rgtP; rw [muls_len, List.length_take, holdP_len]; omega
 have e2 : (rgtL c a d).length = c.held.length := rgtFrom_len ..
 refine List.ext_getElem? fun i => ?_
 by_cases hi : i < c.held.length
 ·have g1 : (rgtP c (datesL c a b) d)[i]? = some ((rgtP c (datesL c a b) d).getD i 0) := by rw [List.getD_eq_getElem?_getD, List.getElem?_eq_getElem (by omega)]; rfl
  have g2 : (rgtP c (datesL c a b) d).getD i 0 = d.2.2 * (holdP c (datesL c a b) d.2.1 (belQ d.1)).getD i 0 := by
   unfold rgtP
   rw [muls_get, List.getD_eq_getElem?_getD, List.getElem?_take_of_lt hi, ← List.getD_eq_getElem?_getD]
  rw [g1, g2]
  unfold holdP
  rw [holdB_get hv _ _ i c.tr a b _ (toks hv) (hold0_len _ _ _) la lb, hold0_get c _ i _ (by omega), if_pos hi]
  unfold rgtL
  rw [rgtFrom_get, List.getElem?_eq_getElem hi, Nat.zero_add]
  unfold rgtH
  rw [Option.map_some, units_eq hv, List.getD_eq_getElem?_getD, List.getElem?_eq_getElem hi]; rfl
 ·rw [List.getElem?_eq_none (by omega), List.getElem?_eq_none (by omega)]
variable {pr : Prim} {R : ExT}
end Go.Proofs.Cp
namespace Go.Proofs.Cp
open Go Go.Ev Go.RowKit
set_option linter.unusedSimpArgs false
def begC (held : List Int) : Co := ⟨(held.length : Int), held, [], [], [], []⟩
def begB (held : List Int) : Bool := decide ((held.length : Int) ≤ 7) && decide (faultZ (begC held) = 0)
theorem wf_u8' {n : Int} (h : (Lit.int .u8 n).wf = true) : 0 ≤ n ∧ n ≤ 255 := by
 simp only [Lit.wf, Bool.and_eq_true, decide_eq_true_eq] at h; exact h
theorem thin_beg {held : List Int} (h7 : (held.length : Int) ≤ 7) : thinB (begC held) [] [] = true := by
 unfold thinB
 show (decide ((held.length : Int) ≤ 7) && true) = true
 rw [decide_eq_true h7]; rfl
theorem bBg (hs : Int) (q : Option Addr) (n c : Nat) : rBuild Tryz.prog 34 [(0, iv hs), (1, .slice q n c)] = some (.agg ⟨coV hs ⟨.slice q n c, nl, nl, nl, nl⟩⟩) := by kernel_rfl
theorem SlAt.sl {h : AHeap} {sz : Nat} {v : Value} {cs : List (List Value)} (k : SlAt h sz v cs) : ∃ q n c, v = .slice q n c := by
 rcases k with ⟨_, rfl | rfl⟩ | ⟨b, w, f, cells, _, rfl, _⟩ <;> exact ⟨_, _, _, rfl⟩
theorem beg_at {h : AHeap} {hv : Value} {held : List Int} (hh : SlAt h 1 hv (held.map fun n => [iv n])) : CoAt h ⟨hv, nl, nl, nl, nl⟩ (begC held) := ⟨SlAt.ints hh, .inl ⟨rfl, .inl rfl⟩, .inl ⟨rfl, .inl rfl⟩, .inl ⟨rfl, .inl rfl⟩, .inl ⟨rfl, .inl rfl⟩⟩
theorem beg_of {held : List Int} (h : begB held = true) : 1 ≤ held.length ∧ held.length ≤ 4 ∧ ∀ n, n ∈ held → 0 ≤ n ∧ n ≤ 100 := by
 unfold begB at h
 rw [Bool.and_eq_true, decide_eq_true_eq, decide_eq_true_eq] at h
 have hv := Val.of_fault h.2
 have h1 := hv.h1
 have h4 := hv.h4
 exact ⟨by have : (1 : Int) ≤ (held.length : Int) := h1; omega, by have : (held.length : Int) ≤ 4 := h4; omega, hv.hok⟩
theorem thin0 {c : Co} (h : faultZ c = 0) (hd : c.dv.length ≤ 7) : thinB c [] [] = true := by
 have hv := Val.of_fault h
 have h1 := hv.h4
 have h2 := hv.held
 have h3 := hv.tl
 have h4 := hv.sl
 have h5 := hv.cll
 unfold thinB
 simp only [Bool.and_eq_true, decide_eq_true_eq, List.length_nil]
 omega
theorem many0 {c : Co} (h : faultZ c = 0) : c.dv.length ≤ 3 := by
 unfold faultZ at h
 cases hm : manyZ c with
 | true => rw [hm, cond_true] at h; omega
 | false =>
  unfold manyZ at hm
  simp only [Bool.or_eq_false_iff, decide_eq_false_iff_not] at hm
  omega
def clo (c : Co) (r : R2) : Co := ⟨c.hs, c.held, c.tr, c.dv, c.sp, [r]⟩
theorem fault_clo {c : Co} (h : faultZ c = 0) {r : R2} (hr : daysB r = true) : faultZ (clo c r) = 0 := by
 unfold faultZ at h ⊢
 cases hm : manyZ c with
 | true => rw [hm, cond_true] at h; omega
 | false =>
  rw [hm, cond_false] at h
  have hm' : manyZ (clo c r) = false := by
   unfold manyZ at hm ⊢
   simp only [Bool.or_eq_false_iff, decide_eq_false_iff_not] at hm ⊢
   refine ⟨hm.1, hm.2.1, hm.2.2.1, hm.2.2.2.1, ?_⟩
   show ¬ (2 < (([r] : List R2).length : Int))
   rw [List.length_singleton]; omega
  rw [hm', cond_false]
  show (bif decide (c.hs < 1) || !decide ((c.held.length : Int) = c.hs) then 1 else bif restZ (clo c r) then 0 else 1) = 0
  cases hq : (decide (c.hs < 1) || !decide ((c.held.length : Int) = c.hs)) with
  | true => rw [hq, cond_true] at h; omega
  | false =>
   rw [hq, cond_false] at h
   rw [cond_false]
   cases hz : restZ c with
   | false => rw [hz, cond_false] at h; omega
   | true =>
    unfold restZ at hz
    simp only [Bool.and_eq_true] at hz
    have : restZ (clo c r) = true := by
     unfold restZ
     show (c.held.all (fun n => inB n 0 100) && (c.tr.all (okTr c.hs) && (c.dv.all okDv && (spOrd (-1) c.sp && (daysB r && true))))) = true
     rw [hz.1, hz.2.1, hz.2.2.1, hz.2.2.2.1, hr]; rfl
    rw [this, cond_true]
theorem rgtG_clo (c : Co) (r : R2) (ex day h : Int) : ∀ (tr : List Tr) (a : List Int) (n : Int), rgtG (clo c r) ex day h tr a n = rgtG c ex day h tr a n
 | [], _, _ => by rw [rgtG_nil, rgtG_nil]
 | _ :: _, [], _ => by unfold rgtG; rfl
 | x :: tr, s :: a, n => by
  rw [rgtG, rgtG, rgtG_clo c r ex day h tr a]; rfl
theorem rgtFrom_clo (c : Co) (r : R2) (a : List Int) (d : T3) : ∀ (l : List Int) (k : Nat), rgtFrom (clo c r) a d l k = rgtFrom c a d l k
 | [], _ => rfl
 | sh :: l, k => by
  rw [rgtFrom, rgtFrom, rgtFrom_clo c r a d l]
  unfold rgtH
  rw [rgtG_clo]; rfl
theorem rgtL_clo (c : Co) (r : R2) (a : List Int) (d : T3) : rgtL (clo c r) a d = rgtL c a d := rgtFrom_clo c r a d c.held 0
theorem asked_of {c : Co} {a b : List Int} (h : faultZ c = 0) (ht : truthB c a b = true) : askedZ c a b = 0 := by
 unfold askedZ
 have hd : datedB c a b = true := by
  have hx := ht
  unfold truthB at hx
  rw [Bool.and_eq_true] at hx
  exact hx.1
 rw [if_pos h, hd, cond_true, ht, cond_true]
theorem tell_of {c : Co} {a b : List Int} (h : faultZ c = 0) (ht : truthB c a b = true) {i : Int} (h0 : 0 ≤ i) (h1 : i < (c.dv.length : Int)) : tellZ c a b i = 0 := by
 unfold tellZ
 rw [if_pos (asked_of h ht), inB_iff.2 ⟨h0, by omega⟩]; rfl
variable {pr : Prim} {R : ExT}
theorem begun_y (S : Ev.Steps Tryz.prog pr R) (hoff : Off pr) (h0 : AHeap) (hv : Value) (held : List Int) (hh : SlAt h0 1 hv (held.map fun n => [iv n])) :
  Brings Tryz.prog R 6 [hv] h0 fun u _ => u = .bool (begB held) := by
 refine brings_of (fn := Tryz.f6) (c := (Tryz.f6.body).getD .skip) (by kernel_rfl) rfl (by kernel_rfl) rfl (fun K hK => ?_)
 generalize hF : finish Tryz.prog Tryz.f6 K = KF
 simp only [Tryz.f6, Option.getD_some, argsT, setArgs, fV1_eq, T.setK_eq, id]
 have lh : ∀ (t : T Value) (h1 : AHeap) (o : Oper), rLen Tryz.prog t h1 o 22 hv = some (iv (held.length : Int)) := iv_len (SlAt.ints hh)
 obtain ⟨q, n, cp, rfl⟩ := SlAt.sl hh
 repeat refine S.seq ?_
 refine S.region ?_
 simp (disch := first | omega | decide) only [rUz]
 by_cases h7 : (held.length : Int) ≤ 7
 rotate_left
 ·repeat refine S.seq ?_
  refine S.region ?_
  simp (disch := first | omega | decide) only [rUz, lh, decide_eq_false h7]
  refine S.ret ?_
  try simp only [seqK_ret, blockK_ret]
  subst hF
  simp only [finish, endMarks]
  rw [show Tryz.f6.results.toList = [.tmp 2] from rfl]
  simp (disch := first | omega | decide) only [resA, ev_tmp, tget_ne, tget_eq, get_ne, get_eq, upd_eq, upd_ne, ag_eq, ag_ne, result1]
  refine hK _ _ Kp.refl ?_
  show Value.bool false = _
  unfold begB
  rw [decide_eq_false h7]; rfl
 ·repeat refine S.seq ?_
  refine S.region ?_
  simp (disch := first | omega | decide) only [rUz, lh, decide_eq_true h7, rd_build, List.map_cons, List.map_nil, bBg]
  refine wr_brings (fid := 22) (first := #[]) (captured := #[]) (Post := fun u _ => u = iv (faultZ (begC held))) rfl (hoff _ _ _ rfl) (by simp (disch := first | omega | decide) only [rUz]; exact faultw_y S hoff _ ⟨.slice q n cp, nl, nl, nl, nl⟩ (begC held) (beg_at hh) (thin_beg h7)) ?_
  rintro u g hk rfl
  simp (disch := first | omega | decide) only [rUz]
  refine S.ret ?_
  try simp only [seqK_ret, blockK_ret]
  subst hF
  simp only [finish, endMarks]
  rw [show Tryz.f6.results.toList = [.tmp 2] from rfl]
  simp (disch := first | omega | decide) only [resA, ev_tmp, tget_ne, tget_eq, get_ne, get_eq, upd_eq, upd_ne, ag_eq, ag_ne, result1]
  refine hK _ _ hk ?_
  unfold begB
  rw [decide_eq_true h7]; rfl
set_option maxHeartbeats 16000000 in
theorem closed_law (S : Ev.Steps Tryz.prog pr R) (hT : Tab pr) (h0 : AHeap) (hv : Value) (held : List Int) (hh : SlAt h0 1 hv (held.map fun n => [iv n])) (wv : Value) (ws : List Int) (hw : WdAt h0 wv ws) (hwl : (ws.length : Int) < 9223372036854775808) (m : Int) (hm : (Lit.int .u8 m).wf = true) (w : Int) (hw8 : (Lit.int .u8 w).wf = true) (more : R2) :
  Brings Tryz.prog R 3 [hv, wv, .int .u8 m, .int .u8 w, .agg ⟨c2 more⟩] h0 fun u _ => u = .bool true := by
 have hoff := hT.off
 have hm' := wf_u8' hm
 have hw' := wf_u8' hw8
 refine brings_of (fn := Tryz.f3) (c := (Tryz.f3.body).getD .skip) (by kernel_rfl) rfl (by kernel_rfl) rfl (fun K hK => ?_)
 generalize hF : finish Tryz.prog Tryz.f3 K = KF
 simp only [Tryz.f3, Option.getD_some, argsT, setArgs, fV1_eq, T.setK_eq, id]
 have hKr : ∀ g, Kp h0 g → K (.bool true) g = true := fun g hk => hK _ _ hk rfl
 clear hK
 have awake : ∀ {ops : Array Oper} {n : Nat} {rest : List Oper} {t : T Value} {h : AHeap} {KR : T Value → AHeap → Bool} {dst : Option Tmp}, putR Tryz.prog (withPrim pr (callVal Tryz.prog R)) ops n rest dst t (.bool true) h KR = true →
   wrR Tryz.prog (withPrim pr (callVal Tryz.prog R)) ops n rest (.call ⟨.value (.func 8), #[], #[]⟩) dst t h KR = true := fun k => wr_prim (fid := 8) (first := #[]) (captured := #[]) (v := .bool true) rfl (hT.awake _) k
 repeat refine S.seq ?_
 refine S.region ?_
 simp (disch := first | omega | decide) only [rUz]
 obtain ⟨B9, hB9⟩ : ∃ x, x = h0.nx := ⟨_, rfl⟩
 have hb9 : (h0.add (c2 more)).bl.get B9 = some (.cells (c2 more) B9 false) := by subst hB9; exact ag_eq rfl
 have hn9 : B9 < (h0.add (c2 more)).nx := by show B9 < h0.nx + 1; omega
 have hk1 : Kp h0 (h0.add (c2 more)) := Kp.refl.add
 rw [← hB9]
 clear hB9
 generalize h0.add (c2 more) = H at hb9 hn9 hk1 ⊢
 repeat refine S.seq ?_
 refine S.region ?_
 simp (disch := first | omega | decide) only [rUz]
 refine wr_brings (fid := 6) (first := #[]) (captured := #[]) (Post := fun u _ => u = .bool (begB held)) rfl (hoff _ _ _ rfl) (by simp (disch := first | omega | decide) only [rUz]; exact begun_y S hoff H hv held (SlAt.mono hh hk1)) ?_
 rintro u g hkg rfl
 have hb9g := (hkg.get hn9).trans hb9
 simp (disch := first | omega | decide) only [rUz, un_not]
 cases hbg : begB held with
 | false =>
  simp (disch := first | omega | decide) only [rUz, hbg, Bool.not_false]
  repeat refine S.seq ?_
  refine S.cond (v := true) rfl (fun _ => ?_) (fun e => by cases e)
  repeat refine S.seq ?_
  refine S.region ?_
  simp (disch := first | omega | decide) only [rUz]
  refine awake ?_
  simp (disch := first | omega | decide) only [rUz]
  refine S.ret ?_
  try simp only [seqK_ret, blockK_ret]
  subst hF
  simp only [finish, endMarks]
  rw [show Tryz.f3.results.toList = [.tmp 10] from rfl]
  simp (disch := first | omega | decide) only [resA, ev_tmp, tget_ne, tget_eq, get_ne, get_eq, upd_eq, upd_ne, ag_eq, ag_ne, result1]
  exact hKr _ (hk1.trans hkg)
 | true =>
 simp (disch := first | omega | decide) only [rUz, hbg, Bool.not_true, hb9g, part_0 prR (c2_len more)]
 refine wr_brings (fid := 7) (first := #[]) (captured := #[]) (Post := fun u _ => u = .bool (daysB more)) rfl (hoff _ _ _ rfl) (by simp (disch := first | omega | decide) only [rUz]; exact days_y S hoff g more) ?_
 rintro u g1 hk2 rfl
 simp (disch := first | omega | decide) only [rUz, un_not]
 cases hdm : daysB more with
 | false =>
  simp (disch := first | omega | decide) only [rUz, hdm, Bool.not_false]
  repeat refine S.seq ?_
  refine S.cond (v := true) rfl (fun _ => ?_) (fun e => by cases e)
  repeat refine S.seq ?_
  refine S.region ?_
  simp (disch := first | omega | decide) only [rUz]
  refine awake ?_
  simp (disch := first | omega | decide) only [rUz]
  refine S.ret ?_
  try simp only [seqK_ret, blockK_ret]
  subst hF
  simp only [finish, endMarks]
  rw [show Tryz.f3.results.toList = [.tmp 10] from rfl]
  simp (disch := first | omega | decide) only [resA, ev_tmp, tget_ne, tget_eq, get_ne, get_eq, upd_eq, upd_ne, ag_eq, ag_ne, result1]
  exact hKr _ (hk1.trans (hkg.trans hk2))
 | true =>
 simp (disch := first | omega | decide) only [rUz, hdm, Bool.not_true]
 repeat refine S.seq ?_
 refine S.cond (v := false) rfl (fun e => by cases e) (fun _ => ?_)
 repeat refine S.seq ?_
 refine S.skip ?_
 simp (disch := first | omega | decide) only [rUz]
 obtain ⟨hl1, hl4, hok⟩ := beg_of hbg
 repeat refine S.seq ?_
 refine S.region ?_
 simp (disch := first | omega | decide) only [rUz]
 have hkA := hk1.trans (hkg.trans hk2)
 refine wr_brings (fid := 9) (first := #[]) (captured := #[]) (Post := fun u h => DealtP h held u) rfl (hoff _ _ _ rfl) (by simp (disch := first | omega | decide) only [rUz]; exact dealt_y S hoff g1 hv held (SlAt.mono hh hkA) hl1 hl4 hok wv ws (hw.mono hkA) hwl m ⟨hm'.1, by omega⟩) ?_
 rintro u g2 hk3 ⟨v, c, ua, ub, a, b, rfl, hc, hsh, hsa, hsb, hz, htr, hce, hdv⟩
 subst hce
 have hd3 := many0 hz
 have hth := thin0 hz (by omega)
 have hval := Val.of_fault hz
 have hdn : 0 < (c.dv.length : Int) := by
  have : c.dv.length ≠ 0 := fun e => hdv (List.eq_nil_of_length_eq_zero e)
  omega
 have hdt : datedB c a b = true := by
  have hx := htr
  unfold truthB at hx
  rw [Bool.and_eq_true] at hx
  exact hx.1
 have hl : a.length = c.tr.length ∧ b.length = c.tr.length := by
  have hx := hdt
  rw [datedB, Bool.and_eq_true] at hx
  exact lens_iff.1 hx.1
 have htl := hval.tl
 have hkB := hkA.trans hk3
 have hb9B := (((hkg.trans hk2).trans hk3).get hn9).trans hb9
 have hn9B : B9 < g2.nx := Nat.lt_of_lt_of_le hn9 ((hkg.trans hk2).trans hk3).1
 clear hkA hk3 hk2 hkg hk1 hb9 hn9 hb9g
 simp (disch := first | omega | decide) only [rUz, tup0, tup1, wr_alloc zA, wr_alloc zrU]
 obtain ⟨B11, hB11⟩ : ∃ x, x = g2.nx := ⟨_, rfl⟩
 obtain ⟨B12, hB12⟩ : ∃ x, x = g2.nx + 1 := ⟨_, rfl⟩
 have hb11 : ((g2.add [iv 0, nl, nl, nl, nl, nl]).add [nl, nl]).bl.get B11 = some (.cells [iv 0, nl, nl, nl, nl, nl] B11 false) := by simp (disch := first | omega | (simp only [nZ] <;> omega) | decide) only [ag_ne]; subst hB11; exact ag_eq rfl
 have hf11 : ((g2.add [iv 0, nl, nl, nl, nl, nl]).add [nl, nl]).fams.get B11 = some [B11] := by simp (disch := first | omega | (simp only [nZ] <;> omega) | decide) only [af_ne]; subst hB11; exact af_eq rfl
 have hb12 : ((g2.add [iv 0, nl, nl, nl, nl, nl]).add [nl, nl]).bl.get B12 = some (.cells [nl, nl] B12 false) := by subst hB12; exact ag_eq rfl
 have hf12 : ((g2.add [iv 0, nl, nl, nl, nl, nl]).add [nl, nl]).fams.get B12 = some [B12] := by subst hB12; exact af_eq rfl
 have hkC : Kp g2 ((g2.add [iv 0, nl, nl, nl, nl, nl]).add [nl, nl]) := Kp.refl.add.add
 have hn12 : B12 < ((g2.add [iv 0, nl, nl, nl, nl, nl]).add [nl, nl]).nx := by show B12 < g2.nx + 2; omega
 have o11 : g2.nx ≤ B11 := by omega
 have l112 : B11 < B12 := by omega
 rw [← hB12, ← hB11]
 clear hB11 hB12
 generalize (g2.add [iv 0, nl, nl, nl, nl, nl]).add [nl, nl] = G0 at hb11 hf11 hb12 hf12 hkC hn12 ⊢
 refine wr_storeN (B := B11) (c := [iv 0, nl, nl, nl, nl, nl]) (fam := B11) (k := B11) (l := coV c.hs v) (by simp (disch := first | omega | decide) only [rUz]) (by simp (disch := first | omega | decide) only [rUz]) sA (by omega) rfl hb11 hf11 rfl ?_
 have hb12' : (G0.upd B11 (coV c.hs v) B11).bl.get B12 = some (.cells [nl, nl] B12 false) := by rw [upd_ne _ _ _ (by omega)]; exact hb12
 have hf12' : (G0.upd B11 (coV c.hs v) B11).fams.get B12 = some [B12] := by rw [upd_fams]; exact hf12
 simp (disch := first | omega | decide) only [rUz]
 refine wr_storeN (B := B12) (c := [nl, nl]) (fam := B12) (k := B12) (l := [ua, ub]) (by simp (disch := first | omega | decide) only [rUz]) (by simp (disch := first | omega | decide) only [rUz]) srU (by omega) rfl hb12' hf12' rfl ?_
 have hb11X : ((G0.upd B11 (coV c.hs v) B11).upd B12 [ua, ub] B12).bl.get B11 = some (.cells (coV c.hs v) B11 false) := by rw [upd_ne _ _ _ (by omega)]; exact upd_eq _ _ _
 have hb12X : ((G0.upd B11 (coV c.hs v) B11).upd B12 [ua, ub] B12).bl.get B12 = some (.cells [ua, ub] B12 false) := upd_eq _ _ _
 have hkX : Kp g2 ((G0.upd B11 (coV c.hs v) B11).upd B12 [ua, ub] B12) := (hkC.upd o11).upd (by omega)
 have hnX : B12 < ((G0.upd B11 (coV c.hs v) B11).upd B12 [ua, ub] B12).nx := hn12
 simp (disch := first | omega | decide) only [rUz]
 generalize (G0.upd B11 (coV c.hs v) B11).upd B12 [ua, ub] B12 = H3 at hb11X hb12X hkX hnX ⊢
 clear hb11 hf11 hb12 hf12 hkC hn12 hb12' hf12'
 clear G0
 repeat refine S.seq ?_
 refine S.region ?_
 simp (disch := first | omega | decide) only [rUz, hb11X, part_0 pA (coV_len c.hs v), wr_alloc zA]
 obtain ⟨B13, hB13⟩ : ∃ x, x = H3.nx := ⟨_, rfl⟩
 refine wr_storeN (B := H3.nx) (c := [iv 0, nl, nl, nl, nl, nl]) (fam := H3.nx) (k := H3.nx) (l := coV c.hs v) (by simp (disch := first | omega | decide) only [rUz]) (by simp (disch := first | omega | decide) only [rUz]) sA (by omega) rfl (ag_eq rfl) (af_eq rfl) rfl ?_
 have hb13 : ((H3.add [iv 0, nl, nl, nl, nl, nl]).upd H3.nx (coV c.hs v) H3.nx).bl.get B13 = some (.cells (coV c.hs v) B13 false) := by subst hB13; exact upd_eq _ _ _
 have hf13 : ((H3.add [iv 0, nl, nl, nl, nl, nl]).upd H3.nx (coV c.hs v) H3.nx).fams.get B13 = some [B13] := by subst hB13; rw [upd_fams]; exact af_eq rfl
 have hkY : Kp H3 ((H3.add [iv 0, nl, nl, nl, nl, nl]).upd H3.nx (coV c.hs v) H3.nx) := Kp.refl.add.upd (Nat.le_refl _)
 have hn13 : B13 < ((H3.add [iv 0, nl, nl, nl, nl, nl]).upd H3.nx (coV c.hs v) H3.nx).nx := by show B13 < H3.nx + 1; omega
 simp (disch := first | omega | decide) only [rUz]
 rw [← hB13]
 rw [← hB13] at hb13 hf13 hkY hn13
 have o13 : H3.nx ≤ B13 := by omega
 clear hB13
 generalize (H3.add [iv 0, nl, nl, nl, nl, nl]).upd B13 (coV c.hs v) B13 = H4 at hb13 hf13 hkY hn13 ⊢
 have hb9C := ((hkX.trans hkY).get hn9B).trans hb9B
 repeat refine S.seq ?_
 refine S.region ?_
 simp (disch := first | omega | decide) only [rUz, hb9C, part_0 prR (c2_len more), w_buildSlice]
 refine wr_lit1 slrR srR zrR rfl (by omega) (u := .agg ⟨c2 more⟩) (l := c2 more) (by simp (disch := first | omega | decide) only [rUz]) rfl rfl ?_
 obtain ⟨BQ, hBQ⟩ : ∃ x, x = H4.nx := ⟨_, rfl⟩
 have hbQ : (H4.add (c2 more)).bl.get BQ = some (.cells (c2 more) BQ false) := by subst hBQ; exact ag_eq rfl
 have hkZ : Kp H4 (H4.add (c2 more)) := Kp.refl.add
 have hb13Z := (hkZ.get hn13).trans hb13
 have hf13Z := (hkZ.fget hn13).trans hf13
 have hnQ : BQ < (H4.add (c2 more)).nx := by show BQ < H4.nx + 1; omega
 have hneQ : BQ ≠ B13 := by omega
 rw [← hBQ]
 clear hBQ
 generalize H4.add (c2 more) = H5 at hbQ hkZ hb13Z hf13Z hnQ ⊢
 simp (disch := first | omega | decide) only [rUz, fieldAddr_ptr fA5 lrR]
 refine wr_store lrR' ?_
 simp (disch := first | omega | decide) only [rUz, stSl, hb13Z, hf13Z]
 rw [st1_some (by rw [coV_len]; decide : 5 < (coV c.hs v).length)]
 obtain ⟨VS, hVS⟩ : ∃ z : Vs, z = ⟨v.a, v.b, v.c, v.d, .slice (some ⟨BQ, 0, none⟩) 1 1⟩ := ⟨_, rfl⟩
 have hset : (coV c.hs v).set 5 (.slice (some ⟨BQ, 0, none⟩) 1 1) = coV c.hs VS := by subst hVS; rfl
 rw [hset]
 simp (disch := first | omega | decide) only [rUz]
 have hkU : Kp g2 (H5.upd B13 (coV c.hs VS) B13) := ((hkX.trans hkY).trans hkZ).upd (by have := hkX.1; omega)
 have hx11 : (H5.upd B13 (coV c.hs VS) B13).bl.get B11 = some (.cells (coV c.hs v) B11 false) := by rw [upd_ne _ _ _ (by omega)]; exact ((hkY.trans hkZ).get (by omega : B11 < H3.nx)).trans hb11X
 have hx12 : (H5.upd B13 (coV c.hs VS) B13).bl.get B12 = some (.cells [ua, ub] B12 false) := by rw [upd_ne _ _ _ (by omega)]; exact ((hkY.trans hkZ).get hnX).trans hb12X
 have hx13 : (H5.upd B13 (coV c.hs VS) B13).bl.get B13 = some (.cells (coV c.hs VS) B13 false) := upd_eq _ _ _
 have hn13U : B13 < (H5.upd B13 (coV c.hs VS) B13).nx := Nat.lt_of_lt_of_le hn13 hkZ.1
 have hn12U : B12 < (H5.upd B13 (coV c.hs VS) B13).nx := by have := hkY.1; have := hkZ.1; show B12 < H5.nx; omega
 have hcQ : SlAt (H5.upd B13 (coV c.hs VS) B13) 2 (.slice (some ⟨BQ, 0, none⟩) 1 1) ([more].map c2) := by
  refine .inr ⟨BQ, 1, BQ, false, (by intro e; cases e), rfl, hnQ, ?_, fun d hd => ?_⟩
  ·rw [upd_ne _ _ _ hneQ]; exact hbQ
  ·simp only [List.map_cons, List.map_nil, List.mem_singleton] at hd
   rw [hd]; rfl
 have hcU := hc.mono hkU
 have hcX : CoAt (H5.upd B13 (coV c.hs VS) B13) VS (clo c more) := by subst hVS; exact ⟨hcU.held, hcU.tr, hcU.dv, hcU.sp, hcQ⟩
 have hshX : SlAt (H5.upd B13 (coV c.hs VS) B13) 1 VS.a (c.held.map fun n => [iv n]) := by subst hVS; exact SlAt.mono hsh hkU
 have hsaU := SlAt.mono hsa hkU
 have hsbU := SlAt.mono hsb hkU
 have hshU := SlAt.mono hsh hkU
 have hkU0 := hkB.trans hkU
 clear hc hsh hsa hsb hkU hkB hb9B hn9B hb11X hb12X hkX hnX hkY hn13 hb13 hf13 hb9C hbQ hkZ hb13Z hf13Z hnQ hneQ hset hVS hcQ o11 o13
 generalize H5.upd B13 (coV c.hs VS) B13 = G at hx11 hx12 hx13 hn13U hn12U hcU hcX hshX hsaU hsbU hshU hkU0 ⊢
 clear H5 H4 H3 g2
 have hua : IAt G ua a := SlAt.ints hsaU
 have hub : IAt G ub b := SlAt.ints hsbU
 have hvu : veq (.agg ⟨[ua, ub]⟩) (.agg ⟨[ua, ub]⟩) = true := by simp only [veq, veqA, veqL, hua.veq, hub.veq, Bool.and_self]
 have hzX := fault_clo hz hdm
 have hvX := Val.of_fault hzX
 have hthX := thin0 hzX (by show c.dv.length ≤ 7; omega)
 repeat refine S.seq ?_
 refine S.region ?_
 simp (disch := first | omega | decide) only [rUz, hx12, hx13, part_0 pA (coV_len c.hs VS), prU2]
 refine wr_brings (fid := 10) (first := #[]) (captured := #[]) (Post := fun u _ => u = .bool (truthB (clo c more) a b)) rfl (hoff _ _ _ rfl) (by simp (disch := first | omega | decide) only [rUz]; exact istruth_y S hoff G VS (clo c more) hcX hvX ua ub a b hua hub) ?_
 rintro u g1 hk1 rfl
 simp (disch := first | omega | decide) only [rUz, un_not]
 cases htX : truthB (clo c more) a b with
 | false =>
  repeat refine S.seq ?_
  refine S.cond (v := true) rfl (fun _ => ?_) (fun e => by cases e)
  repeat refine S.seq ?_
  refine S.region ?_
  simp (disch := first | omega | decide) only [rUz]
  refine awake ?_
  simp (disch := first | omega | decide) only [rUz]
  refine S.ret ?_
  try simp only [seqK_ret, blockK_ret]
  subst hF
  simp only [finish, endMarks]
  rw [show Tryz.f3.results.toList = [.tmp 10] from rfl]
  simp (disch := first | omega | decide) only [resA, ev_tmp, tget_ne, tget_eq, get_ne, get_eq, upd_eq, upd_ne, ag_eq, ag_ne, result1]
  exact hKr _ (hkU0.trans hk1)
 | true =>
 repeat refine S.seq ?_
 refine S.cond (v := false) rfl (fun e => by cases e) (fun _ => ?_)
 repeat refine S.seq ?_
 refine S.skip ?_
 simp (disch := first | omega | decide) only [rUz]
 have hj0 := hk1
 have hm0 := hkU0.trans hj0
 have hx0 := (hj0.get (by omega : B11 < G.nx)).trans hx11
 have hy0 := (hj0.get hn12U).trans hx12
 have l3 := fun t h1 o => row_len (hcU.mono hj0).dv isrD t h1 o
 repeat refine S.seq ?_
 refine S.region ?_
 simp (disch := first | omega | decide) only [rUz, w_cv8, rd_conv]
 refine optR_of' (v := iv w) (conv_int Tryz.underlying5 Tryz.underlying3 (by omega) (by omega)) ?_
 simp (disch := first | omega | decide) only [rUz, hx0, fieldAddr_ptr fA3 lrD, qrD, co3, l3]
 refine optR_of' (bin_rem (i := w) (j := (c.dv.length : Int)) (by simp (disch := first | omega | decide) only [rUz]) (by simp (disch := first | omega | decide) only [rUz]) (by omega)) ?_
 obtain ⟨i, hi⟩ : ∃ i, i = w.tmod (c.dv.length : Int) := ⟨_, rfl⟩
 have hi0 : 0 ≤ i ∧ i < (c.dv.length : Int) := by rw [hi]; exact ⟨Int.tmod_nonneg _ hw'.1, Int.tmod_lt_of_pos _ hdn⟩
 rw [← hi]
 clear hi l3
 simp (disch := first | omega | decide) only [rUz]
 have hj1 := hj0
 clear hx0 hy0
 have hx1 := (hj1.get (by omega : B11 < G.nx)).trans hx11
 have hy1 := (hj1.get hn12U).trans hx12
 repeat refine S.seq ?_
 refine S.drawnL [(false, 0), (true, 1), (false, 0), (true, 7), (false, 0), (true, 31), (false, 63), (false, 127), (false, 127), (false, 255), (false, 1023)] (by kernel_rfl) (by kernel_rfl) (by kernel_rfl) ?_
 simp (disch := first | omega | decide) only [rUz, rDz, infoL, Nat.reduceSub, hx1, hy1, part_0 pA (coV_len c.hs v), prU2]
 refine draw_pick' rfl ?_
 simp (disch := first | omega | decide) only [rUz, rDz, infoL, Nat.reduceSub, hy1, prU2]
 refine draw_pick' rfl ?_
 simp (disch := first | omega | decide) only [rUz, rDz, infoL, Nat.reduceSub, hy1, prU2]
 refine drW_brings (fid := 12) (first := #[]) (captured := #[]) (Post := fun u h => ∃ v', u = .agg ⟨coV c.hs v'⟩ ∧ CoAt h v' c) rfl (hoff _ _ _ rfl) (by simp (disch := first | omega | decide) only [rUz]; exact company_y S hoff _ v c (hcU.mono hj1) (SlAt.mono hshU hj1) hth) (Nat.le_of_ble_eq_true rfl) ?_
 rintro u gA hkA ⟨vA, rfl, hcA⟩
 have hjA := hj1.trans hkA
 have hyA := (hjA.get hn12U).trans hx12
 refine ⟨?_, ?_⟩
 ·try simp (disch := first | decide | rfl) only [again_nil, again_skip, again_free]
  rw [again_same (v := .agg ⟨[ua, ub]⟩) (by simp (disch := first | omega | decide) only [rUz, rDz, infoL, Nat.reduceSub, hyA, prU2]) hvu]
  try simp (disch := first | decide | rfl) only [again_nil, again_skip, again_free]
 simp (disch := first | omega | decide) only [rUz, rDz, infoL, Nat.reduceSub]
 refine drW_brings (fid := 13) (first := #[]) (captured := #[]) (Post := fun u h => ∃ ua' ub', u = .agg ⟨[ua', ub']⟩ ∧ IAt h ua' a ∧ IAt h ub' b) rfl (hoff _ _ _ rfl) (by simp (disch := first | omega | decide) only [rUz]; exact truth_y S hoff _ ua ub a b (SlAt.mono hsaU hjA) (SlAt.mono hsbU hjA) (by omega) (by omega)) (Nat.le_of_ble_eq_true rfl) ?_
 rintro u gB hkB ⟨wa, wb, rfl, hwa, hwb⟩
 refine ⟨?_, ?_⟩
 ·try simp (disch := first | decide | rfl) only [again_nil, again_skip, again_free]
 simp (disch := first | omega | decide) only [rUz, rDz, infoL, Nat.reduceSub]
 refine drW_brings (fid := 11) (first := #[]) (captured := #[]) (Post := fun u h => Tells h c a b i (rgtP c (datesL c a b)) u) rfl (hoff _ _ _ rfl) (by simp (disch := first | omega | decide) only [rUz]; exact Rights_y S hoff gB vA c (hcA.mono hkB) hth wa wb a b hwa hwb (by omega) i) (Nat.le_of_ble_eq_true rfl) ?_
 rintro u g2 hkC ⟨rv1, rfl, rok1, _⟩
 refine ⟨?_, ?_⟩
 ·try simp (disch := first | decide | rfl) only [again_nil, again_skip, again_free]
 simp (disch := first | omega | decide) only [rUz, rDz, infoL, Nat.reduceSub, tup0, tup1]
 have hw1 := tell_of hz htr hi0.1 hi0.2
 obtain ⟨d1, hd1, hr1⟩ := rok1 hw1
 have st1 := hkA.trans (hkB.trans hkC)
 have hj2 := hjA.trans (hkB.trans hkC)
 clear hcA hwa hwb hjA hyA hkA hkB hkC hx1 hy1 rok1
 have hx2 := (hj2.get hn13U).trans hx13
 have hy2 := (hj2.get hn12U).trans hx12
 repeat refine S.seq ?_
 refine S.drawnL [(false, 0), (true, 1), (false, 0), (true, 7), (false, 0), (true, 31), (false, 63), (false, 127), (false, 127), (false, 255), (false, 1023)] (by kernel_rfl) (by kernel_rfl) (by kernel_rfl) ?_
 simp (disch := first | omega | decide) only [rUz, rDz, infoL, Nat.reduceSub, hx2, hy2, part_0 pA (coV_len c.hs VS), prU2]
 refine draw_pick' rfl ?_
 simp (disch := first | omega | decide) only [rUz, rDz, infoL, Nat.reduceSub, hy2, prU2]
 refine draw_pick' rfl ?_
 simp (disch := first | omega | decide) only [rUz, rDz, infoL, Nat.reduceSub, hy2, prU2]
 refine drW_brings (fid := 12) (first := #[]) (captured := #[]) (Post := fun u h => ∃ v', u = .agg ⟨coV c.hs v'⟩ ∧ CoAt h v' (clo c more)) rfl (hoff _ _ _ rfl) (by simp (disch := first | omega | decide) only [rUz]; exact company_y S hoff _ VS (clo c more) (hcX.mono hj2) (SlAt.mono hshX hj2) hthX) (Nat.le_of_ble_eq_true rfl) ?_
 rintro u gA hkA ⟨vA, rfl, hcA⟩
 have hjA := hj2.trans hkA
 have hyA := (hjA.get hn12U).trans hx12
 refine ⟨?_, ?_⟩
 ·try simp (disch := first | decide | rfl) only [again_nil, again_skip, again_free]
  rw [again_same (v := .agg ⟨[ua, ub]⟩) (by simp (disch := first | omega | decide) only [rUz, rDz, infoL, Nat.reduceSub, hyA, prU2]) hvu]
  try simp (disch := first | decide | rfl) only [again_nil, again_skip, again_free]
 simp (disch := first | omega | decide) only [rUz, rDz, infoL, Nat.reduceSub]
 refine drW_brings (fid := 13) (first := #[]) (captured := #[]) (Post := fun u h => ∃ ua' ub', u = .agg ⟨[ua', ub']⟩ ∧ IAt h ua' a ∧ IAt h ub' b) rfl (hoff _ _ _ rfl) (by simp (disch := first | omega | decide) only [rUz]; exact truth_y S hoff _ ua ub a b (SlAt.mono hsaU hjA) (SlAt.mono hsbU hjA) (by omega) (by omega)) (Nat.le_of_ble_eq_true rfl) ?_
 rintro u gB hkB ⟨wa, wb, rfl, hwa, hwb⟩
 refine ⟨?_, ?_⟩
 ·try simp (disch := first | decide | rfl) only [again_nil, again_skip, again_free]
 simp (disch := first | omega | decide) only [rUz, rDz, infoL, Nat.reduceSub]
 refine drW_brings (fid := 11) (first := #[]) (captured := #[]) (Post := fun u h => Tells h (clo c more) a b i (rgtP (clo c more) (datesL (clo c more) a b)) u) rfl (hoff _ _ _ rfl) (by simp (disch := first | omega | decide) only [rUz]; exact Rights_y S hoff gB vA (clo c more) (hcA.mono hkB) hthX wa wb a b hwa hwb (by omega) i) (Nat.le_of_ble_eq_true rfl) ?_
 rintro u g3 hkC ⟨rv2, rfl, rok2, _⟩
 refine ⟨?_, ?_⟩
 ·try simp (disch := first | decide | rfl) only [again_nil, again_skip, again_free]
 simp (disch := first | omega | decide) only [rUz, rDz, infoL, Nat.reduceSub, tup0, tup1]
 have hw2 := tell_of hzX htX hi0.1 hi0.2
 obtain ⟨d2, hd2, hr2⟩ := rok2 hw2
 have st2 := hkA.trans (hkB.trans hkC)
 have hj3 := hjA.trans (hkB.trans hkC)
 clear hcA hwa hwb hjA hyA hkA hkB hkC hx2 hy2 rok2
 obtain rfl : d1 = d2 := Option.some.inj (hd1.symm.trans hd2)
 rw [rgt_eq hval hl.1 hl.2] at hr1
 rw [rgt_eq hvX hl.1 hl.2, rgtL_clo] at hr2
 have lr : (rgtL c a d1).length ≤ 1000000 := by
  have := hval.held
  have := hval.h4
  unfold rgtL; rw [rgtFrom_len]; omega
 repeat refine S.seq ?_
 refine S.region ?_
 simp (disch := first | omega | decide) only [rUz, hw1, hw2, decide_true]
 refine wr_brings (fid := 14) (first := #[]) (captured := #[]) (Post := fun u _ => u = .bool true) rfl (hoff _ _ _ rfl) (by simp (disch := first | omega | decide) only [rUz]; exact same_y S hoff _ rv1 rv2 (rgtL c a d1) (hr1.mono st2) hr2 lr) ?_
 rintro u e6 he6 rfl
 simp (disch := first | omega | decide) only [rUz]
 refine awake ?_
 simp (disch := first | omega | decide) only [rUz]
 refine S.ret ?_
 try simp only [seqK_ret, blockK_ret]
 subst hF
 simp only [finish, endMarks]
 rw [show Tryz.f3.results.toList = [.tmp 10] from rfl]
 simp (disch := first | omega | decide) only [resA, ev_tmp, tget_ne, tget_eq, get_ne, get_eq, upd_eq, upd_ne, ag_eq, ag_ne, result1]
 exact hKr _ ((hkU0.trans hj3).trans he6)
end Go.Proofs.Cp
