import Derived.Test.YthgmipngikdknaaGreatPwB
import Derived.Test.YthgmipngikdknaaGreatPoL
import Derived.Test.YthgmipngikdknaaGreatPoM
import Derived.Test.YthgmipngikdknaaGreatEvE
import Derived.Test.YthgmipngikdknaaGreatPrD
/- One truth for each order in which the orders of a post can come (nothing of the program in it). -/
set_option maxHeartbeats 16000000
namespace Go.Proofs.Po
open Nat (reduceEqDiff reduceAdd reduceSub)
open Go Go.Ev
set_option linter.unusedSimpArgs false
/-- An order as it comes at its first minute after the last arrival. -/
def kN (O:List Od) (j:Nat) (last:I2):Int:=
 bif decide (max2 (od O j).lo last.1 < last.1) || (decide (max2 (od O j).lo last.1 = last.1) && decide ((j:Int) < last.2)) then max2 (od O j).lo last.1 + 1 else max2 (od O j).lo last.1
def lF (O:List Od) (j:Nat) (last:I2):AR:=(kN O j last,j)
def canC (O:List Od) (a:AR):Bool:=inB a.1 (od O a.2).lo (od O a.2).hi
def iI (a:AR):I2:=(a.1,(a.2:Int))
/-- Those of the waiting orders that can come next, with their indexes. -/
def iU (O:List Od) (last:I2):List Nat → Nat → List (Nat × AR)
 | [],_=>[]
 | j :: W,i=>bif canC O (lF O j last) then (i,lF O j last) :: iU O last W (i + 1) else iU O last W (i + 1)
def fJ (O:List Od) (W:List Nat) (last:I2):List (Nat × AR):=iU O last W 0
def fK (O:List Od):Nat → List Nat → I2 → List (List AR)
 | 0,_,_=>[[]]
 | n + 1,W,last=>(fJ O W last).flatMap fun x=>(fK O n (W.eraseIdx x.1) (iI x.2)).map fun p=>x.2 :: p
def dZ (n:Nat) (p:List AR):List Int:=(List.range n).map fun j=>((p.find? fun a=>a.2 == j).map fun a=>a.1).getD 0
def pathsA (O:List Od):List (List AR):=fK O O.length (List.range O.length) (0,-1)
def dW (O:List Od):List (List Int):=(pathsA O).map (dZ O.length)
theorem oV {O:List Od} {last:I2}:∀ {W:List Nat} {i:Nat} {x:Nat × AR},x ∈ iU O last W i → ∃ k,x.1 = i + k ∧ ∃ j,W[k]? = some j ∧ x.2 = lF O j last ∧ canC O x.2 = true
 | [],_,_,h=>by simp [iU] at h
 | j :: W,i,x,h=>by
  have ih:x ∈ iU O last W (i + 1) → ∃ k,x.1 = i + k ∧ ∃ j',(j :: W)[k]? = some j' ∧ x.2 = lF O j' last ∧ canC O x.2 = true:=fun h=>by
   obtain ⟨k,k1,j',k2,k3,k4⟩:=oV h
   exact ⟨k + 1,by omega,j',by simpa using k2,k3,k4⟩
  unfold iU at h
  cases hc:canC O (lF O j last) with
  | true =>
   rw [hc,cond_true] at h
   rcases List.mem_cons.1 h with h|h
   ·subst h
    exact ⟨0,rfl,j,rfl,rfl,hc⟩
   ·exact ih h
  | false=>rw [hc,cond_false] at h; exact ih h
theorem comersG_has {O:List Od} {last:I2}:∀ {W:List Nat} {i k j:Nat},W[k]? = some j → canC O (lF O j last) = true → (i + k,lF O j last) ∈ iU O last W i
 | [],_,_,_,h,_=>by simp at h
 | j0 :: W,i,0,j,h,hc=>by
  obtain rfl:j0 = j:=by simpa using h
  unfold iU
  rw [hc,cond_true]
  simp
 | j0 :: W,i,k + 1,j,h,hc=>by
  have:=comersG_has (W:=W) (i:=i + 1) (k:=k) (by simpa using h) hc
  rw [show i + (k + 1) = i + 1 + k from by omega]
  unfold iU
  cases canC O (lF O j0 last) with
  | true=>rw [cond_true]; exact List.mem_cons_of_mem _ this
  | false=>rw [cond_false]; exact this
/-- Later than. -/
def ltL (last:I2) (a:AR):Prop:=last.1 < a.1 ∨ (last.1 = a.1 ∧ last.2 < (a.2:Int))
theorem ltL_A {x y:AR}:ltL (iI x) y ↔ ltA x y = true:=by
 rw [uB]; unfold ltL iI
 constructor
 ·rintro (h|⟨h1,h2⟩)
  ·exact .inl h
  ·exact .inr ⟨h1,by omega⟩
 ·rintro (h|⟨h1,h2⟩)
  ·exact .inl h
  ·exact .inr ⟨h1,by omega⟩
theorem max2_b (x y:Int):x ≤ max2 x y ∧ y ≤ max2 x y ∧ (max2 x y = x ∨ max2 x y = y):=by
 unfold max2
 by_cases h:x < y
 ·rw [if_pos h]; omega
 ·rw [if_neg h]; omega
theorem soon_gt {O:List Od} {j:Nat} {last:I2} (h:last.2 ≠ (j:Int)):ltL last (lF O j last):=by
 have b:=max2_b (od O j).lo last.1
 unfold ltL lF kN
 generalize max2 (od O j).lo last.1 = m at b
 cases hd:decide (m < last.1) || (decide (m = last.1) && decide ((j:Int) < last.2)) with
 | true=>rw [cond_true]; show last.1 < m + 1 ∨ _; omega
 | false =>
  rw [cond_false]
  rw [Bool.or_eq_false_iff,Bool.and_eq_false_iff,decide_eq_false_iff_not,decide_eq_false_iff_not,decide_eq_false_iff_not] at hd
  show last.1 < m ∨ (last.1 = m ∧ last.2 < (j:Int))
  omega
theorem soon_lo {O:List Od} {j:Nat} {last:I2}:(od O j).lo ≤ kN O j last:=by
 have b:=max2_b (od O j).lo last.1
 unfold kN
 generalize max2 (od O j).lo last.1 = m at b
 cases decide (m < last.1) || (decide (m = last.1) && decide ((j:Int) < last.2)) with
 | true=>rw [cond_true]; omega
 | false=>rw [cond_false]; omega
theorem soon_le {O:List Od} {j:Nat} {last:I2} {m:Int} (h1:(od O j).lo ≤ m) (h2:ltL last (m,j)):kN O j last ≤ m:=by
 have b:=max2_b (od O j).lo last.1
 have h2':last.1 < m ∨ (last.1 = m ∧ last.2 < (j:Int)):=h2
 unfold kN
 generalize max2 (od O j).lo last.1 = q at b
 cases hd:decide (q < last.1) || (decide (q = last.1) && decide ((j:Int) < last.2)) with
 | true =>
  rw [cond_true]
  rw [Bool.or_eq_true,Bool.and_eq_true,decide_eq_true_eq,decide_eq_true_eq,decide_eq_true_eq] at hd
  omega
 | false=>rw [cond_false]; omega
theorem jM {W:List Nat} (hn:W.Pairwise fun x y=>x ≠ y) {i j:Nat} (hi:W[i]? = some j) {q:Nat}:q ∈ W.eraseIdx i ↔ q ∈ W ∧ q ≠ j:=by
 induction W generalizing i with
 | nil=>simp at hi
 | cons a W ih =>
  rw [List.pairwise_cons] at hn
  cases i with
  | zero =>
   obtain rfl:a = j:=by simpa using hi
   rw [List.eraseIdx_cons_zero,List.mem_cons]
   constructor
   ·intro h; exact ⟨.inr h,fun e=>hn.1 q h e.symm⟩
   ·rintro ⟨h|h,h2⟩
    ·exact absurd h h2
    ·exact h
  | succ i =>
   have hi':W[i]? = some j:=by simpa using hi
   rw [List.eraseIdx_cons_succ,List.mem_cons,ih hn.2 hi',List.mem_cons]
   have haj:a ≠ j:=hn.1 j (List.mem_of_getElem? hi')
   constructor
   ·rintro (h|⟨h1,h2⟩)
    ·exact ⟨.inl h,by rw [h]; exact haj⟩
    ·exact ⟨.inr h1,h2⟩
   ·rintro ⟨h|h,h2⟩
    ·exact .inl h
    ·exact .inr ⟨h,h2⟩
theorem tV {W:List Nat} (hn:W.Pairwise fun x y=>x ≠ y) (i:Nat):(W.eraseIdx i).Pairwise fun x y=>x ≠ y:=hn.sublist (List.eraseIdx_sublist W i)
/-- What holds of a way in which the waiting orders can come. -/
structure PathOk (O:List Od) (W:List Nat) (last:I2) (p:List AR):Prop where
 sorted:p.Pairwise fun x y=>ltA x y = true
 later:∀ a,a ∈ p → ltL last a
 rng:∀ a,a ∈ p → (od O a.2).lo ≤ a.1 ∧ a.1 ≤ (od O a.2).hi
 mem:∀ j,(∃ a,a ∈ p ∧ a.2 = j) ↔ j ∈ W
 len:p.length = W.length
theorem ltL_trans {last:I2} {a b:AR} (h1:ltL last a) (h2:ltA a b = true):ltL last b:=by
 rw [uB] at h2
 unfold ltL at h1 ⊢
 omega
theorem paths_ok {O:List Od}:∀ (n:Nat) (W:List Nat) (last:I2),W.length = n → (W.Pairwise fun x y=>x ≠ y) → (∀ j,j ∈ W → last.2 ≠ (j:Int)) → ∀ p,p ∈ fK O n W last → PathOk O W last p
 | 0,W,last,hl,_,_,p,hp=>by
  have hW:W = []:=List.length_eq_zero_iff.1 hl
  subst hW
  have:p = []:=by simpa [fK] using hp
  subst this
  exact ⟨List.Pairwise.nil,(fun a h=>by cases h),(fun a h=>by cases h),(fun j=>⟨(fun ⟨a,h,_⟩=>by cases h),(fun h=>by cases h)⟩),rfl⟩
 | n + 1,W,last,hl,hn,hlast,p,hp=>by
  unfold fK at hp
  obtain ⟨x,hx,hp⟩:=List.mem_flatMap.1 hp
  obtain ⟨q,hq,rfl⟩:=List.mem_map.1 hp
  obtain ⟨k,hk,j,hj,e,hc⟩:=oV hx
  rw [Nat.zero_add] at hk
  have hkl:k < W.length:=(List.getElem?_eq_some_iff.1 hj).1
  have hjW:j ∈ W:=List.mem_of_getElem? hj
  have e2:x.2.2 = j:=by rw [e]; rfl
  rw [hk] at hq
  have ih:=paths_ok n (W.eraseIdx k) (iI x.2) (by rw [List.length_eraseIdx,if_pos hkl]; omega) (tV hn k) (fun q hq=>by
   have:=(jM hn hj).1 hq
   show (x.2.2:Int) ≠ _
   rw [e2]; omega) q hq
  have hgt:ltL last x.2:=by rw [e]; exact soon_gt (hlast j hjW)
  refine ⟨?_,?_,?_,?_,?_⟩
  ·rw [List.pairwise_cons]
   exact ⟨fun a ha=>ltL_A.1 (ih.later a ha),ih.sorted⟩
  ·intro a ha
   rcases List.mem_cons.1 ha with rfl|ha
   ·exact hgt
   ·exact ltL_trans hgt (ltL_A.1 (ih.later a ha))
  ·intro a ha
   rcases List.mem_cons.1 ha with rfl|ha
   ·exact uX.1 hc
   ·exact ih.rng a ha
  ·intro i
   constructor
   ·rintro ⟨a,ha,rfl⟩
    rcases List.mem_cons.1 ha with rfl|ha
    ·rw [e2]; exact hjW
    ·exact ((jM hn hj).1 ((ih.mem a.2).1 ⟨a,ha,rfl⟩)).1
   ·intro hi
    by_cases hij:i = j
    ·exact ⟨x.2,by simp,by rw [e2,hij]⟩
    ·obtain ⟨a,ha,hai⟩:=(ih.mem i).2 ((jM hn hj).2 ⟨hi,hij⟩)
     exact ⟨a,by simp [ha],hai⟩
  ·rw [List.length_cons,ih.len,List.length_eraseIdx,if_pos hkl]; omega
theorem paths_has {O:List Od}:∀ (s:List AR) (W:List Nat) (last:I2),W.length = s.length → (W.Pairwise fun x y=>x ≠ y) → (s.Pairwise fun x y=>ltA x y = true) → (∀ a,a ∈ s → ltL last a) → (∀ a,a ∈ s → (od O a.2).lo ≤ a.1 ∧ a.1 ≤ (od O a.2).hi) →
  (∀ j,(∃ a,a ∈ s ∧ a.2 = j) ↔ j ∈ W) → (s.Pairwise fun x y=>x.2 ≠ y.2) → ∃ p,p ∈ fK O s.length W last ∧ p.map (fun a=>a.2) = s.map fun a=>a.2
 | [],W,last,_,_,_,_,_,_,_=>⟨[],by simp [fK],rfl⟩
 | a :: s,W,last,hl,hn,hs,hlt,hr,hm,hd=>by
  rw [List.pairwise_cons] at hs hd
  have haW:a.2 ∈ W:=(hm a.2).1 ⟨a,by simp,rfl⟩
  obtain ⟨k,hk,ek⟩:=List.mem_iff_getElem.1 haW
  have hj:W[k]? = some a.2:=by rw [List.getElem?_eq_getElem hk,ek]
  have ra:=hr a (by simp)
  have hle:=soon_le ra.1 (hlt a (by simp):ltL last (a.1,a.2))
  have hc:canC O (lF O a.2 last) = true:=uX.2 ⟨soon_lo,by show kN O a.2 last ≤ (od O a.2).hi; omega⟩
  have hx:=comersG_has (O:=O) (last:=last) (i:=0) hj hc
  rw [Nat.zero_add] at hx
  obtain ⟨p,hp,ep⟩:=paths_has s (W.eraseIdx k) (iI (lF O a.2 last)) (by rw [List.length_eraseIdx,if_pos hk,hl,List.length_cons]; omega) (tV hn k) hs.2 (fun b hb=>by
   have:=uB.1 (hs.1 b hb)
   unfold ltL iI lF
   show kN O a.2 last < b.1 ∨ (kN O a.2 last = b.1 ∧ (a.2:Int) < (b.2:Int))
   omega) (fun b hb=>hr b (by simp [hb])) (fun i=>by
   rw [jM hn hj,← hm i]
   constructor
   ·rintro ⟨b,hb,rfl⟩
    exact ⟨⟨b,by simp [hb],rfl⟩,fun e=>hd.1 b hb e.symm⟩
   ·rintro ⟨⟨b,hb,rfl⟩,h2⟩
    rcases List.mem_cons.1 hb with rfl|hb
    ·exact absurd rfl h2
    ·exact ⟨b,hb,rfl⟩) hd.2
  refine ⟨lF O a.2 last :: p,?_,?_⟩
  ·show _ ∈ fK O (s.length + 1) W last
   unfold fK
   exact List.mem_flatMap.2 ⟨_,hx,List.mem_map.2 ⟨p,hp,rfl⟩⟩
  ·rw [List.map_cons,List.map_cons,ep]; rfl
/-! ## As truths -/
theorem ss_ext:∀ {A B:List AR},(A.Pairwise fun x y=>ltA x y = true) → (B.Pairwise fun x y=>ltA x y = true) → (∀ y,y ∈ A ↔ y ∈ B) → A = B
 | [],[],_,_,_=>rfl
 | [],b :: B,_,_,h=>absurd ((h b).2 (by simp)) (by simp)
 | a :: A,[],_,_,h=>absurd ((h a).1 (by simp)) (by simp)
 | a :: A,b :: B,ha,hb,h=>by
  rw [List.pairwise_cons] at ha hb
  have irr:∀ x:AR,¬ ltA x x = true:=fun x hx=>by have:=uB.1 hx; omega
  have hab:a = b:=by
   rcases List.mem_cons.1 ((h a).1 (by simp)) with e|e
   ·exact e
   ·rcases List.mem_cons.1 ((h b).2 (by simp)) with e2|e2
    ·exact e2.symm
    ·have h1:=uB.1 (hb.1 a e)
     have h2:=uB.1 (ha.1 b e2)
     omega
  subst hab
  rw [ss_ext ha.2 hb.2 fun y=>?_]
  constructor
  ·intro hy
   rcases List.mem_cons.1 ((h y).1 (by simp [hy])) with e|e
   ·subst e; exact absurd (ha.1 y hy) (irr y)
   ·exact e
  ·intro hy
   rcases List.mem_cons.1 ((h y).2 (by simp [hy])) with e|e
   ·subst e; exact absurd (hb.1 y hy) (irr y)
   ·exact e
theorem cm_strict {t:List Int} (h:∀ x,x ∈ t → 0 ≤ x ∧ x ≤ 30):(cmZ t).Pairwise fun x y=>ltA x y = true:=by
 have h1:=(cm_ok h t.length (Nat.le_refl _)).sorted
 rw [List.take_of_length_le (Nat.le_refl _)] at h1
 have h2:=cmU_pw t 31
 refine (List.Pairwise.and h1 h2).imp fun {x y} hxy=>?_
 have:=ltA_f.1 hxy.1
 have e:=hxy.2
 rw [uB]; omega
theorem cm_mem {t:List Int} (h:∀ x,x ∈ t → 0 ≤ x ∧ x ≤ 30) {a:AR}:a ∈ cmZ t ↔ t[a.2]? = some a.1:=by
 constructor
 ·intro ha; exact cmU_get ha
 ·intro ha
  have b:=h _ (List.mem_of_getElem? ha)
  exact cmU_has ha b.1 (by omega)
theorem tX (n:Nat) (p:List AR):(dZ n p).length = n:=by unfold dZ; rw [List.length_map,List.length_range]
theorem find_path {p:List AR} (hp:p.Pairwise fun x y=>x.2 ≠ y.2) {a:AR} (ha:a ∈ p):(p.find? fun b=>b.2 == a.2) = some a:=by
 induction p with
 | nil=>cases ha
 | cons b p ih =>
  rw [List.pairwise_cons] at hp
  rw [List.find?_cons]
  rcases List.mem_cons.1 ha with rfl|ha
  ·rw [beq_self_eq_true]
  ·have:(b.2 == a.2) = false:=by rw [beq_eq_false_iff_ne]; exact hp.1 a ha
   rw [this]
   exact ih hp.2 ha
theorem truthOf_get {n:Nat} {p:List AR} (hp:p.Pairwise fun x y=>x.2 ≠ y.2) {a:AR} (ha:a ∈ p) (hn:a.2 < n):(dZ n p)[a.2]? = some a.1:=by
 unfold dZ
 rw [List.getElem?_map,List.getElem?_range hn,Option.map_some,find_path hp ha]
 rfl
theorem truthOf_eq {n:Nat} {p:List AR} {T:List Int} (hp:p.Pairwise fun x y=>x.2 ≠ y.2) (hT:T.length = n) (hall:∀ j,j < n → ∃ a,a ∈ p ∧ a.2 = j) (h:∀ a,a ∈ p → T[a.2]? = some a.1):T = dZ n p:=by
 apply List.ext_getElem?
 intro j
 by_cases hj:j < n
 ·obtain ⟨a,ha,rfl⟩:=hall j hj
  rw [h a ha,truthOf_get hp ha hj]
 ·rw [List.getElem?_eq_none (by omega),List.getElem?_eq_none (by rw [tX]; omega)]
theorem nodup2 {p:List AR} {W:List Nat} (hl:p.length = W.length) (hn:W.Pairwise fun x y=>x ≠ y) (hm:∀ j,(∃ a,a ∈ p ∧ a.2 = j) ↔ j ∈ W):p.Pairwise fun x y=>x.2 ≠ y.2:=by
 induction p generalizing W with
 | nil=>exact List.Pairwise.nil
 | cons a p ih =>
  have haW:a.2 ∈ W:=(hm a.2).1 ⟨a,by simp,rfl⟩
  obtain ⟨k,hk,ek⟩:=List.mem_iff_getElem.1 haW
  have hj:W[k]? = some a.2:=by rw [List.getElem?_eq_getElem hk,ek]
  have hlen:p.length = (W.eraseIdx k).length:=by rw [List.length_eraseIdx,if_pos hk,← hl,List.length_cons]; omega
  -- all of the others are among p
  have hsub:∀ j,j ∈ W.eraseIdx k → ∃ b,b ∈ p ∧ b.2 = j:=fun j h=>by
   obtain ⟨h1,h2⟩:=(jM hn hj).1 h
   obtain ⟨b,hb,e⟩:=(hm j).2 h1
   rcases List.mem_cons.1 hb with rfl|hb
   ·exact absurd e.symm h2
   ·exact ⟨b,hb,e⟩
  have key:∀ (V:List Nat) (q:List AR),(V.Pairwise fun x y=>x ≠ y) → (∀ j,j ∈ V → ∃ b,b ∈ q ∧ b.2 = j) → q.length ≤ V.length → ∀ b,b ∈ q → b.2 ∈ V:=by
   intro V
   induction V with
   | nil=>intro q _ _ hq b hb; rw [List.length_eq_zero_iff.1 (Nat.le_zero.1 hq)] at hb; cases hb
   | cons v V ihV =>
    intro q hV hs hq b hb
    rw [List.pairwise_cons] at hV
    by_cases hbv:b.2 = v
    ·rw [hbv]; simp
    ·obtain ⟨c,hc,ec⟩:=hs v (by simp)
     obtain ⟨i,hi,ei⟩:=List.mem_iff_getElem.1 hc
     have hqi:q[i]? = some c:=by rw [List.getElem?_eq_getElem hi,ei]
     have hmem:∀ x,x ∈ q → x.2 ≠ v → x ∈ q.eraseIdx i:=fun x hx hxv=>by
      obtain ⟨j,hj,ej⟩:=List.mem_iff_getElem.1 hx
      rw [List.mem_eraseIdx_iff_getElem?]
      refine ⟨j,fun e=>?_,by rw [List.getElem?_eq_getElem hj,ej]⟩
      subst e
      rw [List.getElem?_eq_getElem hj,ej] at hqi
      have:x = c:=by simpa using hqi
      exact hxv (by rw [this]; exact ec)
     have:=ihV (q.eraseIdx i) hV.2 (fun j hjV=>by
      obtain ⟨x,hx,ex⟩:=hs j (by simp [hjV])
      exact ⟨x,hmem x hx (by rw [ex]; exact fun e=>hV.1 j hjV e.symm),ex⟩) (by rw [List.length_eraseIdx,if_pos hi]; rw [List.length_cons] at hq; omega) b (hmem b hb hbv)
     simp [this]
  have hin:=key _ p (tV hn k) hsub (by omega)
  rw [List.pairwise_cons]
  refine ⟨fun b hb=>?_,ih hlen (tV hn k) fun j=>⟨(fun ⟨b,hb,e⟩=>e ▸ hin b hb),hsub j⟩⟩
  have:=(jM hn hj).1 (hin b hb)
  exact fun e=>this.2 e.symm
theorem xP (n:Nat):(List.range n).Pairwise fun x y=>x ≠ y:=(List.nodup_range:(List.range n).Nodup)
/-- Each of them is a truth, with just this order. -/
theorem all_truth {O:List Od} (hv:Val O) {p:List AR} (hp:p ∈ pathsA O):lV O (dZ O.length p) = true ∧ lW (dZ O.length p) = p.map fun a=>a.2:=by
 have k:=paths_ok O.length (List.range O.length) (0,-1) List.length_range (xP _) (fun j _=>by show (-1:Int) ≠ _; omega) p hp
 have hd:=nodup2 (by rw [k.len]) (xP _) k.mem
 have hlt:∀ a,a ∈ p → a.2 < O.length:=fun a ha=>List.mem_range.1 ((k.mem a.2).1 ⟨a,ha,rfl⟩)
 have hg:∀ a,a ∈ p → (dZ O.length p)[a.2]? = some a.1:=fun a ha=>truthOf_get hd ha (hlt a ha)
 have hall:∀ j,j < O.length → ∃ a,a ∈ p ∧ a.2 = j:=fun j hj=>(k.mem j).2 (List.mem_range.2 hj)
 have ht:lV O (dZ O.length p) = true:=by
  rw [nU]
  refine ⟨(tX _ _).symm,fun i h1 h2=>?_⟩
  obtain ⟨a,ha,rfl⟩:=hall i h1
  have e:=hg a ha
  rw [List.getElem?_eq_getElem h2] at e
  have e2:(dZ O.length p)[a.2] = a.1:=by simpa using e
  have e3:O[a.2] = od O a.2:=by have:=jB h1; rw [List.getElem?_eq_getElem h1] at this; simpa using this
  rw [e2,e3]
  exact k.rng a ha
 refine ⟨ht,?_⟩
 have hr:=(tru_of hv ht).rng
 have:cmZ (dZ O.length p) = p:=by
  refine ss_ext (cm_strict hr) k.sorted fun a=>?_
  rw [cm_mem hr]
  constructor
  ·intro h
   have hl:a.2 < O.length:=by have:=(List.getElem?_eq_some_iff.1 h).1; rw [tX] at this; exact this
   obtain ⟨b,hb,e⟩:=hall a.2 hl
   have:=hg b hb
   rw [e,h] at this
   have:a.1 = b.1:=by simpa using this
   rw [show a = b from Prod.ext this e.symm]
   exact hb
  ·exact hg a
 unfold lW
 rw [this]
/-- The orders of each truth come as in one of them. -/
theorem truth_all {O:List Od} (hv:Val O) {t:List Int} (ht:lV O t = true):∃ p,p ∈ pathsA O ∧ p.map (fun a=>a.2) = lW t:=by
 have k:=tru_of hv ht
 obtain ⟨_,hb⟩:=nU.1 ht
 have hlen:(cmZ t).length = t.length:=by
  have:=(cm_ok k.rng t.length (Nat.le_refl _)).len
  rwa [List.take_of_length_le (Nat.le_refl _)] at this
 have hp:=paths_has (O:=O) (cmZ t) (List.range O.length) (0,-1) (by rw [List.length_range,hlen,k.len]) (xP _) (cm_strict k.rng) (fun a ha=>by
   have:=k.rng _ (List.mem_of_getElem? ((cm_mem k.rng).1 ha))
   show (0:Int) < a.1 ∨ ((0:Int) = a.1 ∧ (-1:Int) < (a.2:Int))
   omega) (fun a ha=>by
   have e:=(cm_mem k.rng).1 ha
   obtain ⟨h2,e2⟩:=List.getElem?_eq_some_iff.1 e
   have h1:a.2 < O.length:=by rw [← k.len]; exact h2
   have:=hb a.2 h1 h2
   rw [e2,show O[a.2] = od O a.2 from by have:=jB h1; rw [List.getElem?_eq_getElem h1] at this; simpa using this] at this
   exact this) (fun j=>by
   rw [List.mem_range,← k.len]
   constructor
   ·rintro ⟨a,ha,rfl⟩; exact (List.getElem?_eq_some_iff.1 ((cm_mem k.rng).1 ha)).1
   ·intro hj; exact ⟨(t[j],j),(cm_mem k.rng).2 (List.getElem?_eq_getElem hj),rfl⟩) (cmU_pw t 31)
 rw [hlen,k.len] at hp
 exact hp
theorem play_ord {O:List Od} {t t':List Int} (h:lW t = lW t'):dI O t = dI O t':=by unfold dI; rw [h]
/-- What happens in the truths that are gone through is what happens in any truth. -/
theorem kY {O:List Od} (hv:Val O):(∀ t,t ∈ dW O → lV O t = true) ∧ ∀ t,lV O t = true → ∃ t',t' ∈ dW O ∧ dI O t' = dI O t:=by
 refine ⟨fun t ht=>?_,fun t ht=>?_⟩
 ·obtain ⟨p,hp,rfl⟩:=List.mem_map.1 ht
  exact (all_truth hv hp).1
 ·obtain ⟨p,hp,e⟩:=truth_all hv ht
  exact ⟨_,List.mem_map.2 ⟨p,hp,rfl⟩,play_ord ((all_truth hv hp).2.trans e)⟩
end Go.Proofs.Po

/- The soonest minute; whether a number is in a list. -/
namespace Go.Proofs.Po
open Nat (reduceEqDiff reduceAdd reduceSub)
open Go Go.Ev Go.RowKit
set_option linter.unusedSimpArgs false
variable {pr:Prim} {R:ExT}
def cmpI (x y:I2):Int:=orZ [jT x.1 y.1,jT x.2 y.2]
theorem cmpI_lt (x y:I2):decide (cmpI x y < 0) = (decide (x.1 < y.1) || (decide (x.1 = y.1) && decide (x.2 < y.2))):=by
 rw [Bool.eq_iff_iff,decide_eq_true_eq,Bool.or_eq_true,Bool.and_eq_true,decide_eq_true_eq,decide_eq_true_eq,decide_eq_true_eq]
 unfold cmpI jT
 simp only [orZ]
 by_cases h1:x.1 < y.1
 ·simp [h1]
 ·by_cases h2:y.1 < x.1
  ·simp [h1,h2]; omega
  ·have:x.1 = y.1:=by omega
   by_cases h3:x.2 < y.2
   ·simp [this,h3]
   ·by_cases h4:y.2 < x.2
    ·simp [this,h3,h4]
    ·simp [this,h3,h4]
theorem cmpI_y (S:Ev.Steps Tryz.prog pr R) (hoff:Off pr) (h0:AHeap) (x y:I2):bD Tryz.prog R 96 [.agg ⟨c2 x⟩,.agg ⟨c2 y⟩] h0 fun u _=>u = iv (cmpI x y):=by
 refine aV (fn:=Tryz.f96) (c:=(Tryz.f96.body).getD .skip) (by kernel_rfl) rfl (by kernel_rfl) rfl (fun K hK=>?_)
 generalize hF:finish Tryz.prog Tryz.f96 K = KF
 simp only [Tryz.f96,Option.getD_some,bJ,aX,aZ,T.setK_eq,id]
 unfold cmpI at hK
 repeat refine S.seq ?_
 refine S.region ?_
 simp (disch:=first|omega|simp only [aA,aB]<;>omega|decide) only [rUz,↓reduceIte,reduceEqDiff,reduceAdd]
 obtain ⟨B2,hB2⟩:∃ z,z = h0.nx:=⟨_,rfl⟩
 obtain ⟨B3,hB3⟩:∃ z,z = h0.nx + 1:=⟨_,rfl⟩
 have hb2:((h0.add (c2 x)).add (c2 y)).bl.get B2 = some (.cells (c2 x) B2 false):=by rw [aW (by show B2 ≠ h0.nx + 1; omega)]; subst hB2; exact aP rfl
 have hb3:((h0.add (c2 x)).add (c2 y)).bl.get B3 = some (.cells (c2 y) B3 false):=by subst hB3; exact aP rfl
 have hk1:Kp h0 ((h0.add (c2 x)).add (c2 y)):=Kp.refl.add.add
 rw [← hB3,← hB2]
 clear hB2 hB3
 generalize (h0.add (c2 x)).add (c2 y) = g at hb2 hb3 hk1 ⊢
 repeat refine S.seq ?_
 refine S.drawnL [(false,0),(false,1),(false,0),(false,4),(true,15),(false,0),(false,32),(false,0),(false,128),(true,511),(true,1023),(true,2047),(false,4095)] (by kernel_rfl) (by kernel_rfl) (by kernel_rfl) ?_
 simp (disch:=first|omega|simp only [aA,aB]<;>omega|decide) only [rUz,↓reduceIte,reduceEqDiff,reduceAdd,rDz,infoL,reduceSub,hb2,hb3,aC fV0 s3,p3,c20]
 refine dH rfl ?_
 simp (disch:=first|omega|simp only [aA,aB]<;>omega|decide) only [rUz,↓reduceIte,reduceEqDiff,reduceAdd,rDz,infoL,reduceSub,hb2,hb3,aC fV1 s3,p3,c21]
 refine dH rfl ?_
 simp (disch:=first|omega|simp only [aA,aB]<;>omega|decide) only [rUz,↓reduceIte,reduceEqDiff,reduceAdd,rDz,infoL,reduceSub,hb2,hb3,aC fV1 s3,p3,c21]
 refine dH rfl ?_
 simp (disch:=first|omega|simp only [aA,aB]<;>omega|decide) only [rUz,↓reduceIte,reduceEqDiff,reduceAdd,rDz,infoL,reduceSub,hb2,hb3,aC fV1 s3,p3,c21]
 refine dH rfl ?_
 simp (disch:=first|omega|simp only [aA,aB]<;>omega|decide) only [rUz,↓reduceIte,reduceEqDiff,reduceAdd,rDz,infoL,reduceSub,hb2,hb3,aC fV1 s3,p3,c21]
 refine dC (fid:=106) (first:=#[]) (captured:=#[]) (Post:=fun u h=>u = iv (jT x.1 y.1) ∧ h = g) rfl (hoff _ _ _ rfl) (by simp (disch:=first|omega|simp only [aA,aB]<;>omega|decide) only [rUz,↓reduceIte,reduceEqDiff,reduceAdd]; exact uZ S hoff g _ _) (Nat.le_of_ble_eq_true rfl) ?_
 rintro u g3 - ⟨rfl,rfl⟩
 refine ⟨?_,?_⟩
 ·try simp (disch:=first|decide|rfl) only [aK,aG,aH]
  rw [bF (v:=iv y.2) (by simp (disch:=first|omega|simp only [aA,aB]<;>omega|decide) only [rUz,↓reduceIte,reduceEqDiff,reduceAdd,rDz,infoL,reduceSub,hb3,aC fV1 s3,p3,c21]) fU]
  try simp (disch:=first|decide|rfl) only [aK,aG,aH]
  rw [bF (v:=iv x.2) (by simp (disch:=first|omega|simp only [aA,aB]<;>omega|decide) only [rUz,↓reduceIte,reduceEqDiff,reduceAdd,rDz,infoL,reduceSub,hb2,aC fV1 s3,p3,c21]) fU]
  try simp (disch:=first|decide|rfl) only [aK,aG,aH]
 simp (disch:=first|omega|simp only [aA,aB]<;>omega|decide) only [rUz,↓reduceIte,reduceEqDiff,reduceAdd,rDz,infoL,reduceSub]
 refine dC (fid:=106) (first:=#[]) (captured:=#[]) (Post:=fun u h=>u = iv (jT x.2 y.2) ∧ h = g3) rfl (hoff _ _ _ rfl) (by simp (disch:=first|omega|simp only [aA,aB]<;>omega|decide) only [rUz,↓reduceIte,reduceEqDiff,reduceAdd]; exact uZ S hoff g3 _ _) (Nat.le_of_ble_eq_true rfl) ?_
 rintro u g4 - ⟨rfl,rfl⟩
 refine ⟨?_,?_⟩
 ·try simp (disch:=first|decide|rfl) only [aK,aG,aH]
 simp (disch:=first|omega|simp only [aA,aB]<;>omega|decide) only [rUz,↓reduceIte,reduceEqDiff,reduceAdd,rDz,infoL,reduceSub]
 refine jS (aw_lit2 slI s3' z3 rfl (by omega) (u:=iv (jT x.1 y.1)) (w:=iv (jT x.2 y.2)) (l:=[iv (jT x.1 y.1),iv (jT x.2 y.2)]) (by simp (disch:=first|omega|simp only [aA,aB]<;>omega|decide) only [rUz,↓reduceIte,reduceEqDiff,reduceAdd,rDz,infoL,reduceSub]) (by simp (disch:=first|omega|simp only [aA,aB]<;>omega|decide) only [rUz,↓reduceIte,reduceEqDiff,reduceAdd,rDz,infoL,reduceSub]) rfl rfl rfl) (Nat.le_of_ble_eq_true rfl) ?_ ?_
 ·try simp (disch:=first|decide|rfl) only [aK,aG,aH]
 simp (disch:=first|omega|simp only [aA,aB]<;>omega|decide) only [rUz,↓reduceIte,reduceEqDiff,reduceAdd,rDz,infoL,reduceSub]
 refine dC (fid:=105) (first:=#[]) (captured:=#[]) (Post:=fun u h=>u = iv (orZ [jT x.1 y.1,jT x.2 y.2]) ∧ h = g4.add [iv (jT x.1 y.1),iv (jT x.2 y.2)]) rfl (hoff _ _ _ rfl) (by simp (disch:=first|omega|simp only [aA,aB]<;>omega|decide) only [rUz,↓reduceIte,reduceEqDiff,reduceAdd]; exact or_y S _ _ [jT x.1 y.1,jT x.2 y.2] (.inr ⟨g4.nx,2,g4.nx,false,rfl,Nat.lt_succ_self _,aP rfl⟩) (by simp)) (Nat.le_of_ble_eq_true rfl) ?_
 rintro u g7 - ⟨rfl,rfl⟩
 refine ⟨?_,?_⟩
 ·try simp (disch:=first|decide|rfl) only [aK,aG,aH]
 simp (disch:=first|omega|simp only [aA,aB]<;>omega|decide) only [rUz,↓reduceIte,reduceEqDiff,reduceAdd,rDz,infoL,reduceSub]
 refine S.ret ?_
 try simp only [aJ,aF]
 subst hF
 simp only [finish,aI]
 rw [show Tryz.f96.results.toList = [.tmp 4] from rfl]
 simp (disch:=first|omega|simp only [aA,aB]<;>omega|decide) only [bK,aY,aS,aT,aQ,aU,aO,upd_ne,aP,aW,result1]
 exact hK _ _ hk1.add rfl
theorem bV2 (a b:Int):fG Tryz.prog 126 [(0,iv a),(1,iv b)] = some (.agg ⟨c2 (a,b)⟩):=bV a b
theorem soonest_y (S:Ev.Steps Tryz.prog pr R) (hoff:Off pr) (h0:AHeap) (v:Value) (O:List Od) (hp:PoAt h0 v O) (hv:Val O) (j:Nat) (hj:j < O.length) (last:I2) (hl:0 ≤ last.1 ∧ last.1 ≤ 1000) :
  bD Tryz.prog R 94 [.agg ⟨poV v⟩,iv (j:Int),.agg ⟨c2 last⟩] h0 fun u _=>u = .agg ⟨c2 (kN O j last,(j:Int))⟩:=by
 refine aV (fn:=Tryz.f94) (c:=(Tryz.f94.body).getD .skip) (by kernel_rfl) rfl (by kernel_rfl) rfl (fun K hK=>?_)
 generalize hF:finish Tryz.prog Tryz.f94 K = KF
 simp only [Tryz.f94,Option.getD_some,bJ,aX,aZ,T.setK_eq,id]
 have hox:=hv.ok _ (List.mem_of_getElem? (jB hj))
 have hb1:=max2_b (od O j).lo last.1
 have hm0:=hox.m0; have hm1:=hox.m1; have hm2:=hox.m2
 have hd:=cmpI_lt (max2 (od O j).lo last.1,(j:Int)) last
 unfold kN at hK
 repeat refine S.seq ?_
 refine S.region ?_
 simp (disch:=first|omega|simp only [aA,aB]<;>omega|decide) only [rUz,↓reduceIte,reduceEqDiff,reduceAdd,cO zV]
 obtain ⟨B3,hB3⟩:∃ x,x = h0.nx:=⟨_,rfl⟩
 obtain ⟨B5,hB5⟩:∃ x,x = h0.nx + 1:=⟨_,rfl⟩
 obtain ⟨B6,hB6⟩:∃ x,x = h0.nx + 2:=⟨_,rfl⟩
 have hb3:(((h0.add (poV v)).add (c2 last)).add [iv 0,iv 0]).bl.get B3 = some (.cells (poV v) B3 false):=by
  rw [aW (by show B3 ≠ h0.nx + 2; omega),aW (by show B3 ≠ h0.nx + 1; omega)]; subst hB3; exact aP rfl
 have hb5:(((h0.add (poV v)).add (c2 last)).add [iv 0,iv 0]).bl.get B5 = some (.cells (c2 last) B5 false):=by
  rw [aW (by show B5 ≠ h0.nx + 2; omega)]; subst hB5; exact aP rfl
 have hb6:(((h0.add (poV v)).add (c2 last)).add [iv 0,iv 0]).bl.get B6 = some (.cells [iv 0,iv 0] B6 false):=by subst hB6; exact aP rfl
 have hf6:(((h0.add (poV v)).add (c2 last)).add [iv 0,iv 0]).fams.get B6 = some [B6]:=by subst hB6; exact dL rfl
 have hk1:Kp h0 (((h0.add (poV v)).add (c2 last)).add [iv 0,iv 0]):=Kp.refl.add.add.add
 have hnG:(((h0.add (poV v)).add (c2 last)).add [iv 0,iv 0]).nx = h0.nx + 3:=rfl
 rw [← hB6,← hB5,← hB3]
 generalize ((h0.add (poV v)).add (c2 last)).add [iv 0,iv 0] = G at hb3 hb5 hb6 hf6 hk1 hnG ⊢
 have hpo:=hp.mono hk1
 obtain ⟨b2,f2,o2,c2',r1,r2,r3,r4,r5,r6⟩:=dM hpo slcO scO (jB hj)
 have c3:=r6 3 _ (cOd3 (od O j))
 obtain ⟨B7,hB7⟩:∃ x,x = G.nx:=⟨_,rfl⟩
 generalize hmq:max2 (od O j).lo last.1 = m at hb1 hd hK
 repeat refine S.seq ?_
 refine S.drawnM [(false,0),(false,1),(false,0),(false,7),(false,15),(false,31),(false,63),(false,0),(false,128),(true,384),(true,1023),(false,0),(false,4095),(true,0),(true,16383)] 8192 [13] (by kernel_rfl) (by kernel_rfl) (by kernel_rfl) (by kernel_rfl) (by kernel_rfl) ?_
 generalize hJJ:(fun (t:T Value) (h:AHeap)=>_) = KJ
 suffices hJ:∀ t h,Kp h0 h → tget t 5 = bG B5 → tget t 6 = bG B6 → tget t 7 = bG B7 → B7 < h.nx → h.bl.get B5 = some (.cells (c2 last) B5 false) → h.bl.get B6 = some (.cells [iv 0,iv 0] B6 false) → h.fams.get B6 = some [B6] → h.bl.get B7 = some (.cells (c2 (m,(j:Int))) B7 false) → h.fams.get B7 = some [B7] → KJ t h = true by
  clear hJJ hK
  simp (disch:=first|omega|simp only [aA,aB]<;>omega|decide) only [rUz,↓reduceIte,reduceEqDiff,reduceAdd,rMz,infoL,reduceSub,res_bl,hb3,hb5,aC fB0 lcO,aC fcO3 ScR,aC fcR0 s3,aC fV0 s3,qcO,po0,r1,r3,p3,c3,c20]
  refine jD rfl ?_
  simp (disch:=first|omega|simp only [aA,aB]<;>omega|decide) only [rUz,↓reduceIte,reduceEqDiff,reduceAdd,rMz,infoL,reduceSub]
  refine mZ rfl rfl ?_
  have hbl:∀ (k:Nat) (c:List Value),k ≠ G.nx + 1 → ((G.res).add c).bl.get k = G.bl.get k:=fun k c hk=>by rw [aW hk,res_bl]
  refine dmW_some (v:=.slice (some ⟨G.nx + 1,0,none⟩) 1 1) (h':=(G.res).add [iv last.1]) rfl rfl (qZ slI s3' z3 rfl (by omega) (u:=iv last.1) (l:=[iv last.1]) (by simp (disch:=first|omega|simp only [aA,aB]<;>omega|decide) only [rUz,↓reduceIte,reduceEqDiff,reduceAdd,rMz,infoL,reduceSub]) rfl rfl) (Nat.le_of_ble_eq_true rfl) ?_ ?_
  ·have hb3x:=(hbl B3 [iv last.1] (by omega)).trans hb3
   have hbo:=(hbl b2 [iv last.1] (by omega)).trans r3
   try simp (disch:=first|decide|rfl) only [aK,aG,aH]
   rw [bF (v:=iv (od O j).lo) (by simp (disch:=first|omega|simp only [aA,aB]<;>omega|decide) only [rUz,↓reduceIte,reduceEqDiff,reduceAdd,rDz,infoL,reduceSub,hbo,p3,c3]) fU]
   try simp (disch:=first|decide|rfl) only [aK,aG,aH]
   rw [bF (v:=v) (by simp (disch:=first|omega|simp only [aA,aB]<;>omega|decide) only [rUz,↓reduceIte,reduceEqDiff,reduceAdd,rDz,infoL,reduceSub,hb3x,aC fB0 lcO,qcO,po0]) (rF hpo)]
   try simp (disch:=first|decide|rfl) only [aK,aG,aH]
  simp (disch:=first|omega|simp only [aA,aB]<;>omega|decide) only [rUz,↓reduceIte,reduceEqDiff,reduceAdd,rMz,infoL,reduceSub]
  refine mZ rfl rfl ?_
  refine qY (fid:=92) (first:=#[]) (captured:=#[]) (Post:=fun u h'=>u = iv ([last.1].foldl max2 (od O j).lo) ∧ h' = (G.res).add [iv last.1]) rfl rfl (by simp (disch:=first|omega|simp only [aA,aB]<;>omega|decide) only [rUz,↓reduceIte,reduceEqDiff,reduceAdd,rMz,infoL,reduceSub]) (hoff _ _ _ rfl) (by simp (disch:=first|omega|simp only [aA,aB]<;>omega|decide) only [rUz,↓reduceIte,reduceEqDiff,reduceAdd,rMz,infoL,reduceSub]; exact greatest_y S _ (od O j).lo _ [last.1] (.inr ⟨G.nx + 1,1,G.nx + 1,false,rfl,Nat.lt_succ_self _,aP rfl⟩) (by simp)) (Nat.le_of_ble_eq_true rfl) ?_
  rintro u g - ⟨rfl,rfl⟩
  refine ⟨?_,?_⟩
  ·try simp (disch:=first|decide|rfl) only [aK,aG,aH]
  have hres:((G.res).add [iv last.1]).fams.get G.nx = some []:=by rw [nD (by show G.nx ≠ G.nx + 1; omega)]; exact res_fe rfl
  have hkr:Kp h0 ((G.res).add [iv last.1]):=hk1.res.add
  simp (disch:=first|omega|simp only [aA,aB]<;>omega|decide) only [rUz,↓reduceIte,reduceEqDiff,reduceAdd,rMz,infoL,reduceSub,List.foldl_cons,List.foldl_nil,hmq,fF,List.map_cons,List.map_nil,bV2]
  refine mZ rfl rfl ?_
  refine dmW_alloc (r:=G.nx) (z:=.agg ⟨[iv 0,iv 0]⟩) rfl zV hres (Nat.le_of_ble_eq_true rfl) ?_ ?_
  ·have hb3x:(((G.res).add [iv last.1]).putAt G.nx [iv 0,iv 0]).bl.get B3 = some (.cells (poV v) B3 false):=by rw [iY (by omega)]; exact (hbl B3 [iv last.1] (by omega)).trans hb3
   have hb5x:(((G.res).add [iv last.1]).putAt G.nx [iv 0,iv 0]).bl.get B5 = some (.cells (c2 last) B5 false):=by rw [iY (by omega)]; exact (hbl B5 [iv last.1] (by omega)).trans hb5
   have hbo:(((G.res).add [iv last.1]).putAt G.nx [iv 0,iv 0]).bl.get b2 = some (.cells c2' f2 o2):=by rw [iY (by omega)]; exact (hbl b2 [iv last.1] (by omega)).trans r3
   try simp (disch:=first|decide|rfl) only [aK,aG,aH]
   rw [bF (v:=iv last.1) (by simp (disch:=first|omega|simp only [aA,aB]<;>omega|decide) only [rUz,↓reduceIte,reduceEqDiff,reduceAdd,rDz,infoL,reduceSub,hb5x,aC fV0 s3,p3,c20]) fU]
   try simp (disch:=first|decide|rfl) only [aK,aG,aH]
   rw [bF (v:=iv (od O j).lo) (by simp (disch:=first|omega|simp only [aA,aB]<;>omega|decide) only [rUz,↓reduceIte,reduceEqDiff,reduceAdd,rDz,infoL,reduceSub,hbo,p3,c3]) fU]
   try simp (disch:=first|decide|rfl) only [aK,aG,aH]
   rw [bF (v:=v) (by simp (disch:=first|omega|simp only [aA,aB]<;>omega|decide) only [rUz,↓reduceIte,reduceEqDiff,reduceAdd,rDz,infoL,reduceSub,hb3x,aC fB0 lcO,qcO,po0]) (rF hpo)]
   try simp (disch:=first|decide|rfl) only [aK,aG,aH]
  simp (disch:=first|omega|simp only [aA,aB]<;>omega|decide) only [rUz,↓reduceIte,reduceEqDiff,reduceAdd,rMz,infoL,reduceSub]
  refine mZ rfl rfl ?_
  refine dmW_none rfl rfl (aw_storeN (B:=G.nx) (ls:=c2 (m,(j:Int))) (by simp (disch:=first|omega|simp only [aA,aB]<;>omega|decide) only [rUz,↓reduceIte,reduceEqDiff,reduceAdd,rMz,infoL,reduceSub]) (by simp (disch:=first|omega|simp only [aA,aB]<;>omega|decide) only [rUz,↓reduceIte,reduceEqDiff,reduceAdd,rMz,infoL,reduceSub]) sV (by omega) rfl (by simp (disch:=first|omega|simp only [aA,aB]<;>omega|decide) only [putAt_eq]; rfl) (by simp (disch:=first|omega|simp only [aA,aB]<;>omega|decide) only [tJ]; rfl) rfl) ?_ ?_
  ·try simp (disch:=first|decide|rfl) only [aK,aG,aH]
  simp (disch:=first|omega|simp only [aA,aB]<;>omega|decide) only [rUz,↓reduceIte,reduceEqDiff,reduceAdd,rMz,infoL,reduceSub]
  subst hB7
  refine hJ _ _ ?_ ?_ ?_ ?_ ?_ ?_ ?_ ?_ ?_ ?_
  ·exact (hkr.putAt (by omega)).upd (by omega)
  ·simp (disch:=first|omega|simp only [aA,aB]<;>omega|decide) only [rUz,↓reduceIte,reduceEqDiff,reduceAdd]
  ·simp (disch:=first|omega|simp only [aA,aB]<;>omega|decide) only [rUz,↓reduceIte,reduceEqDiff,reduceAdd]
  ·simp (disch:=first|omega|simp only [aA,aB]<;>omega|decide) only [rUz,↓reduceIte,reduceEqDiff,reduceAdd]
  ·show G.nx < G.nx + 2; omega
  ·rw [upd_ne _ _ _ (by omega),iY (by omega)]; exact (hbl B5 [iv last.1] (by omega)).trans hb5
  ·rw [upd_ne _ _ _ (by omega),iY (by omega)]; exact (hbl B6 [iv last.1] (by omega)).trans hb6
  ·rw [bM,putAt_fn (by omega),nD (by show B6 ≠ G.nx + 1; omega),res_fn (by omega)]; exact hf6
  ·exact aO _ _ _
  ·rw [bM]; exact tJ rfl
 have h67:B6 ≠ B7:=by omega
 have h67l:B6 < B7:=by omega
 have h70:h0.nx ≤ B7:=by omega
 have h60:h0.nx ≤ B6:=by omega
 clear hb3 hb5 hb6 hf6 r1 r2 r3 r4 r5 r6 c3 hpo hB3 hB5 hB6 hB7 hnG hk1
 intro t h hk t5 t6 t7 hn7 hb5 hb6 hf6 hb7 hf7
 subst hJJ
 simp only [fM]
 repeat refine S.seq ?_
 refine S.region ?_
 simp (disch:=first|omega|simp only [aA,aB]<;>omega|decide) only [rUz,↓reduceIte,reduceEqDiff,reduceAdd,t5,t7,hb5,hb7,bT pV (kX _)]
 refine bC (fid:=96) (first:=#[]) (captured:=#[]) (Post:=fun u _=>u = iv (cmpI (m,(j:Int)) last)) rfl (hoff _ _ _ rfl) (by simp (disch:=first|omega|simp only [aA,aB]<;>omega|decide) only [rUz,↓reduceIte,reduceEqDiff,reduceAdd]; exact cmpI_y S hoff h (m,(j:Int)) last) ?_
 rintro u g hkg rfl
 have hb7g:=(hkg.get hn7).trans hb7
 have hf7g:=(hkg.fget hn7).trans hf7
 have hk':=hk.trans hkg
 have hbt6:g.bl.get B6 = some (.cells [iv 0,iv 0] B6 false) ∧ g.fams.get B6 = some [B6]:=by
  have h6n:B6 < h.nx:=by omega
  exact ⟨(hkg.get h6n).trans hb6,(hkg.fget h6n).trans hf6⟩
 simp (disch:=first|omega|simp only [aA,aB]<;>omega|decide) only [rUz,↓reduceIte,reduceEqDiff,reduceAdd,hd]
 cases hc:decide (m < last.1) || (decide (m = last.1) && decide ((j:Int) < last.2)) with
 | true =>
  rw [hc,cond_true] at hK
  repeat refine S.seq ?_
  refine S.cond (v:=true) (by first|rfl|(simp (disch:=first|omega|simp only [aA,aB]<;>omega|decide) only [rUz,↓reduceIte,reduceEqDiff,reduceAdd,hc]<;>rfl)) (fun _=>?_) (fun e=>by cases e)
  repeat refine S.seq ?_
  refine S.region ?_
  simp (disch:=first|omega|simp only [aA,aB]<;>omega|decide) only [rUz,↓reduceIte,reduceEqDiff,reduceAdd,t7,hb7g,aC fV0 s3,p3,c20]
  refine mP s3' ?_
  simp (disch:=first|omega|simp only [aA,aB]<;>omega|decide) only [rUz,↓reduceIte,reduceEqDiff,reduceAdd,hb7g,hf7g]
  have hpt:dD Tryz.prog 126 ((c2 (m,(j:Int))).set 0 (iv (m + 1))) 0 = some (.agg ⟨c2 (m + 1,(j:Int))⟩):=bT pV rfl
  repeat refine S.seq ?_
  refine S.region ?_
  simp (disch:=first|omega|simp only [aA,aB]<;>omega|decide) only [rUz,↓reduceIte,reduceEqDiff,reduceAdd,t7,hpt]
  refine dF (B:=B6) (c:=[iv 0,iv 0]) (fam:=B6) (k:=B6) (l:=c2 (m + 1,(j:Int))) (by simp (disch:=first|omega|simp only [aA,aB]<;>omega|decide) only [rUz,↓reduceIte,reduceEqDiff,reduceAdd,t6]) (by simp (disch:=first|omega|simp only [aA,aB]<;>omega|decide) only [rUz,↓reduceIte,reduceEqDiff,reduceAdd]) sV (by omega) rfl (by rw [upd_ne _ _ _ h67]; exact hbt6.1) (by rw [bM]; exact hbt6.2) rfl ?_
  simp (disch:=first|omega|simp only [aA,aB]<;>omega|decide) only [rUz,↓reduceIte,reduceEqDiff,reduceAdd]
  refine S.ret ?_
  try simp only [aJ,aF]
  subst hF
  simp only [finish,aI]
  rw [show Tryz.f94.results.toList = [.cell 6 126] from rfl]
  simp (disch:=first|omega|simp only [aA,aB]<;>omega|decide) only [bK,aY,aS,aT,aQ,aU,aO,upd_ne,aP,aW,result1,t6,bT pV (kX (m + 1,(j:Int)))]
  exact hK _ _ ((hk'.upd h70).upd h60) rfl
 | false =>
  rw [hc,cond_false] at hK
  repeat refine S.seq ?_
  refine S.cond (v:=false) (by first|rfl|(simp (disch:=first|omega|simp only [aA,aB]<;>omega|decide) only [rUz,↓reduceIte,reduceEqDiff,reduceAdd,hc]<;>rfl)) (fun e=>by cases e) (fun _=>?_)
  repeat refine S.seq ?_
  refine S.skip ?_
  simp (disch:=first|omega|simp only [aA,aB]<;>omega|decide) only [rUz,↓reduceIte,reduceEqDiff,reduceAdd]
  repeat refine S.seq ?_
  refine S.region ?_
  simp (disch:=first|omega|simp only [aA,aB]<;>omega|decide) only [rUz,↓reduceIte,reduceEqDiff,reduceAdd,t7,hb7g,bT pV (kX _)]
  refine dF (B:=B6) (c:=[iv 0,iv 0]) (fam:=B6) (k:=B6) (l:=c2 (m,(j:Int))) (by simp (disch:=first|omega|simp only [aA,aB]<;>omega|decide) only [rUz,↓reduceIte,reduceEqDiff,reduceAdd,t6]) (by simp (disch:=first|omega|simp only [aA,aB]<;>omega|decide) only [rUz,↓reduceIte,reduceEqDiff,reduceAdd]) sV (by omega) rfl hbt6.1 hbt6.2 rfl ?_
  simp (disch:=first|omega|simp only [aA,aB]<;>omega|decide) only [rUz,↓reduceIte,reduceEqDiff,reduceAdd]
  refine S.ret ?_
  try simp only [aJ,aF]
  subst hF
  simp only [finish,aI]
  rw [show Tryz.f94.results.toList = [.cell 6 126] from rfl]
  simp (disch:=first|omega|simp only [aA,aB]<;>omega|decide) only [bK,aY,aS,aT,aQ,aU,aO,upd_ne,aP,aW,result1,t6,bT pV (kX (m,(j:Int)))]
  exact hK _ _ (hk'.upd h60) rfl
end Go.Proofs.Po

/- Whether a number is in a list; the others of a list. -/
namespace Go.Proofs.Po
open Nat (reduceEqDiff reduceAdd reduceSub)
open Go Go.Ev Go.RowKit
set_option linter.unusedSimpArgs false
variable {pr:Prim} {R:ExT}
/-- Where a number is in a list. -/
def idxI (x:Int):List Int → Nat → Int
 | [],_=>-1
 | y :: l,i=>bif decide (x = y) then (i:Int) else idxI x l (i + 1)
def hasI (l:List Int) (x:Int):Bool:=l.any fun y=>decide (x = y)
theorem idxI_ge (x:Int):∀ (l:List Int) (i:Nat),decide (0 ≤ idxI x l i) = hasI l x
 | [],i=>rfl
 | y :: l,i=>by
  unfold idxI hasI
  rw [List.any_cons]
  cases decide (x = y) with
  | true=>rw [cond_true,Bool.true_or,decide_eq_true (by omega)]
  | false=>rw [cond_false,Bool.false_or,idxI_ge x l (i + 1)]; rfl
def IXi (x:Int) (l:List Int) (H:AHeap) (v:Value) (k:Nat) (t:T Value) (h:AHeap):Prop:=
 k ≤ l.length ∧ idxI x l 0 = idxI x (l.drop k) k ∧ h = H ∧ tget t 0 = v ∧ tget t 1 = iv x ∧ tget t 7 = iv (l.length:Int) ∧ tget t 8 = iv (k:Int)
theorem index_y (S:Ev.Steps Tryz.prog pr R) (h0:AHeap) (v:Value) (l:List Int) (x:Int) (hl:IAt h0 v l) (hsz:(l.length:Int) ≤ 1000000) :
  bD Tryz.prog R 103 [v,iv x] h0 fun u h=>u = iv (idxI x l 0) ∧ h = h0:=by
 refine aV (fn:=Tryz.f103) (c:=(Tryz.f103.body).getD .skip) (by kernel_rfl) rfl (by kernel_rfl) rfl (fun K hK=>?_)
 generalize hF:finish Tryz.prog Tryz.f103 K = KF
 simp only [Tryz.f103,Option.getD_some,bJ,aX,aZ,T.setK_eq,id]
 have hlen:=fun t h1 o=>o5 hl t h1 o
 repeat refine S.seq ?_
 refine S.region ?_
 simp (disch:=first|omega|simp only [aA,aB]<;>omega|decide) only [rUz,↓reduceIte,reduceEqDiff,reduceAdd]
 repeat refine S.seq ?_
 refine S.region ?_
 simp (disch:=first|omega|simp only [aA,aB]<;>omega|decide) only [rUz,↓reduceIte,reduceEqDiff,reduceAdd,hlen]
 repeat refine S.seq ?_
 refine S.block ?_
 refine S.loop (ι:=Nat) (IXi x l h0 v) (fun k=>l.length - k) ?_ 0 _ _ ?_
 rotate_left
 ·refine ⟨Nat.zero_le _,rfl,rfl,?_,?_,?_,?_⟩
  all_goals (first|rfl|(simp (disch:=first|omega|simp only [aA,aB]<;>omega|decide) only [rUz,↓reduceIte,reduceEqDiff,reduceAdd]<;>rfl))
 intro k t h ⟨hk,hfb,hh,t0,t1,t7,t8⟩ K' hn he
 subst hh
 repeat refine S.seq ?_
 refine S.region ?_
 simp (disch:=first|omega|simp only [aA,aB]<;>omega|decide) only [rUz,↓reduceIte,reduceEqDiff,reduceAdd,t7,t8]
 repeat refine S.seq ?_
 refine S.cond (v:=decide ((k:Int) < (l.length:Int))) (by first|rfl|(simp (disch:=first|omega|simp only [aA,aB]<;>omega|decide) only [rUz,↓reduceIte,reduceEqDiff,reduceAdd]<;>rfl)) (fun e=>?_) (fun e=>?_)
 ·have hkn:k < l.length:=by have:=of_decide_eq_true e; omega
  clear e
  rw [List.drop_eq_getElem_cons hkn] at hfb
  simp only [idxI] at hfb
  obtain ⟨rb,rf,rw0,r1,r2,r3,r4⟩:=hl.idx slI s3' hkn
  generalize l[k] = y at hfb r4
  repeat refine S.seq ?_
  refine S.skip ?_
  simp (disch:=first|omega|simp only [aA,aB]<;>omega|decide) only [rUz,↓reduceIte,reduceEqDiff,reduceAdd]
  repeat refine S.seq ?_
  refine S.block ?_
  repeat refine S.seq ?_
  refine S.region ?_
  simp (disch:=first|omega|simp only [aA,aB]<;>omega|decide) only [rUz,↓reduceIte,reduceEqDiff,reduceAdd,t8]
  repeat refine S.seq ?_
  refine S.region ?_
  simp (disch:=first|omega|simp only [aA,aB]<;>omega|decide) only [rUz,↓reduceIte,reduceEqDiff,reduceAdd,t0,t1,t8,r1,r3,p3,r4]
  cases hq:decide (x = y) with
  | true =>
   rw [hq,cond_true] at hfb
   repeat refine S.seq ?_
   refine S.cond (v:=true) (by first|rfl|(simp (disch:=first|omega|simp only [aA,aB]<;>omega|decide) only [rUz,↓reduceIte,reduceEqDiff,reduceAdd,hq]<;>rfl)) (fun _=>?_) (fun e=>by cases e)
   repeat refine S.seq ?_
   refine S.region ?_
   simp (disch:=first|omega|simp only [aA,aB]<;>omega|decide) only [rUz,↓reduceIte,reduceEqDiff,reduceAdd]
   refine S.ret ?_
   simp only [aJ,aF]
   refine he _ _ _ _ (fun e=>by cases e) ?_
   try simp only [aJ,aF]
   subst hF
   simp only [finish,aI]
   rw [show Tryz.f103.results.toList = [.tmp 4] from rfl]
   simp (disch:=first|omega|simp only [aA,aB]<;>omega|decide) only [bK,aY,aS,aT,aQ,aU,aO,upd_ne,aP,aW,result1]
   exact hK _ _ Kp.refl ⟨by rw [hfb],rfl⟩
  | false =>
   rw [hq,cond_false] at hfb
   repeat refine S.seq ?_
   refine S.cond (v:=false) (by first|rfl|(simp (disch:=first|omega|simp only [aA,aB]<;>omega|decide) only [rUz,↓reduceIte,reduceEqDiff,reduceAdd,hq]<;>rfl)) (fun e=>by cases e) (fun _=>?_)
   repeat refine S.seq ?_
   refine S.skip ?_
   simp (disch:=first|omega|simp only [aA,aB]<;>omega|decide) only [rUz,↓reduceIte,reduceEqDiff,reduceAdd]
   repeat refine S.seq ?_
   refine S.region ?_
   simp (disch:=first|omega|simp only [aA,aB]<;>omega|decide) only [rUz,↓reduceIte,reduceEqDiff,reduceAdd,t8]
   refine hn (k + 1) _ _ (by omega) ⟨by omega,hfb,rfl,?_,?_,?_,?_⟩
   all_goals (first|rfl|(simp (disch:=first|omega|simp only [aA,aB]<;>omega|decide) only [rUz,↓reduceIte,reduceEqDiff,reduceAdd,t0,t1,t7]<;>rfl))
 have hkn:k = l.length:=by have:=of_decide_eq_false e; omega
 subst hkn
 rw [List.drop_of_length_le (Nat.le_refl _)] at hfb
 refine S.exit (he _ _ _ _ (fun e=>by cases e) ?_)
 simp (disch:=first|omega|simp only [aA,aB]<;>omega|decide) only [rUz,↓reduceIte,reduceEqDiff,reduceAdd]
 repeat refine S.seq ?_
 refine S.region ?_
 simp (disch:=first|omega|simp only [aA,aB]<;>omega|decide) only [rUz,↓reduceIte,reduceEqDiff,reduceAdd]
 refine S.ret ?_
 try simp only [aJ,aF]
 subst hF
 simp only [finish,aI]
 rw [show Tryz.f103.results.toList = [.tmp 4] from rfl]
 simp (disch:=first|omega|simp only [aA,aB]<;>omega|decide) only [bK,aY,aS,aT,aQ,aU,aO,upd_ne,aP,aW,result1]
 exact hK _ _ Kp.refl ⟨by rw [hfb]; rfl,rfl⟩
theorem contains_y (S:Ev.Steps Tryz.prog pr R) (hoff:Off pr) (h0:AHeap) (v:Value) (l:List Int) (x:Int) (hl:IAt h0 v l) (hsz:(l.length:Int) ≤ 1000000) :
  bD Tryz.prog R 83 [v,iv x] h0 fun u h=>u = .bool (hasI l x) ∧ h = h0:=by
 refine aV (fn:=Tryz.f83) (c:=(Tryz.f83.body).getD .skip) (by kernel_rfl) rfl (by kernel_rfl) rfl (fun K hK=>?_)
 generalize hF:finish Tryz.prog Tryz.f83 K = KF
 simp only [Tryz.f83,Option.getD_some,bJ,aX,aZ,T.setK_eq,id]
 have hge:=idxI_ge x l 0
 repeat refine S.seq ?_
 refine S.region ?_
 simp (disch:=first|omega|simp only [aA,aB]<;>omega|decide) only [rUz,↓reduceIte,reduceEqDiff,reduceAdd]
 repeat refine S.seq ?_
 refine S.region ?_
 simp (disch:=first|omega|simp only [aA,aB]<;>omega|decide) only [rUz,↓reduceIte,reduceEqDiff,reduceAdd]
 refine bC (fid:=103) (first:=#[]) (captured:=#[]) (Post:=fun u h=>u = iv (idxI x l 0) ∧ h = h0) rfl (hoff _ _ _ rfl) (by simp (disch:=first|omega|simp only [aA,aB]<;>omega|decide) only [rUz,↓reduceIte,reduceEqDiff,reduceAdd]; exact index_y S h0 v l x hl hsz) ?_
 rintro u g - ⟨rfl,rfl⟩
 simp (disch:=first|omega|simp only [aA,aB]<;>omega|decide) only [rUz,↓reduceIte,reduceEqDiff,reduceAdd,hge]
 refine S.ret ?_
 try simp only [aJ,aF]
 subst hF
 simp only [finish,aI]
 rw [show Tryz.f83.results.toList = [.tmp 4] from rfl]
 simp (disch:=first|omega|simp only [aA,aB]<;>omega|decide) only [bK,aY,aS,aT,aQ,aU,aO,upd_ne,aP,aW,result1]
 exact hK _ _ Kp.refl ⟨rfl,rfl⟩
/-! ## The others -/
def kP {α:Type} (p:Nat → Bool):List α → Nat → List α
 | [],_=>[]
 | x :: l,i=>bif p i then kP p l (i + 1) else x :: kP p l (i + 1)
theorem othG_len {α:Type} (p:Nat → Bool):∀ (l:List α) (i:Nat),(kP p l i).length ≤ l.length
 | [],_=>Nat.le_refl _
 | x :: l,i=>by
  have:=othG_len p l (i + 1)
  unfold kP
  cases p i with
  | true=>rw [cond_true,List.length_cons]; omega
  | false=>rw [cond_false,List.length_cons,List.length_cons]; omega
theorem othG_map {α β:Type} (f:α → β) (p:Nat → Bool):∀ (l:List α) (i:Nat),kP p (l.map f) i = (kP p l i).map f
 | [],_=>rfl
 | x :: l,i=>by
  rw [List.map_cons]
  unfold kP
  cases p i with
  | true=>rw [cond_true,cond_true,othG_map f p l]
  | false=>rw [cond_false,cond_false,List.map_cons,othG_map f p l]
theorem othG_none {α:Type} {p:Nat → Bool}:∀ (l:List α) (i:Nat),(∀ j,i ≤ j → p j = false) → kP p l i = l
 | [],_,_=>rfl
 | x :: l,i,h=>by
  unfold kP
  rw [h i (Nat.le_refl _),cond_false,othG_none l (i + 1) fun j hj=>h j (by omega)]
theorem othG_erase {α:Type} {p:Nat → Bool}:∀ (l:List α) (i k:Nat),(∀ j,p j = decide (j = i + k)) → kP p l i = l.eraseIdx k
 | [],_,_,_=>rfl
 | x :: l,i,0,h=>by
  unfold kP
  rw [h i,decide_eq_true (by omega:i = i + 0),cond_true,othG_none l (i + 1) fun j hj=>by rw [h j,decide_eq_false (by omega)]]
  rfl
 | x :: l,i,k + 1,h=>by
  unfold kP
  rw [h i,decide_eq_false (by omega),cond_false,othG_erase l (i + 1) k fun j=>by rw [h j]; congr 1; rw [eq_iff_iff]; omega]
  rfl
def kZ (first:Int) (left:List Int) (i:Nat):Bool:=hasI left (first + (i:Int))
structure IOi (l left:List Int) (first:Int) (H:AHeap) (lv ev0:Value) (k:Nat) (t:T Value) (h:AHeap):Prop where
 kp:Kp H h
 ex:∃ (cs:List Int) (vp:Value) (F:Nat),App H.nx h 1 vp (i1 cs) F ∧ cs ++ kP (kZ first left) (l.drop k) k = kP (kZ first left) l 0 ∧ cs.length ≤ k ∧ tget t 7 = vp
 t1:tget t 1 = iv first
 t2:tget t 2 = lv
 t10:tget t 10 = ev0
 t11:tget t 11 = iv (l.length:Int)
 t12:tget t 12 = iv (k:Int)
 hk:k ≤ l.length
theorem othersI_y (S:Ev.Steps Tryz.prog pr R) (hoff:Off pr) (h0:AHeap) (v lv:Value) (l left:List Int) (first:Int) (hl:IAt h0 v l) (hsz:l.length ≤ 1000) (hf : -1000 ≤ first ∧ first ≤ 1000) (hlv:IAt h0 lv left) (hls:left.length ≤ 1000) :
  bD Tryz.prog R 74 [v,iv first,lv] h0 fun u h=>∃ F,App h0.nx h 1 u (i1 (kP (kZ first left) l 0)) F:=by
 refine aV (fn:=Tryz.f74) (c:=(Tryz.f74.body).getD .skip) (by kernel_rfl) rfl (by kernel_rfl) rfl (fun K hK=>?_)
 generalize hF:finish Tryz.prog Tryz.f74 K = KF
 simp only [Tryz.f74,Option.getD_some,bJ,aX,aZ,T.setK_eq,id]
 have hlen:=fun t h1 o=>o5 hl t h1 o
 repeat refine S.seq ?_
 refine S.region ?_
 simp (disch:=first|omega|simp only [aA,aB]<;>omega|decide) only [rUz,↓reduceIte,reduceEqDiff,reduceAdd]
 repeat refine S.seq ?_
 refine S.region ?_
 simp (disch:=first|omega|simp only [aA,aB]<;>omega|decide) only [rUz,↓reduceIte,reduceEqDiff,reduceAdd]
 repeat refine S.seq ?_
 refine S.region ?_
 simp (disch:=first|omega|simp only [aA,aB]<;>omega|decide) only [rUz,↓reduceIte,reduceEqDiff,reduceAdd,hlen]
 repeat refine S.seq ?_
 refine S.block ?_
 refine S.loop (ι:=Nat) (IOi l left first h0 lv v) (fun k=>l.length - k) ?_ 0 _ _ ?_
 rotate_left
 ·refine ⟨Kp.refl,⟨[],nl,0,.inl ⟨rfl,rfl⟩,rfl,Nat.le_refl _,?_⟩,?_,?_,?_,?_,?_,Nat.zero_le _⟩
  all_goals (first|rfl|(simp (disch:=first|omega|simp only [aA,aB]<;>omega|decide) only [rUz,↓reduceIte,reduceEqDiff,reduceAdd]<;>rfl))
 intro k t h ⟨kp,⟨cs,vp,F,app,hcs,hcl,t7⟩,t1,t2,t10,t11,t12,hk⟩ K' hn he
 have hnx:=kp.1
 repeat refine S.seq ?_
 refine S.region ?_
 simp (disch:=first|omega|simp only [aA,aB]<;>omega|decide) only [rUz,↓reduceIte,reduceEqDiff,reduceAdd,t11,t12]
 repeat refine S.seq ?_
 refine S.cond (v:=decide ((k:Int) < (l.length:Int))) (by first|rfl|(simp (disch:=first|omega|simp only [aA,aB]<;>omega|decide) only [rUz,↓reduceIte,reduceEqDiff,reduceAdd]<;>rfl)) (fun e=>?_) (fun e=>?_)
 ·have hkn:k < l.length:=by have:=of_decide_eq_true e; omega
  clear e
  rw [List.drop_eq_getElem_cons hkn] at hcs
  simp only [kP] at hcs
  obtain ⟨rb,rf,rw0,r1,r2,r3,r4⟩:=(hl.mono kp).idx slI s3' hkn
  generalize l[k] = y at hcs r4
  repeat refine S.seq ?_
  refine S.skip ?_
  simp (disch:=first|omega|simp only [aA,aB]<;>omega|decide) only [rUz,↓reduceIte,reduceEqDiff,reduceAdd]
  repeat refine S.seq ?_
  refine S.block ?_
  repeat refine S.seq ?_
  refine S.region ?_
  simp (disch:=first|omega|simp only [aA,aB]<;>omega|decide) only [rUz,↓reduceIte,reduceEqDiff,reduceAdd,t10,t12,r1,r3,p3,r4]
  repeat refine S.seq ?_
  refine S.region ?_
  simp (disch:=first|omega|simp only [aA,aB]<;>omega|decide) only [rUz,↓reduceIte,reduceEqDiff,reduceAdd,t1,t2,t12]
  refine bC (fid:=83) (first:=#[]) (captured:=#[]) (Post:=fun u h'=>u = .bool (hasI left (first + (k:Int))) ∧ h' = h) rfl (hoff _ _ _ rfl) (by simp (disch:=first|omega|simp only [aA,aB]<;>omega|decide) only [rUz,↓reduceIte,reduceEqDiff,reduceAdd]; exact contains_y S hoff h lv left (first + (k:Int)) (hlv.mono kp) (by omega)) ?_
  rintro u g - ⟨rfl,rfl⟩
  simp (disch:=first|omega|simp only [aA,aB]<;>omega|decide) only [rUz,↓reduceIte,reduceEqDiff,reduceAdd,dX]
  cases hq:hasI left (first + (k:Int)) with
  | true =>
   have hq':kZ first left k = true:=hq
   rw [hq',cond_true] at hcs
   repeat refine S.seq ?_
   refine S.cond (v:=false) (by first|rfl|(simp (disch:=first|omega|simp only [aA,aB]<;>omega|decide) only [rUz,↓reduceIte,reduceEqDiff,reduceAdd,hq,Bool.not_true]<;>rfl)) (fun e=>by cases e) (fun _=>?_)
   repeat refine S.seq ?_
   refine S.skip ?_
   simp (disch:=first|omega|simp only [aA,aB]<;>omega|decide) only [rUz,↓reduceIte,reduceEqDiff,reduceAdd]
   repeat refine S.seq ?_
   refine S.region ?_
   simp (disch:=first|omega|simp only [aA,aB]<;>omega|decide) only [rUz,↓reduceIte,reduceEqDiff,reduceAdd,t12]
   refine hn (k + 1) _ _ (by omega) ⟨kp,⟨cs,vp,F,app,hcs,by omega,?_⟩,?_,?_,?_,?_,?_,by omega⟩
   all_goals (first|rfl|(simp (disch:=first|omega|simp only [aA,aB]<;>omega|decide) only [rUz,↓reduceIte,reduceEqDiff,reduceAdd,t1,t2,t7,t10,t11]<;>rfl))
  | false =>
   have hq':kZ first left k = false:=hq
   rw [hq',cond_false] at hcs
   repeat refine S.seq ?_
   refine S.cond (v:=true) (by first|rfl|(simp (disch:=first|omega|simp only [aA,aB]<;>omega|decide) only [rUz,↓reduceIte,reduceEqDiff,reduceAdd,hq,Bool.not_false]<;>rfl)) (fun _=>?_) (fun e=>by cases e)
   repeat refine S.seq ?_
   refine S.region ?_
   simp (disch:=first|omega|simp only [aA,aB]<;>omega|decide) only [rUz,↓reduceIte,reduceEqDiff,reduceAdd,t7,fH]
   refine uT slI s3' z3 rfl (by omega) (u:=iv y) (l:=[iv y]) (by simp (disch:=first|omega|simp only [aA,aB]<;>omega|decide) only [rUz,↓reduceIte,reduceEqDiff,reduceAdd]) rfl rfl ?_
   simp (disch:=first|omega|simp only [aA,aB]<;>omega|decide) only [rUz,↓reduceIte,reduceEqDiff,reduceAdd,kW]
   have aa:=app.mono (Kp.refl.add (c:=[iv y]))
   have z1:h0.nx ≤ (g.add [iv y]).nx:=by show h0.nx ≤ g.nx + 1; omega
   refine wr_append (v:=vp) (bx:=g.nx) (cx:=1) (c:=[iv y]) (sz:=1) (cs:=i1 cs) (lo:=h0.nx) (F:=F) slI uI ?_ ?_ aa z1 s3' rfl (by omega) (aP rfl) nI ?_ ?_
   ·simp (disch:=first|omega|simp only [aA,aB]<;>omega|decide) only [rUz,↓reduceIte,reduceEqDiff,reduceAdd,t7]
   ·simp (disch:=first|omega|simp only [aA,aB]<;>omega|decide) only [rUz,↓reduceIte,reduceEqDiff,reduceAdd]
   ·rw [List.length_map]; show _ < 1000000; omega
   intro v7 h3 F3 gapp gsm _ _ _
   have kp3:Kp h0 h3:=gsm.kp (Nat.le_refl _) (kp.add)
   simp (disch:=first|omega|simp only [aA,aB]<;>omega|decide) only [rUz,↓reduceIte,reduceEqDiff,reduceAdd]
   repeat refine S.seq ?_
   refine S.region ?_
   simp (disch:=first|omega|simp only [aA,aB]<;>omega|decide) only [rUz,↓reduceIte,reduceEqDiff,reduceAdd,t12]
   refine hn (k + 1) _ _ (by omega) ⟨kp3,⟨cs ++ [y],v7,F3,by rw [show i1 (cs ++ [y]) = i1 cs ++ [[iv y]] from List.map_append]; exact gapp,by rw [List.append_assoc]; exact hcs,by rw [List.length_append]; show cs.length + 1 ≤ _; omega,?_⟩,?_,?_,?_,?_,?_,by omega⟩
   all_goals (first|rfl|(simp (disch:=first|omega|simp only [aA,aB]<;>omega|decide) only [rUz,↓reduceIte,reduceEqDiff,reduceAdd,t1,t2,t10,t11]<;>rfl))
 have hkn:k = l.length:=by have:=of_decide_eq_false e; omega
 subst hkn
 rw [List.drop_of_length_le (Nat.le_refl _)] at hcs
 have hcs':cs = kP (kZ first left) l 0:=by rw [← hcs]; simp [kP]
 subst hcs'
 refine S.exit (he _ _ _ _ (fun e=>by cases e) ?_)
 simp (disch:=first|omega|simp only [aA,aB]<;>omega|decide) only [rUz,↓reduceIte,reduceEqDiff,reduceAdd]
 repeat refine S.seq ?_
 refine S.region ?_
 simp (disch:=first|omega|simp only [aA,aB]<;>omega|decide) only [rUz,↓reduceIte,reduceEqDiff,reduceAdd,t7]
 refine S.ret ?_
 try simp only [aJ,aF]
 subst hF
 simp only [finish,aI]
 rw [show Tryz.f74.results.toList = [.tmp 6] from rfl]
 simp (disch:=first|omega|simp only [aA,aB]<;>omega|decide) only [bK,aY,aS,aT,aQ,aU,aO,upd_ne,aP,aW,result1]
 exact hK _ _ kp ⟨F,app⟩
structure IOs (l:List Sa) (left:List Int) (first:Int) (H:AHeap) (lv ev0:Value) (k:Nat) (t:T Value) (h:AHeap):Prop where
 kp:Kp H h
 ex:∃ (cs:List Sa) (vp:Value) (F:Nat),App H.nx h 4 vp (cs.map cSa) F ∧ cs ++ kP (kZ first left) (l.drop k) k = kP (kZ first left) l 0 ∧ cs.length ≤ k ∧ tget t 7 = vp
 t1:tget t 1 = iv first
 t2:tget t 2 = lv
 t10:tget t 10 = ev0
 t11:tget t 11 = iv (l.length:Int)
 t12:tget t 12 = iv (k:Int)
 hk:k ≤ l.length
theorem othersS_y (S:Ev.Steps Tryz.prog pr R) (hoff:Off pr) (h0:AHeap) (v lv:Value) (l:List Sa) (left:List Int) (first:Int) (hl:SlAt h0 4 v (l.map cSa)) (hsz:l.length ≤ 1000) (hf : -1000 ≤ first ∧ first ≤ 1000) (hlv:IAt h0 lv left) (hls:left.length ≤ 1000) :
  bD Tryz.prog R 59 [v,iv first,lv] h0 fun u h=>∃ F,App h0.nx h 4 u ((kP (kZ first left) l 0).map cSa) F:=by
 refine aV (fn:=Tryz.f59) (c:=(Tryz.f59.body).getD .skip) (by kernel_rfl) rfl (by kernel_rfl) rfl (fun K hK=>?_)
 generalize hF:finish Tryz.prog Tryz.f59 K = KF
 simp only [Tryz.f59,Option.getD_some,bJ,aX,aZ,T.setK_eq,id]
 have hlen:=fun t h1 o=>dQ hl iscS t h1 o
 repeat refine S.seq ?_
 refine S.region ?_
 simp (disch:=first|omega|simp only [aA,aB]<;>omega|decide) only [rUz,↓reduceIte,reduceEqDiff,reduceAdd]
 repeat refine S.seq ?_
 refine S.region ?_
 simp (disch:=first|omega|simp only [aA,aB]<;>omega|decide) only [rUz,↓reduceIte,reduceEqDiff,reduceAdd]
 repeat refine S.seq ?_
 refine S.region ?_
 simp (disch:=first|omega|simp only [aA,aB]<;>omega|decide) only [rUz,↓reduceIte,reduceEqDiff,reduceAdd,hlen]
 repeat refine S.seq ?_
 refine S.block ?_
 refine S.loop (ι:=Nat) (IOs l left first h0 lv v) (fun k=>l.length - k) ?_ 0 _ _ ?_
 rotate_left
 ·refine ⟨Kp.refl,⟨[],nl,0,.inl ⟨rfl,rfl⟩,rfl,Nat.le_refl _,?_⟩,?_,?_,?_,?_,?_,Nat.zero_le _⟩
  all_goals (first|rfl|(simp (disch:=first|omega|simp only [aA,aB]<;>omega|decide) only [rUz,↓reduceIte,reduceEqDiff,reduceAdd]<;>rfl))
 intro k t h ⟨kp,⟨cs,vp,F,app,hcs,hcl,t7⟩,t1,t2,t10,t11,t12,hk⟩ K' hn he
 have hnx:=kp.1
 repeat refine S.seq ?_
 refine S.region ?_
 simp (disch:=first|omega|simp only [aA,aB]<;>omega|decide) only [rUz,↓reduceIte,reduceEqDiff,reduceAdd,t11,t12]
 repeat refine S.seq ?_
 refine S.cond (v:=decide ((k:Int) < (l.length:Int))) (by first|rfl|(simp (disch:=first|omega|simp only [aA,aB]<;>omega|decide) only [rUz,↓reduceIte,reduceEqDiff,reduceAdd]<;>rfl)) (fun e=>?_) (fun e=>?_)
 ·have hkn:k < l.length:=by have:=of_decide_eq_true e; omega
  clear e
  have hps:l[k]? = some l[k]:=List.getElem?_eq_getElem hkn
  rw [List.drop_eq_getElem_cons hkn] at hcs
  simp only [kP] at hcs
  generalize l[k] = y at hcs hps
  obtain ⟨b,f,ro,cells,q1,q2,q3,q4,q5,_⟩:=dM (SlAt.mono hl kp) slcS scS hps
  have qp:=gQ pcS q4 q5
  repeat refine S.seq ?_
  refine S.skip ?_
  simp (disch:=first|omega|simp only [aA,aB]<;>omega|decide) only [rUz,↓reduceIte,reduceEqDiff,reduceAdd]
  repeat refine S.seq ?_
  refine S.block ?_
  repeat refine S.seq ?_
  refine S.region ?_
  simp (disch:=first|omega|simp only [aA,aB]<;>omega|decide) only [rUz,↓reduceIte,reduceEqDiff,reduceAdd,t10,t12,q1,q3,qp,cO zcS]
  refine dF (B:=h.nx) (c:=[iv 0,iv 0,iv 0,iv 0]) (fam:=h.nx) (k:=h.nx) (l:=cSa y) (by simp (disch:=first|omega|simp only [aA,aB]<;>omega|decide) only [rUz,↓reduceIte,reduceEqDiff,reduceAdd]) (by simp (disch:=first|omega|simp only [aA,aB]<;>omega|decide) only [rUz,↓reduceIte,reduceEqDiff,reduceAdd]) scS (by omega) rfl (aP rfl) (dL rfl) rfl ?_
  have hk4:Kp h ((h.add [iv 0,iv 0,iv 0,iv 0]).upd h.nx (cSa y) h.nx):=Kp.refl.add.upd (Nat.le_refl _)
  have hg4:((h.add [iv 0,iv 0,iv 0,iv 0]).upd h.nx (cSa y) h.nx).bl.get h.nx = some (.cells (cSa y) h.nx false):=aO _ _ _
  have hn4:h.nx < ((h.add [iv 0,iv 0,iv 0,iv 0]).upd h.nx (cSa y) h.nx).nx:=Nat.lt_succ_self _
  simp (disch:=first|omega|simp only [aA,aB]<;>omega|decide) only [rUz,↓reduceIte,reduceEqDiff,reduceAdd]
  generalize (h.add [iv 0,iv 0,iv 0,iv 0]).upd h.nx (cSa y) h.nx = g4 at hk4 hg4 hn4 ⊢
  generalize h.nx = B9 at hg4 hn4 ⊢
  have kp4:=kp.trans hk4
  have hnx4:=kp4.1
  repeat refine S.seq ?_
  refine S.region ?_
  simp (disch:=first|omega|simp only [aA,aB]<;>omega|decide) only [rUz,↓reduceIte,reduceEqDiff,reduceAdd,t1,t2,t12]
  refine bC (fid:=83) (first:=#[]) (captured:=#[]) (Post:=fun u h'=>u = .bool (hasI left (first + (k:Int))) ∧ h' = g4) rfl (hoff _ _ _ rfl) (by simp (disch:=first|omega|simp only [aA,aB]<;>omega|decide) only [rUz,↓reduceIte,reduceEqDiff,reduceAdd]; exact contains_y S hoff g4 lv left (first + (k:Int)) (hlv.mono kp4) (by omega)) ?_
  rintro u g - ⟨rfl,rfl⟩
  simp (disch:=first|omega|simp only [aA,aB]<;>omega|decide) only [rUz,↓reduceIte,reduceEqDiff,reduceAdd,dX]
  cases hq:hasI left (first + (k:Int)) with
  | true =>
   have hq':kZ first left k = true:=hq
   rw [hq',cond_true] at hcs
   repeat refine S.seq ?_
   refine S.cond (v:=false) (by first|rfl|(simp (disch:=first|omega|simp only [aA,aB]<;>omega|decide) only [rUz,↓reduceIte,reduceEqDiff,reduceAdd,hq,Bool.not_true]<;>rfl)) (fun e=>by cases e) (fun _=>?_)
   repeat refine S.seq ?_
   refine S.skip ?_
   simp (disch:=first|omega|simp only [aA,aB]<;>omega|decide) only [rUz,↓reduceIte,reduceEqDiff,reduceAdd]
   repeat refine S.seq ?_
   refine S.region ?_
   simp (disch:=first|omega|simp only [aA,aB]<;>omega|decide) only [rUz,↓reduceIte,reduceEqDiff,reduceAdd,t12]
   refine hn (k + 1) _ _ (by omega) ⟨kp4,⟨cs,vp,F,app.mono hk4,hcs,by omega,?_⟩,?_,?_,?_,?_,?_,by omega⟩
   all_goals (first|rfl|(simp (disch:=first|omega|simp only [aA,aB]<;>omega|decide) only [rUz,↓reduceIte,reduceEqDiff,reduceAdd,t1,t2,t7,t10,t11]<;>rfl))
  | false =>
   have hq':kZ first left k = false:=hq
   rw [hq',cond_false] at hcs
   repeat refine S.seq ?_
   refine S.cond (v:=true) (by first|rfl|(simp (disch:=first|omega|simp only [aA,aB]<;>omega|decide) only [rUz,↓reduceIte,reduceEqDiff,reduceAdd,hq,Bool.not_false]<;>rfl)) (fun _=>?_) (fun e=>by cases e)
   repeat refine S.seq ?_
   refine S.region ?_
   simp (disch:=first|omega|simp only [aA,aB]<;>omega|decide) only [rUz,↓reduceIte,reduceEqDiff,reduceAdd,t7,hg4,bT pcS (jL y),fH]
   refine uT slcS scS zcS rfl (by omega) (u:=.agg ⟨cSa y⟩) (l:=cSa y) (by simp (disch:=first|omega|simp only [aA,aB]<;>omega|decide) only [rUz,↓reduceIte,reduceEqDiff,reduceAdd]) rfl rfl ?_
   simp (disch:=first|omega|simp only [aA,aB]<;>omega|decide) only [rUz,↓reduceIte,reduceEqDiff,reduceAdd,kW]
   refine wr_append slcS ucS (v:=vp) (bx:=g.nx) (cx:=1) (by simp (disch:=first|omega|simp only [aA,aB]<;>omega|decide) only [rUz,↓reduceIte,reduceEqDiff,reduceAdd,t7]) (by simp (disch:=first|omega|simp only [aA,aB]<;>omega|decide) only [rUz,↓reduceIte,reduceEqDiff,reduceAdd]) ((app.mono hk4).mono (Kp.refl.add (c:=cSa y))) (by show h0.nx ≤ g.nx + 1; omega) scS rfl (by omega) (aP rfl) ncS (by rw [List.length_map]; show _ < 1000000; omega) ?_
   intro v7 h3 F3 gapp gsm _ _ _
   have kp3:Kp h0 h3:=gsm.kp (Nat.le_refl _) (kp4.add)
   simp (disch:=first|omega|simp only [aA,aB]<;>omega|decide) only [rUz,↓reduceIte,reduceEqDiff,reduceAdd]
   repeat refine S.seq ?_
   refine S.region ?_
   simp (disch:=first|omega|simp only [aA,aB]<;>omega|decide) only [rUz,↓reduceIte,reduceEqDiff,reduceAdd,t12]
   refine hn (k + 1) _ _ (by omega) ⟨kp3,⟨cs ++ [y],v7,F3,by rw [show (cs ++ [y]).map cSa = cs.map cSa ++ [cSa y] from List.map_append]; exact gapp,by rw [List.append_assoc]; exact hcs,by rw [List.length_append]; show cs.length + 1 ≤ _; omega,?_⟩,?_,?_,?_,?_,?_,by omega⟩
   all_goals (first|rfl|(simp (disch:=first|omega|simp only [aA,aB]<;>omega|decide) only [rUz,↓reduceIte,reduceEqDiff,reduceAdd,t1,t2,t10,t11]<;>rfl))
 have hkn:k = l.length:=by have:=of_decide_eq_false e; omega
 subst hkn
 rw [List.drop_of_length_le (Nat.le_refl _)] at hcs
 have hcs':cs = kP (kZ first left) l 0:=by rw [← hcs]; simp [kP]
 subst hcs'
 refine S.exit (he _ _ _ _ (fun e=>by cases e) ?_)
 simp (disch:=first|omega|simp only [aA,aB]<;>omega|decide) only [rUz,↓reduceIte,reduceEqDiff,reduceAdd]
 repeat refine S.seq ?_
 refine S.region ?_
 simp (disch:=first|omega|simp only [aA,aB]<;>omega|decide) only [rUz,↓reduceIte,reduceEqDiff,reduceAdd,t7]
 refine S.ret ?_
 try simp only [aJ,aF]
 subst hF
 simp only [finish,aI]
 rw [show Tryz.f59.results.toList = [.tmp 6] from rfl]
 simp (disch:=first|omega|simp only [aA,aB]<;>omega|decide) only [bK,aY,aS,aT,aQ,aU,aO,upd_ne,aP,aW,result1]
 exact hK _ _ kp ⟨F,app⟩
end Go.Proofs.Po

/- Those that can come next, in turn. -/
namespace Go.Proofs.Po
open Nat (reduceEqDiff reduceAdd reduceSub)
open Go Go.Ev Go.RowKit
set_option linter.unusedSimpArgs false
variable {pr:Prim} {R:ExT}
def wI (W:List Nat):List Int:=W.map fun (j:Nat)=>(j:Int)
theorem wI_len (W:List Nat):(wI W).length = W.length:=by unfold wI; rw [List.length_map]
def cmsV (B3 B4 B5:Nat):Value:=.func (.func 93) #[] #[bG B4,bG B3,bG B5]
/-- What an iterator of those that can come next looks at. -/
structure CmsAt (h:AHeap) (B3 B4 B5:Nat) (v wv:Value) (last:I2):Prop where
 b3:h.bl.get B3 = some (.cells (poV v) B3 false)
 b4:h.bl.get B4 = some (.cells [wv] B4 false)
 b5:h.bl.get B5 = some (.cells (c2 last) B5 false)
theorem comers_y (S:Ev.Steps Tryz.prog pr R) (h0:AHeap) (v wv:Value) (Wl:List Nat) (hw:IAt h0 wv (wI Wl)) (last:I2) :
  bD Tryz.prog R 73 [.agg ⟨poV v⟩,wv,.agg ⟨c2 last⟩] h0 fun u h=>∃ B3 B4 B5,u = cmsV B3 B4 B5 ∧ CmsAt h B3 B4 B5 v wv last ∧ h0.nx ≤ B3 ∧ B3 < h.nx ∧ h0.nx ≤ B4 ∧ B4 < h.nx ∧ h0.nx ≤ B5 ∧ B5 < h.nx:=by
 obtain ⟨q1,q2,q3,rfl⟩:=ints_sl hw
 refine aV (fn:=Tryz.f73) (c:=(Tryz.f73.body).getD .skip) (by kernel_rfl) rfl (by kernel_rfl) rfl (fun K hK=>?_)
 generalize hF:finish Tryz.prog Tryz.f73 K = KF
 simp only [Tryz.f73,Option.getD_some,bJ,aX,aZ,T.setK_eq,id]
 repeat refine S.seq ?_
 refine S.region ?_
 simp (disch:=first|omega|simp only [aA,aB]<;>omega|decide) only [rUz,↓reduceIte,reduceEqDiff,reduceAdd,xK]
 repeat refine S.seq ?_
 refine S.region ?_
 simp (disch:=first|omega|simp only [aA,aB]<;>omega|decide) only [rUz,↓reduceIte,reduceEqDiff,reduceAdd]
 refine S.ret ?_
 try simp only [aJ,aF]
 subst hF
 simp only [finish,aI]
 rw [show Tryz.f73.results.toList = [.tmp 6] from rfl]
 simp (disch:=first|omega|simp only [aA,aB]<;>omega|decide) only [bK,aY,aS,aT,aQ,aU,aO,upd_ne,aP,aW,result1]
 refine hK _ _ Kp.refl.add.add.add ⟨h0.nx,h0.nx + 1,h0.nx + 2,rfl,⟨?_,?_,?_⟩,by omega,by show h0.nx < h0.nx + 3; omega,by omega,by show h0.nx + 1 < h0.nx + 3; omega,by omega,by show h0.nx + 2 < h0.nx + 3; omega⟩
 ·rw [aW (by show h0.nx ≠ h0.nx + 2; omega),aW (by show h0.nx ≠ h0.nx + 1; omega)]; exact aP rfl
 ·rw [aW (by show h0.nx + 1 ≠ h0.nx + 2; omega)]; exact aP rfl
 ·exact aP rfl
def AtC (x:Nat × AR) (_:Nat → Prop) (_:AHeap) (az:List Value):Prop:=az = [iv (x.1:Int),.agg ⟨c2 (iI x.2)⟩]
structure ICq (I:Nat → (Nat → Prop) → AHeap → Prop) (W:Nat → Prop) (H:AHeap) (O:List Od) (Wl:List Nat) (last:I2) (B3 B4 B5 l:Nat) (wv:Value) (i:Nat) (t:T Value) (h:AHeap):Prop where
 ho:Out W H h
 ex:∃ k,I k (fun _=>False) h ∧ iU O last (Wl.drop i) i = (fJ O Wl last).drop k ∧ k ≤ (fJ O Wl last).length
 t0:tget t 0 = .func (.yield l) #[] #[]
 t1:tget t 1 = bG B4
 t2:tget t 2 = bG B3
 t3:tget t 3 = bG B5
 t8:tget t 8 = wv
 t9:tget t 9 = iv (Wl.length:Int)
 t10:tget t 10 = iv (i:Int)
 hi:i ≤ Wl.length
theorem drop_cons {α:Type} {l:List α} {k:Nat} {x:α} {r:List α} (h:x :: r = l.drop k):l[k]? = some x ∧ r = l.drop (k + 1):=by
 have hk:k < l.length:=by
  by_cases hk:k < l.length
  ·exact hk
  ·rw [List.drop_of_length_le (by omega)] at h; cases h
 rw [List.drop_eq_getElem_cons hk] at h
 have h1:=(List.cons.inj h).1
 have h2:=(List.cons.inj h).2
 exact ⟨by rw [List.getElem?_eq_getElem hk,h1],h2⟩
theorem comersIt (S:Ev.Steps Tryz.prog pr R) (hoff:Off pr) (H:AHeap) (W:Nat → Prop) (B3 B4 B5:Nat) (v wv:Value) (O:List Od) (hv:Val O) (Wl:List Nat) (last:I2) (hl:0 ≤ last.1 ∧ last.1 ≤ 1000) (hW:∀ j,j ∈ Wl → j < O.length) (hWl:Wl.length ≤ 6)
  (hc:∀ h',Out W H h' → CmsAt h' B3 B4 B5 v wv last) (hp:∀ h',Out W H h' → PoAt h' v O) (hw:∀ h',Out W H h' → IAt h' wv (wI Wl)) :
  Iters Tryz.prog R 93 (fun y=>[y,bG B4,bG B3,bG B5]) H W (fJ O Wl last) AtC:=by
 intro l I E K hI hE i0 body done stop
 refine call_run (fn:=Tryz.f93) (c:=(Tryz.f93.body).getD .skip) (by kernel_rfl) rfl (by kernel_rfl) rfl ?_
 generalize hF:finish Tryz.prog Tryz.f93 K = KF
 simp only [Tryz.f93,Option.getD_some,bJ,aX,aZ,T.setK_eq,id]
 have hw0:=hw H Out.refl
 have hc0:=hc H Out.refl
 have hlen:=fun t h1 o=>o5 hw0 t h1 o
 repeat refine S.seq ?_
 refine S.region ?_
 simp (disch:=first|omega|simp only [aA,aB]<;>omega|decide) only [rUz,↓reduceIte,reduceEqDiff,reduceAdd,hc0.b4,qI,hlen]
 repeat refine S.seq ?_
 refine S.block ?_
 refine S.loop (ι:=Nat) (ICq I W H O Wl last B3 B4 B5 l wv) (fun i=>Wl.length - i) ?_ 0 _ _ ?_
 rotate_left
 ·refine ⟨Out.refl,⟨0,i0,rfl,Nat.zero_le _⟩,?_,?_,?_,?_,?_,?_,?_,Nat.zero_le _⟩
  all_goals (first|rfl|(simp (disch:=first|omega|simp only [aA,aB]<;>omega|decide) only [rUz,↓reduceIte,reduceEqDiff,reduceAdd,wI_len]<;>rfl))
 intro i t h ⟨ho,⟨k,ik,hcs,hkle⟩,t0,t1,t2,t3,t8,t9,t10,hi⟩ K' hn he
 repeat refine S.seq ?_
 refine S.region ?_
 simp (disch:=first|omega|simp only [aA,aB]<;>omega|decide) only [rUz,↓reduceIte,reduceEqDiff,reduceAdd,t9,t10]
 repeat refine S.seq ?_
 refine S.cond (v:=decide ((i:Int) < (Wl.length:Int))) (by first|rfl|(simp (disch:=first|omega|simp only [aA,aB]<;>omega|decide) only [rUz,↓reduceIte,reduceEqDiff,reduceAdd]<;>rfl)) (fun e=>?_) (fun e=>?_)
 ·have hin:i < Wl.length:=by have:=of_decide_eq_true e; omega
  clear e
  have hwh:=hw h ho
  have hch:=hc h ho
  have hph:=hp h ho
  obtain ⟨rb,rf,rw0,r1,r2,r3,r4⟩:=hwh.idx slI s3' (i:=i) (by rw [wI_len]; exact hin)
  have e4:(wI Wl)[i]'(by rw [wI_len]; exact hin) = ((Wl[i]:Nat):Int):=by simp only [wI,List.getElem_map]
  rw [e4] at r4
  rw [List.drop_eq_getElem_cons hin] at hcs
  have hjO:=hW _ (List.getElem_mem hin)
  simp only [iU] at hcs
  generalize Wl[i] = j at r4 hcs hjO
  repeat refine S.seq ?_
  refine S.skip ?_
  simp (disch:=first|omega|simp only [aA,aB]<;>omega|decide) only [rUz,↓reduceIte,reduceEqDiff,reduceAdd]
  repeat refine S.seq ?_
  refine S.block ?_
  repeat refine S.seq ?_
  refine S.region ?_
  simp (disch:=first|omega|simp only [aA,aB]<;>omega|decide) only [rUz,↓reduceIte,reduceEqDiff,reduceAdd,t8,t10,r1,r3,p3,r4]
  repeat refine S.seq ?_
  refine S.region ?_
  simp (disch:=first|omega|simp only [aA,aB]<;>omega|decide) only [rUz,↓reduceIte,reduceEqDiff,reduceAdd,t2,t3,hch.b3,hch.b5,bT pB (dR v),bT pV (kX last)]
  refine bC (fid:=94) (first:=#[]) (captured:=#[]) (Post:=fun u _=>u = .agg ⟨c2 (kN O j last,(j:Int))⟩) rfl (hoff _ _ _ rfl) (by simp (disch:=first|omega|simp only [aA,aB]<;>omega|decide) only [rUz,↓reduceIte,reduceEqDiff,reduceAdd]; exact soonest_y S hoff h v O hph hv j hjO last hl) ?_
  rintro u g hkg rfl
  simp (disch:=first|omega|simp only [aA,aB]<;>omega|decide) only [rUz,↓reduceIte,reduceEqDiff,reduceAdd,cO zV]
  refine dF (B:=g.nx) (c:=[iv 0,iv 0]) (fam:=g.nx) (k:=g.nx) (l:=c2 (kN O j last,(j:Int))) (by simp (disch:=first|omega|simp only [aA,aB]<;>omega|decide) only [rUz,↓reduceIte,reduceEqDiff,reduceAdd]) (by simp (disch:=first|omega|simp only [aA,aB]<;>omega|decide) only [rUz,↓reduceIte,reduceEqDiff,reduceAdd]) sV (by omega) rfl (aP rfl) (dL rfl) rfl ?_
  have hk4:Kp h ((g.add [iv 0,iv 0]).upd g.nx (c2 (kN O j last,(j:Int))) g.nx):=hkg.trans (Kp.refl.add.upd (Nat.le_refl _))
  have hg4:((g.add [iv 0,iv 0]).upd g.nx (c2 (kN O j last,(j:Int))) g.nx).bl.get g.nx = some (.cells (c2 (kN O j last,(j:Int))) g.nx false):=aO _ _ _
  have hn4:g.nx < ((g.add [iv 0,iv 0]).upd g.nx (c2 (kN O j last,(j:Int))) g.nx).nx:=Nat.lt_succ_self _
  simp (disch:=first|omega|simp only [aA,aB]<;>omega|decide) only [rUz,↓reduceIte,reduceEqDiff,reduceAdd]
  generalize (g.add [iv 0,iv 0]).upd g.nx (c2 (kN O j last,(j:Int))) g.nx = h4 at hk4 hg4 hn4 ⊢
  generalize g.nx = B7 at hg4 hn4 ⊢
  have ho4:Out W H h4:=ho.trans hk4.out
  have ik4:=(hI k).kp ik hk4
  clear hkg r1 r2 r3 r4 hwh hch
  clear g
  have hc4:=hc h4 ho4
  have hp4:=hp h4 ho4
  obtain ⟨b2,f2,o2,ce,v1,v2,v3,v4,v5,v6⟩:=dM hp4 slcO scO (jB hjO)
  have vp:=gQ pcO v4 v5
  repeat refine S.seq ?_
  refine S.drawnL [(false,0),(false,1),(false,0),(false,7),(false,15),(false,0),(false,32),(true,127),(false,255),(false,511),(false,511),(false,511),(true,4095),(false,8191),(false,16383)] (by kernel_rfl) (by kernel_rfl) (by kernel_rfl) ?_
  simp (disch:=first|omega|simp only [aA,aB]<;>omega|decide) only [rUz,↓reduceIte,reduceEqDiff,reduceAdd,rDz,infoL,reduceSub,t0,t2,hc4.b3,hg4,aC fB0 lcO,qcO,po0,v1,v3,vp,aC fV0 s3,p3,c20]
  refine dC (fid:=85) (first:=#[]) (captured:=#[]) (Post:=fun u _=>u = .bool (canC O (lF O j last))) rfl (hoff _ _ _ rfl) (by simp (disch:=first|omega|simp only [aA,aB]<;>omega|decide) only [rUz,↓reduceIte,reduceEqDiff,reduceAdd]; exact canCome_y S h4 (od O j) (kN O j last)) (Nat.le_of_ble_eq_true rfl) ?_
  rintro u g hkg rfl
  refine ⟨?_,?_⟩
  ·try simp (disch:=first|decide|rfl) only [aK,aG,aH]
  have ikg:=(hI k).kp ik4 hkg
  have hog:=ho4.trans hkg.out
  have hg5:g.bl.get B7 = some (.cells (c2 (kN O j last,(j:Int))) B7 false):=(hkg.get hn4).trans hg4
  cases hcc:canC O (lF O j last) with
  | true =>
   rw [hcc,cond_true] at hcs
   obtain ⟨x1,x2⟩:=drop_cons hcs
   simp (disch:=first|omega|simp only [aA,aB]<;>omega|decide) only [rUz,↓reduceIte,reduceEqDiff,reduceAdd,rDz,infoL,reduceSub,t0,hg5,bT pV (kX _)]
   refine drW_yield (l:=l) (by simp (disch:=first|omega|simp only [aA,aB]<;>omega|decide) only [rUz,↓reduceIte,reduceEqDiff,reduceAdd,rDz,infoL,reduceSub]) (Nat.le_of_ble_eq_true rfl) ?_
   simp (disch:=first|omega|simp only [aA,aB]<;>omega|decide) only [rUz,↓reduceIte,reduceEqDiff,reduceAdd,rDz,infoL,reduceSub]
   refine body k (i,lF O j last) (fun _=>False) g _ x1 rfl ikg hog (fun _ h=>h.elim) _ (fun h' b ik'=>?_) (fun h' b e'=>?_)
   ·refine yk_of ?_ ?_
    ·try simp (disch:=first|decide|rfl) only [aK,aG,aH]
    simp (disch:=first|omega|simp only [aA,aB]<;>omega|decide) only [rUz,↓reduceIte,reduceEqDiff,reduceAdd,rDz,infoL,reduceSub]
    repeat refine S.seq ?_
    refine S.cond (v:=false) (by first|rfl|(simp (disch:=first|omega|simp only [aA,aB]<;>omega|decide) only [rUz,↓reduceIte,reduceEqDiff,reduceAdd,Bool.not_true]<;>rfl)) (fun e=>by cases e) (fun _=>?_)
    repeat refine S.seq ?_
    refine S.skip ?_
    simp (disch:=first|omega|simp only [aA,aB]<;>omega|decide) only [rUz,↓reduceIte,reduceEqDiff,reduceAdd]
    repeat refine S.seq ?_
    refine S.region ?_
    simp (disch:=first|omega|simp only [aA,aB]<;>omega|decide) only [rUz,↓reduceIte,reduceEqDiff,reduceAdd,t10]
    refine hn (i + 1) _ _ (by omega) ⟨b.out hog,⟨k + 1,ik',x2,by have:=(List.getElem?_eq_some_iff.1 x1).1; omega⟩,?_,?_,?_,?_,?_,?_,?_,by omega⟩
    all_goals (first|rfl|(simp (disch:=first|omega|simp only [aA,aB]<;>omega|decide) only [rUz,↓reduceIte,reduceEqDiff,reduceAdd,t0,t1,t2,t3,t8,t9]<;>rfl))
   ·refine yk_of ?_ ?_
    ·try simp (disch:=first|decide|rfl) only [aK,aG,aH]
    simp (disch:=first|omega|simp only [aA,aB]<;>omega|decide) only [rUz,↓reduceIte,reduceEqDiff,reduceAdd,rDz,infoL,reduceSub]
    repeat refine S.seq ?_
    refine S.cond (v:=true) (by first|rfl|(simp (disch:=first|omega|simp only [aA,aB]<;>omega|decide) only [rUz,↓reduceIte,reduceEqDiff,reduceAdd,Bool.not_false]<;>rfl)) (fun _=>?_) (fun e=>by cases e)
    refine S.ret ?_
    simp only [aJ,aF]
    refine he _ _ _ _ (fun e=>by cases e) ?_
    try simp only [aJ,aF]
    subst hF
    simp only [finish,aI]
    rw [show Tryz.f93.results.toList = [] from rfl]
    simp only [bK,result1]
    exact stop _ _ e' (b.out hog)
  | false =>
   rw [hcc,cond_false] at hcs
   simp (disch:=first|omega|simp only [aA,aB]<;>omega|decide) only [rUz,↓reduceIte,reduceEqDiff,reduceAdd,rDz,infoL,reduceSub]
   repeat refine S.seq ?_
   refine S.cond (v:=false) (by first|rfl|(simp (disch:=first|omega|simp only [aA,aB]<;>omega|decide) only [rUz,↓reduceIte,reduceEqDiff,reduceAdd]<;>rfl)) (fun e=>by cases e) (fun _=>?_)
   repeat refine S.seq ?_
   refine S.skip ?_
   simp (disch:=first|omega|simp only [aA,aB]<;>omega|decide) only [rUz,↓reduceIte,reduceEqDiff,reduceAdd]
   repeat refine S.seq ?_
   refine S.region ?_
   simp (disch:=first|omega|simp only [aA,aB]<;>omega|decide) only [rUz,↓reduceIte,reduceEqDiff,reduceAdd,t10]
   refine hn (i + 1) _ _ (by omega) ⟨hog,⟨k,ikg,hcs,hkle⟩,?_,?_,?_,?_,?_,?_,?_,by omega⟩
   all_goals (first|rfl|(simp (disch:=first|omega|simp only [aA,aB]<;>omega|decide) only [rUz,↓reduceIte,reduceEqDiff,reduceAdd,t0,t1,t2,t3,t8,t9]<;>rfl))
 have hin:i = Wl.length:=by have:=of_decide_eq_false e; omega
 subst hin
 rw [List.drop_of_length_le (Nat.le_refl _)] at hcs
 have hkl:(fJ O Wl last).length ≤ k:=by
  have:=congrArg List.length hcs
  rw [List.length_drop] at this
  simp only [iU,List.length_nil] at this
  omega
 obtain rfl:k = (fJ O Wl last).length:=by omega
 refine S.exit (he _ _ _ _ (fun e=>by cases e) ?_)
 simp (disch:=first|omega|simp only [aA,aB]<;>omega|decide) only [rUz,↓reduceIte,reduceEqDiff,reduceAdd]
 subst hF
 simp only [finish,aI]
 rw [show Tryz.f93.results.toList = [] from rfl]
 simp only [bK,result1]
 exact done _ _ ik ho
end Go.Proofs.Po
