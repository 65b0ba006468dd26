import Derived.Test.YthgmipngikdknaaGreatPxA
/- The order in which orders come (nothing of the program in it). -/
namespace Go.Proofs.Po
open Go Go.Ev
/-- An arrival: the minute, the order. -/
abbrev AR:=Int × Nat
def ltA (x y:AR):Bool:=decide (x.1 < y.1) || (decide (x.1 = y.1) && decide (x.2 < y.2))
theorem uB {x y:AR}:ltA x y = true ↔ x.1 < y.1 ∨ (x.1 = y.1 ∧ x.2 < y.2):=by
 unfold ltA; rw [Bool.or_eq_true,Bool.and_eq_true,decide_eq_true_eq,decide_eq_true_eq,decide_eq_true_eq]
theorem ltA_f {x y:AR}:ltA x y = false ↔ ¬ (x.1 < y.1 ∨ (x.1 = y.1 ∧ x.2 < y.2)):=by
 rw [← uB,Bool.not_eq_true]
def lD (x:AR):List AR → List AR
 | []=>[x]
 | y :: r=>bif ltA x y then x :: y :: r else y :: lD x r
theorem insA_len (x:AR):∀ l,(lD x l).length = l.length + 1
 | []=>rfl
 | y :: r=>by
  unfold lD
  cases ltA x y with
  | true=>rfl
  | false=>show (lD x r).length + 1 = _; rw [insA_len x r]; rfl
theorem insA_mem {x b:AR}:∀ {l},b ∈ lD x l → b = x ∨ b ∈ l
 | [],h=>by simp [lD] at h; exact .inl h
 | y :: r,h=>by
  unfold lD at h
  cases hl:ltA x y with
  | true=>rw [hl,cond_true] at h; simpa using h
  | false =>
   rw [hl,cond_false] at h
   rcases List.mem_cons.1 h with h|h
   ·exact .inr (by simp [h])
   ·rcases insA_mem h with h|h
    ·exact .inl h
    ·exact .inr (by simp [h])
theorem insA_app {x:AR} {B:List AR} (hB:∀ b,b ∈ B → ltA x b = true):∀ A,lD x (A ++ B) = lD x A ++ B
 | []=>by
  cases B with
  | nil=>rfl
  | cons b r=>show lD x (b :: r) = [x] ++ b :: r; unfold lD; rw [hB b (by simp)]; rfl
 | a :: A=>by
  show lD x (a :: (A ++ B)) = _
  unfold lD
  cases ltA x a with
  | true=>rfl
  | false=>show a :: lD x (A ++ B) = a :: lD x A ++ B; rw [insA_app hB A]; rfl
theorem insA_end {x:AR}:∀ {A:List AR},(∀ a,a ∈ A → ltA x a = false) → lD x A = A ++ [x]
 | [],_=>rfl
 | a :: A,h=>by
  unfold lD
  rw [h a (by simp),cond_false,insA_end fun b hb=>h b (by simp [hb])]
  rfl
def Sorted (l:List AR):Prop:=l.Pairwise fun a b=>ltA b a = false
theorem insA_sorted {x:AR}:∀ {l:List AR},Sorted l → Sorted (lD x l)
 | [],_=>by unfold lD Sorted; simp
 | y :: r,h=>by
  unfold Sorted at h
  rw [List.pairwise_cons] at h
  unfold lD
  cases hl:ltA x y with
  | true =>
   rw [cond_true]
   unfold Sorted
   rw [List.pairwise_cons,List.pairwise_cons]
   refine ⟨fun b hb=>?_,h⟩
   have h1:=uB.1 hl
   rw [ltA_f]
   rcases List.mem_cons.1 hb with rfl|hb
   ·omega
   ·have:=ltA_f.1 (h.1 b hb); omega
  | false =>
   rw [cond_false]
   unfold Sorted
   rw [List.pairwise_cons]
   refine ⟨fun b hb=>?_,insA_sorted h.2⟩
   rcases insA_mem hb with rfl|hb
   ·exact hl
   ·exact h.1 b hb
/-- Where the last of a sorted list is not beyond x, none is. -/
theorem sorted_last {x y:AR} {P:List AR} (h:Sorted (P ++ [y])) (hy:ltA x y = false):∀ a,a ∈ P ++ [y] → ltA x a = false:=by
 intro a ha
 rcases List.mem_append.1 ha with ha|ha
 ·unfold Sorted at h
  rw [List.pairwise_append] at h
  have h1:=ltA_f.1 (h.2.2 a ha y (by simp))
  have h2:=ltA_f.1 hy
  rw [ltA_f]; omega
 ·simp at ha; subst ha; exact hy
/-! ## Minute by minute -/
def atM (m:Int):List Int → Nat → List AR
 | [],_=>[]
 | a :: r,k=>bif decide (a = m) then (m,k) :: atM m r (k + 1) else atM m r (k + 1)
theorem atM_mem {m:Int} {y:AR}:∀ {l:List Int} {k:Nat},y ∈ atM m l k → y.1 = m ∧ y.2 < k + l.length
 | [],k,h=>by simp [atM] at h
 | a :: r,k,h=>by
  unfold atM at h
  have ih:y ∈ atM m r (k + 1) → y.1 = m ∧ y.2 < k + (a :: r).length:=fun h=>by
   have:=atM_mem h
   rw [List.length_cons]; omega
  cases hd:decide (a = m) with
  | true =>
   rw [hd,cond_true] at h
   rcases List.mem_cons.1 h with rfl|h
   ·rw [List.length_cons]; exact ⟨rfl,by show k < _; omega⟩
   ·exact ih h
  | false=>rw [hd,cond_false] at h; exact ih h
theorem atM_snoc (m x:Int):∀ (l:List Int) (k:Nat),atM m (l ++ [x]) k = atM m l k ++ bif decide (x = m) then [(m,k + l.length)] else []
 | [],k=>by
  show atM m [x] k = [] ++ _
  unfold atM
  cases decide (x = m)<;>rfl
 | a :: r,k=>by
  show atM m (a :: (r ++ [x])) k = _
  unfold atM
  rw [atM_snoc m x r (k + 1),show k + (a :: r).length = k + 1 + r.length from by rw [List.length_cons]; omega]
  cases decide (a = m)<;>rfl
def cmU (t:List Int):Nat → List AR
 | 0=>[]
 | j + 1=>cmU t j ++ atM (j:Int) t 0
theorem cmU_mem {t:List Int} {y:AR}:∀ {j:Nat},y ∈ cmU t j → y.1 < (j:Int) ∧ y.2 < t.length
 | 0,h=>by simp [cmU] at h
 | j + 1,h=>by
  unfold cmU at h
  rcases List.mem_append.1 h with h|h
  ·have:=cmU_mem h; omega
  ·have:=atM_mem h; omega
theorem cmU_snoc {t:List Int} {x:Int} (hx:0 ≤ x):∀ j:Nat,cmU (t ++ [x]) j = bif decide (x < (j:Int)) then lD (x,t.length) (cmU t j) else cmU t j
 | 0=>by rw [decide_eq_false (by omega)]; rfl
 | j + 1=>by
  have ih:=cmU_snoc (t:=t) hx j
  show cmU (t ++ [x]) j ++ atM (j:Int) (t ++ [x]) 0 = bif _ then lD _ (cmU t j ++ atM (j:Int) t 0) else cmU t j ++ atM (j:Int) t 0
  rw [ih,atM_snoc]
  by_cases h1:x < (j:Int)
  ·have d1:decide (x < (j:Int)) = true:=decide_eq_true h1
   have d2:decide (x < ((j + 1:Nat):Int)) = true:=decide_eq_true (by omega)
   have d3:decide (x = (j:Int)) = false:=decide_eq_false (by omega)
   rw [d1,d2,d3,cond_true,cond_true,cond_false,List.append_nil,insA_app]
   intro b hb
   have:=atM_mem hb
   rw [uB]; exact .inl (by show x < b.1; omega)
  ·have d1:decide (x < (j:Int)) = false:=decide_eq_false h1
   by_cases h2:x = (j:Int)
   ·have d2:decide (x < ((j + 1:Nat):Int)) = true:=decide_eq_true (by omega)
    have d3:decide (x = (j:Int)) = true:=decide_eq_true h2
    rw [d1,d2,d3,cond_false,cond_true,cond_true,insA_end,Nat.zero_add,h2,List.append_assoc]
    intro a ha
    rw [ltA_f]
    rcases List.mem_append.1 ha with ha|ha
    ·have:=cmU_mem ha; show ¬ (x < a.1 ∨ (x = a.1 ∧ _)); omega
    ·have:=atM_mem ha; show ¬ (x < a.1 ∨ (x = a.1 ∧ t.length < a.2)); omega
   ·have d2:decide (x < ((j + 1:Nat):Int)) = false:=decide_eq_false (by omega)
    have d3:decide (x = (j:Int)) = false:=decide_eq_false h2
    rw [d1,d2,d3,cond_false,cond_false,cond_false,List.append_nil]
def cmZ (t:List Int):List AR:=cmU t 31
theorem cmZ_snoc {t:List Int} {x:Int} (h0:0 ≤ x) (h1:x ≤ 30):cmZ (t ++ [x]) = lD (x,t.length) (cmZ t):=by
 have d:decide (x < ((31:Nat):Int)) = true:=decide_eq_true (by omega)
 unfold cmZ
 rw [cmU_snoc h0,d,cond_true]
theorem cmU_nil:∀ j,cmU [] j = []
 | 0=>rfl
 | j + 1=>by unfold cmU; rw [cmU_nil j]; rfl
theorem vG {α:Type} {t:List α} {k:Nat} (hk:k < t.length):t.take (k + 1) = t.take k ++ [t[k]]:=by
 rw [List.take_add_one,List.getElem?_eq_getElem hk]; rfl
structure CmOk (t:List Int) (k:Nat):Prop where
 len:(cmZ (t.take k)).length = k
 sorted:Sorted (cmZ (t.take k))
theorem cm_ok {t:List Int} (h:∀ x,x ∈ t → 0 ≤ x ∧ x ≤ 30):∀ k,k ≤ t.length → CmOk t k
 | 0,_=>by
  have e:cmZ (t.take 0) = []:=by rw [List.take_zero]; exact cmU_nil 31
  exact ⟨by rw [e]; rfl,by rw [e]; exact List.Pairwise.nil⟩
 | k + 1,hk=>by
  obtain ⟨i1,i2⟩:=cm_ok h k (by omega)
  have hb:=h t[k] (List.getElem_mem (by omega))
  have e:cmZ (t.take (k + 1)) = lD (t[k],(t.take k).length) (cmZ (t.take k)):=by rw [vG (by omega),cmZ_snoc hb.1 hb.2]
  exact ⟨by rw [e,insA_len,i1],by rw [e]; exact insA_sorted i2⟩
theorem cm_step {t:List Int} (h:∀ x,x ∈ t → 0 ≤ x ∧ x ≤ 30) {k:Nat} (hk:k < t.length):cmZ (t.take (k + 1)) = lD (t[k],k) (cmZ (t.take k)):=by
 have hb:=h t[k] (List.getElem_mem (by omega))
 have hl:(t.take k).length = k:=by rw [List.length_take]; omega
 rw [vG (by omega),cmZ_snoc hb.1 hb.2,hl]
/-- The orders of a truth as they come. -/
def lW (t:List Int):List Nat:=(cmZ t).map fun x=>x.2
theorem ord_lt {t:List Int} {a:Nat} (h:a ∈ lW t):a < t.length:=by
 obtain ⟨y,hy,rfl⟩:=List.mem_map.1 h
 exact (cmU_mem hy).2
end Go.Proofs.Po

/- What happens at a post in a truth (nothing of the program in it). -/
namespace Go.Proofs.Po
open Go Go.Ev
def odZ:Od:=⟨false,0,0,0,0⟩
def od (O:List Od) (j:Nat):Od:=O.getD j odZ
def lg (lf:List Int) (j:Nat):Int:=lf.getD j 0
theorem jB {O:List Od} {j:Nat} (h:j < O.length):O[j]? = some (od O j):=by
 unfold od; rw [List.getD_eq_getElem?_getD,List.getElem?_eq_getElem h]; rfl
theorem lg_get {lf:List Int} {j:Nat} (h:j < lf.length):lf[j]? = some (lg lf j):=by
 unfold lg; rw [List.getD_eq_getElem?_getD,List.getElem?_eq_getElem h]; rfl
theorem lg_set {lf:List Int} {i j:Nat} {x:Int} (h:i < lf.length):lg (lf.set i x) j = if i = j then x else lg lf j:=by
 unfold lg
 rw [List.getD_eq_getElem?_getD,List.getD_eq_getElem?_getD,List.getElem?_set]
 by_cases e:i = j
 ·subst e; rw [if_pos rfl,if_pos h,if_pos rfl]; rfl
 ·rw [if_neg e,if_neg e]
/-- Whether an order that comes can trade with one that rests. -/
def oppB (x y:Od):Bool:=(x.b != y.b) && oM x y.l
def qE (O:List Od) (lf:List Int) (a r:Nat):Bool:=(decide (0 < lg lf a) && decide (0 < lg lf r)) && oppB (od O a) (od O r)
/-- Whether one that rests is better than another one. -/
def betB (O:List Od) (r b:Nat):Bool:=!oM (od O b) (od O r).l
def accB (O:List Od) (r:Nat):Option Nat → Bool
 | none=>true
 | some b=>betB O r b
def stepP (O:List Od) (lf:List Int) (a r:Nat) (acc:Option Nat):Option Nat:=bif qE O lf a r && accB O r acc then some r else acc
def fZ (O:List Od) (lf:List Int) (a:Nat):List Nat → Option Nat → Option Nat
 | [],acc=>acc
 | r :: l,acc=>fZ O lf a l (stepP O lf a r acc)
theorem qF {O:List Od} {lf:List Int} {a r:Nat}:∀ {l:List Nat} {acc:Option Nat},fZ O lf a l acc = some r → acc = some r ∨ (r ∈ l ∧ qE O lf a r = true)
 | [],acc,h=>.inl h
 | q :: l,acc,h=>by
  unfold fZ at h
  rcases qF h with h|⟨h1,h2⟩
  ·unfold stepP at h
   cases hc:qE O lf a q && accB O q acc with
   | true =>
    rw [hc,cond_true] at h
    obtain rfl:q = r:=by simpa using h
    rw [Bool.and_eq_true] at hc
    exact .inr ⟨by simp,hc.1⟩
   | false=>rw [hc,cond_false] at h; exact .inl h
  ·exact .inr ⟨by simp [h1],h2⟩
/-- The buyer and the seller. -/
def bsZ (O:List Od) (a r:Nat):Nat × Nat:=bif (od O r).b then (r,a) else (a,r)
def iM (O:List Od) (lf:List Int) (a r:Nat):Sa:=⟨((bsZ O a r).1:Nat),((bsZ O a r).2:Nat),min2 (lg lf a) (lg lf r),(od O r).l⟩
def nP (lf:List Int) (j:Nat) (n:Int):List Int:=lf.set j (lg lf j - n)
def jO (O:List Od) (lf:List Int) (a r:Nat):List Int:=nP (nP lf (bsZ O a r).1 (min2 (lg lf a) (lg lf r))) (bsZ O a r).2 (min2 (lg lf a) (lg lf r))
abbrev ST:=List Int × List Sa
def iO (O:List Od) (came:List Nat) (a:Nat):Nat → ST → ST
 | 0,st=>st
 | f + 1,st =>
  match fZ O st.1 a came none with
  | none=>st
  | some r=>iO O came a f (jO O st.1 a r,st.2 ++ [iM O st.1 a r])
def runZ (O:List Od):List Nat → List Nat → ST → ST
 | [],_,st=>st
 | a :: l,came,st=>runZ O l (came ++ [a]) (iO O came a 20 st)
def iP (O:List Od) (k:Nat):List Int:=(List.range 6).map fun j=>if j < k then (od O j).n else 0
def dI (O:List Od) (t:List Int):ST:=runZ O (lW t) [] (iP O O.length,[])
theorem come_none {O:List Od} {came:List Nat} {a:Nat} {st:ST} (h:fZ O st.1 a came none = none):∀ f,iO O came a f st = st
 | 0=>rfl
 | f + 1=>by unfold iO; rw [h]
theorem come_some {O:List Od} {came:List Nat} {a r f:Nat} {st:ST} (h:fZ O st.1 a came none = some r):iO O came a (f + 1) st = iO O came a f (jO O st.1 a r,st.2 ++ [iM O st.1 a r]):=by
 show (match fZ O st.1 a came none with|none=>st|some r=>iO O came a f (jO O st.1 a r,st.2 ++ [iM O st.1 a r])) = _
 rw [h]
/-- What is left: six numbers, none below 0, none above 20. -/
structure LfOk (lf:List Int):Prop where
 len:lf.length = 6
 b:∀ j,0 ≤ lg lf j ∧ lg lf j ≤ 20
theorem vH {O:List Od} {lf:List Int} {a r:Nat} (h:qE O lf a r = true):0 < lg lf a ∧ 0 < lg lf r ∧ (od O a).b = !(od O r).b ∧ oM (od O a) (od O r).l = true:=by
 simp only [qE,oppB,Bool.and_eq_true,decide_eq_true_eq] at h
 refine ⟨h.1.1,h.1.2,?_,h.2.2⟩
 have:=h.2.1
 cases h1:(od O a).b<;>cases h2:(od O r).b<;>simp [h1,h2] at this ⊢
theorem can_ne {O:List Od} {lf:List Int} {a r:Nat} (h:qE O lf a r = true):a ≠ r:=by
 intro e
 subst e
 have:=(vH h).2.2.1
 cases h1:(od O a).b<;>simp [h1] at this
theorem min2_b {x y:Int} (hx:0 < x) (hy:0 < y):0 < min2 x y ∧ min2 x y ≤ x ∧ min2 x y ≤ y:=by
 unfold min2
 by_cases h:y < x
 ·rw [if_pos h]; omega
 ·rw [if_neg h]; omega
theorem bs_cases (O:List Od) (a r:Nat):bsZ O a r = (r,a) ∨ bsZ O a r = (a,r):=by
 unfold bsZ
 cases (od O r).b
 ·exact .inr rfl
 ·exact .inl rfl
theorem drop_get {O:List Od} {lf:List Int} {a r:Nat} (hl:lf.length = 6) (ha:a < 6) (hr:r < 6) (hne:a ≠ r) (j:Nat) :
  lg (jO O lf a r) j = if j = a ∨ j = r then lg lf j - min2 (lg lf a) (lg lf r) else lg lf j:=by
 have key:∀ x y:Nat,x < 6 → y < 6 → x ≠ y → ∀ n:Int,lg (nP (nP lf x n) y n) j = if j = x ∨ j = y then lg lf j - n else lg lf j:=by
  intro x y hx hy hxy n
  unfold nP
  rw [lg_set (by rw [List.length_set,hl]; exact hy),lg_set (by rw [hl]; exact hx),lg_set (by rw [hl]; exact hx)]
  by_cases e1:y = j
  ·subst e1
   rw [if_pos rfl,if_neg hxy,if_pos (.inr rfl)]
  ·rw [if_neg e1]
   by_cases e2:x = j
   ·subst e2; rw [if_pos rfl,if_pos (.inl rfl)]
   ·rw [if_neg e2,if_neg (by omega)]
 unfold jO
 rcases bs_cases O a r with e|e
 ·rw [e,key r a hr ha (fun q=>hne q.symm)]
  by_cases h:j = a ∨ j = r
  ·rw [if_pos h,if_pos (by omega)]
  ·rw [if_neg h,if_neg (by omega)]
 ·rw [e,key a r ha hr hne]
theorem drop_len {O:List Od} {lf:List Int} {a r:Nat}:(jO O lf a r).length = lf.length:=by
 unfold jO nP; rw [List.length_set,List.length_set]
theorem drop_ok {O:List Od} {lf:List Int} {a r:Nat} (hl:LfOk lf) (ha:a < 6) (hr:r < 6) (hc:qE O lf a r = true) :
  LfOk (jO O lf a r) ∧ lg (jO O lf a r) a < lg lf a:=by
 obtain ⟨p1,p2,_⟩:=vH hc
 obtain ⟨m1,m2,m3⟩:=min2_b p1 p2
 have hg:=drop_get (O:=O) hl.len ha hr (can_ne hc)
 refine ⟨⟨by rw [drop_len,hl.len],fun j=>?_⟩,?_⟩
 ·have:=hl.b j
  rw [hg]
  by_cases h:j = a ∨ j = r
  ·rw [if_pos h]
   rcases h with rfl|rfl<;>omega
  ·rw [if_neg h]; exact this
 ·rw [hg,if_pos (.inl rfl)]; omega
theorem qG (O:List Od) (k:Nat):(iP O k).length = 6:=by unfold iP; rw [List.length_map,List.length_range]
theorem left0_get (O:List Od) (k j:Nat) (hj:j < 6):lg (iP O k) j = if j < k then (od O j).n else 0:=by
 unfold lg iP
 rw [List.getD_eq_getElem?_getD,List.getElem?_map,List.getElem?_range hj]; rfl
theorem left0_out (O:List Od) (k j:Nat) (hj:¬ j < 6):lg (iP O k) j = 0:=by
 unfold lg
 rw [List.getD_eq_getElem?_getD,List.getElem?_eq_none (by rw [qG]; omega)]; rfl
theorem left0_ok {O:List Od} (hv:Val O):LfOk (iP O O.length):=⟨qG _ _,fun j=>by
 by_cases hj:j < 6
 ·rw [left0_get _ _ _ hj]
  by_cases h:j < O.length
  ·rw [if_pos h]
   have hm:=hv.ok (od O j) (List.mem_of_getElem? (jB h))
   have:=hm.n1; have:=hm.n2; omega
  ·rw [if_neg h]; omega
 ·rw [left0_out _ _ _ hj]; omega⟩
theorem left0_step {O:List Od} {k:Nat} (_hk:k < 6):(iP O k).set k (od O k).n = iP O (k + 1):=by
 apply List.ext_getElem?
 intro j
 rw [List.getElem?_set,qG]
 unfold iP
 rw [List.getElem?_map,List.getElem?_map]
 by_cases hj:j < 6
 ·rw [List.getElem?_range hj]
  by_cases e:k = j
  ·subst e
   rw [if_pos rfl,if_pos hj]
   simp
  ·rw [if_neg e]
   simp only [Option.map_some]
   by_cases h1:j < k
   ·rw [if_pos h1,if_pos (by omega)]
   ·rw [if_neg h1,if_neg (by omega)]
 ·rw [List.getElem?_eq_none (by rw [List.length_range]; omega)]
  by_cases e:k = j
  ·subst e; rw [if_pos rfl,if_neg hj]; rfl
  ·rw [if_neg e]; rfl
end Go.Proofs.Po

/- What the reference does with the same orders (nothing of the program in it). -/
namespace Go.Proofs.Po
open Go Go.Ev
theorem atM_get {m:Int} {y:AR}:∀ {l:List Int} {k:Nat},y ∈ atM m l k → ∃ i,y.2 = k + i ∧ l[i]? = some m ∧ y.1 = m
 | [],k,h=>by simp [atM] at h
 | a :: r,k,h=>by
  unfold atM at h
  have ih:y ∈ atM m r (k + 1) → ∃ i,y.2 = k + i ∧ (a :: r)[i]? = some m ∧ y.1 = m:=fun h=>by
   obtain ⟨i,h1,h2,h3⟩:=atM_get h
   exact ⟨i + 1,by omega,by simpa using h2,h3⟩
  cases hd:decide (a = m) with
  | true =>
   rw [hd,cond_true] at h
   rcases List.mem_cons.1 h with rfl|h
   ·exact ⟨0,rfl,by simp [of_decide_eq_true hd],rfl⟩
   ·exact ih h
  | false=>rw [hd,cond_false] at h; exact ih h
theorem atM_pw (m:Int):∀ (l:List Int) (k:Nat),(atM m l k).Pairwise fun x y=>x.2 ≠ y.2
 | [],_=>List.Pairwise.nil
 | a :: r,k=>by
  have ih:=atM_pw m r (k + 1)
  unfold atM
  cases decide (a = m) with
  | true =>
   rw [cond_true,List.pairwise_cons]
   refine ⟨fun y hy=>?_,ih⟩
   obtain ⟨i,h1,_⟩:=atM_get hy
   show k ≠ y.2; omega
  | false=>exact ih
theorem cmU_get {t:List Int} {y:AR}:∀ {j:Nat},y ∈ cmU t j → t[y.2]? = some y.1
 | 0,h=>by simp [cmU] at h
 | j + 1,h=>by
  unfold cmU at h
  rcases List.mem_append.1 h with h|h
  ·exact cmU_get h
  ·obtain ⟨i,h1,h2,h3⟩:=atM_get h
   rw [h1,Nat.zero_add,h3]; exact h2
theorem cmU_pw (t:List Int):∀ j,(cmU t j).Pairwise fun x y=>x.2 ≠ y.2
 | 0=>List.Pairwise.nil
 | j + 1=>by
  unfold cmU
  rw [List.pairwise_append]
  refine ⟨cmU_pw t j,atM_pw _ _ _,fun x hx y hy e=>?_⟩
  have h1:=cmU_get hx
  have h2:=(cmU_mem hx).1
  obtain ⟨i,h3,h4,h5⟩:=atM_get hy
  rw [Nat.zero_add] at h3
  rw [e,h3,h4] at h1
  injection h1 with h1
  omega
/-! ## The same steps -/
theorem ext_lg {x y:List Int} (hx:x.length = 6) (hy:y.length = 6) (h:∀ j,j < 6 → lg x j = lg y j):x = y:=by
 apply List.ext_getElem?
 intro j
 by_cases hj:j < 6
 ·rw [lg_get (by omega),lg_get (by omega),h j hj]
 ·rw [List.getElem?_eq_none (by omega),List.getElem?_eq_none (by omega)]
end Go.Proofs.Po
