import Derived.Test.YthgmipngikdknaaGreatPp1
/- What happens at a post in a truth (nothing of the program in it). -/
namespace Go.Proofs.Po
open Go Go.Ev
def odZ:Od:=⟨false,0,0,0,0⟩
def od (O:List Od) (j:Nat):Od:=O.getD j odZ
def lg (lf:List Int) (j:Nat):Int:=lf.getD j 0
theorem od_get {O:List Od} {j:Nat} (h:j < O.length):O[j]? = some (od O j):=by
  unfold od; rw [List.getD_eq_getElem?_getD,List.getElem?_eq_getElem h]; rfl
theorem lg_get {lf:List Int} {j:Nat} (h:j < lf.length):lf[j]? = some (lg lf j):=by
  unfold lg; rw [List.getD_eq_getElem?_getD,List.getElem?_eq_getElem h]; rfl
theorem lg_set {lf:List Int} {i j:Nat} {x:Int} (h:i < lf.length):lg (lf.set i x) j = if i = j then x else lg lf j:=by
  unfold lg
  rw [List.getD_eq_getElem?_getD,List.getD_eq_getElem?_getD,List.getElem?_set]
  by_cases e:i = j
  · subst e; rw [if_pos rfl,if_pos h,if_pos rfl]; rfl
  · rw [if_neg e,if_neg e]
/-- Whether an order that comes can trade with one that rests. -/
def oppB (x y:Od):Bool:=(x.b != y.b) && isAtB x y.l
def canB (O:List Od) (lf:List Int) (a r:Nat):Bool:=(decide (0 < lg lf a) && decide (0 < lg lf r)) && oppB (od O a) (od O r)
/-- Whether one that rests is better than another one. -/
def betB (O:List Od) (r b:Nat):Bool:=!isAtB (od O b) (od O r).l
def accB (O:List Od) (r:Nat):Option Nat → Bool
  | none=>true
  | some b=>betB O r b
def stepP (O:List Od) (lf:List Int) (a r:Nat) (acc:Option Nat):Option Nat:=bif canB O lf a r && accB O r acc then some r else acc
def pickZ (O:List Od) (lf:List Int) (a:Nat):List Nat → Option Nat → Option Nat
  | [],acc=>acc
  | r :: l,acc=>pickZ O lf a l (stepP O lf a r acc)
theorem pick_some {O:List Od} {lf:List Int} {a r:Nat}:∀ {l:List Nat} {acc:Option Nat},pickZ O lf a l acc = some r → acc = some r ∨ (r ∈ l ∧ canB O lf a r = true)
  | [],acc,h=>.inl h
  | q :: l,acc,h=>by
    unfold pickZ at h
    rcases pick_some h with h|⟨h1,h2⟩
    · unfold stepP at h
      cases hc:canB O lf a q && accB O q acc with
      | true =>
        rw [hc,cond_true] at h
        obtain rfl:q = r:=by simpa using h
        rw [Bool.and_eq_true] at hc
        exact .inr ⟨by simp,hc.1⟩
      | false=>rw [hc,cond_false] at h; exact .inl h
    · exact .inr ⟨by simp [h1],h2⟩
/-- The buyer and the seller. -/
def bsZ (O:List Od) (a r:Nat):Nat × Nat:=bif (od O r).b then (r,a) else (a,r)
def saleZ (O:List Od) (lf:List Int) (a r:Nat):Sa:=⟨((bsZ O a r).1:Nat),((bsZ O a r).2:Nat),min2 (lg lf a) (lg lf r),(od O r).l⟩
def subZ (lf:List Int) (j:Nat) (n:Int):List Int:=lf.set j (lg lf j - n)
def dropZ (O:List Od) (lf:List Int) (a r:Nat):List Int:=subZ (subZ lf (bsZ O a r).1 (min2 (lg lf a) (lg lf r))) (bsZ O a r).2 (min2 (lg lf a) (lg lf r))
abbrev ST:=List Int × List Sa
def comeZ (O:List Od) (came:List Nat) (a:Nat):Nat → ST → ST
  | 0,st=>st
  | f + 1,st =>
    match pickZ O st.1 a came none with
    | none=>st
    | some r=>comeZ O came a f (dropZ O st.1 a r,st.2 ++ [saleZ O st.1 a r])
def runZ (O:List Od):List Nat → List Nat → ST → ST
  | [],_,st=>st
  | a :: l,came,st=>runZ O l (came ++ [a]) (comeZ O came a 20 st)
def left0 (O:List Od) (k:Nat):List Int:=(List.range 6).map fun j=>if j < k then (od O j).n else 0
def playZ (O:List Od) (t:List Int):ST:=runZ O (ordZ t) [] (left0 O O.length,[])
theorem come_none {O:List Od} {came:List Nat} {a:Nat} {st:ST} (h:pickZ O st.1 a came none = none):∀ f,comeZ O came a f st = st
  | 0=>rfl
  | f + 1=>by unfold comeZ; rw [h]
theorem come_some {O:List Od} {came:List Nat} {a r f:Nat} {st:ST} (h:pickZ O st.1 a came none = some r):comeZ O came a (f + 1) st = comeZ O came a f (dropZ O st.1 a r,st.2 ++ [saleZ O st.1 a r]):=by
  show (match pickZ O st.1 a came none with|none=>st|some r=>comeZ O came a f (dropZ O st.1 a r,st.2 ++ [saleZ O st.1 a r])) = _
  rw [h]
/-- What is left: six numbers, none below 0, none above 20. -/
structure LfOk (lf:List Int):Prop where
  len:lf.length = 6
  b:∀ j,0 ≤ lg lf j ∧ lg lf j ≤ 20
theorem can_pos {O:List Od} {lf:List Int} {a r:Nat} (h:canB O lf a r = true):0 < lg lf a ∧ 0 < lg lf r ∧ (od O a).b = !(od O r).b ∧ isAtB (od O a) (od O r).l = true:=by
  simp only [canB,oppB,Bool.and_eq_true,decide_eq_true_eq] at h
  refine ⟨h.1.1,h.1.2,?_,h.2.2⟩
  have:=h.2.1
  cases h1:(od O a).b <;> cases h2:(od O r).b <;> simp [h1,h2] at this ⊢
theorem can_ne {O:List Od} {lf:List Int} {a r:Nat} (h:canB O lf a r = true):a ≠ r:=by
  intro e
  subst e
  have:=(can_pos h).2.2.1
  cases h1:(od O a).b <;> simp [h1] at this
theorem min2_b {x y:Int} (hx:0 < x) (hy:0 < y):0 < min2 x y ∧ min2 x y ≤ x ∧ min2 x y ≤ y:=by
  unfold min2
  by_cases h:y < x
  · rw [if_pos h]; omega
  · rw [if_neg h]; omega
theorem bs_cases (O:List Od) (a r:Nat):bsZ O a r = (r,a) ∨ bsZ O a r = (a,r):=by
  unfold bsZ
  cases (od O r).b
  · exact .inr rfl
  · exact .inl rfl
theorem drop_get {O:List Od} {lf:List Int} {a r:Nat} (hl:lf.length = 6) (ha:a < 6) (hr:r < 6) (hne:a ≠ r) (j:Nat) :
    lg (dropZ O lf a r) j = if j = a ∨ j = r then lg lf j - min2 (lg lf a) (lg lf r) else lg lf j:=by
  have key:∀ x y:Nat,x < 6 → y < 6 → x ≠ y → ∀ n:Int,lg (subZ (subZ lf x n) y n) j = if j = x ∨ j = y then lg lf j - n else lg lf j:=by
    intro x y hx hy hxy n
    unfold subZ
    rw [lg_set (by rw [List.length_set,hl]; exact hy),lg_set (by rw [hl]; exact hx),lg_set (by rw [hl]; exact hx)]
    by_cases e1:y = j
    · subst e1
      rw [if_pos rfl,if_neg hxy,if_pos (.inr rfl)]
    · rw [if_neg e1]
      by_cases e2:x = j
      · subst e2; rw [if_pos rfl,if_pos (.inl rfl)]
      · rw [if_neg e2,if_neg (by omega)]
  unfold dropZ
  rcases bs_cases O a r with e|e
  · rw [e,key r a hr ha (fun q=>hne q.symm)]
    by_cases h:j = a ∨ j = r
    · rw [if_pos h,if_pos (by omega)]
    · rw [if_neg h,if_neg (by omega)]
  · rw [e,key a r ha hr hne]
theorem drop_len {O:List Od} {lf:List Int} {a r:Nat}:(dropZ O lf a r).length = lf.length:=by
  unfold dropZ subZ; rw [List.length_set,List.length_set]
theorem drop_ok {O:List Od} {lf:List Int} {a r:Nat} (hl:LfOk lf) (ha:a < 6) (hr:r < 6) (hc:canB O lf a r = true) :
    LfOk (dropZ O lf a r) ∧ lg (dropZ O lf a r) a < lg lf a:=by
  obtain ⟨p1,p2,_⟩:=can_pos hc
  obtain ⟨m1,m2,m3⟩:=min2_b p1 p2
  have hg:=drop_get (O:=O) hl.len ha hr (can_ne hc)
  refine ⟨⟨by rw [drop_len,hl.len],fun j=>?_⟩,?_⟩
  · have:=hl.b j
    rw [hg]
    by_cases h:j = a ∨ j = r
    · rw [if_pos h]
      rcases h with rfl|rfl <;> omega
    · rw [if_neg h]; exact this
  · rw [hg,if_pos (.inl rfl)]; omega
theorem left0_len (O:List Od) (k:Nat):(left0 O k).length = 6:=by unfold left0; rw [List.length_map,List.length_range]
theorem left0_get (O:List Od) (k j:Nat) (hj:j < 6):lg (left0 O k) j = if j < k then (od O j).n else 0:=by
  unfold lg left0
  rw [List.getD_eq_getElem?_getD,List.getElem?_map,List.getElem?_range hj]; rfl
theorem left0_out (O:List Od) (k j:Nat) (hj:¬ j < 6):lg (left0 O k) j = 0:=by
  unfold lg
  rw [List.getD_eq_getElem?_getD,List.getElem?_eq_none (by rw [left0_len]; omega)]; rfl
theorem left0_ok {O:List Od} (hv:Val O):LfOk (left0 O O.length):=⟨left0_len _ _,fun j=>by
  by_cases hj:j < 6
  · rw [left0_get _ _ _ hj]
    by_cases h:j < O.length
    · rw [if_pos h]
      have hm:=hv.ok (od O j) (List.mem_of_getElem? (od_get h))
      have:=hm.n1; have:=hm.n2; omega
    · rw [if_neg h]; omega
  · rw [left0_out _ _ _ hj]; omega⟩
theorem left0_step {O:List Od} {k:Nat} (_hk:k < 6):(left0 O k).set k (od O k).n = left0 O (k + 1):=by
  apply List.ext_getElem?
  intro j
  rw [List.getElem?_set,left0_len]
  unfold left0
  rw [List.getElem?_map,List.getElem?_map]
  by_cases hj:j < 6
  · rw [List.getElem?_range hj]
    by_cases e:k = j
    · subst e
      rw [if_pos rfl,if_pos hj]
      simp
    · rw [if_neg e]
      simp only [Option.map_some]
      by_cases h1:j < k
      · rw [if_pos h1,if_pos (by omega)]
      · rw [if_neg h1,if_neg (by omega)]
  · rw [List.getElem?_eq_none (by rw [List.length_range]; omega)]
    by_cases e:k = j
    · subst e; rw [if_pos rfl,if_neg hj]; rfl
    · rw [if_neg e]; rfl
end Go.Proofs.Po
