import Derived.Test.YtefjnhpghgahbaaGreatCq9
/- The units of both sides are the same. -/
namespace Go.Proofs.Cp
open Go Go.Ev

theorem dayG_end (sp:List T3):∀ (k:Nat) (d n:Int),dayG sp (k + 1) d n = inS (d + k) sp (dayG sp k d n)
 | 0,d,n=>by
  rw [Int.natCast_zero,Int.add_zero]; rfl
 | k + 1,d,n=>by
  rw [dayG,dayG_end sp k (d + 1) (inS d sp n),show d + 1 + (k:Int) = d + ((k + 1:Nat):Int) from by omega]; rfl
theorem inSp_split {a b e:Int} (h1:a ≤ b) (h2:b ≤ e) (s:T3):inSp a e s = (inSp a b s || inSp b e s) ∧ (inSp a b s && inSp b e s) = false:=by
 unfold inSp
 by_cases ha:a < s.1 <;> by_cases hb:s.1 ≤ b <;> by_cases he:s.1 ≤ e <;> by_cases hc:b < s.1 <;> first|(exfalso; omega)|simp [ha,hb,he,hc]
theorem fold_mul {a b e:Int} (h1:a ≤ b) (h2:b ≤ e):∀ (l:List T3) (f g:Int × Int),l.foldl (ovS a e) (f.1 * g.1,f.2 * g.2) = ((l.foldl (ovS a b) f).1 * (l.foldl (ovS b e) g).1,(l.foldl (ovS a b) f).2 * (l.foldl (ovS b e) g).2)
 | [],_,_=>rfl
 | s :: l,f,g=>by
  simp only [List.foldl_cons]
  rw [← fold_mul h1 h2 l (ovS a b f s) (ovS b e g s)]
  congr 1
  have hx:=inSp_split h1 h2 s
  unfold ovS
  rw [hx.1]
  have h2:=hx.2
  cases x:inSp a b s <;> cases y:inSp b e s
  ·rfl
  ·show (f.1 * g.1 * s.2.1,f.2 * g.2 * s.2.2) = (f.1 * (g.1 * s.2.1),f.2 * (g.2 * s.2.2))
   rw [Int.mul_assoc,Int.mul_assoc]
  ·show (f.1 * g.1 * s.2.1,f.2 * g.2 * s.2.2) = (f.1 * s.2.1 * g.1,f.2 * s.2.2 * g.2)
   rw [Int.mul_right_comm,Int.mul_right_comm f.2]
  ·rw [x,y] at h2; cases h2
theorem over_mul (sp:List T3) {a b e:Int} (h1:a ≤ b) (h2:b ≤ e):overP sp a e = ((overP sp a b).1 * (overP sp b e).1,(overP sp a b).2 * (overP sp b e).2):=
 fold_mul h1 h2 sp (1,1) (1,1)
theorem fold_none {a b:Int} (h:b ≤ a):∀ (l:List T3) (f:Int × Int),l.foldl (ovS a b) f = f
 | [],_=>rfl
 | s :: l,f=>by
  rw [List.foldl_cons,fold_none h l]
  unfold ovS inSp
  by_cases h1:a < s.1
  ·rw [decide_eq_false (by omega:¬ s.1 ≤ b),Bool.and_false]; rfl
  ·rw [decide_eq_false h1]; rfl
theorem over_none (sp:List T3) {a b:Int} (h:b ≤ a):overP sp a b = (1,1):=fold_none h sp _
theorem den_dvd {x y:Int} (h1:1 ≤ x) (h2:x ≤ 4) (h3:1 ≤ y) (h4:y ≤ 4):x * y ∣ 720:=by
 have e1:x = 1 ∨ x = 2 ∨ x = 3 ∨ x = 4:=by omega
 have e2:y = 1 ∨ y = 2 ∨ y = 3 ∨ y = 4:=by omega
 rcases e1 with rfl|rfl|rfl|rfl <;> rcases e2 with rfl|rfl|rfl|rfl <;> decide
theorem over_dvd:∀ {sp:List T3} (_:okSps sp) (_:sp.length ≤ 2) (a b:Int),(overP sp a b).2 ∣ 720
 | [],_,_,_,_=>⟨720,rfl⟩
 | [s],ho,_,a,b=>by
  have hs:=ho s (by simp)
  show (ovS a b (1,1) s).2 ∣ 720
  unfold ovS
  cases inSp a b s
  ·exact ⟨720,rfl⟩
  ·exact den_dvd (x:=1) (by omega) (by omega) hs.2.2.1 hs.2.2.2
 | [s,s'],ho,_,a,b=>by
  have hs:=ho s (by simp)
  have hs':=ho s' (by simp)
  show (ovS a b (ovS a b (1,1) s) s').2 ∣ 720
  unfold ovS
  cases inSp a b s <;> cases inSp a b s'
  ·exact ⟨720,rfl⟩
  ·exact den_dvd (x:=1) (by omega) (by omega) hs'.2.2.1 hs'.2.2.2
  ·exact den_dvd (x:=1) (by omega) (by omega) hs.2.2.1 hs.2.2.2
  ·show (1 * s.2.2) * s'.2.2 ∣ 720
   rw [Int.one_mul]
   exact den_dvd hs.2.2.1 hs.2.2.2 hs'.2.2.1 hs'.2.2.2
 | _ :: _ :: _ :: _,_,h,_,_=>by simp only [List.length_cons] at h; omega
theorem facU_mul {c:Co} (hv:Val c) (sh a b:Int):facU c sh a b * (overP c.sp a b).2 = sh * 720 * (overP c.sp a b).1:=by
 unfold facU
 refine Int.tdiv_mul_cancel ?_
 obtain ⟨q,hq⟩:=over_dvd hv.sok hv.sl a b
 refine ⟨sh * q * (overP c.sp a b).1,?_⟩
 rw [hq]
 ac_rfl
theorem facU_step {c:Co} (hv:Val c) (sh:Int) {a k:Int} (h:a ≤ k):facU c sh a (k + 1) * (overP c.sp k (k + 1)).2 = facU c sh a k * (overP c.sp k (k + 1)).1:=by
 have e:=over_mul c.sp h (by omega:k ≤ k + 1)
 have m1:=facU_mul hv sh a (k + 1)
 have m0:=facU_mul hv sh a k
 rw [e] at m1
 have hd:=(over_room hv.sok hv.sl a k).2.2.1
 generalize facU c sh a (k + 1) = X at m1 ⊢
 generalize facU c sh a k = Y at m0 ⊢
 generalize (overP c.sp a k).2 = D0 at m1 m0 hd
 generalize (overP c.sp a k).1 = N0 at m1 m0
 generalize (overP c.sp k (k + 1)).1 = N1 at m1 ⊢
 generalize (overP c.sp k (k + 1)).2 = D1 at m1 ⊢
 have m1':X * (D0 * D1) = sh * 720 * (N0 * N1):=m1
 refine Int.eq_of_mul_eq_mul_right (a:=D0) (by omega) ?_
 calc X * D1 * D0 = X * (D0 * D1):=by ac_rfl
  _ = sh * 720 * (N0 * N1):=m1'
  _ = (sh * 720 * N0) * N1:=by ac_rfl
  _ = (Y * D0) * N1:=by rw [m0]
  _ = Y * N1 * D0:=by ac_rfl
theorem inSp_one (k:Int) (s:T3):inSp k (k + 1) s = decide (s.1 = k + 1):=by
 unfold inSp
 by_cases h:s.1 = k + 1
 ·rw [decide_eq_true h,decide_eq_true (by omega:k < s.1),decide_eq_true (by omega:s.1 ≤ k + 1)]; rfl
 ·rw [decide_eq_false h]
  by_cases h2:k < s.1
  ·rw [decide_eq_true h2,decide_eq_false (by omega:¬ s.1 ≤ k + 1)]; rfl
  ·rw [decide_eq_false h2]; rfl
theorem inS_over:∀ {sp:List T3} (_:spOrd (-1) sp = true) (_:sp.length ≤ 2) (k n:Int),inS (k + 1) sp n = (n * (overP sp k (k + 1)).1).tdiv (overP sp k (k + 1)).2
 | [],_,_,k,n=>by
  show n = (n * 1).tdiv 1
  rw [Int.mul_one,Int.tdiv_one]
 | [s],_,_,k,n=>by
  show stepS (k + 1) n s = (n * (ovS k (k + 1) (1,1) s).1).tdiv (ovS k (k + 1) (1,1) s).2
  unfold stepS ovS
  rw [inSp_one]
  cases decide (s.1 = k + 1)
  ·show n = (n * 1).tdiv 1
   rw [Int.mul_one,Int.tdiv_one]
  ·show (n * s.2.1).tdiv s.2.2 = (n * (1 * s.2.1)).tdiv (1 * s.2.2)
   rw [Int.one_mul,Int.one_mul]
 | [s,s'],hs,_,k,n=>by
  have hlt:s.1 < s'.1:=by
   simp only [spOrd,Bool.and_eq_true,inB_iff] at hs
   omega
  show stepS (k + 1) (stepS (k + 1) n s) s' = (n * (ovS k (k + 1) (ovS k (k + 1) (1,1) s) s').1).tdiv (ovS k (k + 1) (ovS k (k + 1) (1,1) s) s').2
  unfold stepS ovS
  rw [inSp_one,inSp_one]
  by_cases h1:s.1 = k + 1
  ·rw [decide_eq_true h1,decide_eq_false (by omega:¬ s'.1 = k + 1)]
   show (n * s.2.1).tdiv s.2.2 = (n * (1 * s.2.1)).tdiv (1 * s.2.2)
   rw [Int.one_mul,Int.one_mul]
  ·rw [decide_eq_false h1]
   cases decide (s'.1 = k + 1)
   ·show n = (n * 1).tdiv 1
    rw [Int.mul_one,Int.tdiv_one]
   ·show (n * s'.2.1).tdiv s'.2.2 = (n * (1 * s'.2.1)).tdiv (1 * s'.2.2)
    rw [Int.one_mul,Int.one_mul]
 | _ :: _ :: _ :: _,_,h,_,_=>by simp only [List.length_cons] at h; omega
theorem facU_none {c:Co} (sh:Int) {a b:Int} (h:b ≤ a):facU c sh a b = 720 * sh:=by
 unfold facU
 rw [over_none _ h,Int.mul_one,Int.tdiv_one,Int.mul_comm]
theorem units_nat {c:Co} (hv:Val c) (sh a:Int):∀ k:Nat,dayG c.sp k (a + 1) (720 * sh) = facU c sh a (a + k)
 | 0=>(facU_none sh (by omega)).symm
 | k + 1=>by
  rw [dayG_end,units_nat hv sh a k,show a + 1 + (k:Int) = (a + k) + 1 from by omega,inS_over hv.spo hv.sl,show a + ((k + 1:Nat):Int) = (a + k) + 1 from by omega,← facU_step hv sh (by omega:a ≤ a + (k:Int))]
  exact Int.mul_tdiv_cancel _ (by have:=(over_room hv.sok hv.sl (a + k) (a + k + 1)).2.2.1; omega)
theorem units_eq {c:Co} (hv:Val c) (sh a b:Int):unitsR c.sp sh a b = facU c sh a b:=by
 unfold unitsR
 by_cases h:a ≤ b
 ·rw [units_nat hv,show a + ((b - a).toNat:Int) = b from by omega]
 ·rw [show (b - a).toNat = 0 from by omega,facU_none sh (by omega)]; rfl
end Go.Proofs.Cp
