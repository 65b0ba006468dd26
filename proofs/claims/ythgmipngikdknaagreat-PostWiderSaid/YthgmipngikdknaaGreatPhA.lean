import Derived.Test.YthgmipngikdknaaGreatPoN
import Derived.Test.YthgmipngikdknaaGreatPrD
import Derived.Test.YthgmipngikdknaaGreatPwB
import Derived.Test.YthgmipngikdknaaGreatEvE
import Derived.Test.YthgmipngikdknaaGreatPp7
/- Copies onto which can be appended; structs compared in the program's regions that draw their order. -/
namespace Go.Proofs.Po
open Go Go.Ev Go.RowKit
set_option linter.unusedSimpArgs false
variable {pr:Prim} {R:ExT}
section
variable {P:Program} {h:AHeap} {call:CallT} {ops:Array Oper} {n:Nat} {rest:List Oper} {t:T Value} {KR:T Value → AHeap → Bool} {dst:Option Tmp} {v:Value} {l:List Int} {a e:TypeId} {x:Operand}
end
section
variable {P:Program} {n:Nat} {t:T Value} {h:AHeap} {ops:Array Oper} {call:CallT} {fl:Nat} {ids:List (Nat × Nat)} {f:Nat} {l:List Info} {i m done:Nat} {hist:List Seen} {KR:T Value → AHeap → Bool} {ty:TypeId} {pos:String} {af:Array Edge} {g:Option (Nat × Bool)} {d:Tmp}
end
theorem kSaC:lH Tryz.prog 73 = some 4:=by kernel_rfl
end Go.Proofs.Po

/- A slice of rows that nobody else has, changed in place. -/
namespace Go.Proofs.Po
open Go Go.Ev Go.RowKit
set_option linter.unusedSimpArgs false
/-- A block of cells that nobody else has, with the family in which it grew, in a window of blocks. -/
def OwnC (lo hi:Nat) (h:AHeap) (b F:Nat) (c:List Value):Prop:=
 lo ≤ b ∧ b < hi ∧ hi ≤ h.nx ∧ h.bl.get b = some (.cells c F false) ∧ lo ≤ F ∧ F < hi ∧ ∃ fl,h.fams.get F = some fl ∧ ∀ x,x ∈ fl → lo ≤ x ∧ x < hi
/-- Only blocks in a window have changed. -/
def Win (lo hi:Nat) (h h':AHeap):Prop:=h'.nx = h.nx ∧ ∀ j,(j < lo ∨ hi ≤ j) → h'.bl.get j = h.bl.get j ∧ h'.fams.get j = h.fams.get j
section
variable {lo hi b F off:Nat} {h h':AHeap} {c ls:List Value}
theorem OwnC.mono (k:OwnC lo hi h b F c) (a:Kp h h'):OwnC lo hi h' b F c:=by
 obtain ⟨k1,k2,k3,k4,k5,k6,fl,k7,k8⟩:=k
 exact ⟨k1,k2,Nat.le_trans k3 a.1,(a.get (by omega)).trans k4,k5,k6,fl,(a.fget (by omega)).trans k7,k8⟩
theorem OwnC.store (k:OwnC lo hi h b F c) (hne:ls ≠ []) (hl:off + ls.length ≤ c.length) :
  ∃ h',(∀ K:AHeap → Bool,gY h b off ls K = K h') ∧ Win lo hi h h' ∧ OwnC lo hi h' b F (c.take off ++ ls ++ c.drop (off + ls.length)):=by
 obtain ⟨k1,k2,k3,k4,k5,k6,fl,k7,k8⟩:=k
 have h1:Nat.ble (Nat.add off ls.length) c.length = true:=Nat.ble_eq_true_of_le hl
 have hs:=spliceL_eq c off ls hl
 obtain ⟨v0,l0,rfl⟩:∃ v0 l0,ls = v0 :: l0:=by
  cases ls with
  | nil=>exact absurd rfl hne
  | cons v0 l0=>exact ⟨v0,l0,rfl⟩
 have one:∀ K:AHeap → Bool,gY h b off (v0 :: l0) K = jC h b off (v0 :: l0) c F K:=fun K=>by simp only [gY,k4]
 generalize hc:c.take off ++ (v0 :: l0) ++ c.drop (off + (v0 :: l0).length) = c' at hs ⊢
 have two:(∃ x,fl = [x]) ∨ ∀ K:AHeap → Bool,jC h b off (v0 :: l0) c F K = K ⟨T.set (b + 1) (kill fl b h.bl) b (.cells c' F false),h.nx,T.set (F + 1) h.fams F [b]⟩:=by
  match fl,k7 with
  | [],k7=>exact .inr fun K=>by simp only [jC,h1,cond_true,dJ,hs,k7,iF,T.setK_eq]
  | [x],_=>exact .inl ⟨x,rfl⟩
  | x :: y :: r,k7=>exact .inr fun K=>by simp only [jC,h1,cond_true,dJ,hs,k7,iF,T.setK_eq]
 rcases two with ⟨x,rfl⟩|two
 ·refine ⟨h.upd b c' F,fun K=>?_,⟨rfl,fun j hj=>⟨upd_ne _ _ _ (by omega),by rw [bM]⟩⟩,k1,k2,k3,aO _ _ _,k5,k6,[x],by rw [bM]; exact k7,k8⟩
  rw [one]
  simp only [jC,h1,cond_true,dJ,hs,k7,T.setK_eq]
  rfl
 ·refine ⟨⟨T.set (b + 1) (kill fl b h.bl) b (.cells c' F false),h.nx,T.set (F + 1) h.fams F [b]⟩,fun K=>by rw [one,two],⟨rfl,fun j hj=>⟨?_,aQ (Nat.lt_succ_self _) (by omega)⟩⟩,k1,k2,k3,aU (Nat.lt_succ_self _),k5,k6,[b],aU (Nat.lt_succ_self _),fun x hx=>by simp at hx; omega⟩
  show (T.set (b + 1) (kill fl b h.bl) b (.cells c' F false)).get j = _
  rw [aQ (Nat.lt_succ_self _) (by omega),iW,if_neg (fun q=>by have:=k8 j q.1; omega)]
theorem Win.kp {h0:AHeap} (k:Win lo hi h h') (hl:h0.nx ≤ lo) (a:Kp h0 h):Kp h0 h':=
 ⟨by rw [k.1]; exact a.1,fun j hj=>⟨(k.2 j (.inl (by omega))).1.trans (a.2 j hj).1,(k.2 j (.inl (by omega))).2.trans (a.2 j hj).2⟩⟩
theorem copied_own {sz:Nat} {v':Value} {cs:List (List Value)} (k:Copied h h' b sz v' cs) (hl:lo ≤ b) (hb:b < h.nx):∃ B,v' = .slice (some ⟨B,0,none⟩) cs.length cs.length ∧ OwnC lo h'.nx h' B b cs.flatten:=by
 have hle:=k.le
 obtain ⟨B,l,q1,q2,q3,q4,q5,q6,_⟩:=k.at_
 refine ⟨B,q1,by omega,q3,Nat.le_refl _,q4,hl,by omega,l,q5,fun x hx=>?_⟩
 have:=q6 x hx
 omega
end
section
variable {P:Program} {call:CallT} {ops:Array Oper} {n:Nat} {rest:List Oper} {t:T Value} {h h':AHeap} {KR:T Value → AHeap → Bool} {x y:Operand} {a:TypeId} {dst:Option Tmp}
end
/-! ## Orders whose minutes are replaced -/
theorem own_at {lo hi b F:Nat} {h:AHeap} {l:List Od} (k:OwnC lo hi h b F (l.map cOd).flatten) (hne:l ≠ []):SlAt h 5 (.slice (some ⟨b,0,none⟩) l.length l.length) (l.map cOd):=by
 obtain ⟨k1,k2,k3,k4,_⟩:=k
 refine .inr ⟨b,l.length,F,false,fun e=>hne (List.map_eq_nil_iff.1 e),by rw [List.length_map],by omega,k4,fun c hc=>?_⟩
 obtain ⟨z,_,rfl⟩:=List.mem_map.1 hc; rfl
end Go.Proofs.Po
