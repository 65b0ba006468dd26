import Derived.Test.YthgmipngikdknaaGreatPoN
import Derived.Test.YthgmipngikdknaaGreatPoS
import Derived.Test.YthgmipngikdknaaGreatPp6
import Derived.Test.YthgmipngikdknaaGreatEvE
import Derived.Test.YthgmipngikdknaaGreatPp7
/- Copies onto which can be appended; structs compared in the program's regions that draw their order. -/
namespace Go.Proofs.Po
open Go Go.Ev Go.RowKit
set_option linter.unusedSimpArgs false
variable {pr:Prim} {R:ExT}
section
variable {P:Program} {h:AHeap} {call:CallT} {ops:Array Oper} {n:Nat} {rest:List Oper} {t:T Value} {KR:T Value → AHeap → Bool} {dst:Option Tmp} {v:Value} {l:List Int} {a e:TypeId} {x:Operand}
end
section
variable {P:Program} {n:Nat} {t:T Value} {h:AHeap} {ops:Array Oper} {call:CallT} {fl:Nat} {ids:List (Nat × Nat)} {f:Nat} {l:List Info} {i m done:Nat} {hist:List Seen} {KR:T Value → AHeap → Bool} {ty:TypeId} {pos:String} {af:Array Edge} {g:Option (Nat × Bool)} {d:Tmp}
end
end Go.Proofs.Po

/- A slice of rows that nobody else has, changed in place. -/
namespace Go.Proofs.Po
open Go Go.Ev Go.RowKit
set_option linter.unusedSimpArgs false
/-- A block of cells that nobody else has, with the family in which it grew, in a window of blocks. -/
def OwnC (lo hi:Nat) (h:AHeap) (b F:Nat) (c:List Value):Prop:=
  lo ≤ b ∧ b < hi ∧ hi ≤ h.nx ∧ h.bl.get b = some (.cells c F false) ∧ lo ≤ F ∧ F < hi ∧ ∃ fl,h.fams.get F = some fl ∧ ∀ x,x ∈ fl → lo ≤ x ∧ x < hi
/-- Only blocks in a window have changed. -/
def Win (lo hi:Nat) (h h':AHeap):Prop:=h'.nx = h.nx ∧ ∀ j,(j < lo ∨ hi ≤ j) → h'.bl.get j = h.bl.get j ∧ h'.fams.get j = h.fams.get j
section
variable {lo hi b F off:Nat} {h h':AHeap} {c ls:List Value}
theorem OwnC.mono (k:OwnC lo hi h b F c) (a:Kp h h'):OwnC lo hi h' b F c:=by
  obtain ⟨k1,k2,k3,k4,k5,k6,fl,k7,k8⟩:=k
  exact ⟨k1,k2,Nat.le_trans k3 a.1,(a.get (by omega)).trans k4,k5,k6,fl,(a.fget (by omega)).trans k7,k8⟩
theorem OwnC.store (k:OwnC lo hi h b F c) (hne:ls ≠ []) (hl:off + ls.length ≤ c.length) :
    ∃ h',(∀ K:AHeap → Bool,storeC h b off ls K = K h') ∧ Win lo hi h h' ∧ OwnC lo hi h' b F (c.take off ++ ls ++ c.drop (off + ls.length)):=by
  obtain ⟨k1,k2,k3,k4,k5,k6,fl,k7,k8⟩:=k
  have h1:Nat.ble (Nat.add off ls.length) c.length = true:=Nat.ble_eq_true_of_le hl
  have hs:=spliceL_eq c off ls hl
  obtain ⟨v0,l0,rfl⟩:∃ v0 l0,ls = v0 :: l0:=by
    cases ls with
    | nil=>exact absurd rfl hne
    | cons v0 l0=>exact ⟨v0,l0,rfl⟩
  have one:∀ K:AHeap → Bool,storeC h b off (v0 :: l0) K = storeC1 h b off (v0 :: l0) c F K:=fun K=>by simp only [storeC,k4]
  generalize hc:c.take off ++ (v0 :: l0) ++ c.drop (off + (v0 :: l0).length) = c' at hs ⊢
  have two:(∃ x,fl = [x]) ∨ ∀ K:AHeap → Bool,storeC1 h b off (v0 :: l0) c F K = K ⟨T.set (b + 1) (kill fl b h.bl) b (.cells c' F false),h.nx,T.set (F + 1) h.fams F [b]⟩:=by
    match fl,k7 with
    | [],k7=>exact .inr fun K=>by simp only [storeC1,h1,cond_true,fSpine_eq,hs,k7,killK_eq,T.setK_eq]
    | [x],_=>exact .inl ⟨x,rfl⟩
    | x :: y :: r,k7=>exact .inr fun K=>by simp only [storeC1,h1,cond_true,fSpine_eq,hs,k7,killK_eq,T.setK_eq]
  rcases two with ⟨x,rfl⟩|two
  · refine ⟨h.upd b c' F,fun K=>?_,⟨rfl,fun j hj=>⟨upd_ne _ _ _ (by omega),by rw [upd_fams]⟩⟩,k1,k2,k3,upd_eq _ _ _,k5,k6,[x],by rw [upd_fams]; exact k7,k8⟩
    rw [one]
    simp only [storeC1,h1,cond_true,fSpine_eq,hs,k7,T.setK_eq]
    rfl
  · refine ⟨⟨T.set (b + 1) (kill fl b h.bl) b (.cells c' F false),h.nx,T.set (F + 1) h.fams F [b]⟩,fun K=>by rw [one,two],⟨rfl,fun j hj=>⟨?_,get_ne (Nat.lt_succ_self _) (by omega)⟩⟩,k1,k2,k3,get_eq (Nat.lt_succ_self _),k5,k6,[b],get_eq (Nat.lt_succ_self _),fun x hx=>by simp at hx; omega⟩
    show (T.set (b + 1) (kill fl b h.bl) b (.cells c' F false)).get j = _
    rw [get_ne (Nat.lt_succ_self _) (by omega),kill_get,if_neg (fun q=>by have:=k8 j q.1; omega)]
theorem Win.kp {h0:AHeap} (k:Win lo hi h h') (hl:h0.nx ≤ lo) (a:Kp h0 h):Kp h0 h':=
  ⟨by rw [k.1]; exact a.1,fun j hj=>⟨(k.2 j (.inl (by omega))).1.trans (a.2 j hj).1,(k.2 j (.inl (by omega))).2.trans (a.2 j hj).2⟩⟩
theorem copied_own {sz:Nat} {v':Value} {cs:List (List Value)} (k:Copied h h' b sz v' cs) (hl:lo ≤ b) (hb:b < h.nx):∃ B,v' = .slice (some ⟨B,0,none⟩) cs.length cs.length ∧ OwnC lo h'.nx h' B b cs.flatten:=by
  have hle:=k.le
  obtain ⟨B,l,q1,q2,q3,q4,q5,q6,_⟩:=k.at_
  refine ⟨B,q1,by omega,q3,Nat.le_refl _,q4,hl,by omega,l,q5,fun x hx=>?_⟩
  have:=q6 x hx
  omega
end
section
variable {P:Program} {call:CallT} {ops:Array Oper} {n:Nat} {rest:List Oper} {t:T Value} {h h':AHeap} {KR:T Value → AHeap → Bool} {x y:Operand} {a:TypeId} {dst:Option Tmp}
end
/-! ## Orders whose minutes are replaced -/
def setT (x:Od) (n:Int):Od:=⟨x.b,x.l,x.n,n,n⟩
def upO:List Od → List Int → List Od
  | x :: O,n :: ns=>setT x n :: upO O ns
  | [],_=>[]
  | x :: O,[]=>x :: O
theorem upO_nil:∀ O:List Od,upO O [] = O
  | []=>rfl
  | _ :: _=>rfl
theorem upO_len:∀ (O:List Od) (ns:List Int),(upO O ns).length = O.length
  | x :: O,n :: ns=>by unfold upO; rw [List.length_cons,List.length_cons,upO_len O ns]
  | [],_=>by unfold upO; rfl
  | x :: O,[]=>rfl
theorem upO_get:∀ {O:List Od} {ns:List Int} {i:Nat} {x:Od},O[i]? = some x → (upO O ns)[i]? = some (match ns[i]? with|some n=>setT x n|none=>x)
  | y :: O,n :: ns,0,x,h=>by
    obtain rfl:y = x:=by simpa using h
    rfl
  | y :: O,n :: ns,i + 1,x,h=>by
    have h':O[i]? = some x:=by simpa using h
    have:=upO_get (ns:=ns) h'
    unfold upO
    rw [List.getElem?_cons_succ,this,List.getElem?_cons_succ]
  | [],_,_,_,h=>by simp at h
  | y :: O,[],i,x,h=>by rw [upO_nil,h]; rfl
theorem upO_snoc:∀ {O:List Od} {ns:List Int} {n:Int} {x:Od},O[ns.length]? = some x → upO O (ns ++ [n]) = (upO O ns).set ns.length (setT x n)
  | y :: O,[],n,x,h=>by
    obtain rfl:y = x:=by simpa using h
    show setT y n :: upO O [] = _
    rw [upO_nil]; rfl
  | y :: O,m :: ns,n,x,h=>by
    have h':O[ns.length]? = some x:=by simpa using h
    show setT y m :: upO O (ns ++ [n]) = (setT y m :: upO O ns).set (ns.length + 1) (setT x n)
    rw [upO_snoc h',List.set_cons_succ]
  | [],_,_,_,h=>by simp at h
theorem rows_set {l:List Od} {i:Nat} {x:Od} {n:Int} (hi:l[i]? = some x):((l.map cOd).flatten.take (i * 5 + 3) ++ c2 (n,n) ++ (l.map cOd).flatten.drop (i * 5 + 3 + (c2 (n,n)).length)) = ((l.set i (setT x n)).map cOd).flatten:=by
  obtain ⟨hlt,he⟩:=List.getElem?_eq_some_iff.1 hi
  rw [← flat_set2 (cv:=cOd) (n:=5) cOd_len l i (setT x n) hlt]
  have hm:(l.map cOd)[i]? = some (cOd x):=by rw [List.getElem?_map,hi]; rfl
  have hsz:∀ c,c ∈ l.map cOd → c.length = 5:=fun c hc=>by obtain ⟨z,_,rfl⟩:=List.mem_map.1 hc; rfl
  obtain ⟨q1,_⟩:=flat_part hsz hm
  have e3:((l.map cOd).flatten.drop (i * 5)).take 3 = [.bool x.b,iv x.l,iv x.n]:=by
    have:((l.map cOd).flatten.drop (i * 5)).take 3 = (((l.map cOd).flatten.drop (i * 5)).take 5).take 3:=by rw [List.take_take]; rfl
    rw [this,q1]; rfl
  rw [List.take_add,e3]
  show (l.map cOd).flatten.take (i * 5) ++ [.bool x.b,iv x.l,iv x.n] ++ [iv n,iv n] ++ (l.map cOd).flatten.drop (i * 5 + 3 + 2) = (l.map cOd).flatten.take (i * 5) ++ [.bool x.b,iv x.l,iv x.n,iv n,iv n] ++ (l.map cOd).flatten.drop (i * 5 + 5)
  rw [Nat.add_assoc,List.append_assoc ((l.map cOd).flatten.take (i * 5))]
  rfl
theorem own_at {lo hi b F:Nat} {h:AHeap} {l:List Od} (k:OwnC lo hi h b F (l.map cOd).flatten) (hne:l ≠ []):SlAt h 5 (.slice (some ⟨b,0,none⟩) l.length l.length) (l.map cOd):=by
  obtain ⟨k1,k2,k3,k4,_⟩:=k
  refine .inr ⟨b,l.length,F,false,fun e=>hne (List.map_eq_nil_iff.1 e),by rw [List.length_map],by omega,k4,fun c hc=>?_⟩
  obtain ⟨z,_,rfl⟩:=List.mem_map.1 hc; rfl
end Go.Proofs.Po
