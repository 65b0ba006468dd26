import Derived.Test.YthgmipngikdknaaGreatEvB
import Derived.OrdersIn
import Derived.Test.YthgmipngikdknaaGreatEvA
/- Regions that draw their order: parts. -/
namespace Go.Ev
open Go.RowKit

/-! ## Equal values -/
theorem beqB_eq {a b:Bool} (e:beqB a b = true):a = b:=by cases a<;>cases b<;>first|rfl|cases e

theorem beqBytes_eq:∀ {a b:List UInt8},beqBytes a b = true → a = b
 | [],[],_=>rfl
 | [],_ :: _,e=>by cases e
 | _ :: _,[],e=>by cases e
 | a :: l,b :: r,e=>by
  simp only [beqBytes,Bool.and_eq_true] at e
  rw [beqBytes_eq e.2,UInt8.toNat_inj.1 (Nat.eq_of_beq_eq_true e.1)]

mutual
theorem veq_eq:∀ (a b:Value),veq a b = true → a = b
 | a,b,e=>by
  unfold veq at e
  split at e
  ·rw [beqB_eq e]
  ·simp only [Bool.and_eq_true] at e
   rw [oI e.1]
   have:=e.2
   rw [beqI_iff,beq_iff_eq] at this
   rw [this]
  ·rw [beqBytes_eq e]
  ·rfl
  ·simp only [Bool.and_eq_true] at e
   rw [Nat.eq_of_beq_eq_true e.1,Nat.eq_of_beq_eq_true e.2]
  ·rfl
  ·rfl
  ·simp only [Bool.and_eq_true] at e
   rw [Nat.eq_of_beq_eq_true e.1.1.1,Nat.eq_of_beq_eq_true e.1.1.2,Nat.eq_of_beq_eq_true e.1.2,Nat.eq_of_beq_eq_true e.2]
  ·rfl
  ·rw [Nat.eq_of_beq_eq_true e]
  ·rfl
  ·rfl
  ·simp only [Bool.and_eq_true] at e
   rw [Nat.eq_of_beq_eq_true e.1.1,veqA_eq _ _ e.1.2,veqA_eq _ _ e.2]
  ·simp only [Bool.and_eq_true] at e
   rw [Nat.eq_of_beq_eq_true e.1.1,veqA_eq _ _ e.1.2,veqA_eq _ _ e.2]
  ·rw [veqA_eq _ _ e]
  ·rw [veqA_eq _ _ e]
  ·simp only [Bool.and_eq_true] at e
   rw [Nat.eq_of_beq_eq_true e.1,veq_eq _ _ e.2]
  ·cases e
theorem veqA_eq:∀ (a b:Array Value),veqA a b = true → a = b
 | ⟨a⟩,⟨b⟩,e=>by rw [veqL_eq a b (by simpa [veqA] using e)]
theorem veqL_eq:∀ (a b:List Value),veqL a b = true → a = b
 | [],[],_=>rfl
 | [],_ :: _,e=>by cases e
 | _ :: _,[],e=>by cases e
 | a :: l,b :: r,e=>by
  simp only [veqL,Bool.and_eq_true] at e
  rw [veq_eq _ _ e.1,veqL_eq _ _ e.2]
end

section
variable {P:Program} {m:M} {w0:Base} {w:World} {h:AHeap} {t:T Value} {n:Nat} {a:Act} {rd:Option Nat} {nn:Nat} {ops:Array Oper}

/-- Operations that do not read memory. -/
theorem aread_still (h h':AHeap) {o:Oper} (hr:isReadOp o.op = false):dE P t h o = dE P t h' o:=by
 unfold dE
 split<;>first|rfl|(rename_i ho; rw [ho] at hr; cases hr)|(rename_i ho; rw [ho] at hr; simp [isReadOp] at hr)

theorem not_select_read {o:Oper} {v:Value} (e:dE P t h o = some v):∀ cs b,o.op ≠ .select cs b:=by
 intro c b ho
 unfold dE at e
 rw [ho] at e
 cases e

theorem not_select_write {o:Oper} {call:CallT} {K:KV} (e:bI P call t h o K = true):∀ cs b,o.op ≠ .select cs b:=by
 intro c b ho
 unfold bI at e
 rw [ho] at e
 cases e

/-! ## Acts that an operation cannot tell apart -/
def Agree (ops:Array Oper) (o:Oper) (b a:Act):Prop:=∀ d ∈ o.looksAt ops,b.tmps[d]? = a.tmps[d]?

theorem Agree.refl (o:Oper) (a:Act):Agree ops o a a:=fun _ _=>rfl
theorem Agree.trans {o:Oper} {a b c:Act} (x:Agree ops o a b) (y:Agree ops o b c):Agree ops o a c:=fun d hd=>(x d hd).trans (y d hd)
theorem Agree.symm {o:Oper} {a b:Act} (x:Agree ops o a b):Agree ops o b a:=fun d hd=>(x d hd).symm

theorem Agree.eval {o:Oper} {b a:Act} (k:Agree ops o b a):∀ x ∈ o.op.operands,b.eval x = a.eval x:=by
 intro x hx
 cases x with
 | tmp d =>
  have:d ∈ o.looksAt ops:=List.mem_append_left _ (List.mem_filterMap.2 ⟨.tmp d,by simpa using hx,rfl⟩)
  simp only [Act.eval,Array.getD_eq_getD_getElem?,k d this]
 | _=>rfl

theorem Agree.wanted {o:Oper} {b a:Act} (k:Agree ops o b a):Region.wanted o (yielded ops b.tmps) = Region.wanted o (yielded ops a.tmps):=by
 unfold Region.wanted
 cases hg:o.guard with
 | none=>rfl
 | some gw =>
  obtain ⟨g,want⟩:=gw
  have hy:yielded ops b.tmps g = yielded ops a.tmps g:=by
   unfold yielded
   cases ht:(ops[g]?).bind (·.dst) with
   | none=>rfl
   | some d =>
    have:d ∈ o.looksAt ops:=by simp [Oper.looksAt,hg,ht]
    simp [k d this]
  simp only [hy]

theorem Agree.of_put {o:Oper} (a:Act) (dst:Option Tmp) (v:Value) (k:∀ d,dst = some d → d ∉ o.looksAt ops):Agree ops o (a.put dst v) a:=by
 intro d hd
 cases dst with
 | none=>rfl
 | some e =>
  have hne:e ≠ d:=fun he=>k e rfl (he ▸ hd)
  simp [Act.put,Array.getElem?_setIfInBounds_ne hne]

theorem Agree.op {o:Oper} {b a:Act} (k:Agree ops o b a) (hs:∀ cs b,o.op ≠ .select cs b):execOp b.eval o = execOp a.eval o:=execOp_congr o hs k.eval

/-! ## Operations that read and that another order has not come to yet -/
structure PE where
 i:Nat
 o:Oper
 t:T Value
 v:Value
 pre:Nat
 wants:Bool

def RunsQ (ops:Array Oper) (n:Nat) (q:PE) (m:M) (a:Act):Prop:=∃ b,TR m q.t n b.tmps ∧ Agree ops q.o b a ∧ Region.wanted q.o (yielded ops b.tmps) = q.wants

theorem RunsQ.mono {q:PE} {m':M} (hle:M.le m m'):RunsQ ops n q m a → RunsQ ops n q m' a
 | ⟨b,h1,h2,h3⟩=>⟨b,h1.mono hle,h2,h3⟩

theorem RunsQ.put {q:PE} {dst:Option Tmp} {v:Value} (k:∀ d,dst = some d → d ∉ q.o.looksAt ops):RunsQ ops n q m a → RunsQ ops n q m (a.put dst v)
 | ⟨b,h1,h2,h3⟩=>⟨b,h1,h2.trans (Agree.of_put a dst v k).symm,h3⟩

theorem RunsQ.unput {q:PE} {dst:Option Tmp} {v:Value} (k:∀ d,dst = some d → d ∉ q.o.looksAt ops):RunsQ ops n q m (a.put dst v) → RunsQ ops n q m a
 | ⟨b,h1,h2,h3⟩=>⟨b,h1,h2.trans (Agree.of_put a dst v k),h3⟩

def Lag (ops:Array Oper) (n:Nat) (t:T Value):List PE → M → Act → Prop
 | [],m,a=>TR m t n a.tmps
 | q :: L,m,a=>RunsQ ops n q m a ∧ ∀ m' v',M.le m m' → VR m' q.v v' → Lag ops n t L m' (a.put q.o.dst v')

theorem Lag.mono {m':M} (hle:M.le m m'):∀ {L:List PE} {a:Act},Lag ops n t L m a → Lag ops n t L m' a
 | [],_,k=>TR.mono hle k
 | _ :: _,_,k=>⟨k.1.mono hle,fun m2 v' hle2 hv=>k.2 m2 v' (M.le_trans hle hle2) hv⟩

theorem Lag.snoc {t':T Value} {r:PE} (hw:fB t ops r.o.guard = some r.wants) (hrt:r.t = t) (hp:∀ (m:M) (a:Act) (v':Value),TR m t n a.tmps → VR m r.v v' → TR m t' n (a.put r.o.dst v').tmps) :
  ∀ {L:List PE} {m:M} {a:Act},Lag ops n t L m a → Lag ops n t' (L ++ [r]) m a
 | [],m,a,k=>⟨⟨a,by rw [hrt]; exact k,Agree.refl _ _,sK k hw⟩,fun m' v' hle hv=>hp m' a v' (TR.mono hle k) hv⟩
 | _ :: _,_,_,k=>⟨k.1,fun m' v' hle hv=>Lag.snoc hw hrt hp (k.2 m' v' hle hv)⟩

theorem Lag.out {p:PE} {L2:List PE} {v':Value}:∀ {L1:List PE} {m:M} {a:Act},(∀ q ∈ L1,p.o.apart ops q.o = true) → Lag ops n t (L1 ++ p :: L2) m a → VR m p.v v' → Lag ops n t (L1 ++ L2) m (a.put p.o.dst v')
 | [],m,a,_,k,hv=>k.2 m v' (M.le_refl m) hv
 | q :: L1,m,a,hap,k,hv=>by
  obtain ⟨h1,h2,h3⟩:=Oper.apart_spec (hap q (by simp))
  refine ⟨k.1.put h1,fun m' v'' hle hv'=>?_⟩
  rw [Act.put_comm a v' v'' h2]
  exact Lag.out (fun q' hq'=>hap q' (by simp [hq'])) (k.2 m' v'' hle hv') (hv.mono hle)

theorem Lag.wr {t':T Value} {o:Oper} {v v':Value} (hp:∀ (m:M) (a:Act) (v':Value),TR m t n a.tmps → VR m v v' → TR m t' n (a.put o.dst v').tmps):∀ {L:List PE} {m:M} {a:Act},(∀ q ∈ L,o.apart ops q.o = true) →
  Lag ops n t L m a → VR m v v' → Lag ops n t' L m (a.put o.dst v')
 | [],m,a,_,k,hv=>hp m a v' k hv
 | q :: L1,m,a,hap,k,hv=>by
  obtain ⟨h1,h2,h3⟩:=Oper.apart_spec (hap q (by simp))
  refine ⟨k.1.put h1,fun m' v'' hle hv'=>?_⟩
  rw [Act.put_comm a v' v'' h2]
  exact Lag.wr hp (fun q' hq'=>hap q' (by simp [hq'])) (k.2 m' v'' hle hv') (hv.mono hle)

theorem Lag.reach {o:Oper}:∀ {L:List PE} {m:M} {a:Act},(∀ q ∈ L,o.apart ops q.o = true) → (∀ q ∈ L,∀ b:Act,TR m q.t n b.tmps → ∃ v',VR m q.v v') →
  Lag ops n t L m a → ∃ c,TR m t n c.tmps ∧ Agree ops o c a
 | [],m,a,_,_,k=>⟨a,k,Agree.refl _ _⟩
 | q :: L1,m,a,hap,hval,k=>by
  obtain ⟨h1,h2,h3⟩:=Oper.apart_spec (hap q (by simp))
  obtain ⟨⟨b,hb,_⟩,k2⟩:=k
  obtain ⟨v',hv⟩:=hval q (by simp) b hb
  obtain ⟨c,hc,hag⟩:=Lag.reach (fun q' hq'=>hap q' (by simp [hq'])) (fun q' hq'=>hval q' (by simp [hq'])) (k2 m v' (M.le_refl m) hv)
  exact ⟨c,hc,hag.trans (Agree.of_put a _ _ h3)⟩

theorem Lag.at {p:PE} {L2:List PE}:∀ {L1:List PE} {m:M} {a:Act},(∀ q ∈ L1,p.o.apart ops q.o = true) → (∀ q ∈ L1,∀ b:Act,TR m q.t n b.tmps → ∃ v',VR m q.v v') →
  Lag ops n t (L1 ++ p :: L2) m a → RunsQ ops n p m a
 | [],m,a,_,_,k=>k.1
 | q :: L1,m,a,hap,hval,k=>by
  obtain ⟨h1,h2,h3⟩:=Oper.apart_spec (hap q (by simp))
  obtain ⟨⟨b,hb,_⟩,k2⟩:=k
  obtain ⟨v',hv⟩:=hval q (by simp) b hb
  exact (Lag.at (fun q' hq'=>hap q' (by simp [hq'])) (fun q' hq'=>hval q' (by simp [hq'])) (k2 m v' (M.le_refl m) hv)).unput h3

/-! ## A write, from an act that it cannot tell from another -/
theorem awrite_wp2 {call:CallT} (hcall:iZ P call) (hW:WR P m w0 h w) {c:Act} (hT:TR m t n c.tmps) {o:Oper} (hag:Agree ops o c a) {K:KV} (e:bI P call t h o K = true) {next:Act → World → Prop} {Q:Exit → Act → World → Prop}
  (hn:∀ m' v v' h' w',M.le m m' → VR m' v v' → WR P m' w0 h' w' → K v h' = true → next (a.put o.dst v') w'):o.wpIn (FW rd) nn P a w next Q:=by
 by_cases hc:∃ c f,o.op = .call c ∧ c.callee = .value f
 ·obtain ⟨c2,f,ho,hcf⟩:=hc
  refine call_wp ho hcf fun nn=>?_
  unfold bI at e
  rw [ho] at e
  simp only [kR,hcf] at e
  have:=hcall m w0 w h _ _ _ _ K hW (eP (P:=P) hT hW.glob f) (wL (P:=P) hT hW.glob c2.args.toList) e rd nn _ hn
  have hargs:(List.map c.eval c2.args.toList).toArray = c2.args.map a.eval:=by
   apply Array.toList_inj.1
   simp only [Array.toList_map]
   exact List.map_congr_left fun x hx=>hag.eval x (by rw [ho]; simp [Op.operands,Call.operands]; exact .inr (by simpa using hx))
  have hf:c.eval f = a.eval f:=hag.eval f (by rw [ho]; simp [Op.operands,Call.operands,hcf])
  rw [hargs,hf] at this
  exact this
 ·refine ran_wp ?_ (rJ e) hn
  rw [← hag.op (not_select_write e)]
  exact awrite_ran hW hT e fun c f ho hcf=>hc ⟨c,f,ho,hcf⟩

theorem awriteA_wp2 {call:CallT} (hcall:iZ P call) (hW:WR P m w0 h w) {c:Act} (hT:TR m t n c.tmps) {o:Oper} (hag:Agree ops o c a) {id:Option Nat} {K:KV} (e:jU P call t h o id K = true) {next:Act → World → Prop} {Q:Exit → Act → World → Prop}
  (hn:∀ m' v v' h' w',M.le m m' → VR m' v v' → WR P m' w0 h' w' → K v h' = true → next (a.put o.dst v') w'):o.wpIn (FW rd) nn P a w next Q:=by
 cases id with
 | none=>exact awrite_wp2 hcall hW hT hag e hn
 | some r =>
  simp only [jU] at e
  split at e
  ·rename_i el ho
   refine ran_wp ?_ (fun c hc=>by rw [ho] at hc; cases hc) hn
   rw [← hag.op (fun cs b hb=>by rw [ho] at hb; cases hb)]
   exact wAllocAt_rel hW e o _ ho
  ·cases e

end
end Go.Ev

/- Regions that draw their order. -/
namespace Go.Ev
open Go.RowKit

section
variable {P:Program} {m:M} {w0:Base} {w:World} {h:AHeap} {t:T Value} {n:Nat} {a:Act} {rd:Option Nat} {nn:Nat} {ops:Array Oper}

/-! ## What comes before what -/
def preStep (bs:List Nat) (s:Nat) (e:Edge):Nat:=bif Region.binds .any e then Nat.lor (Nat.lor s (Nat.pow 2 e.on)) (bs.getD e.on 0) else s

theorem preStep_bit (bs:List Nat):∀ (l:List Edge) (s k:Nat),(l.foldl (preStep bs) s).testBit k = true → s.testBit k = true ∨ ∃ e ∈ l,Region.binds .any e = true ∧ (k = e.on ∨ (bs.getD e.on 0).testBit k = true)
 | [],s,k,hk=>.inl hk
 | e :: l,s,k,hk=>by
  simp only [List.foldl_cons] at hk
  rcases preStep_bit bs l _ k hk with h1|⟨e',h1,h2⟩
  ·unfold preStep at h1
   cases hb:Region.binds .any e with
   | false=>rw [hb,cond_false] at h1; exact .inl h1
   | true =>
    rw [hb,cond_true] at h1
    have h1':((s ||| 2 ^ e.on) ||| bs.getD e.on 0).testBit k = true:=h1
    rw [Nat.testBit_or,Nat.testBit_or,Bool.or_eq_true,Bool.or_eq_true,Nat.testBit_two_pow] at h1'
    rcases h1' with (h1|h1)|h1
    ·exact .inl h1
    ·exact .inr ⟨e,by simp,hb,.inl (of_decide_eq_true h1).symm⟩
    ·exact .inr ⟨e,by simp,hb,.inr h1⟩
  ·exact .inr ⟨e',by simp [h1],h2⟩

theorem infoGo_get (P:Program) (ops:Array Oper):∀ (rest:List Oper) (i:Nat) (bs:List Nat) (k:Nat) (x:Info),(kS P ops rest i bs)[k]? = some x →
  ∃ o,rest[k]? = some o ∧ x.i = i + k ∧ x.o = o ∧ x.w = isW P o.op ∧ ∃ bs',x.pre = o.after.toList.foldl (preStep bs') 0 ∧ bs' = bs ++ ((kS P ops rest i bs).take k).map (·.pre)
 | [],i,bs,k,x,e=>by simp [kS] at e
 | o :: rest,i,bs,0,x,e=>by
  simp only [kS,List.getElem?_cons_zero,Option.some.injEq] at e
  subst e
  exact ⟨o,rfl,rfl,rfl,rfl,bs,rfl,by simp⟩
 | o :: rest,i,bs,k + 1,x,e=>by
  simp only [kS,List.getElem?_cons_succ] at e
  obtain ⟨o',h1,h2,h3,h4,bs',h5,h6⟩:=infoGo_get P ops rest _ _ k x e
  refine ⟨o',by simpa using h1,by rw [h2]; simp only [Nat.succ_eq_add_one]; omega,h3,h4,bs',h5,?_⟩
  rw [h6]
  simp only [kS,List.take_succ_cons,List.map_cons,List.append_assoc,List.singleton_append]

theorem vM (P:Program) (ops:Array Oper):∀ (rest:List Oper) (i:Nat) (bs:List Nat),(kS P ops rest i bs).length = rest.length
 | [],_,_=>rfl
 | o :: rest,i,bs=>by simp [kS,vM P ops rest]

/-- The numbers that come before. -/
def preOf (P:Program) (ops:Array Oper) (i:Nat):Nat:=(((infos P ops)[i]?).map (·.pre)).getD 0

theorem fO {i:Nat} {x:Info} (e:(infos P ops)[i]? = some x):ops[i]? = some x.o ∧ x.i = i ∧ x.w = isW P x.o.op ∧ x.pre = preOf P ops i ∧
  ∀ k,x.pre.testBit k = true → ∃ e ∈ x.o.after,Region.binds .any e = true ∧ (k = e.on ∨ (preOf P ops e.on).testBit k = true):=by
 obtain ⟨o,h1,h2,h3,h4,bs',h5,h6⟩:=infoGo_get P ops _ _ _ _ _ e
 subst h3
 refine ⟨by simpa using h1,by simpa using h2,h4,by simp [preOf,e],fun k hk=>?_⟩
 rw [h5] at hk
 rcases preStep_bit _ _ _ _ hk with h7|⟨e',h7,h8,h9⟩
 ·simp at h7
 ·refine ⟨e',by simpa using h7,h8,h9.imp id fun h9=>?_⟩
  rw [h6,List.nil_append] at h9
  rw [List.getD_eq_getElem?_getD,List.getElem?_map,List.getElem?_take] at h9
  split at h9
  ·unfold preOf infos
   exact h9
  ·simp at h9

theorem qV {i:Nat} {o:Oper} (e:ops[i]? = some o):∃ x,(infos P ops)[i]? = some x:=by
 have:i < (infos P ops).length:=by
  rw [infos,vM,Array.length_toList]
  exact (Array.getElem?_eq_some_iff.1 e).1
 exact ⟨_,List.getElem?_eq_getElem this⟩

theorem jH {x:Info} (e:x ∈ infos P ops):(infos P ops)[x.i]? = some x:=by
 obtain ⟨i,hi,he⟩:=List.mem_iff_getElem.1 e
 have h1:(infos P ops)[i]? = some x:=by rw [List.getElem?_eq_getElem hi,he]
 rw [(fO h1).2.1]
 exact h1

theorem tmpsOf_eq (o:Oper):tmpsOf ops o = o.looksAt ops:=by
 unfold tmpsOf Oper.looksAt
 congr 1
 cases o.guard with
 | none=>rfl
 | some g =>
  obtain ⟨j,b⟩:=g
  simp only
  cases ho:ops[j]?<;>simp

theorem wV {x y:Info} (k:pairOk ops x y = true):y.pre.testBit x.i = true ∨ x.o.apart ops y.o = true:=by
 unfold pairOk at k
 rw [Bool.or_eq_true] at k
 refine k.imp id fun k=>?_
 rw [Bool.and_eq_true,tmpsOf_eq,tmpsOf_eq] at k
 have k1:=k.1
 have k2:=k.2
 unfold Oper.apart
 rw [Bool.and_eq_true]
 constructor
 ·cases hd:x.o.dst with
  | none=>rfl
  | some d =>
   rw [hd] at k1
   simp only [Bool.not_eq_true',Bool.or_eq_false_iff] at k1
   simp only [bne,k1.1,k1.2]
   rfl
 ·cases hd:y.o.dst with
  | none=>rfl
  | some d =>
   rw [hd] at k2
   exact k2

theorem apart_symm {x y:Oper} (k:x.apart ops y = true):y.apart ops x = true:=by
 unfold Oper.apart at *
 cases hx:x.dst<;>cases hy:y.dst<;>simp [hx,hy] at k ⊢
 ·exact k
 ·exact k
 ·exact ⟨⟨k.2,fun e=>k.1.2 e.symm⟩,k.1.1⟩

/-- Neither comes before the other: they don't touch each other's temporaries. -/
theorem kJ (k:nC P ops = true) {x y:Info} (hx:x ∈ infos P ops) (hy:y ∈ infos P ops) (hne:x.i ≠ y.i) (h1:x.pre.testBit y.i = false) (h2:y.pre.testBit x.i = false) :
  x.o.apart ops y.o = true:=by
 unfold nC at k
 simp only [Bool.and_eq_true,List.all_eq_true,Bool.or_eq_true,Bool.not_eq_true'] at k
 obtain ⟨⟨_,k⟩,_⟩:=k
 rcases Nat.lt_or_gt_of_ne hne with hlt|hlt
 ·rcases k y hy x hx with hb|hb
  ·have:=Nat.blt_eq.mpr hlt; rw [hb] at this; cases this
  ·rcases wV hb with h3|h3
   ·rw [h2] at h3; cases h3
   ·exact h3
 ·rcases k x hx y hy with hb|hb
  ·have:=Nat.blt_eq.mpr hlt; rw [hb] at this; cases this
  ·rcases wV hb with h3|h3
   ·rw [h1] at h3; cases h3
   ·exact apart_symm h3

theorem regOk_edges (k:nC P ops = true) {x:Info} (hx:x ∈ infos P ops):∀ e ∈ x.o.after,Region.binds .any e = true → e.on < x.i:=by
 unfold nC at k
 simp only [Bool.and_eq_true,List.all_eq_true] at k
 intro e he hb
 have:=k.1.1 x hx
 unfold edgesOk at this
 rw [List.all_eq_true] at this
 have:=this e (by simpa using he)
 simpa [hb,Nat.blt_eq] using this

/-! ## Picking -/
theorem vZ {done:Nat}:∀ {l:List Info} {x:Info} {rest:List Info},iK done l = some (x,rest) → ∃ A B,l = A ++ x :: B ∧ rest = A ++ B ∧ x.w = false ∧ Nat.land x.pre done = x.pre
 | [],_,_,e=>by cases e
 | y :: l,x,rest,e=>by
  unfold iK at e
  cases hc:(!y.w && Nat.beq (Nat.land y.pre done) y.pre) with
  | true =>
   rw [hc,cond_true] at e
   cases e
   simp only [Bool.and_eq_true,Bool.not_eq_true'] at hc
   exact ⟨[],l,rfl,rfl,hc.1,Nat.eq_of_beq_eq_true hc.2⟩
  | false =>
   rw [hc,cond_false] at e
   split at e
   ·rename_i b l' hp
    cases e
    obtain ⟨A,B,h1,h2,h3⟩:=vZ hp
    exact ⟨y :: A,B,by simp [h1],by simp [h2],h3⟩
   ·cases e

theorem pickR_none {done:Nat}:∀ {l:List Info},iK done l = none → ∀ x ∈ l,x.w = false → Nat.land x.pre done ≠ x.pre
 | [],_,_,hx=>by cases hx
 | y :: l,e,x,hx=>by
  unfold iK at e
  cases hc:(!y.w && Nat.beq (Nat.land y.pre done) y.pre) with
  | true=>rw [hc,cond_true] at e; cases e
  | false =>
   rw [hc,cond_false] at e
   split at e
   ·cases e
   ·rename_i hp
    rcases List.mem_cons.1 hx with rfl|hx
    ·intro hw heq
     rw [hw,heq,Nat.beq_refl] at hc
     cases hc
    ·exact pickR_none hp x hx

theorem mem_splits {x:Info} {B:List Info}:∀ (A:List Info),(x,A ++ B) ∈ splits (A ++ x :: B)
 | []=>by simp [splits]
 | a :: A=>by
  simp only [List.cons_append,splits,List.mem_cons,List.mem_map]
  exact .inr ⟨(x,A ++ B),mem_splits A,rfl⟩

theorem wW {done:Nat} {x:Info} {A B:List Info} (hw:x.w = true) (hp:Nat.land x.pre done = x.pre):(x,A ++ B) ∈ dN done (A ++ x :: B):=by
 unfold dN
 rw [List.mem_filter]
 exact ⟨mem_splits A,by simp only [hw,hp,Nat.beq_refl,Bool.and_self]⟩

theorem allB_mem {α:Type} {f:α → Bool}:∀ {l:List α},allB l f = true → ∀ a ∈ l,f a = true
 | [],_,a,ha=>by cases ha
 | [b],e,a,ha=>by
  rw [List.mem_singleton] at ha
  subst ha
  exact e
 | b :: c :: r,e,a,ha=>by
  simp only [allB,Bool.and_eq_true] at e
  rcases List.mem_cons.1 ha with rfl|ha
  ·exact e.1
  ·exact allB_mem (l:=c :: r) e.2 a ha

theorem wB {h':AHeap} {pre:Nat}:∀ {l:List Seen},again P h' pre l = true → ∀ s ∈ l,isReadOp s.o.op = false ∨ pre.testBit s.i = true ∨ dE P s.t h' s.o = some s.v
 | [],_,_,hs=>by cases hs
 | s :: l,e,s',hs=>by
  unfold again at e
  rw [Bool.and_eq_true,Bool.or_eq_true,Bool.or_eq_true] at e
  rcases List.mem_cons.1 hs with rfl|hs
  ·rcases e.1 with (k|k)|k
   ·exact .inl (by simpa using k)
   ·exact .inr (.inl k)
   ·refine .inr (.inr ?_)
    split at k
    ·rename_i v hv
     rw [hv,veq_eq _ _ k]
    ·cases k
  ·exact wB e.2 s' hs

end
end Go.Ev

/- Regions that draw their order: whichever it is. -/
namespace Go.Ev
open Go.RowKit

structure Inv (P:Program) (ops:Array Oper) (n:Nat) (h:AHeap) (m:M) (a:Act) (listed:Array Bool) (todo:List Info) (done:Nat) (hist:List Seen) (t:T Value) (L:List PE):Prop where
 sz:listed.size = ops.size
 closed:∀ i:Nat,listed.getD i false = true → ∀ k,(preOf P ops i).testBit k = true → listed.getD k false = true
 bits:∀ k,done.testBit k = true ↔ (listed.getD k false = true ∨ ∃ q ∈ L,q.i = k)
 lU:∀ q ∈ L,listed.getD q.i true = false
 lnd:L.Pairwise (fun p q=>p.i ≠ q.i)
 tU:∀ x ∈ todo,listed.getD x.i true = false
 tL:∀ x ∈ todo,∀ q ∈ L,q.i ≠ x.i
 tnd:todo.Pairwise (fun p q=>p.i ≠ q.i)
 cover:∀ i:Nat,listed.getD i true = false → (∃ q ∈ L,q.i = i) ∨ (∃ x ∈ todo,x.i = i)
 lop:∀ q ∈ L,(⟨q.i,q.o,false,q.pre⟩:Info) ∈ infos P ops
 lund:∀ q ∈ L,q.wants = false → q.v = undef
 top:∀ x ∈ todo,x ∈ infos P ops
 ord:∀ A q B,L = A ++ q :: B → ∀ k,q.pre.testBit k = true → listed.getD k false = true ∨ ∃ p ∈ A,p.i = k
 seen:∀ q ∈ L,q.wants = true → dE P q.t h q.o = some q.v ∧ (⟨q.i,q.o,q.t,q.v⟩:Seen) ∈ hist
 lag:Lag ops n t L m a

section
variable {P:Program} {m:M} {w0:Base} {w:World} {h:AHeap} {t:T Value} {n:Nat} {a:Act} {rd:Option Nat} {nn:Nat} {ops:Array Oper}
 {listed:Array Bool} {todo:List Info} {done:Nat} {hist:List Seen} {L:List PE} {ids:List (Nat × Nat)}

theorem fD {listed:Array Bool} {k:Nat} (h1:listed.getD k true = false) (h2:listed.getD k false = true):False:=by
 rw [Array.getD_eq_getD_getElem?] at h1 h2
 cases hk:listed[k]? with
 | none=>rw [hk] at h1; cases h1
 | some b=>rw [hk] at h1 h2; rw [Option.getD_some] at h1 h2; rw [h1] at h2; cases h2

theorem getD_alt {listed:Array Bool} {k:Nat} (hk:k < listed.size):listed.getD k true = false ∨ listed.getD k false = true:=by
 rw [Array.getD_eq_getD_getElem?,Array.getD_eq_getD_getElem?,Array.getElem?_eq_getElem hk]
 cases listed[k]<;>simp

theorem wX (done i k:Nat):(Nat.lor done (Nat.pow 2 i)).testBit k = true ↔ done.testBit k = true ∨ i = k:=by
 have:(done ||| 2 ^ i).testBit k = true ↔ done.testBit k = true ∨ i = k:=by
  rw [Nat.testBit_or,Bool.or_eq_true,Nat.testBit_two_pow,decide_eq_true_iff]
 exact this

theorem land_pre {x y:Nat} (e:Nat.land x y = x) (k:Nat) (hk:x.testBit k = true):y.testBit k = true:=by
 have h1:(x &&& y).testBit k = true:=by
  have:x &&& y = x:=e
  rw [this]; exact hk
 rw [Nat.testBit_and,Bool.and_eq_true] at h1
 exact h1.2

theorem land_pre' {x y:Nat} (e:∀ k,x.testBit k = true → y.testBit k = true):Nat.land x y = x:=by
 have:x &&& y = x:=by
  apply Nat.eq_of_testBit_eq
  intro k
  rw [Nat.testBit_and]
  cases hx:x.testBit k with
  | false=>rfl
  | true=>rw [e k hx]; rfl
 exact this

theorem Inv.hval (I:Inv P ops n h m a listed todo done hist t L) (hW:WR P m w0 h w):∀ q ∈ L,∀ b:Act,TR m q.t n b.tmps → ∃ v',VR m q.v v':=by
 intro q hq b hb
 cases hw:q.wants with
 | false=>rw [I.lund q hq hw]; exact ⟨_,fC m⟩
 | true =>
  obtain ⟨v',_,hv⟩:=aread_rel hW hb (I.seen q hq hw).1
  exact ⟨v',hv⟩

/-- The evaluator takes a further operation that reads. -/
theorem Inv.take (I:Inv P ops n h m a listed todo done hist t L) {x:Info} {A B:List Info} (htodo:todo = A ++ x :: B) (hxw:x.w = false) (hpre:Nat.land x.pre done = x.pre) {b:Bool} {v:Value}
  (hw:fB t ops x.o.guard = some b) (hb:b = true → dE P t h x.o = some v) (hb':b = false → v = undef) {hist':List Seen} (hh:∀ s ∈ hist,s ∈ hist') (hh':b = true → (⟨x.i,x.o,t,v⟩:Seen) ∈ hist')
  {t':T Value} (hp:∀ (m:M) (a:Act) (v':Value),TR m t n a.tmps → VR m v v' → TR m t' n (a.put x.o.dst v').tmps) :
  Inv P ops n h m a listed (A ++ B) (Nat.lor done (Nat.pow 2 x.i)) hist' t' (L ++ [⟨x.i,x.o,t,v,x.pre,b⟩]):=by
 have hxt:x ∈ todo:=by rw [htodo]; simp
 have hsub:∀ y ∈ A ++ B,y ∈ todo:=fun y hy=>by
  rw [htodo]
  simp only [List.mem_append,List.mem_cons] at hy ⊢
  exact hy.imp id .inr
 have htnd:=I.tnd
 rw [htodo] at htnd
 have hdist:∀ y ∈ A ++ B,x.i ≠ y.i:=by
  intro y hy
  rw [List.pairwise_append] at htnd
  simp only [List.pairwise_cons] at htnd
  rcases List.mem_append.1 hy with hy|hy
  ·exact fun e=>htnd.2.2 y hy x (by simp) e.symm
  ·exact htnd.2.1.1 y hy
 exact {
  sz:=I.sz
  closed:=I.closed
  bits:=fun k=>by
   rw [wX,I.bits]
   simp only [List.mem_append,List.mem_singleton]
   constructor
   ·rintro ((h1|⟨q,h1,h2⟩)|rfl)
    ·exact .inl h1
    ·exact .inr ⟨q,.inl h1,h2⟩
    ·exact .inr ⟨_,.inr rfl,rfl⟩
   ·rintro (h1|⟨q,h1|rfl,h2⟩)
    ·exact .inl (.inl h1)
    ·exact .inl (.inr ⟨q,h1,h2⟩)
    ·exact .inr h2
  lU:=fun q hq=>by
   rcases List.mem_append.1 hq with hq|hq
   ·exact I.lU q hq
   ·rw [List.mem_singleton] at hq; subst hq; exact I.tU x hxt
  lnd:=by
   rw [List.pairwise_append]
   refine ⟨I.lnd,by simp,fun p hp q hq=>?_⟩
   rw [List.mem_singleton] at hq
   subst hq
   exact I.tL x hxt p hp
  tU:=fun y hy=>I.tU y (hsub y hy)
  tL:=fun y hy q hq=>by
   rcases List.mem_append.1 hq with hq|hq
   ·exact I.tL y (hsub y hy) q hq
   ·rw [List.mem_singleton] at hq; subst hq; exact hdist y hy
  tnd:=htnd.sublist (by simp)
  cover:=fun i hi=>by
   rcases I.cover i hi with ⟨q,h1,h2⟩|⟨y,h1,h2⟩
   ·exact .inl ⟨q,by simp [h1],h2⟩
   ·rw [htodo] at h1
    simp only [List.mem_append,List.mem_cons] at h1
    rcases h1 with h1|rfl|h1
    ·exact .inr ⟨y,by simp [h1],h2⟩
    ·exact .inl ⟨⟨y.i,y.o,t,v,y.pre,b⟩,by simp,h2⟩
    ·exact .inr ⟨y,by simp [h1],h2⟩
  lop:=fun q hq=>by
   rcases List.mem_append.1 hq with hq|hq
   ·exact I.lop q hq
   ·rw [List.mem_singleton] at hq
    subst hq
    have:=I.top x hxt
    rw [← hxw]
    exact this
  lund:=fun q hq=>by
   rcases List.mem_append.1 hq with hq|hq
   ·exact I.lund q hq
   ·rw [List.mem_singleton] at hq; subst hq; exact hb'
  top:=fun y hy=>I.top y (hsub y hy)
  ord:=fun A' q B' hL k hk=>by
   rcases List.append_eq_append_iff.1 hL with ⟨C,h1,h2⟩|⟨C,h1,h2⟩
   ·cases C with
    | nil =>
     simp only [List.nil_append,List.append_nil,List.cons.injEq] at h1 h2
     obtain ⟨rfl,rfl⟩:=h2
     subst h1
     exact (I.bits k).1 (land_pre hpre k hk)
    | cons c C =>
     simp only [List.cons_append,List.cons.injEq] at h2
     have:=h2.2
     simp at this
   ·cases C with
    | nil =>
     simp only [List.nil_append,List.append_nil,List.cons.injEq] at h1 h2
     obtain ⟨rfl,rfl⟩:=h2
     subst h1
     exact (I.bits k).1 (land_pre hpre k hk)
    | cons c C =>
     simp only [List.cons_append,List.cons.injEq] at h2
     obtain ⟨rfl,h2⟩:=h2
     exact I.ord A' q C h1 k hk
  seen:=fun q hq hqw=>by
   rcases List.mem_append.1 hq with hq|hq
   ·obtain ⟨h1,h2⟩:=I.seen q hq hqw
    exact ⟨h1,hh _ h2⟩
   ·rw [List.mem_singleton] at hq; subst hq; exact ⟨hb hqw,hh' hqw⟩
  lag:=Lag.snoc (r:=⟨x.i,x.o,t,v,x.pre,b⟩) hw rfl hp I.lag }

/-- The evaluator goes on until it has taken j, or until only writes are left for it. -/
theorem advance {call:CallT} {fl:Nat} {K:T Value → AHeap → Bool} (j:Nat):∀ (f:Nat) (todo:List Info) (done:Nat) (hist:List Seen) (t:T Value) (L:List PE),
  Inv P ops n h m a listed todo done hist t L → bQ P call ops n fl ids f todo done hist t h K = true →
  ∃ f' todo' done' hist' t' L',Inv P ops n h m a listed todo' done' hist' t' L' ∧ bQ P call ops n fl ids f' todo' done' hist' t' h K = true ∧ f' ≤ f ∧ (∀ x ∈ todo,x.w = true → x ∈ todo') ∧
   ((∃ q ∈ L',q.i = j) ∨ iK done' todo' = none):=by
 intro f
 induction f with
 | zero=>intro todo done hist t L I e; cases e
 | succ f ih =>
  intro todo done hist t L I e
  cases hp:iK done todo with
  | none=>exact ⟨f + 1,todo,done,hist,t,L,I,e,Nat.le_refl _,fun x hx _=>hx,.inr hp⟩
  | some xr =>
   obtain ⟨x,rest⟩:=xr
   obtain ⟨A,B,h1,h2,h3,h4⟩:=vZ hp
   simp only [bQ] at e
   rw [hp] at e
   simp only at e
   have hstay:∀ y ∈ todo,y.w = true → y ∈ A ++ B:=by
    intro y hy hyw
    rw [h1] at hy
    rcases List.mem_append.1 hy with hy|hy
    ·exact List.mem_append_left _ hy
    ·rcases List.mem_cons.1 hy with rfl|hy
     ·rw [h3] at hyw; cases hyw
     ·exact List.mem_append_right _ hy
   subst h2
   split at e
   ·cases e
   ·rename_i hw
    obtain ⟨t',e',hpt⟩:=mO e
    rw [bP] at e'
    obtain ⟨f',r1,r2,r3,r4,r5,k1,k2,k3,k4,k5⟩:=ih _ _ _ _ _ (I.take h1 h3 h4 hw (v:=undef) (fun hb=>by cases hb) (fun _=>rfl) (fun s hs=>hs) (fun hb=>by cases hb) (fun m a v'=>hpt m a v')) e'
    exact ⟨f',r1,r2,r3,r4,r5,k1,k2,by omega,fun y hy hyw=>k4 y (hstay y hy hyw) hyw,k5⟩
   ·rename_i hw
    split at e
    ·cases e
    ·rename_i v hv
     rw [aZ] at e
     obtain ⟨t',e',hpt⟩:=mO e
     rw [bP] at e'
     obtain ⟨f',r1,r2,r3,r4,r5,k1,k2,k3,k4,k5⟩:=ih _ _ _ _ _ (I.take h1 h3 h4 hw (v:=v) (fun _=>hv) (fun hb=>by cases hb) (fun s hs=>List.mem_cons_of_mem _ hs) (fun _=>List.mem_cons_self) (fun m a v'=>hpt m a v')) e'
     exact ⟨f',r1,r2,r3,r4,r5,k1,k2,by omega,fun y hy hyw=>k4 y (hstay y hy hyw) hyw,k5⟩

theorem vN {j:Nat} (hj:listed.getD j true = false):(listed.setIfInBounds j true).getD j false = true:=by
 have:j < listed.size:=by
  rcases Nat.lt_or_ge j listed.size with h|h
  ·exact h
  ·rw [Array.getD_eq_getD_getElem?,Array.getElem?_eq_none h] at hj; cases hj
 simp [this]

theorem dO {j k:Nat} (hj:listed.getD j true = false):(listed.setIfInBounds j true).getD k false = true ↔ listed.getD k false = true ∨ j = k:=by
 by_cases hjk:j = k
 ·subst hjk
  simp [vN hj]
 ·rw [getD_set_ne false hjk]
  simp [hjk]

theorem dV {j k:Nat} (hj:listed.getD j true = false):(listed.setIfInBounds j true).getD k true = false ↔ listed.getD k true = false ∧ j ≠ k:=by
 by_cases hjk:j = k
 ·subst hjk
  have:=vN hj
  constructor
  ·intro h; exact (fD h this).elim
  ·intro h; exact absurd rfl h.2
 ·rw [getD_set_ne true hjk]
  simp [hjk]

/-- The order comes to an operation that the evaluator has behind it. -/
theorem Inv.out {L1 L2:List PE} {p:PE} (I:Inv P ops n h m a listed todo done hist t (L1 ++ p :: L2)) (hpre:∀ k,p.pre.testBit k = true → listed.getD k false = true) (hap:∀ q ∈ L1,p.o.apart ops q.o = true) {v':Value} (hv:VR m p.v v') :
  Inv P ops n h m (a.put p.o.dst v') (listed.setIfInBounds p.i true) todo done hist t (L1 ++ L2):=by
 have hpL:p ∈ L1 ++ p :: L2:=by simp
 have hpu:=I.lU p hpL
 have hsub:∀ q ∈ L1 ++ L2,q ∈ L1 ++ p :: L2:=fun q hq=>by
  simp only [List.mem_append,List.mem_cons] at hq ⊢
  exact hq.imp id .inr
 have hnd:=I.lnd
 rw [List.pairwise_append] at hnd
 simp only [List.pairwise_cons] at hnd
 have hdist:∀ q ∈ L1 ++ L2,p.i ≠ q.i:=by
  intro q hq
  rcases List.mem_append.1 hq with hq|hq
  ·exact fun e=>hnd.2.2 q hq p (by simp) e.symm
  ·exact hnd.2.1.1 q hq
 exact {
  sz:=by rw [Array.size_setIfInBounds]; exact I.sz
  closed:=fun i hi k hk=>by
   rw [dO hpu] at hi ⊢
   rcases hi with hi|rfl
   ·exact .inl (I.closed i hi k hk)
   ·have:=fO (jH (I.lop p hpL))
    rw [show preOf P ops p.i = p.pre from this.2.2.2.1.symm] at hk
    exact .inl (hpre k hk)
  bits:=fun k=>by
   rw [I.bits,dO hpu]
   simp only [List.mem_append,List.mem_cons]
   constructor
   ·rintro (h1|⟨q,h1|rfl|h1,h2⟩)
    ·exact .inl (.inl h1)
    ·exact .inr ⟨q,.inl h1,h2⟩
    ·exact .inl (.inr h2)
    ·exact .inr ⟨q,.inr h1,h2⟩
   ·rintro ((h1|h1)|⟨q,h1|h1,h2⟩)
    ·exact .inl h1
    ·exact .inr ⟨p,.inr (.inl rfl),h1⟩
    ·exact .inr ⟨q,.inl h1,h2⟩
    ·exact .inr ⟨q,.inr (.inr h1),h2⟩
  lU:=fun q hq=>(dV hpu).2 ⟨I.lU q (hsub q hq),hdist q hq⟩
  lnd:=I.lnd.sublist (by simp)
  tU:=fun x hx=>(dV hpu).2 ⟨I.tU x hx,I.tL x hx p hpL⟩
  tL:=fun x hx q hq=>I.tL x hx q (hsub q hq)
  tnd:=I.tnd
  cover:=fun i hi=>by
   obtain ⟨h1,h2⟩:=(dV hpu).1 hi
   rcases I.cover i h1 with ⟨q,h3,h4⟩|h3
   ·simp only [List.mem_append,List.mem_cons] at h3
    rcases h3 with h3|rfl|h3
    ·exact .inl ⟨q,by simp [h3],h4⟩
    ·exact absurd h4 h2
    ·exact .inl ⟨q,by simp [h3],h4⟩
   ·exact .inr h3
  lop:=fun q hq=>I.lop q (hsub q hq)
  lund:=fun q hq=>I.lund q (hsub q hq)
  top:=I.top
  ord:=fun A q B hL k hk=>by
   rw [dO hpu]
   rcases List.append_eq_append_iff.1 hL with ⟨C,h1,h2⟩|⟨C,h1,h2⟩
   ·rcases I.ord (L1 ++ p :: C) q B (by rw [h2]; simp) k hk with h3|⟨q',h3,h4⟩
    ·exact .inl (.inl h3)
    ·simp only [List.mem_append,List.mem_cons] at h3
     rcases h3 with h3|rfl|h3
     ·exact .inr ⟨q',by rw [h1]; simp [h3],h4⟩
     ·exact .inl (.inr h4)
     ·exact .inr ⟨q',by rw [h1]; simp [h3],h4⟩
   ·cases C with
    | nil =>
     simp only [List.nil_append,List.append_nil] at h1 h2
     rcases I.ord (L1 ++ [p]) q B (by rw [← h2]; simp) k hk with h3|⟨q',h3,h4⟩
     ·exact .inl (.inl h3)
     ·simp only [List.mem_append,List.mem_singleton] at h3
      rcases h3 with h3|rfl
      ·exact .inr ⟨q',by rw [← h1]; exact h3,h4⟩
      ·exact .inl (.inr h4)
    | cons c C =>
     simp only [List.cons_append,List.cons.injEq] at h2
     obtain ⟨rfl,h2⟩:=h2
     rcases I.ord A q (C ++ p :: L2) (by rw [h1]; simp) k hk with h3|h3
     ·exact .inl (.inl h3)
     ·exact .inr h3
  seen:=fun q hq=>I.seen q (hsub q hq)
  lag:=Lag.out hap I.lag hv }

/-- Both come to an operation that writes. -/
theorem Inv.wr (I:Inv P ops n h m a listed todo done hist t L) {x:Info} {A B:List Info} (htodo:todo = A ++ x :: B) (hpre:∀ k,x.pre.testBit k = true → listed.getD k false = true) (hap:∀ q ∈ L,x.o.apart ops q.o = true)
  {m':M} {h':AHeap} (hle:M.le m m') (hst:∀ q ∈ L,q.wants = true → dE P q.t h' q.o = some q.v) {v v':Value} {t':T Value} (hp:∀ (m:M) (a:Act) (v':Value),TR m t n a.tmps → VR m v v' → TR m t' n (a.put x.o.dst v').tmps) (hv:VR m' v v') :
  Inv P ops n h' m' (a.put x.o.dst v') (listed.setIfInBounds x.i true) (A ++ B) (Nat.lor done (Nat.pow 2 x.i)) hist t' L:=by
 have hxt:x ∈ todo:=by rw [htodo]; simp
 have hpu:=I.tU x hxt
 have hsub:∀ y ∈ A ++ B,y ∈ todo:=fun y hy=>by
  rw [htodo]
  simp only [List.mem_append,List.mem_cons] at hy ⊢
  exact hy.imp id .inr
 have htnd:=I.tnd
 rw [htodo] at htnd
 have hdist:∀ y ∈ A ++ B,x.i ≠ y.i:=by
  intro y hy
  rw [List.pairwise_append] at htnd
  simp only [List.pairwise_cons] at htnd
  rcases List.mem_append.1 hy with hy|hy
  ·exact fun e=>htnd.2.2 y hy x (by simp) e.symm
  ·exact htnd.2.1.1 y hy
 exact {
  sz:=by rw [Array.size_setIfInBounds]; exact I.sz
  closed:=fun i hi k hk=>by
   rw [dO hpu] at hi ⊢
   rcases hi with hi|rfl
   ·exact .inl (I.closed i hi k hk)
   ·have:=fO (jH (I.top x hxt))
    rw [show preOf P ops x.i = x.pre from this.2.2.2.1.symm] at hk
    exact .inl (hpre k hk)
  bits:=fun k=>by
   rw [wX,I.bits,dO hpu]
   constructor
   ·rintro ((h1|h1)|h1)
    ·exact .inl (.inl h1)
    ·exact .inr h1
    ·exact .inl (.inr h1)
   ·rintro ((h1|h1)|h1)
    ·exact .inl (.inl h1)
    ·exact .inr h1
    ·exact .inl (.inr h1)
  lU:=fun q hq=>(dV hpu).2 ⟨I.lU q hq,fun e=>I.tL x hxt q hq e.symm⟩
  lnd:=I.lnd
  tU:=fun y hy=>(dV hpu).2 ⟨I.tU y (hsub y hy),hdist y hy⟩
  tL:=fun y hy q hq=>I.tL y (hsub y hy) q hq
  tnd:=htnd.sublist (by simp)
  cover:=fun i hi=>by
   obtain ⟨h1,h2⟩:=(dV hpu).1 hi
   rcases I.cover i h1 with h3|⟨y,h3,h4⟩
   ·exact .inl h3
   ·rw [htodo] at h3
    simp only [List.mem_append,List.mem_cons] at h3
    rcases h3 with h3|rfl|h3
    ·exact .inr ⟨y,by simp [h3],h4⟩
    ·exact absurd h4 h2
    ·exact .inr ⟨y,by simp [h3],h4⟩
  lop:=I.lop
  lund:=I.lund
  top:=fun y hy=>I.top y (hsub y hy)
  ord:=fun A' q B' hL k hk=>by
   rw [dO hpu]
   rcases I.ord A' q B' hL k hk with h3|h3
   ·exact .inl (.inl h3)
   ·exact .inr h3
  seen:=fun q hq hqw=>⟨hst q hq hqw,(I.seen q hq hqw).2⟩
  lag:=Lag.wr hp hap (I.lag.mono hle) hv }

end
end Go.Ev

/- Variables that the real order has made, and the evaluator not yet: they are parked. -/
namespace Go.Ev
open Go.RowKit

/-- A parked variable: its operation, its block, what lies there. -/
structure PA where
 x:Info
 B:Nat
 y:Obj

def ptrTo (B:Nat):Value:=.pointer (some ⟨B,0,none⟩)

def puts:List PA → Act → Act
 | [],a=>a
 | q :: L,a=>puts L (a.put q.x.o.dst (ptrTo q.B))

def Base.add (w0:Base) (L:List PA):Base:=⟨w0.toWorld,fun B y=>w0.pk B y ∨ ∃ q ∈ L,q.B = B ∧ q.y = y⟩

/-- What a new variable holds. -/
def varObj (P:Program):Op → Option Obj
 | .alloc el=>(match zeroOf P el with|some z=>some (.cells z.cells el)|none=>none)
 | _=>none

section
variable {P:Program} {m:M} {w0:Base} {w w':World} {h:AHeap} {t:T Value} {n:Nat} {a:Act} {rd:Option Nat} {nn:Nat} {ops:Array Oper}

/-! ## The relation -/
theorem WR.past (hW:WR P m w0 h w) (hB:Below w.heap.size w w'):WR P m w0 h w' where
 obj:=fun b o e=>by
  obtain ⟨B,d,k1,k2,k3,k4⟩:=hW.obj b o e
  exact ⟨B,d,k1,OR.frame (hB.block B (hW.dom _ _ _ k1)) k2,k3,k4⟩
 fresh:=hW.fresh
 spn:=hW.spn
 spf:=hW.spf
 spr:=fun b B d z E e1 e2=>by
  obtain ⟨k1,k2⟩:=hW.spr b B d z E e1 e2
  refine ⟨fun j h1 h2=>?_,k2⟩
  obtain ⟨q1,q2⟩:=k1 j h1 h2
  rw [hB.cell (p:=⟨B,j,none⟩) (hW.dom _ _ _ e1),hB.frozen (p:=⟨B,j,none⟩) (hW.dom _ _ _ e1)]
  exact ⟨q1,q2⟩
 dom:=fun b B d e=>Nat.lt_of_lt_of_le (hW.dom b B d e) hB.size
 apart:=hW.apart
 kin:=hW.kin
 fam:=hW.fam
 below:=hW.below.trans (hB.mono hW.below.size)
 glob:=hW.glob
 res:=hW.res
 park:=fun B x e=>by
  obtain ⟨k1,k2,k3⟩:=hW.park B x e
  exact ⟨k1,(hB.block B (Array.getElem?_eq_some_iff.1 k2).1).trans k2,k3⟩

theorem WR.rebase {w1:Base} (hW:WR P m w0 h w) (e:w1.toWorld = w0.toWorld) (hp:∀ B y,w1.pk B y → w0.pk B y):WR P m w1 h w where
 obj:=fun b o k=>by rw [e]; exact hW.obj b o k
 fresh:=hW.fresh
 spn:=hW.spn
 spf:=hW.spf
 spr:=hW.spr
 dom:=hW.dom
 apart:=hW.apart
 kin:=hW.kin
 fam:=hW.fam
 below:=by rw [e]; exact hW.below
 glob:=hW.glob
 res:=hW.res
 park:=fun B x k=>by rw [e]; exact hW.park B x (hp B x k)

theorem WR.add_nil (hW:WR P m w0 h w):WR P m (w0.add []) h w:=
 hW.rebase rfl fun B y k=>by
  rcases k with k|⟨q,k,_⟩
  ·exact k
  ·cases k

theorem WR.of_nil (hW:WR P m (w0.add []) h w):WR P m w0 h w:=hW.rebase rfl fun _ _ k=>.inl k

/-- A variable is made, of which the evaluator knows nothing. -/
theorem WR.parked {L:List PA} (hW:WR P m (w0.add L) h w) (x:Info) (y:Obj):WR P m (w0.add (L ++ [⟨x,w.heap.size,y⟩])) h (w.alloc y) where
 obj:=fun b o e=>by
  obtain ⟨B,d,k1,k2,k3,k4⟩:=hW.obj b o e
  exact ⟨B,d,k1,OR.frame (Below.heap_alloc _ _ _ (hW.dom _ _ _ k1)) k2,k3,k4⟩
 fresh:=hW.fresh
 spn:=hW.spn
 spf:=hW.spf
 spr:=fun b B d z E e1 e2=>by
  obtain ⟨k1,k2⟩:=hW.spr b B d z E e1 e2
  have hblk:(w.alloc y).heap[B]? = w.heap[B]?:=Below.heap_alloc _ _ _ (hW.dom _ _ _ e1)
  refine ⟨fun j h1 h2=>?_,k2⟩
  have:=k1 j h1 h2
  rw [World.cell?_of_block (w:=w) (a:=⟨B,j,none⟩) hblk,World.frozen?_of_block (w:=w) (a:=⟨B,j,none⟩) hblk]
  exact this
 dom:=fun b B d e=>by
  have hs:(w.alloc y).heap.size = w.heap.size + 1:=by show (w.heap.push y).size = _; simp
  have:=hW.dom b B d e
  omega
 apart:=hW.apart
 kin:=hW.kin
 fam:=hW.fam
 below:=hW.below.alloc hW.below.size _
 glob:=hW.glob
 res:=hW.res
 park:=fun B z k=>by
  have old:(w0.add L).pk B z → w0.heap.size ≤ B ∧ (w.alloc y).heap[B]? = some z ∧ ∀ b o d,h.bl.get b = some o → m b ≠ some (B,d):=fun k=>by
   obtain ⟨k1,k2,k3⟩:=hW.park B z k
   exact ⟨k1,(Below.heap_alloc _ _ _ (Array.getElem?_eq_some_iff.1 k2).1).trans k2,k3⟩
  rcases k with k|⟨q,k,k5,k6⟩
  ·exact old (.inl k)
  ·rcases List.mem_append.1 k with k|k
   ·exact old (.inr ⟨q,k,k5,k6⟩)
   ·rw [List.mem_singleton] at k
    subst k
    simp only at k5 k6
    subst k5 k6
    refine ⟨hW.below.size,heap_alloc_new w y,fun b o d e1 e2=>?_⟩
    have:=hW.dom _ _ _ e2
    omega

/-- The evaluator makes a variable that is parked. -/
theorem WR.unpark {A C:List PA} {q:PA} (hW:WR P m (w0.add (A ++ q :: C)) h w) {r:Nat} (hr:h.fams.get r = some []) {c':Array Value} {el:TypeId} (hy:q.y = .cells c' el) {c:List Value} (hc:LR m c c'.toList) (h1:∀ u ∈ c'.toList,oneB u = true)
  (hB:∀ p ∈ A ++ C,p.B ≠ q.B) (hk:∀ y,¬ w0.pk q.B y) :
  WR P (m.put r (q.B,0)) (w0.add (A ++ C)) (h.addAt c r) w:=by
 obtain ⟨q1,q2,q3,q4,q5⟩:=hW.res r hr
 obtain ⟨p1,p2,p3⟩:=hW.park q.B q.y (.inr ⟨q,by simp,rfl,rfl⟩)
 rw [hy] at p2
 have hlt:q.B < w.heap.size:=(Array.getElem?_eq_some_iff.1 p2).1
 have hle:=M.le_put q2 (q.B,0)
 have hget:∀ b,(h.addAt c r).bl.get b = if b = r then some (.cells c r false) else h.bl.get b:=fun b=>T.get_set _ _ _ _ _ (Nat.lt_succ_self _)
 have hgf:∀ b,(h.addAt c r).fams.get b = if b = r then some [r] else h.fams.get b:=fun b=>T.get_set _ _ _ _ _ (Nat.lt_succ_self _)
 have hm:∀ b,b ≠ r → (m.put r (q.B,0)) b = m b:=fun b e=>by unfold M.put; simp only [if_neg e]
 have hm1:(m.put r (q.B,0)) r = some (q.B,0):=by unfold M.put; simp only [if_pos]
 have hnx:(h.addAt c r).nx = h.nx:=rfl
 refine ⟨?_,?_,fun b hb=>hW.spn b hb,?_,?_,?_,?_,?_,?_,hW.below,?_,?_,?_⟩
 ·intro b o' e
  rw [hget] at e
  by_cases hb:b = r
  ·subst hb
   rw [if_pos rfl] at e
   cases e
   refine ⟨_,_,hm1,?_,fun _=>p1,fun hr=>by cases hr⟩
   intro i v hv
   obtain ⟨v',g1,g2⟩:=hc.get i v hv
   refine ⟨v',?_,g2.mono hle,h1 v' (List.mem_of_getElem? g1),fun _=>?_⟩
   ·simp only [World.cell?,p2,Nat.zero_add]
    simpa using g1
   ·simp only [World.frozen?,p2]
    simp
  ·rw [if_neg hb] at e
   obtain ⟨B,d,h1,h2,h3⟩:=hW.obj b o' e
   exact ⟨B,d,by rw [hm b hb]; exact h1,OR.mono hle h2,h3⟩
 ·intro b hb
  rw [hnx] at hb
  have:=hW.fresh b hb
  refine ⟨by rw [hm b (by omega)]; exact this.1,?_⟩
  rw [hget,if_neg (by omega)]
  exact this.2
 ·intro b c f ro e
  rw [hget] at e
  by_cases hb:b = r
  ·rw [if_pos hb] at e
   cases e
   exact q4
  ·rw [if_neg hb] at e
   exact hW.spf _ _ _ _ e
 ·intro b B d z E e es
  have es':m.sp b = some (z,E):=es
  have hb:b ≠ r:=fun hb=>by
   subst hb
   rw [q4] at es'
   cases es'
  rw [hm b hb] at e
  obtain ⟨k1,k2⟩:=hW.spr b B d z E e es'
  refine ⟨k1,?_⟩
  intro v hv
  rw [hgf,if_neg hb] at hv
  exact k2 v hv
 ·intro b B d e
  by_cases hb:b = r
  ·subst hb; rw [hm1] at e; cases e; exact hlt
  ·rw [hm b hb] at e
   exact hW.dom _ _ _ e
 ·intro b₁ b₂ o₁ o₂ B d₁ d₂ e1 e2 f1 f2 hne
  rw [hget] at e1 e2
  by_cases h1:b₁ = r
  ·subst h1
   rw [hm1] at f1
   cases f1
   have h2:b₂ ≠ b₁:=fun e=>hne e.symm
   rw [hm b₂ h2] at f2
   rw [if_neg h2] at e2
   exact absurd f2 (p3 b₂ o₂ d₂ e2)
  ·rw [if_neg h1] at e1
   rw [hm _ h1] at f1
   by_cases h2:b₂ = r
   ·subst h2
    rw [hm1] at f2
    cases f2
    exact absurd f1 (p3 b₁ o₁ d₁ e1)
   ·rw [if_neg h2] at e2
    rw [hm _ h2] at f2
    exact hW.apart _ _ _ _ _ _ _ e1 e2 f1 f2 hne
 ·intro b c f e hc
  rw [hget] at e
  by_cases hb:b = r
  ·rw [if_pos hb] at e
   cases e
   exact ⟨[r],by rw [hgf,if_pos rfl],by rw [hb]; simp⟩
  ·rw [if_neg hb] at e
   obtain ⟨l,h1,h2⟩:=hW.kin b c f e hc
   exact ⟨l,by rw [hgf,if_neg (q5 _ _ _ _ e)]; exact h1,h2⟩
 ·intro b c f ro e
  rw [hget] at e
  rw [hnx]
  by_cases hb:b = r
  ·rw [if_pos hb] at e
   cases e
   exact q1
  ·rw [if_neg hb] at e
   exact hW.fam _ _ _ _ e
 ·intro g hg
  have:=hW.glob g hg
  have hne:g ≠ r:=fun e=>by subst e; rw [q2] at this; cases this
  rw [hm g hne]
  exact this
 ·intro s er
  rw [hgf] at er
  by_cases hs:s = r
  ·rw [if_pos hs] at er; cases er
  ·rw [if_neg hs] at er
   obtain ⟨r1,r2,r3,r4,r5⟩:=hW.res s er
   refine ⟨r1,by rw [hm s hs]; exact r2,by rw [hget,if_neg hs]; exact r3,r4,fun b c f ro e=>?_⟩
   rw [hget] at e
   by_cases hb:b = r
   ·rw [if_pos hb] at e
    cases e
    exact fun e=>hs e.symm
   ·rw [if_neg hb] at e
    exact r5 b c f ro e
 ·intro B z k
  have hne:B ≠ q.B:=by
   rcases k with k|⟨p,k,rfl,_⟩
   ·intro e; subst e; exact hk _ k
   ·exact hB p k
  obtain ⟨k1,k2,k3⟩:=hW.park B z (by
   rcases k with k|⟨p,k,k'⟩
   ·exact .inl k
   ·refine .inr ⟨p,?_,k'⟩
    rcases List.mem_append.1 k with k|k
    ·exact List.mem_append_left _ k
    ·exact List.mem_append_right _ (List.mem_cons_of_mem _ k))
  refine ⟨k1,k2,fun b o d e1 e2=>?_⟩
  rw [hget] at e1
  by_cases hb:b = r
  ·subst hb
   rw [hm1] at e2
   cases e2
   exact hne rfl
  ·rw [if_neg hb] at e1
   rw [hm b hb] at e2
   exact k3 b o d e1 e2

/-! ## Acts -/
theorem puts_snoc (q:PA):∀ (L:List PA) (a:Act),puts (L ++ [q]) a = (puts L a).put q.x.o.dst (ptrTo q.B)
 | [],a=>rfl
 | p :: L,a=>by rw [List.cons_append,puts,puts_snoc q L]; rfl

theorem sS {o:Oper} {v:Value}:∀ {L:List PA} {a:Act},(∀ q ∈ L,o.apart ops q.x.o = true) → (puts L a).put o.dst v = puts L (a.put o.dst v)
 | [],a,_=>rfl
 | q :: L,a,hap=>by
  obtain ⟨h1,h2,h3⟩:=Oper.apart_spec (hap q (by simp))
  rw [puts,puts,sS (fun p hp=>hap p (by simp [hp])),Act.put_comm a (ptrTo q.B) v (fun d e e'=>h2 d e' e)]

theorem wC {o:Oper}:∀ {L:List PA} {a:Act},(∀ q ∈ L,o.apart ops q.x.o = true) → Agree ops o (puts L a) a
 | [],a,_=>Agree.refl o a
 | q :: L,a,hap=>by
  obtain ⟨h1,h2,h3⟩:=Oper.apart_spec (hap q (by simp))
  exact (wC (L:=L) (a:=a.put q.x.o.dst (ptrTo q.B)) (fun p hp=>hap p (by simp [hp]))).trans (Agree.of_put a _ _ h3)

theorem puts_mid {A C:List PA} {q:PA} {a:Act} (hap:∀ p ∈ A,q.x.o.apart ops p.x.o = true):puts (A ++ q :: C) a = puts (A ++ C) (a.put q.x.o.dst (ptrTo q.B)):=by
 have key:∀ (A:List PA) (X:List PA) (a:Act),puts (A ++ X) a = puts X (puts A a):=by
  intro A
  induction A with
  | nil=>intro X a; rfl
  | cons p A ih=>intro X a; exact ih X _
 rw [key,key,puts,sS hap]

/-! ## Masks -/
theorem maskOf_bit:∀ (l:List Info) (k:Nat),(maskOf l).testBit k = true ↔ ∃ x ∈ l,x.i = k
 | [],k=>by simp [maskOf]
 | x :: l,k=>by
  have:(maskOf (x :: l)).testBit k = true ↔ (maskOf l).testBit k = true ∨ x.i = k:=by
   show ((maskOf l) ||| 2 ^ x.i).testBit k = true ↔ _
   rw [Nat.testBit_or,Bool.or_eq_true,Nat.testBit_two_pow,decide_eq_true_iff]
  rw [this,maskOf_bit l k]
  simp only [List.mem_cons,exists_eq_or_imp]
  exact Or.comm

theorem wE {x y:Info} (hx:x ∈ infos P ops) (hy:y ∈ infos P ops) (e:x.i = y.i):x = y:=by
 have h1:=jH hx
 have h2:=jH hy
 rw [e,h2] at h1
 exact (Option.some.inj h1).symm

theorem lL {x:Info} (k:rW P x = true):(∃ el z,x.o.op = .alloc el ∧ zeroOf P el = some z) ∧ x.o.guard = none ∧ x.pre = 0:=by
 unfold rW at k
 rw [Bool.and_eq_true] at k
 obtain ⟨k1,k2⟩:=k
 refine ⟨?_,?_⟩
 ·unfold isVar at k1
  split at k1
  ·rename_i el ho
   obtain ⟨z,hz⟩:=Option.isSome_iff_exists.1 k1
   exact ⟨el,z,ho,hz⟩
  ·cases k1
 ·split at k2
  ·rename_i hg
   exact ⟨hg,Nat.eq_of_beq_eq_true k2⟩
  ·cases k2

theorem floats_spec {x:Info} (hx:x ∈ infos P ops) (hf:(floats P ops).testBit x.i = true) :
  rW P x = true ∧ (∀ c ∈ infos P ops,rW P c = true → (floats P ops).testBit c.i = true) ∧
  ∀ z ∈ infos P ops,z.pre.testBit x.i = true → ∀ c ∈ infos P ops,c.w = true → rW P c = false → c.pre.testBit x.i = true ∨ z.pre.testBit c.i = true:=by
 unfold floats at hf ⊢
 simp only at hf ⊢
 cases hall:((infos P ops).filter (rW P)).all (lateOk P (infos P ops)) with
 | false =>
  rw [hall] at hf
  simp only [cond_false] at hf
  simp at hf
 | true =>
  rw [hall] at hf
  simp only [cond_true] at hf ⊢
  have hx':x ∈ (infos P ops).filter (rW P):=by
   obtain ⟨y,hy,hyi⟩:=(maskOf_bit _ _).1 hf
   have:=wE (List.mem_filter.1 hy).1 hx hyi
   subst this
   exact hy
  refine ⟨(List.mem_filter.1 hx').2,fun c hc hcc=>(maskOf_bit _ _).2 ⟨c,List.mem_filter.2 ⟨hc,hcc⟩,rfl⟩,fun z hz hzx c hc hcw hcc=>?_⟩
  have h1:=List.all_eq_true.1 hall x hx'
  unfold lateOk at h1
  have h2:=List.all_eq_true.1 h1 z hz
  rw [hzx] at h2
  simp only [Bool.not_true,Bool.false_or] at h2
  have h3:=List.all_eq_true.1 h2 c hc
  rw [hcw,hcc] at h3
  simpa using h3

theorem chosen_all {fl:Nat} {l:List (Info × List Info)} (k:∀ p ∈ l,fl.testBit p.1.i = true):chosen fl l = l:=by
 unfold chosen
 have:l.filter (fun p=>!(Nat.testBit fl p.1.i)) = []:=by
  rw [List.filter_eq_nil_iff]
  intro p hp
  rw [k p hp]
  simp
 rw [this]

theorem chosen_mem {fl:Nat} {l:List (Info × List Info)} {p:Info × List Info} (hp:p ∈ l) (hf:fl.testBit p.1.i = false):p ∈ chosen fl l:=by
 have hm:p ∈ l.filter (fun p=>!(Nat.testBit fl p.1.i)):=List.mem_filter.2 ⟨hp,by rw [hf]; rfl⟩
 unfold chosen
 split
 ·exact hp
 ·rename_i q ps he
  rw [← he]
  exact hm

theorem mem_splits_split:∀ {l:List Info} {p:Info × List Info},p ∈ splits l → ∃ A B,l = A ++ p.1 :: B ∧ p.2 = A ++ B
 | [],p,k=>by cases k
 | a :: l,p,k=>by
  simp only [splits,List.mem_cons,List.mem_map] at k
  rcases k with rfl|⟨q,hq,rfl⟩
  ·exact ⟨[],l,rfl,rfl⟩
  ·obtain ⟨A,B,h1,h2⟩:=mem_splits_split hq
   exact ⟨a :: A,B,by rw [h1]; rfl,by simp only [h2]; rfl⟩

theorem vO {done:Nat} {l:List Info} {p:Info × List Info} (k:p ∈ dN done l):(∃ A B,l = A ++ p.1 :: B ∧ p.2 = A ++ B) ∧ p.1.w = true ∧ Nat.land p.1.pre done = p.1.pre:=by
 unfold dN at k
 rw [List.mem_filter,Bool.and_eq_true] at k
 exact ⟨mem_splits_split k.1,k.2.1,Nat.eq_of_beq_eq_true k.2.2⟩

/-! ## A variable is made -/
theorem var_run {o:Oper} {el:TypeId} {z:Value} (ho:o.op = .alloc el) (hz:zeroOf P el = some z) (ρ:Operand → Value) (w:World) :
  (execOp ρ o).run P w = .ok (.value (ptrTo w.heap.size)) (w.alloc (.cells z.cells el)):=by
 simp only [execOp,ho]
 refine eX ?_
 simp only [Instr.alloc,Sem.run_bind,jQ hz,Result.andThen_ok,qR,Sem.run_pure]
 rfl

theorem value_wp {o:Oper} {v':Value} {next:Act → World → Prop} {Q:Exit → Act → World → Prop} (hr:(execOp a.eval o).run P w = .ok (.value v') w') (hd:∀ c,o.op ≠ .defer c)
  (hn:next (a.put o.dst v') w'):o.wpIn (FW rd) nn P a w next Q:=by
 refine ⟨fun f _=>trivial,?_⟩
 rw [Oper.semAt_eq _ _ _ hd,hr]
 exact hn

/-! ## How many are left -/
def left (ops:Array Oper) (listed:Array Bool):Nat:=(List.range ops.size).countP fun i=>!(listed.getD i false)

theorem countP_lt {α:Type} (p q:α → Bool):∀ (l:List α),(∀ x ∈ l,q x = true → p x = true) → (∃ x ∈ l,p x = true ∧ q x = false) → l.countP q < l.countP p
 | [],_,⟨x,hx,_⟩=>by cases hx
 | y :: l,hle,⟨x,hx,h1,h2⟩=>by
  rw [List.countP_cons,List.countP_cons]
  have hmono:l.countP q ≤ l.countP p:=List.countP_mono_left fun z hz=>hle z (by simp [hz])
  rcases List.mem_cons.1 hx with rfl|hx
  ·rw [h1,h2]
   simp
   omega
  ·have:=countP_lt p q l (fun z hz=>hle z (by simp [hz])) ⟨x,hx,h1,h2⟩
   have hy:=hle y (by simp)
   cases hq:q y with
   | true=>rw [hy hq]; simp; omega
   | false=>simp; split<;>omega

theorem left_lt {listed:Array Bool} {j:Nat} (hj:j < ops.size) (hs:listed.size = ops.size) (h0:listed.getD j false = false):left ops (listed.setIfInBounds j true) < left ops listed:=by
 refine countP_lt _ _ _ (fun x _ hx=>?_) ⟨j,by simpa using hj,by simp [h0],?_⟩
 ·by_cases hjx:j = x
  ·subst hjx
   simp [hs,hj] at hx
  ·rw [getD_set_ne false hjx] at hx
   exact hx
 ·simp [hs,hj]

theorem left_pos {listed:Array Bool} {j:Nat} (hj:j < ops.size) (h0:listed.getD j false = false):0 < left ops listed:=by
 unfold left
 rw [List.countP_pos_iff]
 exact ⟨j,by simpa using hj,by simp [h0]⟩

end
end Go.Ev

/- Regions that draw their order: what the evaluator says is so. -/
namespace Go.Ev
open Go.RowKit

/-- What is known of the variables that are left for the end. -/
def mD (P:Program) (ops:Array Oper) (fl:Nat):Prop:=
 ∀ x ∈ infos P ops,fl.testBit x.i = true → rW P x = true ∧ (∀ c ∈ infos P ops,rW P c = true → fl.testBit c.i = true) ∧
  ∀ z ∈ infos P ops,z.pre.testBit x.i = true → ∀ c ∈ infos P ops,c.w = true → rW P c = false → c.pre.testBit x.i = true ∨ z.pre.testBit c.i = true

theorem floatOk_floats (P:Program) (ops:Array Oper):mD P ops (floats P ops):=fun _ hx hf=>floats_spec hx hf
theorem floatOk_zero (P:Program) (ops:Array Oper):mD P ops 0:=fun _ _ hf=>by simp at hf

/-- The evaluator beside the real order. -/
structure St (P:Program) (ops:Array Oper) (n:Nat) (call:CallT) (ids:List (Nat × Nat)) (fl:Nat) (K:T Value → AHeap → Bool) (w0:Base) (listed:Array Bool) (a:Act) (w:World)
  (m:M) (h:AHeap) (am:Act) (lm:Array Bool) (todo:List Info) (done:Nat) (hist:List Seen) (t:T Value) (L:List PE) (L2:List PA) (f:Nat):Prop where
 wr:WR P m (w0.add L2) h w
 inv:Inv P ops n h m am lm todo done hist t L
 go:bQ P call ops n fl ids f todo done hist t h K = true
 act:a = puts L2 am
 size:listed.size = ops.size
 list:∀ k,listed.getD k false = true ↔ lm.getD k false = true ∨ ∃ q ∈ L2,q.x.i = k
 pT:∀ q ∈ L2,q.x ∈ todo
 pF:∀ q ∈ L2,fl.testBit q.x.i = true
 pO:∀ q ∈ L2,varObj P q.x.o.op = some q.y
 pN:L2.Pairwise (fun p q=>p.x.i ≠ q.x.i ∧ p.B ≠ q.B)
 pB:∀ q ∈ L2,∀ y,¬ w0.pk q.B y

section
variable {P:Program} {m:M} {w0:Base} {w:World} {h:AHeap} {t:T Value} {n:Nat} {a am:Act} {rd:Option Nat} {nn:Nat} {ops:Array Oper}
 {listed lm:Array Bool} {todo:List Info} {done:Nat} {hist:List Seen} {L:List PE} {L2:List PA} {ids:List (Nat × Nat)} {fl f:Nat} {call:CallT} {K:T Value → AHeap → Bool}

theorem cand_w {x:Info} (hx:x ∈ infos P ops) (k:rW P x = true):x.w = true:=by
 obtain ⟨⟨el,z,ho,_⟩,_⟩:=lL k
 rw [(fO (jH hx)).2.2.1,ho]
 rfl

theorem St.pI (S:St P ops n call ids fl K w0 listed a w m h am lm todo done hist t L L2 f) {q:PA} (hq:q ∈ L2):q.x ∈ infos P ops:=S.inv.top _ (S.pT q hq)

theorem St.pC (hfl:mD P ops fl) (S:St P ops n call ids fl K w0 listed a w m h am lm todo done hist t L L2 f) {q:PA} (hq:q ∈ L2):rW P q.x = true:=(hfl _ (S.pI hq) (S.pF q hq)).1

/-- What is parked is not behind the evaluator. -/
theorem St.pnd (S:St P ops n call ids fl K w0 listed a w m h am lm todo done hist t L L2 f) {q:PA} (hq:q ∈ L2):done.testBit q.x.i = false:=by
 cases hb:done.testBit q.x.i with
 | false=>rfl
 | true =>
  rcases (S.inv.bits _).1 hb with h1|⟨p,h1,h2⟩
  ·exact (fD (S.inv.tU _ (S.pT q hq)) h1).elim
  ·exact absurd h2 (S.inv.tL _ (S.pT q hq) p h1)

/-- No operation that the evaluator has read waits for a parked variable. -/
theorem St.ppre (S:St P ops n call ids fl K w0 listed a w m h am lm todo done hist t L L2 f) {q:PA} (hq:q ∈ L2) {p:PE} (hp:p ∈ L):p.pre.testBit q.x.i = false:=by
 cases hb:p.pre.testBit q.x.i with
 | false=>rfl
 | true =>
  obtain ⟨A1,A2,hA⟩:=List.append_of_mem hp
  have h0:=S.pnd hq
  have:done.testBit q.x.i = true:=(S.inv.bits _).2 (by
   rcases S.inv.ord A1 p A2 hA _ hb with h3|⟨p',h3,h4⟩
   ·exact .inl h3
   ·exact .inr ⟨p',by rw [hA]; simp [h3],h4⟩)
  rw [h0] at this
  cases this

theorem St.lmOf (S:St P ops n call ids fl K w0 listed a w m h am lm todo done hist t L L2 f) {k:Nat} (hk:listed.getD k false = true) (hn:∀ q ∈ L2,q.x.i ≠ k):lm.getD k false = true:=by
 rcases (S.list k).1 hk with h1|⟨q,h1,h2⟩
 ·exact h1
 ·exact absurd h2 (hn q h1)

theorem St.unlisted (S:St P ops n call ids fl K w0 listed a w m h am lm todo done hist t L L2 f) {k:Nat} (hk:listed.getD k true = false):lm.getD k true = false ∧ ∀ q ∈ L2,q.x.i ≠ k:=by
 have hlt:k < ops.size:=by
  rw [← S.size]
  rcases Nat.lt_or_ge k listed.size with h|h
  ·exact h
  ·rw [Array.getD_eq_getD_getElem?,Array.getElem?_eq_none h] at hk; cases hk
 have hno:¬ listed.getD k false = true:=fun e=>fD hk e
 rw [S.list] at hno
 refine ⟨?_,fun q hq e=>hno (.inr ⟨q,hq,e⟩)⟩
 rcases getD_alt (listed:=lm) (k:=k) (by rw [S.inv.sz]; exact hlt) with h1|h1
 ·exact h1
 ·exact absurd (.inl h1) hno

/-- The evaluator makes a variable that the real order has made before. -/
theorem St.unpark (hfl:mD P ops fl) (hreg:nC P ops = true) {A C:List PA} {q:PA} (S:St P ops n call ids fl K w0 listed a w m h am lm todo done hist t L (A ++ q :: C) (f + 1))
  (hp:iK done todo = none) (hch:chosen fl (dN done todo) = dN done todo) :
  ∃ m' h' am' lm' todo' done' t',M.le m m' ∧ St P ops n call ids fl K w0 listed a w m' h' am' lm' todo' done' hist t' L (A ++ C) f:=by
 have hq:q ∈ A ++ q :: C:=by simp
 have hsub:∀ p ∈ A ++ C,p ∈ A ++ q :: C:=fun p hp=>by
  simp only [List.mem_append,List.mem_cons] at hp ⊢
  exact hp.imp id .inr
 obtain ⟨A',B',htodo⟩:=List.append_of_mem (S.pT q hq)
 have hcand:=S.pC hfl hq
 have hxw:=cand_w (S.pI hq) hcand
 obtain ⟨⟨el,z,ho,hz⟩,hg,hpre0⟩:=lL hcand
 have hN:=S.pN
 rw [List.pairwise_append] at hN
 simp only [List.pairwise_cons] at hN
 have hdist:∀ p ∈ A ++ C,p.x.i ≠ q.x.i ∧ p.B ≠ q.B:=by
  intro p hp
  rcases List.mem_append.1 hp with hp|hp
  ·exact hN.2.2 p hp q (by simp)
  ·have:=hN.2.1.1 p hp
   exact ⟨fun e=>this.1 e.symm,fun e=>this.2 e.symm⟩
 have hmemW:(q.x,A' ++ B') ∈ dN done todo:=by
  rw [htodo]
  exact wW hxw (by rw [hpre0]; exact land_pre' fun k hk=>by simp at hk)
 have e1:=S.go
 simp only [bQ] at e1
 rw [hp,hch] at e1
 simp only at e1
 split at e1
 ·rename_i hwr
  rw [hwr] at hmemW
  cases hmemW
 rename_i p0 ps hwr
 rw [hwr] at hmemW
 have e1:=allB_mem e1 _ hmemW
 simp only at e1
 rw [hg] at e1
 simp only [fB,jV,S.pF q hq,cond_true] at e1
 split at e1
 case h_2=>cases e1
 rename_i r hid
 simp only [jU,ho,pJ,hz] at e1
 split at e1
 case h_2=>cases e1
 rename_i hr
 simp only [bP,fL_eq,T.setK_eq,ptrK] at e1
 cases hagn:again P (h.addAt z.cells.toList r) q.x.pre hist with
 | false =>
  have hagn':again P ⟨T.set (r + 1) h.bl r (.cells z.cells.toList r false),h.nx,T.set (r + 1) h.fams r [r]⟩ q.x.pre hist = false:=hagn
  rw [hagn'] at e1
  cases e1
 | true =>
  have hagn':again P ⟨T.set (r + 1) h.bl r (.cells z.cells.toList r false),h.nx,T.set (r + 1) h.fams r [r]⟩ q.x.pre hist = true:=hagn
  rw [hagn',cond_true] at e1
  obtain ⟨t',e',hpt⟩:=mO e1
  have hy:q.y = .cells z.cells el:=by
   have:=S.pO q hq
   rw [ho] at this
   simp only [varObj,hz,Option.some.injEq] at this
   exact this.symm
  obtain ⟨_,_,_,hpz,hoz⟩:=dK hz
  have hW':=S.wr.unpark hr hy (c:=z.cells.toList) (iL hpz) (jF hpz hoz) (fun p hp=>(hdist p hp).2) (S.pB q hq)
  have hle:M.le m (m.put r (q.B,0)):=M.le_put (S.wr.res r hr).2.1 _
  have hap:∀ p ∈ L,q.x.o.apart ops p.o = true:=by
   intro p hpL
   exact kJ hreg (S.pI hq) (S.inv.lop p hpL) (fun e=>S.inv.tL q.x (S.pT q hq) p hpL e.symm) (by rw [hpre0]; simp) (S.ppre hq hpL)
  have hst:∀ p ∈ L,p.wants = true → dE P p.t (h.addAt z.cells.toList r) p.o = some p.v:=by
   intro p hpL hpw
   obtain ⟨h4,h5⟩:=S.inv.seen p hpL hpw
   rcases wB hagn _ h5 with h6|h6|h6
   ·rw [← aread_still h _ h6]; exact h4
   ·rw [hpre0] at h6; simp at h6
   ·exact h6
  have I2:=S.inv.wr htodo (fun k hk=>by rw [hpre0] at hk; simp at hk) hap hle hst hpt (v':=ptrTo q.B) (.ptr 0 (M.put_self m r _))
  have hpu:=S.inv.tU q.x (S.pT q hq)
  refine ⟨_,_,_,_,_,_,t',hle,⟨hW',I2,e',?_,S.size,fun k=>?_,fun p hp=>?_,fun p hp=>S.pF p (hsub p hp),fun p hp=>S.pO p (hsub p hp),S.pN.sublist (by simp),fun p hp=>S.pB p (hsub p hp)⟩⟩
  ·rw [S.act]
   refine puts_mid (ops:=ops) fun p hp=>?_
   have hpm:p ∈ A ++ q :: C:=by simp [hp]
   refine kJ hreg (S.pI hq) (S.pI hpm) (fun e=>(hdist p (by simp [hp])).1 e.symm) (by rw [hpre0]; simp) ?_
   rw [(lL (S.pC hfl hpm)).2.2]
   simp
  ·rw [S.list,dO hpu]
   simp only [List.mem_append,List.mem_cons]
   constructor
   ·rintro (h1|⟨p,h1|rfl|h1,h2⟩)
    ·exact .inl (.inl h1)
    ·exact .inr ⟨p,.inl h1,h2⟩
    ·exact .inl (.inr h2)
    ·exact .inr ⟨p,.inr h1,h2⟩
   ·rintro ((h1|h1)|⟨p,h1|h1,h2⟩)
    ·exact .inl h1
    ·exact .inr ⟨q,.inr (.inl rfl),h1⟩
    ·exact .inr ⟨p,.inl h1,h2⟩
    ·exact .inr ⟨p,.inr (.inr h1),h2⟩
  ·have h1:=S.pT p (hsub p hp)
   rw [htodo] at h1
   simp only [List.mem_append,List.mem_cons] at h1 ⊢
   rcases h1 with h1|h1|h1
   ·exact .inl h1
   ·exact absurd (congrArg Info.i h1) (hdist p hp).1
   ·exact .inr h1

/-- All is done but for what is parked. -/
theorem drain (hfl:mD P ops fl) (hreg:nC P ops = true) {Q:Act → World → Prop} (hall:∀ k,k < ops.size → listed.getD k false = true) :
  ∀ (f:Nat) (m:M) (h:AHeap) (am:Act) (lm:Array Bool) (todo:List Info) (done:Nat) (hist:List Seen) (t:T Value) (L:List PE) (L2:List PA),
  St P ops n call ids fl K w0 listed a w m h am lm todo done hist t L L2 f →
  (∀ m' t' h',M.le m m' → TR m' t' n a.tmps → WR P m' w0 h' w → K t' h' = true → Q a w) → Q a w:=by
 intro f
 induction f with
 | zero=>intro m h am lm todo done hist t L L2 S; exact absurd S.go (by simp [bQ])
 | succ f ih =>
  intro m h am lm todo done hist t L L2 S hq
  have hlt:∀ x ∈ infos P ops,x.i < ops.size:=fun x hx=>(Array.getElem?_eq_some_iff.1 (fO (jH hx)).1).1
  have hpk:∀ x ∈ todo,∃ q ∈ L2,q.x = x:=by
   intro x hx
   rcases (S.list x.i).1 (hall _ (hlt x (S.inv.top x hx))) with h1|⟨q,h1,h2⟩
   ·exact (fD (S.inv.tU x hx) h1).elim
   ·exact ⟨q,h1,wE (S.pI h1) (S.inv.top x hx) h2⟩
  have hL:L = []:=by
   cases hL:L with
   | nil=>rfl
   | cons p L' =>
    have hp:p ∈ L:=by rw [hL]; simp
    rcases (S.list p.i).1 (hall _ (hlt _ (S.inv.lop p hp))) with h1|⟨q,h1,h2⟩
    ·exact (fD (S.inv.lU p hp) h1).elim
    ·exact absurd h2.symm (S.inv.tL q.x (S.pT q h1) p hp)
  cases htodo:todo with
  | nil =>
   have h2:L2 = []:=by
    cases h2:L2 with
    | nil=>rfl
    | cons q L' =>
     have:=S.pT q (by rw [h2]; simp)
     rw [htodo] at this
     cases this
   subst hL h2 htodo
   refine hq m t h (M.le_refl m) ?_ S.wr.of_nil ?_
   ·rw [S.act]; exact S.inv.lag
   ·have:=S.go
    simpa [bQ,iK,dN,splits,chosen] using this
  | cons x rest =>
   obtain ⟨q,hq2,hqx⟩:=hpk x (by rw [htodo]; simp)
   obtain ⟨A,C,rfl⟩:=List.append_of_mem hq2
   have hp:iK done todo = none:=by
    cases hp:iK done todo with
    | none=>rfl
    | some xr =>
     obtain ⟨y,r⟩:=xr
     obtain ⟨A',B',h1,_,h3,_⟩:=vZ hp
     have hy:y ∈ todo:=by rw [h1]; simp
     obtain ⟨p,hp1,rfl⟩:=hpk y hy
     rw [cand_w (S.pI hp1) (S.pC hfl hp1)] at h3
     cases h3
   have hch:chosen fl (dN done todo) = dN done todo:=by
    refine chosen_all fun p hp=>?_
    obtain ⟨⟨A',B',h1,_⟩,_,_⟩:=vO hp
    obtain ⟨p',hp1,hp2⟩:=hpk p.1 (by rw [h1]; simp)
    rw [← hp2]
    exact S.pF p' hp1
   obtain ⟨m',h',am',lm',todo',done',t',hle,S'⟩:=S.unpark hfl hreg hp hch
   exact ih m' h' am' lm' todo' done' hist t' L (A ++ C) S' fun m2 t2 h2 hle2=>hq m2 t2 h2 (M.le_trans hle hle2)

/-- The evaluator comes to where the real order is. -/
theorem catchup (hfl:mD P ops fl) (hreg:nC P ops = true) {x:Info} (hx:x ∈ infos P ops) (hpre:∀ k,x.pre.testBit k = true → listed.getD k false = true) :
  ∀ (N f:Nat) (m:M) (h:AHeap) (am:Act) (lm:Array Bool) (todo:List Info) (done:Nat) (hist:List Seen) (t:T Value) (L:List PE) (L2:List PA),
  f ≤ N → St P ops n call ids fl K w0 listed a w m h am lm todo done hist t L L2 f →
  ∃ f' m' h' am' lm' todo' done' hist' t' L' L2',M.le m m' ∧ St P ops n call ids fl K w0 listed a w m' h' am' lm' todo' done' hist' t' L' L2' f' ∧
   ((∃ q ∈ L',q.i = x.i) ∨ (iK done' todo' = none ∧ ∀ k,x.pre.testBit k = true → lm'.getD k false = true)):=by
 intro N
 induction N with
 | zero =>
  intro f m h am lm todo done hist t L L2 hf S
  have hf0:f = 0:=by omega
  subst hf0
  exact absurd S.go (by simp [bQ])
 | succ N ih =>
  intro f m h am lm todo done hist t L L2 hf S
  obtain ⟨f1,todo1,done1,hist1,t1,L1,I1,e1,hf1,hstay,hcase⟩:=advance x.i f todo done hist t L S.inv S.go
  have S1:St P ops n call ids fl K w0 listed a w m h am lm todo1 done1 hist1 t1 L1 L2 f1:=
   ⟨S.wr,I1,e1,S.act,S.size,S.list,fun q hq=>hstay _ (S.pT q hq) (cand_w (S.pI hq) (S.pC hfl hq)),S.pF,S.pO,S.pN,S.pB⟩
  by_cases hmem:∃ q ∈ L1,q.i = x.i
  ·exact ⟨f1,m,h,am,lm,todo1,done1,hist1,t1,L1,L2,M.le_refl m,S1,.inl hmem⟩
  ·have hp:iK done1 todo1 = none:=hcase.resolve_left hmem
   by_cases hpk:∃ q ∈ L2,x.pre.testBit q.x.i = true
   ·obtain ⟨q,hq,hqb⟩:=hpk
    have hff:=hfl _ (S1.pI hq) (S1.pF q hq)
    have hch:chosen fl (dN done1 todo1) = dN done1 todo1:=by
     refine chosen_all fun p hp=>?_
     obtain ⟨⟨A',B',h1,_⟩,h2,h3⟩:=vO hp
     have hpt:p.1 ∈ todo1:=by rw [h1]; simp
     have hpi:p.1 ∈ infos P ops:=I1.top _ hpt
     cases hb:fl.testBit p.1.i with
     | true=>rfl
     | false =>
      exfalso
      have hnc:rW P p.1 = false:=by
       cases hc:rW P p.1 with
       | false=>rfl
       | true=>rw [hff.2.1 _ hpi hc] at hb; cases hb
      rcases hff.2.2 x hx hqb _ hpi h2 hnc with h4|h4
      ·have:=land_pre h3 _ h4
       rw [S1.pnd hq] at this
       cases this
      ·rcases (S1.list _).1 (hpre _ h4) with h5|⟨p',h5,h6⟩
       ·exact fD (I1.tU _ hpt) h5
       ·have:=S1.pF p' h5
        rw [h6,hb] at this
        cases this
    obtain ⟨A,C,rfl⟩:=List.append_of_mem hq
    cases f1 with
    | zero=>exact absurd S1.go (by simp [bQ])
    | succ f1 =>
     obtain ⟨m',h',am',lm',todo',done',t',hle,S'⟩:=S1.unpark hfl hreg hp hch
     obtain ⟨f2,m2,h2,am2,lm2,todo2,done2,hist2,t2,L2',L22,k1,k2,k3⟩:=ih f1 m' h' am' lm' todo' done' hist1 t' L1 (A ++ C) (by omega) S'
     exact ⟨f2,m2,h2,am2,lm2,todo2,done2,hist2,t2,L2',L22,M.le_trans hle k1,k2,k3⟩
   ·refine ⟨f1,m,h,am,lm,todo1,done1,hist1,t1,L1,L2,M.le_refl m,S1,.inr ⟨hp,fun k hk=>S1.lmOf (hpre k hk) fun q hq e=>hpk ⟨q,hq,by rw [e]; exact hk⟩⟩⟩

/-- Nothing ready: all is listed. -/
theorem all_listed (hreg:nC P ops = true) (hsz:listed.size = ops.size) (hr:Region.ready .any ops listed = []):∀ k,k < ops.size → listed.getD k false = true:=by
 have hall:∀ i:Nat,∀ k,k ≤ i → k < ops.size → listed.getD k false = true:=by
  intro i
  induction i with
  | zero =>
   intro k hk hlt
   rcases getD_alt (k:=k) (by rw [hsz]; exact hlt) with h1|h1
   ·exfalso
    have hm:k ∈ Region.ready .any ops listed:=by
     rw [mem_ready]
     refine ⟨h1,ops[k],Array.getElem?_eq_getElem hlt,fun e he hb=>?_⟩
     obtain ⟨x,hx⟩:=qV (P:=P) (Array.getElem?_eq_getElem hlt)
     obtain ⟨h2,h3,_⟩:=fO hx
     rw [Array.getElem?_eq_getElem hlt] at h2
     have h4:ops[k] = x.o:=Option.some.inj h2
     have:=regOk_edges hreg (List.mem_of_getElem? hx) e (by rw [← h4]; exact he) hb
     omega
    rw [hr] at hm
    cases hm
   ·exact h1
  | succ i ih =>
   intro k hk hlt
   rcases getD_alt (k:=k) (by rw [hsz]; exact hlt) with h1|h1
   ·exfalso
    have hm:k ∈ Region.ready .any ops listed:=by
     rw [mem_ready]
     refine ⟨h1,ops[k],Array.getElem?_eq_getElem hlt,fun e he hb=>?_⟩
     obtain ⟨x,hx⟩:=qV (P:=P) (Array.getElem?_eq_getElem hlt)
     obtain ⟨h2,h3,_⟩:=fO hx
     rw [Array.getElem?_eq_getElem hlt] at h2
     have h4:ops[k] = x.o:=Option.some.inj h2
     have:=regOk_edges hreg (List.mem_of_getElem? hx) e (by rw [← h4]; exact he) hb
     exact ih e.on (by omega) (by omega)
    rw [hr] at hm
    cases hm
   ·exact h1
 exact fun k hk=>hall k k (Nat.le_refl _) hk

/-- What is listed has behind it all that comes before. -/
theorem St.closed (hfl:mD P ops fl) (S:St P ops n call ids fl K w0 listed a w m h am lm todo done hist t L L2 f) {i:Nat} (hi:listed.getD i false = true) (k:Nat) (hk:(preOf P ops i).testBit k = true):listed.getD k false = true:=by
 rcases (S.list i).1 hi with h1|⟨q,h1,rfl⟩
 ·exact (S.list k).2 (.inl (S.inv.closed i h1 k hk))
 ·rw [← (fO (jH (S.pI h1))).2.2.2.1,(lL (S.pC hfl h1)).2.2] at hk
  simp at hk

theorem St.ready (hfl:mD P ops fl) (S:St P ops n call ids fl K w0 listed a w m h am lm todo done hist t L L2 f) {j:Nat} (hj:j ∈ Region.ready .any ops listed):listed.getD j true = false ∧ ∃ x,x ∈ infos P ops ∧ x.i = j ∧ ops[j]? = some x.o ∧
  ∀ k,x.pre.testBit k = true → listed.getD k false = true:=by
 obtain ⟨h0,o,ho,hall⟩:=mem_ready.1 hj
 obtain ⟨x,hx⟩:=qV (P:=P) ho
 obtain ⟨h1,h2,h3,h4,h5⟩:=fO hx
 rw [h1] at ho
 cases ho
 refine ⟨h0,x,List.mem_of_getElem? hx,h2,h1,fun k hk=>?_⟩
 obtain ⟨e,he,hb,h6⟩:=h5 k hk
 have:=hall e he hb
 rcases h6 with rfl|h6
 ·exact this
 ·exact S.closed hfl this k h6

theorem getD_false {j:Nat} (h0:listed.getD j true = false):listed.getD j false = false:=by
 cases h:listed.getD j false with
 | false=>rfl
 | true=>exact (fD h0 h).elim

theorem draw_wp (hcall:iZ P call) (hfl:mD P ops fl) (hreg:nC P ops = true) {Q:Exit → Act → World → Prop} (ds:List Deferred) :
  ∀ (fuel:Nat) (listed:Array Bool) (a:Act) (w:World) (m:M) (h:AHeap) (am:Act) (lm:Array Bool) (todo:List Info) (done:Nat) (hist:List Seen) (t:T Value) (L:List PE) (L2:List PA) (f:Nat),
  St P ops n call ids fl K w0 listed a w m h am lm todo done hist t L L2 f → left ops listed ≤ fuel → a.defers = ds →
  (∀ m' t' h' a' w',M.le m m' → TR m' t' n a'.tmps → WR P m' w0 h' w' → a'.defers = ds → K t' h' = true → Q .normal a' w') → wpAnyIn (FW rd) nn P .any ops Q fuel listed a w:=by
 intro fuel
 induction fuel with
 | zero =>
  intro listed a w m h am lm todo done hist t L L2 f S hlen hd hq
  have hall:∀ k,k < ops.size → listed.getD k false = true:=fun k hk=>by
   cases h0:listed.getD k false with
   | true=>rfl
   | false=>have:=left_pos hk h0; omega
  refine ⟨?_,drain hfl hreg hall f m h am lm todo done hist t L L2 S fun m' t' h' hle hT hW hK=>hq m' t' h' a w hle hT hW hd hK⟩
  apply List.eq_nil_iff_forall_not_mem.2
  intro j hj
  obtain ⟨h0,x,_,_,ho,_⟩:=S.ready hfl hj
  exact fD h0 (hall j (Array.getElem?_eq_some_iff.1 ho).1)
 | succ fuel ih =>
  intro listed a w m h am lm todo done hist t L L2 f S hlen hd hq
  refine ⟨fun hr=>drain hfl hreg (all_listed hreg S.size hr) f m h am lm todo done hist t L L2 S fun m' t' h' hle hT hW hK=>hq m' t' h' a w hle hT hW hd hK,fun j hj=>?_⟩
  obtain ⟨hju,x,hx,hxi,hxo,hpre⟩:=S.ready hfl hj
  have hjlt:j < ops.size:=(Array.getElem?_eq_some_iff.1 hxo).1
  have hleft:left ops (listed.setIfInBounds j true) ≤ fuel:=by
   have:=left_lt hjlt S.size (getD_false hju)
   omega
  have hsame:∀ y ∈ infos P ops,y.i = j → y = x:=fun y hy hyi=>wE hy hx (by rw [hyi,hxi])
  unfold wpOpIn
  rw [hxo]
  simp only
  subst hxi
  by_cases hfb:fl.testBit x.i = true
  ·-- a variable that the evaluator makes later
   have hcand:=(hfl x hx hfb).1
   obtain ⟨⟨el,z,ho,hz⟩,hg,hpre0⟩:=lL hcand
   have hwant:Region.wanted x.o (yielded ops a.tmps) = true:=by simp [Region.wanted,hg]
   rw [hwant]
   simp only [if_true]
   refine value_wp (var_run ho hz a.eval w) (fun c hc=>by rw [ho] at hc; cases hc) ?_
   obtain ⟨hlu,hno⟩:=S.unlisted hju
   have hxt:x ∈ todo:=by
    rcases S.inv.cover x.i hlu with ⟨q,h1,h2⟩|⟨y,h1,h2⟩
    ·have h3:=hsame _ (S.inv.lop q h1) h2
     have h4:=cand_w hx hcand
     rw [← h3] at h4
     cases h4
    ·have h3:=hsame y (S.inv.top y h1) h2
     subst h3
     exact h1
   have hBlt:∀ q ∈ L2,q.B < w.heap.size:=fun q hq=>(Array.getElem?_eq_some_iff.1 (S.wr.park q.B q.y (.inr ⟨q,hq,rfl,rfl⟩)).2.1).1
   refine ih _ _ _ m h am lm todo done hist t L (L2 ++ [⟨x,w.heap.size,.cells z.cells el⟩]) f ⟨S.wr.parked x _,S.inv,S.go,?_,by rw [Array.size_setIfInBounds]; exact S.size,fun k=>?_,fun q hq=>?_,fun q hq=>?_,fun q hq=>?_,?_,fun q hq=>?_⟩ hleft (by rw [put_defers]; exact hd) hq
   ·rw [puts_snoc,← S.act]
   ·rw [dO hju,S.list]
    simp only [List.mem_append,List.mem_singleton]
    constructor
    ·rintro ((h1|⟨q,h1,h2⟩)|h1)
     ·exact .inl h1
     ·exact .inr ⟨q,.inl h1,h2⟩
     ·exact .inr ⟨_,.inr rfl,h1⟩
    ·rintro (h1|⟨q,h1|rfl,h2⟩)
     ·exact .inl (.inl h1)
     ·exact .inl (.inr ⟨q,h1,h2⟩)
     ·exact .inr h2
   ·rcases List.mem_append.1 hq with hq|hq
    ·exact S.pT q hq
    ·rw [List.mem_singleton] at hq; subst hq; exact hxt
   ·rcases List.mem_append.1 hq with hq|hq
    ·exact S.pF q hq
    ·rw [List.mem_singleton] at hq; subst hq; exact hfb
   ·rcases List.mem_append.1 hq with hq|hq
    ·exact S.pO q hq
    ·rw [List.mem_singleton] at hq; subst hq; simp only [varObj,ho,hz]
   ·rw [List.pairwise_append]
    refine ⟨S.pN,by simp,fun p hp q hq=>?_⟩
    rw [List.mem_singleton] at hq
    subst hq
    exact ⟨hno p hp,by have:=hBlt p hp; show p.B ≠ w.heap.size; omega⟩
   ·rcases List.mem_append.1 hq with hq|hq
    ·exact S.pB q hq
    ·rw [List.mem_singleton] at hq
     subst hq
     intro y hy
     have:=(Array.getElem?_eq_some_iff.1 (S.wr.park w.heap.size y (.inl hy)).2.1).1
     omega
  ·have hfb:fl.testBit x.i = false:=by simpa using hfb
   obtain ⟨f1,m1,h1,am1,lm1,todo1,done1,hist1,t1,L1,L21,hle1,S1,hcase⟩:=catchup hfl hreg hx hpre f f m h am lm todo done hist t L L2 (Nat.le_refl _) S
   have hq:∀ m' t' h' a' w',M.le m1 m' → TR m' t' n a'.tmps → WR P m' w0 h' w' → a'.defers = ds → K t' h' = true → Q .normal a' w':=fun m' t' h' a' w' hle=>hq m' t' h' a' w' (M.le_trans hle1 hle)
   clear hle1
   obtain ⟨hlu,hno⟩:=S1.unlisted hju
   have I1:=S1.inv
   have hW:=S1.wr
   have hset:∀ k,(listed.setIfInBounds x.i true).getD k false = true ↔ (lm1.setIfInBounds x.i true).getD k false = true ∨ ∃ q ∈ L21,q.x.i = k:=fun k=>by
    rw [dO hju,dO hlu,S1.list]
    constructor
    ·rintro ((h1|h1)|h1)
     ·exact .inl (.inl h1)
     ·exact .inr h1
     ·exact .inl (.inr h1)
    ·rintro ((h1|h1)|h1)
     ·exact .inl (.inl h1)
     ·exact .inr h1
     ·exact .inl (.inr h1)
   by_cases hmem:∃ q ∈ L1,q.i = x.i
   ·clear hcase
    obtain ⟨q,hqL,hqi⟩:=hmem
    have hqx:(⟨q.i,q.o,false,q.pre⟩:Info) = x:=hsame _ (I1.lop q hqL) hqi
    subst hqx
    have hpre1:∀ k,q.pre.testBit k = true → lm1.getD k false = true:=fun k hk=>S1.lmOf (hpre k hk) fun p hp e=>by
     have:=S1.ppre hp hqL
     rw [e,hk] at this
     cases this
    have hapP:∀ p ∈ L21,q.o.apart ops p.x.o = true:=fun p hp =>
     kJ hreg (I1.lop q hqL) (S1.pI hp) (fun e=>hno p hp e.symm) (S1.ppre hp hqL) (by rw [(lL (S1.pC hfl hp)).2.2]; simp)
    have hagP:Agree ops q.o a am1:=by rw [S1.act]; exact wC hapP
    obtain ⟨A,B,rfl⟩:=List.append_of_mem hqL
    have hnd:=I1.lnd
    rw [List.pairwise_append] at hnd
    have hne:∀ r ∈ A,r.i ≠ q.i:=fun r hr=>hnd.2.2 r hr q (by simp)
    have hap:∀ r ∈ A,q.o.apart ops r.o = true:=by
     intro r hr
     have hrL:r ∈ A ++ q :: B:=by simp [hr]
     have hb1:q.pre.testBit r.i = false:=by
      cases hb:q.pre.testBit r.i with
      | false=>rfl
      | true=>exact (fD (I1.lU r hrL) (hpre1 _ hb)).elim
     have hb2:r.pre.testBit q.i = false:=by
      cases hb:r.pre.testBit q.i with
      | false=>rfl
      | true =>
       obtain ⟨A1,A2,rfl⟩:=List.append_of_mem hr
       rcases I1.ord A1 r (A2 ++ q :: B) (by simp) _ hb with h3|⟨p,h3,h4⟩
       ·exact (fD (I1.lU q hqL) h3).elim
       ·exact absurd h4 (hne p (by simp [h3]))
     exact kJ hreg (I1.lop q hqL) (I1.lop r hrL) (fun e=>hne r hr e.symm) hb1 hb2
    obtain ⟨b,hb1,hb2,hb3⟩:=Lag.at hap (fun r hr=>I1.hval hW r (by simp [hr])) I1.lag
    have hba:Agree ops q.o b a:=hb2.trans hagP.symm
    have hwant:Region.wanted q.o (yielded ops a.tmps) = q.wants:=by rw [← hba.wanted]; exact hb3
    have hgo:∀ v',VR m1 q.v v' → wpAnyIn (FW rd) nn P .any ops Q fuel (listed.setIfInBounds q.i true) (a.put q.o.dst v') w:=fun v' hv=>by
     have I2:=I1.out hpre1 hap hv
     exact ih _ _ _ m1 h1 _ _ todo1 done1 hist1 t1 _ L21 f1 ⟨hW,I2,S1.go,by rw [S1.act]; exact sS hapP,by rw [Array.size_setIfInBounds]; exact S1.size,hset,S1.pT,S1.pF,S1.pO,S1.pN,S1.pB⟩ hleft (by rw [put_defers]; exact hd) hq
    rw [hwant]
    cases hqw:q.wants with
    | true =>
     simp only [if_true]
     obtain ⟨h1,_⟩:=I1.seen q hqL hqw
     obtain ⟨v',hrun,hv⟩:=aread_rel hW hb1 h1
     rw [hba.op (not_select_read h1)] at hrun
     exact read_wp hrun (sO h1) (hgo v' hv)
    | false =>
     simp only [Bool.false_eq_true,if_false]
     exact ⟨fun _ _=>trivial,hgo undef (by rw [I1.lund q hqL hqw]; exact fC m1)⟩
   ·obtain ⟨hp,hpre1⟩:=hcase.resolve_left hmem
    obtain ⟨x',hxt,hxi'⟩:=(I1.cover x.i hlu).resolve_left hmem
    have hxx:=hsame x' (I1.top x' hxt) hxi'
    subst hxx
    clear hxi'
    have hxw:x'.w = true:=by
     cases hw:x'.w with
     | true=>rfl
     | false=>exact absurd (land_pre' fun k hk=>(I1.bits k).2 (.inl (hpre1 k hk))) (pickR_none hp x' hxt hw)
    have hnp:∀ p ∈ L21,x'.pre.testBit p.x.i = false:=fun p hp=>by
     cases hb:x'.pre.testBit p.x.i with
     | false=>rfl
     | true=>exact (fD (I1.tU _ (S1.pT p hp)) (hpre1 _ hb)).elim
    have hapP:∀ p ∈ L21,x'.o.apart ops p.x.o = true:=fun p hp =>
     kJ hreg hx (S1.pI hp) (fun e=>hno p hp e.symm) (hnp p hp) (by rw [(lL (S1.pC hfl hp)).2.2]; simp)
    have hagP:Agree ops x'.o a am1:=by rw [S1.act]; exact wC hapP
    have e1:=S1.go
    cases f1 with
    | zero=>cases e1
    | succ f1 =>
     simp only [bQ] at e1
     rw [hp] at e1
     simp only at e1
     obtain ⟨A,B,htodo⟩:=List.append_of_mem hxt
     have hmemW:(x',A ++ B) ∈ chosen fl (dN done1 todo1):=by
      refine chosen_mem ?_ hfb
      rw [htodo]
      exact wW hxw (land_pre' fun k hk=>(I1.bits k).2 (.inl (hpre1 k hk)))
     split at e1
     ·rename_i hwr
      rw [hwr] at hmemW
      cases hmemW
     ·rename_i p ps hwr
      rw [hwr] at hmemW
      have e1:=allB_mem e1 _ hmemW
      simp only at e1
      have hap:∀ q ∈ L1,x'.o.apart ops q.o = true:=by
       intro q hqL
       have hb1:x'.pre.testBit q.i = false:=by
        cases hb:x'.pre.testBit q.i with
        | false=>rfl
        | true=>exact (fD (I1.lU q hqL) (hpre1 _ hb)).elim
       have hb2:q.pre.testBit x'.i = false:=by
        cases hb:q.pre.testBit x'.i with
        | false=>rfl
        | true =>
         obtain ⟨A1,A2,hA⟩:=List.append_of_mem hqL
         rcases I1.ord A1 q A2 hA _ hb with h3|⟨p,h3,h4⟩
         ·exact (fD (I1.tU x' hxt) h3).elim
         ·exact absurd h4 (I1.tL x' hxt p (by rw [hA]; simp [h3]))
       exact kJ hreg hx (I1.lop q hqL) (fun e=>I1.tL x' hxt q hqL e.symm) hb1 hb2
      have hpT:∀ q ∈ L21,q.x ∈ A ++ B:=fun q hq=>by
       have h2:=S1.pT q hq
       rw [htodo] at h2
       simp only [List.mem_append,List.mem_cons] at h2 ⊢
       rcases h2 with h2|h2|h2
       ·exact .inl h2
       ·exact absurd (congrArg Info.i h2) (hno q hq)
       ·exact .inr h2
      obtain ⟨c,hc,hag⟩:=Lag.reach hap (I1.hval hW) I1.lag
      have hag:=hag.trans hagP.symm
      split at e1
      ·cases e1
      ·rename_i hw
       have hwant:Region.wanted x'.o (yielded ops a.tmps) = false:=by rw [← hag.wanted]; exact sK hc hw
       rw [hwant]
       simp only [Bool.false_eq_true,if_false]
       obtain ⟨t',e',hpt⟩:=mO e1
       rw [bP] at e'
       have I2:=I1.wr htodo hpre1 hap (M.le_refl m1) (fun q hq hqw=>(I1.seen q hq hqw).1) hpt (fC m1)
       exact ⟨fun _ _=>trivial,ih _ _ _ m1 h1 _ _ _ _ hist1 t' L1 L21 f1 ⟨hW,I2,e',by rw [S1.act]; exact sS hapP,by rw [Array.size_setIfInBounds]; exact S1.size,hset,hpT,S1.pF,S1.pO,S1.pN,S1.pB⟩ hleft (by rw [put_defers]; exact hd) hq⟩
      ·rename_i hw
       have hwant:Region.wanted x'.o (yielded ops a.tmps) = true:=by rw [← hag.wanted]; exact sK hc hw
       rw [hwant]
       simp only [if_true]
       simp only [jV,hfb,cond_false] at e1
       refine awriteA_wp2 hcall hW hc hag e1 fun m' v v' h' w' hle hv hW' hK=>?_
       cases hagn:again P h' x'.pre hist1 with
       | false=>rw [hagn] at hK; cases hK
       | true =>
        rw [hagn,cond_true] at hK
        obtain ⟨t',e',hpt⟩:=mO hK
        rw [bP] at e'
        have hst:∀ q ∈ L1,q.wants = true → dE P q.t h' q.o = some q.v:=by
         intro q hqL hqw
         obtain ⟨h4,h5⟩:=I1.seen q hqL hqw
         rcases wB hagn _ h5 with h6|h6|h6
         ·rw [← aread_still h1 h' h6]; exact h4
         ·exact (fD (I1.lU q hqL) (hpre1 _ h6)).elim
         ·exact h6
        have I2:=I1.wr htodo hpre1 hap hle hst hpt hv
        exact ih _ _ _ m' h' _ _ _ _ hist1 t' L1 L21 f1 ⟨hW',I2,e',by rw [S1.act]; exact sS hapP,by rw [Array.size_setIfInBounds]; exact S1.size,hset,hpT,S1.pF,S1.pO,S1.pN,S1.pB⟩ hleft (by rw [put_defers]; exact hd) (fun m2 t2 h2 a2 w2 hle2=>hq m2 t2 h2 a2 w2 (M.le_trans hle hle2))

theorem joinK_eq (many:Bool) (K:T Value → AHeap → Bool):joinK many K = K:=by
 cases many with
 | false=>rfl
 | true=>funext t h; simp only [joinK,cond_true,fT_eq,bP]; cases K t h<;>rfl

theorem left_start:left ops (Array.replicate ops.size false) ≤ ops.size:=by
 unfold left
 have:=List.countP_le_length (p:=fun i=>!((Array.replicate ops.size false).getD i false)) (l:=List.range ops.size)
 simpa using this

theorem drawSound (hm:P.follows .mixedOrders = true):pY P:=by
 intro call hcall ops n t h K m w0 w a rd nn Q hW hT e hq tt
 unfold iC at e
 rw [cond_true] at e
 cases hreg:nC P ops with
 | false=>rw [hreg] at e; cases e
 | true =>
  rw [hreg,cond_true] at e
  simp only [Region.schedule,hm,Bool.true_or,if_true]
  obtain ⟨fl,ids,h2,hfl,hW2,e2⟩:∃ fl ids h2,mD P ops fl ∧ WR P m w0 h2 w ∧ bQ P call ops n fl ids (Nat.succ ops.size) (infos P ops) 0 [] t h2 K = true:=by
   cases hmw:manyW P ops with
   | false=>rw [hmw,cond_false] at e; exact ⟨0,_,_,floatOk_zero P ops,hW,e⟩
   | true =>
    rw [hmw,cond_true,bP] at e
    simp only [joinK_eq] at e
    obtain ⟨ids,h2,k1,k2⟩:=resGo_rel _ hW e
    exact ⟨_,ids,h2,floatOk_floats P ops,k1,k2⟩
  clear e hW
  have hf:∀ i:Nat,(Array.replicate ops.size false).getD i false = false:=fun i=>by
   rw [Array.getD_eq_getD_getElem?,Array.getElem?_replicate]
   split<;>rfl
  have hself:∀ x ∈ infos P ops,x.i < ops.size:=fun x hx=>(Array.getElem?_eq_some_iff.1 (fO (jH hx)).1).1
  have ht:∀ i:Nat,(Array.replicate ops.size false).getD i true = false ↔ i < ops.size:=fun i=>by
   rw [Array.getD_eq_getD_getElem?,Array.getElem?_replicate]
   split<;>simp_all
  have I:Inv P ops n h2 m a (Array.replicate ops.size false) (infos P ops) 0 [] t []:={
   sz:=by simp
   closed:=fun i hi=>by rw [hf i] at hi; cases hi
   bits:=fun k=>by simp [hf k]
   lU:=fun q hq=>by cases hq
   lnd:=.nil
   tU:=fun x hx=>(ht x.i).2 (hself x hx)
   tL:=fun x _ q hq=>by cases hq
   tnd:=by
    rw [List.pairwise_iff_getElem]
    intro i j hi hj hij
    have h1:=(fO (List.getElem?_eq_getElem hi)).2.1
    have h2:=(fO (List.getElem?_eq_getElem hj)).2.1
    rw [h1,h2]
    omega
   cover:=fun i hi=>by
    have hlt:=(ht i).1 hi
    obtain ⟨x,hx⟩:=qV (P:=P) (Array.getElem?_eq_getElem hlt)
    exact .inr ⟨x,List.mem_of_getElem? hx,(fO hx).2.1⟩
   lop:=fun q hq=>by cases hq
   lund:=fun q hq=>by cases hq
   top:=fun x hx=>hx
   ord:=fun A q B hL=>by simp at hL
   seen:=fun q hq=>by cases hq
   lag:=hT }
  exact wpAnyIn_sound ops.size tt _ a w (draw_wp hcall hfl hreg a.defers ops.size _ a w m h2 a _ _ 0 [] t [] [] _
   ⟨hW2.add_nil,I,e2,rfl,by simp,fun k=>by simp,fun q hq=>(by cases hq),fun q hq=>(by cases hq),fun q hq=>(by cases hq),.nil,fun q hq=>(by cases hq)⟩ left_start rfl hq)

end
end Go.Ev

/- A closed call that the evaluator finds true. -/
namespace Go.Ev
open Go.RowKit

theorem wr_start {P:Program} {w:World} (hw:P.globals.size ≤ w.heap.size):WR P ⟨fun g=>if g < P.globals.size then some (g,0) else none,fun _=>none⟩ (base w) ⟨.leaf,P.globals.size,.leaf⟩ w where
 obj:=fun b o e=>by simp [T.get] at e
 fresh:=fun b hb=>⟨by simp; omega,by simp [T.get]⟩
 spn:=fun _ _=>rfl
 spf:=fun _ _ _ _ _=>rfl
 spr:=fun b B d z E _ h=>by cases h
 dom:=fun b B d h=>by
  simp only at h
  split at h
  ·cases h; omega
  ·cases h
 apart:=fun b₁ b₂ o₁ o₂ B d₁ d₂ h=>by simp [T.get] at h
 kin:=fun b c f h=>by simp [T.get] at h
 fam:=fun b c f ro h=>by simp [T.get] at h
 below:=Below.refl _ _
 glob:=fun g hg=>by simp [hg]
 res:=fun r e=>by simp [T.get] at e
 park:=fun _ _ e=>e.elim

end Go.Ev

/- Twins of the evaluator that the kernel reckons faster: what hangs on the code alone is a closed term of a structure, whose normal form the kernel keeps. -/
namespace Go.Ev

structure GW (α:Type) where
 run:T α → Option α

def getC (α:Type):Nat → Nat → GW α
 | 0,_=>⟨fun _=>none⟩
 | Nat.succ f,k =>
  match k with
  | 0=>⟨fun t=>match t with | .leaf=>none | .node _ v _=>v⟩
  | Nat.succ k =>
   bif Nat.beq (Nat.mod k 2) 0 then ⟨fun t=>match t with | .leaf=>none | .node l _ _=>(getC α f (Nat.div k 2)).run l⟩
   else ⟨fun t=>match t with | .leaf=>none | .node _ _ r=>(getC α f (Nat.div k 2)).run r⟩

theorem getC_eq {α:Type}:∀ (f k:Nat) (t:T α),k < f → (getC α f k).run t = t.get k
 | 0,_,_,h=>absurd h (Nat.not_lt_zero _)
 | f + 1,0,t,_=>by cases t<;>simp [getC,T.get]
 | f + 1,k + 1,t,h=>by
  have h2:k / 2 < f:=by omega
  have ih:=fun (t:T α)=>getC_eq f (k / 2) t h2
  simp only [getC]
  cases hb:Nat.beq (Nat.mod k 2) 0 with
  | true =>
   simp only [cond_true]
   cases t with
   | leaf=>simp [T.get]
   | node l v r=>simp only [T.get,hb,cond_true]; exact ih l
  | false =>
   simp only [cond_false]
   cases t with
   | leaf=>simp [T.get]
   | node l v r=>simp only [T.get,hb,cond_false]; exact ih r

structure SW (α:Type) where
 run:T α → α → (T α → Bool) → Bool

def setC (α:Type):Nat → Nat → SW α
 | 0,_=>⟨fun t _ K=>K t⟩
 | Nat.succ f,k =>
  match k with
  | 0=>⟨fun t v K=>match t with | .leaf=>K (.node .leaf (some v) .leaf) | .node l _ r=>K (.node l (some v) r)⟩
  | Nat.succ k =>
   bif Nat.beq (Nat.mod k 2) 0 then
    ⟨fun t v K=>match t with
     | .leaf=>(setC α f (Nat.div k 2)).run .leaf v fun l=>K (.node l none .leaf)
     | .node l x r=>(setC α f (Nat.div k 2)).run l v fun l=>K (.node l x r)⟩
   else
    ⟨fun t v K=>match t with
     | .leaf=>(setC α f (Nat.div k 2)).run .leaf v fun r=>K (.node .leaf none r)
     | .node l x r=>(setC α f (Nat.div k 2)).run r v fun r=>K (.node l x r)⟩

theorem setC_eq {α:Type}:∀ (f k:Nat) (t:T α) (v:α) (K:T α → Bool),(setC α f k).run t v K = T.setK f t k v K
 | 0,_,_,_,_=>by simp [setC,T.setK]
 | f + 1,0,t,v,K=>by cases t<;>simp [setC,T.setK]
 | f + 1,k + 1,t,v,K=>by
  have ih:=fun t K=>setC_eq f (Nat.div k 2) t v K
  simp only [setC,T.setK]
  cases hb:Nat.beq (Nat.mod k 2) 0 with
  | true=>cases t<;>simp only [cond_true]<;>exact ih _ _
  | false=>cases t<;>simp only [cond_false]<;>exact ih _ _

/-! ## Operands -/
structure EW where
 run:T Value → Value

def evC (P:Program) (x:Operand):EW:=
 match x with
 | .tmp i=>⟨fun t=>match (getC Value (Nat.succ i) i).run t with|some v=>v|none=>undef⟩
 | .const v=>bif plainB v then ⟨fun _=>v⟩ else ⟨fun _=>bad⟩
 | .global g=>bif Nat.blt g P.globals.size then ⟨fun _=>.pointer (some ⟨g,0,none⟩)⟩ else ⟨fun _=>bad⟩
 | .func f=>⟨fun _=>.func (.func f) #[] #[]⟩

theorem wF (P:Program) (x:Operand) (t:T Value):(evC P x).run t = ev P t x:=by
 cases x with
 | tmp i =>
  simp only [evC,ev,tget,getC_eq (Nat.succ i) i t (Nat.lt_succ_self i)]
  cases t.get i<;>rfl
 | const v=>simp only [evC,ev]; cases plainB v<;>rfl
 | global g=>simp only [evC,ev]; cases Nat.blt g P.globals.size<;>rfl
 | func f=>rfl

structure LW where
 run:T Value → List Value

def evLC (P:Program):List Operand → LW
 | []=>⟨fun _=>[]⟩
 | x :: l=>⟨fun t=>(evC P x).run t :: (evLC P l).run t⟩

theorem evLC_eq (P:Program) (t:T Value):∀ l,(evLC P l).run t = evL P t l
 | []=>rfl
 | x :: l=>by simp only [evLC,evL,wF,evLC_eq P t l]

/-! ## Reads -/
structure RW where
 run:T Value → AHeap → Option Value

structure FB where
 run:IntKind → Int → Int → Option Value

def fastC (op:BinOp):FB:=
 match op with
 | .add=>⟨fun k a b=>some (.int k (o7 k (Int.add a b)))⟩
 | .sub=>⟨fun k a b=>some (.int k (o7 k (Int.sub a b)))⟩
 | .mul=>⟨fun k a b=>some (.int k (o7 k (Int.mul a b)))⟩
 | .eql=>⟨fun _ a b=>some (.bool (beqI a b))⟩
 | .neq=>⟨fun _ a b=>some (.bool (!(beqI a b)))⟩
 | .lss=>⟨fun _ a b=>some (.bool (!(leI b a)))⟩
 | .leq=>⟨fun _ a b=>some (.bool (leI a b))⟩
 | .gtr=>⟨fun _ a b=>some (.bool (!(leI a b)))⟩
 | .geq=>⟨fun _ a b=>some (.bool (leI b a))⟩
 | _=>⟨fun _ _ _=>none⟩

theorem fastC_eq (op:BinOp) (k:IntKind) (a b:Int):(fastC op).run k a b = iQ op k a b:=by cases op<;>rfl

def binC2 (P:Program) (t:T Value) (o:Oper) (op:BinOp) (k:IntKind) (a:Int):Value → Option Value
 | .int k' b=>bif beqKind k k' then (match (fastC op).run k a b with|some v=>some v|none=>rBin3 P t o (rU op k k' a b)) else rBin3 P t o (rU op k k' a b)
 | _=>none

def binC (P:Program) (t:T Value) (o:Oper) (op:BinOp) (ty:TypeId) (y:Value):Value → Option Value
 | .int k a=>binC2 P t o op k a y
 | x=>rBin2 P t o op (qH P ty x y)

theorem binC_eq (P:Program) (t:T Value) (o:Oper) (op:BinOp) (ty:TypeId) (x y:Value):binC P t o op ty y x = nV P t o op ty y x:=by
 unfold binC nV
 cases x<;>first|rfl|(unfold binC2 rBin1; cases y<;>first|rfl|(simp only [fastC_eq]; rfl))

def faddrC (fo:Nat):Value → Option Value
 | .pointer (some ⟨b,off,none⟩)=>some (.pointer (some ⟨b,Nat.add off fo,none⟩))
 | _=>none

def faddrW (P:Program) (x:Operand):Option (Nat × TypeId) → RW
 | some (fo,ft) =>
  match bH P ft with
  | some (Nat.succ _)=>⟨fun t _=>faddrC fo ((evC P x).run t)⟩
  | _=>⟨fun _ _=>none⟩
 | none=>⟨fun _ _=>none⟩

theorem faddrW_eq (P:Program) (s:TypeId) (x:Operand) (f:Nat) (t:T Value) (h:AHeap):(faddrW P x (bZ P s f)).run t h = fQ P s f (ev P t x):=by
 cases hf:bZ P s f with
 | none =>
  simp only [faddrW,fQ,hf]
  try (split<;>rfl)
 | some p =>
  obtain ⟨fo,ft⟩:=p
  cases hs:bH P ft with
  | none =>
   simp only [faddrW,fQ,hf,hs]
   try (split<;>rfl)
  | some k =>
   cases k with
   | zero =>
    simp only [faddrW,fQ,hf,hs]
    try (split<;>rfl)
   | succ k =>
    simp only [faddrW,fQ,hf,hs,wF]
    generalize ev P t x = v
    cases v<;>rfl

/-! ## Rows of cells, walked no further than they must -/
def grab:List Value → Nat → Option (List Value)
 | _,0=>some []
 | [],Nat.succ _=>none
 | x :: l,Nat.succ n =>
  match grab l n with
  | some r=>some (x :: r)
  | none=>none
theorem grab_eq:∀ (l:List Value) (n:Nat),grab l n = bif Nat.ble n l.length then some (l.take n) else none
 | l,0=>by
  have:Nat.ble 0 l.length = true:=Nat.ble_eq_true_of_le (Nat.zero_le _)
  simp only [grab,this,cond_true,List.take_zero]
 | [],n + 1=>rfl
 | x :: l,n + 1=>by
  simp only [grab,grab_eq l n,List.length_cons,List.take_succ_cons]
  have:Nat.ble (n + 1) (l.length + 1) = Nat.ble n l.length:=rfl
  rw [this]
  cases Nat.ble n l.length<;>rfl

structure PLW where
 run:List Value → Nat → Option Value
def partW (P:Program) (ty:TypeId):PLW:=
 match P.underlying ty,P.info? ty with
 | some d,some i =>
  bif isAggB d then
   match i.size with
   | 0=>⟨fun c off=>dD P ty c off⟩
   | Nat.succ n=>⟨fun c off=>match grab (c.drop off) (Nat.succ n) with|some r=>some (.agg ⟨r⟩)|none=>none⟩
  else ⟨fun c off=>c[off]?⟩
 | _,_=>⟨fun _ _=>none⟩
theorem partW_eq (P:Program) (ty:TypeId) (c:List Value) (off:Nat):(partW P ty).run c off = dD P ty c off:=by
 unfold partW
 cases hd:P.underlying ty with
 | none=>simp only [dD,hd]
 | some d =>
  cases hi:P.info? ty with
  | none=>simp only [dD,hd,hi]
  | some i =>
   simp only
   cases ha:isAggB d with
   | false=>simp only [dD,hd,hi,ha,cond_false]
   | true =>
    simp only [cond_true]
    cases hz:i.size with
    | zero=>rfl
    | succ n =>
     simp only [dD,hd,hi,ha,cond_true,hz,grab_eq,List.length_drop]
     have:Nat.ble (Nat.succ n) (c.length - off) = Nat.ble (Nat.add off (n + 1)) c.length:=by
      rw [Bool.eq_iff_iff,Nat.ble_eq,Nat.ble_eq]
      show n + 1 ≤ c.length - off ↔ off + (n + 1) ≤ c.length
      omega
     rw [this]
     cases Nat.ble (Nat.add off (n + 1)) c.length<;>rfl

def loadF (w:PLW) (h:AHeap):Value → Option Value
 | .pointer (some ⟨b,off,none⟩) =>
  match cellsOf (h.bl.get b) with
  | some c=>w.run c off
  | none=>none
 | _=>none
theorem loadF_eq (P:Program) (ty:TypeId) (h:AHeap) (v:Value):loadF (partW P ty) h v = rLoad P h ty v:=by
 unfold loadF rLoad
 simp only [partW_eq]
 first|rfl|(split<;>first|rfl|(split<;>rfl))

def overK:List Value → List Value → (List Value → Bool) → Bool
 | c,[],K=>K c
 | [],_ :: _,_=>false
 | _ :: c,v :: n,K=>overK c n fun l=>K (v :: l)
def spliceK:List Value → Nat → List Value → (List Value → Bool) → Bool
 | c,0,n,K=>overK c n K
 | [],Nat.succ _,_,_=>false
 | x :: c,Nat.succ k,n,K=>spliceK c k n fun l=>K (x :: l)
theorem overK_eq:∀ (c n:List Value) (K:List Value → Bool),overK c n K = bif Nat.ble n.length c.length then K (spliceL c 0 n) else false
 | c,[],K=>by cases c<;>rfl
 | [],_ :: _,K=>rfl
 | x :: c,v :: n,K=>by
  simp only [overK,overK_eq c n,List.length_cons,spliceL]
  rfl
theorem spliceK_eq:∀ (c:List Value) (k:Nat) (v:Value) (n:List Value) (K:List Value → Bool),spliceK c k (v :: n) K = bif Nat.ble (Nat.add k (v :: n).length) c.length then K (spliceL c k (v :: n)) else false
 | c,0,v,n,K=>by
  simp only [spliceK,overK_eq]
  rw [show Nat.add 0 (v :: n).length = (v :: n).length from Nat.zero_add _]
 | [],k + 1,v,n,K=>by
  simp only [spliceK]
  have:Nat.ble (Nat.add (k + 1) (v :: n).length) ([]:List Value).length = false:=by
   cases h:Nat.ble (Nat.add (k + 1) (v :: n).length) ([]:List Value).length with
   | false=>rfl
   | true=>have:=Nat.le_of_ble_eq_true h; simp at this
  rw [this]; rfl
 | x :: c,k + 1,v,n,K=>by
  simp only [spliceK,spliceK_eq c k v n,List.length_cons,spliceL]
  have:Nat.ble (Nat.add (k + 1) (n.length + 1)) (c.length + 1) = Nat.ble (Nat.add k (n.length + 1)) c.length:=by
   rw [Bool.eq_iff_iff,Nat.ble_eq,Nat.ble_eq]
   show k + 1 + (n.length + 1) ≤ c.length + 1 ↔ k + (n.length + 1) ≤ c.length
   omega
  rw [this]

def storeF (h:AHeap) (b off:Nat) (new:List Value) (K:AHeap → Bool):Bool:=
 match new with
 | []=>K h
 | v :: l =>
  match h.bl.get b with
  | some (.cells c fam false) =>
   spliceK c off (v :: l) fun c' =>
   match h.fams.get fam with
   | some [_]=>T.setK (Nat.succ b) h.bl b (.cells c' fam false) fun bl=>K ⟨bl,h.nx,h.fams⟩
   | some l =>
    kQ l b h.bl fun bl =>
    T.setK (Nat.succ b) bl b (.cells c' fam false) fun bl =>
    T.setK (Nat.succ fam) h.fams fam [b] fun fams=>K ⟨bl,h.nx,fams⟩
   | none=>false
  | _=>false
theorem storeF_eq (h:AHeap) (b off:Nat) (new:List Value) (K:AHeap → Bool):storeF h b off new K = gY h b off new K:=by
 unfold storeF gY
 cases new with
 | nil=>rfl
 | cons v l =>
  simp only
  cases hg:h.bl.get b with
  | none=>rfl
  | some o =>
   cases o with
   | cells c fam ro =>
    cases ro with
    | true=>rfl
    | false =>
     simp only [spliceK_eq,jC,dJ]
     cases h.fams.get fam with
     | none=>rfl
     | some l =>
      match l with
      | []=>rfl
      | [_]=>rfl
      | _ :: _ :: _=>rfl
   | _=>rfl

def lenIs:List Value → Nat → Bool
 | [],0=>true
 | _ :: l,Nat.succ n=>lenIs l n
 | _,_=>false
theorem lenIs_eq:∀ (l:List Value) (n:Nat),lenIs l n = Nat.beq l.length n
 | [],0=>rfl
 | [],_ + 1=>rfl
 | _ :: _,0=>rfl
 | _ :: l,n + 1=>by simp only [lenIs,lenIs_eq l n,List.length_cons]; rfl

def wY (h:AHeap) (x:Value) (K:KV):Option Nat → Value → Bool
 | some sz,.pointer (some ⟨b,off,none⟩)=>bif okV x && lenIs x.cells.toList sz then storeF h b off x.cells.toList fun h=>K undef h else false
 | _,_=>false
theorem wStoreF_eq (P:Program) (h:AHeap) (ty:TypeId) (x:Value) (K:KV) (v:Value):wY h x K (bH P ty) v = mW P h ty x K v:=by
 cases v with
 | pointer a =>
  cases a with
  | none=>cases bH P ty<;>rfl
  | some a =>
   obtain ⟨b,off,sp⟩:=a
   cases sp with
   | none =>
    cases hs:bH P ty with
    | none=>simp only [wY,mW,hs]
    | some sz=>simp only [wY,mW,hs,storeF_eq,lenIs_eq,Array.length_toList]
   | some _=>cases bH P ty<;>rfl
 | _=>cases bH P ty<;>rfl

def loadW (w:PLW) (e:EW):RW:=⟨fun t h=>loadF w h (e.run t)⟩

def areadC (P:Program) (o:Oper):RW:=
 match o.op with
 | .move x=>⟨fun t _=>some ((evC P x).run t)⟩
 | .assign x=>⟨fun t _=>some ((evC P x).run t)⟩
 | .pick c a b=>⟨fun t _=>rPick ((evC P a).run t) ((evC P b).run t) ((evC P c).run t)⟩
 | .load ty a=>loadW (partW P ty) (evC P a)
 | .fieldAddr s x f=>faddrW P x (bZ P s f)
 | .indexAddr ty x ix=>⟨fun t _=>bY P ty ((evC P x).run t) ((evC P ix).run t)⟩
 | .extract x i=>⟨fun t _=>pG i ((evC P x).run t)⟩
 | .binOp op ty x y _=>⟨fun t _=>binC P t o op ty ((evC P y).run t) ((evC P x).run t)⟩
 | .unOp op _ x=>⟨fun t _=>rUn P t o op ((evC P x).run t)⟩
 | .index ty x ix=>⟨fun t _=>vV P t o ty ((evC P ix).run t) ((evC P x).run t)⟩
 | .call c=>⟨fun t h=>rCall P t h o c⟩
 | _=>⟨fun t h=>dE P t h o⟩

theorem areadC_eq (P:Program) (o:Oper) (t:T Value) (h:AHeap):(areadC P o).run t h = dE P t h o:=by
 unfold areadC
 split<;>rename_i ho<;>try rfl
 all_goals simp only [dE,ho,wF,binC_eq,faddrW_eq,loadW,loadF_eq]

/-! ## Writes -/
structure WW where
 run:CallT → T Value → AHeap → KV → Bool

def allocW:Option Value → WW
 | some z=>⟨fun _ _ h K=>newC h z.cells.toList (ptrK K)⟩
 | none=>⟨fun _ _ _ _=>false⟩

def callW (P:Program) (o:Oper) (c:Call):WW:=
 match c.callee with
 | .value f=>⟨fun call t h K=>call ((evC P f).run t) ((evLC P c.args.toList).run t) h K⟩
 | _=>⟨fun call t h K=>bI P call t h o K⟩

def storeW (sz:Option Nat) (a x:EW):WW:=
 match sz with
 | none=>⟨fun _ _ _ _=>false⟩
 | some n=>⟨fun _ t h K=>wY h (x.run t) K (some n) (a.run t)⟩

def wZ (P:Program) (o:Oper):WW:=
 match o.op with
 | .alloc e=>allocW (zeroOf P e)
 | .box _ x=>⟨fun _ t h K=>wBox h ((evC P x).run t) K⟩
 | .store ty a x=>storeW (bH P ty) (evC P a) (evC P x)
 | .call c=>callW P o c
 | _=>⟨fun call t h K=>bI P call t h o K⟩

theorem awriteC_eq (P:Program) (o:Oper) (call:CallT) (t:T Value) (h:AHeap) (K:KV):(wZ P o).run call t h K = bI P call t h o K:=by
 unfold wZ
 split<;>rename_i ho<;>try rfl
 ·simp only [bI,ho,wAlloc]
  cases zeroOf P _<;>rfl
 ·simp only [bI,ho,wF]
 ·rename_i ty a x
  simp only [bI,ho]
  rw [← wStoreF_eq]
  cases bH P ty with
  | none=>simp only [storeW,wY]
  | some n=>simp only [storeW,wF]
 ·unfold callW
  split
  ·rename_i hc
   simp only [bI,ho,kR,hc,wF,evLC_eq]
  ·rfl

/-! ## Regions -/
structure PW where
 run:Nat → T Value → Value → (T Value → Bool) → Bool

def putC (dst:Option Tmp):PW:=
 match dst with
 | none=>⟨fun _ t _ K=>K t⟩
 | some d=>⟨fun n t v K=>bif Nat.blt d n then fV1 v fun v=>(setC Value (Nat.succ d) d).run t v K else false⟩

theorem uP (dst:Option Tmp) (n:Nat) (t:T Value) (v:Value) (K:T Value → Bool):(putC dst).run n t v K = iV t n dst v K:=by
 cases dst with
 | none=>rfl
 | some d=>simp only [putC,iV,setC_eq]

structure OW where
 run:CallT → Nat → T Value → AHeap → (T Value → AHeap → Bool) → Bool

def readGo (o:Oper) (n:Nat) (t:T Value) (h:AHeap) (K:T Value → AHeap → Bool):Option Value → Bool
 | none=>false
 | some v=>(putC o.dst).run n t v fun t=>K t h

def opGo (P:Program) (o:Oper):OW:=
 bif isW P o.op then ⟨fun call n t h K=>(wZ P o).run call t h fun v h=>(putC o.dst).run n t v fun t=>K t h⟩
 else ⟨fun _ n t h K=>readGo o n t h K ((areadC P o).run t h)⟩

def opG (ops:Array Oper) (o:Oper) (w:OW):OW:=
 ⟨fun call n t h K =>
  match fB t ops o.guard with
  | none=>false
  | some false=>(putC o.dst).run n t undef fun t=>K t h
  | some true=>w.run call n t h K⟩

def opC (P:Program) (ops:Array Oper) (o:Oper):OW:=
 match o.guard with
 | none=>opGo P o
 | some _=>opG ops o (opGo P o)

def opsC (P:Program) (ops:Array Oper):List Oper → OW
 | []=>⟨fun _ _ t h K=>K t h⟩
 | o :: rest=>⟨fun call n t h K=>(opC P ops o).run call n t h fun t h=>(opsC P ops rest).run call n t h K⟩

theorem opGo_eq (P:Program) (o:Oper) (call:CallT) (n:Nat) (t:T Value) (h:AHeap) (K:T Value → AHeap → Bool) :
  (opGo P o).run call n t h K = bif isW P o.op then bI P call t h o fun v h=>iV t n o.dst v fun t=>K t h
   else match dE P t h o with|none=>false|some v=>iV t n o.dst v fun t=>K t h:=by
 unfold opGo
 cases isW P o.op with
 | true=>simp only [cond_true,awriteC_eq,uP]
 | false =>
  simp only [cond_false,areadC_eq]
  unfold readGo
  cases dE P t h o<;>simp only [uP]

theorem opsC_eq (P:Program) (ops:Array Oper) (call:CallT) (n:Nat) (K:T Value → AHeap → Bool):∀ (l:List Oper) (t:T Value) (h:AHeap),(opsC P ops l).run call n t h K = jP P call ops n l t h K
 | [],t,h=>rfl
 | o :: rest,t,h=>by
  have ih:=opsC_eq P ops call n K rest
  simp only [opsC,jP,ih]
  unfold opC
  cases hg:o.guard with
  | none =>
   simp only [opGo_eq,fB]
   cases isW P o.op<;>cases dE P t h o<;>rfl
  | some g =>
   simp only [opG,hg,opGo_eq,uP]
   cases fB t ops (some g) with
   | none=>rfl
   | some b=>cases b<;>rfl

/-! ## Regions that draw their order -/
def againC (P:Program) (h:AHeap) (pre:Nat):List Seen → Bool
 | []=>true
 | s :: l =>
  (!(isReadOp s.o.op) || Nat.testBit pre s.i ||
   (match (areadC P s.o).run s.t h with|some v=>veq v s.v|none=>false)) && againC P h pre l

theorem againC_eq (P:Program) (h:AHeap) (pre:Nat):∀ l,againC P h pre l = again P h pre l
 | []=>rfl
 | s :: l=>by
  simp only [againC,again,areadC_eq,againC_eq P h pre l]
  cases dE P s.t h s.o<;>rfl

structure AW where
 run:CallT → T Value → AHeap → Option Nat → KV → Bool

def xA (P:Program) (o:Oper):AW:=
 match o.op with
 | .alloc e=>⟨fun call t h id K=>match id with|none=>(wZ P o).run call t h K|some r=>pJ P h e r K⟩
 | _=>⟨fun call t h id K=>match id with|none=>(wZ P o).run call t h K|some _=>false⟩

theorem awriteAC_eq (P:Program) (o:Oper) (call:CallT) (t:T Value) (h:AHeap) (id:Option Nat) (K:KV):(xA P o).run call t h id K = jU P call t h o id K:=by
 unfold xA jU
 cases id with
 | none=>split<;>exact awriteC_eq P o call t h K
 | some r=>cases o.op<;>rfl

structure DW where
 run:CallT → Nat → List (Nat × Nat) → List Seen → T Value → AHeap → (T Value → AHeap → Bool) → Bool

def drawR (P:Program) (ops:Array Oper) (a:Info) (next:DW):DW:=
 ⟨fun call n ids hist t h K =>
  match fB t ops a.o.guard with
  | none=>false
  | some false=>(putC a.o.dst).run n t undef fun t=>next.run call n ids hist t h K
  | some true =>
   match (areadC P a.o).run t h with
   | none=>false
   | some v=>fV1 v fun v=>(putC a.o.dst).run n t v fun t'=>next.run call n ids ({ i:=a.i,o:=a.o,t:=t,v:=v } :: hist) t' h K⟩

def drawW1 (P:Program) (ops:Array Oper) (a:Info) (next:DW):DW:=
 ⟨fun call n ids hist t h K =>
  match fB t ops a.o.guard with
  | none=>false
  | some false=>(putC a.o.dst).run n t undef fun t=>next.run call n ids hist t h K
  | some true =>
   (xA P a.o).run call t h (idAt ids a.i) fun v h'=>bif againC P h' a.pre hist then
    (putC a.o.dst).run n t v fun t=>next.run call n ids hist t h' K
   else false⟩

/-- The same of a variable that is made last. -/
def drawW2 (P:Program) (ops:Array Oper) (a:Info) (next:DW):DW:=
 ⟨fun call n ids hist t h K =>
  match fB t ops a.o.guard with
  | none=>false
  | some false=>(putC a.o.dst).run n t undef fun t=>next.run call n ids hist t h K
  | some true =>
   match idAt ids a.i with
   | none=>false
   | some r =>
    (xA P a.o).run call t h (some r) fun v h'=>bif againC P h' a.pre hist then
     (putC a.o.dst).run n t v fun t=>next.run call n ids hist t h' K
    else false⟩

def drawW (P:Program) (ops:Array Oper) (fl:Nat) (a:Info) (next:DW):DW:=bif Nat.testBit fl a.i then drawW2 P ops a next else drawW1 P ops a next

def allC:List DW → DW
 | []=>⟨fun _ _ _ _ _ _ _=>true⟩
 | a :: l =>
  match l with
  | []=>a
  | b :: r=>⟨fun call n ids hist t h K=>a.run call n ids hist t h K && (allC (b :: r)).run call n ids hist t h K⟩

theorem allC_eq {α:Type} (g:α → DW) (call:CallT) (n:Nat) (ids:List (Nat × Nat)) (hist:List Seen) (t:T Value) (h:AHeap) (K:T Value → AHeap → Bool):∀ l:List α,(allC (l.map g)).run call n ids hist t h K = allB l fun a=>(g a).run call n ids hist t h K
 | []=>rfl
 | [a]=>rfl
 | a :: b :: r=>by
  have:=allC_eq g call n ids hist t h K (b :: r)
  simp only [List.map_cons] at this ⊢
  simp only [allC,allB,this]

def drawC (P:Program) (ops:Array Oper) (fl:Nat):Nat → List Info → Nat → DW
 | 0,_,_=>⟨fun _ _ _ _ _ _ _=>false⟩
 | Nat.succ f,todo,done =>
  match iK done todo with
  | some (a,rest)=>drawR P ops a (jJ (Nat.lor done (Nat.pow 2 a.i)) fun done=>drawC P ops fl f rest done)
  | none =>
   match chosen fl (dN done todo) with
   | []=>(match todo with|[]=>⟨fun _ _ _ _ t h K=>K t h⟩|_=>⟨fun _ _ _ _ _ _ _=>false⟩)
   | p :: ps=>allC ((p :: ps).map fun ar=>drawW P ops fl ar.1 (jJ (Nat.lor done (Nat.pow 2 ar.1.i)) fun done=>drawC P ops fl f ar.2 done))

theorem drawC_eq (P:Program) (ops:Array Oper) (fl:Nat) (call:CallT) (n:Nat) (ids:List (Nat × Nat)) (K:T Value → AHeap → Bool):∀ (f:Nat) (todo:List Info) (done:Nat) (hist:List Seen) (t:T Value) (h:AHeap),
  (drawC P ops fl f todo done).run call n ids hist t h K = bQ P call ops n fl ids f todo done hist t h K
 | 0,_,_,_,_,_=>rfl
 | f + 1,todo,done,hist,t,h=>by
  have ih:=fun rest d hist t h=>drawC_eq P ops fl call n ids K f rest d hist t h
  simp only [drawC,bQ]
  cases iK done todo with
  | some x =>
   obtain ⟨a,rest⟩:=x
   simp only [drawR,bP,aZ,uP,areadC_eq,ih]
   cases fB t ops a.o.guard with
   | none=>rfl
   | some b=>cases b<;>rfl
  | none =>
   simp only
   cases chosen fl (dN done todo) with
   | nil=>cases todo<;>rfl
   | cons p ps =>
    simp only [allC_eq]
    congr 1
    funext ar
    cases hb:Nat.testBit fl ar.1.i with
    | false =>
     simp only [drawW,hb,cond_false,drawW1,jV,bP,uP,awriteAC_eq,againC_eq,ih]
     cases fB t ops ar.1.o.guard with
     | none=>rfl
     | some b=>cases b<;>rfl
    | true =>
     simp only [drawW,hb,cond_true,drawW2,jV,bP,uP,awriteAC_eq,againC_eq,ih]
     cases fB t ops ar.1.o.guard with
     | none=>rfl
     | some b =>
      cases b with
      | false=>rfl
      | true=>cases idAt ids ar.1.i<;>rfl

def xB (P:Program) (ops:Array Oper) (draw:Bool):OW:=
 match draw with
 | true =>
  bif nC P ops then
   bif manyW P ops then jJ (floats P ops) fun fl =>
    bif manyF P ops fl then ⟨fun call n t h K=>resGo (allocsOf ops.toList 0) h [] fun ids h=>(drawC P ops fl (Nat.succ ops.size) (infos P ops) 0).run call n ids [] t h (joinK true K)⟩
    else ⟨fun call n t h K=>resGo (allocsOf ops.toList 0) h [] fun ids h=>(drawC P ops fl (Nat.succ ops.size) (infos P ops) 0).run call n ids [] t h K⟩
   else ⟨fun call n t h K=>(drawC P ops 0 (Nat.succ ops.size) (infos P ops) 0).run call n [] [] t h K⟩
  else ⟨fun _ _ _ _ _=>false⟩
 | false=>opsC P ops ops.toList

theorem regionC_eq (P:Program) (ops:Array Oper) (draw:Bool) (call:CallT) (n:Nat) (t:T Value) (h:AHeap) (K:T Value → AHeap → Bool):(xB P ops draw).run call n t h K = iC P call ops draw n t h K:=by
 cases draw with
 | true =>
  simp only [xB,iC,cond_true]
  cases nC P ops with
  | true =>
   cases manyW P ops with
   | false=>simp only [cond_true,cond_false,drawC_eq]
   | true =>
    simp only [cond_true,bP]
    cases manyF P ops (floats P ops)<;>simp only [cond_true,cond_false,drawC_eq,joinK]
  | false=>rfl
 | false=>simp only [xB,iC,cond_false,opsC_eq]

/-! ## Code and calls -/
structure CW where
 run:ExT → List Value → AHeap → KV → Bool

def bodyC (P:Program) (fn:Func) (c:Code):CW:=
 bif fn.name == "runtime.NumGoroutine" then ⟨fun _ _ _ _=>false⟩
 else jJ fn.ntmps fun k=>⟨fun ex args h K=>bif Nat.ble args.length k then aX args 0 .leaf fun t=>ex k none c t h [] (finish P fn K) else false⟩

def callC (P:Program) (g:FuncId):CW:=
 match P.funcs[g]? with
 | none=>⟨fun _ _ _ _=>false⟩
 | some fn =>
  match fn.body with
  | some c=>bodyC P fn c
  | none=>⟨fun ex args h K=>dU P ex g args h K⟩

theorem callC_eq (P:Program) (g:FuncId) (ex:ExT) (args:List Value) (h:AHeap) (K:KV):(callC P g).run ex args h K = dU P ex g args h K:=by
 unfold callC
 cases hf:P.funcs[g]? with
 | none=>simp only [dU,hf]
 | some fn =>
  simp only
  cases hb:fn.body with
  | none=>rfl
  | some c =>
   simp only [dU,hf,hb]
   unfold iE bodyC
   cases (fn.name == "runtime.NumGoroutine") with
   | true=>rfl
   | false=>simp only [cond_false,bP]

def callValC (P:Program) (ex:ExT) (f:Value) (args:List Value) (h:AHeap) (K:Value → AHeap → Bool):Bool:=
 match f with
 | .func (.func g) first captured=>(callC P g).run ex (first.toList ++ args ++ captured.toList) h K
 | .func (.yield l) first _=>qL ex l (first.toList ++ args) h K
 | _=>false

theorem callValC_eq (P:Program) (ex:ExT):callValC P ex = cZ P ex:=by
 funext f args h K
 unfold callValC cZ
 split<;>simp only [callC_eq]

structure XW where
 run:ExT → Nat → Option Nat → T Value → AHeap → List Nat → KT → Bool

def stepC (P:Program) (c:Code):XW:=
 match c with
 | .skip=>⟨fun _ _ _ t h ds K=>K .normal t h ds⟩
 | .region _ ops draw=>⟨fun ex n _ t h ds K=>(xB P ops draw).run (callValC P ex) n t h fun t h=>K .normal t h ds⟩
 | .seq a b=>⟨fun ex n rd t h ds K=>ex n rd a t h ds fun e t h ds=>match e with | .normal=>ex n rd b t h ds K|e=>K e t h ds⟩
 | .cond x a b=>⟨fun ex n rd t h ds K =>
  match (evC P x).run t with
  | .bool true=>ex n rd a t h ds K
  | .bool false=>ex n rd b t h ds K
  | _=>false⟩
 | .loop b=>⟨fun ex n rd t h ds K=>ex n rd b t h ds fun e t h ds=>match e with | .normal=>ex n rd (.loop b) t h ds K|e=>K e t h ds⟩
 | .exit id=>⟨fun _ _ _ t h ds K=>K (.exit id) t h ds⟩
 | .ret=>⟨fun _ _ _ t h ds K=>K .ret t h ds⟩
 | c=>⟨fun ex n rd t h ds K=>eF P ex n rd c t h ds K⟩

theorem stepC_eq (P:Program) (c:Code) (ex:ExT) (n:Nat) (rd:Option Nat) (t:T Value) (h:AHeap) (ds:List Nat) (K:KT):(stepC P c).run ex n rd t h ds K = eF P ex n rd c t h ds K:=by
 cases c with
 | region id ops draw=>simp only [stepC,eF,regionC_eq,callValC_eq]
 | cond x a b =>
  simp only [stepC,eF,wF]
  rfl
 | _=>rfl

structure EXW where
 run:ExT

end Go.Ev

/- A run in parts: each part by a declaration of its own, from one written-out state to the next. -/
namespace Go.Ev
open Go.RowKit

/-! ## Equal states -/
def beqT {α:Type} (f:α → α → Bool):T α → T α → Bool
 | .leaf,.leaf=>true
 | .node l x r,.node l' x' r' =>
  beqT f l l' && ((match x,x' with|none,none=>true|some a,some b=>f a b|_,_=>false) && beqT f r r')
 | _,_=>false

def beqNL:List Nat → List Nat → Bool
 | [],[]=>true
 | a :: l,b :: r=>Nat.beq a b && beqNL l r
 | _,_=>false
theorem beqNL_eq:∀ (a b:List Nat),beqNL a b = true → a = b
 | [],[],_=>rfl
 | [],_ :: _,e=>by cases e
 | _ :: _,[],e=>by cases e
 | a :: l,b :: r,e=>by
  simp only [beqNL,Bool.and_eq_true] at e
  rw [Nat.eq_of_beq_eq_true e.1,beqNL_eq l r e.2]

def beqEL:List MapEntry → List MapEntry → Bool
 | [],[]=>true
 | a :: l,b :: r=>veq a.key b.key && (veq a.val b.val && (Nat.beq a.born b.born && beqEL l r))
 | _,_=>false
theorem beqEL_eq:∀ (a b:List MapEntry),beqEL a b = true → a = b
 | [],[],_=>rfl
 | [],_ :: _,e=>by cases e
 | _ :: _,[],e=>by cases e
 | ⟨k,v,n⟩ :: l,⟨k',v',n'⟩ :: r,e=>by
  simp only [beqEL,Bool.and_eq_true] at e
  have h1:=veq_eq _ _ e.1
  have h2:=veq_eq _ _ e.2.1
  have h3:=Nat.eq_of_beq_eq_true e.2.2.1
  rw [h1,h2,h3,beqEL_eq l r e.2.2.2]

def beqO:AObj → AObj → Bool
 | .cells c f ro,.cells c' f' ro'=>veqL c c' && (Nat.beq f f' && beqB ro ro')
 | .map es n,.map es' n'=>beqEL es es' && Nat.beq n n'
 | .deferred b,.deferred b'=>beqB b b'
 | .gone,.gone=>true
 | .tab c,.tab c'=>veqL c c'
 | _,_=>false
theorem beqO_eq (a b:AObj) (e:beqO a b = true):a = b:=by
 unfold beqO at e
 split at e
 ·simp only [Bool.and_eq_true] at e
  rw [veqL_eq _ _ e.1,Nat.eq_of_beq_eq_true e.2.1,beqB_eq e.2.2]
 ·simp only [Bool.and_eq_true] at e
  rw [beqEL_eq _ _ e.1,Nat.eq_of_beq_eq_true e.2]
 ·rw [beqB_eq e]
 ·rfl
 ·rw [veqL_eq _ _ e]
 ·cases e

/-- All that the first tree holds, the second holds. -/
def subT {α:Type} (f:α → α → Bool):T α → T α → Bool
 | .leaf,_=>true
 | .node l x r,.node l' x' r' =>
  subT f l l' && ((match x,x' with|none,_=>true|some a,some b=>f a b|_,_=>false) && subT f r r')
 | _,_=>false

theorem xC {α:Type} {f:α → α → Bool} (hf:∀ a b,f a b = true → a = b):∀ (s t:T α),subT f s t = true → ∀ k a,s.get k = some a → t.get k = some a
 | .leaf,_,_,k,a,h=>by simp [T.get] at h
 | .node _ _ _,.leaf,e,_,_,_=>by cases e
 | .node l x r,.node l' x' r',e,k,a,h=>by
  simp only [subT,Bool.and_eq_true] at e
  cases k with
  | zero =>
   have:=e.2.1
   simp only [T.get] at h ⊢
   subst h
   cases x' with
   | none=>cases this
   | some b=>rw [hf _ _ this]
  | succ k =>
   simp only [T.get] at h ⊢
   cases hb:Nat.beq (Nat.mod k 2) 0 with
   | true =>
    rw [hb,cond_true] at h
    rw [cond_true]
    exact xC hf l l' e.1 _ _ h
   | false =>
    rw [hb,cond_false] at h
    rw [cond_false]
    exact xC hf r r' e.2.2 _ _ h

/-- Of the same keys; the second one's values are the first one's, or stand for whatever value. -/
def isBadV:Value → Bool
 | .complex _ _ _=>true
 | _=>false

def relT:T Value → T Value → Bool
 | .leaf,.leaf=>true
 | .node l x r,.node l' x' r' =>
  relT l l' && ((match x,x' with|none,none=>true|some a,some b=>bif isBadV b then true else veq a b|_,_=>false) && relT r r')
 | _,_=>false

theorem relT_get:∀ (s t:T Value),relT s t = true → ∀ k,t.get k = s.get k ∨ ∃ b,t.get k = some b ∧ isBadV b = true
 | .leaf,.leaf,_,_=>.inl rfl
 | .leaf,.node _ _ _,e,_=>by cases e
 | .node _ _ _,.leaf,e,_=>by cases e
 | .node l x r,.node l' x' r',e,k=>by
  simp only [relT,Bool.and_eq_true] at e
  cases k with
  | zero =>
   have:=e.2.1
   simp only [T.get]
   cases x with
   | none=>cases x' with|none=>exact .inl rfl|some b=>cases this
   | some a =>
    cases x' with
    | none=>cases this
    | some b =>
     simp only at this
     cases hb:isBadV b with
     | true=>exact .inr ⟨b,rfl,hb⟩
     | false =>
      rw [hb,cond_false] at this
      rw [veq_eq _ _ this]
      exact .inl rfl
  | succ k =>
   simp only [T.get]
   cases hb:Nat.beq (Nat.mod k 2) 0 with
   | true=>simp only [cond_true]; exact relT_get l l' e.1 _
   | false=>simp only [cond_false]; exact relT_get r r' e.2.2 _

theorem TR.rel {m:M} {t t1:T Value} {n:Nat} {a:Array Value} (k:relT t t1 = true) (hT:TR m t n a):TR m t1 n a:=by
 refine ⟨hT.1,fun i=>?_⟩
 have h0:=hT.2 i
 unfold tget at h0 ⊢
 rcases relT_get t t1 k i with e|⟨b,e,hb⟩
 ·rw [e]; exact h0
 ·rw [e]
  simp only
  cases b<;>first|exact .any _ _ _ _|cases hb

def allT {α:Type} (f:α → Bool):T α → Bool
 | .leaf=>true
 | .node l x r=>allT f l && ((match x with|none=>true|some a=>f a) && allT f r)

theorem allT_get {α:Type} {f:α → Bool}:∀ (s:T α),allT f s = true → ∀ k a,s.get k = some a → f a = true
 | .leaf,_,k,a,h=>by simp [T.get] at h
 | .node l x r,e,k,a,h=>by
  simp only [allT,Bool.and_eq_true] at e
  cases k with
  | zero =>
   simp only [T.get] at h
   subst h
   exact e.2.1
  | succ k =>
   simp only [T.get] at h
   cases hb:Nat.beq (Nat.mod k 2) 0 with
   | true=>rw [hb,cond_true] at h; exact allT_get l e.1 _ _ h
   | false=>rw [hb,cond_false] at h; exact allT_get r e.2.2 _ _ h

def kinB (fams:T (List Nat)):AObj → Bool
 | .cells (_ :: _) f false=>(fams.get f).isSome
 | _=>true

/-- A heap of which less is known. -/
def subH (h1 h:AHeap):Bool:=
 Nat.beq h1.nx h.nx && (subT beqO h1.bl h.bl && (subT beqNL h1.fams h.fams && allT (kinB h1.fams) h1.bl))

theorem WR.sub {P:Program} {m:M} {w0:Base} {w:World} {h h1:AHeap} (hs:subH h1 h = true) (hW:WR P m w0 h w):WR P m w0 h1 w:=by
 simp only [subH,Bool.and_eq_true] at hs
 obtain ⟨s1,s2,s3,s4⟩:=hs
 have hn:=Nat.eq_of_beq_eq_true s1
 have hb:=xC beqO_eq _ _ s2
 have hf:=xC beqNL_eq _ _ s3
 have hk:=allT_get _ s4
 exact {
  obj:=fun b o e=>hW.obj b o (hb b o e)
  fresh:=fun b hnb=>by
   rw [hn] at hnb
   obtain ⟨k1,k2⟩:=hW.fresh b hnb
   refine ⟨k1,?_⟩
   cases e:h1.bl.get b with
   | none=>rfl
   | some o=>rw [hb b o e] at k2; cases k2
  spn:=fun b hnb=>hW.spn b (by rw [← hn]; exact hnb)
  spf:=fun b c f ro e=>hW.spf b c f ro (hb b _ e)
  spr:=fun b B d z E e1 e2=>⟨(hW.spr b B d z E e1 e2).1,fun v hv=>(hW.spr b B d z E e1 e2).2 v (hf b v hv)⟩
  dom:=hW.dom
  apart:=fun b₁ b₂ o₁ o₂ B d₁ d₂ e1 e2=>hW.apart b₁ b₂ o₁ o₂ B d₁ d₂ (hb _ _ e1) (hb _ _ e2)
  kin:=fun b c f e hc=>by
   have:=hk b _ e
   cases c with
   | nil=>exact absurd rfl hc
   | cons v l =>
    simp only [kinB] at this
    obtain ⟨fl,hfl⟩:=Option.isSome_iff_exists.1 this
    obtain ⟨fl2,g1,g2⟩:=hW.kin b _ f (hb b _ e) hc
    rw [hf f fl hfl] at g1
    cases g1
    exact ⟨fl,hfl,g2⟩
  fam:=fun b c f ro e=>by rw [hn]; exact hW.fam b c f ro (hb b _ e)
  below:=hW.below
  glob:=hW.glob
  res:=fun r e=>by
   obtain ⟨r1,r2,r3,r4,r5⟩:=hW.res r (hf r _ e)
   refine ⟨by rw [hn]; exact r1,r2,?_,r4,fun b c f ro eb=>r5 b c f ro (hb b _ eb)⟩
   cases hq:h1.bl.get r with
   | none=>rfl
   | some o=>rw [hb r o hq] at r3; cases r3
  park:=fun B x e=>by
   obtain ⟨k1,k2,k3⟩:=hW.park B x e
   exact ⟨k1,k2,fun b o d e1=>k3 b o d (hb b o e1)⟩ }

/-- The state to be come to, by no jump: less may be known of it. -/
def Chk (t1:T Value) (h1:AHeap) (ds1:List Nat):KT:=fun e t h ds =>
 match e with
 | .normal=>relT t t1 && (subH h1 h && beqNL ds ds1)
 | _=>false

theorem Chk_eq {t1:T Value} {h1:AHeap} {ds1:List Nat} {e:Exit} {t:T Value} {h:AHeap} {ds:List Nat} (k:Chk t1 h1 ds1 e t h ds = true):e = .normal ∧ relT t t1 = true ∧ subH h1 h = true ∧ ds = ds1:=by
 unfold Chk at k
 split at k
 ·simp only [Bool.and_eq_true] at k
  exact ⟨rfl,k.1,k.2.1,beqNL_eq _ _ k.2.2⟩
 ·cases k

/-! ## What is said of a run that begins in one state -/
def kU (P:Program) (n:Nat) (rd:Option Nat) (c:Code) (t:T Value) (h:AHeap) (ds:List Nat) (K:KT):Prop:=
 ∀ (m:M) (w0:Base) (w:World) (a:Act) (rdc:Option Nat) (nn:Nat) (Q:Exit → Act → World → Prop),
  WR P m w0 h w → TR m t n a.tmps → DR m ds a.defers → RdR m rd rdc →
  (∀ e m' t' h' ds' a' w',M.le m m' → WR P m' w0 h' w' → TR m' t' n a'.tmps → DR m' ds' a'.defers → K e t' h' ds' = true → Q e a' w') →
  c.wpIn (FW rdc) nn P Q a w ∧ (∀ b,c = .loop b → LoopWp (FW rdc) nn P b Q a w)

section
variable {P:Program} {n:Nat} {rd:Option Nat} {t t1:T Value} {h h1:AHeap} {ds ds1:List Nat} {K:KT}

theorem at_seq {a b:Code} (ha:kU P n rd a t h ds (Chk t1 h1 ds1)) (hb:kU P n rd b t1 h1 ds1 K):kU P n rd (.seq a b) t h ds K:=by
 intro m w0 w ac rdc nn Q hW hT hD hrd hQ
 refine ⟨wpIn_seq ?_,fun b hb=>by cases hb⟩
 refine (ha m w0 w ac rdc nn _ hW hT hD hrd ?_).1
 intro e' m' t' h' ds' a' w' hle hW' hT' hD' hK
 obtain ⟨rfl,c1,c2,rfl⟩:=Chk_eq hK
 exact (hb m' w0 w' a' rdc nn Q (hW'.sub c2) (hT'.rel c1) hD' (hrd.mono hle) fun e2 m2 t2 h2 ds2 a2 w2 hle2=>hQ e2 m2 t2 h2 ds2 a2 w2 (M.le_trans hle hle2)).1

/-- The k-th of a row of statements; what is left behind k of them. -/
def nthC:Nat → Code → Code
 | 0,.seq a _=>a
 | Nat.succ k,.seq _ b=>nthC k b
 | _,c=>c
def restC:Nat → Code → Code
 | 0,c=>c
 | Nat.succ k,.seq _ b=>restC k b
 | Nat.succ _,c=>c
def isSeq:Nat → Code → Bool
 | 0,.seq _ _=>true
 | Nat.succ k,.seq _ b=>isSeq k b
 | _,_=>false

theorem rest_nth:∀ (k:Nat) (c:Code),isSeq k c = true → restC k c = .seq (nthC k c) (restC (k + 1) c)
 | 0,c,e=>by cases c<;>first|rfl|cases e
 | k + 1,c,e=>by
  cases c<;>first|exact rest_nth k _ e|cases e

theorem sU {k:Nat} {c:Code} (hc:isSeq k c = true) (ha:kU P n rd (nthC k c) t h ds (Chk t1 h1 ds1)) (hb:kU P n rd (restC (k + 1) c) t1 h1 ds1 K):kU P n rd (restC k c) t h ds K:=by
 rw [rest_nth k c hc]
 exact at_seq ha hb

/-- Behind a block. -/
def wG (id:Nat) (K:KT):KT:=fun e t h ds =>
 match e with
 | .exit id'=>bif Nat.beq id' id then K .normal t h ds else K (.exit id') t h ds
 | e=>K e t h ds

end

/-! ## A law without arguments, in parts -/
noncomputable def exA (P:Program):ExT:=fun n rd c t h ds K=>@decide (kU P n rd c t h ds K) (Classical.propDecidable _)

theorem exA_sound (P:Program):rO P (exA P):=fun n rd c t h ds K e=>@of_decide_eq_true (kU P n rd c t h ds K) (Classical.propDecidable _) e

def Kt:KV:=fun v _=>match v with | .bool b=>b|_=>false

theorem truly_parts {P:Program} {f:FuncId} {fn:Func} {c:Code} (hf:P.funcs[f]? = some fn) (hb:fn.body = some c) (hname:(fn.name == "runtime.NumGoroutine") = false)
  (s:kU P fn.ntmps none c .leaf ⟨.leaf,P.globals.size,.leaf⟩ [] (finish P fn Kt)) {w:World} (hw:P.globals.size ≤ w.heap.size) :
  Calls P f #[] w fun e w'=>e = .returned (.bool true) ∧ Below w.heap.size w w':=by
 have e:iE (exA P) P fn c [] ⟨.leaf,P.globals.size,.leaf⟩ Kt = true:=by
  unfold iE
  rw [hname,cond_false]
  have:Nat.ble ([]:List Value).length fn.ntmps = true:=Nat.ble_eq_true_of_le (Nat.zero_le _)
  rw [this,cond_true]
  exact @decide_eq_true _ (Classical.propDecidable _) s
 obtain ⟨_,k⟩:=kT (rd:=none) (nn:=0) (exA_sound P) hf hb (wr_start hw) (.nil) e (R:=fun v' w'=>v' = .bool true ∧ Below w.heap.size w w') (fun m' v v' h' w' hle hv hW hK=>by
  cases v with
  | bool b =>
   cases hv
   simp only [Kt] at hK
   subst hK
   exact ⟨rfl,hW.below⟩
  | _=>simp [Kt] at hK)
 have k2:CallsIn Fence.wide 0 P f #[] w _:=k
 refine (callsIn_wide.1 k2).mono fun e w' he=>?_
 cases e with
 | returned v=>exact ⟨by rw [he.1],he.2⟩
 | panicked _=>exact he.elim
 | outgrown=>exact he.elim

end Go.Ev

/- Calls whose results are known beforehand: a table beside the evaluator. -/
namespace Go.Ev
open Go.RowKit

/-- The results of some functions at some arguments. -/
abbrev Prim:=FuncId → List Value → AHeap → Option Value

/-- Each row of the table is a contract: at every world that the heap stands for. -/
def kK (P:Program) (pr:Prim):Prop:=
 ∀ g l h v,pr g l h = some v → plainB v = true ∧ (∃ fn c,P.funcs[g]? = some fn ∧ fn.body = some c ∧ (fn.name == "runtime.NumGoroutine") = false) ∧
  ∀ (m:M) (w0:Base) (w:World) (l':List Value),WR P m w0 h w → LR m l l' → Calls P g l'.toArray w fun e w'=>e = .returned v ∧ Below w.heap.size w w'

def bW (pr:Prim) (call:CallT):CallT:=fun f args h K =>
 match f with
 | .func (.func g) first captured=>(match pr g (first.toList ++ args ++ captured.toList) h with|some v=>K v h|none=>call (.func (.func g) first captured) args h K)
 | f=>call f args h K

section
variable {P:Program} {m:M} {w0:Base} {w w':World} {h:AHeap}

theorem withPrim_sound {pr:Prim} (hp:kK P pr) {call:CallT} (hc:iZ P call):iZ P (bW pr call):=by
 intro m w0 w h fv fv' args args' K hW hf hargs e rd nn R hR
 unfold bW at e
 split at e
 ·rename_i g first captured
  split at e
  ·rename_i v hv
   cases hf with
   | @func _ _ first' _ captured' hf1 hf2 =>
    rw [sQ]
    have hall:LR m (first.toList ++ args ++ captured.toList) (first'.toList ++ args' ++ captured'.toList):=(hf1.append hargs).append hf2
    have harr:(first' ++ args'.toArray ++ captured') = (first'.toList ++ args' ++ captured'.toList).toArray:=by
     apply Array.toList_inj.1
     simp
    have hinv:∀ w,(invoke (.fn (.func g) captured') (first' ++ args'.toArray)).run P w = (callFunc g (first'.toList ++ args' ++ captured'.toList).toArray).run P w:=fun w=>by
     simp only [invoke,harr]
    rw [hinv]
    obtain ⟨q2,⟨fn,c,q3,q4,q5⟩,q6⟩:=hp g _ h v hv
    rw [wU q3 q4 q5]
    have k:=callsIn_wide (n:=nn).2 (q6 m w0 w _ hW hall)
    refine CallsIn.mono (F:=Fence.wide) k ?_
    rintro e' w' ⟨rfl,hB⟩
    exact hR m v v h w' (M.le_refl m) (eH m v q2) (hW.past hB) e
  ·exact hc m w0 w h _ _ args args' K hW hf hargs e rd nn R hR
 ·exact hc m w0 w h _ _ args args' K hW hf hargs e rd nn R hR

/-! ## The evaluator with a table -/
def kL (P:Program) (pr:Prim) (ex:ExT):ExT:=fun n rd c t h ds K =>
 match c with
 | .region _ ops draw=>iC P (bW pr (cZ P ex)) ops draw n t h fun t h=>K .normal t h ds
 | c=>eF P ex n rd c t h ds K

theorem wr_globals {m:M} (hW:WR P m w0 h w):P.globals.size ≤ w.heap.size:=by
 rcases Nat.eq_zero_or_pos P.globals.size with e|e
 ·omega
 ·have:=hW.dom (P.globals.size - 1) _ _ (hW.glob (P.globals.size - 1) (by omega))
  omega

theorem rP {ex:ExT} (hds:pY P) {pr:Prim} (hp:kK P pr) (hs:rO P ex):rO P (kL P pr ex):=by
 intro n rd c t h ds K e m w0 w a rdc nn Q hW hT hD hrd hQ
 unfold kL at e
 split at e
 ·have hcall:=withPrim_sound hp (vK hs)
  refine ⟨region_wp hds hcall hW hT e fun m' t' h' a' w' hle hT' hW' hd hK=>?_,fun b hb=>by cases hb⟩
  exact hQ .normal m' t' h' ds a' w' hle hW' hT' (by rw [hd]; exact hD.mono hle) hK
 ·exact execStep_sound hds hs n rd c t h ds K e m w0 w a rdc nn Q hW hT hD hrd hQ

def execX (P:Program) (pr:Prim):Nat → ExT
 | 0=>fun _ _ _ _ _ _ _=>false
 | Nat.succ f=>kL P pr (execX P pr f)

theorem execX_sound (hds:pY P) {pr:Prim} (hp:kK P pr):∀ f,rO P (execX P pr f)
 | 0=>by intro n rd c t h ds K e; cases e
 | f + 1=>rP hds hp (execX_sound hds hp f)

/-! ## Its twin -/
def callValX (P:Program) (pr:Prim) (ex:ExT) (f:Value) (args:List Value) (h:AHeap) (K:Value → AHeap → Bool):Bool:=
 match f with
 | .func (.func g) first captured =>
  match pr g (first.toList ++ args ++ captured.toList) h with
  | some v=>fV v fun v=>K v h
  | none=>(callC P g).run ex (first.toList ++ args ++ captured.toList) h K
 | .func (.yield l) first _=>qL ex l (first.toList ++ args) h K
 | _=>false

theorem callValX_eq (P:Program) (pr:Prim) (ex:ExT):callValX P pr ex = bW pr (cZ P ex):=by
 funext f args h K
 cases f with
 | func fn a c =>
  cases fn with
  | func g =>
   simp only [callValX,bW,cZ,callC_eq,fV_eq]
  | _=>rfl
 | _=>rfl

def stepX (P:Program) (pr:Prim) (c:Code):XW:=
 match c with
 | .region _ ops draw=>⟨fun ex n _ t h ds K=>(xB P ops draw).run (callValX P pr ex) n t h fun t h=>K .normal t h ds⟩
 | c=>stepC P c

theorem stepX_eq (P:Program) (pr:Prim) (c:Code) (ex:ExT) (n:Nat) (rd:Option Nat) (t:T Value) (h:AHeap) (ds:List Nat) (K:KT):(stepX P pr c).run ex n rd t h ds K = kL P pr ex n rd c t h ds K:=by
 unfold stepX kL
 split
 ·simp only [regionC_eq,callValX_eq]
 ·exact stepC_eq ..

def lM (P:Program) (pr:Prim):Nat → EXW
 | 0=>⟨fun _ _ _ _ _ _ _=>false⟩
 | Nat.succ f=>⟨fun n rd c t h ds K=>(stepX P pr c).run (lM P pr f).run n rd t h ds K⟩

theorem execXW_eq (P:Program) (pr:Prim):∀ f,(lM P pr f).run = execX P pr f
 | 0=>rfl
 | f + 1=>by
  funext n rd c t h ds K
  simp only [lM,execX,stepX_eq,execXW_eq P pr f]
end
end Go.Ev

/- Runs over states of which some is not known: one step after the other. -/
namespace Go.Ev
open Go.RowKit

/-- What may be stepped: an interpreter that is as good as its own step. -/
structure Steps (P:Program) (pr:Prim) (R:ExT):Prop where
 step:∀ {n rd c t h ds K},kL P pr R n rd c t h ds K = true → R n rd c t h ds K = true

theorem steps_exA {P:Program} (hmix:P.follows .mixedOrders = true) {pr:Prim} (hp:kK P pr):Steps P pr (exA P) where
 step:=fun {n rd c t h ds K} e=>@decide_eq_true _ (Classical.propDecidable _) (rP (drawSound hmix) hp (exA_sound P) n rd c t h ds K e)

def seqK (R:ExT) (n:Nat) (rd:Option Nat) (b:Code) (K:KT):KT:=fun e t h ds =>
 match e with
 | .normal=>R n rd b t h ds K
 | e=>K e t h ds

section
variable {P:Program} {pr:Prim} {R:ExT} {n:Nat} {rd:Option Nat} {t:T Value} {h:AHeap} {ds:List Nat} {K:KT}

theorem Steps.seq (S:Steps P pr R) {a b:Code} (k:R n rd a t h ds (seqK R n rd b K) = true):R n rd (.seq a b) t h ds K = true:=S.step k

theorem Steps.skip (S:Steps P pr R) (k:K .normal t h ds = true):R n rd .skip t h ds K = true:=S.step k
theorem Steps.ret (S:Steps P pr R) (k:K .ret t h ds = true):R n rd .ret t h ds K = true:=S.step k
theorem Steps.exit (S:Steps P pr R) {id:Nat} (k:K (.exit id) t h ds = true):R n rd (.exit id) t h ds K = true:=S.step k
theorem Steps.block (S:Steps P pr R) {id:Nat} {b:Code} (k:R n rd b t h ds (wG id K) = true):R n rd (.block id b) t h ds K = true:=S.step k

theorem Steps.cond (S:Steps P pr R) {x:Operand} {a b:Code} {v:Bool} (hx:ev P t x = .bool v) (h1:v = true → R n rd a t h ds K = true) (h2:v = false → R n rd b t h ds K = true):R n rd (.cond x a b) t h ds K = true:=by
 refine S.step ?_
 show eF P R n rd (.cond x a b) t h ds K = true
 simp only [eF]
 rw [hx]
 cases v with
 | true=>exact h1 rfl
 | false=>exact h2 rfl

theorem Steps.region (S:Steps P pr R) {id:Nat} {ops:Array Oper} (k:jP P (bW pr (cZ P R)) ops n ops.toList t h (fun t h=>K .normal t h ds) = true):R n rd (.region id ops false) t h ds K = true:=S.step k

theorem Steps.drawn (S:Steps P pr R) {id:Nat} {ops:Array Oper} (hr:nC P ops = true) (hmw:manyW P ops = false) (k:bQ P (bW pr (cZ P R)) ops n 0 [] (Nat.succ ops.size) (infos P ops) 0 [] t h (fun t h=>K .normal t h ds) = true):R n rd (.region id ops true) t h ds K = true:=by
 refine S.step ?_
 simp only [kL,iC,cond_true,hr,hmw,cond_false]
 exact k

theorem Steps.loop (S:Steps P pr R) {b:Code} {ι:Type} (I:ι → T Value → AHeap → Prop) (μ:ι → Nat)
  (body:∀ i t h,I i t h → ∀ K':KT,(∀ j t' h',μ j < μ i → I j t' h' → K' .normal t' h' ds = true) → (∀ e t' h' ds',e ≠ .normal → K e t' h' ds' = true → K' e t' h' ds' = true) → R n rd b t h ds K' = true) :
  ∀ i t h,I i t h → R n rd (.loop b) t h ds K = true:=by
 intro i
 generalize hm:μ i = k
 induction k using Nat.strongRecOn generalizing i with
 | _ k ih =>
  intro t h hI
  refine S.step ?_
  show eF P R n rd (.loop b) t h ds K = true
  simp only [eF]
  refine body i t h hI _ (fun j t' h' hlt hj=>?_) (fun e t' h' ds' hne hK=>?_)
  ·exact ih (μ j) (by omega) j rfl t' h' hj
  ·cases e with
   | normal=>exact absurd rfl hne
   | _=>exact hK

/-! ## Operations -/
variable {call:CallT} {ops:Array Oper} {o:Oper} {rest:List Oper} {KR:T Value → AHeap → Bool}

/-! ## A contract at every world -/
/-- The state in which a call begins. -/
def bJ (args:List Value):T Value:=aX args 0 .leaf id

theorem lN {β:Type}:∀ (l:List Value) (i:Nat) (t:T Value) (K:T Value → β),aX l i t K = K (aX l i t id)
 | [],_,_,_=>rfl
 | v :: l,i,t,K=>by
  simp only [aX,aZ,T.setK_eq]
  exact lN l _ _ K

end
end Go.Ev
