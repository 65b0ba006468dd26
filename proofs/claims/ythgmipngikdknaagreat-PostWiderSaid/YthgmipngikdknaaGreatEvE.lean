import Derived.Test.YthgmipngikdknaaGreatEvD
/- Copies of slices, frames around one block, and writes in drawn regions. -/
namespace Go.Ev
open Go.RowKit

/-- All that was there is as it was, but for the cells of block B. -/
structure Fr (H:AHeap) (B:Nat) (h:AHeap):Prop where
 le:H.nx ≤ h.nx
 bl:∀ k,k < H.nx → k ≠ B → h.bl.get k = H.bl.get k
 fam:∀ k,k < H.nx → h.fams.get k = H.fams.get k
theorem Fr.refl {H:AHeap} {B:Nat}:Fr H B H:=⟨Nat.le_refl _,fun _ _ _=>rfl,fun _ _=>rfl⟩
theorem Fr.kp {H h h':AHeap} {B:Nat} (a:Fr H B h) (k:Kp h h'):Fr H B h':=
 ⟨Nat.le_trans a.le k.1,fun j hj hn=>(k.get (Nat.lt_of_lt_of_le hj a.le)).trans (a.bl j hj hn),fun j hj=>(k.fget (Nat.lt_of_lt_of_le hj a.le)).trans (a.fam j hj)⟩
theorem Fr.sm {H h h':AHeap} {B lo:Nat} (a:Fr H B h) (k:Sm lo h h') (hl:H.nx ≤ lo):Fr H B h':=
 ⟨Nat.le_trans a.le k.1,fun j hj hn=>((k.2 j (Nat.lt_of_lt_of_le hj hl)).1).trans (a.bl j hj hn),fun j hj=>((k.2 j (Nat.lt_of_lt_of_le hj hl)).2).trans (a.fam j hj)⟩
theorem Fr.upd {H h:AHeap} {B f:Nat} {c:List Value} (a:Fr H B h):Fr H B (h.upd B c f):=
 ⟨a.le,fun j hj hn=>by rw [upd_ne _ _ _ hn]; exact a.bl j hj hn,fun j hj=>by rw [bM]; exact a.fam j hj⟩
theorem Fr.toKp {H0 H h:AHeap} {B:Nat} (k:Kp H0 H) (a:Fr H B h) (hB:H0.nx ≤ B):Kp H0 h:=
 ⟨Nat.le_trans k.1 a.le,fun j hj=>⟨(a.bl j (Nat.lt_of_lt_of_le hj k.1) (by omega)).trans (k.get hj),(a.fam j (Nat.lt_of_lt_of_le hj k.1)).trans (k.fget hj)⟩⟩
section
variable {P:Program} {n:Nat} {t:T Value} {h:AHeap} {ops:Array Oper} {call:CallT} {f:Nat} {l:List Info} {i m done:Nat} {hist:List Seen} {rest:List Oper} {KR:T Value → AHeap → Bool} {dst:Option Tmp} {op:Op} {ty:TypeId} {pos:String} {af:Array Edge} {g:Option (Nat × Bool)} {d:Tmp}
theorem jS {v:Value} {h':AHeap} (hw:∀ K:KV,bI P call t h ⟨some d,op,ty,pos,af,g⟩ K = K v h') (hd:d < n) (ha:again P h' m hist = true)
  (k:bQ P call ops n 0 [] f l (Nat.lor done (Nat.pow 2 i)) hist (T.set (d + 1) t d v) h' KR = true):drW (some true) P call ops n f l done i m ⟨some d,op,ty,pos,af,g⟩ hist t h KR = true:=by
 have:Nat.blt d n = true:=by rw [Nat.blt_eq]; exact hd
 simp only [drW,hw,ha,cond_true,iV,this,aZ,T.setK_eq]
 exact k
theorem fP {v:Value} {h':AHeap} (hw:∀ K:KV,bI P call t h ⟨none,op,ty,pos,af,g⟩ K = K v h') (ha:again P h' m hist = true)
  (k:bQ P call ops n 0 [] f l (Nat.lor done (Nat.pow 2 i)) hist t h' KR = true):drW (some true) P call ops n f l done i m ⟨none,op,ty,pos,af,g⟩ hist t h KR = true:=by
 simp only [drW,hw,ha,cond_true,iV]
 exact k
theorem drW_app {lo sz F:Nat} {v:Value} {cs:List (List Value)} {c:List Value} {e:TypeId} {st xt e':TypeId} {s x:Operand} {bx cx fx:Nat} {rx:Bool} (hst:fE P st = some e) (hxt:P.underlying xt = some (.slice e')) (hs:ev P t s = v) (hx:ev P t x = .slice (some ⟨bx,0,none⟩) 1 cx)
  (k:App lo h sz v cs F) (hHh:lo ≤ h.nx) (hsz:bH P e = some sz) (hc:c.length = sz) (hpos:0 < sz) (hbx:h.bl.get bx = some (.cells c fx rx)) (hnum:eY P e 1 = true) (hn:cs.length + 1 < bigNat) (hd:d < n)
  (kk:∀ v' h' F',Grown lo h h' sz v' cs c F F' → again P h' m hist = true ∧ bQ P call ops n 0 [] f l (Nat.lor done (Nat.pow 2 i)) hist (T.set (d + 1) t d v') h' KR = true) :
  drW (some true) P call ops n f l done i m ⟨some d,.call ⟨.builtin .append,#[s,x],#[st,xt]⟩,ty,pos,af,g⟩ hist t h KR = true:=by
 obtain ⟨v',h',F',hw,hg⟩:=aw_append (call:=call) (dst:=some d) (ty:=ty) (pos:=pos) (af:=af) (g:=g) hst hxt hs hx k hHh hsz hc hpos hbx hnum hn
 obtain ⟨k1,k2⟩:=kk v' h' F' hg
 exact jS hw hd k1 k2

/-- A slice literal without elements. -/
theorem aw_lit0 {e:TypeId} {sz:Nat} {sl:TypeId} {z:Value} (h1:fE P sl = some e) (h2:bH P e = some sz) (h3:zeroOf P e = some z) (h4:z.cells.size = sz) (K:KV):bI P call t h ⟨dst,.buildSlice sl 0 #[],ty,pos,af,g⟩ K = K (.slice (some ⟨h.nx,0,none⟩) 0 0) (h.add []):=by
 have h5:Nat.ble (Nat.mul 0 sz) 16777216 = true:=Nat.ble_eq_true_of_le (by show 0 * sz ≤ _; omega)
 have h6:okP ([]:List (Nat × Value)) = true:=rfl
 have h7:Nat.beq z.cells.size sz = true:=by rw [h4]; exact Nat.beq_refl _
 have h8:Instr.fill (fun k=>some (k * sz,sz)) (⟨repl z.cells.toList 0 []⟩:Array Value) [] = some #[]:=rfl
 simp only [bI,jE,h1,h2,h3,List.map_nil,h6,h5,h7,Bool.and_self,cond_true,h8,uH,kV]
theorem wr_lit0 {e:TypeId} {sz:Nat} {sl:TypeId} {z:Value} (h1:fE P sl = some e) (h2:bH P e = some sz) (h3:zeroOf P e = some z) (h4:z.cells.size = sz) (kk:jA P call ops n rest dst t (.slice (some ⟨h.nx,0,none⟩) 0 0) (h.add []) KR = true) :
  wrR P call ops n rest (.buildSlice sl 0 #[]) dst t h KR = true:=by
 unfold wrR
 rw [aw_lit0 h1 h2 h3 h4]
 exact kk

/-- What lies behind an append of rows onto an empty literal at block b. -/
structure Copied (h h':AHeap) (b sz:Nat) (v':Value) (cs:List (List Value)):Prop where
 le:h.nx ≤ h'.nx
 bl:∀ k,k < h.nx → k ≠ b → h'.bl.get k = h.bl.get k
 fam:∀ k,k < h.nx → k ≠ b → h'.fams.get k = h.fams.get k
 at_:∃ B l,v' = .slice (some ⟨B,0,none⟩) cs.length cs.length ∧ (B = b ∨ B = h.nx) ∧ B < h'.nx ∧ h'.bl.get B = some (.cells cs.flatten b false) ∧ h'.fams.get b = some l ∧ (∀ x,x ∈ l → (x = b ∨ x = h.nx) ∧ x < h'.nx ∧ ∃ c,h'.bl.get x = some (.cells c b false)) ∧ (B = b ∨ (h'.fams.get B = some [sz] ∧ b ≠ B))
theorem aw_copyEX {b sz:Nat} {v:Value} {cs:List (List Value)} {e st xt e':TypeId} {s x:Operand} (hst:fE P st = some e) (hxt:P.underlying xt = some (.slice e')) (hs:ev P t s = .slice (some ⟨b,0,none⟩) 0 0) (hx:ev P t x = v) (hsz:bH P e = some sz)
  (hg:h.bl.get b = some (.cells [] b false)) (hf:h.fams.get b = some [b]) (hb:b < h.nx) (hv:SlAt h sz v cs) (hnn:eY P e cs.length = true) :
  ∃ v' h',(∀ K:KV,bI P call t h ⟨dst,.call ⟨.builtin .append,#[s,x],#[st,xt]⟩,ty,pos,af,g⟩ K = K v' h') ∧ Copied h h' b sz v' cs:=by
 have nil:∀ w:Value,eU h sz w = some ([],0) → kindOk P xt w = true → ev P t x = w → cs = [] →
   ∃ v' h',(∀ K:KV,bI P call t h ⟨dst,.call ⟨.builtin .append,#[s,x],#[st,xt]⟩,ty,pos,af,g⟩ K = K v' h') ∧ Copied h h' b sz v' cs:=by
  intro w hsw hkw hxw hcs
  subst hcs
  refine ⟨.slice (some ⟨b,0,none⟩) 0 0,h,fun K=>?_,Nat.le_refl _,fun k _ _=>rfl,fun k _ _=>rfl,b,[b],rfl,.inl rfl,hb,hg,hf,fun y hy=>?_,.inl rfl⟩
  ·have h1:Nat.ble (Nat.add 0 0) 0 = true:=rfl
   simp only [bI,kR,lZ,hst,hs,hxw,hkw,cond_true,iR,hsz,hsw,h1,gY]
  ·simp at hy; subst hy
   exact ⟨.inl rfl,hb,[],hg⟩
 rcases hv with ⟨k1,rfl|rfl⟩|⟨bx,cap,fx,ro,k1,rfl,k3,k4,k5⟩
 ·exact nil _ rfl (by simp only [kindOk,hxt]) hx k1
 ·exact nil _ rfl (by simp only [kindOk,hxt,emptyS]) hx k1
 ·have hfl:∀ {l:List (List Value)},(∀ c,c ∈ l → c.length = sz) → l.flatten.length = l.length * sz:=by
   intro l
   induction l with
   | nil=>intro _; simp
   | cons a l ih =>
    intro hl
    rw [List.flatten_cons,List.length_append,hl a (by simp),ih fun c hc=>hl c (by simp [hc]),List.length_cons,Nat.succ_mul]; omega
  have hlen:=hfl k5
  have hsrc:eU h sz (.slice (some ⟨bx,0,none⟩) cs.length cap) = some (cs.flatten,cs.length):=by
   have hb':Nat.ble (Nat.add 0 (Nat.mul cs.length sz)) cs.flatten.length = true:=Nat.ble_eq_true_of_le (by rw [hlen]; show 0 + cs.length * sz ≤ _; omega)
   simp only [eU,k4,hb',cond_true]
   rw [List.drop_zero,List.take_of_length_le (by rw [hlen]; exact Nat.le_refl _)]
  have hpos:0 < cs.length:=by cases cs with|nil=>exact absurd rfl k1|cons a r=>simp
  have hcap:Nat.ble cs.length 0 = false:=by
   cases q:Nat.ble cs.length 0 with
   | false=>rfl
   | true=>have:=Nat.le_of_ble_eq_true q; omega
  have hble:Nat.ble (Nat.add 0 (Nat.mul 0 sz)) ([]:List Value).length = true:=Nat.ble_eq_true_of_le (by show 0 + 0 * sz ≤ 0; omega)
  have hz:zOk h b sz = true:=by unfold zOk; rw [hg]; simp only [Nat.beq_refl,cond_true]
  have hko:kindOk P xt (.slice (some ⟨bx,0,none⟩) cs.length cap) = true:=by simp only [kindOk,hxt]
  have htk:([]:List Value).take (Nat.add 0 (Nat.mul 0 sz)) = []:=by simp
  have hdt:(([]:List Value).drop 0).take (Nat.mul 0 sz) ++ cs.flatten = cs.flatten:=by simp
  have hg':∀ k,k < h.nx → k ≠ b → (h.grow b b sz [b] [] cs.flatten).bl.get k = h.bl.get k:=by
   intro k hk hkb
   show (T.set (h.nx + 1) (T.set (b + 1) (kill [b] b h.bl) b (.cells [] b false)) h.nx (.cells cs.flatten b false)).get k = _
   rw [aQ (by omega) (by omega),aQ (by omega) hkb,iW,if_neg (fun q=>by simp at q)]
  refine ⟨.slice (some ⟨h.nx,0,none⟩) cs.length cs.length,h.grow b b sz [b] [] cs.flatten,fun K=>?_,Nat.le_succ _,hg',?_,h.nx,[h.nx,b],rfl,.inr rfl,Nat.lt_succ_self _,aU (by omega),?_,?_,.inr ⟨aU (by omega),by omega⟩⟩
  ·simp only [bI,kR,lZ,hst,hs,hx,hko,cond_true,iR,hsz,hsrc,hcap,cond_false,jX,hg,hble,hnn,hz,Bool.and_self,hf,xH,htk,hdt,bP,show Nat.add 0 cs.length = cs.length from Nat.zero_add _]
  ·intro k hk hkb
   show (T.set (h.nx + 1) (T.set (b + 1) h.fams b [h.nx,b]) h.nx [sz]).get k = _
   rw [aQ (by omega) (by omega),aQ (by omega) hkb]
  ·show (T.set (h.nx + 1) (T.set (b + 1) h.fams b [h.nx,b]) h.nx [sz]).get b = _
   rw [aQ (by omega) (by omega),aU (by omega)]
  ·intro y hy
   simp at hy
   rcases hy with rfl|rfl
   ·exact ⟨.inr rfl,Nat.lt_succ_self _,_,aU (by omega)⟩
   ·refine ⟨.inl rfl,Nat.lt_succ_of_lt hb,[],?_⟩
    show (T.set (h.nx + 1) (T.set (y + 1) (kill [y] y h.bl) y (.cells [] y false)) h.nx (.cells cs.flatten y false)).get y = _
    rw [aQ (by omega) (by omega),aU (by omega)]
theorem aw_copyE {b sz:Nat} {v:Value} {cs:List (List Value)} {e st xt e':TypeId} {s x:Operand} (hst:fE P st = some e) (hxt:P.underlying xt = some (.slice e')) (hs:ev P t s = .slice (some ⟨b,0,none⟩) 0 0) (hx:ev P t x = v) (hsz:bH P e = some sz)
  (hg:h.bl.get b = some (.cells [] b false)) (hf:h.fams.get b = some [b]) (hb:b < h.nx) (hv:SlAt h sz v cs) (hnum:eY P e 1 = true) (hn:cs.length < bigNat) :
  ∃ v' h',(∀ K:KV,bI P call t h ⟨dst,.call ⟨.builtin .append,#[s,x],#[st,xt]⟩,ty,pos,af,g⟩ K = K v' h') ∧ Copied h h' b sz v' cs:=aw_copyEX hst hxt hs hx hsz hg hf hb hv (oQ hnum hn)
theorem wr_copyE {b sz:Nat} {v:Value} {cs:List (List Value)} {e st xt e':TypeId} {s x:Operand} (hst:fE P st = some e) (hxt:P.underlying xt = some (.slice e')) (hs:ev P t s = .slice (some ⟨b,0,none⟩) 0 0) (hx:ev P t x = v) (hsz:bH P e = some sz)
  (hg:h.bl.get b = some (.cells [] b false)) (hf:h.fams.get b = some [b]) (hb:b < h.nx) (hv:SlAt h sz v cs) (hnum:eY P e 1 = true) (hn:cs.length < bigNat)
  (kk:∀ v' h',Copied h h' b sz v' cs → jA P call ops n rest dst t v' h' KR = true):wrR P call ops n rest (.call ⟨.builtin .append,#[s,x],#[st,xt]⟩) dst t h KR = true:=by
 obtain ⟨v',h',hw,hc⟩:=aw_copyE (call:=call) (dst:=dst) (ty:=0) (pos:= "") (af:=#[]) (g:=none) hst hxt hs hx hsz hg hf hb hv hnum hn
 unfold wrR
 rw [hw]
 exact kk v' h' hc
end
end Go.Ev

/- An append onto a copy. -/
namespace Go.Ev
open Go.RowKit
section
variable {P:Program} {n:Nat} {t:T Value} {h:AHeap} {ops:Array Oper} {call:CallT} {dst:Option Tmp} {ty:TypeId} {pos:String} {af:Array Edge} {g:Option (Nat × Bool)}
theorem Copied.kp {b sz:Nat} {H h h':AHeap} {v:Value} {cs:List (List Value)} (k:Copied h h' b sz v cs) (a:Kp H h) (hb:H.nx ≤ b):Kp H h':=
 ⟨Nat.le_trans a.1 k.le,fun j hj=>by
  have:=a.1
  rw [k.bl j (by omega) (by omega),k.fam j (by omega) (by omega)]
  exact a.2 j hj⟩
variable {f:Nat} {l:List Info} {i m done:Nat} {hist:List Seen} {KR:T Value → AHeap → Bool} {d fl:Nat} {ids:List (Nat × Nat)}
end
end Go.Ev

/- Quotients. -/
namespace Go.Ev
open Go.RowKit
section
variable {P:Program} {t:T Value} {dst:Option Tmp} {ty a b:TypeId} {pos:String} {af:Array Edge} {g:Option (Nat × Bool)} {x y:Operand} {i j:Int}
theorem bin_quo (hx:ev P t x = .int .i64 i) (hy:ev P t y = .int .i64 j) (hj:j ≠ 0) (h1 : -9223372036854775808 ≤ i.tdiv j) (h2:i.tdiv j < 9223372036854775808) :
  nV P t ⟨dst,.binOp .quo a x y b,ty,pos,af,g⟩ .quo a (.int .i64 j) (.int .i64 i) = some (.int .i64 (i.tdiv j)):=by
 show ground P t _ = _
 have e1:evL P t (Op.operands (.binOp .quo a x y b)).toList = [.int .i64 i,.int .i64 j]:=by simp only [Op.operands,evL,hx,hy]
 have ew:IntKind.i64.wrap (i.tdiv j) = i.tdiv j:=by
  rw [← wrapF_eq,wrap64 _ h1 h2]
 have e6:pureOf P (execOp (ev P t) ⟨dst,.binOp .quo a x y b,ty,pos,af,g⟩) = some (.value (.int .i64 (i.tdiv j))):=by
  simp [execOp,hx,hy,binOp,Op.intDiv,hj,ew,eqGuard,pureOf,bind,Sem.bind,pure]
 unfold ground
 rw [e1,e6]
 rfl
end
end Go.Ev

/- Calls that change what was there. -/
namespace Go.Ev
open Go.RowKit
/-- What a call returns, and all that it leaves. -/
def gJ (P:Program) (R:ExT) (g:FuncId) (args:List Value) (h:AHeap) (Post:Value → AHeap → Prop):Prop:=
 ∀ K:KV,(∀ v h',Post v h' → K v h' = true) → dU P R g args h K = true
section
variable {P:Program} {pr:Prim} {R:ExT}
theorem gW {g:FuncId} {args:List Value} {h:AHeap} {Post:Value → AHeap → Prop} {fn:Func} {c:Code} (hf:P.funcs[g]? = some fn) (hb:fn.body = some c) (hname:(fn.name == "runtime.NumGoroutine") = false) (hlen:Nat.ble args.length fn.ntmps = true)
  (run:∀ K:KV,(∀ v h',Post v h' → K v h' = true) → R fn.ntmps none c (bJ args) h [] (finish P fn K) = true):gJ P R g args h Post:=by
 intro K hK
 unfold dU
 simp only [hf,hb]
 unfold iE
 rw [hname,cond_false,hlen,cond_true,lN]
 exact run K hK
variable {ops:Array Oper} {n:Nat} {rest:List Oper} {t:T Value} {h:AHeap} {KR:T Value → AHeap → Bool} {dst:Option Tmp}
theorem iT {f:Operand} {as:Array Operand} {ts:Array TypeId} {fid:FuncId} {first captured:Array Value} {Post:Value → AHeap → Prop} (hf:ev P t f = .func (.func fid) first captured)
  (hp:pr fid (first.toList ++ evL P t as.toList ++ captured.toList) h = none) (hy:gJ P R fid (first.toList ++ evL P t as.toList ++ captured.toList) h Post)
  (k:∀ v h',Post v h' → jA P (bW pr (cZ P R)) ops n rest dst t v h' KR = true) :
  wrR P (bW pr (cZ P R)) ops n rest (.call ⟨.value f,as,ts⟩) dst t h KR = true:=by
 simp only [wrR,bI,kR,hf,bW,hp,cZ]
 exact hy _ k
variable {f:Nat} {l:List Info} {i m done:Nat} {hist:List Seen} {ty:TypeId} {ps:String} {af:Array Edge} {g:Option (Nat × Bool)} {d:Tmp}
theorem drW_bringsX {fo:Operand} {xs:Array Operand} {ts:Array TypeId} {fid:FuncId} {first captured:Array Value} {Post:Value → AHeap → Prop} (hf:ev P t fo = .func (.func fid) first captured)
  (hp:pr fid (first.toList ++ evL P t xs.toList ++ captured.toList) h = none) (hy:gJ P R fid (first.toList ++ evL P t xs.toList ++ captured.toList) h Post) (hd:d < n)
  (k:∀ v h',Post v h' → again P h' m hist = true ∧ bQ P (bW pr (cZ P R)) ops n 0 [] f l (Nat.lor done (Nat.pow 2 i)) hist (T.set (d + 1) t d v) h' KR = true) :
  drW (some true) P (bW pr (cZ P R)) ops n f l done i m ⟨some d,.call ⟨.value fo,xs,ts⟩,ty,ps,af,g⟩ hist t h KR = true:=by
 have hb:Nat.blt d n = true:=by rw [Nat.blt_eq]; exact hd
 simp only [drW,bI,kR,hf,bW,hp,cZ]
 refine hy _ fun v h' hP=>?_
 obtain ⟨k1,k2⟩:=k v h' hP
 simp only [k1,cond_true,iV,hb,aZ,T.setK_eq]
 exact k2
end
theorem Fr.trans {H h h':AHeap} {B:Nat} (a:Fr H B h) (b:Fr h B h'):Fr H B h':=
 ⟨Nat.le_trans a.le b.le,fun k hk hn=>(b.bl k (Nat.lt_of_lt_of_le hk a.le) hn).trans (a.bl k hk hn),fun k hk=>(b.fam k (Nat.lt_of_lt_of_le hk a.le)).trans (a.fam k hk)⟩
section
variable {H h:AHeap} {B:Nat}
end
end Go.Ev

/- Maps whose keys and values are pairs of integers. -/
namespace Go.Ev
open Go.RowKit
def AHeap.setm (h:AHeap) (r:Nat) (o:AObj):AHeap:=⟨T.set (r + 1) h.bl r o,h.nx,h.fams⟩
theorem rC {h:AHeap} {r:Nat} {o:AObj}:(AHeap.setm h r o).bl.get r = some o:=aU (Nat.lt_succ_self _)
theorem gK {h:AHeap} {r:Nat} {o:AObj} {B:Nat} (e:B ≠ r):(AHeap.setm h r o).bl.get B = h.bl.get B:=aQ (Nat.lt_succ_self _) e
theorem setm_fams {h:AHeap} {r:Nat} {o:AObj} {B:Nat}:(AHeap.setm h r o).fams.get B = h.fams.get B:=rfl
theorem setMap_eq (h:AHeap) (r clock:Nat) (es:List MapEntry) (K:AHeap → Bool):nY h r clock es K = K (AHeap.setm h r (.map es clock)):=by
 simp only [nY,dJ,setO,T.setK_eq,AHeap.setm]

abbrev II:=Int × Int
def pv (p:II):List Value:=[iv p.1,iv p.2]
section
variable {P:Program} {mt kt vt:TypeId}
end
theorem rd_lookup {P:Program} {t:T Value} {h:AHeap} {dst:Option Tmp} {ty a:TypeId} {pos:String} {af:Array Edge} {g:Option (Nat × Bool)} {x y:Operand} {ok:Bool}:dE P t h ⟨dst,.lookup a x y ok,ty,pos,af,g⟩ = lY P t h ⟨dst,.lookup a x y ok,ty,pos,af,g⟩ a (ev P t y) ok (ev P t x):=(rfl)
theorem w_lookup {P:Program} {a:TypeId} {x y:Operand} {ok:Bool}:isW P (.lookup a x y ok) = false:=(rfl)
theorem wr_mkmap {P:Program} {call:CallT} {ops:Array Oper} {n:Nat} {rest:List Oper} {t:T Value} {h:AHeap} {KR:T Value → AHeap → Bool} {dst:Option Tmp} {a:TypeId} :
  wrR P call ops n rest (.makeMap a none) dst t h KR = jA P call ops n rest dst t (.map (some h.nx)) ⟨T.set (h.nx + 1) h.bl h.nx (.map [] 0),h.nx + 1,h.fams⟩ KR:=by
 simp only [wrR,bI,nX,newO,bP,T.setK_eq]
section
variable {h h':AHeap} {r:Nat} {v:Value} {es:List MapEntry} {n:Nat}
end
end Go.Ev

/- Two rows of booleans, compared by the model's own text. -/
namespace Go.Ev
open Go.RowKit

section
variable {P:Program}

theorem iH {α β:Type}:∀ (s:Sem α) (f:α → Sem β) (a:α),pureOf P s = some a → pureOf P (s >>= f) = pureOf P (f a)
 | .pure b,f,a,h=>by
  have:b = a:=by simpa [pureOf] using h
  subst this; rfl
 | .program k,f,a,h=>by
  show pureOf P ((k P).bind f) = _
  exact iH (k P) f a h
 | .mark m k,f,a,h=>by
  show pureOf P (k.bind f) = _
  exact iH k f a h
 | .load _ _ _,_,_,h=>by cases h
 | .store _ _ _ _,_,_,h=>by cases h
 | .new _ _,_,_,h=>by cases h
 | .shape _ _,_,_,h=>by cases h
 | .freeze _ _ _,_,_,h=>by cases h
 | .frozen _ _,_,_,h=>by cases h
 | .getObj _ _,_,_,h=>by cases h
 | .setObj _ _ _,_,_,h=>by cases h
 | .choose _ _,_,_,h=>by cases h
 | .sys _ _,_,_,h=>by cases h
 | .halt _,_,_,h=>by cases h

theorem pureOf_und {t:TypeId} {d:TypeDesc} (h:P.underlying t = some d):pureOf P (underlying t) = some d:=by
 simp [underlying,pureOf,program,bind,Sem.bind,h,pure]

end
end Go.Ev

/- Two rows of integers, compared by the model's own text. -/
namespace Go.Ev
open Go.RowKit
section
variable {P:Program}
theorem all_rangeI:∀ (xs ys:List Int),xs.length = ys.length → ((List.range xs.length).all fun i=>xs.getD i 0 == ys.getD i 0) = (xs == ys)
 | [],[],_=>rfl
 | x :: xs,y :: ys,h=>by
  have ih:=all_rangeI xs ys (by simpa using h)
  rw [List.length_cons,List.range_succ_eq_map,List.all_cons,List.all_map]
  simp only [List.getD_cons_zero,Function.comp_def,List.getD_cons_succ,ih]
  simp [List.cons_beq_cons]
 | [],_ :: _,h=>by simp at h
 | _ :: _,[],h=>by simp at h
theorem xI {e:TypeId} (hag:pureOf P (isAgg e) = some false) (xs:List Int) (i:Nat) (hi:i < xs.length):pureOf P (part e ⟨xs.map iv⟩ i) = some (iv (xs.getD i 0)):=by
 unfold part
 rw [iH _ _ _ hag]
 have hx:(⟨xs.map iv⟩:Array Value)[i]? = some (iv (xs.getD i 0)):=by
  show (List.toArray (xs.map iv))[i]? = _
  rw [List.getElem?_toArray,List.getElem?_map,List.getElem?_eq_getElem hi]
  simp [List.getD,List.getElem?_eq_getElem hi]
 simp only [Bool.false_eq_true,if_false]
 rw [hx]
 rfl
theorem xJ (d:Nat) {t e:TypeId} {n:Nat} (ht:P.underlying t = some (.array n e)) (he:P.underlying e = some (.int .i64)) (hag:pureOf P (isAgg e) = some false) (hsz:pureOf P (sizeOf e) = some 1)
  (xs ys:List Int) (hx:xs.length = n) (hy:ys.length = n) :
  pureOf P (Op.equalIn (d + 2) t (.agg ⟨xs.map iv⟩) (.agg ⟨ys.map iv⟩)) = some (xs == ys):=by
 rw [← all_rangeI xs ys (hx.trans hy.symm),hx,List.range_eq_range',Op.equalIn]
 rw [iH _ _ _ (pureOf_und ht)]
 simp only
 rw [iH _ _ _ hsz]
 simp only [Std.Legacy.Range.forIn_eq_forIn_range',Std.Legacy.Range.size,Nat.sub_zero,Nat.add_sub_cancel,Nat.div_one]
 have hl:∀ i ∈ List.range' 0 n 1,i < n:=fun i hi=>by simpa using (List.mem_range'_1.1 hi).2
 generalize List.range' 0 n 1 = l at hl ⊢
 induction l with
 | nil=>rfl
 | cons i l ih =>
  have hi:i < n:=hl i (by simp)
  have px:pureOf P (part e ⟨xs.map iv⟩ (i * 1)) = some (iv (xs.getD i 0)):=by rw [Nat.mul_one]; exact xI hag xs i (by omega)
  have py:pureOf P (part e ⟨ys.map iv⟩ (i * 1)) = some (iv (ys.getD i 0)):=by rw [Nat.mul_one]; exact xI hag ys i (by omega)
  have pe:pureOf P (Op.equalIn (d + 1) e (iv (xs.getD i 0)) (iv (ys.getD i 0))) = some (xs.getD i 0 == ys.getD i 0):=by
   rw [Op.equalIn,iH _ _ _ (pureOf_und he)]
   rfl
  rw [List.all_cons]
  simp only [List.forIn_cons,bind_assoc]
  rw [iH _ _ _ px,iH _ _ _ py,iH _ _ _ pe]
  cases hb:(xs.getD i 0 == ys.getD i 0)
  ·rfl
  ·exact ih fun j hj=>hl j (by simp [hj])
end
end Go.Ev

/- Rows that are made at once, and stored one by one. -/
namespace Go.Ev
open Go.RowKit
section
variable {P:Program} {t:T Value} {h:AHeap} {call:CallT} {ops:Array Oper} {n:Nat} {rest:List Oper} {KR:T Value → AHeap → Bool} {dst:Option Tmp} {ty a e:TypeId} {pos:String} {af:Array Edge} {g:Option (Nat × Bool)}
/-- A new slice of rows. -/
theorem wr_makeRows {x y:Operand} {k sz:Nat} {ei:TypeInfo} {z:Value} (h1:fE P a = some e) (h2:P.info? e = some ei) (h3:zeroOf P e = some z) (h4:Nat.blt ei.bytes bigNat = true) (h5:ei.size = sz) (h6:z.cells.size = sz)
  (hx:ev P t x = .int .i64 (k:Int)) (hy:ev P t y = .int .i64 (k:Int)) (hk:k < 1000000) (kk:jA P call ops n rest dst t (.slice (some ⟨h.nx,0,none⟩) k k) (h.add ((List.replicate k z.cells.toList).flatten)) KR = true) :
  wrR P call ops n rest (.makeSlice a x y) dst t h KR = true:=by
 have hb:Nat.blt k bigNat = true:=by rw [Nat.blt_eq]; exact hk
 have he:repl z.cells.toList k [] = (List.replicate k z.cells.toList).flatten:=by rw [repl_eq,List.append_nil]
 have h6':Nat.beq z.cells.size ei.size = true:=by rw [h5,h6]; exact Nat.beq_refl _
 have hx':ev P t x = .int .i64 (.ofNat k):=hx
 have hy':ev P t y = .int .i64 (.ofNat k):=hy
 simp only [wrR,bI,lJ,h1,hx',hy',mG,h2,h3,Nat.ble_eq_true_of_le (Nat.le_refl k),hb,h4,h6',Bool.and_self,cond_true,kV,he]
 exact kk
/-- A store of a row into the middle of a block. -/
theorem uU {x y:Operand} {k0 B off s:Nat} {c:List Value} {fam:Nat} {ls:List Value} (hx:ev P t x = .pointer (some ⟨B,off,none⟩)) (hy:ev P t y = .agg ⟨ls⟩) (hs:bH P a = some s) (hne:0 < s) (hls:ls.length = s)
  (hg:h.bl.get B = some (.cells c fam false)) (hf:h.fams.get fam = some [k0]) (hl:off + s ≤ c.length) (K:KV):bI P call t h ⟨dst,.store a x y,ty,pos,af,g⟩ K = K undef (h.upd B (c.take off ++ ls ++ c.drop (off + s)) fam):=by
 have h2:(okV (.agg ⟨ls⟩) && Nat.beq (Value.cells (.agg ⟨ls⟩)).size s) = true:=by
  rw [show (Value.cells (.agg ⟨ls⟩)).size = ls.length from rfl,hls,Nat.beq_refl]; rfl
 have h1:Nat.ble (Nat.add off ls.length) c.length = true:=Nat.ble_eq_true_of_le (by rw [hls]; exact hl)
 cases ls with
 | nil=>simp at hls; omega
 | cons v0 l0 =>
  have hc:(Value.cells (.agg ⟨v0 :: l0⟩)).toList = v0 :: l0:=(rfl)
  have he:spliceL c off (v0 :: l0) = c.take off ++ (v0 :: l0) ++ c.drop (off + s):=by
   rw [spliceL_eq c off (v0 :: l0) (by rw [hls]; exact hl),hls]
  simp only [bI,mW,hx,hy,hs,h2,cond_true,hc,gY,hg,jC,h1,dJ,hf,T.setK_eq,he]
  rfl
end
theorem uV {α:Type} {cv:α → List Value} {n:Nat} (hn:∀ x,(cv x).length = n):∀ (l:List α) (i:Nat) (x:α),i < l.length → ((l.map cv).flatten.take (i * n) ++ cv x ++ (l.map cv).flatten.drop (i * n + n)) = ((l.set i x).map cv).flatten
 | [],_,_,h=>by simp at h
 | y :: l,0,x,_=>by
  simp only [List.map_cons,List.flatten_cons,Nat.zero_mul,List.take_zero,List.nil_append,Nat.zero_add,List.set_cons_zero]
  rw [List.drop_append_of_le_length (by rw [hn]; exact Nat.le_refl _),List.drop_of_length_le (by rw [hn]; exact Nat.le_refl _),List.nil_append]
 | y :: l,i + 1,x,h=>by
  simp only [List.map_cons,List.flatten_cons,List.set_cons_succ]
  have ih:=uV hn l i x (by simpa using h)
  rw [← ih]
  have e1:(i + 1) * n = (cv y).length + i * n:=by rw [hn,Nat.succ_mul]; omega
  rw [e1,List.take_length_add_append,show (cv y).length + i * n + n = (cv y).length + (i * n + n) from by omega,List.drop_length_add_append]
  simp only [List.append_assoc]
end Go.Ev

/- Bodies with labels. -/
namespace Go.Ev
open Go.RowKit
def scopeK (K:KT):KT:=fun e t h ds=>match e with | .goto _=>false|e=>K e t h ds
section
variable {P:Program} {pr:Prim} {R:ExT} {n:Nat} {rd:Option Nat} {t:T Value} {h:AHeap} {ds:List Nat} {K:KT}
theorem Steps.scope (S:Steps P pr R) {b:Code} (k:R n rd b t h ds (scopeK K) = true):R n rd (.scope b) t h ds K = true:=S.step k
theorem Steps.label (S:Steps P pr R) {l:Nat} (k:K .normal t h ds = true):R n rd (.label l) t h ds K = true:=S.step k
theorem scopeK_ret:scopeK K .ret t h ds = K .ret t h ds:=(rfl)
end
end Go.Ev

/- Slices of integers that grew, stored into in place; new slices of integers, as an operation that hands on. -/
namespace Go.Ev
open Go.RowKit
end Go.Ev
namespace Go.Ev
open Go.RowKit
section
variable {P:Program} {call:CallT} {ops:Array Oper} {n:Nat} {rest:List Oper} {t:T Value} {h h':AHeap} {KR:T Value → AHeap → Bool}
theorem rD {w:Option Bool} {o:Option Value} {v:Value} {f:Nat} {l:List Info} {done i:Nat} {q:Oper} {hist:List Seen} (hr:o = some v) (k:drR w (some v) P call ops n f l done i q hist t h KR = true):drR w o P call ops n f l done i q hist t h KR = true:=by rw [hr]; exact k
end
end Go.Ev

/- Slices that grow beside each other. -/
namespace Go.Ev
open Go.RowKit
section
variable {P:Program} {n:Nat} {t:T Value} {h:AHeap} {ops:Array Oper} {call:CallT} {dst:Option Tmp} {rest:List Oper} {KR:T Value → AHeap → Bool}
theorem wr_grown {lo sz F:Nat} {v:Value} {cs:List (List Value)} {c:List Value} {e:TypeId} {st xt e':TypeId} {s x:Operand} {bx cx fx:Nat} {rx:Bool} (hst:fE P st = some e) (hxt:P.underlying xt = some (.slice e')) (hs:ev P t s = v) (hx:ev P t x = .slice (some ⟨bx,0,none⟩) 1 cx)
  (k:App lo h sz v cs F) (hHh:lo ≤ h.nx) (hsz:bH P e = some sz) (hc:c.length = sz) (hpos:0 < sz) (hbx:h.bl.get bx = some (.cells c fx rx)) (hnum:eY P e 1 = true) (hn:cs.length + 1 < bigNat)
  (kk:∀ v' h' F',Grown lo h h' sz v' cs c F F' → jA P call ops n rest dst t v' h' KR = true) :
  wrR P call ops n rest (.call ⟨.builtin .append,#[s,x],#[st,xt]⟩) dst t h KR = true:=by
 obtain ⟨v',h',F',hw,hg⟩:=aw_append (call:=call) (dst:=dst) (ty:=0) (pos:= "") (af:=#[]) (g:=none) hst hxt hs hx k hHh hsz hc hpos hbx hnum hn
 unfold wrR
 rw [hw]
 exact kk v' h' F' hg
end
theorem App.blk_lt1 {lo:Nat} {h:AHeap} {sz F b:Nat} {v:Value} {cs:List (List Value)} (k:App lo h sz v cs F) (hb:blk v = some b):b < h.nx:=by
 rcases k with ⟨_,rfl⟩|⟨b',l,_,rfl,_,k3,_⟩
 ·cases hb
 ·cases hb; exact k3
section
variable {lo:Nat} {h h':AHeap} {xs ys:List (List Value)} {xv yv xv':Value} {F1 F2 F1':Nat} {c:List Value}
end
section
variable {lo:Nat} {h h':AHeap} {xs ys zs:List (List Value)} {xv yv zv xv':Value} {F1 F2 F3 F1':Nat} {c:List Value}
end
end Go.Ev

/- Copies of integers onto a block; maps whose keys are pairs of integers and whose values are structs of integers. -/
namespace Go.Ev
open Go.RowKit
section
variable {P:Program} {call:CallT} {t:T Value} {h:AHeap} {dst:Option Tmp} {ty:TypeId} {ps:String} {af:Array Edge} {g:Option (Nat × Bool)}
end
/-! ## Maps of pairs to structs -/
section
variable {β:Type}
variable {P:Program} {mt kt vt:TypeId} {cv:β → List Value}
end
end Go.Ev

/- Ranges over functions: iterators by contract. -/
namespace Go.Ev
open Go.RowKit

/-- All that is not in S is as it was. -/
structure Out (S:Nat → Prop) (h h':AHeap):Prop where
 le:h.nx ≤ h'.nx
 kp:∀ j,j < h.nx → ¬ S j → h'.bl.get j = h.bl.get j ∧ h'.fams.get j = h.fams.get j
/-- What is in S is as it was, and what is below N but not in W. -/
structure Bd (S W:Nat → Prop) (N:Nat) (h h':AHeap):Prop where
 le:h.nx ≤ h'.nx
 kp:∀ j,j < h.nx → (S j ∨ (j < N ∧ ¬ W j)) → h'.bl.get j = h.bl.get j ∧ h'.fams.get j = h.fams.get j
/-- What holds of the blocks that are not in S. -/
def Stable (I:(Nat → Prop) → AHeap → Prop):Prop:=∀ S S' h h',I S h → Out S h h' → (∀ j,j < h.nx → S' j → S j) → I S' h'

section
variable {S W:Nat → Prop} {N:Nat} {h h' h'':AHeap}
theorem Out.refl:Out S h h:=⟨Nat.le_refl _,fun _ _ _=>⟨rfl,rfl⟩⟩
theorem Out.trans (a:Out S h h') (b:Out S h' h''):Out S h h'':=⟨Nat.le_trans a.le b.le,fun j hj hn=>⟨((b.kp j (Nat.lt_of_lt_of_le hj a.le) hn).1).trans (a.kp j hj hn).1,((b.kp j (Nat.lt_of_lt_of_le hj a.le) hn).2).trans (a.kp j hj hn).2⟩⟩
theorem Kp.out (a:Kp h h'):Out S h h':=⟨a.1,fun j hj _=>a.2 j hj⟩
theorem Out.weak {S':Nat → Prop} (a:Out S h h') (k:∀ j,j < h.nx → S j → S' j):Out S' h h':=⟨a.le,fun j hj hn=>a.kp j hj fun hs=>hn (k j hj hs)⟩
theorem Out.get (a:Out S h h') {j:Nat} (hj:j < h.nx) (hn:¬ S j):h'.bl.get j = h.bl.get j:=(a.kp j hj hn).1
theorem Out.fget (a:Out S h h') {j:Nat} (hj:j < h.nx) (hn:¬ S j):h'.fams.get j = h.fams.get j:=(a.kp j hj hn).2
theorem Bd.refl:Bd S W N h h:=⟨Nat.le_refl _,fun _ _ _=>⟨rfl,rfl⟩⟩
theorem Bd.trans (a:Bd S W N h h') (b:Bd S W N h' h''):Bd S W N h h'':=⟨Nat.le_trans a.le b.le,fun j hj hn=>⟨((b.kp j (Nat.lt_of_lt_of_le hj a.le) hn).1).trans (a.kp j hj hn).1,((b.kp j (Nat.lt_of_lt_of_le hj a.le) hn).2).trans (a.kp j hj hn).2⟩⟩
theorem Kp.bd (a:Kp h h'):Bd S W N h h':=⟨a.1,fun j hj _=>a.2 j hj⟩
theorem Bd.get (a:Bd S W N h h') {j:Nat} (hj:j < h.nx) (hn:S j ∨ (j < N ∧ ¬ W j)):h'.bl.get j = h.bl.get j:=(a.kp j hj hn).1
theorem Bd.fget (a:Bd S W N h h') {j:Nat} (hj:j < h.nx) (hn:S j ∨ (j < N ∧ ¬ W j)):h'.fams.get j = h.fams.get j:=(a.kp j hj hn).2
theorem Bd.out {H:AHeap} (a:Out W H h) (b:Bd S W H.nx h h'):Out W H h':=⟨Nat.le_trans a.le b.le,fun j hj hn=>⟨((b.kp j (Nat.lt_of_lt_of_le hj a.le) (.inr ⟨hj,hn⟩)).1).trans (a.kp j hj hn).1,((b.kp j (Nat.lt_of_lt_of_le hj a.le) (.inr ⟨hj,hn⟩)).2).trans (a.kp j hj hn).2⟩⟩
theorem Stable.kp {I:(Nat → Prop) → AHeap → Prop} (s:Stable I) (i:I S h) (a:Kp h h'):I S h':=s _ _ _ _ i a.out fun _ _ k=>k
theorem Stable.sub {I:(Nat → Prop) → AHeap → Prop} (s:Stable I) {S':Nat → Prop} (i:I S h) (k:∀ j,j < h.nx → S' j → S j):I S' h:=s _ _ _ _ i Out.refl k
end

theorem Bd.mono {S S' W:Nat → Prop} {N:Nat} {h h':AHeap} (b:Bd S W N h h') (k:∀ j,j < h.nx → S' j → S j):Bd S' W N h h':=⟨b.le,fun j hj hn=>b.kp j hj (by rcases hn with hn|hn; exact .inl (k j hj hn); exact .inr hn)⟩
theorem Out.bd {S S' W:Nat → Prop} {N:Nat} {h h':AHeap} (b:Out S h h') (k:∀ j,j < h.nx → (S' j ∨ (j < N ∧ ¬ W j)) → ¬ S j):Bd S' W N h h':=⟨b.le,fun j hj hn=>b.kp j hj (k j hj hn)⟩
/-- A new block that is no row of cells. -/
def AHeap.putN (h:AHeap) (o:AObj):AHeap:=⟨T.set (h.nx + 1) h.bl h.nx o,h.nx + 1,h.fams⟩
theorem newO_put (h:AHeap) (o:AObj) (K:Nat → AHeap → Bool):newO h o K = K h.nx (h.putN o):=by
 simp only [newO,bP,T.setK_eq]; rfl
theorem kM (h:AHeap) (r:Nat) (o:AObj) (K:AHeap → Bool):setO h r o K = K (h.setm r o):=by
 simp only [setO,T.setK_eq]; rfl
theorem putN_eq {h:AHeap} {o:AObj}:(h.putN o).bl.get h.nx = some o:=aU (Nat.lt_succ_self _)
theorem putN_ne {h:AHeap} {o:AObj} {j:Nat} (e:j ≠ h.nx):(h.putN o).bl.get j = h.bl.get j:=aQ (Nat.lt_succ_self _) e
theorem putN_nx {h:AHeap} {o:AObj}:(h.putN o).nx = h.nx + 1:=rfl
theorem Kp.putN {h h':AHeap} {o:AObj} (a:Kp h h'):Kp h (h'.putN o):=⟨Nat.le_succ_of_le a.1,fun k hk=>by
 have:=a.1
 rw [putN_ne (by omega)]
 exact a.2 k hk⟩

/-- What is done in turn for each of the elements xs by a call of an iterator; W: what else than new blocks may be changed by what is done. -/
def Iters (P:Program) (R:ExT) (g:FuncId) (args:Value → List Value) (h0:AHeap) (W:Nat → Prop) {α:Type} (xs:List α) (At:α → (Nat → Prop) → AHeap → List Value → Prop):Prop:=
 ∀ (l:Nat) (I:Nat → (Nat → Prop) → AHeap → Prop) (E:(Nat → Prop) → AHeap → Prop) (K:KV),
  (∀ k,Stable (I k)) → Stable E → I 0 (fun _=>False) h0 →
  (∀ k x S h as,xs[k]? = some x → At x S h as → I k S h → Out W h0 h → (∀ j,S j → h0.nx ≤ j ∧ j < h.nx) → ∀ Ky:KV,(∀ h',Bd S W h0.nx h h' → I (k + 1) S h' → Ky (.bool true) h' = true) → (∀ h',Bd S W h0.nx h h' → E S h' → Ky (.bool false) h' = true) → qL R l as h Ky = true) →
  (∀ S h,I xs.length S h → Out W h0 h → K (.tuple ⟨[]⟩) h = true) → (∀ S h,E S h → Out W h0 h → K (.tuple ⟨[]⟩) h = true) →
  dU P R g (args (.func (.yield l) #[] #[])) h0 K = true

section
variable {P:Program} {pr:Prim} {R:ExT} {n:Nat} {rd:Option Nat} {t:T Value} {h:AHeap} {ds:List Nat} {K:KT}

theorem callGo_eq {g:FuncId} {first captured:Array Value} {fn:Func} {c:Code} (hfn:P.funcs[g]? = some fn) (hb:fn.body = some c) (args:List Value) (K:KV):vX P R (.func (.func g) first captured) args h K = dU P R g (first.toList ++ args ++ captured.toList) h K:=by
 simp only [vX,dU,hfn,hb]

/-- A heap in which block l alone may be another. -/
structure But (l:Nat) (h h':AHeap):Prop where
 nx:h'.nx = h.nx
 kp:∀ j,j ≠ l → h'.bl.get j = h.bl.get j
 fam:∀ j,h'.fams.get j = h.fams.get j
theorem But.setm {l:Nat} {o:AObj}:But l h (h.setm l o):=⟨rfl,fun _ hj=>gK hj,fun _=>setm_fams⟩
theorem But.out {l:Nat} {S:Nat → Prop} {h h':AHeap} (a:But l h h') (hl:S l):Out S h h':=⟨by rw [a.nx]; exact Nat.le_refl _,fun j _ hn=>⟨a.kp j fun e=>hn (e ▸ hl),a.fam j⟩⟩
theorem But.get {l:Nat} {h h':AHeap} (a:But l h h') {j:Nat} (hj:j ≠ l):h'.bl.get j = h.bl.get j:=a.kp j hj

theorem Steps.rangeFn (S:Steps P pr R) {f:Operand} {ps:Array Tmp} {as bo:Code} {g:FuncId} {first captured:Array Value} {fn:Func} {c:Code} {W:Nat → Prop} {α:Type} {xs:List α} {At:α → (Nat → Prop) → AHeap → List Value → Prop} {d l:Nat}
  (I:Nat → (Nat → Prop) → AHeap → Prop) (E:Exit → (Nat → Prop) → AHeap → Prop)
  (hf:ev P t f = .func (.func g) first captured) (hfn:P.funcs[g]? = some fn) (hb:fn.body = some c) (hd:d = h.nx) (hl:l = h.nx + 1)
  (hit:∀ h2,Kp h h2 → h2.nx = h.nx + 2 → Iters P R g (fun y=>first.toList ++ [y] ++ captured.toList) h2 (fun j=>W j ∨ j = l) xs At)
  (hI:∀ k,Stable (I k)) (hE:∀ e,Stable (E e))
  (start:∀ h2,Kp h h2 → h2.nx = h.nx + 2 → I 0 (fun j=>j = d ∨ j = l) h2)
  (hps:∀ x S h1 args,At x S h1 args → (Nat.beq args.length ps.size && ps.toList.all (fun p=>Nat.blt p n)) = true)
  (body:∀ k x U h1 args,xs[k]? = some x → At x U h1 args → (∀ j,U j → h.nx + 2 ≤ j ∧ j < h1.nx) → I k (fun j=>U j ∨ j = d ∨ j = l) h1 → Out (fun j=>W j ∨ j = l) h h1 → h.nx + 2 ≤ h1.nx →
   ∀ KA:KT,(∀ t2 h2,Kp h1 h2 → (∀ hb,But l h2 hb → ∀ K':KT,
     (∀ t' h',Bd (fun j=>U j ∨ j = d ∨ j = l) W h.nx hb h' → I (k + 1) (fun j=>U j ∨ j = d ∨ j = l) h' → K' .normal t' h' [] = true) →
     (∀ t' h',Bd (fun j=>U j ∨ j = d ∨ j = l) W h.nx hb h' → E .ret (fun j=>U j ∨ j = d ∨ j = l) h' → K' .ret t' h' [] = true) →
     (∀ id t' h',Bd (fun j=>U j ∨ j = d ∨ j = l) W h.nx hb h' → E (.exit id) (fun j=>U j ∨ j = d ∨ j = l) h' → K' (.exit id) t' h' [] = true) →
     R n (some l) bo t2 hb [] K' = true) → KA .normal t2 h2 [] = true) →
   R n (some l) as (iD ps.toList args t id) h1 [] KA = true)
  (done:∀ (U:Nat → Prop) (h1:AHeap),I xs.length (fun j=>U j ∨ j = d ∨ j = l) h1 → Out (fun j=>W j ∨ j = d ∨ j = l) h h1 → d < h1.nx → h1.bl.get d = some (.deferred true) → K .normal t h1 (d :: ds) = true)
  (stop:∀ (e:Exit) (U:Nat → Prop) (h1:AHeap),E e (fun j=>U j ∨ j = d ∨ j = l) h1 → (e = .ret ∨ ∃ id,e = .exit id) → Out (fun j=>W j ∨ j = d ∨ j = l) h h1 → d < h1.nx → h1.bl.get d = some (.deferred true) → K e t h1 (d :: ds) = true) :
  R n none (.rangeFunc f ps as bo) t h ds K = true:=by
 refine S.step ?_
 show eF P R n none (.rangeFunc f ps as bo) t h ds K = true
 simp only [eF,newO_put,hf]
 rw [callGo_eq hfn hb]
 have hk1:Kp h (h.putN (.deferred true)):=Kp.refl.putN
 obtain ⟨h2,hh2⟩:∃ x,x = (h.putN (.deferred true)).putN (.loop .ready none t n ps as bo h.nx):=⟨_,rfl⟩
 have hl2:h2.bl.get l = some (.loop .ready none t n ps as bo h.nx):=by subst hl; subst hh2; exact putN_eq
 have hd2:h2.bl.get d = some (.deferred true):=by
  subst hd; subst hh2
  rw [putN_ne (by rw [putN_nx]; omega)]; exact putN_eq
 have hk2:Kp h h2:=by subst hh2; exact hk1.putN
 have hn2:h2.nx = h.nx + 2:=by subst hh2; rfl
 rw [← hh2,show (h.putN (.deferred true)).nx = l from by rw [hl]; rfl]
 have hdl:d ≠ l:=by omega
 -- what is kept at the points of the iterator
 refine hit h2 hk2 hn2 l (fun k U h1=>I k (fun j=>U j ∨ j = d ∨ j = l) h1 ∧ l < h1.nx ∧ (¬ U l ∧ ¬ U d ∧ h1.bl.get d = some (.deferred true) ∧ h1.bl.get l = some (.loop .ready none t n ps as bo h.nx)))
  (fun U h1=>∃ e pe,E e (fun j=>U j ∨ j = d ∨ j = l) h1 ∧ l < h1.nx ∧ (¬ U l ∧ ¬ U d ∧ h1.bl.get d = some (.deferred true) ∧ h1.bl.get l = some (.loop .done (some pe) t n ps as bo h.nx)) ∧ ((e = .ret ∧ pe = .ret) ∨ ∃ id,e = .exit id ∧ pe = .exit id)) _ ?_ ?_ ?_ ?_ ?_ ?_
 ·rintro k U U' h1 h1' ⟨i1,i2,i3,i4,i5,i6⟩ ho hu
  refine ⟨hI k _ _ _ _ i1 (ho.weak fun j _ hj=>.inl hj) fun j hj hj'=>?_,Nat.lt_of_lt_of_le i2 ho.le,fun q=>i3 (hu _ i2 q),fun q=>i4 (hu _ (by omega) q),(ho.get (by omega) i4).trans i5,(ho.get i2 i3).trans i6⟩
  rcases hj' with hj'|hj'
  ·exact .inl (hu j hj hj')
  ·exact .inr hj'
 ·rintro U U' h1 h1' ⟨e,pe,i1,i2,⟨i3,i4,i5,i6⟩,i7⟩ ho hu
  refine ⟨e,pe,hE e _ _ _ _ i1 (ho.weak fun j _ hj=>.inl hj) fun j hj hj'=>?_,Nat.lt_of_lt_of_le i2 ho.le,⟨fun q=>i3 (hu _ i2 q),fun q=>i4 (hu _ (by omega) q),(ho.get (by omega) i4).trans i5,(ho.get i2 i3).trans i6⟩,i7⟩
  rcases hj' with hj'|hj'
  ·exact .inl (hu j hj hj')
  ·exact .inr hj'
 ·refine ⟨hI 0 _ _ _ _ (start h2 hk2 hn2) Out.refl fun j _ hj=>?_,by omega,fun q=>q,fun q=>q,hd2,hl2⟩
  rcases hj with hj|hj
  ·exact hj.elim
  ·exact hj
 ·rintro k x U h1 args hx hat ⟨i1,i2,i3,i4,i5,i6⟩ ho hU Ky kt kf
  have hpa:=hps x U h1 args hat
  simp only [qL,i6,hpa,cond_true]
  have hsp:∀ (l:List Tmp) (vs:List Value) (t:T Value) (K:T Value → Bool),iD l vs t K = K (iD l vs t id):=by
   intro l
   induction l with
   | nil=>intro vs t K; rfl
   | cons p l ih =>
    intro vs t K
    cases vs with
    | nil=>rfl
    | cons v vs =>
     simp only [iD,aZ,T.setK_eq]
     exact ih _ _ _
  rw [hsp]
  have ho2:Out (fun j=>W j ∨ j = l) h h1:=⟨by have:=ho.le; omega,fun j hj hn=>⟨((ho.kp j (by omega) hn).1).trans (hk2.2 j hj).1,((ho.kp j (by omega) hn).2).trans (hk2.2 j hj).2⟩⟩
  refine body k x U h1 args hx hat (fun j hj=>by have:=hU j hj; omega) i1 ho2 (by have:=ho.le; omega) _ fun t2 g hkg hgo=>?_
  have i6g:=(hkg.get i2).trans i6
  have i5g:=(hkg.get (by omega:d < h1.nx)).trans i5
  simp only [uJ,beginK,i6g,kM]
  have hbut:But l g (g.setm l (.loop .busy none t n ps as bo h.nx)):=But.setm
  have hbusy:(g.setm l (.loop .busy none t n ps as bo h.nx)).bl.get l = some (.loop .busy none t n ps as bo h.nx):=rC
  have hgd:(g.setm l (.loop .busy none t n ps as bo h.nx)).bl.get d = some (.deferred true):=(gK hdl).trans i5g
  have hgn:(g.setm l (.loop .busy none t n ps as bo h.nx)).nx = g.nx:=rfl
  have hgo2:=hgo _ hbut (roundEnd l Ky)
  have hle1:=hkg.1
  -- a step of the body, seen from the iterator
  have bdd:∀ h' o,Bd (fun j=>U j ∨ j = d ∨ j = l) W h.nx (g.setm l (.loop .busy none t n ps as bo h.nx)) h' → Bd U (fun j=>W j ∨ j = l) h2.nx h1 (h'.setm l o):=by
   intro h' o b
   refine ⟨Nat.le_trans hle1 b.le,fun j hj hn=>?_⟩
   have hjl:j ≠ l:=by
    rintro rfl
    rcases hn with hn|hn
    ·exact i3 hn
    ·exact hn.2 (.inr rfl)
   have hg1:(g.setm l (.loop .busy none t n ps as bo h.nx)).bl.get j = h1.bl.get j:=(gK hjl).trans (hkg.get hj)
   have hg2:(g.setm l (.loop .busy none t n ps as bo h.nx)).fams.get j = h1.fams.get j:=setm_fams.trans (hkg.fget hj)
   have key:j < (g.setm l (.loop .busy none t n ps as bo h.nx)).nx ∧ ((U j ∨ j = d ∨ j = l) ∨ (j < h.nx ∧ ¬ W j)):=by
    refine ⟨by rw [hgn]; omega,?_⟩
    rcases hn with hn|⟨hn1,hn2⟩
    ·exact .inl (.inl hn)
    ·by_cases hjd:j = d
     ·exact .inl (.inr (.inl hjd))
     ·exact .inr ⟨by omega,fun q=>hn2 (.inl q)⟩
   exact ⟨(gK hjl).trans ((b.get key.1 key.2).trans hg1),setm_fams.trans ((b.fget key.1 key.2).trans hg2)⟩
  have hlb:∀ h',Bd (fun j=>U j ∨ j = d ∨ j = l) W h.nx (g.setm l (.loop .busy none t n ps as bo h.nx)) h' → h'.bl.get l = some (.loop .busy none t n ps as bo h.nx) ∧ h'.bl.get d = some (.deferred true) ∧ l < h'.nx:=fun h' b =>
   ⟨(b.get (by rw [hgn]; omega) (.inl (.inr (.inr rfl)))).trans hbusy,(b.get (by rw [hgn]; omega) (.inl (.inr (.inl rfl)))).trans hgd,by have:=b.le; rw [hgn] at this; omega⟩
  refine hgo2 (fun t' h' b hi=>?_) (fun t' h' b he=>?_) (fun id t' h' b he=>?_)
  ·obtain ⟨q1,q2,q3⟩:=hlb h' b
   simp only [roundEnd,kD,q1,kM]
   exact kt _ (bdd _ _ b) ⟨hI _ _ _ _ _ hi (But.setm.out (.inr (.inr rfl))) fun j _ k=>k,q3,i3,i4,(gK hdl).trans q2,rC⟩
  ·obtain ⟨q1,q2,q3⟩:=hlb h' b
   simp only [roundEnd,kD,q1,kM]
   exact kf _ (bdd _ _ b) ⟨.ret,.ret,hE _ _ _ _ _ he (But.setm.out (.inr (.inr rfl))) fun j _ k=>k,q3,⟨i3,i4,(gK hdl).trans q2,rC⟩,.inl ⟨rfl,rfl⟩⟩
  ·obtain ⟨q1,q2,q3⟩:=hlb h' b
   simp only [roundEnd,kD,q1,kM]
   exact kf _ (bdd _ _ b) ⟨.exit id,.exit id,hE _ _ _ _ _ he (But.setm.out (.inr (.inr rfl))) fun j _ k=>k,q3,⟨i3,i4,(gK hdl).trans q2,rC⟩,.inr ⟨id,rfl,rfl⟩⟩
 ·rintro U h1 ⟨i1,i2,i3,i4,i5,i6⟩ ho
  simp only [after,i6,kM]
  rw [← hd]
  refine done U _ (hI _ _ _ _ _ i1 (But.setm.out (.inr (.inr rfl))) fun j _ k=>k) ?_ (by show d < h1.nx; omega) ((gK hdl).trans i5)
  refine ⟨by have:=ho.le; show h.nx ≤ h1.nx; omega,fun j hj hn=>?_⟩
  have hjl:j ≠ l:=fun e=>hn (.inr (.inr e))
  have k1:=ho.kp j (by omega) (fun q=>hn (by rcases q with q|q; exact .inl q; exact .inr (.inr q)))
  exact ⟨(gK hjl).trans (k1.1.trans (hk2.2 j hj).1),setm_fams.trans (k1.2.trans (hk2.2 j hj).2)⟩
 ·rintro U h1 ⟨e,pe,i1,i2,⟨i3,i4,i5,i6⟩,i7⟩ ho
  simp only [after,i6,kM]
  rw [← hd]
  have ho2:Out (fun j=>W j ∨ j = d ∨ j = l) h (h1.setm l .gone):=by
   refine ⟨by have:=ho.le; show h.nx ≤ h1.nx; omega,fun j hj hn=>?_⟩
   have hjl:j ≠ l:=fun e=>hn (.inr (.inr e))
   have k1:=ho.kp j (by omega) (fun q=>hn (by rcases q with q|q; exact .inl q; exact .inr (.inr q)))
   exact ⟨(gK hjl).trans (k1.1.trans (hk2.2 j hj).1),setm_fams.trans (k1.2.trans (hk2.2 j hj).2)⟩
  have i1':E e (fun j=>U j ∨ j = d ∨ j = l) (h1.setm l .gone):=hE _ _ _ _ _ i1 (But.setm.out (.inr (.inr rfl))) fun j _ k=>k
  rcases i7 with ⟨rfl,rfl⟩|⟨id,rfl,rfl⟩
  ·exact S.ret (stop .ret U _ i1' (.inl rfl) ho2 (by show d < h1.nx; omega) ((gK hdl).trans i5))
  ·exact S.exit (stop (.exit id) U _ i1' (.inr ⟨id,rfl⟩) ho2 (by show d < h1.nx; omega) ((gK hdl).trans i5))

theorem rE {d:Nat} {KE:AHeap → Bool} (hd:h.bl.get d = some (.deferred true)):aI h [d] KE = KE (h.setm d (.deferred false)):=by
 simp only [aI,hd,kM]
/-! ## The side of the iterator -/
variable {ops:Array Oper} {rest:List Oper} {KR:T Value → AHeap → Bool} {dst:Option Tmp}
variable {f:Nat} {i m done:Nat} {L:List Info} {hist:List Seen} {ty:TypeId} {ps:String} {af:Array Edge} {gd:Option (Nat × Bool)} {d:Tmp}
theorem drW_yield {fo:Operand} {xs:Array Operand} {ts:Array TypeId} {l:Nat} (hf:ev P t fo = .func (.yield l) #[] #[]) (hd:d < n)
  (k:qL R l (evL P t xs.toList) h (fun v h'=>bif again P h' m hist then bQ P (bW pr (cZ P R)) ops n 0 [] f L (Nat.lor done (Nat.pow 2 i)) hist (T.set (d + 1) t d v) h' KR else false) = true) :
  drW (some true) P (bW pr (cZ P R)) ops n f L done i m ⟨some d,.call ⟨.value fo,xs,ts⟩,ty,ps,af,gd⟩ hist t h KR = true:=by
 have hb:Nat.blt d n = true:=by rw [Nat.blt_eq]; exact hd
 simp only [drW,bI,kR,hf,bW,cZ,iV,hb,cond_true,aZ,T.setK_eq]
 exact k
theorem yk_of {a b:Bool} (ha:a = true) (hb:b = true):(bif a then b else false) = true:=by subst ha; subst hb; rfl
theorem xK {q:Option Addr} {a c:Nat}:boxR (.slice q a c) P (bW pr (cZ P R)) ops n rest dst t h KR = jA P (bW pr (cZ P R)) ops n rest dst t (.pointer (some ⟨h.nx,0,none⟩)) (h.add [.slice q a c]) KR:=(rfl)
theorem gI {x y:Operand} {a:TypeId} {k0 B off:Nat} {v:Value} {c:List Value} {fam:Nat} (hx:ev P t x = .pointer (some ⟨B,off,none⟩)) (hy:ev P t y = v) (hs:bH P a = some 1) (ho:okV v = true) (hvl:v.cells.toList = [v])
  (hg:h.bl.get B = some (.cells c fam false)) (hf:h.fams.get fam = some [k0]) (hl:off < c.length) (kk:jA P (bW pr (cZ P R)) ops n rest dst t undef (h.upd B (c.set off v) fam) KR = true):wrR P (bW pr (cZ P R)) ops n rest (.store a x y) dst t h KR = true:=by
 unfold wrR
 rw [jK hx hy hs ho hvl hg hf hl]
 exact kk
/-- A call is what its body does. -/
theorem call_run {g:FuncId} {args:List Value} {K:KV} {fn:Func} {c:Code} (hf:P.funcs[g]? = some fn) (hb:fn.body = some c) (hname:(fn.name == "runtime.NumGoroutine") = false) (hlen:Nat.ble args.length fn.ntmps = true)
  (run:R fn.ntmps none c (bJ args) h [] (finish P fn K) = true):dU P R g args h K = true:=by
 unfold dU
 simp only [hf,hb]
 unfold iE
 rw [hname,cond_false,hlen,cond_true,lN]
 exact run
end
end Go.Ev

/- Slices that grow, and which blocks are theirs. -/
namespace Go.Ev
open Go.RowKit
/-- A slice that has been made by appending: Ow holds of all blocks that it shares cells with. -/
def AppO (Ow:Nat → Prop) (h:AHeap) (sz:Nat) (v:Value) (cs:List (List Value)):Prop:=
 (cs = [] ∧ v = .slice none 0 0) ∨
  ∃ b l F,cs ≠ [] ∧ v = .slice (some ⟨b,0,none⟩) cs.length cs.length ∧ b < h.nx ∧ h.bl.get b = some (.cells cs.flatten F false) ∧ (∀ c,c ∈ cs → c.length = sz) ∧
   F < h.nx ∧ h.fams.get F = some l ∧ (∀ x,x ∈ l → x < h.nx ∧ ∃ c,h.bl.get x = some (.cells c F false)) ∧ h.fams.get b = some [sz] ∧ F ≠ b ∧ Ow F ∧ Ow b ∧ ∀ x,x ∈ l → Ow x
section
variable {P:Program} {h h':AHeap} {sz:Nat} {v:Value} {cs:List (List Value)} {c:List Value} {e:TypeId} {Ow Ow':Nat → Prop}
theorem AppO.nil:AppO Ow h sz (.slice none 0 0) []:=.inl ⟨rfl,rfl⟩
theorem AppO.at (k:AppO Ow h sz v cs):SlAt h sz v cs:=by
 rcases k with ⟨rfl,rfl⟩|⟨b,l,F,k1,rfl,k3,k4,k5,_⟩
 ·exact .inl ⟨rfl,.inl rfl⟩
 ·exact .inr ⟨b,_,F,false,k1,rfl,k3,k4,k5⟩
theorem AppO.weak (k:AppO Ow h sz v cs) (hw:∀ j,j < h.nx → Ow j → Ow' j):AppO Ow' h sz v cs:=by
 rcases k with k|⟨b,l,F,k1,k2,k3,k4,k5,k6,k7,k8,k9,k10,k11,k12,k13⟩
 ·exact .inl k
 ·exact .inr ⟨b,l,F,k1,k2,k3,k4,k5,k6,k7,k8,k9,k10,hw _ k6 k11,hw _ k3 k12,fun x hx=>hw _ (k8 x hx).1 (k13 x hx)⟩
theorem AppO.keep (k:AppO Ow h sz v cs) (hle:h.nx ≤ h'.nx) (hk:∀ j,j < h.nx → Ow j → h'.bl.get j = h.bl.get j ∧ h'.fams.get j = h.fams.get j):AppO Ow h' sz v cs:=by
 rcases k with k|⟨b,l,F,k1,k2,k3,k4,k5,k6,k7,k8,k9,k10,k11,k12,k13⟩
 ·exact .inl k
 ·refine .inr ⟨b,l,F,k1,k2,by omega,((hk b k3 k12).1).trans k4,k5,by omega,((hk F k6 k11).2).trans k7,fun x hx=>?_,((hk b k3 k12).2).trans k9,k10,k11,k12,k13⟩
  obtain ⟨q1,d,q2⟩:=k8 x hx
  exact ⟨by omega,d,((hk x q1 (k13 x hx)).1).trans q2⟩
theorem AppO.veq (k:AppO Ow h sz v cs):veq v v = true:=by
 rcases k with ⟨_,rfl⟩|⟨b,l,F,_,rfl,_⟩
 ·simp only [Go.Ev.veq]
 ·simp only [Go.Ev.veq,Nat.beq_refl,Bool.and_self]
theorem AppO.ow {b:Nat} (k:AppO Ow h sz v cs) (hb:blk v = some b):Ow b:=by
 rcases k with ⟨_,rfl⟩|⟨b',l,F,_,rfl,_,_,_,_,_,_,_,_,_,o2,_⟩
 ·cases hb
 ·cases hb; exact o2
theorem appO_step {bx cx fx:Nat} {rx:Bool} (k:AppO Ow h sz v cs) (hsz:bH P e = some sz) (hc:c.length = sz) (hbx:h.bl.get bx = some (.cells c fx rx)) (hnum:eY P e 1 = true) (hn:cs.length + 1 < bigNat) :
  ∃ v' h',(∀ K:KV,iR P h e v (.slice (some ⟨bx,0,none⟩) 1 cx) K = K v' h') ∧ AppO (fun j=>Ow j ∨ h.nx ≤ j) h' sz v' (cs ++ [c]) ∧ h.nx ≤ h'.nx ∧ (∀ j,j < h.nx → ¬ Ow j → h'.bl.get j = h.bl.get j ∧ h'.fams.get j = h.fams.get j) ∧ ∃ b n k,v' = .slice (some ⟨b,0,none⟩) n k ∧ h.nx ≤ b:=by
 have hsrc:eU h sz (.slice (some ⟨bx,0,none⟩) 1 cx) = some (c,1):=by
  have h1:Nat.ble (Nat.add 0 (Nat.mul 1 sz)) c.length = true:=Nat.ble_eq_true_of_le (by rw [hc]; show 0 + 1 * sz ≤ sz; omega)
  simp only [eU,hbx,h1,cond_true]
  rw [show Nat.mul 1 sz = sz from Nat.one_mul sz,List.drop_zero,List.take_of_length_le (by omega)]
 have hnum2:∀ m,m < bigNat → eY P e m = true:=fun m hm=>oQ hnum hm
 rcases k with ⟨rfl,rfl⟩|⟨b,l,F,k1,rfl,k3,k4,k5,k7,k8,k9,k10,k11,o1,o2,o3⟩
 ·refine ⟨.slice (some ⟨h.nx + 1,0,none⟩) 1 1,h.addS sz c,fun K=>?_,.inr ⟨h.nx + 1,[h.nx + 1],h.nx,by simp,rfl,by show h.nx + 1 < h.nx + 2; omega,?_,?_,by show h.nx < h.nx + 2; omega,?_,?_,?_,by omega,.inr (Nat.le_refl _),.inr (by omega),?_⟩,by show h.nx ≤ h.nx + 2; omega,?_,h.nx + 1,_,_,rfl,by omega⟩
  ·simp only [iR,hsz,hsrc,jZ,hnum,cond_true,growN_eq]
   rfl
  ·show (T.set (h.nx + 2) h.bl (h.nx + 1) (.cells c h.nx false)).get (h.nx + 1) = _
   rw [aU (by omega)]; simp
  ·intro d hd; simp at hd; subst hd; exact hc
  ·show (T.set (h.nx + 2) (T.set (h.nx + 1) h.fams h.nx [h.nx + 1]) (h.nx + 1) [sz]).get h.nx = _
   rw [aQ (by omega) (by omega),aU (by omega)]
  ·intro x hx
   simp at hx; subst hx
   refine ⟨by show h.nx + 1 < h.nx + 2; omega,c,?_⟩
   show (T.set (h.nx + 2) h.bl (h.nx + 1) (.cells c h.nx false)).get (h.nx + 1) = _
   rw [aU (by omega)]
  ·show (T.set (h.nx + 2) (T.set (h.nx + 1) h.fams h.nx [h.nx + 1]) (h.nx + 1) [sz]).get (h.nx + 1) = _
   rw [aU (by omega)]
  ·intro x hx
   simp at hx; subst hx
   exact .inr (by omega)
  ·intro k hk _
   refine ⟨?_,?_⟩
   ·show (T.set (h.nx + 2) h.bl (h.nx + 1) (.cells c h.nx false)).get k = _
    rw [aQ (by omega) (by omega)]
   ·show (T.set (h.nx + 2) (T.set (h.nx + 1) h.fams h.nx [h.nx + 1]) (h.nx + 1) [sz]).get k = _
    rw [aQ (by omega) (by omega),aQ (by omega) (by omega)]
 ·have hfl:∀ {l:List (List Value)},(∀ c,c ∈ l → c.length = sz) → l.flatten.length = l.length * sz:=by
   intro l
   induction l with
   | nil=>intro _; simp
   | cons a l ih =>
    intro hl
    rw [List.flatten_cons,List.length_append,hl a (by simp),ih fun c hc=>hl c (by simp [hc]),List.length_cons,Nat.succ_mul]; omega
  have hlen:=hfl k5
  have hble:Nat.ble (Nat.add 0 (Nat.mul cs.length sz)) cs.flatten.length = true:=Nat.ble_eq_true_of_le (by rw [hlen]; show 0 + cs.length * sz ≤ _; omega)
  have hz:zOk h b sz = true:=by
   unfold zOk
   rw [k4]
   have:Nat.beq F b = false:=by cases e:Nat.beq F b with|true=>exact absurd (Nat.eq_of_beq_eq_true e) k11|false=>rfl
   simp only [this,cond_false,k10,Nat.beq_refl]
  have hcap:Nat.ble (Nat.add cs.length 1) cs.length = false:=by
   cases e:Nat.ble (Nat.add cs.length 1) cs.length with
   | false=>rfl
   | true=>have:=Nat.le_of_ble_eq_true e; exact absurd this (by show ¬ cs.length + 1 ≤ cs.length; omega)
  have hdt:(cs.flatten.drop 0).take (Nat.mul cs.length sz) = cs.flatten:=by
   rw [List.drop_zero,List.take_of_length_le (by rw [hlen]; exact Nat.le_refl _)]
  have htk:cs.flatten.take (Nat.add 0 (Nat.mul cs.length sz)) = cs.flatten:=List.take_of_length_le (by rw [hlen]; show cs.length * sz ≤ 0 + cs.length * sz; omega)
  have hg:∀ k,k < h.nx → (h.grow b F sz l cs.flatten (cs.flatten ++ c)).bl.get k = if k = b then some (.cells cs.flatten F false) else if k ∈ l then (h.bl.get k).map dead else h.bl.get k:=by
   intro k hk
   show (T.set (h.nx + 1) (T.set (b + 1) (kill l b h.bl) b (.cells cs.flatten F false)) h.nx (.cells (cs.flatten ++ c) F false)).get k = _
   rw [aQ (by omega) (by omega),T.get_set _ _ _ _ _ (by omega),iW]
   by_cases hkb:k = b
   ·rw [if_pos hkb,if_pos hkb]
   ·rw [if_neg hkb,if_neg hkb]
    by_cases hkl:k ∈ l
    ·rw [if_pos ⟨hkl,hkb⟩,if_pos hkl]
    ·rw [if_neg (fun q=>hkl q.1),if_neg hkl]
  have hf:∀ k,k < h.nx → (h.grow b F sz l cs.flatten (cs.flatten ++ c)).fams.get k = if k = F then some [h.nx,b] else h.fams.get k:=by
   intro k hk
   show (T.set (h.nx + 1) (T.set (F + 1) h.fams F [h.nx,b]) h.nx [sz]).get k = _
   rw [aQ (by omega) (by omega),T.get_set _ _ _ _ _ (by omega)]
  have hgn:(h.grow b F sz l cs.flatten (cs.flatten ++ c)).bl.get h.nx = some (.cells (cs.flatten ++ c) F false):=aU (by omega)
  refine ⟨.slice (some ⟨h.nx,0,none⟩) (cs.length + 1) (cs.length + 1),h.grow b F sz l cs.flatten (cs.flatten ++ c),fun K=>?_,.inr ⟨h.nx,[h.nx,b],F,by simp,by simp,by show h.nx < h.nx + 1; omega,?_,?_,by show F < h.nx + 1; omega,?_,?_,aU (by omega),by omega,.inl o1,.inr (Nat.le_refl _),?_⟩,by show h.nx ≤ h.nx + 1; omega,?_,h.nx,_,_,rfl,Nat.le_refl _⟩
  ·simp only [iR,hsz,hsrc,hcap,cond_false,jX,k4,hble,hnum2 (Nat.add cs.length 1) hn,hz,Bool.and_self,cond_true,k8,xH,htk,hdt,bP]
  ·rw [hgn,List.flatten_append]; simp
  ·intro d hd
   rcases List.mem_append.1 hd with hd|hd
   ·exact k5 d hd
   ·simp at hd; subst hd; exact hc
  ·rw [hf F k7,if_pos rfl]
  ·intro x hx
   simp at hx
   rcases hx with rfl|rfl
   ·exact ⟨by show h.nx < h.nx + 1; omega,_,hgn⟩
   ·exact ⟨by show x < h.nx + 1; omega,cs.flatten,by rw [hg x k3,if_pos rfl]⟩
  ·intro x hx
   simp at hx
   rcases hx with rfl|rfl
   ·exact .inr (Nat.le_refl _)
   ·exact .inl o2
  ·intro k hk hnk
   have hkb:k ≠ b:=fun q=>hnk (q ▸ o2)
   have hkl:k ∉ l:=fun q=>hnk (o3 k q)
   have hkF:k ≠ F:=fun q=>hnk (q ▸ o1)
   exact ⟨by rw [hg k hk,if_neg hkb,if_neg hkl],by rw [hf k hk,if_neg hkF]⟩

theorem cut_one {P:Program} {h:AHeap} {b n:Nat} {a e:TypeId} {t:T Value} {o:Oper} {x:Operand} (h1:fE P a = some e) (h2:bH P e = some 1) (hz:zOk h b 1 = true) (hx:ev P t x = .int .i64 1) (hn:1 ≤ n) :
  vW P t h o a (some x) none (.slice (some ⟨b,0,none⟩) n n) = some (bif Nat.beq n 1 then emptyS else .slice (some ⟨b,1,none⟩) (n - 1) (n - 1)):=by
 have hb:bounds n n (some (.int .i64 1)) none = some (1,n):=by
  have h1:Nat.ble 1 n = true:=Nat.ble_eq_true_of_le hn
  show (match loOf n (some (.int .i64 (.ofNat 1))) with|none=>none|some q=>some (q,n)) = _
  simp only [loOf,h1,cond_true]
 show uF P h a (some (ev P t x)) none b 0 n n = _
 rw [hx]
 simp only [uF,h1,h2,hb,uD,hz,Bool.or_true,Bool.and_true]
 cases e1:Nat.beq n 1 with
 | true =>
  have:=Nat.eq_of_beq_eq_true e1
  subst this
  rfl
 | false =>
  have h3:n ≠ 1:=Nat.ne_of_beq_eq_false e1
  have h4:Nat.blt 1 n = true:=by rw [Nat.blt_eq]; omega
  rw [h4,cond_true,cond_false]
  rfl
/-- What lies behind an append. -/
structure GrownO (Ow:Nat → Prop) (h h':AHeap) (sz:Nat) (v':Value) (cs:List (List Value)) (c:List Value):Prop where
 app:AppO (fun j=>Ow j ∨ h.nx ≤ j) h' sz v' (cs ++ [c])
 le:h.nx ≤ h'.nx
 kp:∀ j,j < h.nx → ¬ Ow j → h'.bl.get j = h.bl.get j ∧ h'.fams.get j = h.fams.get j
 blk:∃ b n k,v' = .slice (some ⟨b,0,none⟩) n k ∧ h.nx ≤ b
variable {pr:Prim} {R:ExT} {call:CallT} {ops:Array Oper} {n:Nat} {rest:List Oper} {t:T Value} {KR:T Value → AHeap → Bool} {dst:Option Tmp} {ty:TypeId} {pos:String} {af:Array Edge} {g:Option (Nat × Bool)}
theorem aw_appO {st xt e':TypeId} {s x:Operand} {bx cx fx:Nat} {rx:Bool} (hst:fE P st = some e) (hxt:P.underlying xt = some (.slice e')) (hs:ev P t s = v) (hx:ev P t x = .slice (some ⟨bx,0,none⟩) 1 cx)
  (k:AppO Ow h sz v cs) (hsz:bH P e = some sz) (hc:c.length = sz) (hbx:h.bl.get bx = some (.cells c fx rx)) (hnum:eY P e 1 = true) (hn:cs.length + 1 < bigNat) :
  ∃ v' h',(∀ K:KV,bI P call t h ⟨dst,.call ⟨.builtin .append,#[s,x],#[st,xt]⟩,ty,pos,af,g⟩ K = K v' h') ∧ GrownO Ow h h' sz v' cs c:=by
 obtain ⟨v',h',q1,q2,q3,q4,q5⟩:=appO_step k hsz hc hbx hnum hn (cx:=cx)
 have hko:kindOk P xt (.slice (some ⟨bx,0,none⟩) 1 cx) = true:=by simp only [kindOk,hxt]
 refine ⟨v',h',fun K=>?_,q2,q3,q4,q5⟩
 simp only [bI,kR,lZ,hst,hs,hx,hko,cond_true]
 rw [q1]
theorem wr_appO {st xt e':TypeId} {s x:Operand} {bx cx fx:Nat} {rx:Bool} (hst:fE P st = some e) (hxt:P.underlying xt = some (.slice e')) (hs:ev P t s = v) (hx:ev P t x = .slice (some ⟨bx,0,none⟩) 1 cx)
  (k:AppO Ow h sz v cs) (hsz:bH P e = some sz) (hc:c.length = sz) (hbx:h.bl.get bx = some (.cells c fx rx)) (hnum:eY P e 1 = true) (hn:cs.length + 1 < bigNat)
  (kk:∀ v' h',GrownO Ow h h' sz v' cs c → jA P call ops n rest dst t v' h' KR = true) :
  wrR P call ops n rest (.call ⟨.builtin .append,#[s,x],#[st,xt]⟩) dst t h KR = true:=by
 obtain ⟨v',h',hw,hg⟩:=aw_appO (call:=call) (dst:=dst) (ty:=0) (pos:= "") (af:=#[]) (g:=none) hst hxt hs hx k hsz hc hbx hnum hn
 unfold wrR
 rw [hw]
 exact kk v' h' hg
variable {f:Nat} {l:List Info} {i m done:Nat} {hist:List Seen} {d:Tmp}
theorem drW_appO {st xt e':TypeId} {s x:Operand} {bx cx fx:Nat} {rx:Bool} (hst:fE P st = some e) (hxt:P.underlying xt = some (.slice e')) (hs:ev P t s = v) (hx:ev P t x = .slice (some ⟨bx,0,none⟩) 1 cx)
  (k:AppO Ow h sz v cs) (hsz:bH P e = some sz) (hc:c.length = sz) (hbx:h.bl.get bx = some (.cells c fx rx)) (hnum:eY P e 1 = true) (hn:cs.length + 1 < bigNat) (hd:d < n)
  (kk:∀ v' h',GrownO Ow h h' sz v' cs c → again P h' m hist = true ∧ bQ P call ops n 0 [] f l (Nat.lor done (Nat.pow 2 i)) hist (T.set (d + 1) t d v') h' KR = true) :
  drW (some true) P call ops n f l done i m ⟨some d,.call ⟨.builtin .append,#[s,x],#[st,xt]⟩,ty,pos,af,g⟩ hist t h KR = true:=by
 obtain ⟨v',h',hw,hg⟩:=aw_appO (call:=call) (dst:=some d) (ty:=ty) (pos:=pos) (af:=af) (g:=g) hst hxt hs hx k hsz hc hbx hnum hn
 obtain ⟨k1,k2⟩:=kk v' h' hg
 exact jS hw hd k1 k2
end
end Go.Ev
