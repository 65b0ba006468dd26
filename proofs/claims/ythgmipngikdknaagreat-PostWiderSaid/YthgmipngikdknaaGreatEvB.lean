import Derived.Test.YthgmipngikdknaaGreatEvA
import Derived.Deep.AppendSrc
import Derived.Room.Entries
import Derived.RangeFuncLeaves
/- Single operations that write. -/
namespace Go.Ev
open Go.RowKit

section
variable {P:Program} {m:M} {w0:Base} {w:World} {h:AHeap} {t:T Value} {n:Nat} {a:Act}

/-- The operation runs, and hands over something that the continuation takes. -/
def Ran (P:Program) (m:M) (w0:Base) (w:World) (K:KV) (s:Sem Next):Prop:=
 ∃ r v v' w' m' h',s.run P w = .ok r w' ∧ (r = .value v' ∨ (r = .skip ∧ v' = undef)) ∧ M.le m m' ∧ VR m' v v' ∧ WR P m' w0 h' w' ∧ K v h' = true

theorem oK (el:TypeId) (c:Array Value) (w:World):(newRow el c).run P w = .ok ⟨w.heap.size,0,none⟩ (w.alloc (.cells c el)):=by
 simp only [newRow,Sem.run_bind,run_newObj,Result.andThen_ok,Sem.run_pure]
 rfl

theorem qR (el:TypeId) (v:Value) (w:World):(newVar el v).run P w = .ok ⟨w.heap.size,0,none⟩ (w.alloc (.cells v.cells el)):=oK el v.cells w

theorem wAlloc_rel (hW:WR P m w0 h w) {el:TypeId} {K:KV} (e:wAlloc P h el K = true) (o:Oper) (ρ:Operand → Value) (ho:o.op = .alloc el):Ran P m w0 w K (execOp ρ o):=by
 unfold wAlloc at e
 split at e
 ·rename_i z hz
  obtain ⟨_,_,_,hpz,hoz⟩:=dK hz
  obtain ⟨m',h',k1,k2,k3,k4⟩:=wM hW e z.cells el (iL hpz) (jF hpz hoz)
  refine ⟨.value (.pointer (some ⟨w.heap.size,0,none⟩)),_,_,_,m',h',?_,.inl rfl,k1,.ptr 0 k2,k3,k4⟩
  simp only [execOp,ho]
  refine eX ?_
  simp only [Instr.alloc,Sem.run_bind,jQ hz,Result.andThen_ok,qR,Sem.run_pure]
 ·cases e

theorem wAllocAt_rel (hW:WR P m w0 h w) {el:TypeId} {r:Nat} {K:KV} (e:pJ P h el r K = true) (o:Oper) (ρ:Operand → Value) (ho:o.op = .alloc el):Ran P m w0 w K (execOp ρ o):=by
 unfold pJ at e
 split at e
 ·rename_i z hz
  obtain ⟨_,_,_,hpz,hoz⟩:=dK hz
  split at e
  ·rename_i hr
   simp only [bP,fL_eq,T.setK_eq] at e
   have hW':=hW.newAt hr (c:=z.cells.toList) z.cells el (iL hpz) (jF hpz hoz)
   refine ⟨.value (.pointer (some ⟨w.heap.size,0,none⟩)),_,_,_,m.put r (w.heap.size,0),h.addAt z.cells.toList r,?_,.inl rfl,M.le_put (hW.res r hr).2.1 _,.ptr 0 (M.put_self m r _),hW',e⟩
   simp only [execOp,ho]
   refine eX ?_
   simp only [Instr.alloc,Sem.run_bind,jQ hz,Result.andThen_ok,qR,Sem.run_pure]
  ·cases e
 ·cases e

theorem wBox_rel (hW:WR P m w0 h w) {el:TypeId} {x:Operand} {v:Value} {K:KV} (e:wBox h v K = true) (o:Oper) (ρ:Operand → Value) (ho:o.op = .box el x) (hv:VR m v (ρ x)):Ran P m w0 w K (execOp ρ o):=by
 unfold wBox at e
 cases hok:okV v with
 | false=>rw [hok] at e; cases e
 | true =>
  rw [hok,cond_true] at e
  obtain ⟨q1,q2⟩:=pW hv hok
  obtain ⟨m',h',k1,k2,k3,k4⟩:=wM hW e (ρ x).cells el q1 q2
  refine ⟨.value (.pointer (some ⟨w.heap.size,0,none⟩)),_,_,_,m',h',?_,.inl rfl,k1,.ptr 0 k2,k3,k4⟩
  simp only [execOp,ho]
  refine eX ?_
  simp only [Instr.box,Sem.run_bind,Result.andThen_ok,qR,Sem.run_pure]

/-! ## Rows of zeros -/
theorem sF (z:List Value):∀ (k:Nat) (acc:List Value),repl z k acc = repl z k [] ++ acc
 | 0,acc=>rfl
 | k + 1,acc=>by
  simp only [repl]
  rw [sF z k (z ++ acc),sF z k (z ++ [])]
  simp

theorem uO (z:List Value) (k:Nat):repl z (k + 1) [] = repl z k [] ++ z:=by
 simp only [repl]
 rw [sF]
 simp

theorem mM (z:List Value):∀ k:Nat,(repl z k []).length = k * z.length
 | 0=>by simp [repl]
 | k + 1=>by rw [uO,List.length_append,mM z k,Nat.add_mul]; simp

theorem repl_get (z:List Value):∀ (k i:Nat),i < k * z.length → (repl z k [])[i]? = z[i % z.length]?
 | 0,i,hi=>by simp at hi
 | k + 1,i,hi=>by
  rw [uO]
  by_cases h:i < k * z.length
  ·rw [List.getElem?_append_left (by rw [mM]; exact h),repl_get z k i h]
  ·rw [List.getElem?_append_right (by rw [mM]; omega),mM]
   have h2:i - k * z.length < z.length:=by rw [Nat.add_mul] at hi; omega
   have h3:i % z.length = i - k * z.length:=by
    have h4:k * z.length = z.length * k:=Nat.mul_comm _ _
    obtain ⟨j,hj⟩:∃ j,i = j + k * z.length:=⟨i - k * z.length,by omega⟩
    have h5:i - k * z.length = j:=by omega
    rw [h5] at h2 ⊢
    rw [hj,h4,Nat.add_mul_mod_self_left,Nat.mod_eq_of_lt h2]
   rw [h3]

theorem wO (z:Array Value) (k:Nat):((Array.range (k * z.size)).map fun i=>z[i % z.size]!).toList = repl z.toList k []:=by
 apply List.ext_getElem?
 intro i
 by_cases hi:i < k * z.size
 ·rw [repl_get z.toList k i (by simpa using hi)]
  have hz:0 < z.size:=by
   rcases Nat.eq_zero_or_pos z.size with h0|h0
   ·rw [h0] at hi; simp at hi
   ·exact h0
  have hm:i % z.size < z.size:=Nat.mod_lt _ hz
  simp only [Array.toList_map,Array.toList_range,List.getElem?_map,List.getElem?_range hi,Option.map_some,Array.length_toList,Array.getElem?_toList]
  rw [getElem!_pos z _ hm,Array.getElem?_eq_getElem hm]
 ·rw [List.getElem?_eq_none (by simpa using hi),List.getElem?_eq_none (by rw [mM]; simpa using hi)]

theorem sG {z:List Value} (hz:LR m z z):∀ k:Nat,LR m (repl z k []) (repl z k [])
 | 0=>.nil
 | k + 1=>by rw [uO]; exact (sG hz k).append hz

theorem sH {z:List Value}:∀ (k:Nat) (u:Value),u ∈ repl z k [] → u ∈ z
 | 0,u,hu=>by simp [repl] at hu
 | k + 1,u,hu=>by
  rw [uO,List.mem_append] at hu
  rcases hu with hu|hu
  ·exact sH k u hu
  ·exact hu

theorem wBuildSlice_rel (hW:WR P m w0 h w) {ty:TypeId} {len:Nat} {parts:Array (Nat × Operand)} {l l':List (Nat × Value)} {K:KV} (e:jE P h ty len l K = true)
  (o:Oper) (ρ:Operand → Value) (ho:o.op = .buildSlice ty len parts) (hl:PR m l l') (hp:(parts.map fun p=>(p.1,ρ p.2)) = l'.toArray):Ran P m w0 w K (execOp ρ o):=by
 unfold jE at e
 split at e
 ·rename_i el hs
  split at e
  ·rename_i sz z hsz hz
   obtain ⟨_,_,_,hpz,hoz⟩:=dK hz
   cases hc:(okP l && (Nat.ble (Nat.mul len sz) 16777216 && Nat.beq z.cells.size sz)) with
   | false=>rw [hc] at e; cases e
   | true =>
    rw [hc,cond_true] at e
    simp only [Bool.and_eq_true] at hc
    obtain ⟨c1,c2,c3⟩:=hc
    have c2':len * sz ≤ 16777216:=Nat.le_of_ble_eq_true c2
    have c3':z.cells.size = sz:=Nat.eq_of_beq_eq_true c3
    unfold uH at e
    split at e
    ·rename_i cs hf
     have hzs:=wO z.cells len
     rw [c3'] at hzs
     obtain ⟨r',g1,g2,g3⟩:=fill_rel (m:=m) (place':=fun k=>some (k * sz,sz)) (fun _ _ h=>h) hl c1 (cs':=(Array.range (len * sz)).map fun i=>z.cells[i % sz]!)
      (by rw [hzs]; exact sG (iL hpz) len) (by rw [hzs]; exact fun u hu=>jF hpz hoz u (sH len u hu)) hf
     obtain ⟨m',h',k1,k2,k3,k4⟩:=wM hW e r' el g2 g3
     refine ⟨.value (.slice (some ⟨w.heap.size,0,none⟩) len len),_,_,_,m',h',?_,.inl rfl,k1,.sl 0 len len len k2 (Nat.le_refl _) (.inl rfl),k3,k4⟩
     simp only [execOp,ho]
     refine eX ?_
     have hz4:len * sz = 0 → ((Array.range (len * sz)).map fun i=>(#[]:Array Value)[i % (#[]:Array Value).size]!) = (Array.range (len * sz)).map fun i=>z.cells[i % sz]!:=by
      intro h0; rw [h0]; simp
     simp only [Instr.buildSlice,Sem.run_bind,bU (eG hs),Result.andThen_ok,gB hsz]
     rw [if_neg (by omega)]
     by_cases h0:len * sz = 0
     ·simp only [if_pos h0,Sem.run_bind,Sem.run_pure,Result.andThen_ok,hz4 h0,hp,g1,oK]
     ·simp only [if_neg h0,Sem.run_bind,Sem.run_pure,Result.andThen_ok,jQ hz,c3',hp,g1,oK]
    ·cases e
  ·cases e
 ·cases e

theorem wStore_rel (hW:WR P m w0 h w) {ty:TypeId} {p x:Operand} {pv xv:Value} {K:KV} (e:mW P h ty xv K pv = true) (o:Oper) (ρ:Operand → Value) (ho:o.op = .store ty p x)
  (hp:VR m pv (ρ p)) (hx:VR m xv (ρ x)):Ran P m w0 w K (execOp ρ o):=by
 unfold mW at e
 split at e
 ·rename_i b off
  generalize hpe:ρ p = p' at hp
  cases hp with
  | @ptr _ B d _ hm =>
   split at e
   ·rename_i sz hsz
    cases hc:(okV xv && Nat.beq xv.cells.size sz) with
    | false=>rw [hc] at e; cases e
    | true =>
     rw [hc,cond_true] at e
     simp only [Bool.and_eq_true] at hc
     have c2:xv.cells.size = sz:=Nat.eq_of_beq_eq_true hc.2
     obtain ⟨q1,q2⟩:=pW hx hc.1
     obtain ⟨h',k1,k2,k3⟩:=qQ hW e hm q1 q2
     refine ⟨.skip,undef,undef,_,m,h',?_,.inr ⟨rfl,rfl⟩,M.le_refl m,fC m,k1,k2⟩
     have hst:=run_storeCells_cells (P:=P) B (off + d) (ρ x).cells.toList 0 w (fun j hj=>(k3 j hj).1) (fun j hj=>(k3 j hj).2) (fun v hv=>by rw [← oneB_eq]; exact q2 v hv)
     simp only [Nat.add_zero] at hst
     have hsz2:=cells_size hx hc.1
     simp only [execOp,ho,hpe]
     simp only [Instr.storeAt,Instr.sureAddr,Sem.run_bind,Sem.run_pure,Result.andThen_ok,storeVar,gB hsz]
     rw [if_neg (by omega)]
     simp only [Result.andThen_ok,hst]
   ·cases e
 ·cases e

theorem wP (hW:WR P m w0 h w) {K:KV} (e:nX h K = true) :
  ∃ v v' m' h',M.le m m' ∧ v' = .map (some w.heap.size) ∧ VR m' v v' ∧ WR P m' w0 h' (w.alloc (.map #[] 0)) ∧ K v h' = true:=by
 unfold nX at e
 obtain ⟨m',h',k1,k2,k3,k4⟩:=oJ hW e (.map #[] 0) rfl rfl (fun m' _=>⟨#[],heap_alloc_new w _,.nil⟩)
 exact ⟨_,_,m',h',k1,rfl,.map k2,k3,k4⟩

theorem wMakeMap_op (hW:WR P m w0 h w) {K:KV} (e:nX h K = true) (ty:TypeId) (o:Oper) (ρ:Operand → Value) (ho:o.op = .makeMap ty none):Ran P m w0 w K (execOp ρ o):=by
 obtain ⟨v,v',m',h',k1,rfl,k2,k3,k4⟩:=wP hW e
 refine ⟨.value (.map (some w.heap.size)),v,_,_,m',h',?_,.inl rfl,k1,k2,k3,k4⟩
 simp only [execOp,ho]
 refine eX ?_
 simp [Instr.makeMap]

theorem wMakeMap_op' (hW:WR P m w0 h w) {K:KV} (e:nX h K = true) (ty:TypeId) (x:Operand) {v0:Value} {p:TypeId × TypeId} (hm:mapOf P ty = some p) (o:Oper) (ρ:Operand → Value) (ho:o.op = .makeMap ty (some x))
  (hx:VR m v0 (ρ x)) (hi:isIntV v0 = true):Ran P m w0 w K (execOp ρ o):=by
 obtain ⟨v,v',m',h',k1,rfl,k2,k3,k4⟩:=wP hW e
 refine ⟨.value (.map (some w.heap.size)),v,_,_,m',h',?_,.inl rfl,k1,k2,k3,k4⟩
 obtain ⟨kt,et⟩:=p
 generalize hr:ρ x = x' at hx
 cases v0 with
 | int k i =>
  cases hx
  simp only [execOp,ho,Option.map_some,hr]
  refine eX ?_
  simp [Instr.makeMap,bU (gG hm),asInt,asIntOf]
 | _=>cases hi

end
end Go.Ev

/- Single operations that write: slices, maps. -/
namespace Go.Ev
open Go.RowKit

section
variable {P:Program} {m:M} {w0:Base} {w:World} {h:AHeap} {t:T Value} {n:Nat} {a:Act}

theorem wMakeSlice_rel (hW:WR P m w0 h w) {ty:TypeId} {lx cx:Operand} {lv cv:Value} {K:KV} (e:lJ P h ty lv cv K = true) (o:Oper) (ρ:Operand → Value) (ho:o.op = .makeSlice ty lx cx)
  (hl:VR m lv (ρ lx)) (hc:VR m cv (ρ cx)):Ran P m w0 w K (execOp ρ o):=by
 unfold lJ at e
 split at e
 ·rename_i el l c hs
  generalize hl':ρ lx = l' at hl
  generalize hc':ρ cx = c' at hc
  cases hl
  cases hc
  unfold mG at e
  split at e
  ·rename_i ei z hei hz
   obtain ⟨_,q1,q2,hpz,hoz⟩:=dK hz
   cases hb:(Nat.ble l c && (Nat.blt c bigNat && (Nat.blt ei.bytes bigNat && Nat.beq z.cells.size ei.size))) with
   | false=>rw [hb] at e; cases e
   | true =>
    rw [hb,cond_true] at e
    simp only [Bool.and_eq_true] at hb
    obtain ⟨b1,b2,b3,b4⟩:=hb
    have b1':l ≤ c:=Nat.le_of_ble_eq_true b1
    have b2':c < 1000000:=by simpa [Nat.blt_eq,bigNat] using b2
    have b3':ei.bytes < 1000000:=by simpa [Nat.blt_eq,bigNat] using b3
    have b4':z.cells.size = ei.size:=Nat.eq_of_beq_eq_true b4
    have hzs:=wO z.cells c
    rw [b4'] at hzs
    obtain ⟨m',h',k1,k2,k3,k4⟩:=wM hW e ((Array.range (c * ei.size)).map fun i=>z.cells[i % ei.size]!) el
     (by rw [hzs]; exact sG (iL hpz) c) (by rw [hzs]; exact fun u hu=>jF hpz hoz u (sH c u hu))
    refine ⟨.value (.slice (some ⟨w.heap.size,0,none⟩) l c),_,_,_,m',h',?_,.inl rfl,k1,.sl 0 l c c k2 (Nat.le_refl _) (.inl rfl),k3,k4⟩
    simp only [execOp,ho,hl',hc']
    refine eX ?_
    have hmul:ei.bytes * c ≤ 1000000 * 1000000:=Nat.mul_le_mul (by omega) (by omega)
    have hwl:IntKind.i64.wrap (l:Int) = l:=IntWalk.i64_in _ (by omega)
    have hwc:IntKind.i64.wrap (c:Int) = c:=IntWalk.i64_in _ (by omega)
    have hmul':((ei.bytes:Int) * (c:Int)) ≤ 1000000000000:=by
     have:((ei.bytes * c:Nat):Int) ≤ ((1000000 * 1000000:Nat):Int):=Int.ofNat_le.2 hmul
     simpa using this
    simp only [Instr.makeSlice,Sem.run_bind,bU (eG hs),Result.andThen_ok,asInt,asIntOf,Sem.run_pure,pR hei,Int.ofNat_eq_natCast,hwl,hwc]
    have hcond:((decide ((c:Int) < 0) || decide (((ei.bytes:Int) * (c:Int)) > 2 ^ 48)) || decide ((l:Int) < 0) || decide ((l:Int) > c)) = false:=by
     simp
     omega
    rw [hcond]
    simp only [Bool.false_eq_true,if_false,Sem.run_bind,run_askRoom,Result.andThen_ok,oH hei,Int.toNat_natCast]
    have hz4:c * ei.size = 0 → ((Array.range (c * ei.size)).map fun i=>(#[]:Array Value)[i % (#[]:Array Value).size]!) = (Array.range (c * ei.size)).map fun i=>z.cells[i % ei.size]!:=by
     intro h0; rw [h0]; simp
    by_cases h0:c * ei.size = 0
    ·simp only [if_pos h0,Sem.run_bind,Sem.run_pure,Result.andThen_ok,hz4 h0,oK]
    ·simp only [if_neg h0,Sem.run_bind,Sem.run_pure,Result.andThen_ok,jQ hz,b4',oK]
  ·cases e
 ·cases e

/-! ## Maps -/
theorem ER.modify {f f':MapEntry → MapEntry} (hf:∀ e e':MapEntry,e.key = e'.key → e.born = e'.born → VR m e.val e'.val → (f e).key = (f' e').key ∧ (f e).born = (f' e').born ∧ VR m (f e).val (f' e').val) :
  ∀ {es es':List MapEntry},ER m es es' → ∀ i:Nat,ER m (vI es i f) (es'.modify i f')
 | _,_,.nil,i=>by simp [vI]; exact .nil
 | _,_,.cons hk hb hv ht,0=>by
  simp only [vI,List.modify_zero_cons]
  obtain ⟨a,b,c⟩:=hf _ _ hk hb hv
  exact .cons a b c ht
 | _,_,.cons hk hb hv ht,i + 1=>by
  simp only [vI,List.modify_succ_cons]
  exact .cons hk hb hv (ER.modify hf ht i)

theorem ER.append:∀ {a a' b b':List MapEntry},ER m a a' → ER m b b' → ER m (a ++ b) (a' ++ b')
 | _,_,_,_,.nil,k=>k
 | _,_,_,_,.cons x y z h,k=>.cons x y z (ER.append h k)

theorem ER.get:∀ {es es':List MapEntry},ER m es es' → ∀ (i:Nat) (e:MapEntry),es[i]? = some e → ∃ e',es'[i]? = some e' ∧ e.key = e'.key ∧ e.born = e'.born ∧ VR m e.val e'.val
 | _,_,.nil,i,e,h=>by simp at h
 | _,_,.cons hk hb hv ht,0,e,h=>by simp at h; subst h; exact ⟨_,rfl,hk,hb,hv⟩
 | _,_,.cons hk hb hv ht,i + 1,e,h=>by simpa using ER.get ht i e (by simpa using h)

theorem run_getObj_map {R:Nat} {es':Array MapEntry} {clock:Nat} (g:w.heap[R]? = some (.map es' clock)):(getObj R).run P w = .ok (.map es' clock) w:=by
 simp only [getObj,Sem.run,g]

theorem run_setObj_map {R:Nat} {es':Array MapEntry} {clock:Nat} (g:w.heap[R]? = some (.map es' clock)) (x:Obj):(setObj R x).run P w = .ok () { w with heap:=w.heap.setIfInBounds R x }:=by
 simp only [setObj,Sem.run,g]

theorem WR.entries_full (_:WR P m w0 h w) {r:Nat} {es:List MapEntry} {clock:Nat} (e:entriesOf (h.bl.get r) = some (es,clock)):h.bl.get r = some (.map es clock):=by
 cases hg:h.bl.get r with
 | none=>rw [hg] at e; cases e
 | some o =>
  rw [hg] at e
  cases o with
  | map es' clock'=>simp only [entriesOf,Option.some.injEq,Prod.mk.injEq] at e; rw [e.1,e.2]
  | _=>cases e

theorem jY (hW:WR P m w0 h w) {r R d clock clock':Nat} {es es2:List MapEntry} {es' es2':Array MapEntry} {K:AHeap → Bool} (e:nY h r clock' es2 K = true)
  (hg:h.bl.get r = some (.map es clock)) (hm:m r = some (R,d)) (g1:w.heap[R]? = some (.map es' clock)) (h2:ER m es2 es2'.toList) :
  ∃ h',WR P m w0 h' { w with heap:=w.heap.setIfInBounds R (.map es2' clock') } ∧ K h' = true:=by
 unfold nY at e
 rw [dJ] at e
 refine pX hW e hg hm rfl rfl rfl (.map es2' clock') ⟨es2',?_,h2⟩
 have:R < w.heap.size:=(Array.getElem?_eq_some_iff.1 g1).1
 simp [this]

theorem keyStays {es:List MapEntry} {es':Array MapEntry} (hE:ER m es es'.toList) {i:Nat} {k:Value} (e:kC es i k = true) (w:World) :
  (Instr.keyThatStays (((es'[i]?).map (·.key)).getD k) k).run P w = .ok k w ∧ ∃ e0 e1,es[i]? = some e0 ∧ es'[i]? = some e1 ∧ e0.born = e1.born ∧ VR m e0.val e1.val:=by
 unfold kC at e
 split at e
 ·rename_i e0 h0
  obtain ⟨e1,g1,g2,g3,g4⟩:=hE.get i e0 h0
  rw [Array.getElem?_toList] at g1
  refine ⟨?_,e0,e1,h0,g1,g3,g4⟩
  rw [g1]
  simp only [Option.map_some,Option.getD_some,Instr.keyThatStays,← g2,e,if_true]
  rfl
 ·cases e

theorem wMapUpdate_run (hW:WR P m w0 h w) {ty:TypeId} {mv kv xv mv' kv' xv':Value} {K:KV} (e:oC P h ty kv xv K mv = true)
  (hm:VR m mv mv') (hk:VR m kv kv') (hx:VR m xv xv') :
  ∃ w' h',(Instr.mapUpdate ty mv' kv' xv').run P w = .ok () w' ∧ WR P m w0 h' w' ∧ K undef h' = true:=by
 unfold oC at e
 split at e
 ·rename_i r
  cases hm with
  | @map _ R d hm =>
   split at e
   ·rename_i kt et es clock hmap hes
    have hg:=hW.entries_full hes
    obtain ⟨es',g1,g2⟩:=hW.entries hes hm
    cases hok:okV xv with
    | false=>rw [hok] at e; cases e
    | true =>
     rw [hok,cond_true] at e
     unfold wMapUpdate1 at e
     split at e
     ·rename_i i v0 hf
      obtain ⟨rfl,q2,r',q3,q4⟩:=kF (P:=P) hk g2 hf w
      cases r' with
      | none=>exact q4.elim
      | some p =>
       obtain ⟨j,v'⟩:=p
       obtain ⟨rfl,hv⟩:=q4
       cases hsk:kC es i kv with
       | false=>rw [hsk] at e; cases e
       | true =>
        rw [hsk,cond_true] at e
        obtain ⟨s1,s2⟩:=keyStays (P:=P) g2 hsk w
        have h2:=ER.modify (m:=m) (f:=fun e=>{ key:=kv,val:=xv,born:=e.born }) (f':=fun e=>{ key:=kv,val:=xv',born:=e.born }) (fun _ _ _ hb _=>⟨rfl,hb,hx⟩) g2 i
        obtain ⟨h',k1,k2⟩:=jY hW (es2':=es'.modify i fun e=>{ key:=kv,val:=xv',born:=e.born }) e hg hm g1 (by simpa using h2)
        refine ⟨_,h',?_,k1,k2⟩
        simp only [Instr.mapUpdate,Sem.run_bind,bU (gG hmap),Result.andThen_ok,run_getObj_map g1,q2,q3,s1,run_setObj_map g1]
     ·rename_i hf
      rw [bP] at e
      obtain ⟨rfl,q2,r',q3,q4⟩:=kF (P:=P) hk g2 hf w
      cases r' with
      | some p=>exact q4.elim
      | none =>
       have h2:ER m (es ++ [⟨kv,xv,clock⟩]) (es'.push { key:=kv,val:=xv',born:=clock }).toList:=by
        rw [Array.toList_push]
        exact g2.append (.cons rfl rfl hx .nil)
       obtain ⟨h',k1,k2⟩:=jY hW e hg hm g1 h2
       refine ⟨_,h',?_,k1,k2⟩
       simp only [Instr.mapUpdate,Sem.run_bind,bU (gG hmap),Result.andThen_ok,run_getObj_map g1,q2,q3,run_setObj_map g1]
     ·cases e
   ·cases e
 ·cases e

theorem sJ (hW:WR P m w0 h w) {ty:TypeId} {mo ko xo:Operand} {mv kv xv:Value} {K:KV} (e:oC P h ty kv xv K mv = true) (o:Oper) (ρ:Operand → Value)
  (ho:o.op = .mapUpdate ty mo ko xo ∨ o.op = .insert ty mo ko xo) (hm:VR m mv (ρ mo)) (hk:VR m kv (ρ ko)) (hx:VR m xv (ρ xo)):Ran P m w0 w K (execOp ρ o):=by
 obtain ⟨w',h',k1,k2,k3⟩:=wMapUpdate_run hW e hm hk hx
 refine ⟨.skip,undef,undef,w',m,h',?_,.inr ⟨rfl,rfl⟩,M.le_refl m,fC m,k2,k3⟩
 rcases ho with ho|ho<;>simp [execOp,ho,k1]

theorem wMapEntry_rel (hW:WR P m w0 h w) {ty:TypeId} {mo ko:Operand} {mv kv:Value} {K:KV} (e:pK P h ty kv K mv = true) (o:Oper) (ρ:Operand → Value)
  (ho:o.op = .mapEntry ty mo ko) (hm:VR m mv (ρ mo)) (hk:VR m kv (ρ ko)):Ran P m w0 w K (execOp ρ o):=by
 unfold pK at e
 split at e
 ·rename_i r
  generalize hme:ρ mo = mv' at hm
  generalize hke:ρ ko = kv' at hk
  cases hm with
  | @map _ R d hm =>
   split at e
   ·rename_i kt et es clock hmap hes
    have hg:=hW.entries_full hes
    obtain ⟨es',g1,g2⟩:=hW.entries hes hm
    unfold qK at e
    split at e
    ·rename_i i v0 hf
     obtain ⟨rfl,q2,r',q3,q4⟩:=kF (P:=P) hk g2 hf w
     cases r' with
     | none=>exact q4.elim
     | some p =>
      obtain ⟨j,v'⟩:=p
      obtain ⟨rfl,hv⟩:=q4
      split at e
      ·rename_i e0 he0
       cases hsk:kC es i kv with
       | false=>rw [hsk] at e; cases e
       | true =>
        rw [hsk,cond_true] at e
        obtain ⟨s1,e0',e1,s2,s3,s4,s5⟩:=keyStays (P:=P) g2 hsk w
        rw [he0] at s2
        cases s2
        rw [s3] at s1
        simp only [Option.map_some,Option.getD_some] at s1
        have h2:=ER.modify (m:=m) (f:=fun e=>{ key:=kv,val:=e.val,born:=e.born }) (f':=fun e=>{ key:=kv,val:=e.val,born:=e.born }) (fun _ _ _ hb hv=>⟨rfl,hb,hv⟩) g2 i
        obtain ⟨h',k1,k2⟩:=jY hW (es2':=es'.modify i fun e=>{ key:=kv,val:=e.val,born:=e.born }) e hg hm g1 (by simpa using h2)
        refine ⟨.value (.tuple #[v',goInt e1.born]),_,_,_,m,h',?_,.inl rfl,M.le_refl m,.tuple (.cons hv (.cons ?_ .nil)),k1,k2⟩
        ·simp only [execOp,ho,hme,hke]
         refine eX ?_
         simp only [Instr.mapEntry,Sem.run_bind,bU (gG hmap),Result.andThen_ok,run_getObj_map g1,q2,q3,s1,run_setObj_map g1,Sem.run_pure,s3,Option.map_some,Option.getD_some]
        ·rw [s4]; exact .int _ _
      ·cases e
    ·rename_i hf
     split at e
     ·rename_i z hz
      rw [bP] at e
      obtain ⟨_,_,_,hpz,_⟩:=dK hz
      obtain ⟨rfl,q2,r',q3,q4⟩:=kF (P:=P) hk g2 hf w
      cases r' with
      | some p=>exact q4.elim
      | none =>
       have h2:ER m (es ++ [⟨kv,z,clock⟩]) (es'.push { key:=kv,val:=z,born:=clock }).toList:=by
        rw [Array.toList_push]
        exact g2.append (.cons rfl rfl (eH m z hpz) .nil)
       obtain ⟨h',k1,k2⟩:=jY hW e hg hm g1 h2
       refine ⟨.value (.tuple #[z,goInt clock]),_,_,_,m,h',?_,.inl rfl,M.le_refl m,.tuple (.cons (eH m z hpz) (.cons (.int _ _) .nil)),k1,k2⟩
       simp only [execOp,ho,hme,hke]
       refine eX ?_
       simp only [Instr.mapEntry,Sem.run_bind,bU (gG hmap),Result.andThen_ok,run_getObj_map g1,q2,q3,jQ hz,run_setObj_map g1,Sem.run_pure]
     ·cases e
    ·cases e
   ·cases e
 ·cases e

theorem findBorn_rel:∀ {es es':List MapEntry},ER m es es' → ∀ (b i j:Nat),findBorn es b i = some j → ∃ k,j = i + k ∧ es'.findIdx? (fun e=>(e.born:Int) == (b:Int)) = some k
 | _,_,.nil,b,i,j,h=>by cases h
 | _,_,.cons (e:=e) (e':=e') hk hb hv ht,b,i,j,h=>by
  simp only [findBorn] at h
  cases hbb:Nat.beq e.born b with
  | true =>
   rw [hbb,cond_true] at h
   cases h
   refine ⟨0,rfl,?_⟩
   rw [List.findIdx?_cons,if_pos]
   rw [← hb,Nat.eq_of_beq_eq_true hbb]
   simp
  | false =>
   rw [hbb,cond_false] at h
   obtain ⟨k,rfl,g2⟩:=findBorn_rel ht b (i + 1) j h
   refine ⟨k + 1,by omega,?_⟩
   rw [List.findIdx?_cons,if_neg,g2]
   ·rfl
   ·rw [← hb]
    have:=Nat.ne_of_beq_eq_false hbb
    simp
    omega

theorem wEntryStore_rel (hW:WR P m w0 h w) {ty:TypeId} {mo so xo:Operand} {mv sv xv:Value} {K:KV} (e:mJ h sv xv K mv = true) (o:Oper) (ρ:Operand → Value)
  (ho:o.op = .entryStore ty mo so xo) (hm:VR m mv (ρ mo)) (hs:VR m sv (ρ so)) (hx:VR m xv (ρ xo)):Ran P m w0 w K (execOp ρ o):=by
 unfold mJ at e
 split at e
 ·rename_i r
  generalize hme:ρ mo = mv' at hm
  generalize hse:ρ so = sv' at hs
  cases hm with
  | @map _ R d hm =>
   split at e
   ·rename_i es clock k b hes
    cases hs
    have hg:=hW.entries_full hes
    obtain ⟨es',g1,g2⟩:=hW.entries hes hm
    cases hok:okV xv with
    | false=>rw [hok] at e; cases e
    | true =>
     rw [hok,cond_true] at e
     unfold nJ at e
     split at e
     ·rename_i i hf
      obtain ⟨j,q1,q2⟩:=findBorn_rel g2 b 0 i hf
      have:i = j:=by omega
      subst this
      have h2:=ER.modify (m:=m) (f:=fun e=>{ key:=e.key,val:=xv,born:=e.born }) (f':=fun e=>{ key:=e.key,val:=ρ xo,born:=e.born }) (fun _ _ hk hb _=>⟨hk,hb,hx⟩) g2 i
      obtain ⟨h',k1,k2⟩:=jY hW (es2':=es'.modify i fun e=>{ key:=e.key,val:=ρ xo,born:=e.born }) e hg hm g1 (by simpa using h2)
      refine ⟨.skip,undef,undef,_,m,h',?_,.inr ⟨rfl,rfl⟩,M.le_refl m,fC m,k1,k2⟩
      have q3:es'.findIdx? (fun e=>(e.born:Int) == (b:Int)) = some i:=by
       have q4:=List.findIdx?_toArray (fun e:MapEntry=>(e.born:Int) == (b:Int)) es'.toList
       rw [Array.toArray_toList] at q4
       rw [q4]
       exact q2
      simp only [execOp,ho,hme,hse,Sem.run_bind,Instr.entryStore,run_getObj_map g1,Result.andThen_ok,asInt,asIntOf,Sem.run_pure,Int.ofNat_eq_natCast,q3,run_setObj_map g1]
     ·cases e
   ·cases e
 ·cases e

end
end Go.Ev

/- Single operations that write: bytes, append, copy; all of them. -/
namespace Go.Ev
open Go.RowKit

section
variable {P:Program} {m:M} {w0:Base} {w:World} {h:AHeap} {t:T Value} {n:Nat} {a:Act}

theorem plainL_bytes (l:List UInt8):plainL (l.map fun b=>Value.int .u8 (b.toNat:Int)) = true:=plainL_ints l

theorem wQ (hW:WR P m w0 h w) {size:Nat} {x x':Value} {new:List Value} {k:Nat} {tx:TypeId} (hk:kindOk P tx x = true) (e:eU h size x = some (new,k)) (hx:VR m x x') :
  ∃ new',Src P size tx x' k new' w ∧ LR m new new' ∧ ∀ u ∈ new',oneB u = true:=by
 have hsl:(∃ ad n' c',x = .slice ad n' c') → ∃ e',P.underlying tx = some (.slice e'):=by
  rintro ⟨ad,n',c',rfl⟩
  simp only [kindOk] at hk
  split at hk
  ·rename_i e' hu; exact ⟨e',hu⟩
  ·cases hk
 unfold eU at e
 split at e
 ·cases e
  cases hx
  obtain ⟨e',hu⟩:=hsl ⟨_,_,_,rfl⟩
  exact ⟨[],Src.ofNil w hu 0,.nil,fun u hu=>by simp at hu⟩
 ·cases e
  obtain ⟨e',hu⟩:=hsl ⟨_,_,_,rfl⟩
  cases hx with
  | emp ad cap =>
   cases ad with
   | none=>exact ⟨[],Src.ofNil w hu cap,.nil,fun u hu=>by simp at hu⟩
   | some ad=>exact ⟨[],Src.ofSlice w hu ad 0 cap [] (by simp) (fun j u hj=>by simp at hj) (fun u hu=>by simp at hu),.nil,fun u hu=>by simp at hu⟩
 ·rename_i b off k0 cap
  obtain ⟨e',hu⟩:=hsl ⟨_,_,_,rfl⟩
  cases hx with
  | @sl _ B d _ _ _ cap' hm hc _ =>
   split at e
   ·rename_i c fam ro hg
    cases hb:Nat.ble (Nat.add off (Nat.mul k0 size)) c.length with
    | false=>rw [hb] at e; cases e
    | true =>
     rw [hb,cond_true] at e
     cases e
     have hb':off + k * size ≤ c.length:=Nat.le_of_ble_eq_true hb
     obtain ⟨B',d',g1,g2,_⟩:=hW.obj b _ hg
     rw [hm] at g1
     cases g1
     obtain ⟨l',k1,k2,k3⟩:=oO g2 off ((c.drop off).take (k * size)) (fun j v hj=>by
      rw [List.getElem?_take] at hj
      split at hj
      ·simpa [List.getElem?_drop] using hj
      ·cases hj)
     refine ⟨l',Src.ofSlice w hu ⟨B,off + d,none⟩ k cap' l' ?_ (fun j u hj=>by rw [Addr.add_mid]; exact k3 j u hj) (fun u hu=>by rw [← oneB_eq]; exact k2 u hu),k1,k2⟩
     rw [← k1.length]
     simp
     omega
   ·cases e
 ·rename_i s
  cases hb:Nat.beq size 1 with
  | false=>rw [hb] at e; cases e
  | true =>
   rw [hb,cond_true] at e
   cases e
   have h1:size = 1:=Nat.eq_of_beq_eq_true hb
   subst h1
   cases hx
   have hu:P.underlying tx = some .string:=pU (by simpa [kindOk] using hk)
   refine ⟨byteCells s,Src.ofString w hu s,vY m _ (plainL_bytes _),?_⟩
   intro u hu
   simp only [byteCells,List.mem_map] at hu
   obtain ⟨b,_,rfl⟩:=hu
   rfl
 ·cases e

/-! ## A slice grows -/
def M.put2 (m:M) (b:Nat) (x s:Nat × Nat):M:=⟨fun c=>if c = b then some x else m c,fun c=>if c = b then some s else m.sp c⟩

theorem M.put2_f (m:M) (b:Nat) (x s:Nat × Nat):(m.put2 b x s) b = some x:=by unfold M.put2; simp only [if_pos]
theorem M.put2_sp (m:M) (b:Nat) (x s:Nat × Nat):(m.put2 b x s).sp b = some s:=by unfold M.put2; simp only [if_pos]

theorem M.le_put2 {m:M} {b:Nat} (hb:m b = none) (hs:m.sp b = none) (x s:Nat × Nat):M.le m (m.put2 b x s):=by
 refine ⟨fun c y hc=>?_,fun c y hc=>?_⟩
 ·unfold M.put2
  by_cases e:c = b
  ·subst e; rw [hb] at hc; cases hc
  ·simp only [if_neg e]; exact hc
 ·unfold M.put2
  by_cases e:c = b
  ·subst e; rw [hs] at hc; cases hc
  ·simp only [if_neg e]; exact hc

theorem WR.grow {w':World} (hW:WR P m w0 h w) {b fam B d:Nat} {c c0 c':List Value} {l:List Nat} (hg:h.bl.get b = some (.cells c fam false)) (hm:m b = some (B,d)) (hl:h.fams.get fam = some l)
  (k0 sz Bn dn E:Nat) (hc0:c0 = c.take k0) (hBn:w0.heap.size ≤ Bn) (hBs:Bn < w'.heap.size) (hsh:Bn = B ∨ w.heap.size ≤ Bn) (hsize:w.heap.size ≤ w'.heap.size)
  (hframe:∀ B2,B2 < w.heap.size → B2 ≠ B → w'.heap[B2]? = w.heap[B2]?)
  (hBc:∀ i,i < k0 → w'.cell? ⟨B,d + i,none⟩ = w.cell? ⟨B,d + i,none⟩) (hBf:∀ j,w'.frozen? ⟨B,j,none⟩ = w.frozen? ⟨B,j,none⟩)
  (hBi:∀ j,(w.cell? ⟨B,j,none⟩).isSome = true → (w'.cell? ⟨B,j,none⟩).isSome = true)
  (hnew:∀ i v,c'[i]? = some v → ∃ v',w'.cell? ⟨Bn,dn + i,none⟩ = some v' ∧ VR m v v' ∧ oneB v' = true ∧ w'.frozen? ⟨Bn,dn + i,none⟩ = false)
  (hsp:∀ j,dn ≤ j → j < E → (w'.cell? ⟨Bn,j,none⟩).isSome = true ∧ w'.frozen? ⟨Bn,j,none⟩ = false) (hbel:Below w0.heap.size w0.toWorld w') {K:AHeap → Bool} (e:growH h b fam sz l c0 c' K = true) :
  ∃ h',WR P (m.put2 h.nx (Bn,dn) (sz,E)) w0 h' w' ∧ K h' = true:=by
 unfold growH at e
 rw [dJ,dJ,iF,T.setK_eq,T.setK_eq,T.setK_eq,T.setK_eq,bP] at e
 refine ⟨_,?_,e⟩
 have hfr:=hW.fresh h.nx (Nat.le_refl _)
 have hsn:=hW.spn h.nx (Nat.le_refl _)
 have hle:=M.le_put2 hfr.1 hsn (Bn,dn) (sz,E)
 have hbn:b ≠ h.nx:=fun e=>by subst e; rw [hfr.2] at hg; cases hg
 have hfn:fam ≠ h.nx:=by have:=hW.fam _ _ _ _ hg; omega
 have hm':∀ k,k ≠ h.nx → (m.put2 h.nx (Bn,dn) (sz,E)) k = m k:=fun k e=>by unfold M.put2; simp only [if_neg e]
 have hm1:(m.put2 h.nx (Bn,dn) (sz,E)) h.nx = some (Bn,dn):=by unfold M.put2; simp only [if_pos]
 have hs':∀ k,k ≠ h.nx → (m.put2 h.nx (Bn,dn) (sz,E)).sp k = m.sp k:=fun k e=>by unfold M.put2; simp only [if_neg e]
 have hs1:(m.put2 h.nx (Bn,dn) (sz,E)).sp h.nx = some (sz,E):=by unfold M.put2; simp only [if_pos]
 have hget:∀ k,(T.set (h.nx + 1) (T.set (b + 1) (kill l b h.bl) b (.cells c0 fam false)) h.nx (.cells c' fam false)).get k =
   if k = h.nx then some (.cells c' fam false) else if k = b then some (.cells c0 fam false) else (kill l b h.bl).get k:=by
  intro k
  rw [T.get_set _ _ _ _ _ (Nat.lt_succ_self _),T.get_set _ _ _ _ _ (Nat.lt_succ_self _)]
 have hgetf:∀ f,(T.set (h.nx + 1) (T.set (fam + 1) h.fams fam [h.nx,b]) h.nx [sz]).get f = if f = h.nx then some [sz] else if f = fam then some [h.nx,b] else h.fams.get f:=by
  intro f
  rw [T.get_set _ _ _ _ _ (Nat.lt_succ_self _),T.get_set _ _ _ _ _ (Nat.lt_succ_self _)]
 have hB:=(by
  obtain ⟨B',d',g1,_,g3,_⟩:=hW.obj b _ hg
  rw [hm] at g1
  cases g1
  exact g3 rfl:w0.heap.size ≤ B)
 have hBlt:=hW.dom _ _ _ hm
 have hbase:∀ k o,k ≠ h.nx → k ≠ b → (kill l b h.bl).get k = some o → ∃ o0,h.bl.get k = some o0 ∧ (o = o0 ∨ o = dead o0):=by
  intro k o _ hk ek
  rw [iW] at ek
  split at ek
  ·cases hg2:h.bl.get k with
   | none=>rw [hg2] at ek; cases ek
   | some o0=>rw [hg2] at ek; cases ek; exact ⟨o0,rfl,.inr rfl⟩
  ·exact ⟨o,ek,.inl rfl⟩
 have shares:∀ k o d',k ≠ b → h.bl.get k = some o → m k = some (B,d') → ∃ c0,o = .cells c0 fam false:=by
  intro k o d' hk hgk hmk
  rcases hW.apart _ _ _ _ _ _ _ hgk hg hmk hm hk with ⟨_,hr⟩|⟨f,hf1,hf2⟩
  ·cases hr
  ·cases hf2
   cases o with
   | cells c0 f0 r0 =>
    cases hf1
    cases r0 with
    | false=>exact ⟨c0,rfl⟩
    | true =>
     obtain ⟨B2,d2,k1,_,_,k4⟩:=hW.obj k _ hgk
     rw [hmk] at k1
     cases k1
     have:=k4 rfl
     omega
   | _=>cases hf1
 have hdead:∀ k o0 o,k ≠ b → h.bl.get k = some o0 → (∃ cc,o0 = .cells cc fam false) → (kill l b h.bl).get k = some o → ∃ f r,o = .cells [] f r:=by
  rintro k o0 o hk hgk ⟨cc,rfl⟩ ek
  rw [iW] at ek
  by_cases hcc:cc = []
  ·subst hcc
   split at ek
   ·rw [hgk] at ek; cases ek; exact ⟨_,_,rfl⟩
   ·rw [hgk] at ek; cases ek; exact ⟨_,_,rfl⟩
  ·obtain ⟨l3,p1,p2⟩:=hW.kin k cc fam hgk hcc
   rw [hl] at p1
   cases p1
   rw [if_pos ⟨p2,hk⟩,hgk] at ek
   cases ek
   exact ⟨_,_,rfl⟩
 refine ⟨?_,?_,?_,?_,?_,?_,?_,?_,?_,hbel,?_,?_,?_⟩
 ·intro k o ek
  simp only [hget] at ek
  by_cases hk1:k = h.nx
  ·subst hk1
   rw [if_pos rfl] at ek
   cases ek
   refine ⟨Bn,dn,hm1,?_,fun _=>hBn,fun hr=>by cases hr⟩
   intro i v hv
   obtain ⟨v',q1,q2,q3,q4⟩:=hnew i v hv
   exact ⟨v',q1,q2.mono hle,q3,fun _=>q4⟩
  ·rw [if_neg hk1] at ek
   by_cases hk2:k = b
   ·subst hk2
    rw [if_pos rfl] at ek
    cases ek
    refine ⟨B,d,by rw [hm' _ hk1]; exact hm,?_,fun _=>hB,fun hr=>by cases hr⟩
    intro i v hv
    rw [hc0,List.getElem?_take] at hv
    split at hv
    ·rename_i hi
     obtain ⟨B',d',g1,g2,_⟩:=hW.obj _ _ hg
     rw [hm] at g1
     cases g1
     obtain ⟨v',q1,q2,q3,q4⟩:=g2 i v hv
     exact ⟨v',by rw [hBc i hi]; exact q1,q2.mono hle,q3,fun hr=>by rw [hBf]; exact q4 hr⟩
    ·cases hv
   ·rw [if_neg hk2] at ek
    obtain ⟨o0,q1,q2⟩:=hbase k o hk1 hk2 ek
    obtain ⟨B2,d2,k1,k2,k3,k4⟩:=hW.obj k o0 q1
    refine ⟨B2,d2,by rw [hm' _ hk1]; exact k1,?_,?_,?_⟩
    ·by_cases hBB:B2 = B
     ·subst hBB
      obtain ⟨f,r,rfl⟩:=hdead k o0 o hk2 q1 (shares k o0 d2 hk2 q1 k1) ek
      intro i v e; simp at e
     ·have h5:OR m w' B2 d2 o0:=OR.frame (hframe B2 (hW.dom _ _ _ k1) hBB) k2
      rcases q2 with rfl|rfl
      ·exact h5.mono hle
      ·exact dead_or (h5.mono hle)
    ·rcases q2 with rfl|rfl
     ·exact k3
     ·rw [uN]; exact k3
    ·rcases q2 with rfl|rfl
     ·exact k4
     ·rw [uN]; exact k4
 ·intro k hk
  have hk':h.nx + 1 ≤ k:=hk
  have hkn:k ≠ h.nx:=by omega
  have h2:=hW.fresh k (by omega)
  refine ⟨by rw [hm' _ hkn]; exact h2.1,?_⟩
  simp only [hget]
  have hkb:k ≠ b:=fun e=>by subst e; rw [hg] at h2; cases h2.2
  rw [if_neg hkn,if_neg hkb,iW,h2.2]
  split<;>rfl
 ·intro k hk
  have hk':h.nx + 1 ≤ k:=hk
  rw [hs' k (by omega)]
  exact hW.spn k (by omega)
 ·intro k cc f ro ek
  simp only [hget] at ek
  have key:∀ f,f < h.nx → m.sp f = none → (m.put2 h.nx (Bn,dn) (sz,E)).sp f = none:=fun f hf e=>by rw [hs' f (by omega)]; exact e
  by_cases hk1:k = h.nx
  ·subst hk1
   rw [if_pos rfl] at ek
   cases ek
   exact key _ (hW.fam _ _ _ _ hg) (hW.spf _ _ _ _ hg)
  ·rw [if_neg hk1] at ek
   by_cases hk2:k = b
   ·subst hk2
    rw [if_pos rfl] at ek
    cases ek
    exact key _ (hW.fam _ _ _ _ hg) (hW.spf _ _ _ _ hg)
   ·rw [if_neg hk2] at ek
    obtain ⟨o0,q1,q2⟩:=hbase k _ hk1 hk2 ek
    cases o0 with
    | cells c1 f1 r1 =>
     rcases q2 with q2|q2<;>cases q2<;>exact key _ (hW.fam _ _ _ _ q1) (hW.spf _ _ _ _ q1)
    | _=>rcases q2 with q2|q2<;>cases q2
 ·intro k B2 d2 z E2 ek es
  by_cases hk1:k = h.nx
  ·subst hk1
   rw [hm1] at ek
   rw [hs1] at es
   cases ek
   cases es
   exact ⟨hsp,fun v hv=>by simp [hgetf] at hv; exact hv.symm⟩
  ·rw [hm' _ hk1] at ek
   rw [hs' _ hk1] at es
   obtain ⟨k1,k2⟩:=hW.spr k B2 d2 z E2 ek es
   refine ⟨fun j j1 j2=>?_,?_⟩
   ·obtain ⟨k3,k4⟩:=k1 j j1 j2
    by_cases hBB:B2 = B
    ·subst hBB
     exact ⟨hBi j k3,by rw [hBf]; exact k4⟩
    ·have hblk:=hframe B2 (hW.dom _ _ _ ek) hBB
     rw [World.cell?_of_block (w:=w) (a:=⟨B2,j,none⟩) hblk,World.frozen?_of_block (w:=w) (a:=⟨B2,j,none⟩) hblk]
     exact ⟨k3,k4⟩
   ·simp only [hgetf]
    rw [if_neg hk1,if_neg]
    ·exact k2
    ·intro hkf
     subst hkf
     have:=hW.spf _ _ _ _ hg
     rw [es] at this
     cases this
 ·intro k B2 d2 ek
  by_cases hk1:k = h.nx
  ·subst hk1
   rw [hm1] at ek
   cases ek
   exact hBs
  ·rw [hm' _ hk1] at ek
   have:=hW.dom _ _ _ ek
   omega
 ·-- apart
  have info:∀ k o,k ≠ h.nx → (if k = b then some (.cells c0 fam false) else (kill l b h.bl).get k) = some o → ∃ o0,h.bl.get k = some o0 ∧ famOf o = famOf o0 ∧ isRo o = isRo o0:=by
   intro k o hk1 ek
   by_cases hk2:k = b
   ·subst hk2
    rw [if_pos rfl] at ek
    cases ek
    exact ⟨_,hg,rfl,rfl⟩
   ·rw [if_neg hk2] at ek
    obtain ⟨o0,q1,q2⟩:=hbase k o hk1 hk2 ek
    rcases q2 with rfl|rfl
    ·exact ⟨_,q1,rfl,rfl⟩
    ·exact ⟨o0,q1,dead_fam _,uN _⟩
  have withNew:∀ k o o0 d',k ≠ h.nx → h.bl.get k = some o0 → famOf o = famOf o0 → m k = some (Bn,d') → famOf o = some fam:=by
   intro k o o0 d' hk1 hgk hfam hmk
   rcases hsh with hB1|hB1
   ·subst hB1
    by_cases hk2:k = b
    ·subst hk2
     rw [hg] at hgk
     cases hgk
     rw [hfam]; rfl
    ·obtain ⟨c1,rfl⟩:=shares k o0 d' hk2 hgk hmk
     rw [hfam]; rfl
   ·have:=hW.dom _ _ _ hmk
    omega
  intro b₁ b₂ o₁ o₂ B2 d₁ d₂ e1 e2 f1 f2 hne
  simp only [hget] at e1 e2
  by_cases h1:b₁ = h.nx
  ·subst h1
   rw [if_pos rfl] at e1
   cases e1
   rw [hm1] at f1
   cases f1
   have h2:b₂ ≠ h.nx:=fun e=>hne e.symm
   rw [if_neg h2] at e2
   rw [hm' _ h2] at f2
   obtain ⟨p2,q2,r2,_⟩:=info b₂ o₂ h2 e2
   exact .inr ⟨fam,rfl,withNew b₂ o₂ p2 d₂ h2 q2 r2 f2⟩
  ·rw [if_neg h1] at e1
   rw [hm' _ h1] at f1
   obtain ⟨p1,q1,r1,s1⟩:=info b₁ o₁ h1 e1
   by_cases h2:b₂ = h.nx
   ·subst h2
    rw [if_pos rfl] at e2
    cases e2
    rw [hm1] at f2
    cases f2
    exact .inr ⟨fam,withNew b₁ o₁ p1 d₁ h1 q1 r1 f1,rfl⟩
   ·rw [if_neg h2] at e2
    rw [hm' _ h2] at f2
    obtain ⟨p2,q2,r2,s2⟩:=info b₂ o₂ h2 e2
    rw [r1,r2,s1,s2]
    exact hW.apart _ _ _ _ _ _ _ q1 q2 f1 f2 hne
 ·intro k cc f ek hc
  simp only [hget] at ek
  simp only [hgetf]
  have hfam:∀ k,k = h.nx ∨ k = b → ∃ l2,(if fam = h.nx then some [sz] else if fam = fam then some [h.nx,b] else h.fams.get fam) = some l2 ∧ k ∈ l2:=by
   intro k hk
   rw [if_neg hfn,if_pos rfl]
   exact ⟨_,rfl,by rcases hk with rfl|rfl<;>simp⟩
  by_cases hk1:k = h.nx
  ·subst hk1
   rw [if_pos rfl] at ek
   cases ek
   exact hfam _ (.inl rfl)
  ·rw [if_neg hk1] at ek
   by_cases hk2:k = b
   ·subst hk2
    rw [if_pos rfl] at ek
    cases ek
    exact hfam _ (.inr rfl)
   ·rw [if_neg hk2] at ek
    obtain ⟨o0,q1,q2⟩:=hbase k _ hk1 hk2 ek
    by_cases hff:f = fam
    ·exfalso
     subst hff
     have:∃ cc,o0 = .cells cc f false:=by
      cases o0 with
      | cells c1 f1 r1=>rcases q2 with q2|q2<;>cases q2<;>exact ⟨_,rfl⟩
      | _=>rcases q2 with q2|q2<;>cases q2
     obtain ⟨f2,r2,e2⟩:=hdead k o0 _ hk2 q1 this ek
     cases e2
     exact hc rfl
    ·have h3:h.bl.get k = some (.cells cc f false):=by
      rcases q2 with q2|q2
      ·rw [q1,q2]
      ·cases o0 with
       | cells c1 f1 r1=>cases q2; exact absurd rfl hc
       | _=>cases q2
     obtain ⟨l2,g4,g5⟩:=hW.kin k cc f h3 hc
     have hfl:=hW.fam _ _ _ _ h3
     rw [if_neg (by omega),if_neg hff]
     exact ⟨l2,g4,g5⟩
 ·intro k cc f ro ek
  simp only [hget] at ek
  have hfl:=hW.fam _ _ _ _ hg
  show f < h.nx + 1
  by_cases hk1:k = h.nx
  ·subst hk1
   rw [if_pos rfl] at ek
   cases ek
   omega
  ·rw [if_neg hk1] at ek
   by_cases hk2:k = b
   ·subst hk2
    rw [if_pos rfl] at ek
    cases ek
    omega
   ·rw [if_neg hk2] at ek
    obtain ⟨o0,q1,q2⟩:=hbase k _ hk1 hk2 ek
    cases o0 with
    | cells c1 f1 r1 =>
     have:=hW.fam _ _ _ _ q1
     rcases q2 with q2|q2<;>cases q2<;>omega
    | _=>rcases q2 with q2|q2<;>cases q2
 ·intro g hg'
  have:=hW.glob g hg'
  have hne:g ≠ h.nx:=fun e=>by subst e; rw [hfr.1] at this; cases this
  rw [hm' g hne]
  exact this
 ·intro r er
  have er':=er
  simp only [hgetf] at er'
  have hrn:r ≠ h.nx:=fun e=>by rw [if_pos e] at er'; cases er'
  rw [if_neg hrn] at er'
  have hrf:r ≠ fam:=fun e=>by rw [if_pos e] at er'; cases er'
  rw [if_neg hrf] at er'
  obtain ⟨r1,r2,r3,r4,r5⟩:=hW.res r er'
  have hrb:r ≠ b:=fun e=>by subst e; rw [hg] at r3; cases r3
  refine ⟨Nat.lt_succ_of_lt r1,by rw [hm' r hrn]; exact r2,?_,by rw [hs' r hrn]; exact r4,fun k cc f ro ek=>?_⟩
  ·simp only [hget]
   rw [if_neg hrn,if_neg hrb,iW,r3]
   split<;>rfl
  ·simp only [hget] at ek
   by_cases hk1:k = h.nx
   ·rw [if_pos hk1] at ek
    cases ek
    exact fun e=>hrf e.symm
   ·rw [if_neg hk1] at ek
    by_cases hk2:k = b
    ·rw [if_pos hk2] at ek
     cases ek
     exact fun e=>hrf e.symm
    ·rw [if_neg hk2] at ek
     obtain ⟨o0,q1,q2⟩:=hbase k _ hk1 hk2 ek
     cases o0 with
     | cells c1 f1 r1' =>
      have:=r5 _ _ _ _ q1
      rcases q2 with q2|q2<;>cases q2<;>exact this
     | _=>rcases q2 with q2|q2<;>cases q2
 ·intro B' y e3
  obtain ⟨k1,k2,k3⟩:=hW.park B' y e3
  have hlt:B' < w.heap.size:=(Array.getElem?_eq_some_iff.1 k2).1
  have hne:B' ≠ B:=fun e=>by subst e; exact k3 b _ d hg hm
  refine ⟨k1,(hframe B' hlt hne).trans k2,fun k o d' e1 e2=>?_⟩
  simp only [hget] at e1
  by_cases hk1:k = h.nx
  ·subst hk1
   rw [hm1] at e2
   cases e2
   rcases hsh with hsh|hsh
   ·exact hne hsh
   ·omega
  ·rw [if_neg hk1] at e1
   rw [hm' _ hk1] at e2
   by_cases hk2:k = b
   ·subst hk2
    rw [hm] at e2
    cases e2
    exact hne rfl
   ·rw [if_neg hk2] at e1
    obtain ⟨o0,q1,_⟩:=hbase k o hk1 hk2 e1
    exact k3 k o0 d' q1 e2

/-! ## A draw -/
theorem WR.drew (hW:WR P m w0 h w):WR P m w0 h w.drew:=
 ⟨fun b o e=>let ⟨B,d,h1,h2,h3⟩:=hW.obj b o e; ⟨B,d,h1,OR.frame rfl h2,h3⟩,hW.fresh,hW.spn,hW.spf,fun b B d z E e1 e2=>hW.spr b B d z E e1 e2,hW.dom,hW.apart,hW.kin,hW.fam,hW.below.drew,hW.glob,hW.res,hW.park⟩

theorem qU {el:TypeId} {k:Nat} (e:eY P el k = true):∃ i z,P.info? el = some i ∧ zeroOf P el = some z ∧ (k * i.bytes ≤ 140737488355328 ∧ k < 4611686018427387904) ∧ i.bytes < 1000000 ∧ z.cells.size = i.size:=by
 unfold eY at e
 split at e
 ·rename_i i z hi hz
  simp only [Bool.and_eq_true] at e
  obtain ⟨a,a2,b,c⟩:=e
  exact ⟨i,z,hi,hz,⟨Nat.le_of_ble_eq_true a,by simpa [Nat.blt_eq] using a2⟩,by simpa [Nat.blt_eq,bigNat] using b,Nat.eq_of_beq_eq_true c⟩
 ·cases e
theorem numOk_up {el:TypeId} {m:Nat} (e:eY P el 1 = true) (hm:m < 4611686018427387904) (hb:∀ i,P.info? el = some i → m * i.bytes ≤ 140737488355328):eY P el m = true:=by
 unfold eY at e ⊢
 split at e
 ·rename_i i z hi hz
  simp only [Bool.and_eq_true] at e ⊢
  obtain ⟨_,_,b,c⟩:=e
  exact ⟨Nat.ble_eq_true_of_le (hb i hi),by rw [Nat.blt_eq]; exact hm,b,c⟩
 ·cases e
theorem oQ {el:TypeId} {m:Nat} (e:eY P el 1 = true) (hm:m < bigNat):eY P el m = true:=by
 obtain ⟨i,z,hi,_,_,hb,_⟩:=qU e
 have hm':m < 1000000:=hm
 refine numOk_up e (by omega) fun i' hi'=>?_
 rw [hi] at hi'; cases hi'
 have:m * i.bytes ≤ 1000000 * 1000000:=Nat.mul_le_mul (by omega) (by omega)
 omega

theorem fits {k c b:Nat} (hk:k * b ≤ 140737488355328 ∧ k < 4611686018427387904) (_:b < 1000000) (hc:c < k):((k:Nat):Int) ≤ 9223372036854775807 ∧ Builtin.nextslicecap k c * b ≤ 281474976710656:=by
 refine ⟨by omega,?_⟩
 have h1:=Room.nextslicecap_le' hc
 have h2:Builtin.nextslicecap k c * b ≤ (2 * k) * b:=Nat.mul_le_mul_right _ h1
 rw [Nat.mul_assoc] at h2
 omega

theorem growN_rel (hW:WR P m w0 h w) {sz:Nat} {c:List Value} {K:Nat → AHeap → Bool} (e:growN h sz c K = true) (c':Array Value) (el:TypeId) (fr:Nat × Nat) (hfr:c'.size ≤ fr.1 ∨ fr.2 = 0)
  (hc:∀ (i:Nat) (v:Value),c[i]? = some v → ∃ v',c'[i]? = some v' ∧ VR m v v' ∧ oneB v' = true) :
  ∃ h',M.le m (m.put2 (h.nx + 1) (w.heap.size,0) (sz,c'.size)) ∧ WR P (m.put2 (h.nx + 1) (w.heap.size,0) (sz,c'.size)) w0 h' (w.alloc (.cells c' el fr)) ∧ K (h.nx + 1) h' = true:=by
 unfold growN at e
 rw [dJ,bP,T.setK_eq,T.setK_eq,T.setK_eq,bP] at e
 have hfn:=hW.fresh (h.nx + 1) (Nat.le_succ _)
 have hsn:=hW.spn (h.nx + 1) (Nat.le_succ _)
 have hsn0:=hW.spn h.nx (Nat.le_refl _)
 have hle:=M.le_put2 hfn.1 hsn (w.heap.size,0) (sz,c'.size)
 refine ⟨_,hle,?_,e⟩
 have hm':∀ k,k ≠ h.nx + 1 → (m.put2 (h.nx + 1) (w.heap.size,0) (sz,c'.size)) k = m k:=fun k e=>by unfold M.put2; simp only [if_neg e]
 have hm1:(m.put2 (h.nx + 1) (w.heap.size,0) (sz,c'.size)) (h.nx + 1) = some (w.heap.size,0):=by unfold M.put2; simp only [if_pos]
 have hs':∀ k,k ≠ h.nx + 1 → (m.put2 (h.nx + 1) (w.heap.size,0) (sz,c'.size)).sp k = m.sp k:=fun k e=>by unfold M.put2; simp only [if_neg e]
 have hs1:(m.put2 (h.nx + 1) (w.heap.size,0) (sz,c'.size)).sp (h.nx + 1) = some (sz,c'.size):=by unfold M.put2; simp only [if_pos]
 have hget:∀ k,(T.set (h.nx + 1 + 1) h.bl (h.nx + 1) (.cells c h.nx false)).get k = if k = h.nx + 1 then some (.cells c h.nx false) else h.bl.get k:=fun k=>T.get_set _ _ _ _ _ (Nat.lt_succ_self _)
 have hgetf:∀ f,(T.set (h.nx + 1 + 1) (T.set (h.nx + 1) h.fams h.nx [h.nx + 1]) (h.nx + 1) [sz]).get f = if f = h.nx + 1 then some [sz] else if f = h.nx then some [h.nx + 1] else h.fams.get f:=by
  intro f
  rw [T.get_set _ _ _ _ _ (Nat.lt_succ_self _),T.get_set _ _ _ _ _ (Nat.lt_succ_self _)]
 have hblk:∀ B2,B2 < w.heap.size → (w.alloc (.cells c' el fr)).heap[B2]? = w.heap[B2]?:=fun B2 h2=>Below.heap_alloc _ _ _ h2
 have hcell:∀ i,(w.alloc (.cells c' el fr)).cell? ⟨w.heap.size,i,none⟩ = c'[i]?:=fun i=>by
  have:=heap_alloc_new w (.cells c' el fr)
  simp only [World.cell?,this]
  simp
 have hfroz:∀ i,i < c'.size → (w.alloc (.cells c' el fr)).frozen? ⟨w.heap.size,i,none⟩ = false:=fun i hi=>by
  have:=heap_alloc_new w (.cells c' el fr)
  obtain ⟨f1,f2⟩:=fr
  simp only [World.frozen?,this]
  simp only at hfr
  simp
  omega
 have hsz:(w.alloc (.cells c' el fr)).heap.size = w.heap.size + 1:=by show (w.heap.push _).size = _; simp
 refine ⟨?_,?_,?_,?_,?_,?_,?_,?_,?_,hW.below.alloc hW.below.size _,?_,?_,?_⟩
 ·intro k o ek
  simp only [hget] at ek
  by_cases hk1:k = h.nx + 1
  ·subst hk1
   rw [if_pos rfl] at ek
   cases ek
   refine ⟨w.heap.size,0,hm1,?_,fun _=>hW.below.size,fun hr=>by cases hr⟩
   intro i v hv
   obtain ⟨v',q1,q2,q3⟩:=hc i v hv
   rw [Nat.zero_add]
   exact ⟨v',by rw [hcell]; exact q1,q2.mono hle,q3,fun _=>hfroz i (Array.getElem?_eq_some_iff.1 q1).1⟩
  ·rw [if_neg hk1] at ek
   obtain ⟨B2,d2,k1,k2,k3⟩:=hW.obj k o ek
   exact ⟨B2,d2,by rw [hm' _ hk1]; exact k1,OR.mono hle (OR.frame (hblk B2 (hW.dom _ _ _ k1)) k2),k3⟩
 ·intro k hk
  have hk':h.nx + 1 + 1 ≤ k:=hk
  have h2:=hW.fresh k (by omega)
  refine ⟨by rw [hm' _ (by omega)]; exact h2.1,?_⟩
  simp only [hget]
  rw [if_neg (by omega)]
  exact h2.2
 ·intro k hk
  have hk':h.nx + 1 + 1 ≤ k:=hk
  rw [hs' k (by omega)]
  exact hW.spn k (by omega)
 ·intro k cc f ro ek
  simp only [hget] at ek
  by_cases hk1:k = h.nx + 1
  ·subst hk1
   rw [if_pos rfl] at ek
   cases ek
   rw [hs' _ (by omega)]
   exact hsn0
  ·rw [if_neg hk1] at ek
   have:=hW.fam _ _ _ _ ek
   rw [hs' _ (by omega)]
   exact hW.spf _ _ _ _ ek
 ·intro k B2 d2 z E2 ek es
  by_cases hk1:k = h.nx + 1
  ·subst hk1
   rw [hm1] at ek
   rw [hs1] at es
   cases ek
   cases es
   refine ⟨fun j _ hj=>⟨?_,hfroz j hj⟩,fun v hv=>by simp [hgetf] at hv; exact hv.symm⟩
   rw [hcell,Array.getElem?_eq_getElem hj]
   rfl
  ·rw [hm' _ hk1] at ek
   rw [hs' _ hk1] at es
   obtain ⟨k1,k2⟩:=hW.spr k B2 d2 z E2 ek es
   have hb2:=hblk B2 (hW.dom _ _ _ ek)
   refine ⟨fun j j1 j2=>?_,?_⟩
   ·obtain ⟨k3,k4⟩:=k1 j j1 j2
    rw [World.cell?_of_block (w:=w) (a:=⟨B2,j,none⟩) hb2,World.frozen?_of_block (w:=w) (a:=⟨B2,j,none⟩) hb2]
    exact ⟨k3,k4⟩
   ·have hkn:k ≠ h.nx:=fun e=>by subst e; rw [hsn0] at es; cases es
    simp only [hgetf]
    rw [if_neg hk1,if_neg hkn]
    exact k2
 ·intro k B2 d2 ek
  rw [hsz]
  by_cases hk1:k = h.nx + 1
  ·subst hk1
   rw [hm1] at ek
   cases ek
   omega
  ·rw [hm' _ hk1] at ek
   have:=hW.dom _ _ _ ek
   omega
 ·intro b₁ b₂ o₁ o₂ B2 d₁ d₂ e1 e2 f1 f2 hne
  simp only [hget] at e1 e2
  by_cases h1:b₁ = h.nx + 1
  ·subst h1
   rw [hm1] at f1
   cases f1
   rw [hm' _ (fun e=>hne e.symm)] at f2
   have:=hW.dom _ _ _ f2
   omega
  ·rw [if_neg h1] at e1
   rw [hm' _ h1] at f1
   by_cases h2:b₂ = h.nx + 1
   ·subst h2
    rw [hm1] at f2
    cases f2
    have:=hW.dom _ _ _ f1
    omega
   ·rw [if_neg h2] at e2
    rw [hm' _ h2] at f2
    exact hW.apart _ _ _ _ _ _ _ e1 e2 f1 f2 hne
 ·intro k cc f ek hcc
  simp only [hget] at ek
  simp only [hgetf]
  by_cases hk1:k = h.nx + 1
  ·subst hk1
   rw [if_pos rfl] at ek
   cases ek
   rw [if_neg (by omega),if_pos rfl]
   exact ⟨_,rfl,by simp⟩
  ·rw [if_neg hk1] at ek
   obtain ⟨l,g1,g2⟩:=hW.kin k cc f ek hcc
   have:=hW.fam _ _ _ _ ek
   rw [if_neg (by omega),if_neg (by omega)]
   exact ⟨l,g1,g2⟩
 ·intro k cc f ro ek
  simp only [hget] at ek
  show f < h.nx + 1 + 1
  by_cases hk1:k = h.nx + 1
  ·subst hk1
   rw [if_pos rfl] at ek
   cases ek
   omega
  ·rw [if_neg hk1] at ek
   have:=hW.fam _ _ _ _ ek
   omega
 ·intro g hg'
  have:=hW.glob g hg'
  have hne:g ≠ h.nx + 1:=fun e=>by subst e; rw [hfn.1] at this; cases this
  rw [hm' g hne]
  exact this
 ·intro r er
  have er':=er
  simp only [hgetf] at er'
  have hr1:r ≠ h.nx + 1:=fun e=>by rw [if_pos e] at er'; cases er'
  rw [if_neg hr1] at er'
  have hr0:r ≠ h.nx:=fun e=>by rw [if_pos e] at er'; cases er'
  rw [if_neg hr0] at er'
  obtain ⟨r1,r2,r3,r4,r5⟩:=hW.res r er'
  refine ⟨by show r < h.nx + 1 + 1; omega,by rw [hm' r hr1]; exact r2,?_,by rw [hs' r hr1]; exact r4,fun k cc f ro ek=>?_⟩
  ·simp only [hget]
   rw [if_neg hr1]
   exact r3
  ·simp only [hget] at ek
   by_cases hk1:k = h.nx + 1
   ·rw [if_pos hk1] at ek
    cases ek
    omega
   ·rw [if_neg hk1] at ek
    exact r5 _ _ _ _ ek
 ·intro B' y e3
  obtain ⟨k1,k2,k3⟩:=hW.park B' y e3
  have hlt:B' < w.heap.size:=(Array.getElem?_eq_some_iff.1 k2).1
  refine ⟨k1,(hblk B' hlt).trans k2,fun k o d' e1 e2=>?_⟩
  simp only [hget] at e1
  by_cases hk1:k = h.nx + 1
  ·subst hk1
   rw [hm1] at e2
   cases e2
   omega
  ·rw [if_neg hk1] at e1
   rw [hm' _ hk1] at e2
   exact k3 k o d' e1 e2

theorem jG (z:Array Value) (k:Nat):(Builtin.zeroCells z k).size = k * z.size:=by simp [Builtin.zeroCells]

theorem appendNil_rel (hW:WR P m w0 h w) {st tx ty el:TypeId} {new new':List Value} {k sz:Nat} {x':Value} {K:KV} (hst:P.underlying st = some (.slice el)) (hsz:bH P el = some sz)
  (hs:Src P sz tx x' k new' w) (hn:LR m new new') (h1:∀ u ∈ new',oneB u = true) (e:jZ P h el sz new k K = true) :
  ∃ v v' w' m' h',(Builtin.append_ #[st,tx] ty #[.slice none 0 0,x']).run P w = .ok v' w' ∧ M.le m m' ∧ VR m' v v' ∧ WR P m' w0 h' w' ∧ K v h' = true:=by
 obtain ⟨i,hi,his⟩:=lK hsz
 subst his
 unfold jZ at e
 cases hk0:Nat.beq k 0 with
 | true =>
  have hk:k = 0:=Nat.eq_of_beq_eq_true hk0
  subst hk
  rw [hk0,cond_true] at e
  refine ⟨_,.slice none 0 0,w,m,h,?_,M.le_refl m,.nilSl,hW,e⟩
  rcases hs.kind with ⟨e',hk⟩|hk<;>simp [Builtin.append_,bU hst,bU hk,oH hi,hs.len,hs.cells]
 | false =>
  rw [hk0,cond_false] at e
  have hkpos:0 < k:=Nat.pos_of_ne_zero (Nat.ne_of_beq_eq_false hk0)
  cases hno:eY P el k with
  | false=>rw [hno] at e; cases e
  | true =>
   rw [hno,cond_true] at e
   obtain ⟨i',z,hi',hz,n1,n2,n3⟩:=qU hno
   rw [hi] at hi'
   cases hi'
   obtain ⟨i2,hi2,hz2,_,_⟩:=dK hz
   rw [hi] at hi2
   cases hi2
   obtain ⟨f1,f2⟩:=fits (c:=0) n1 n2 hkpos
   have hrun:=run_append_grow_src (P:=P) w st tx ty el i z hst hi hz2 none 0 0 [] (by simp [Builtin.firstCells]) x' k new' hs (by omega) (by simpa using f1) (by simpa using f2)
   simp only [Nat.zero_add,List.nil_append] at hrun
   have hcap:=grownCap_ge w k 0 el
   have hW':=hW.drew
   have hlen:new'.length = k * i.size:=hs.newsLen
   obtain ⟨h',q1,q2,q3⟩:=growN_rel hW' e (new'.toArray ++ Builtin.zeroCells z.cells (grownCap w k 0 el - k)) el (0,0) (.inr rfl) (fun j v hj=>by
    obtain ⟨v',k1,k2⟩:=hn.get j v hj
    refine ⟨v',?_,k2,h1 v' (List.mem_of_getElem? k1)⟩
    rw [Array.getElem?_append_left (by simpa using (List.getElem?_eq_some_iff.1 k1).1)]
    simpa using k1)
   refine ⟨_,_,_,_,h',hrun,q1,?_,q2,q3⟩
   have hE:(new'.toArray ++ Builtin.zeroCells z.cells (grownCap w k 0 el - k)).size = grownCap w k 0 el * i.size:=by
    rw [Array.size_append,jG,n3]
    simp only [List.size_toArray,hlen]
    rw [← Nat.add_mul]
    congr 1
    omega
   refine .sl (B:=w.heap.size) (d:=0) 0 k k (grownCap w k 0 el) (M.put2_f m _ _ _) hcap (.inr ⟨i.size,_,M.put2_sp m _ _ _,?_⟩)
   rw [hE]
   omega

set_option linter.unusedSimpArgs false in
theorem appendZ_rel (hW:WR P m w0 h w) {st tx ty el:TypeId} {s x s' x':Value} {K:KV} (hst:P.underlying st = some (.slice el)) (hs:VR m s s') (hx:VR m x x') (e:appendZ P h el tx K s x = true) :
  ∃ v v' w' m' h',(Builtin.append_ #[st,tx] ty #[s',x']).run P w = .ok v' w' ∧ M.le m m' ∧ VR m' v v' ∧ WR P m' w0 h' w' ∧ K v h' = true:=by
 unfold appendZ at e
 split at e
 ·rename_i n
  cases hs
  cases hx
  split at e
  ·rename_i sz z hu hsz hz
   cases hb:(eY P el n && Nat.beq z.cells.size sz) with
   | false=>rw [hb] at e; cases e
   | true =>
    rw [hb,cond_true] at e
    simp only [Bool.and_eq_true] at hb
    obtain ⟨i,hi,his⟩:=lK hsz
    subst his
    obtain ⟨i',z',hi',hz',n1,n2,n3⟩:=qU hb.1
    rw [hi] at hi'
    cases hi'
    rw [hz] at hz'
    cases hz'
    obtain ⟨i2,hi2,hz2,hpz,hoz⟩:=dK hz
    rw [hi] at hi2
    cases hi2
    have hwn:IntKind.i64.wrap (n:Int) = n:=IntWalk.i64_in _ (by omega)
    have hmul:n * i.bytes ≤ 140737488355328:=n1.1
    have hmul':¬ (281474976710656 < (n:Int) * (i.bytes:Int)):=by
     have:((n * i.bytes:Nat):Int) ≤ ((140737488355328:Nat):Int):=Int.ofNat_le.2 hmul
     simp at this
     omega
    have hneg:¬ ((n:Int) < 0):=by omega
    unfold jZ at e
    cases hk0:Nat.beq n 0 with
    | true =>
     have hk:n = 0:=Nat.eq_of_beq_eq_true hk0
     subst hk
     rw [hk0,cond_true] at e
     refine ⟨_,.slice none 0 0,w,m,h,?_,M.le_refl m,.nilSl,hW,e⟩
     have hw0:IntKind.i64.wrap 0 = 0:=by decide
     simp [Builtin.append_,bU hst,bU hu,oH hi,pR hi,asInt,asIntOf,hw0]
    | false =>
     rw [hk0,cond_false,hb.1,cond_true] at e
     have hkpos:0 < n:=Nat.pos_of_ne_zero (Nat.ne_of_beq_eq_false hk0)
     obtain ⟨f1,f2⟩:=fits (c:=0) n1 n2 hkpos
     have hn0:¬ (n = 0):=by omega
     have h63':¬ (9223372036854775807 < (n:Int)):=by omega
     have h48':¬ (281474976710656 < Builtin.nextslicecap n 0 * i.bytes):=by omega
     have hz0:n * i.size = 0 → (#[]:Array Value) = Builtin.zeroCells z.cells n:=fun h0=>by
      apply Array.ext'
      simp [Builtin.zeroCells,n3,h0]
     have hrun:(Builtin.append_ #[st,tx] ty #[.slice none 0 0,.int .i64 (n:Int)]).run P w =
       .ok (.slice (some ⟨w.heap.size,0,none⟩) n (grownCap w n 0 el)) (w.drew.alloc (.cells (Builtin.zeroCells z.cells n ++ Builtin.zeroCells z.cells (grownCap w n 0 el - n)) el)):=by
      by_cases h0:n * i.size = 0
      ·simp [Builtin.append_,bU hst,bU hu,oH hi,pR hi,asInt,asIntOf,hwn,hneg,hmul',hn0,h63',h48',Question.forced,newRow,grownCap,sizeOf,typeInfo,zeroValue,hi,hz2,Builtin.firstCells,h0,← hz0 h0]
      ·simp [Builtin.append_,bU hst,bU hu,oH hi,pR hi,asInt,asIntOf,hwn,hneg,hmul',hn0,h63',h48',Question.forced,newRow,grownCap,sizeOf,typeInfo,zeroValue,hi,hz2,Builtin.firstCells,h0]
     have hcap:=grownCap_ge w n 0 el
     have hW':=hW.drew
     have hzs:(Builtin.zeroCells z.cells n).toList = repl z.cells.toList n []:=by
      have:=wO z.cells n
      unfold Builtin.zeroCells
      exact this
     have hn:LR m (repl z.cells.toList n []) (repl z.cells.toList n []):=sG (iL hpz) n
     have h1:∀ u ∈ repl z.cells.toList n [],oneB u = true:=fun u hu=>jF hpz hoz u (sH n u hu)
     have hlen:(Builtin.zeroCells z.cells n).size = n * i.size:=by rw [jG,n3]
     obtain ⟨h',q1,q2,q3⟩:=growN_rel hW' e (Builtin.zeroCells z.cells n ++ Builtin.zeroCells z.cells (grownCap w n 0 el - n)) el (0,0) (.inr rfl) (fun j v hj=>by
      obtain ⟨v',k1,k2⟩:=hn.get j v hj
      refine ⟨v',?_,k2,h1 v' (List.mem_of_getElem? k1)⟩
      rw [← hzs] at k1
      rw [Array.getElem?_append_left (by simpa using (List.getElem?_eq_some_iff.1 k1).1)]
      simpa using k1)
     refine ⟨_,_,_,_,h',hrun,q1,?_,q2,q3⟩
     have hE:(Builtin.zeroCells z.cells n ++ Builtin.zeroCells z.cells (grownCap w n 0 el - n)).size = grownCap w n 0 el * i.size:=by
      rw [Array.size_append,jG,jG,n3]
      rw [← Nat.add_mul]
      congr 1
      omega
     refine .sl (B:=w.heap.size) (d:=0) 0 n n (grownCap w n 0 el) (M.put2_f m _ _ _) hcap (.inr ⟨i.size,_,M.put2_sp m _ _ _,?_⟩)
     rw [hE]
     omega
  ·cases e
 ·cases e

theorem appendGrow_rel (hW:WR P m w0 h w) {st tx ty el:TypeId} {new new':List Value} {k sz b off len cap cap' B d:Nat} {x':Value} {K:KV} (hst:P.underlying st = some (.slice el)) (hsz:bH P el = some sz)
  (hs:Src P sz tx x' k new' w) (hn:LR m new new') (h1:∀ u ∈ new',oneB u = true) (hm:m b = some (B,d)) (hz0:cap' = cap ∨ ∃ z E,m.sp b = some (z,E) ∧ off + d + cap' * z ≤ E) (hneed:cap < len + k)
  (e:jX P h el sz b off len new k K = true) :
  ∃ v v' w' m' h',(Builtin.append_ #[st,tx] ty #[.slice (some ⟨B,off + d,none⟩) len cap',x']).run P w = .ok v' w' ∧ M.le m m' ∧ VR m' v v' ∧ WR P m' w0 h' w' ∧ K v h' = true:=by
 obtain ⟨i,hi,his⟩:=lK hsz
 subst his
 unfold jX at e
 split at e
 ·rename_i c fam hg
  cases hcnd:(Nat.ble (Nat.add off (Nat.mul len i.size)) c.length && (eY P el (Nat.add len k) && zOk h b i.size)) with
  | false=>rw [hcnd] at e; cases e
  | true =>
   rw [hcnd,cond_true] at e
   simp only [Bool.and_eq_true] at hcnd
   obtain ⟨c1,c2,c3⟩:=hcnd
   have c1':off + len * i.size ≤ c.length:=Nat.le_of_ble_eq_true c1
   obtain ⟨i',z,hi',hz,n1,n2,n3⟩:=qU c2
   rw [hi] at hi'
   cases hi'
   obtain ⟨i2,hi2,hz2,_,_⟩:=dK hz
   rw [hi] at hi2
   cases hi2
   split at e
   ·cases e
   ·rename_i l hl
    obtain ⟨B',d',g1,g2,g3,_⟩:=hW.obj b _ hg
    rw [hm] at g1
    cases g1
    have hB:=g3 rfl
    have hBlt:=hW.dom _ _ _ hm
    have hlen:new'.length = k * i.size:=hs.newsLen
    obtain ⟨olds',o1,o2,o3⟩:=oO g2 off ((c.drop off).take (len * i.size)) (fun j v hj=>by
     rw [List.getElem?_take] at hj
     split at hj
     ·simpa [List.getElem?_drop] using hj
     ·cases hj)
    have holen:olds'.length = len * i.size:=by rw [← o1.length]; simp; omega
    have hLR:LR m ((c.drop off).take (len * i.size) ++ new) (olds' ++ new'):=o1.append hn
    have hones:∀ u ∈ olds' ++ new',oneB u = true:=by
     intro u hu
     rcases List.mem_append.1 hu with hu|hu
     ·exact o2 u hu
     ·exact h1 u hu
    by_cases hroom:len + k ≤ cap'
    ·-- there is room in the world's row
     have hne:cap' ≠ cap:=by omega
     obtain ⟨z0,E,z1,z2⟩:=hz0.resolve_left hne
     have hzz:z0 = i.size:=zOk_eq hW c3 hm z1
     subst hzz
     obtain ⟨hsp,_⟩:=hW.spr b B d _ E hm z1
     have hmul:(len + k) * i.size ≤ cap' * i.size:=Nat.mul_le_mul_right _ hroom
     have hsplit:(len + k) * i.size = len * i.size + k * i.size:=Nat.add_mul _ _ _
     have hin:∀ j,j < new'.length → (w.cell? ⟨B,off + d + len * i.size + j,none⟩).isSome = true ∧ w.frozen? ⟨B,off + d + len * i.size + j,none⟩ = false:=fun j hj=>hsp _ (by omega) (by omega)
     have hrun:=run_append_room_src (P:=P) w st tx ty el i hst hi B (off + d) len cap' x' k new' hs hroom (fun j hj=>(hin j hj).1) (fun j hj=>(hin j hj).2)
     obtain ⟨h',q1,q2⟩:=hW.grow (w':=w.setCells B (off + d + len * i.size) new') hg hm hl (off + len * i.size) i.size B (off + d) E rfl hB (by rw [size_setCells]; exact hBlt) (.inl rfl) (by rw [size_setCells]; exact Nat.le_refl _)
      (fun B2 _ hB2=>l7 B new' _ w B2 hB2)
      (fun j hj=>World.cell?_setCells_out B new' _ w ⟨B,d + j,none⟩ (fun _ _=>.inl (by show d + j < off + d + len * i.size; omega)))
      (fun j=>World.frozen?_setCells B new' _ w _)
      (fun j hj=>World.isSome_setCells B new' _ w _ hj)
      (fun j v hj=>by
       obtain ⟨v',k1,k2⟩:=hLR.get j v hj
       have k3:=hones v' (List.mem_of_getElem? k1)
       have hjl:j < olds'.length + new'.length:=by simpa using (List.getElem?_eq_some_iff.1 k1).1
       refine ⟨v',?_,k2,k3,?_⟩
       ·by_cases hjo:j < olds'.length
        ·rw [List.getElem?_append_left hjo] at k1
         rw [World.cell?_setCells_out B new' _ w ⟨B,off + d + j,none⟩ (fun _ _=>.inl (by show off + d + j < off + d + len * i.size; omega))]
         exact o3 j v' k1
        ·rw [List.getElem?_append_right (by omega)] at k1
         have hj2:j - olds'.length < new'.length:=by omega
         have:=World.cell?_setCells_in B new' (off + d + len * i.size) w (fun j hj=>(hin j hj).1) (j - olds'.length) hj2
         rw [show off + d + j = off + d + len * i.size + (j - olds'.length) by omega,this,← k1,List.getElem?_eq_getElem hj2]
       ·rw [World.frozen?_setCells]
        exact (hsp _ (by omega) (by omega)).2)
      (fun j j1 j2=>by
       obtain ⟨k3,k4⟩:=hsp j (by omega) j2
       exact ⟨World.isSome_setCells B new' _ w _ k3,by rw [World.frozen?_setCells]; exact k4⟩)
      (below_setCells B hB new' _ w hW.below) e
     rw [bP] at q2
     refine ⟨_,_,_,_,h',hrun,M.le_put2 (hW.fresh h.nx (Nat.le_refl _)).1 (hW.spn h.nx (Nat.le_refl _)) _ _,?_,q1,q2⟩
     have hsl:=VR.sl (m:=m.put2 h.nx (B,off + d) (i.size,E)) (b:=h.nx) (B:=B) (d:=off + d) 0 (len + k) (len + k) cap' (M.put2_f m _ _ _) hroom (.inr ⟨i.size,E,M.put2_sp m _ _ _,by omega⟩)
     rw [Nat.zero_add] at hsl
     exact hsl
    ·-- the world's row grows
     obtain ⟨f1,f2⟩:=fits (c:=cap') n1 n2 (by show cap' < len + k; omega)
     have hW':=hW.drew
     have hold:(Builtin.firstCells i.size len (.slice (some ⟨B,off + d,none⟩) len cap')).run P w.drew = .ok olds'.toArray w.drew:=by
      refine run_firstCells_some (P:=P) w.drew i.size len ⟨B,off + d,none⟩ len cap' olds' holen (fun j v hj=>?_)
      rw [Addr.add_mid]
      exact o3 j v hj
     have hrun:=run_append_grow_src (P:=P) w st tx ty el i z hst hi hz2 (some ⟨B,off + d,none⟩) len cap' olds' hold x' k new' hs (by omega) f1 f2
     have hcap:=grownCap_ge w (len + k) cap' el
     have hE:((olds' ++ new').toArray ++ Builtin.zeroCells z.cells (grownCap w (len + k) cap' el - (len + k))).size = grownCap w (len + k) cap' el * i.size:=by
      rw [Array.size_append,jG,n3]
      simp only [List.size_toArray,List.length_append,hlen,holen]
      rw [← Nat.add_mul,← Nat.add_mul]
      congr 1
      omega
     generalize hcs:((olds' ++ new').toArray ++ Builtin.zeroCells z.cells (grownCap w (len + k) cap' el - (len + k))) = cs at hrun hE
     have hnw:=heap_alloc_new w.drew (.cells cs el)
     have hcell:∀ j,(w.drew.alloc (.cells cs el)).cell? ⟨w.heap.size,j,none⟩ = cs[j]?:=fun j=>by
      have hnw':(w.drew.alloc (.cells cs el)).heap[w.heap.size]? = some (.cells cs el):=hnw
      simp only [World.cell?,hnw']
      simp
     have hfroz:∀ j,(w.drew.alloc (.cells cs el)).frozen? ⟨w.heap.size,j,none⟩ = false:=fun j=>by
      have hnw':(w.drew.alloc (.cells cs el)).heap[w.heap.size]? = some (.cells cs el):=hnw
      simp only [World.frozen?,hnw']
      simp
     have hsz1:(w.drew.alloc (.cells cs el)).heap.size = w.heap.size + 1:=by show (w.heap.push _).size = _; simp
     have hblk:∀ B2,B2 < w.heap.size → (w.drew.alloc (.cells cs el)).heap[B2]? = w.heap[B2]?:=fun B2 h2=>Below.heap_alloc w.drew _ _ h2
     obtain ⟨h',q1,q2⟩:=hW.grow (w':=w.drew.alloc (.cells cs el)) hg hm hl (off + len * i.size) i.size w.heap.size 0 cs.size rfl hW.below.size (by omega) (.inr (Nat.le_refl _)) (by omega)
      (fun B2 hB2 _=>hblk B2 hB2)
      (fun j _=>World.cell?_of_block (w:=w) (a:=⟨B,d + j,none⟩) (hblk B hBlt))
      (fun j=>World.frozen?_of_block (w:=w) (a:=⟨B,j,none⟩) (hblk B hBlt))
      (fun j hj=>by rw [World.cell?_of_block (w:=w) (a:=⟨B,j,none⟩) (hblk B hBlt)]; exact hj)
      (fun j v hj=>by
       obtain ⟨v',k1,k2⟩:=hLR.get j v hj
       refine ⟨v',?_,k2,hones v' (List.mem_of_getElem? k1),hfroz _⟩
       rw [Nat.zero_add,hcell,← hcs,Array.getElem?_append_left (by simpa using (List.getElem?_eq_some_iff.1 k1).1)]
       simpa using k1)
      (fun j _ hj=>⟨by rw [hcell,Array.getElem?_eq_getElem hj]; rfl,hfroz j⟩)
      (hW'.below.alloc hW'.below.size _) e
     rw [bP] at q2
     refine ⟨_,_,_,_,h',hrun,M.le_put2 (hW.fresh h.nx (Nat.le_refl _)).1 (hW.spn h.nx (Nat.le_refl _)) _ _,?_,q1,q2⟩
     exact VR.sl (m:=m.put2 h.nx (w.heap.size,0) (i.size,cs.size)) (b:=h.nx) (B:=w.heap.size) (d:=0) 0 (len + k) (len + k) (grownCap w (len + k) cap' el) (M.put2_f m _ _ _) hcap (.inr ⟨i.size,cs.size,M.put2_sp m _ _ _,by rw [hE]; omega⟩)
 ·cases e

end
end Go.Ev

/- Operations that write, all but calls. -/
namespace Go.Ev
open Go.RowKit

section
variable {P:Program} {m:M} {w0:Base} {w:World} {h:AHeap} {t:T Value} {n:Nat} {a:Act}

theorem wDig_rel (hW:WR P m w0 h w) {src dst:TypeId} {x:Operand} {xv:Value} {K:KV} (e:wDig P h src dst K xv = true) (o:Oper) (ρ:Operand → Value) (ho:o.op = .convert src dst x)
  (hx:VR m xv (ρ x)):Ran P m w0 w K (execOp ρ o):=by
 unfold wDig at e
 split at e
 ·rename_i s
  split at e
  ·rename_i el hs
   cases hc:(lX P src && (isU8 P el && Nat.blt s.size bigNat)) with
   | false=>rw [hc] at e; cases e
   | true =>
    rw [hc,cond_true] at e
    simp only [Bool.and_eq_true] at hc
    obtain ⟨c1,c2,c3⟩:=hc
    have hu8:P.underlying el = some (.int .u8):=by
     unfold isU8 at c2
     split at c2
     ·assumption
     ·cases c2
    generalize hxe:ρ x = x' at hx
    cases hx
    have hrun:=run_bytes_of_string (P:=P) w src dst el s (pU c1) (eG hs) hu8
    have hW':=hW.drew
    have hcap:=grownCap_ge w s.size 0 el
    obtain ⟨h',q1,q2,q3⟩:=growN_rel hW' e (bytesRow s (grownCap w s.size 0 el)) el ((bytesRow s (grownCap w s.size 0 el)).size,(bytesRow s (grownCap w s.size 0 el)).size + 1) (.inl (Nat.le_refl _)) (fun i v hv=>by
     simp only [List.getElem?_map,Option.map_eq_some_iff] at hv
     obtain ⟨b,hb1,hb2⟩:=hv
     refine ⟨v,?_,eH m v (by rw [← hb2]; rfl),by rw [← hb2]; rfl⟩
     have hi:i < s.data.size:=by simpa using (List.getElem?_eq_some_iff.1 hb1).1
     unfold bytesRow
     rw [Array.getElem?_append_left (by simpa using hi)]
     rw [Array.getElem?_map]
     rw [← Array.getElem?_toList,hb1,← hb2]
     rfl)
    rw [bP] at q3
    refine ⟨.value (.slice (some ⟨w.heap.size,0,none⟩) s.size (grownCap w s.size 0 el)),_,_,_,_,h',?_,.inl rfl,q1,?_,q2,q3⟩
    ·simp only [execOp,ho,hxe]
     exact eX hrun
    ·have hE:(bytesRow s (grownCap w s.size 0 el)).size = grownCap w s.size 0 el:=by
      unfold bytesRow
      have:s.data.size = s.size:=rfl
      simp
      omega
     exact VR.sl (B:=w.heap.size) (d:=0) 0 s.size s.size (grownCap w s.size 0 el) (M.put2_f m _ _ _) hcap (.inr ⟨1,_,M.put2_sp m _ _ _,by rw [hE]; omega⟩)
  ·cases e
 ·cases e

theorem wAppend_rel (hW:WR P m w0 h w) (hT:TR m t n a.tmps) {c:Call} {K:KV} (e:lZ P t h c K = true) (o:Oper) (ho:o.op = .call c) (hc:c.callee = .builtin .append) :
  Ran P m w0 w K (execOp a.eval o):=by
 unfold lZ at e
 split at e
 ·rename_i st xt s x hty hargs
  have hty':c.argTypes = #[st,xt]:=by rw [← Array.toArray_toList (xs:=c.argTypes),hty]
  have hargs':c.args = #[s,x]:=by rw [← Array.toArray_toList (xs:=c.args),hargs]
  split at e
  ·rename_i el hel
   have hs:=eP (P:=P) hT hW.glob s
   have hx:=eP (P:=P) hT hW.glob x
   have hex:∀ u w',(Builtin.append_ #[st,xt] o.type #[a.eval s,a.eval x]).run P w = .ok u w' → (execOp a.eval o).run P w = .ok (.value u) w':=by
    intro u w' hu
    simp only [execOp,ho,resolve,hc,hargs',hty',Sem.run_bind,Sem.run_pure,Result.andThen_ok,invoke,builtin]
    simp [hu]
   have fin:(∃ v v' w' m' h',(Builtin.append_ #[st,xt] o.type #[a.eval s,a.eval x]).run P w = .ok v' w' ∧ M.le m m' ∧ VR m' v v' ∧ WR P m' w0 h' w' ∧ K v h' = true) → Ran P m w0 w K (execOp a.eval o):=by
    rintro ⟨v,v',w',m',h',k1,k2,k3,k4,k5⟩
    exact ⟨.value v',v,v',w',m',h',hex _ _ k1,.inl rfl,k2,k3,k4,k5⟩
   cases hk:kindOk P xt (ev P t x) with
   | false =>
    rw [hk,cond_false] at e
    exact fin (appendZ_rel hW (eG hel) hs hx e)
   | true =>
    rw [hk,cond_true] at e
    unfold iR at e
    split at e
    ·cases e
    ·rename_i sz hsz
     split at e
     ·cases e
     ·rename_i new k hsrc
      obtain ⟨new',q1,q2,q3⟩:=wQ hW hk hsrc hx
      obtain ⟨i,hi,his⟩:=lK hsz
      generalize hse:ev P t s = sv at e hs
      generalize hse':a.eval s = sv' at hs fin
      split at e
      ·cases hs
       exact fin (appendNil_rel hW (eG hel) hsz q1 q2 q3 e)
      ·rename_i b off len cap
       cases hs with
       | @sl _ B d _ _ _ cap' hm hcc hz =>
        cases hroom:Nat.ble (Nat.add len k) cap with
        | true =>
         rw [hroom,cond_true] at e
         have hroom':len + k ≤ cap:=Nat.le_of_ble_eq_true hroom
         obtain ⟨h',k1,k2,k3⟩:=qQ hW e hm q2 q3
         refine fin ⟨_,_,_,m,h',?_,M.le_refl m,.sl off (len + k) cap cap' hm hcc hz,k1,k2⟩
         subst his
         have:=run_append_room_src (P:=P) w st xt o.type el i (eG hel) hi B (off + d) len cap' (a.eval x) k new' q1 (by omega)
          (fun j hj=>by have:=(k3 j hj).1; rwa [show off + d + len * i.size + j = off + len * i.size + d + j by omega])
          (fun j hj=>by have:=(k3 j hj).2; rwa [show off + d + len * i.size + j = off + len * i.size + d + j by omega])
         rw [show off + d + len * i.size = off + len * i.size + d by omega] at this
         exact this
        | false =>
         rw [hroom,cond_false] at e
         have hroom':¬ (len + k ≤ cap):=fun hle=>by have h2:Nat.ble (Nat.add len k) cap = true:=Nat.ble_eq_true_of_le hle; rw [hroom] at h2; cases h2
         exact fin (appendGrow_rel hW (eG hel) hsz q1 q2 q3 hm hz (by omega) e)
      ·cases e
  ·cases e
 ·cases e

/-! ## Copying -/
theorem wR (w:World) (dT sT ty el:TypeId) (i:TypeInfo) (hu:P.underlying dT = some (.slice el)) (hi:P.info? el = some i) (b o dLen dCap:Nat) (x:Value) (n k:Nat) (news:List Value)
  (hl:(Builtin.lenOf x).run P w = .ok n w) (hk:Nat.min n dLen = k) (hc0:(Builtin.firstCells i.size k x).run P w = .ok news.toArray w)
  (hc:∀ j,j < news.length → (w.cell? ⟨b,o + j,none⟩).isSome = true) (hf:∀ j,j < news.length → w.frozen? ⟨b,o + j,none⟩ = false) (h1:∀ v ∈ news,v.oneCell' = true) :
  (Builtin.copy_ #[dT,sT] ty #[.slice (some ⟨b,o,none⟩) dLen dCap,x]).run P w = .ok (.int .i64 (Int.ofNat k)) (w.setCells b o news):=by
 have hst:=run_storeCells_cells (P:=P) b o news 0 w (by simpa using hc) (by simpa using hf) h1
 subst hk
 simp [Builtin.copy_,run_underlying hu,hl,sizeOf,typeInfo,hi,hc0,hst,goInt]

theorem wCopy1_rel (hW:WR P m w0 h w) {dt st ty el:TypeId} {i:TypeInfo} (hu:P.underlying dt = some (.slice el)) (hi:P.info? el = some i) {b off B d k len dCap n:Nat} {x x' y':Value} {K:KV}
  (hkd:kindOk P st x = true) (e:wCopy1 h i.size b off k x K = true) (hx:VR m x x') (hm:m b = some (B,d)) (hl:(Builtin.lenOf y').run P w = .ok n w) (hk:Nat.min n len = k) (hkx:∀ k' new' ,Src P i.size st x' k' new' w → (Builtin.firstCells i.size k y').run P w = .ok new'.toArray w) :
  ∃ w' h',(Builtin.copy_ #[dt,st] ty #[.slice (some ⟨B,off + d,none⟩) len dCap,y']).run P w = .ok (.int .i64 (Int.ofNat k)) w' ∧ WR P m w0 h' w' ∧ K (.int .i64 (Int.ofNat k)) h' = true:=by
 unfold wCopy1 at e
 split at e
 ·rename_i new k' hsrc
  obtain ⟨new',q1,q2,q3⟩:=wQ hW hkd hsrc hx
  obtain ⟨h',k1,k2,k3⟩:=qQ hW e hm q2 q3
  refine ⟨_,h',wR w dt st ty el i hu hi B (off + d) len dCap y' n k new' hl hk (hkx _ _ q1) (fun j hj=>(k3 j hj).1) (fun j hj=>(k3 j hj).2) q1.one,k1,k2⟩
 ·cases e

theorem wCopy_rel (hW:WR P m w0 h w) (hT:TR m t n a.tmps) {c:Call} {K:KV} (e:wCopy P t h c K = true) (o:Oper) (ho:o.op = .call c) (hc:c.callee = .builtin .copy) :
  Ran P m w0 w K (execOp a.eval o):=by
 unfold wCopy at e
 split at e
 ·rename_i dt st d s hty hargs
  have hty':c.argTypes = #[dt,st]:=by rw [← Array.toArray_toList (xs:=c.argTypes),hty]
  have hargs':c.args = #[d,s]:=by rw [← Array.toArray_toList (xs:=c.args),hargs]
  split at e
  ·rename_i el hel
   split at e
   ·rename_i sz hsz
    cases hk:kindOk P st (ev P t s) with
    | false=>rw [hk] at e; cases e
    | true =>
     rw [hk,cond_true] at e
     have hd:=eP (P:=P) hT hW.glob d
     have hs:=eP (P:=P) hT hW.glob s
     obtain ⟨i,hi,his⟩:=lK hsz
     subst his
     have fin:∀ k,(∃ w' h',(Builtin.copy_ #[dt,st] o.type #[a.eval d,a.eval s]).run P w = .ok (.int .i64 (Int.ofNat k)) w' ∧ WR P m w0 h' w' ∧ K (.int .i64 (Int.ofNat k)) h' = true) → Ran P m w0 w K (execOp a.eval o):=by
      rintro k ⟨w',h',k1,k2,k3⟩
      refine ⟨.value (.int .i64 (Int.ofNat k)),.int .i64 (Int.ofNat k),.int .i64 (Int.ofNat k),w',m,h',?_,.inl rfl,M.le_refl m,.int _ _,k2,k3⟩
      simp only [execOp,ho,resolve,hc,hargs',hty',Sem.run_bind,Sem.run_pure,Result.andThen_ok,invoke,builtin]
      simp [k1]
     generalize ev P t d = dv at e hd
     generalize ev P t s = sv at e hs hk
     generalize a.eval d = dv' at hd fin
     generalize a.eval s = sv' at hs fin
     unfold wCopy2 at e
     split at e
     ·rename_i b off len cap b2 off2 k0 c2
      rw [bP] at e
      cases hd with
      | @sl _ B dd _ _ _ cap' hm _ _ =>
       cases hs with
       | @sl _ B2 d2 _ _ _ cap2' hm2 hc2 hz2 =>
        refine fin (Nat.min k0 len) (wCopy1_rel (n:=k0) hW (eG hel) hi (by simpa [kindOk] using hk) e (.sl off2 (Nat.min k0 len) c2 cap2' hm2 hc2 hz2) hm (by simp [Builtin.lenOf]) rfl fun k' new' q=>?_)
        have hk':k' = Nat.min k0 len:=by
         have h1:=q.len w
         simp only [Builtin.lenOf,Sem.run_pure,Result.ok.injEq] at h1
         exact h1.1.symm
        subst hk'
        exact q.cells
     ·rename_i b off len cap str
      cases hcd:(Nat.ble str.size len && Nat.beq i.size 1) with
      | false=>rw [hcd] at e; cases e
      | true =>
       rw [hcd,cond_true] at e
       simp only [Bool.and_eq_true] at hcd
       have hle:str.size ≤ len:=Nat.le_of_ble_eq_true hcd.1
       cases hd with
       | @sl _ B dd _ _ _ cap' hm _ _ =>
        cases hs
        refine fin str.size (wCopy1_rel (n:=str.size) hW (eG hel) hi hk e (.string str) hm (by simp [Builtin.lenOf]) (Nat.min_eq_left hle) fun k' new' q=>?_)
        have hk':k' = str.size:=by
         have h1:=q.len w
         simp only [Builtin.lenOf,Sem.run_pure,Result.ok.injEq] at h1
         exact h1.1.symm
        subst hk'
        exact q.cells
     ·rename_i b off len cap
      cases hd with
      | @sl _ B dd _ _ _ cap' hm _ _ =>
       cases hs with
       | nilSl =>
        refine fin 0 ⟨w,h,?_,hW,e⟩
        have:=wR w dt st o.type el i (eG hel) hi B (off + dd) len cap' (.slice none 0 0) 0 0 [] rfl (Nat.zero_min _) rfl (fun j hj=>by cases hj) (fun j hj=>by cases hj) (fun v hv=>by cases hv)
        exact this
     ·cases e
   ·cases e
  ·cases e
 ·cases e

/-! ## Ranges over maps -/
theorem run_setObj_iter {B since last:Nat} {mm:Option Nat} {seen:Array Nat} (g:w.heap[B]? = some (.mapIter mm since seen last)) (x:Obj):(setObj B x).run P w = .ok () { w with heap:=w.heap.setIfInBounds B x }:=by
 simp only [setObj,Sem.run,g]

theorem wRange_rel (hW:WR P m w0 h w) {ty:TypeId} {xo:Operand} {xv:Value} {K:KV} (e:wRange P h ty K xv = true) (o:Oper) (ρ:Operand → Value) (ho:o.op = .range ty xo) (hx:VR m xv (ρ xo)):Ran P m w0 w K (execOp ρ o):=by
 unfold wRange at e
 generalize hxe:ρ xo = x' at hx
 split at e
 ·cases hx
  split at e
  ·rename_i p hp
   obtain ⟨kt,et⟩:=p
   obtain ⟨m',h',k1,k2,k3,k4⟩:=oJ hW e (.mapIter none 0 #[] 0) rfl rfl (fun m' _=>⟨rfl,none,heap_alloc_new w _,rfl⟩)
   refine ⟨.value (.pointer (some ⟨w.heap.size,0,none⟩)),_,_,_,m',h',?_,.inl rfl,k1,.ptr 0 k2,k3,k4⟩
   simp only [execOp,ho,hxe]
   refine eX ?_
   simp only [Instr.range,Sem.run_bind,bU (gG hp),Result.andThen_ok,Sem.run_pure,run_newObj]
   rfl
  ·cases e
 ·rename_i r
  cases hx with
  | @map _ R d hm =>
   split at e
   ·rename_i p es clock hp hes
    obtain ⟨kt,et⟩:=p
    obtain ⟨es',g1,g2⟩:=hW.entries hes hm
    obtain ⟨m',h',k1,k2,k3,k4⟩:=oJ hW e (.mapIter (some R) clock #[] clock) rfl rfl (fun m' hle=>⟨rfl,some R,heap_alloc_new w _,R,d,hle.1 _ _ hm,rfl⟩)
    refine ⟨.value (.pointer (some ⟨w.heap.size,0,none⟩)),_,_,_,m',h',?_,.inl rfl,k1,.ptr 0 k2,k3,k4⟩
    simp only [execOp,ho,hxe]
    refine eX ?_
    simp only [Instr.range,Sem.run_bind,bU (gG hp),Result.andThen_ok,Sem.run_pure,run_getObj_map g1,run_newObj]
    rfl
   ·cases e
 ·cases e

theorem ER.filter {p:Nat → Bool}:∀ {es es':List MapEntry},ER m es es' → ER m (es.filter fun e=>p e.born) (es'.filter fun e=>p e.born)
 | _,_,.nil=>.nil
 | _,_,.cons (e:=e) (e':=e') hk hb hv ht=>by
  have ih:=ER.filter (p:=p) ht
  simp only [List.filter_cons]
  rw [hb]
  cases p e'.born with
  | true=>exact .cons hk hb hv ih
  | false=>exact ih

theorem ER.all {p:Nat → Bool}:∀ {es es':List MapEntry},ER m es es' → (es.all fun e=>p e.born) = (es'.all fun e=>p e.born)
 | _,_,.nil=>rfl
 | _,_,.cons (e:=e) (e':=e') hk hb hv ht=>by
  simp only [List.all_cons]
  rw [hb,ER.all (p:=p) ht]

/-- The candidates of a step, one by one. -/
inductive CR (m:M):List (Option MapEntry) → List (Option MapEntry) → Prop
 | nil:CR m [] []
 | no {l l':List (Option MapEntry)} (h:CR m l l'):CR m (none :: l) (none :: l')
 | so {e e':MapEntry} {l l':List (Option MapEntry)} (hk:e.key = e'.key) (hb:e.born = e'.born) (hv:VR m e.val e'.val) (h:CR m l l'):CR m (some e :: l) (some e' :: l')
theorem CR.append:∀ {a a' b b':List (Option MapEntry)},CR m a a' → CR m b b' → CR m (a ++ b) (a' ++ b')
 | _,_,_,_,.nil,k=>k
 | _,_,_,_,.no h,k=>.no (CR.append h k)
 | _,_,_,_,.so a b c h,k=>.so a b c (CR.append h k)
theorem ER.somes:∀ {es es':List MapEntry},ER m es es' → CR m (es.map Option.some) (es'.map Option.some)
 | _,_,.nil=>.nil
 | _,_,.cons a b c h=>.so a b c (ER.somes h)
theorem ER.emptyL:∀ {es es':List MapEntry},ER m es es' → es.isEmpty = es'.isEmpty
 | _,_,.nil=>rfl
 | _,_,.cons _ _ _ _=>rfl
theorem candsE_rel {es es':List MapEntry} (h:ER m es es') (since:Nat) (seen:List Nat):CR m (mX es since seen) (mX es' since seen):=by
 have h1:=ER.filter (p:=fun b=>!(seen.contains b)) h
 have h2:=ER.filter (p:=fun b=>decide (b < since)) h1
 have h3:=ER.filter (p:=fun b=>decide (b ≥ since)) h1
 unfold mX
 simp only
 rw [h2.emptyL]
 refine CR.append ?_ (h2.append h3).somes
 split
 ·exact .no .nil
 ·exact .nil
theorem CR.get:∀ {l l':List (Option MapEntry)},CR m l l' → ∀ i,i < l'.length → ∃ c c',l[i]? = some c ∧ l'[i]? = some c' ∧ c ∈ l ∧ ((c = none ∧ c' = none) ∨ ∃ e e',c = some e ∧ c' = some e' ∧ e.key = e'.key ∧ e.born = e'.born ∧ VR m e.val e'.val)
 | _,_,.nil,i,h=>by simp at h
 | _,_,.no (l:=l) (l':=l') k,0,_=>⟨_,_,rfl,rfl,by simp,.inl ⟨rfl,rfl⟩⟩
 | _,_,.so (e:=e) (e':=e') a b c k,0,_=>⟨_,_,rfl,rfl,by simp,.inr ⟨e,e',rfl,rfl,a,b,c⟩⟩
 | _,_,.no k,i + 1,h=>by
  obtain ⟨c,c',h1,h2,h3,h4⟩:=CR.get k i (by simpa using h)
  exact ⟨c,c',by simpa using h1,by simpa using h2,by simp [h3],h4⟩
 | _,_,.so a b c k,i + 1,h=>by
  obtain ⟨c,c',h1,h2,h3,h4⟩:=CR.get k i (by simpa using h)
  exact ⟨c,c',by simpa using h1,by simpa using h2,by simp [h3],h4⟩
theorem CR.length:∀ {l l':List (Option MapEntry)},CR m l l' → l.length = l'.length
 | _,_,.nil=>rfl
 | _,_,.no k=>by simp [CR.length k]
 | _,_,.so _ _ _ k=>by simp [CR.length k]

theorem run_choose_map (n:Nat) (hn:0 < n) (w:World):∃ i w1,i < n ∧ (choose (.mapNext n)).run P w = .ok i w1 ∧ (w1 = w ∨ w1 = w.drew):=by
 unfold choose
 simp only [Sem.run,Question.forced,Question.cut]
 by_cases h:n ≤ 1
 ·exact ⟨0,w,hn,by simp [h],.inl rfl⟩
 ·refine ⟨w.tape w.drawn (.mapNext n) % n,w.drew,Nat.mod_lt _ hn,by simp [h],.inr rfl⟩

theorem candsA (es':Array MapEntry) (since:Nat) (seen:List Nat) :
  ((if (Array.filter (fun x=>decide (x.born < since)) (Array.filter (fun e=>!seen.reverse.toArray.contains e.born) es')).isEmpty = true then #[none] else #[]) ++
   Array.map some (Array.filter (fun x=>decide (x.born < since)) (Array.filter (fun e=>!seen.reverse.toArray.contains e.born) es') ++ Array.filter (fun x=>decide (x.born ≥ since)) (Array.filter (fun e=>!seen.reverse.toArray.contains e.born) es'))) =
  (mX es'.toList since seen).toArray:=by
 have hc:∀ b:Nat,seen.reverse.toArray.contains b = seen.contains b:=fun b=>by simp
 obtain ⟨l⟩:=es'
 simp only [hc]
 apply Array.toList_inj.1
 unfold mX
 simp only [Array.toList_append,Array.toList_map,List.filter_toArray,List.isEmpty_toArray]
 split<;>simp

theorem wNext_rel (hW:WR P m w0 h w) {it:Operand} {xv:Value} {K:KV} (e:wNext h K xv = true) (o:Oper) (ρ:Operand → Value) (ho:o.op = .next it false) (hx:VR m xv (ρ it)):Ran P m w0 w K (execOp ρ o):=by
 unfold wNext at e
 generalize hxe:ρ it = x' at hx
 split at e
 ·rename_i b
  cases hx with
  | @ptr _ B d _ hm =>
   split at e
   ·rename_i since seen last hb
    obtain ⟨B',d',h1,h2,_⟩:=hW.obj b _ hb
    rw [hm] at h1
    cases h1
    obtain ⟨rfl,mm',hg,rfl⟩:=h2
    refine ⟨.value (.tuple #[.bool false]),_,_,w,m,h,?_,.inl rfl,M.le_refl m,.tuple (.cons (.bool false) .nil),hW,e⟩
    simp only [execOp,ho,hxe]
    refine eX ?_
    simp only [Instr.next,Nat.add_zero,Sem.run_bind,mY hg,Result.andThen_ok]
    rfl
   ·rename_i r since seen last hb
    split at e
    ·rename_i es clock hes
     obtain ⟨B',d',h1,h2,_⟩:=hW.obj b _ hb
     rw [hm] at h1
     cases h1
     obtain ⟨rfl,mm',hg,R,d2,hr,rfl⟩:=h2
     obtain ⟨es',g1,g2⟩:=hW.entries hes hr
     cases hst:(!seen.isEmpty && !es.isEmpty && es.all (fun e=>decide (e.born ≥ last))) with
     | true=>rw [hst] at e; cases e
     | false =>
     rw [hst,cond_false] at e
     cases hem:(mX es since seen).isEmpty with
     | true=>rw [hem] at e; cases e
     | false =>
     rw [hem,cond_false] at e
     have hcr:=candsE_rel g2 since seen
     have hpos:0 < (mX es'.toList since seen).length:=by
      rw [← hcr.length]
      cases hq:mX es since seen with
      | nil=>rw [hq] at hem; cases hem
      | cons _ _=>simp
     have hst':(!(seen.reverse.toArray).isEmpty && !es'.isEmpty && es'.all (fun e=>decide (e.born ≥ last))) = false:=by
      rw [← hst,← Array.all_toList,ER.all (p:=fun b=>decide (b ≥ last)) g2,← ER.isEmpty g2]
      simp
     have hrun:∀ (i:Nat) (w1:World),(choose (.mapNext (mX es'.toList since seen).length)).run P w = .ok i w1 → (Instr.next (.pointer (some ⟨B,0 + 0,none⟩)) false o.type).run P w =
       (match (mX es'.toList since seen)[i]? with
        | some (some e)=>(do setObj B (.mapIter (some R) since (seen.reverse.toArray.push e.born) clock); pure (.tuple #[.bool true,e.key,e.val]):Sem Value).run P w1
        | some none=>.ok (.tuple #[.bool false]) w1
        | none=>(stuck "Next: no such candidate" : Sem Value).run P w1):=by
      intro i w1 hch
      simp only [Instr.next,Nat.add_zero,Sem.run_bind,mY hg,Result.andThen_ok,rH g1]
      rw [hst']
      simp only [Bool.false_eq_true,if_false]
      rw [candsA]
      simp only [List.size_toArray,List.getElem?_toArray,Sem.run_bind,hch,Result.andThen_ok]
      split<;>simp_all
     obtain ⟨i,w1,hi,hch,hw1⟩:=run_choose_map (P:=P) _ hpos w
     have hW1:WR P m w0 h w1:=by
      rcases hw1 with rfl|rfl
      ·exact hW
      ·exact hW.drew
     have hg1:w1.heap[B]? = some (.mapIter (some R) since seen.reverse.toArray last):=by
      rcases hw1 with rfl|rfl
      ·exact hg
      ·exact hg
     obtain ⟨c,c',q1,q2,q3,q4⟩:=hcr.get i hi
     have e2:=List.all_eq_true.1 e c q3
     have hrun2:=hrun i w1 hch
     rw [q2] at hrun2
     rcases q4 with ⟨rfl,rfl⟩|⟨en,en',rfl,rfl,hk,hbn,hv⟩
     ·refine ⟨.value (.tuple #[.bool false]),_,_,w1,m,h,?_,.inl rfl,M.le_refl m,.tuple (.cons (.bool false) .nil),hW1,e2⟩
      simp only [execOp,ho,hxe]
      exact eX hrun2
     ·unfold nextTo at e2
      cases hpk:plainB en.key with
      | false=>simp only [hpk] at e2; cases e2
      | true =>
       simp only [hpk,cond_true,bP] at e2
       have hlt:B < w1.heap.size:=(Array.getElem?_eq_some_iff.1 hg1).1
       obtain ⟨h',k1,k2⟩:=pX hW1 e2 hb hm rfl rfl rfl (.mapIter (some R) since (seen.reverse.toArray.push en'.born) clock) ⟨rfl,some R,by simp [hlt,hbn],R,d2,hr,rfl⟩
       refine ⟨.value (.tuple #[.bool true,en'.key,en'.val]),_,_,_,m,h',?_,.inl rfl,M.le_refl m,.tuple (.cons (.bool true) (.cons ?_ (.cons hv .nil))),k1,k2⟩
       ·simp only [execOp,ho,hxe]
        refine eX ?_
        rw [hrun2]
        simp only [Sem.run_bind,run_setObj_iter hg1,Result.andThen_ok,Sem.run_pure]
       ·rw [← hk]; exact eH m _ hpk
    ·cases e
   ·cases e
 ·cases e

/-! ## delete, clear -/
theorem ER.eraseIdx:∀ {es es':List MapEntry},ER m es es' → ∀ i,ER m (es.eraseIdx i) (es'.eraseIdx i)
 | _,_,.nil,_=>.nil
 | _,_,.cons _ _ _ h,0=>h
 | _,_,.cons a b c h,i + 1=>.cons a b c (ER.eraseIdx h i)

theorem wDelete_rel (hW:WR P m w0 h w) (hT:TR m t n a.tmps) {c:Call} {K:KV} (e:wDelete P t h c K = true) (o:Oper) (ho:o.op = .call c) (hc:c.callee = .builtin .delete) :
  Ran P m w0 w K (execOp a.eval o):=by
 unfold wDelete at e
 split at e
 ·rename_i mt kt0 mo ko hty hargs
  have hty':c.argTypes = #[mt,kt0]:=by rw [← Array.toArray_toList (xs:=c.argTypes),hty]
  have hargs':c.args = #[mo,ko]:=by rw [← Array.toArray_toList (xs:=c.args),hargs]
  have hm:=eP (P:=P) hT hW.glob mo
  have hk:=eP (P:=P) hT hW.glob ko
  have hex:∀ u w',(Builtin.delete_ #[mt,kt0] o.type #[a.eval mo,a.eval ko]).run P w = .ok u w' → (execOp a.eval o).run P w = .ok (.value u) w':=by
   intro u w' hu
   simp only [execOp,ho,resolve,hc,hargs',hty',Sem.run_bind,Sem.run_pure,Result.andThen_ok,invoke,builtin]
   simp [hu]
  split at e
  ·rename_i r hr
   rw [hr] at hm
   generalize hme:a.eval mo = mv' at hm hex
   generalize hke:a.eval ko = kv' at hk hex
   cases hm with
   | @map _ R d hm =>
    split at e
    ·rename_i kt et es clock hmap hes
     have hg:=hW.entries_full hes
     obtain ⟨es',g1,g2⟩:=hW.entries hes hm
     unfold wDelete1 at e
     split at e
     ·rename_i i v0 hf
      obtain ⟨rfl,q2,r',q3,q4⟩:=kF hk g2 hf w
      cases r' with
      | none=>exact q4.elim
      | some p =>
      obtain ⟨j,v'⟩:=p
      obtain ⟨rfl,hv⟩:=q4
      have h2:=g2.eraseIdx i
      obtain ⟨h',k1,k2⟩:=jY hW (es2':=es'.eraseIdxIfInBounds i) e hg hm g1 (by simpa using h2)
      refine ⟨.value (.tuple #[]),undef,undef,_,m,h',hex _ _ ?_,.inl rfl,M.le_refl m,fC m,k1,k2⟩
      rw [ER.isEmpty g2] at q2
      simp only [Builtin.delete_,Sem.run_bind,bU (gG hmap),Result.andThen_ok,run_getObj_map g1,q2,q3,run_setObj_map g1,Sem.run_pure,List.getElem?_toArray,List.getElem?_cons_zero,List.getElem?_cons_succ]
     ·rename_i hf
      obtain ⟨rfl,q2,r',q3,q4⟩:=kF hk g2 hf w
      cases r' with
      | some p=>exact q4.elim
      | none =>
      obtain ⟨h',k1,k2⟩:=jY hW (es2':=es') e hg hm g1 g2
      refine ⟨.value (.tuple #[]),undef,undef,_,m,h',hex _ _ ?_,.inl rfl,M.le_refl m,fC m,k1,k2⟩
      rw [ER.isEmpty g2] at q2
      simp only [Builtin.delete_,Sem.run_bind,bU (gG hmap),Result.andThen_ok,run_getObj_map g1,q2,q3,run_setObj_map g1,Sem.run_pure,List.getElem?_toArray,List.getElem?_cons_zero,List.getElem?_cons_succ]
     ·cases e
    ·cases e
  ·cases e
 ·cases e

theorem wClear_rel (hW:WR P m w0 h w) (hT:TR m t n a.tmps) {c:Call} {K:KV} (e:wClear P t h c K = true) (o:Oper) (ho:o.op = .call c) (hc:c.callee = .builtin .clear) :
  Ran P m w0 w K (execOp a.eval o):=by
 unfold wClear at e
 split at e
 ·rename_i ty xo hty hargs
  have hty':c.argTypes = #[ty]:=by rw [← Array.toArray_toList (xs:=c.argTypes),hty]
  have hargs':c.args = #[xo]:=by rw [← Array.toArray_toList (xs:=c.args),hargs]
  have hx:=eP (P:=P) hT hW.glob xo
  have hex:∀ u w',(Builtin.clear_ #[ty] o.type #[a.eval xo]).run P w = .ok u w' → (execOp a.eval o).run P w = .ok (.value u) w':=by
   intro u w' hu
   simp only [execOp,ho,resolve,hc,hargs',hty',Sem.run_bind,Sem.run_pure,Result.andThen_ok,invoke,builtin]
   simp [hu]
  generalize hse:ev P t xo = sv at e hx
  generalize hse':a.eval xo = sv' at hx hex
  have none_run:∀ {el:TypeId} (hs:fE P ty = some el) (q:Option Addr) (cap:Nat),(Builtin.clear_ #[ty] o.type #[.slice q 0 cap]).run P w = .ok (.tuple #[]) w:=by
   intro el hs q cap
   simp only [Builtin.clear_,Sem.run_bind,bU (eG hs),Result.andThen_ok,List.getElem?_toArray,List.getElem?_cons_zero]
   cases q<;>rfl
  unfold wClear1 at e
  split at e
  ·split at e
   ·rename_i el hs
    cases hx with
    | nilSl=>exact ⟨.value (.tuple #[]),undef,undef,w,m,h,hex _ _ (none_run hs none 0),.inl rfl,M.le_refl m,fC m,hW,e⟩
   ·cases e
  ·split at e
   ·rename_i el hs
    cases hx with
    | emp q cap=>exact ⟨.value (.tuple #[]),undef,undef,w,m,h,hex _ _ (none_run hs q cap),.inl rfl,M.le_refl m,fC m,hW,e⟩
   ·cases e
  ·rename_i b off len cap
   split at e
   ·rename_i el hs
    split at e
    ·rename_i z hz
     cases hx with
     | @sl _ B d _ _ _ cap' hm hcc hzz =>
      split at e
      ·exact ⟨.value (.tuple #[]),undef,undef,w,m,h,hex _ _ (none_run hs _ cap'),.inl rfl,M.le_refl m,fC m,hW,e⟩
      ·rename_i k
       obtain ⟨_,_,_,hpz,hoz⟩:=dK hz
       have q1:=sG (iL (m:=m) hpz) (Nat.succ k)
       have q2:∀ u ∈ repl z.cells.toList (Nat.succ k) [],oneB u = true:=fun u hu=>jF hpz hoz u (sH _ u hu)
       obtain ⟨h',k1,k2,k3⟩:=qQ hW e hm q1 q2
       have hst:=run_storeCells_cells (P:=P) B (off + d) (repl z.cells.toList (Nat.succ k) []) 0 w (fun j hj=>(k3 j hj).1) (fun j hj=>(k3 j hj).2) (fun v hv=>by rw [← oneB_eq]; exact q2 v hv)
       simp only [Nat.add_zero] at hst
       refine ⟨.value (.tuple #[]),undef,undef,_,m,h',hex _ _ ?_,.inl rfl,M.le_refl m,fC m,k1,k2⟩
       have hzc:(Builtin.zeroCells z.cells (Nat.succ k)).toList = repl z.cells.toList (Nat.succ k) []:=wO z.cells (Nat.succ k)
       simp only [Builtin.clear_,Sem.run_bind,bU (eG hs),Result.andThen_ok,Sem.run_pure,List.getElem?_toArray,List.getElem?_cons_zero,jQ hz,hzc,hst]
    ·cases e
   ·cases e
  ·cases e
 ·cases e

/-- All but calls of function values. -/
theorem awrite_ran (hW:WR P m w0 h w) (hT:TR m t n a.tmps) {o:Oper} {call:CallT} {K:KV} (e:bI P call t h o K = true)
  (hnc:∀ c f,o.op = .call c → c.callee ≠ .value f):Ran P m w0 w K (execOp a.eval o):=by
 have hx:=fun x=>eP (P:=P) hT hW.glob x
 unfold bI at e
 split at e
 ·rename_i el ho; exact wAlloc_rel hW e o _ ho
 ·rename_i el x ho; exact wBox_rel hW e o _ ho (hx x)
 ·rename_i ty len parts ho
  refine wBuildSlice_rel hW e o _ ho (parts_rel hT hW.glob parts.toList) ?_
  apply Array.toList_inj.1
  simp
 ·rename_i ty p x ho; exact wStore_rel hW e o _ ho (hx p) (hx x)
 ·rename_i ty ho; exact wMakeMap_op hW e ty o _ ho
 ·rename_i ty x ho
  split at e
  ·rename_i p hp
   cases hi:isIntV (ev P t x) with
   | false=>rw [hi] at e; cases e
   | true=>rw [hi,cond_true] at e; exact wMakeMap_op' hW e ty x hp o _ ho (hx x) hi
  ·cases e
 ·rename_i ty l c ho; exact wMakeSlice_rel hW e o _ ho (hx l) (hx c)
 ·rename_i ty mm k x ho; exact sJ hW e o _ (.inl ho) (hx mm) (hx k) (hx x)
 ·rename_i ty mm k x ho; exact sJ hW e o _ (.inr ho) (hx mm) (hx k) (hx x)
 ·rename_i ty mm k ho; exact wMapEntry_rel hW e o _ ho (hx mm) (hx k)
 ·rename_i ty mm s x ho; exact wEntryStore_rel hW e o _ ho (hx mm) (hx s) (hx x)
 ·rename_i src dst x ho; exact wDig_rel hW e o _ ho (hx x)
 ·rename_i c ho
  unfold kR at e
  split at e
  ·rename_i hc; exact wAppend_rel hW hT e o ho hc
  ·rename_i hc; exact wCopy_rel hW hT e o ho hc
  ·rename_i hc; exact wDelete_rel hW hT e o ho hc
  ·rename_i hc; exact wClear_rel hW hT e o ho hc
  ·rename_i f hc; exact absurd hc (hnc c f ho)
  ·cases e
 ·rename_i ty x ho; exact wRange_rel hW e o _ ho (hx x)
 ·rename_i it ho; exact wNext_rel hW e o _ ho (hx it)
 ·cases e

end
end Go.Ev

/- Operations in their place: temporaries, guards, plain regions. -/
namespace Go.Ev
open Go.RowKit

/-- The fence that lets all in. -/
def FW (rd:Option Nat):Fence:={ fn:=fun _=>True,depth:=none,alive:=false,round:=rd }

section
variable {P:Program} {m:M} {w0:Base} {w:World} {h:AHeap} {t:T Value} {n:Nat} {a:Act} {rd:Option Nat} {nn:Nat}

/-! ## Temporaries -/
theorem wS (f:Nat) (t:T Value) (d:Nat) (v:Value) (hd:d < f) (i:Nat):tget (T.set f t d v) i = if i = d then v else tget t i:=by
 unfold tget
 rw [T.get_set _ _ _ _ _ hd]
 by_cases h:i = d<;>simp [h]

theorem getD_set (a:Array Value) (d:Nat) (v:Value) (hd:d < a.size) (i:Nat):(a.setIfInBounds d v).getD i undef = if i = d then v else a.getD i undef:=by
 rw [Array.getD_eq_getD_getElem?,Array.getD_eq_getD_getElem?,Array.getElem?_setIfInBounds]
 by_cases h:i = d
 ·subst h; simp [hd]
 ·rw [if_neg (fun e=>h e.symm),if_neg h]

theorem TR.set {tm:Array Value} (hT:TR m t n tm) {d:Nat} (hd:d < n) {v v':Value} (hv:VR m v v'):TR m (T.set (d + 1) t d v) n (tm.setIfInBounds d v'):=by
 refine ⟨by simpa using hT.1,fun i=>?_⟩
 rw [wS _ _ _ _ (Nat.lt_succ_self _),getD_set _ _ _ (by rw [hT.1]; exact hd)]
 split
 ·exact hv
 ·exact hT.2 i

theorem mO {dst:Option Tmp} {v:Value} {K:T Value → Bool} (e:iV t n dst v K = true) :
  ∃ t',K t' = true ∧ ∀ (m:M) (a:Act) (v':Value),TR m t n a.tmps → VR m v v' → TR m t' n (a.put dst v').tmps:=by
 unfold iV at e
 split at e
 ·exact ⟨t,e,fun m a v' hT _=>hT⟩
 ·rename_i d
  cases hd:Nat.blt d n with
  | false=>rw [hd] at e; cases e
  | true =>
   rw [hd,cond_true,aZ,T.setK_eq] at e
   exact ⟨_,e,fun m a v' hT hv=>hT.set (by simpa [Nat.blt_eq] using hd) hv⟩

theorem put_defers (dst:Option Tmp) (v:Value):(a.put dst v).defers = a.defers:=by cases dst<;>rfl

theorem sK (hT:TR m t n a.tmps) {ops:Array Oper} {o:Oper} {b:Bool} (e:fB t ops o.guard = some b):Region.wanted o (yielded ops a.tmps) = b:=by
 unfold fB at e
 unfold Region.wanted
 split at e
 ·rename_i hg
  rw [hg]
  cases e
  rfl
 ·rename_i j want hg
  rw [hg]
  simp only
  split at e
  ·rename_i oj hoj
   split at e
   ·rename_i d hd
    have hr:=hT.2 d
    have hy:yielded ops a.tmps j = match a.tmps[d]? with|some (.bool b)=>some b|_=>none:=by
     unfold yielded
     rw [hoj]
     simp only [Option.bind_some,hd]
     cases a.tmps[d]? with
     | none=>rfl
     | some u=>cases u<;>rfl
    have hgd:a.tmps.getD d undef = (a.tmps[d]?).getD undef:=Array.getD_eq_getD_getElem? ..
    rw [hy]
    split at e
    ·rename_i b0 ht
     cases e
     have:tget t d = .bool b0:=by unfold tget; rw [ht]
     rw [this,hgd] at hr
     cases hq:a.tmps[d]? with
     | none=>rw [hq] at hr; cases hr
     | some u =>
      rw [hq] at hr
      simp only [Option.getD_some] at hr
      cases hr
      cases b0<;>cases want<;>rfl
    ·rename_i cs ht
     cases hc:Nat.beq cs.size 0 with
     | false=>rw [hc] at e; cases e
     | true =>
      rw [hc,cond_true] at e
      cases e
      have:tget t d = .tuple cs:=by unfold tget; rw [ht]
      rw [this,hgd] at hr
      cases hq:a.tmps[d]? with
      | none=>rfl
      | some u =>
       rw [hq] at hr
       simp only [Option.getD_some] at hr
       cases hr
       rfl
    ·rename_i ht
     cases e
     have:tget t d = undef:=by unfold tget; rw [ht]
     rw [this,hgd] at hr
     cases hq:a.tmps[d]? with
     | none=>rfl
     | some u =>
      rw [hq] at hr
      simp only [Option.getD_some,undef] at hr
      cases hr
      rfl
    ·cases e
   ·cases e
  ·cases e

/-! ## Operations -/
theorem sO {o:Oper} {v:Value} (e:dE P t h o = some v):∀ c,o.op ≠ .defer c:=by
 intro c ho
 unfold dE at e
 rw [ho] at e
 cases e

theorem rJ {o:Oper} {call:CallT} {K:KV} (e:bI P call t h o K = true):∀ c,o.op ≠ .defer c:=by
 intro c ho
 unfold bI at e
 rw [ho] at e
 cases e

theorem read_wp {o:Oper} {v':Value} {next:Act → World → Prop} {Q:Exit → Act → World → Prop} (hr:(execOp a.eval o).run P w = .ok (.value v') w) (hd:∀ c,o.op ≠ .defer c)
  (hn:next (a.put o.dst v') w):o.wpIn (FW rd) nn P a w next Q:=by
 refine ⟨fun f _=>trivial,?_⟩
 rw [Oper.semAt_eq _ _ _ hd,hr]
 exact hn

theorem ran_wp {o:Oper} {K:KV} {next:Act → World → Prop} {Q:Exit → Act → World → Prop} (hr:Ran P m w0 w K (execOp a.eval o)) (hd:∀ c,o.op ≠ .defer c)
  (hn:∀ m' v v' h' w',M.le m m' → VR m' v v' → WR P m' w0 h' w' → K v h' = true → next (a.put o.dst v') w'):o.wpIn (FW rd) nn P a w next Q:=by
 obtain ⟨r,v,v',w',m',h',k1,k2,k3,k4,k5,k6⟩:=hr
 refine ⟨fun f _=>trivial,?_⟩
 rw [Oper.semAt_eq _ _ _ hd,k1]
 rcases k2 with rfl|⟨rfl,rfl⟩
 ·exact hn _ _ _ _ _ k3 k4 k5 k6
 ·exact hn _ _ _ _ _ k3 k4 k5 k6

/-- What becomes of a call. -/
def UponR (rd:Option Nat) (nn:Nat) (P:Program) (R:Value → World → Prop):Result Next → Prop
 | .ok (.value v) w=>R v w
 | .ok (.enter f args) w=>CallsIn (FW rd) nn P f args w fun | .returned v,w'=>R v w'|_,_=>False
 | .ok (.round l f tmps as bo) w=>RoundIn (FW rd) nn P l f tmps as bo w fun | .returned v,w'=>R v w'|_,_=>False
 | _=>False

/-- How function values are called: what the evaluator says is so. -/
def iZ (P:Program) (call:CallT):Prop:=
 ∀ (m:M) (w0:Base) (w:World) (h:AHeap) (fv fv':Value) (args args':List Value) (K:KV),WR P m w0 h w → VR m fv fv' → LR m args args' → call fv args h K = true →
  ∀ (rd:Option Nat) (nn:Nat) (R:Value → World → Prop),(∀ m' v v' h' w',M.le m m' → VR m' v v' → WR P m' w0 h' w' → K v h' = true → R v' w') →
   UponR rd nn P R ((do let d ← Deferred.ofValue fv' args'.toArray; invoke d.target d.args:Sem Next).run P w)

theorem call_wp {o:Oper} {c:Call} {f:Operand} {next:Act → World → Prop} {Q:Exit → Act → World → Prop} (ho:o.op = .call c) (hc:c.callee = .value f)
  (hu:∀ nn,UponR rd nn P (fun v' w'=>next (a.put o.dst v') w') ((do let d ← Deferred.ofValue (a.eval f) (c.args.map a.eval); invoke d.target d.args:Sem Next).run P w)):o.wpIn (FW rd) nn P a w next Q:=by
 refine ⟨fun f _=>trivial,?_⟩
 rw [Oper.semAt_eq _ _ _ (fun c' h'=>by rw [ho] at h'; cases h')]
 have he:execOp a.eval o = (do let d ← Deferred.ofValue (a.eval f) (c.args.map a.eval); invoke d.target d.args):=by
  simp only [execOp,ho,resolve,hc]
 rw [he]
 have h2:=hu (nn - 1)
 generalize (do let d ← Deferred.ofValue (a.eval f) (c.args.map a.eval); invoke d.target d.args:Sem Next).run P w = r at h2
 cases r with
 | halt x w'=>exact h2.elim
 | ok x w' =>
  cases x with
  | value v=>exact h2
  | enter g args =>
   refine ⟨fun hd=>(by cases hd),CallsIn.mono h2 ?_⟩
   intro e w2 he2
   cases e with
   | returned v=>exact he2
   | panicked _=>exact he2.elim
   | outgrown=>exact he2.elim
  | round l g tmps as bo =>
   refine ⟨fun hd=>(by cases hd),RoundIn.mono h2 ?_⟩
   intro e w2 he2
   cases e with
   | returned v=>exact he2
   | panicked _=>exact he2.elim
   | outgrown=>exact he2.elim
  | _=>exact h2.elim

/-- All operations that write. -/
theorem awrite_wp {call:CallT} (hcall:iZ P call) (hW:WR P m w0 h w) (hT:TR m t n a.tmps) {o:Oper} {K:KV} (e:bI P call t h o K = true) {next:Act → World → Prop} {Q:Exit → Act → World → Prop}
  (hn:∀ m' v v' h' w',M.le m m' → VR m' v v' → WR P m' w0 h' w' → K v h' = true → next (a.put o.dst v') w'):o.wpIn (FW rd) nn P a w next Q:=by
 by_cases hc:∃ c f,o.op = .call c ∧ c.callee = .value f
 ·obtain ⟨c,f,ho,hcf⟩:=hc
  refine call_wp ho hcf fun nn=>?_
  unfold bI at e
  rw [ho] at e
  simp only [kR,hcf] at e
  have:=hcall m w0 w h _ _ _ _ K hW (eP (P:=P) hT hW.glob f) (wL (P:=P) hT hW.glob c.args.toList) e rd nn _ hn
  have hargs:(List.map a.eval c.args.toList).toArray = c.args.map a.eval:=by
   apply Array.toList_inj.1
   simp
  rw [hargs] at this
  exact this
 ·exact ran_wp (awrite_ran hW hT e fun c f ho hcf=>hc ⟨c,f,ho,hcf⟩) (rJ e) hn

/-! ## A region in the order of its text -/
theorem runOps_wp {call:CallT} (hcall:iZ P call) {ops:Array Oper} {Q:Exit → Act → World → Prop} {K:T Value → AHeap → Bool} {w0:Base} {n:Nat} (ds:List Deferred) :
  ∀ (rest:List Oper) (k:Nat),(∀ j,rest[j]? = ops[k + j]?) → ∀ (m:M) (t:T Value) (h:AHeap) (a:Act) (w:World),WR P m w0 h w → TR m t n a.tmps → a.defers = ds → jP P call ops n rest t h K = true →
   (∀ m' t' h' a' w',M.le m m' → TR m' t' n a'.tmps → WR P m' w0 h' w' → a'.defers = ds → K t' h' = true → Q .normal a' w') → wpOpsIn (FW rd) nn P ops Q (List.range' k rest.length) a w:=by
 intro rest
 induction rest with
 | nil =>
  intro k _ m t h a w hW hT hd e hq
  exact hq m t h a w (M.le_refl m) hT hW hd (by simpa [jP] using e)
 | cons o rest ih =>
  intro k hk m t h a w hW hT hd e hq
  have h0:ops[k]? = some o:=by simpa using (hk 0).symm
  have hk':∀ j,rest[j]? = ops[k + 1 + j]?:=fun j=>by have:=hk (j + 1); simpa [Nat.add_assoc,Nat.add_comm 1 j] using this
  simp only [List.length_cons,List.range'_succ,wpOpsIn,h0]
  simp only [jP] at e
  split at e
  ·cases e
  ·rename_i hwant
   rw [sK hT hwant]
   simp only [Bool.false_eq_true,if_false]
   obtain ⟨t',e',hp⟩:=mO e
   refine ⟨fun f _=>trivial,ih (k + 1) hk' m t' h _ w hW (hp m a undef hT (fC m)) (by rw [put_defers]; exact hd) e' hq⟩
  ·rename_i hwant
   rw [sK hT hwant]
   simp only [if_true]
   cases hisw:isW P o.op with
   | true =>
    rw [hisw,cond_true] at e
    refine awrite_wp hcall hW hT e fun m' v v' h' w' hle hv hW' hK=>?_
    obtain ⟨t',e',hp⟩:=mO hK
    exact ih (k + 1) hk' m' t' h' _ w' hW' (hp m' a v' (hT.mono hle) hv) (by rw [put_defers]; exact hd) e' (fun m2 t2 h2 a2 w2 hle2=>hq m2 t2 h2 a2 w2 (M.le_trans hle hle2))
   | false =>
    rw [hisw,cond_false] at e
    split at e
    ·cases e
    ·rename_i v hrd
     obtain ⟨v',hrun,hv⟩:=aread_rel hW hT hrd
     refine read_wp hrun (sO hrd) ?_
     obtain ⟨t',e',hp⟩:=mO e
     exact ih (k + 1) hk' m t' h _ w hW (hp m a v' hT hv) (by rw [put_defers]; exact hd) e' hq

end
end Go.Ev

/- Code and calls. -/
namespace Go.Ev
open Go.RowKit

/-- What is owed for a region that draws its order. -/
def pY (P:Program):Prop:=
 ∀ (call:CallT),iZ P call → ∀ (ops:Array Oper) (n:Nat) (t:T Value) (h:AHeap) (K:T Value → AHeap → Bool) (m:M) (w0:Base) (w:World) (a:Act) (rd:Option Nat) (nn:Nat) (Q:Exit → Act → World → Prop),
  WR P m w0 h w → TR m t n a.tmps → iC P call ops true n t h K = true →
  (∀ m' t' h' a' w',M.le m m' → TR m' t' n a'.tmps → WR P m' w0 h' w' → a'.defers = a.defers → K t' h' = true → Q .normal a' w') →
  ∀ tt,wpOpsIn (FW rd) nn P ops Q (Region.schedule (P.follows .mixedOrders) ops tt) a w

/-- The marks of loops over functions. -/
inductive DR (m:M):List Nat → List Deferred → Prop
 | nil:DR m [] []
 | cons {d r x:Nat} {ds:List Nat} {dl:List Deferred} (hm:m d = some (r,x)) (ht:DR m ds dl):DR m (d :: ds) ({ target:=.collected r,args:=#[] } :: dl)

theorem DR.mono {m m':M} (h:M.le m m'):∀ {ds:List Nat} {dl:List Deferred},DR m ds dl → DR m' ds dl
 | _,_,.nil=>.nil
 | _,_,.cons e k=>.cons (h.1 _ _ e) (DR.mono h k)

/-- The round that a frame is of. -/
def RdR (m:M):Option Nat → Option Nat → Prop
 | none,none=>True
 | some l,some L=>∃ d,m l = some (L,d)
 | _,_=>False

theorem RdR.mono {m m':M} (h:M.le m m') {a b:Option Nat} (k:RdR m a b):RdR m' a b:=by
 cases a<;>cases b<;>first|exact k|exact k.elim|skip
 obtain ⟨d,e⟩:=k
 exact ⟨d,h.1 _ _ e⟩

/-- A loop's round about to begin again. -/
def LoopWp (F:Fence) (nn:Nat) (P:Program) (c:Code) (Q:Exit → Act → World → Prop) (a:Act) (w:World):Prop:=
 ∀ (b:Frame) (k:List Item) (cs:List Frame),b.roundOf = F.round → F.fn b.fn → F.room (cs.length + 1 + nn) →
  ∃ e a' w',Q e a' w' ∧ ArrivesIn (Machine.fenced P F) P (lone (b.atR a (.code c :: .inLoop c :: k)) cs w) b k cs e a' w'

section
variable {P:Program} {F:Fence} {nn:Nat} {Q:Exit → Act → World → Prop} {a:Act} {w:World}

theorem loopWp_step {c:Code} (h:c.wpIn F nn P (Exit.then (LoopWp F nn P c Q) Q) a w):LoopWp F nn P c Q a w:=by
 intro b k cs hro hb hr
 obtain ⟨e,a₁,w₁,hq,harr⟩:=h b (.inLoop c :: k) cs hro hb hr
 cases e with
 | normal =>
  obtain ⟨e₂,a₂,w₂,hq₂,harr₂⟩:=hq b k cs hro hb hr
  exact ⟨e₂,a₂,w₂,hq₂,.of_steps (StepsIn.trans harr (.one (fenced_calm hb hr rfl) stepR_inLoop)) harr₂⟩
 | exit id=>exact ⟨_,a₁,w₁,hq,.pass (x:=.inLoop c) rfl (fun _ _=>.inl (by simp)) harr⟩
 | goto l=>exact ⟨_,a₁,w₁,hq,.pass (x:=.inLoop c) rfl (fun _ _=>.inl (by simp)) harr⟩
 | ret=>exact ⟨_,a₁,w₁,hq,.pass (x:=.inLoop c) rfl (fun _ _=>.inl (by simp)) harr⟩
 | panic ch=>exact ⟨_,a₁,w₁,hq,.pass (x:=.inLoop c) rfl (fun _ _=>.inl (by simp)) harr⟩
 | outgrown=>exact ⟨_,a₁,w₁,hq,.pass (x:=.inLoop c) rfl (fun _ _=>.inl (by simp)) harr⟩

theorem wpIn_of_loopWp {c:Code} (h:LoopWp F nn P c Q a w):(Code.loop c).wpIn F nn P Q a w:=by
 intro b k cs hro hb hr
 obtain ⟨e,a',w',hq,harr⟩:=h b k cs hro hb hr
 exact ⟨e,a',w',hq,.of_steps (.one (fenced_calm hb hr rfl) stepR_loop) harr⟩

theorem kG {b:Frame} {k:List Item} {cs:List Frame} {c:Code}:step P (lone (b.atR a (.code (.scope c) :: k)) cs w) = .next (lone (b.atR a (.code c :: .inScope c :: k)) cs w):=
 step_lone_go (by simp [stepG,stepG.exec,Frame.atR])
theorem stepR_inScope {b:Frame} {k:List Item} {cs:List Frame} {c:Code}:step P (lone (b.atR a (.inScope c :: k)) cs w) = .next (lone (b.atR a k) cs w):=
 step_lone_go (by simp [stepG,stepG.exec,Frame.atR])

/-- No jump to a label. -/
def noGotoX (Q:Exit → Act → World → Prop):Exit → Act → World → Prop
 | .goto _,_,_=>False
 | e,a,w=>Q e a w

theorem wpIn_scope {c:Code} (h:c.wpIn F nn P (noGotoX Q) a w):(Code.scope c).wpIn F nn P Q a w:=by
 intro b k cs hro hb hr
 have h0:(lone (b.atR a (.code (.scope c) :: k)) cs w).fenced P F:=fenced_calm hb hr rfl
 obtain ⟨e,a₁,w₁,hq,harr⟩:=h b (.inScope c :: k) cs hro hb hr
 cases e with
 | normal=>exact ⟨.normal,a₁,w₁,hq,.head h0 kG (StepsIn.trans harr (.one (fenced_calm hb hr rfl) stepR_inScope))⟩
 | exit id =>
  have hx:exitTo id (.inScope c :: k) = exitTo id k:=by simp [exitTo]
  exact ⟨.exit id,a₁,w₁,hq,fun k' hk=>.head h0 kG (harr.1 k' (by rw [hx]; exact hk)),
   fun hr' hk=>let ⟨k₁,h1,h2⟩:=harr.2 hr' (by rw [hx]; exact hk); ⟨k₁,h1,.head h0 kG h2⟩⟩
 | goto l=>exact hq.elim
 | ret=>exact ⟨_,a₁,w₁,hq,.of_steps (.one h0 kG) harr⟩
 | panic ch=>exact ⟨_,a₁,w₁,hq,.of_steps (.one h0 kG) harr⟩
 | outgrown=>exact ⟨_,a₁,w₁,hq,.of_steps (.one h0 kG) harr⟩
end

end Go.Ev

/- Calls, rounds, code: what the evaluator says is so. -/
namespace Go.Ev
open Go.RowKit

def rO (P:Program) (ex:ExT):Prop:=
 ∀ (n:Nat) (rd:Option Nat) (c:Code) (t:T Value) (h:AHeap) (ds:List Nat) (K:KT),ex n rd c t h ds K = true → ∀ (m:M) (w0:Base) (w:World) (a:Act) (rdc:Option Nat) (nn:Nat) (Q:Exit → Act → World → Prop),
  WR P m w0 h w → TR m t n a.tmps → DR m ds a.defers → RdR m rd rdc →
  (∀ e m' t' h' ds' a' w',M.le m m' → WR P m' w0 h' w' → TR m' t' n a'.tmps → DR m' ds' a'.defers → K e t' h' ds' = true → Q e a' w') →
  c.wpIn (FW rdc) nn P Q a w ∧ (∀ b,c = .loop b → LoopWp (FW rdc) nn P b Q a w)

section
variable {P:Program} {m:M} {w0:Base} {w:World} {h:AHeap} {t:T Value} {n:Nat} {a:Act} {rd:Option Nat} {nn:Nat}

/-! ## Arguments -/
theorem setArgs_rel {β:Type}:∀ (l:List Value) (i:Nat) (t:T Value) (K:T Value → β),∃ t',aX l i t K = K t' ∧ ∀ j,tget t' j = if i ≤ j then (l[j - i]?).getD (tget t j) else tget t j
 | [],i,t,K=>⟨t,rfl,fun j=>by simp⟩
 | v :: l,i,t,K=>by
  obtain ⟨t',k1,k2⟩:=setArgs_rel l (i + 1) (T.set (i + 1) t i v) K
  refine ⟨t',?_,fun j=>?_⟩
  ·simp only [aX,aZ,T.setK_eq]
   exact k1
  ·rw [k2,wS _ _ _ _ (Nat.lt_succ_self _)]
   by_cases h1:i + 1 ≤ j
   ·have h2:i ≤ j:=by omega
    have h3:¬ j = i:=by omega
    have h4:j - i = (j - (i + 1)) + 1:=by omega
    simp only [h1,h2,h3,if_true,if_false]
    rw [h4,List.getElem?_cons_succ]
   ·rw [if_neg h1]
    by_cases h2:j = i
    ·subst h2; simp
    ·rw [if_neg h2,if_neg (by omega)]

theorem args_TR {args args':List Value} (k:LR m args args') (nt:Nat) (hle:args.length ≤ nt) {t:T Value} (ht:∀ j,tget t j = if 0 ≤ j then (args[j - 0]?).getD (tget .leaf j) else tget .leaf j) :
  TR m t nt (args'.toArray ++ Array.replicate (nt - args'.toArray.size) undef):=by
 have hl:=k.length
 refine ⟨by simp; omega,fun i=>?_⟩
 rw [ht]
 simp only [Nat.zero_le,if_true,Nat.sub_zero]
 rw [Array.getD_eq_getD_getElem?]
 by_cases hi:i < args.length
 ·rw [Array.getElem?_append_left (by simpa [← hl] using hi),List.getElem?_eq_getElem hi]
  obtain ⟨v',k1,k2⟩:=k.get i _ (List.getElem?_eq_getElem hi)
  simp only [List.getElem?_toArray,k1,Option.getD_some]
  exact k2
 ·rw [List.getElem?_eq_none (by omega)]
  have hleaf:tget (.leaf:T Value) i = undef:=by unfold tget; rw [T.get_leaf]
  simp only [Option.getD_none,hleaf]
  rw [Array.getElem?_append_right (by simp; omega),Array.getElem?_replicate]
  split<;>exact fC m

theorem vJ {β:Type}:∀ (ps:List Tmp) (vs vs':List Value) (t:T Value) (tm:Array Value) (K:T Value → β),LR m vs vs' → vs.length = ps.length → (∀ p ∈ ps,p < n) → TR m t n tm →
  ∃ t',iD ps vs t K = K t' ∧ TR m t' n ((ps.zip vs').foldl (fun tmps x=>tmps.setIfInBounds x.1 x.2) tm)
 | [],_,_,t,tm,K,_,_,_,hT=>⟨t,rfl,by simpa using hT⟩
 | p :: ps,[],_,t,tm,K,_,hl,_,hT=>by simp at hl
 | p :: ps,v :: vs,_,t,tm,K,.cons (v':=v') (l':=vs') hv k,hl,hp,hT=>by
  obtain ⟨t',k1,k2⟩:=vJ ps vs vs' (T.set (p + 1) t p v) (tm.setIfInBounds p v') K k (by simpa using hl) (fun q hq=>hp q (by simp [hq])) (hT.set (hp p (by simp)) hv)
  refine ⟨t',?_,?_⟩
  ·simp only [iD,aZ,T.setK_eq]
   exact k1
  ·simpa using k2

/-! ## Results -/
def resF (tm:Array Value) (r:ResultVar):Sem Value:=
 match r with
 | .tmp t=>pure (tm.getD t undef)
 | .cell a t=>do loadVar t (← asAddr (tm.getD a undef))

theorem results_eq (fn:Func) (tm:Array Value):results fn tm = (do let vs ← fn.results.mapM (resF tm); pure (if h:vs.size = 1 then vs[0] else .tuple vs)):=rfl

theorem resA_rel (hW:WR P m w0 h w) {tm:Array Value} (hT:TR m t n tm):∀ {l:List ResultVar} {vs:List Value},bK P h t l = some vs →
  ∃ vs',(l.mapM (resF tm):Sem (List Value)).run P w = .ok vs' w ∧ LR m vs vs'
 | [],vs,e=>by simp only [bK,Option.some.injEq] at e; subst e; exact ⟨[],by simp,.nil⟩
 | .tmp i :: l,vs,e=>by
  simp only [bK] at e
  split at e
  ·rename_i vs0 h0
   cases e
   obtain ⟨vs',k1,k2⟩:=resA_rel hW hT h0
   exact ⟨tm.getD i undef :: vs',by simp only [List.mapM_cons,resF,Sem.run_bind,Sem.run_pure,Result.andThen_ok,k1],.cons (hT.2 i) k2⟩
  ·cases e
 | .cell i ty :: l,vs,e=>by
  simp only [bK] at e
  split at e
  ·rename_i b off hev
   split at e
   ·rename_i c fam ro hg
    split at e
    ·rename_i v0 vs0 h1 h2
     cases e
     have hr:=hT.2 i
     have hev':tget t i = .pointer (some ⟨b,off,none⟩):=hev
     rw [hev'] at hr
     generalize hx:tm.getD i undef = x' at hr
     cases hr with
     | @ptr _ B d _ hm =>
      obtain ⟨B',d',g1,g2,_⟩:=hW.obj b _ hg
      rw [hm] at g1
      cases g1
      obtain ⟨v',k1,k2⟩:=partL_load g2 h1
      obtain ⟨vs',k3,k4⟩:=resA_rel hW hT h2
      exact ⟨v' :: vs',by simp only [List.mapM_cons,resF,Sem.run_bind,hx,asAddr,Sem.run_pure,Result.andThen_ok,k1,k3],.cons k2 k4⟩
    ·cases e
   ·cases e
  ·cases e

theorem results_rel (hW:WR P m w0 h w) {tm:Array Value} (hT:TR m t n tm) {fn:Func} {vs:List Value} (e:bK P h t fn.results.toList = some vs) :
  ∃ v',(results fn tm).run P w = .ok v' w ∧ VR m (result1 vs) v':=by
 obtain ⟨vs',k1,k2⟩:=resA_rel hW hT e
 rw [results_eq,Array.mapM_eq_mapM_toList,Sem.run_bind,Sem.run_map,k1,Result.andThen_ok,Result.andThen_ok,Sem.run_pure]
 refine ⟨_,rfl,?_⟩
 cases k2 with
 | nil=>exact .tuple .nil
 | cons hv ht =>
  cases ht with
  | nil=>simpa [result1] using hv
  | cons hv2 ht2 =>
   simp only [result1,List.size_toArray,List.length_cons]
   rw [dif_neg (by omega)]
   exact .tuple (.cons hv (.cons hv2 ht2))

/-! ## The marks are taken -/
theorem marks_leave {fn:Func} {tm:Array Value} {R:Ending → World → Prop} {K:AHeap → Bool}:∀ {ds:List Nat} {dl:List Deferred},DR m ds dl → ∀ (h:AHeap) (w:World),WR P m w0 h w → aI h ds K = true →
  (∀ h' w',WR P m w0 h' w' → K h' = true → LeavesIn (FW rd) nn P fn tm R [] .returning w') → LeavesInM (FW rd) nn P fn tm R dl .returning w
 | _,_,.nil,h,w,hW,e,hK=>hK h w hW e
 | _,_,.cons (d:=d) (r:=r) (x:=x) hm ht,h,w,hW,e,hK=>by
  simp only [aI] at e
  split at e
  ·rename_i hg
   obtain ⟨B,d',g1,g2,_⟩:=hW.obj d _ hg
   rw [hm] at g1
   cases g1
   simp only [OR,if_true] at g2
   have hlt:r < w.heap.size:=hW.dom _ _ _ hm
   obtain ⟨h',k1,k2⟩:=pX hW e hg hm rfl rfl rfl (.deferred none) (by simp [OR,hlt])
   refine ⟨by simp,.inl ⟨r,_,rfl,?_,marks_leave ht h' _ k1 k2 hK⟩⟩
   simp [Instr.takeDeferred,getObj,setObj,Sem.run,g2]
  ·cases e

/-! ## Calls -/
theorem wU {g:FuncId} {fn:Func} {c:Code} (hf:P.funcs[g]? = some fn) (hb:fn.body = some c) (hn:(fn.name == "runtime.NumGoroutine") = false) (args:Array Value) (w:World) :
  (callFunc g args).run P w = .ok (.enter g args) w:=by
 have hn':fn.name ≠ "runtime.NumGoroutine" := by simpa using hn
 simp [callFunc,hf,hb,hn']

theorem kT {ex:ExT} (hs:rO P ex) {g:FuncId} {fn:Func} {c:Code} (hf:P.funcs[g]? = some fn) (hb:fn.body = some c) (hW:WR P m w0 h w) {args args':List Value} (hargs:LR m args args') {K:KV}
  (e:iE ex P fn c args h K = true) {R:Value → World → Prop} (hR:∀ m' v v' h' w',M.le m m' → VR m' v v' → WR P m' w0 h' w' → K v h' = true → R v' w') :
  (∀ w,(callFunc g args'.toArray).run P w = .ok (.enter g args'.toArray) w) ∧ CallsIn (FW rd) nn P g args'.toArray w fun | .returned v,w'=>R v w'|_,_=>False:=by
 unfold iE at e
 cases hname:(fn.name == "runtime.NumGoroutine") with
 | true=>rw [hname] at e; cases e
 | false =>
  rw [hname,cond_false] at e
  cases hlen:Nat.ble args.length fn.ntmps with
  | false=>rw [hlen] at e; cases e
  | true =>
   rw [hlen,cond_true] at e
   obtain ⟨t,k1,k2⟩:=setArgs_rel args 0 .leaf fun t=>ex fn.ntmps none c t h [] (finish P fn K)
   rw [k1] at e
   have hT:=args_TR hargs fn.ntmps (Nat.le_of_ble_eq_true hlen) k2
   refine ⟨wU hf hb hname args'.toArray,?_⟩
   have main:CallsIn (FW none) nn P g args'.toArray w fun | .returned v,w'=>R v w'|_,_=>False:=by
    refine callsIn_of_wp_marks hf hb trivial ?_
    refine (hs fn.ntmps none c t h [] _ e m w0 w { tmps:=args'.toArray ++ Array.replicate (fn.ntmps - args'.toArray.size) undef,defers:=[] } none nn _ hW hT .nil trivial ?_).1
    intro e' m' t' h' ds' a' w' hle hW' hT' hD' hK
    have key:(aI h' ds' fun h=>match bK P h t' fn.results.toList with|some vs=>K (result1 vs) h|none=>false) = true →
      LeavesInM (FW none) nn P fn a'.tmps (fun | .returned v,w'=>R v w'|_,_=>False) a'.defers .returning w':=by
     intro he
     refine marks_leave hD' h' w' hW' he ?_
     intro h2 w2 hW2 he2
     split at he2
     ·rename_i vs hvs
      obtain ⟨v',q1,q2⟩:=results_rel hW2 hT' hvs
      exact ⟨v',q1,hR m' _ v' h2 w2 hle q2 hW2 he2⟩
     ·cases he2
    cases e' with
    | normal=>exact key hK
    | ret=>exact key hK
    | exit id=>cases hK
    | goto l=>cases hK
    | panic ch=>cases hK
    | outgrown=>cases hK
   exact main

/-! ## Rounds -/
theorem oW (hW:WR P m w0 h w) {l L d:Nat} (hm:m l = some (L,d)) {st:LoopState} {pe:Option Code} {K:AHeap → Bool} (e:kD h l st pe K = true) :
  ∃ r h',w.heap[L]? = some (.loop r) ∧ WR P m w0 h' { w with heap:=w.heap.setIfInBounds L (.loop { r with state:=st,pending:=pe }) } ∧ K h' = true:=by
 unfold kD at e
 split at e
 ·rename_i st0 pe0 tl nl ps as bo df hg
  obtain ⟨B,d',g1,g2,_⟩:=hW.obj l _ hg
  rw [hm] at g1
  cases g1
  obtain ⟨r,r1,r2,r3,r4,r5,r6,r7,d2,r8⟩:=g2
  have hlt:L < w.heap.size:=hW.dom _ _ _ hm
  obtain ⟨h',k1,k2⟩:=pX hW e hg hm rfl rfl rfl (.loop { r with state:=st,pending:=pe }) ⟨{ r with state:=st,pending:=pe },by simp [hlt],rfl,rfl,r4,r5,r6,r7,d2,r8⟩
  exact ⟨r,h',r1,k1,k2⟩
 ·cases e

theorem run_endRound {L:Nat} {r:Loop} (hr:w.heap[L]? = some (.loop r)) (jump:Option Code) :
  (Instr.endRound L jump).run P w = .ok (.bool jump.isNone) { w with heap:=w.heap.setIfInBounds L (.loop { r with state:=if jump.isNone then .ready else .done,pending:=jump }) }:=by
 simp [Instr.endRound,Instr.getLoop,getObj,setObj,Sem.run,hr]

theorem roundK_sound {ex:ExT} (hs:rO P ex) (hW:WR P m w0 h w) {l L d:Nat} (hm:m l = some (L,d)) {args args':List Value} (hargs:LR m args args') {K:KV}
  (e:qL ex l args h K = true) {R:Value → World → Prop} (hR:∀ m' v v' h' w',M.le m m' → VR m' v v' → WR P m' w0 h' w' → K v h' = true → R v' w') :
  UponR rd nn P R ((Instr.yield L args'.toArray).run P w):=by
 unfold qL at e
 split at e
 ·rename_i st pe tl nl ps as bo df hg
  obtain ⟨B,d',g1,g2,_⟩:=hW.obj l _ hg
  rw [hm] at g1
  cases g1
  obtain ⟨r,r1,r2,r3,r4,r5,r6,r7,d2,r8⟩:=g2
  subst r5
  subst r6
  subst r7
  cases hc:(Nat.beq args.length r.params.size && r.params.toList.all (fun p=>Nat.blt p nl)) with
  | false=>rw [hc] at e; cases e
  | true =>
   rw [hc,cond_true] at e
   simp only [Bool.and_eq_true] at hc
   have hlen:args.length = r.params.size:=Nat.eq_of_beq_eq_true hc.1
   have hps:∀ p ∈ r.params.toList,p < nl:=fun p hp=>by simpa [Nat.blt_eq] using (List.all_eq_true.1 hc.2) p hp
   obtain ⟨t',k1,k2⟩:=vJ r.params.toList args args' tl r.tmps
    (fun t=>ex nl (some l) r.assign t h [] (uJ ex l nl r.body K)) hargs (by simpa using hlen) hps r4
   rw [k1] at e
   have hlen':args'.toArray.size = r.params.size:=by simp [← hargs.length,hlen]
   have hrun:(Instr.yield L args'.toArray).run P w = .ok (.round L r.fn ((r.params.zip args'.toArray).foldl (fun tmps x=>tmps.setIfInBounds x.1 x.2) r.tmps) r.assign r.body) w:=by
    simp only [Instr.yield,Instr.getLoop,getObj,Sem.run_bind,Sem.run,r1,Result.andThen_ok,Sem.run_pure]
    rw [if_neg (by rw [hlen']; simp)]
    rfl
   rw [hrun]
   have hzip:((r.params.zip args'.toArray).foldl (fun tmps x=>tmps.setIfInBounds x.1 x.2) r.tmps) = ((r.params.toList.zip args').foldl (fun tmps x=>tmps.setIfInBounds x.1 x.2) r.tmps):=by
    rw [← Array.foldl_toList]
    simp
   rw [hzip]
   have main:RoundIn (FW none) nn P L r.fn ((r.params.toList.zip args').foldl (fun tmps x=>tmps.setIfInBounds x.1 x.2) r.tmps) r.assign r.body w fun | .returned v,w'=>R v w'|_,_=>False:=by
    refine roundIn_of_wpIn trivial ?_
    refine (hs nl (some l) r.assign t' h [] _ e m w0 w { tmps:=_,defers:=[] } (some L) nn _ hW k2 .nil ⟨d,hm⟩ ?_).1
    intro e1 m1 t1 h1 ds1 a1 w1 hle1 hW1 hT1 hD1 hK1
    cases e1 with
    | normal =>
     simp only [uJ] at hK1
     split at hK1
     ·obtain ⟨tm1,dfs1⟩:=a1
      simp only at hD1 hT1
      obtain rfl:dfs1 = []:=by cases hD1; rfl
      unfold beginK at hK1
      split at hK1
      ·rename_i pe1 tl1 nl1 ps1 as1 bo1 df1 hg1
       obtain ⟨B1,d1,q1,q2,_⟩:=hW1.obj l _ hg1
       rw [hle1.1 _ _ hm] at q1
       cases q1
       obtain ⟨r',s1,s2,s3,s4,s5,s6,s7,d3,s8⟩:=q2
       have hlt:L < w1.heap.size:=hW1.dom _ _ _ (hle1.1 _ _ hm)
       obtain ⟨h2,u1,u2⟩:=pX hW1 hK1 hg1 (hle1.1 _ _ hm) rfl rfl rfl (.loop { r' with state:=.busy }) ⟨{ r' with state:=.busy },by simp [hlt],rfl,s3,s4,s5,s6,s7,d3,s8⟩
       refine ⟨{ w1 with heap:=w1.heap.setIfInBounds L (.loop { r' with state:=.busy }) },?_,?_⟩
       ·simp [Instr.beginRound,Instr.getLoop,getObj,setObj,Sem.run,s1,s2]
       ·refine (hs nl (some l) r.body t1 h2 [] _ u2 m1 w0 _ { tmps:=tm1,defers:=[] } (some L) nn (roundPost P L fun | .returned v,w'=>R v w'|_,_=>False) u1 hT1 .nil ⟨d,hle1.1 _ _ hm⟩ ?_).1
        intro e2 m2 t2 h3 ds2 a2 w3 hle2 hW2 hT2 hD2 hK2
        have hm2:=hle2.1 _ _ (hle1.1 _ _ hm)
        cases e2 with
        | normal =>
         obtain ⟨r2,h4,v1,v2,v3⟩:=oW hW2 hm2 (st:=.ready) (pe:=none) (K:=fun h=>K (.bool true) h) hK2
         exact ⟨_,_,run_endRound v1 none,hR m2 _ _ h4 _ (M.le_trans hle1 hle2) (.bool true) v2 v3⟩
        | ret =>
         obtain ⟨r2,h4,v1,v2,v3⟩:=oW hW2 hm2 (st:=.done) (pe:=some .ret) (K:=fun h=>K (.bool false) h) hK2
         exact ⟨_,_,run_endRound v1 (some .ret),hR m2 _ _ h4 _ (M.le_trans hle1 hle2) (.bool false) v2 v3⟩
        | exit id =>
         obtain ⟨r2,h4,v1,v2,v3⟩:=oW hW2 hm2 (st:=.done) (pe:=some (.exit id)) (K:=fun h=>K (.bool false) h) hK2
         exact ⟨_,_,run_endRound v1 (some (.exit id)),hR m2 _ _ h4 _ (M.le_trans hle1 hle2) (.bool false) v2 v3⟩
        | goto l=>cases hK2
        | panic ch=>cases hK2
        | outgrown=>cases hK2
      ·cases hK1
     ·cases hK1
    | exit id=>cases hK1
    | goto l=>cases hK1
    | ret=>cases hK1
    | panic ch=>cases hK1
    | outgrown=>cases hK1
   exact main
 ·cases e

end
end Go.Ev

/- Code: what the evaluator says is so. -/
namespace Go.Ev
open Go.RowKit

section
variable {P:Program} {m:M} {w0:Base} {w:World} {h:AHeap} {t:T Value} {n:Nat} {a:Act} {rd:Option Nat} {nn:Nat}

theorem sQ (fn:Fn) (first captured args:Array Value) (w:World) :
  (do let d ← Deferred.ofValue (.func fn first captured) args; invoke d.target d.args:Sem Next).run P w = (invoke (.fn fn captured) (first ++ args)).run P w:=by
 simp [Deferred.ofValue]

/-! ## maps.clone, for which the model stands in -/
theorem find_clone {fn:Func} (hn:fn.name = "maps.clone"):Extern.find fn = some Extern.MapsClone.clone:=by
 unfold Extern.find
 have h1:Extern.allGenericRows.lookup "maps.clone" = none:=by kernel_rfl
 have h2:Extern.allTypedRows.lookup "maps.clone" = none:=by kernel_rfl
 have h3:Extern.allRows.lookup "maps.clone" = some Extern.MapsClone.clone:=by kernel_rfl
 simp only [hn,h1,h2,h3,Option.map_none]
 rfl
theorem findNext_clone {fn:Func} (hn:fn.name = "maps.clone") (ho:fn.origin =""):Extern.findNext fn = none:=by
 unfold Extern.findNext
 have h1:Extern.allNextRows.lookup "maps.clone" = none:=by kernel_rfl
 have h2:Extern.allNextRows.lookup "" = none:=by kernel_rfl
 simp only [hn,ho,h1,h2,Option.map_none]
 rfl
theorem run_clone {g:FuncId} {fn:Func} (hfn:P.funcs[g]? = some fn) (hb:fn.body = none) (hn:fn.name = "maps.clone") (ho:fn.origin ="") {t:TypeId} {R clock:Nat} {es':Array MapEntry} (g1:w.heap[R]? = some (.map es' clock)) :
  (callFunc g #[.iface t (.map (some R))]).run P w = .ok (.value (.iface t (.map (some w.heap.size)))) (w.alloc (.map es' clock)):=by
 have hq:(fn.name == "runtime.NumGoroutine") = false:=by rw [hn]; decide
 have e:Extern.MapsClone.clone #[.iface t (.map (some R))] = (getObj R >>= fun o=>match o with
   | .map entries clock=>(newObj (.map entries clock) >>= fun n=>pure (.iface t (.map (some n))))
   | _=>stuck "maps.clone: a map expected"):=rfl
 simp only [callFunc,Sem.run_bind,run_program,Result.andThen_ok,hfn,hq,hb,Option.isNone_none,Bool.false_eq_true,if_false,if_true,findNext_clone hn ho,find_clone hn,e]
 have hm:((mark (Mark.extern g)):Sem Unit).run P w = .ok () w:=rfl
 simp only [hm,Result.andThen_ok,run_getObj_map g1,Sem.run_bind,run_newObj,Sem.run_pure]
 rfl

theorem vK {ex:ExT} (hs:rO P ex):iZ P (cZ P ex):=by
 intro m w0 w h fv fv' args args' K hW hf hargs e rd nn R hR
 unfold cZ at e
 split at e
 ·rename_i g first captured
  cases hf with
  | @func _ _ first' _ captured' hf1 hf2 =>
   rw [sQ]
   have hall:LR m (first.toList ++ args ++ captured.toList) (first'.toList ++ args' ++ captured'.toList):=(hf1.append hargs).append hf2
   have harr:(first' ++ args'.toArray ++ captured') = (first'.toList ++ args' ++ captured'.toList).toArray:=by
    apply Array.toList_inj.1
    simp
   have hinv:∀ w,(invoke (.fn (.func g) captured') (first' ++ args'.toArray)).run P w = (callFunc g (first'.toList ++ args' ++ captured'.toList).toArray).run P w:=fun w=>by
    simp only [invoke,harr]
   rw [hinv]
   unfold dU at e
   split at e
   ·cases e
   ·rename_i fn hfn
    split at e
    ·rename_i c hb
     obtain ⟨k1,k2⟩:=kT (rd:=rd) (nn:=nn) hs hfn hb hW hall e hR
     rw [k1]
     exact k2
    ·rename_i hbn
     split at e
     ·rename_i t r hcl
      split at e
      ·rename_i es clock hes
       have hall2:=hall
       generalize first.toList ++ args ++ captured.toList = la at hcl hall hall2
       generalize first'.toList ++ args' ++ captured'.toList = lb at hall hall2
       unfold cloneArg at hcl
       split at hcl
       ·rename_i t' r'
        cases hnb:(fn.name == "maps.clone" && fn.origin =="") with
        | false=>rw [hnb] at hcl; cases hcl
        | true =>
         rw [hnb,cond_true] at hcl
         cases hcl
         simp only [Bool.and_eq_true,beq_iff_eq] at hnb
         cases hall with
         | cons hv ht =>
          cases ht
          cases hv with
          | iface _ hv2 =>
           cases hv2 with
           | @map _ R d hm =>
            obtain ⟨es',g1,g2⟩:=hW.entries hes hm
            rw [show ([Value.iface t (.map (some R))]:List Value).toArray = #[.iface t (.map (some R))] from rfl,run_clone hfn hbn hnb.1 hnb.2 g1]
            obtain ⟨m',h',k1,k2,k3,k4⟩:=oJ hW e (.map es' clock) rfl rfl (fun m' hle=>⟨es',heap_alloc_new w _,g2.mono hle⟩)
            exact hR m' _ _ h' _ k1 (.iface t (.map k2)) k3 k4
       ·cases hcl
      ·cases e
     ·cases hp:plainL (first.toList ++ args ++ captured.toList) with
     | false=>rw [hp] at e; cases e
     | true =>
      rw [hp,cond_true] at e
      have heq:=pM _ _ hp hall
      rw [← heq]
      split at e
      ·rename_i v hv
       cases hpv:plainB v with
       | false=>rw [hpv] at e; cases e
       | true =>
        rw [hpv,cond_true] at e
        have hrun:=oG (P:=P) _ _ w hv
        have:(callFunc g (first.toList ++ args ++ captured.toList).toArray).run P w = .ok (.value v) w:=hrun
        rw [this]
        exact hR m v v h w (M.le_refl m) (eH m v hpv) hW e
      ·cases e
 ·rename_i l first captured
  cases hf with
  | @yield _ L d _ first' _ captured' hl hf1 hf2 =>
   rw [sQ]
   have harr:(first' ++ args'.toArray) = (first'.toList ++ args').toArray:=by
    apply Array.toList_inj.1
    simp
   have hinv:(invoke (.fn (.yield L) captured') (first' ++ args'.toArray)).run P w = (Instr.yield L (first'.toList ++ args').toArray).run P w:=by
    simp only [invoke,harr]
   rw [hinv]
   exact roundK_sound hs hW hl (hf1.append hargs) e hR
 ·cases e

/-! ## A range over a function -/
def afterEnd (ex:ExT) (n:Nat) (rd:Option Nat) (t:T Value) (ds:List Nat) (K:KT) (pe:Option Code) (h:AHeap):Bool:=
 match pe with
 | none=>K .normal t h ds
 | some c=>ex n rd c t h ds K

theorem after_rel {ex:ExT} (hs:rO P ex) (hW:WR P m w0 h w) (hT:TR m t n a.tmps) {ds:List Nat} (hD:DR m ds a.defers) {rdA rdc:Option Nat} (hrd:RdR m rdA rdc) {l L d:Nat} (hm:m l = some (L,d)) {K:KT}
  (e:after ex n rdA t ds K l h = true) {Q:Exit → Act → World → Prop}
  (hQ:∀ e m' t' h' ds' a' w',M.le m m' → WR P m' w0 h' w' → TR m' t' n a'.tmps → DR m' ds' a'.defers → K e t' h' ds' = true → Q e a' w') :
  ∃ jump w₄,(Instr.endLoop L).run P w = .ok jump w₄ ∧ (match jump with|none=>Q .normal a w₄|some c=>c.wpIn (FW rdc) nn P Q a w₄):=by
 unfold after at e
 split at e
 ·rename_i st pe _ _ _ _ _ _ hg
  obtain ⟨B,d',g1,g2,_⟩:=hW.obj l _ hg
  rw [hm] at g1
  cases g1
  obtain ⟨r,r1,r2,r3,_⟩:=g2
  have hlt:L < w.heap.size:=hW.dom _ _ _ hm
  have hst:st ≠ .busy:=fun hb=>by subst hb; cases e
  have hrun:(Instr.endLoop L).run P w = .ok pe { w with heap:=w.heap.setIfInBounds L (.loop { r with state:=.exhausted }) }:=by
   have hb:r.state ≠ LoopState.busy:=by rw [r2]; exact hst
   simp [Instr.endLoop,Instr.getLoop,getObj,setObj,Sem.run,r1,hb,r3]
  refine ⟨pe,_,hrun,?_⟩
  have e2:setO h l .gone (afterEnd ex n rdA t ds K pe) = true:=by
   cases st with
   | busy=>exact absurd rfl hst
   | _=>exact e
  obtain ⟨h',k1,k2⟩:=pX hW e2 hg hm rfl rfl rfl (.loop { r with state:=.exhausted }) ⟨{ r with state:=.exhausted },by simp [hlt]⟩
  cases pe with
  | none=>exact hQ .normal m t h' ds a _ (M.le_refl m) k1 hT hD k2
  | some c=>exact (hs n rdA c t h' ds K k2 m w0 _ a rdc nn Q k1 hT hD hrd hQ).1
 ·cases e

theorem callGo_sound {ex:ExT} (hs:rO P ex) (hW:WR P m w0 h w) {fv fv':Value} {args args':List Value} {K:KV} (hf:VR m fv fv') (hargs:LR m args args') (e:vX P ex fv args h K = true)
  {R:Value → World → Prop} (hR:∀ m' v v' h' w',M.le m m' → VR m' v v' → WR P m' w0 h' w' → K v h' = true → R v' w') :
  ∃ fn first captured g argsC,fv' = .func fn first captured ∧ (∀ w,(invoke (.fn fn captured) (first ++ args'.toArray)).run P w = .ok (.enter g argsC) w) ∧ CallsIn (FW rd) nn P g argsC w fun | .returned v,w'=>R v w'|_,_=>False:=by
 unfold vX at e
 split at e
 ·rename_i g first captured
  cases hf with
  | @func _ _ first' _ captured' hf1 hf2 =>
   have hall:LR m (first.toList ++ args ++ captured.toList) (first'.toList ++ args' ++ captured'.toList):=(hf1.append hargs).append hf2
   have harr:(first' ++ args'.toArray ++ captured') = (first'.toList ++ args' ++ captured'.toList).toArray:=by
    apply Array.toList_inj.1
    simp
   split at e
   ·cases e
   ·rename_i fn hfn
    split at e
    ·rename_i c hb
     obtain ⟨k1,k2⟩:=kT (rd:=rd) (nn:=nn) hs hfn hb hW hall e hR
     exact ⟨_,first',captured',g,_,rfl,fun w=>by simp only [invoke,harr]; exact k1 w,k2⟩
    ·cases e
 ·cases e

theorem rangeGo {ex:ExT} (hs:rO P ex) {f:Operand} {ps:Array Tmp} {as bo:Code} {rdA rdc:Option Nat} {Q:Exit → Act → World → Prop} (hT0:TR m t n a.tmps) {mark:List Deferred} {L:Nat} {w₁:World}
  (fnE:FuncId) (_henter:(Instr.enterLoop fnE a.tmps ps as bo rdc).run P w = .ok (L,mark) w₁)
  {m1:M} {h1:AHeap} {l:Nat} (hle:M.le m m1) (hW1:WR P m1 w0 h1 w₁) (hl:m1 l = some (L,0)) {ds:List Nat} (hD:DR m1 ds (mark ++ a.defers)) (hrd:RdR m1 rdA rdc) {K:KT}
  (e:vX P ex (ev P t f) [.func (.yield l) #[] #[]] h1 (fun _ h=>after ex n rdA t ds K l h) = true)
  (hQ:∀ e m' t' h' ds' a' w',M.le m m' → WR P m' w0 h' w' → TR m' t' n a'.tmps → DR m' ds' a'.defers → K e t' h' ds' = true → Q e a' w') :
  ∃ (d:Deferred) (w₁':World) (g:FuncId) (args:Array Value) (w₂:World),(resolve a.eval (rangeCall f L) 0).run P w₁ = .ok d w₁' ∧ (∀ f',Target.leads P w₁' d.target d.args = some f' → (FW rdc).fn f') ∧
   (invoke d.target d.args).run P w₁' = .ok (.enter g args) w₂ ∧ ((FW rdc).depth.isSome = true → 1 ≤ nn) ∧ CallsIn (FW rdc) (nn - 1) P g args w₂ (rangePost (FW rdc) nn P L Q { a with defers:=mark ++ a.defers }):=by
 have hT1:=hT0.mono hle
 have hf:=eP (P:=P) hT1 hW1.glob f
 have hargs:LR m1 [Value.func (.yield l) #[] #[]] [Value.func (.yield L) #[] #[]]:=.cons (.yield hl .nil .nil) .nil
 obtain ⟨fn,first,captured,g,argsC,k1,k2,k3⟩:=callGo_sound (rd:=rdc) (nn:=nn - 1) hs hW1 hf hargs e
  (R:=fun _ w'=>∃ jump w₄,(Instr.endLoop L).run P w' = .ok jump w₄ ∧ (match jump with|none=>Q .normal { a with defers:=mark ++ a.defers } w₄|some c=>c.wpIn (FW rdc) nn P Q { a with defers:=mark ++ a.defers } w₄))
  (fun m' v v' h' w' hle' hv hW' hK=>after_rel (a:={ a with defers:=mark ++ a.defers }) hs hW' (hT1.mono hle') (hD.mono hle') (hrd.mono hle') (hle'.1 _ _ hl) hK
   (fun e m2 t2 h2 ds2 a2 w2 hle2=>hQ e m2 t2 h2 ds2 a2 w2 (M.le_trans hle (M.le_trans hle' hle2))))
 refine ⟨{ target:=.fn fn captured,args:=first ++ #[.func (.yield L) #[] #[]] },w₁,g,argsC,w₁,?_,fun _ _=>trivial,k2 w₁,fun hd=>(by cases hd),CallsIn.mono k3 ?_⟩
 ·have k1':a.eval (rangeCall f L |>.callee |> fun | .value x=>x|_=>f) = .func fn first captured:=k1
  simp only [rangeCall] at k1' ⊢
  simp only [resolve]
  rw [show a.eval f = _ from k1]
  simp [Deferred.ofValue,Act.eval]
 ·intro e w' he
  cases e with
  | returned v=>exact he
  | panicked _=>exact he.elim
  | outgrown=>exact he.elim

theorem region_wp (hds:pY P) {call:CallT} (hcall:iZ P call) (hW:WR P m w0 h w) (hT:TR m t n a.tmps) {id:Nat} {ops:Array Oper} {draw:Bool} {K:T Value → AHeap → Bool} (e:iC P call ops draw n t h K = true)
  {Q:Exit → Act → World → Prop} (hq:∀ m' t' h' a' w',M.le m m' → TR m' t' n a'.tmps → WR P m' w0 h' w' → a'.defers = a.defers → K t' h' = true → Q .normal a' w'):(Code.region id ops draw).wpIn (FW rd) nn P Q a w:=by
 cases draw with
 | false =>
  refine wpIn_region ?_
  rw [List.range_eq_range',← Array.length_toList]
  simp only [iC,cond_false] at e
  exact runOps_wp hcall a.defers ops.toList 0 (by simp) m t h a w hW hT rfl e hq
 | true =>
  refine wpIn_region_draw fun tt=>?_
  exact hds call hcall ops n t h K m w0 w.drew a rd nn Q hW.drew hT e hq tt

theorem execStep_sound {ex:ExT} (hds:pY P) (hs:rO P ex):rO P (eF P ex):=by
 intro n rd c t h ds K e m w0 w a rdc nn Q hW hT hD hrd hQ
 have hcall:=vK hs
 have hx:=fun x=>eP (P:=P) hT hW.glob x
 unfold eF at e
 split at e
 ·exact ⟨wpIn_skip (hQ _ m t h ds a w (M.le_refl m) hW hT hD e),fun b hb=>by cases hb⟩
 ·refine ⟨region_wp hds hcall hW hT e fun m' t' h' a' w' hle hT' hW' hd hK=>?_,fun b hb=>by cases hb⟩
  exact hQ .normal m' t' h' ds a' w' hle hW' hT' (by rw [hd]; exact hD.mono hle) hK
 ·rename_i x y
  refine ⟨wpIn_seq ?_,fun b hb=>by cases hb⟩
  refine (hs n rd x t h ds _ e m w0 w a rdc nn _ hW hT hD hrd ?_).1
  intro e' m' t' h' ds' a' w' hle hW' hT' hD' hK
  have hQ':∀ e2 m2 t2 h2 ds2 a2 w2,M.le m' m2 → WR P m2 w0 h2 w2 → TR m2 t2 n a2.tmps → DR m2 ds2 a2.defers → K e2 t2 h2 ds2 = true → Q e2 a2 w2:=fun e2 m2 t2 h2 ds2 a2 w2 hle2=>hQ e2 m2 t2 h2 ds2 a2 w2 (M.le_trans hle hle2)
  cases e' with
  | normal=>exact (hs n rd y t' h' ds' K hK m' w0 w' a' rdc nn Q hW' hT' hD' (hrd.mono hle) hQ').1
  | exit id=>exact hQ _ m' t' h' ds' a' w' hle hW' hT' hD' hK
  | goto l=>exact hQ _ m' t' h' ds' a' w' hle hW' hT' hD' hK
  | ret=>exact hQ _ m' t' h' ds' a' w' hle hW' hT' hD' hK
  | panic ch=>exact hQ _ m' t' h' ds' a' w' hle hW' hT' hD' hK
  | outgrown=>exact hQ _ m' t' h' ds' a' w' hle hW' hT' hD' hK
 ·rename_i x c1 c2
  have hr:=hx x
  split at e
  ·rename_i hev
   rw [hev] at hr
   generalize hx':a.eval x = x' at hr
   cases hr
   exact ⟨wpIn_cond_true hx' (hs n rd c1 t h ds K e m w0 w a rdc nn Q hW hT hD hrd hQ).1,fun b hb=>by cases hb⟩
  ·rename_i hev
   rw [hev] at hr
   generalize hx':a.eval x = x' at hr
   cases hr
   exact ⟨wpIn_cond_false hx' (hs n rd c2 t h ds K e m w0 w a rdc nn Q hW hT hD hrd hQ).1,fun b hb=>by cases hb⟩
  ·cases e
 ·rename_i id b
  refine ⟨wpIn_block ?_,fun b hb=>by cases hb⟩
  refine (hs n rd b t h ds _ e m w0 w a rdc nn _ hW hT hD hrd ?_).1
  intro e' m' t' h' ds' a' w' hle hW' hT' hD' hK
  cases e' with
  | exit id' =>
   simp only at hK
   simp only [Exit.inBlock]
   cases hid:Nat.beq id' id with
   | true =>
    rw [hid,cond_true] at hK
    rw [if_pos (Nat.eq_of_beq_eq_true hid)]
    exact hQ _ m' t' h' ds' a' w' hle hW' hT' hD' hK
   | false =>
    rw [hid,cond_false] at hK
    rw [if_neg (Nat.ne_of_beq_eq_false hid)]
    exact hQ _ m' t' h' ds' a' w' hle hW' hT' hD' hK
  | normal=>exact hQ _ m' t' h' ds' a' w' hle hW' hT' hD' hK
  | goto l=>exact hQ _ m' t' h' ds' a' w' hle hW' hT' hD' hK
  | ret=>exact hQ _ m' t' h' ds' a' w' hle hW' hT' hD' hK
  | panic ch=>exact hQ _ m' t' h' ds' a' w' hle hW' hT' hD' hK
  | outgrown=>exact hQ _ m' t' h' ds' a' w' hle hW' hT' hD' hK
 ·rename_i b
  have hloop:LoopWp (FW rdc) nn P b Q a w:=by
   refine loopWp_step ?_
   refine (hs n rd b t h ds _ e m w0 w a rdc nn _ hW hT hD hrd ?_).1
   intro e' m' t' h' ds' a' w' hle hW' hT' hD' hK
   have hQ':∀ e2 m2 t2 h2 ds2 a2 w2,M.le m' m2 → WR P m2 w0 h2 w2 → TR m2 t2 n a2.tmps → DR m2 ds2 a2.defers → K e2 t2 h2 ds2 = true → Q e2 a2 w2:=fun e2 m2 t2 h2 ds2 a2 w2 hle2=>hQ e2 m2 t2 h2 ds2 a2 w2 (M.le_trans hle hle2)
   cases e' with
   | normal=>exact (hs n rd (.loop b) t' h' ds' K hK m' w0 w' a' rdc nn Q hW' hT' hD' (hrd.mono hle) hQ').2 b rfl
   | exit id=>exact hQ _ m' t' h' ds' a' w' hle hW' hT' hD' hK
   | goto l=>exact hQ _ m' t' h' ds' a' w' hle hW' hT' hD' hK
   | ret=>exact hQ _ m' t' h' ds' a' w' hle hW' hT' hD' hK
   | panic ch=>exact hQ _ m' t' h' ds' a' w' hle hW' hT' hD' hK
   | outgrown=>exact hQ _ m' t' h' ds' a' w' hle hW' hT' hD' hK
  exact ⟨wpIn_of_loopWp hloop,fun b' hb=>by cases hb; exact hloop⟩
 ·exact ⟨wpIn_exit (hQ _ m t h ds a w (M.le_refl m) hW hT hD e),fun b hb=>by cases hb⟩
 ·exact ⟨wpIn_ret (hQ _ m t h ds a w (M.le_refl m) hW hT hD e),fun b hb=>by cases hb⟩
 ·exact ⟨wpIn_label (hQ _ m t h ds a w (M.le_refl m) hW hT hD e),fun b hb=>by cases hb⟩
 ·rename_i b
  refine ⟨wpIn_scope ?_,fun b hb=>by cases hb⟩
  refine (hs n rd b t h ds _ e m w0 w a rdc nn _ hW hT hD hrd ?_).1
  intro e' m' t' h' ds' a' w' hle hW' hT' hD' hK
  cases e' with
  | goto l=>cases hK
  | exit id'=>exact hQ _ m' t' h' ds' a' w' hle hW' hT' hD' hK
  | normal=>exact hQ _ m' t' h' ds' a' w' hle hW' hT' hD' hK
  | ret=>exact hQ _ m' t' h' ds' a' w' hle hW' hT' hD' hK
  | panic ch=>exact hQ _ m' t' h' ds' a' w' hle hW' hT' hD' hK
  | outgrown=>exact hQ _ m' t' h' ds' a' w' hle hW' hT' hD' hK
 ·rename_i f ps as bo
  refine ⟨wpIn_rangeFunc fun fnE _=>?_,fun b hb=>by cases hb⟩
  split at e
  ·cases rdc with
   | some _=>exact hrd.elim
   | none =>
    obtain ⟨m1,h1,k1,k2,k3,k4⟩:=oJ hW e (.deferred (some [])) rfl rfl (fun m' _=>heap_alloc_new w _)
    have hT1:=hT.mono k1
    obtain ⟨m2,h2,q1,q2,q3,q4⟩:=oJ k3 k4 (.loop { state:=.ready,pending:=none,fn:=fnE,tmps:=a.tmps,params:=ps,assign:=as,body:=bo,defers:=w.heap.size }) rfl rfl
     (fun m' hle=>⟨_,heap_alloc_new _ _,rfl,rfl,hT1.mono hle,rfl,rfl,rfl,0,hle.1 _ _ k2⟩)
    have henter:(Instr.enterLoop fnE a.tmps ps as bo none).run P w = .ok ((w.alloc (.deferred (some []))).heap.size,[{ target:=.collected w.heap.size,args:=#[] }])
      ((w.alloc (.deferred (some []))).alloc (.loop { state:=.ready,pending:=none,fn:=fnE,tmps:=a.tmps,params:=ps,assign:=as,body:=bo,defers:=w.heap.size })):=by
     simp [Instr.enterLoop]
    obtain ⟨d,w₁',g,args,w₂,z1,z2,z3,z4,z5⟩:=rangeGo (nn:=nn) (Q:=Q) hs hT fnE henter (M.le_trans k1 q1) q3 q2 (.cons (q1.1 _ _ k2) (hD.mono (M.le_trans k1 q1))) (rdA:=none) trivial q4
     hQ
    exact ⟨_,_,_,d,w₁',g,args,w₂,henter,z1,z2,z3,z4,z5⟩
  ·rename_i r
   cases rdc with
   | none=>exact hrd.elim
   | some rc =>
    obtain ⟨dr,hr⟩:=hrd
    split at e
    ·rename_i st pe tl nl ps0 as0 bo0 d0 hg
     obtain ⟨B,d',g1,g2,_⟩:=hW.obj r _ hg
     rw [hr] at g1
     cases g1
     obtain ⟨L0,r1,r2,r3,r4,r5,r6,r7,d2,r8⟩:=g2
     obtain ⟨m2,h2,q1,q2,q3,q4⟩:=oJ hW e (.loop { state:=.ready,pending:=none,fn:=fnE,tmps:=a.tmps,params:=ps,assign:=as,body:=bo,defers:=L0.defers }) rfl rfl
      (fun m' hle=>⟨_,heap_alloc_new _ _,rfl,rfl,hT.mono hle,rfl,rfl,rfl,d2,hle.1 _ _ r8⟩)
     have henter:(Instr.enterLoop fnE a.tmps ps as bo (some rc)).run P w = .ok (w.heap.size,[])
       (w.alloc (.loop { state:=.ready,pending:=none,fn:=fnE,tmps:=a.tmps,params:=ps,assign:=as,body:=bo,defers:=L0.defers })):=by
      simp [Instr.enterLoop,Instr.getLoop,getObj,Sem.run,r1]
     obtain ⟨d,w₁',g,args,w₂,z1,z2,z3,z4,z5⟩:=rangeGo (nn:=nn) (Q:=Q) hs hT fnE henter q1 q3 q2 (hD.mono q1) (rdA:=some r) ⟨dr,q1.1 _ _ hr⟩ q4 hQ
     exact ⟨_,_,_,d,w₁',g,args,w₂,henter,z1,z2,z3,z4,z5⟩
    ·cases e
 ·cases e

end
end Go.Ev
