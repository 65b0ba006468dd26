import Derived.Test.YtefjnhpghgahbaaGreatCq2
import Derived.Test.YtefjnhpghgahbaaGreatEvE
/- Holdings: what is given, whether all is there. -/
namespace Go.Proofs.Cp
open Go Go.Ev
set_option linter.unusedSimpArgs false

theorem aH:arrOf Tryz.prog 97 = some (4,3):=by kernel_rfl
theorem sH:sizeB Tryz.prog 97 = some 4:=by kernel_rfl
theorem zH:zeroOf Tryz.prog 97 = some (.agg ⟨[iv 0,iv 0,iv 0,iv 0]⟩):=by kernel_rfl
theorem pH (c:List Value) (o:Nat):partL Tryz.prog 97 c o = bif Nat.ble (Nat.add o 4) c.length then some (.agg ⟨(c.drop o).take 4⟩) else none:=by kernel_rfl
theorem pH4 {l:List Int} (h:l.length = 4):partL Tryz.prog 97 (l.map iv) 0 = some (.agg ⟨l.map iv⟩):=part_0 pH (by rw [List.length_map]; exact h)
set_option maxRecDepth 100000 in
theorem eqlH {t:T Value} {x y:Operand} {b:TypeId} {dst:Option Tmp} {ty:TypeId} {pos:String} {af:Array Edge} {g:Option (Nat × Bool)} (l:List Int) (hl:l.length = 4) (z:List Int) (hz:z.length = 4)
  (hx:ev Tryz.prog t x = .agg ⟨l.map iv⟩) (hy:ev Tryz.prog t y = .agg ⟨z.map iv⟩):ground Tryz.prog t ⟨dst,.binOp .eql 97 x y b,ty,pos,af,g⟩ = some (.bool (l == z)):=by
 unfold ground
 have e1:evL Tryz.prog t (Op.operands (.binOp .eql 97 x y b)).toList = [.agg ⟨l.map iv⟩,.agg ⟨z.map iv⟩]:=by simp only [Op.operands,evL,hx,hy]
 have e2:plainL [.agg ⟨l.map iv⟩,.agg ⟨z.map iv⟩] = true:=by simp only [plainL,plain_ints]; rfl
 have e3:=pureOf_equal_ints (P:=Tryz.prog) 9998 (t:=97) (e:=3) (n:=4) (by kernel_rfl) (by kernel_rfl) (by kernel_rfl) (by kernel_rfl) l z hl hz
 have e4:pureOf Tryz.prog (eqGuard .eql 97 x y (.agg ⟨l.map iv⟩) (.agg ⟨z.map iv⟩)) = some ():=by kernel_rfl
 have e5:binOp .eql 97 (.agg ⟨l.map iv⟩) (.agg ⟨z.map iv⟩) = (Op.equalIn 10000 97 (.agg ⟨l.map iv⟩) (.agg ⟨z.map iv⟩) >>= fun r=>pure (.bool r)):=rfl
 have e6:pureOf Tryz.prog (execOp (ev Tryz.prog t) ⟨dst,.binOp .eql 97 x y b,ty,pos,af,g⟩) = some (.value (.bool (l == z))):=by
  simp only [execOp,hx,hy,bind_assoc]
  rw [pureOf_bd _ _ _ e4,e5]
  simp only [bind_assoc]
  rw [pureOf_bd _ _ _ e3]
  rfl
 rw [e1,e2,cond_true,e6]
 rfl

def addA (l:List Int) (i:Nat) (d:Int):List Int:=l.set i (l.getD i 0 + d)
theorem addA_len (l:List Int) (i:Nat) (d:Int):(addA l i d).length = l.length:=List.length_set
def bndL (M:Int) (l:List Int):Prop:=∀ x,x ∈ l → -M ≤ x ∧ x ≤ M
theorem bndL_get {M:Int} {l:List Int} (h:bndL M l) {i:Nat} (hi:i < l.length) : -M ≤ l.getD i 0 ∧ l.getD i 0 ≤ M:=by
 rw [List.getD_eq_getElem?_getD,List.getElem?_eq_getElem hi]
 exact h _ (List.getElem_mem hi)
theorem bndL_add {M U d:Int} {l:List Int} {i:Nat} (h:bndL M l) (hi:i < l.length) (_h0:0 ≤ U) (h1 : -U ≤ d) (h2:d ≤ U):bndL (M + U) (addA l i d):=by
 intro x hx
 rcases List.mem_or_eq_of_mem_set hx with hx|rfl
 ·have:=h x hx; omega
 ·have:=bndL_get h hi; omega
def aftL (l:List Int) (x:Tr) (u:Int):List Int:=addA (addA l x.se.toNat (-u)) x.bu.toNat u
theorem aftL_len (l:List Int) (x:Tr) (u:Int):(aftL l x u).length = l.length:=by unfold aftL; rw [addA_len,addA_len]

variable {pr:Prim} {R:ExT}
set_option maxHeartbeats 16000000 in
theorem after_y (S:Ev.Steps Tryz.prog pr R) (h0:AHeap) (l:List Int) (hl:l.length = 4) (hs:Int) (hs4:hs ≤ 4) (x:Tr) (hx:Tok hs x) (u:Int) (hu0:0 ≤ u) (hu1:u ≤ 2592000) (hb:bndL 25920000 l) :
  Brings Tryz.prog R 80 [.agg ⟨l.map iv⟩,.agg ⟨c7 x⟩,iv u] h0 fun w _=>w = .agg ⟨(aftL l x u).map iv⟩:=by
 refine brings_of (fn:=Tryz.f80) (c:=(Tryz.f80.body).getD .skip) (by kernel_rfl) rfl (by kernel_rfl) rfl (fun K hK=>?_)
 generalize hF:finish Tryz.prog Tryz.f80 K = KF
 simp only [Tryz.f80,Option.getD_some,argsT,setArgs,fV1_eq,T.setK_eq,id]
 obtain ⟨i,hi⟩:∃ i:Nat,x.se = (i:Int):=⟨x.se.toNat,by have:=hx.s0; omega⟩
 obtain ⟨j,hj⟩:∃ j:Nat,x.bu = (j:Int):=⟨x.bu.toNat,by have:=hx.b0; omega⟩
 have hi4:i < 4:=by have:=hx.s1; omega
 have hj4:j < 4:=by have:=hx.b1; omega
 have ha:aftL l x u = addA (addA l i (-u)) j u:=by unfold aftL; rw [hi,hj,Int.toNat_natCast,Int.toNat_natCast]
 rw [ha] at hK
 have hb1:=bndL_get hb (i:=i) (by omega)
 have hl1:(addA l i (-u)).length = 4:=by rw [addA_len]; exact hl
 have hb2:=bndL_get (bndL_add (U:=2592000) hb (i:=i) (d:=-u) (by omega) (by omega) (by omega) (by omega)) (i:=j) (by omega)
 have g1:(l.map iv)[i]? = some (iv (l.getD i 0)):=by
  rw [List.getElem?_map,List.getD_eq_getElem?_getD,List.getElem?_eq_getElem (by omega)]; rfl
 have g2:((addA l i (-u)).map iv)[j]? = some (iv ((addA l i (-u)).getD j 0)):=by
  rw [List.getElem?_map,List.getD_eq_getElem?_getD,List.getElem?_eq_getElem (by omega)]; rfl
 have m1:(l.map iv).set i (iv (l.getD i 0 - u)) = (addA l i (-u)).map iv:=by unfold addA; rw [List.map_set]; rfl
 have m2:((addA l i (-u)).map iv).set j (iv ((addA l i (-u)).getD j 0 + u)) = (addA (addA l i (-u)) j u).map iv:=by
  show _ = ((addA l i (-u)).set j ((addA l i (-u)).getD j 0 + u)).map iv
  rw [List.map_set]
 have n1:i < (l.map iv).length:=by rw [List.length_map]; omega
 have n2:j < ((addA l i (-u)).map iv).length:=by rw [List.length_map]; omega
 repeat refine S.seq ?_
 refine S.region ?_
 simp (disch:=first|omega|decide) only [rUz,wr_alloc zH]
 obtain ⟨B3,hB3⟩:∃ x,x = h0.nx:=⟨_,rfl⟩
 obtain ⟨B4,hB4⟩:∃ x,x = h0.nx + 1:=⟨_,rfl⟩
 obtain ⟨B6,hB6⟩:∃ x,x = h0.nx + 1 + 1:=⟨_,rfl⟩
 have hb3:(((h0.add (l.map iv)).add (c7 x)).add [iv 0,iv 0,iv 0,iv 0]).bl.get B3 = some (.cells (l.map iv) B3 false):=by simp (disch:=first|omega|(simp only [nZ] <;> omega)|decide) only [ag_ne]; subst hB3; exact ag_eq rfl
 have hf3:(((h0.add (l.map iv)).add (c7 x)).add [iv 0,iv 0,iv 0,iv 0]).fams.get B3 = some [B3]:=by simp (disch:=first|omega|(simp only [nZ] <;> omega)|decide) only [af_ne]; subst hB3; exact af_eq rfl
 have hb4:(((h0.add (l.map iv)).add (c7 x)).add [iv 0,iv 0,iv 0,iv 0]).bl.get B4 = some (.cells (c7 x) B4 false):=by simp (disch:=first|omega|(simp only [nZ] <;> omega)|decide) only [ag_ne]; subst hB4; exact ag_eq rfl
 have hb6:(((h0.add (l.map iv)).add (c7 x)).add [iv 0,iv 0,iv 0,iv 0]).bl.get B6 = some (.cells [iv 0,iv 0,iv 0,iv 0] B6 false):=by subst hB6; exact ag_eq rfl
 have hf6:(((h0.add (l.map iv)).add (c7 x)).add [iv 0,iv 0,iv 0,iv 0]).fams.get B6 = some [B6]:=by subst hB6; exact af_eq rfl
 have hk1:Kp h0 (((h0.add (l.map iv)).add (c7 x)).add [iv 0,iv 0,iv 0,iv 0]):=Kp.refl.add.add.add
 have o1:h0.nx ≤ B3:=by omega
 have o2:B3 < B4:=by omega
 have o3:B4 < B6:=by omega
 rw [← hB6,← hB4,← hB3]
 generalize ((h0.add (l.map iv)).add (c7 x)).add [iv 0,iv 0,iv 0,iv 0] = H at hb3 hf3 hb4 hb6 hf6 hk1 ⊢
 clear hB3 hB4 hB6
 have ia:∀ k:Nat,k < 4 → rIndexAddr Tryz.prog 97 (.pointer (some ⟨B3,0,none⟩)) (iv (k:Int)) = some (.pointer (some ⟨B3,k,none⟩)):=fun k hk=>by
  rw [indexAddr_arr aH s3' hk,Nat.zero_add,Nat.mul_one]
 repeat refine S.seq ?_
 refine S.region ?_
 simp (disch:=first|omega|decide) only [rUz,hb3,hf3,hb4,fieldAddr_ptr fcT0 s3,p3,c70,hi,ia i hi4,g1]
 refine wr_store s3' ?_
 simp (disch:=first|omega|decide) only [rUz,hb3,hf3,m1]
 have hb32:(H.upd B3 ((addA l i (-u)).map iv) B3).bl.get B3 = some (.cells ((addA l i (-u)).map iv) B3 false):=upd_eq _ _ _
 have hf32:(H.upd B3 ((addA l i (-u)).map iv) B3).fams.get B3 = some [B3]:=by rw [upd_fams]; exact hf3
 have hb42:(H.upd B3 ((addA l i (-u)).map iv) B3).bl.get B4 = some (.cells (c7 x) B4 false):=by rw [upd_ne _ _ _ (by omega)]; exact hb4
 have hb62:(H.upd B3 ((addA l i (-u)).map iv) B3).bl.get B6 = some (.cells [iv 0,iv 0,iv 0,iv 0] B6 false):=by rw [upd_ne _ _ _ (by omega)]; exact hb6
 have hf62:(H.upd B3 ((addA l i (-u)).map iv) B3).fams.get B6 = some [B6]:=by rw [upd_fams]; exact hf6
 have hk2:Kp h0 (H.upd B3 ((addA l i (-u)).map iv) B3):=hk1.upd o1
 generalize H.upd B3 ((addA l i (-u)).map iv) B3 = G at hb32 hf32 hb42 hb62 hf62 hk2 ⊢
 repeat refine S.seq ?_
 refine S.region ?_
 simp (disch:=first|omega|decide) only [rUz,hb32,hf32,hb42,fieldAddr_ptr fcT1 s3,p3,c71,hj,ia j hj4,g2]
 refine wr_store s3' ?_
 simp (disch:=first|omega|decide) only [rUz,hb32,hf32,m2]
 have hl2:(addA (addA l i (-u)) j u).length = 4:=by rw [addA_len]; exact hl1
 repeat refine S.seq ?_
 refine S.region ?_
 simp (disch:=first|omega|decide) only [rUz,pH4 hl2]
 refine wr_storeN (B:=B6) (c:=[iv 0,iv 0,iv 0,iv 0]) (fam:=B6) (k:=B6) (l:=(addA (addA l i (-u)) j u).map iv) (by simp (disch:=first|omega|decide) only [rUz]) (by simp (disch:=first|omega|decide) only [rUz]) sH (by omega) (by rw [List.length_map]; exact hl2) (by rw [upd_ne _ _ _ (by omega)]; exact hb62) (by rw [upd_fams]; exact hf62) rfl ?_
 simp (disch:=first|omega|decide) only [rUz]
 refine S.ret ?_
 try simp only [seqK_ret,blockK_ret]
 subst hF
 simp only [finish,endMarks]
 rw [show Tryz.f80.results.toList = [.cell 6 97] from rfl]
 simp (disch:=first|omega|decide) only [resA,ev_tmp,tget_ne,tget_eq,get_ne,get_eq,upd_eq,upd_ne,ag_eq,ag_ne,result1,pH4 hl2]
 exact hK _ _ ((hk2.upd o1).upd (by omega)) rfl
end Go.Proofs.Cp
