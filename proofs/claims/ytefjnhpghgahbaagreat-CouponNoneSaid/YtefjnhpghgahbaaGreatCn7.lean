import Derived.Test.YtefjnhpghgahbaaGreatCn6
import Derived.Test.YtefjnhpghgahbaaGreatEvE
/- A company of the reference as one of the program. -/
namespace Go.Proofs.Cp
open Go Go.Ev
set_option linter.unusedSimpArgs false

theorem bT (a b c:Int) (r s:R2):rBuild Tryz.prog 88 [(0,iv a),(1,iv b),(2,iv c),(3,.agg ⟨c2 r⟩),(4,.agg ⟨c2 s⟩)] = some (.agg ⟨c7 ⟨a,b,c,r,s⟩⟩):=by
 obtain ⟨r1,r2⟩:=r
 obtain ⟨s1,s2⟩:=s
 kernel_rfl
theorem bD (a b c:Int):rBuild Tryz.prog 89 [(0,iv a),(1,iv b),(2,iv c)] = some (.agg ⟨c3 (a,b,c)⟩):=by kernel_rfl
theorem bS (a b c:Int):rBuild Tryz.prog 90 [(0,iv a),(1,iv b),(2,iv c)] = some (.agg ⟨c3 (a,b,c)⟩):=by kernel_rfl
theorem bcR (a b:Int):rBuild Tryz.prog 73 [(0,iv a),(1,iv b)] = some (.agg ⟨[iv a,iv b]⟩):=by kernel_rfl
theorem bB (hs:Int) (q:Option Addr) (n c:Nat):rBuild Tryz.prog 48 [(0,iv hs),(1,.slice q n c)] = some (.agg ⟨[iv hs,.slice q n c,.slice none 0 0,.slice none 0 0,.slice none 0 0,.slice none 0 0]⟩):=by kernel_rfl
theorem z3:zeroOf Tryz.prog 3 = some (iv 0):=by kernel_rfl
theorem flat1 (l:List Int):(l.map fun n=>[iv n]).flatten = l.map iv:=by
 induction l with
 | nil=>rfl
 | cons a l ih=>simp only [List.map_cons,List.flatten_cons,List.singleton_append]; rw [ih]

variable {pr:Prim} {R:ExT}
def INew (lo:Nat) (h:AHeap) (v:Value) (l:List Int):Prop:=∃ b f,v = .slice (some ⟨b,0,none⟩) l.length l.length ∧ lo ≤ b ∧ b < h.nx ∧ h.bl.get b = some (.cells (l.map iv) f false)
theorem INew.at {lo:Nat} {h:AHeap} {v:Value} {l:List Int} (k:INew lo h v l):IAt h v l:=by
 obtain ⟨b,f,k1,_,k3,k4⟩:=k
 exact .inr ⟨b,_,f,false,k1,k3,k4⟩
theorem INew.kp {lo:Nat} {h h':AHeap} {v:Value} {l:List Int} (k:INew lo h v l) (a:Kp h h'):INew lo h' v l:=by
 obtain ⟨b,f,k1,k2,k3,k4⟩:=k
 exact ⟨b,f,k1,k2,Nat.lt_of_lt_of_le k3 a.1,(a.get k3).trans k4⟩
theorem INew.fr {lo B:Nat} {h h':AHeap} {v:Value} {l:List Int} (k:INew lo h v l) (a:Fr h B h') (hB:B < lo):INew lo h' v l:=by
 obtain ⟨b,f,k1,k2,k3,k4⟩:=k
 exact ⟨b,f,k1,k2,Nat.lt_of_lt_of_le k3 a.le,(a.bl b k3 (by omega)).trans k4⟩
theorem INew.upd {lo B f':Nat} {c:List Value} {h:AHeap} {v:Value} {l:List Int} (k:INew lo h v l) (hB:B < lo):INew lo (h.upd B c f') v l:=by
 obtain ⟨b,f,k1,k2,k3,k4⟩:=k
 exact ⟨b,f,k1,k2,k3,by rw [upd_ne _ _ _ (by omega)]; exact k4⟩
theorem INew.putAt {lo r:Nat} {c:List Value} {h:AHeap} {v:Value} {l:List Int} (k:INew lo h v l) (hB:r < lo):INew lo (h.putAt r c) v l:=by
 obtain ⟨b,f,k1,k2,k3,k4⟩:=k
 exact ⟨b,f,k1,k2,k3,by rw [putAt_ne (by omega)]; exact k4⟩

set_option maxHeartbeats 4000000 in
theorem list_y (S:Ev.Steps Tryz.prog pr R) (h0:AHeap) (v:Value) (l:List Int) (hv:SlAt h0 1 v (l.map fun n=>[iv n])) (hl:l.length ≤ 1000) :
  Brings Tryz.prog R 29 [v] h0 fun u h=>INew h0.nx h u l:=by
 refine brings_of (fn:=Tryz.f29) (c:=(Tryz.f29.body).getD .skip) (by kernel_rfl) rfl (by kernel_rfl) rfl (fun K hK=>?_)
 generalize hF:finish Tryz.prog Tryz.f29 K = KF
 simp only [Tryz.f29,Option.getD_some,argsT,setArgs,fV1_eq,T.setK_eq,id]
 repeat refine S.seq ?_
 refine S.region ?_
 simp (disch:=first|omega|decide) only [rUz]
 repeat refine S.seq ?_
 refine S.region ?_
 simp (disch:=first|omega|decide) only [rUz,w_append,w_buildSlice]
 refine wr_lit0 slI s3' z3 rfl ?_
 simp (disch:=first|omega|decide) only [rUz,w_append]
 refine wr_copyE (b:=h0.nx) (v:=v) slI uI (by simp (disch:=first|omega|decide) only [rUz]) (by simp (disch:=first|omega|decide) only [rUz]) s3' (ag_eq rfl) (af_eq rfl) (Nat.lt_succ_self _) (SlAt.mono hv Kp.refl.add) nI (by rw [List.length_map]; show _ < 1000000; omega) ?_
 intro v' h' hc
 obtain ⟨B,ll,hv',hB,hlt,hg,_⟩:=hc.at_
 rw [flat1] at hg
 rw [List.length_map] at hv'
 have hle:=hc.le
 have hn:(h0.add []).nx = h0.nx + 1:=rfl
 have hkp:Kp h0 h':=⟨by omega,fun k hk=>by
  rw [hc.bl k (by omega) (by omega),hc.fam k (by omega) (by omega),ag_ne (by omega),af_ne (by omega)]
  exact ⟨rfl,rfl⟩⟩
 simp (disch:=first|omega|decide) only [rUz]
 refine S.ret ?_
 try simp only [seqK_ret,blockK_ret]
 subst hF
 simp only [finish,endMarks]
 rw [show Tryz.f29.results.toList = [.tmp 2] from rfl]
 simp (disch:=first|omega|(simp only [nZ] <;> omega)|decide) only [resA,ev_tmp,tget_ne,tget_eq,get_ne,get_eq,upd_eq,upd_ne,ag_eq,ag_ne,result1]
 exact hK _ _ hkp ⟨B,_,hv',by omega,hlt,hg⟩

set_option maxHeartbeats 4000000 in
theorem to_y (S:Ev.Steps Tryz.prog pr R) (h0:AHeap) (r:R2):Brings Tryz.prog R 35 [.agg ⟨c2 r⟩] h0 fun u _=>u = .agg ⟨c2 r⟩:=by
 refine brings_of (fn:=Tryz.f35) (c:=(Tryz.f35.body).getD .skip) (by kernel_rfl) rfl (by kernel_rfl) rfl (fun K hK=>?_)
 generalize hF:finish Tryz.prog Tryz.f35 K = KF
 simp only [Tryz.f35,Option.getD_some,argsT,setArgs,fV1_eq,T.setK_eq,id]
 repeat refine S.seq ?_
 refine S.region ?_
 simp (disch:=first|omega|(simp only [nZ] <;> omega)|decide) only [rUz,↓reduceIte,Nat.reduceEqDiff,Nat.reduceAdd,wr_alloc zcR]
 repeat refine S.seq ?_
 refine S.region ?_
 simp (disch:=first|omega|(simp only [nZ] <;> omega)|decide) only [rUz,↓reduceIte,Nat.reduceEqDiff,Nat.reduceAdd,fieldAddr_ptr frR0 s3,fieldAddr_ptr frR1 s3,p3,c20,c21,rd_build,List.map_cons,List.map_nil,bcR]
 refine wr_storeN (B:=h0.nx + 1) (c:=[iv 0,iv 0]) (fam:=h0.nx + 1) (k:=h0.nx + 1) (l:=c2 r) (by simp (disch:=first|omega|(simp only [nZ] <;> omega)|decide) only [rUz,↓reduceIte,Nat.reduceEqDiff,Nat.reduceAdd]) (by simp (disch:=first|omega|(simp only [nZ] <;> omega)|decide) only [rUz,↓reduceIte,Nat.reduceEqDiff,Nat.reduceAdd]; rfl) scR (by omega) rfl (by simp (disch:=first|omega|(simp only [nZ] <;> omega)|decide) only [rUz,↓reduceIte,Nat.reduceEqDiff,Nat.reduceAdd]) (by simp (disch:=first|omega|(simp only [nZ] <;> omega)|decide) only [rUz,↓reduceIte,Nat.reduceEqDiff,Nat.reduceAdd]) rfl ?_
 simp (disch:=first|omega|decide) only [rUz]
 refine S.ret ?_
 try simp only [seqK_ret,blockK_ret]
 subst hF
 simp only [finish,endMarks]
 rw [show Tryz.f35.results.toList = [.cell 2 73] from rfl]
 simp (disch:=first|omega|decide) only [resA,ev_tmp,tget_ne,tget_eq,get_ne,get_eq,upd_eq,upd_ne,ag_eq,ag_ne,result1,part_0 pcR (c2_len r)]
 exact hK _ _ (Kp.refl.add.add.upd (by omega)) rfl
end Go.Proofs.Cp
