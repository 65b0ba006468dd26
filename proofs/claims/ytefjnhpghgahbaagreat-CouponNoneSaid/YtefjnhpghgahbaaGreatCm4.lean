import Derived.Test.YtefjnhpghgahbaaGreatCm3
/- What the reference says that each house has. -/
namespace Go.Proofs.Cp
open Go Go.Ev
set_option linter.unusedSimpArgs false

theorem inS_room {d:Int} {p:Nat}:∀ (l:List T3) (n:Int),okSps l → roomS n (p + eqS d l) → roomS (inS d l n) p
 | [],n,_,h=>h
 | s :: l,n,ho,h=>by
  have hs:=ho s (by simp)
  have hb:=step_bnd (d:=d) hs h.1
  show roomS (inS d l (stepS d n s)) p
  refine inS_room l _ (fun x hx=>ho x (by simp [hx])) ?_
  rw [eqS_cons] at h
  by_cases hd:s.1 = d
  ·rw [if_pos hd,show p + (1 + eqS d l) = (p + eqS d l) + 1 from by omega] at h
   exact h.step hb.1 hb.2.1
  ·rw [if_neg hd,Nat.zero_add] at h
   rw [hb.2.2 hd]; exact h
theorem dayG_room {sp:List T3} (ho:okSps sp):∀ (k:Nat) (d n:Int),roomS n (cntS d sp) → ∃ p,roomS (dayG sp k d n) p
 | 0,_,_,h=>⟨_,h⟩
 | k + 1,d,n,h=>by
  rw [cnt_split] at h
  exact dayG_room ho k (d + 1) _ (inS_room sp n ho h)
theorem units_bnd {sp:List T3} (ho:okSps sp) (hl:sp.length ≤ 2) {sh a b:Int} (h0:0 ≤ sh) (h1:sh ≤ 100):0 ≤ unitsR sp sh a b ∧ unitsR sp sh a b ≤ 2592000:=by
 obtain ⟨p,hp⟩:=dayG_room ho (b - a).toNat (a + 1) (720 * sh) (roomS.start h0 h1 (Nat.le_trans (cntS_le _ _) hl))
 exact ⟨hp.1,hp.le⟩

structure Val (c:Co):Prop where
 h1:1 ≤ c.hs
 h4:c.hs ≤ 4
 held:(c.held.length:Int) = c.hs
 hok:∀ n,n ∈ c.held → 0 ≤ n ∧ n ≤ 100
 tl:c.tr.length ≤ 4
 tok:∀ x,x ∈ c.tr → okTr c.hs x = true
 sl:c.sp.length ≤ 2
 sok:okSps c.sp
 spo:spOrd (-1) c.sp = true
 cll:c.cl.length ≤ 2
theorem spOrd_ok:∀ (l:List T3) (d:Int),spOrd d l = true → okSps l
 | [],_,_=>fun s hs=>by cases hs
 | s :: l,d,h=>by
  rw [spOrd,Bool.and_eq_true] at h
  intro x hx
  rcases List.mem_cons.1 hx with rfl|hx
  ·have:=h.1
   simp only [Bool.and_eq_true,inB_iff] at this
   omega
  ·exact spOrd_ok l _ h.2 x hx
theorem Val.of_fault {c:Co} (h:faultZ c = 0):Val c:=by
 unfold faultZ at h
 cases hm:manyZ c with
 | true=>rw [hm,cond_true] at h; omega
 | false =>
 rw [hm,cond_false] at h
 cases h2:(decide (c.hs < 1) || !decide ((c.held.length:Int) = c.hs)) with
 | true=>rw [h2,cond_true] at h; omega
 | false =>
 rw [h2,cond_false] at h
 cases h3:restZ c with
 | false=>rw [h3,cond_false] at h; omega
 | true =>
 simp only [manyZ,Bool.or_eq_false_iff,decide_eq_false_iff_not] at hm
 simp only [Bool.or_eq_false_iff,decide_eq_false_iff_not,Bool.not_eq_false',decide_eq_true_eq] at h2
 unfold restZ at h3
 simp only [Bool.and_eq_true] at h3
 refine ⟨by omega,by omega,h2.2,fun n hn=>?_,by omega,fun x hx=>List.all_eq_true.1 h3.2.1 x hx,by omega,spOrd_ok _ _ h3.2.2.2.1,h3.2.2.2.1,by omega⟩
 have:=List.all_eq_true.1 h3.1 n hn
 rwa [inB_iff] at this
structure Tok (hs:Int) (x:Tr):Prop where
 s0:0 ≤ x.se
 s1:x.se < hs
 b0:0 ≤ x.bu
 b1:x.bu < hs
 ne:x.se ≠ x.bu
 n0:1 ≤ x.sh
 n1:x.sh ≤ 100
 so:0 ≤ x.so.1 ∧ x.so.1 ≤ x.so.2 ∧ x.so.2 ≤ 11
 de:0 ≤ x.de.1 ∧ x.de.1 ≤ x.de.2 ∧ x.de.2 ≤ 11
theorem Tok.of {hs:Int} {x:Tr} (h:okTr hs x = true):Tok hs x:=by
 simp only [okTr,Bool.and_eq_true,inB_iff,daysB_iff,Bool.not_eq_true',decide_eq_false_iff_not] at h
 obtain ⟨a,b,c,d,e,f,_⟩:=h
 exact ⟨a.1,by omega,b.1,by omega,c,d.1,d.2,e,f⟩
theorem datG_get:∀ {l:List Tr} {a b:List Int},datG l a b = true → ∀ {i:Nat} {x:Tr} {s d:Int},l[i]? = some x → a[i]? = some s → b[i]? = some d → datB x s d = true
 | x :: l,s :: a,d :: b,h,0,_,_,_,h1,h2,h3=>by
  rw [datG,Bool.and_eq_true] at h
  simp at h1 h2 h3; subst h1 h2 h3; exact h.1
 | x :: l,s :: a,d :: b,h,i + 1,_,_,_,h1,h2,h3=>by
  rw [datG,Bool.and_eq_true] at h
  exact datG_get h.2 (by simpa using h1) (by simpa using h2) (by simpa using h3)
 | [],_,_,_,_,_,_,_,h1,_,_=>by simp at h1
 | _ :: _,[],_,_,_,_,_,_,_,h2,_=>by simp at h2
 | _ :: _,_ :: _,[],_,_,_,_,_,_,_,h3=>by simp at h3
theorem dat_facts {hs:Int} {x:Tr} {s d:Int} (h1:Tok hs x) (h2:datB x s d = true):0 ≤ s ∧ s ≤ d ∧ d ≤ 11:=by
 simp only [datB,Bool.and_eq_true,inB_iff,Bool.not_eq_true',decide_eq_false_iff_not] at h2
 have:=h1.so
 have:=h1.de
 omega

def addT (c:Co) (day h:Int) (x:Tr) (s d n:Int):Int:=
 bif inB (regP c.cl d) 0 day then (n + (if x.bu = h then unitsR c.sp x.sh s day else 0)) - (if x.se = h then unitsR c.sp x.sh s day else 0) else n
def heldG (c:Co) (day h:Int):List Tr → List Int → List Int → Int → Int
 | x :: r,s :: a,d :: b,n=>heldG c day h r a b (addT c day h x s d n)
 | _,_,_,n=>n
def heldH (c:Co) (a b:List Int) (day h sh:Int):Int:=heldG c day h c.tr a b (unitsR c.sp sh (-1) day)
def heldFrom (c:Co) (a b:List Int) (day:Int):List Int → Nat → List Int
 | [],_=>[]
 | sh :: r,k=>heldH c a b day k sh :: heldFrom c a b day r (k + 1)
def heldL (c:Co) (a b:List Int) (day:Int):List Int:=heldFrom c a b day c.held 0
theorem heldFrom_len (c:Co) (a b:List Int) (day:Int):∀ (l:List Int) (k:Nat),(heldFrom c a b day l k).length = l.length
 | [],_=>rfl
 | _ :: r,k=>by rw [heldFrom,List.length_cons,heldFrom_len c a b day r,List.length_cons]
theorem heldFrom_get (c:Co) (a b:List Int) (day:Int):∀ (l:List Int) (k i:Nat),(heldFrom c a b day l k)[i]? = (l[i]?).map fun sh=>heldH c a b day ((k + i:Nat):Int) sh
 | [],_,_=>by simp [heldFrom]
 | sh :: r,k,0=>by simp [heldFrom]
 | sh :: r,k,i + 1=>by
  rw [heldFrom,List.getElem?_cons_succ,List.getElem?_cons_succ,heldFrom_get c a b day r (k + 1) i]
  rw [show k + 1 + i = k + (i + 1) from by omega]
theorem heldG_nil (c:Co) (day h:Int) (a b:List Int) (n:Int):heldG c day h [] a b n = n:=by
 unfold heldG; rfl

structure IHo (c:Co) (a b:List Int) (day:Int) (B3 B4 lo:Nat) (H:AHeap) (k:Nat) (t:T Value) (h:AHeap) (v:Value) (F:Nat):Prop where
 kp:Kp H h
 lo_:lo ≤ h.nx
 t2:tget t 2 = iv day
 t3:tget t 3 = ptr0 B3
 t4:tget t 4 = ptr0 B4
 t7:tget t 7 = v
 t8:tget t 8 = iv (k:Int)
 hk:k ≤ c.held.length
 app:App lo h 1 v (((heldL c a b day).take k).map fun n=>[iv n]) F
def IHx (c:Co) (a b:List Int) (day:Int) (B3 B4 lo:Nat) (H:AHeap) (k:Nat) (t:T Value) (h:AHeap):Prop:=∃ v F,IHo c a b day B3 B4 lo H k t h v F
structure IHt (c:Co) (a b:List Int) (day hh sh:Int) (B3 B4:Nat) (t7v:Value) (H:AHeap) (k:Nat) (t:T Value) (h:AHeap) (n:Int):Prop where
 kp:Kp H h
 t2:tget t 2 = iv day
 t3:tget t 3 = ptr0 B3
 t4:tget t 4 = ptr0 B4
 t7:tget t 7 = t7v
 t8:tget t 8 = iv hh
 t9:tget t 9 = iv n
 t10:tget t 10 = iv (k:Int)
 hk:k ≤ c.tr.length
 val:heldH c a b day hh sh = heldG c day hh (c.tr.drop k) (a.drop k) (b.drop k) n
 bnd : -2592000 * (1 + (k:Int)) ≤ n ∧ n ≤ 2592000 * (1 + (k:Int))
def IHy (c:Co) (a b:List Int) (day hh sh:Int) (B3 B4:Nat) (t7v:Value) (H:AHeap) (k:Nat) (t:T Value) (h:AHeap):Prop:=∃ n,IHt c a b day hh sh B3 B4 t7v H k t h n

variable {pr:Prim} {R:ExT}
set_option maxHeartbeats 64000000 in
theorem rheldA_y (S:Ev.Steps Tryz.prog pr R) (hoff:Off pr) (h0:AHeap) (v:Vs) (c:Co) (hc:CoAt h0 v c) (hv:Val c) (ua ub:Value) (a b:List Int) (hua:IAt h0 ua a) (hub:IAt h0 ub b) (hda:datedB c a b = true) (day:Int) (_hd0:0 ≤ day) (hd1:day ≤ 11) :
  Brings Tryz.prog R 32 [.agg ⟨coV c.hs v⟩,.agg ⟨[ua,ub]⟩,iv day] h0 fun u h=>∃ lo F,h0.nx ≤ lo ∧ App lo h 1 u ((heldL c a b day).map fun n=>[iv n]) F:=by
 refine brings_of (fn:=Tryz.f32) (c:=(Tryz.f32.body).getD .skip) (by kernel_rfl) rfl (by kernel_rfl) rfl (fun K hK=>?_)
 generalize hF:finish Tryz.prog Tryz.f32 K = KF
 simp only [Tryz.f32,Option.getD_some,argsT,setArgs,fV1_eq,T.setK_eq,id]
 obtain ⟨hlen,hdat⟩:lensB c a b = true ∧ datG c.tr a b = true:=by rw [datedB,Bool.and_eq_true] at hda; exact hda
 obtain ⟨la,lb⟩:=lens_iff.1 hlen
 have hcl:(c.cl.length:Int) ≤ 1000000:=by have:=hv.cll; omega
 have hhd:=hv.held
 have hh4:=hv.h4
 have ht4:=hv.tl
 repeat refine S.seq ?_
 refine S.region ?_
 simp (disch:=first|omega|decide) only [rUz]
 obtain ⟨B4,hB4⟩:∃ x,x = h0.nx + 1:=⟨_,rfl⟩
 obtain ⟨B3,hB3⟩:∃ x,x = h0.nx:=⟨_,rfl⟩
 have hb3:((h0.add (coV c.hs v)).add [ua,ub]).bl.get B3 = some (.cells (coV c.hs v) B3 false):=by rw [ag_ne (by show B3 ≠ h0.nx + 1; omega)]; subst hB3; exact ag_eq rfl
 have hb4:((h0.add (coV c.hs v)).add [ua,ub]).bl.get B4 = some (.cells [ua,ub] B4 false):=by subst hB4; exact ag_eq rfl
 have hk1:Kp h0 ((h0.add (coV c.hs v)).add [ua,ub]):=Kp.refl.add.add
 have hn4:B4 < ((h0.add (coV c.hs v)).add [ua,ub]).nx:=by show B4 < h0.nx + 2; omega
 rw [← hB4,← hB3]
 generalize (h0.add (coV c.hs v)).add [ua,ub] = H at hb3 hb4 hk1 hn4 ⊢
 have hn3:B3 < H.nx:=by omega
 clear hB3 hB4
 have hc1:=hc.mono hk1
 have ha1:=hua.mono hk1
 have hb1:=hub.mono hk1
 have hve:veq (.agg ⟨coV c.hs v⟩) (.agg ⟨coV c.hs v⟩) = true:=veq_co hc1 c.hs
 repeat refine S.seq ?_
 refine S.region ?_
 simp (disch:=first|omega|decide) only [rUz]
 repeat refine S.seq ?_
 refine S.region ?_
 simp (disch:=first|omega|decide) only [rUz]
 repeat refine S.seq ?_
 refine S.block ?_
 refine S.loop (ι:=Nat) (IHx c a b day B3 B4 H.nx H) (fun k=>c.held.length - k) ?_ 0 _ _ ?_
 rotate_left
 ·refine ⟨nl,0,Kp.refl,Nat.le_refl _,?_,?_,?_,?_,?_,Nat.zero_le _,.inl ⟨rfl,rfl⟩⟩
  all_goals (first|rfl|(simp (disch:=first|omega|decide) only [rUz]; done)|(simp (disch:=first|omega|decide) only [rUz]; rfl))
 intro k t h ⟨t7v,F7,hkp,hlo,t2,t3,t4,t7,t8,hk,happ⟩ K' hn he
 have hb3h:=(hkp.get hn3).trans hb3
 repeat refine S.seq ?_
 refine S.region ?_
 simp (disch:=first|omega|decide) only [rUz,t3,t8,hb3h,fieldAddr_ptr fA0 s3,p3,co0]
 repeat refine S.seq ?_
 refine S.cond (v:=decide ((k:Int) < c.hs)) (by first|rfl|(simp (disch:=first|omega|decide) only [rUz,↓reduceIte,Nat.reduceEqDiff,Nat.reduceAdd] <;> rfl)) (fun e=>?_) (fun e=>?_)
 rotate_left
 ·have hkn:k = c.held.length:=by have:=of_decide_eq_false e; omega
  refine S.exit (he _ _ _ _ (fun e=>by cases e) ?_)
  simp (disch:=first|omega|decide) only [rUz]
  repeat refine S.seq ?_
  refine S.region ?_
  simp (disch:=first|omega|decide) only [rUz,t7]
  refine S.ret ?_
  try simp only [seqK_ret,blockK_ret]
  subst hF
  simp only [finish,endMarks]
  rw [show Tryz.f32.results.toList = [.tmp 6] from rfl]
  simp (disch:=first|omega|decide) only [resA,ev_tmp,tget_ne,tget_eq,get_ne,get_eq,upd_eq,upd_ne,ag_eq,ag_ne,result1]
  have hfull:(heldL c a b day).take k = heldL c a b day:=List.take_of_length_le (by unfold heldL; rw [heldFrom_len]; omega)
  rw [hfull] at happ
  exact hK _ _ (hk1.trans hkp) ⟨_,_,hk1.1,happ⟩
 have hkn:k < c.held.length:=by have:=of_decide_eq_true e; omega
 clear e
 obtain ⟨bh,fh,rh,q1,q2,q3,q4⟩:=(hc1.mono hkp).held.idx slI s3' hkn
 have hhok:=hv.hok c.held[k] (List.getElem_mem hkn)
 have hhg:(heldL c a b day)[k]? = some (heldH c a b day (k:Int) c.held[k]):=by
  unfold heldL
  rw [heldFrom_get,List.getElem?_eq_getElem hkn,Nat.zero_add]; rfl
 generalize c.held[k] = sh at q4 hhok hhg
 obtain ⟨hh,hhe⟩:∃ x:Int,x = (k:Int):=⟨_,rfl⟩
 have hub0:=units_bnd hv.sok hv.sl (a:=-1) (b:=day) hhok.1 hhok.2
 repeat refine S.seq ?_
 refine S.skip ?_
 simp (disch:=first|omega|decide) only [rUz]
 repeat refine S.seq ?_
 refine S.block ?_
 repeat refine S.seq ?_
 refine S.drawnL [(false,0),(false,0),(false,2),(false,0),(false,14),(false,30),(false,0),(true,127),(false,255)] (by kernel_rfl) (by kernel_rfl) (by kernel_rfl) ?_
 simp (disch:=first|omega|decide) only [rUz,rDz,infoL,Nat.reduceSub,t2,t3,t8,hb3h,part_0 pA (coV_len c.hs v),fieldAddr_ptr fA1 lI,qI,co1,p3,q1,q3,q4]
 refine drW_brings (fid:=41) (first:=#[]) (captured:=#[]) (Post:=fun u _=>u = iv (unitsR c.sp sh (-1) day)) rfl (hoff _ _ _ rfl) (by simp (disch:=first|omega|decide) only [rUz]; exact runits_y S _ v c (hc1.mono hkp) hv.sl hv.sok sh (-1) day hhok.1 hhok.2 (by omega) (by omega) hd1) (Nat.le_of_ble_eq_true rfl) ?_
 rintro u g hkg rfl
 refine ⟨?_,?_⟩
 ·try simp (disch:=first|decide|rfl) only [again_nil,again_skip,again_free]
 simp (disch:=first|omega|decide) only [rUz,rDz,infoL,Nat.reduceSub]
 repeat refine S.seq ?_
 refine S.region ?_
 simp (disch:=first|omega|decide) only [rUz]
 repeat refine S.seq ?_
 refine S.block ?_
 have hkpg:=hkp.trans hkg
 have happg:=happ.mono hkg
 have hlog:H.nx ≤ g.nx:=hkpg.1
 rw [← hhe] at hhg
 refine S.loop (ι:=Nat) (IHy c a b day hh sh B3 B4 t7v g) (fun j=>c.tr.length - j) ?_ 0 _ _ ?_
 rotate_left
 ·refine ⟨_,Kp.refl,?_,?_,?_,?_,?_,?_,?_,Nat.zero_le _,by rw [List.drop_zero,List.drop_zero,List.drop_zero]; rfl,by omega⟩
  ·simp (disch:=first|omega|decide) only [rUz,t2]
  ·simp (disch:=first|omega|decide) only [rUz,t3]
  ·simp (disch:=first|omega|decide) only [rUz,t4]
  ·simp (disch:=first|omega|decide) only [rUz,t7]
  ·rw [hhe]; simp (disch:=first|omega|decide) only [rUz,t8]
  ·simp (disch:=first|omega|decide) only [rUz]
  ·simp (disch:=first|omega|decide) only [rUz,Int.natCast_zero]
 clear t2 t3 t4 t7 t8 q1 q2 q3 q4 hb3h hlo hkg hub0
 clear t
 clear hkp happ
 clear h
 intro j t h ⟨n,hkp,t2,t3,t4,t7,t8,t9,t10,hj,hval,hbn⟩ K2 hn2 he2
 have hkH:=hkpg.trans hkp
 have hb3h:=(hkH.get hn3).trans hb3
 have l2:=fun t h1 o=>row_len (hc1.mono hkH).tr isrT t h1 o
 repeat refine S.seq ?_
 refine S.region ?_
 simp (disch:=first|omega|decide) only [rUz,t3,t10,hb3h,fieldAddr_ptr fA2 lrT,qrT,co2,l2]
 repeat refine S.seq ?_
 refine S.cond (v:=decide ((j:Int) < (c.tr.length:Int))) (by first|rfl|(simp (disch:=first|omega|decide) only [rUz,↓reduceIte,Nat.reduceEqDiff,Nat.reduceAdd] <;> rfl)) (fun e=>?_) (fun e=>?_)
 rotate_left
 ·have hjn:j = c.tr.length:=by have:=of_decide_eq_false e; omega
  subst hjn
  rw [List.drop_of_length_le (Nat.le_refl _),heldG_nil] at hval
  refine S.exit (he2 _ _ _ _ (fun e=>by cases e) ?_)
  simp (disch:=first|omega|decide) only [rUz]
  repeat refine S.seq ?_
  refine S.region ?_
  simp (disch:=first|omega|decide) only [rUz,t7,t9,w_buildSlice,w_append]
  refine wr_lit1 slI s3' z3 rfl (by omega) (u:=iv n) (l:=[iv n]) (by simp (disch:=first|omega|decide) only [rUz]) rfl rfl ?_
  simp (disch:=first|omega|decide) only [rUz,w_append]
  refine wr_append slI uI (v:=t7v) (bx:=h.nx) (cx:=1) (by simp (disch:=first|omega|decide) only [rUz]) (by simp (disch:=first|omega|decide) only [rUz]) ((happg.mono hkp).mono Kp.refl.add) (by have:=hkH.1; show H.nx ≤ h.nx + 1; omega) s3' rfl (by omega) (ag_eq rfl) nI (by rw [List.length_map,List.length_take]; show _ < 1000000; omega) ?_
  intro v3 h3 F3 a1 a2 a3 a4 a5
  simp (disch:=first|omega|decide) only [rUz]
  repeat refine S.seq ?_
  refine S.region ?_
  simp (disch:=first|omega|decide) only [rUz,t8]
  refine hn (k + 1) _ _ (by omega) ⟨v3,F3,a2.kp (Nat.le_refl _) hkH.add,?_,?_,?_,?_,?_,?_,by omega,?_⟩
  ·have:=a2.1; have:=hkH.1; simp only [add_nx] at *; omega
  ·simp (disch:=first|omega|decide) only [rUz,t2]
  ·simp (disch:=first|omega|decide) only [rUz,t3]
  ·simp (disch:=first|omega|decide) only [rUz,t4]
  ·simp (disch:=first|omega|decide) only [rUz]
  ·subst hhe; simp (disch:=first|omega|decide) only [rUz]
  ·rw [List.take_add_one,hhg,hval,List.map_append]
   exact a1
 have hjn:j < c.tr.length:=by have:=of_decide_eq_true e; omega
 clear e
 have hja:j < a.length:=by omega
 have hjb:j < b.length:=by omega
 have hps:c.tr[j]? = some c.tr[j]:=List.getElem?_eq_getElem hjn
 have hdb:=datG_get hdat hps (List.getElem?_eq_getElem hja) (List.getElem?_eq_getElem hjb)
 have htk:=Tok.of (hv.tok c.tr[j] (List.getElem_mem hjn))
 have hdf:=dat_facts htk hdb
 rw [List.drop_eq_getElem_cons hjn,List.drop_eq_getElem_cons hja,List.drop_eq_getElem_cons hjb,heldG] at hval
 obtain ⟨b',f,ro,cells,q1,q2,q3,q4,q5,_⟩:=row_idx (hc1.mono hkH).tr slrT srT hps
 generalize c.tr[j] = x at hps hval q4 htk
 have qp:=part_at prT q4 q5
 clear hdb
 repeat refine S.seq ?_
 refine S.skip ?_
 simp (disch:=first|omega|decide) only [rUz]
 repeat refine S.seq ?_
 refine S.block ?_
 repeat refine S.seq ?_
 refine S.region ?_
 simp (disch:=first|omega|decide) only [rUz,t3,t10,fieldAddr_ptr fA2 lrT,qrT,co2,hb3h,q1,q3,qp,wr_alloc zrT]
 refine wr_storeN (B:=h.nx) (c:=[iv 0,iv 0,iv 0,iv 0,iv 0,iv 0,iv 0]) (fam:=h.nx) (k:=h.nx) (l:=c7 x) (by simp (disch:=first|omega|decide) only [rUz]) (by simp (disch:=first|omega|decide) only [rUz]) srT (by omega) rfl (ag_eq rfl) (af_eq rfl) rfl ?_
 have hk4:Kp g ((h.add [iv 0,iv 0,iv 0,iv 0,iv 0,iv 0,iv 0]).upd h.nx (c7 x) h.nx):=hkp.add.upd hkp.1
 have hg4:((h.add [iv 0,iv 0,iv 0,iv 0,iv 0,iv 0,iv 0]).upd h.nx (c7 x) h.nx).bl.get h.nx = some (.cells (c7 x) h.nx false):=upd_eq _ _ _
 have hn5:h.nx < ((h.add [iv 0,iv 0,iv 0,iv 0,iv 0,iv 0,iv 0]).upd h.nx (c7 x) h.nx).nx:=Nat.lt_succ_self _
 simp (disch:=first|omega|decide) only [rUz]
 generalize (h.add [iv 0,iv 0,iv 0,iv 0,iv 0,iv 0,iv 0]).upd h.nx (c7 x) h.nx = h4 at hk4 hg4 hn5 ⊢
 generalize h.nx = B5 at hg4 hn5 ⊢
 clear q1 q2 q3 q4 q5 qp l2 hb3h hkH hkp
 clear h
 have hk4H:=hkpg.trans hk4
 have hb3h:=(hk4H.get hn3).trans hb3
 have hb4h:=(hk4H.get hn4).trans hb4
 obtain ⟨bb,fb,rb,d1,d2,d3,d4⟩:=(hb1.mono hk4H).idx slI s3' hjb
 generalize b[j] = d at hval d4 hdf
 obtain ⟨s,hsa⟩:∃ s,s = a[j]:=⟨_,rfl⟩
 rw [← hsa] at hval hdf
 have hsa:=hsa.symm
 repeat refine S.seq ?_
 refine S.drawnL [(false,0),(false,0),(false,2),(false,0),(false,14),(false,30),(true,63),(false,127)] (by kernel_rfl) (by kernel_rfl) (by kernel_rfl) ?_
 simp (disch:=first|omega|decide) only [rUz,rDz,infoL,Nat.reduceSub,t3,t4,t10,hb3h,hb4h,part_0 pA (coV_len c.hs v),fieldAddr_ptr frU1 lI,qI,p3,d1,d3,d4]
 refine drW_brings (fid:=20) (first:=#[]) (captured:=#[]) (Post:=fun u _=>u = iv (regP c.cl d)) rfl (hoff _ _ _ rfl) (by simp (disch:=first|omega|decide) only [rUz]; exact rreg_y S hoff _ v c (hc1.mono hk4H) hcl d (by omega) (by omega)) (Nat.le_of_ble_eq_true rfl) ?_
 rintro u g2 hkg2 rfl
 refine ⟨?_,?_⟩
 ·try simp (disch:=first|decide|rfl) only [again_nil,again_skip,again_free]
 simp (disch:=first|omega|decide) only [rUz,rDz,infoL,Nat.reduceSub]
 have hk5:=hk4.trans hkg2
 have hg5:=(hkg2.get hn5).trans hg4
 have hn6:B5 < g2.nx:=Nat.lt_of_lt_of_le hn5 hkg2.1
 repeat refine S.seq ?_
 refine S.region ?_
 simp (disch:=first|omega|decide) only [rUz,t2]
 refine wr_brings (fid:=19) (first:=#[]) (captured:=#[]) (Post:=fun u h'=>u = .bool (inB (regP c.cl d) 0 day) ∧ h' = g2) rfl (hoff _ _ _ rfl) (by simp (disch:=first|omega|decide) only [rUz]; exact in_y S _ _ _ _) ?_
 rintro u g3 - ⟨rfl,rfl⟩
 simp (disch:=first|omega|decide) only [rUz,un_not]
 unfold addT at hval
 cases hin:inB (regP c.cl d) 0 day with
 | false =>
  rw [hin,cond_false] at hval
  repeat refine S.seq ?_
  refine S.cond (v:=true) (by first|rfl|(simp (disch:=first|omega|decide) only [rUz,↓reduceIte,Nat.reduceEqDiff,Nat.reduceAdd,hin,Bool.not_false] <;> rfl)) (fun _=>?_) (fun e=>by cases e)
  refine S.exit ?_
  simp (disch:=first|omega|decide) only [rUz]
  repeat refine S.seq ?_
  refine S.region ?_
  simp (disch:=first|omega|decide) only [rUz,t10]
  refine hn2 (j + 1) _ _ (by omega) ⟨n,hk5,?_,?_,?_,?_,?_,?_,?_,by omega,hval,by omega⟩
  all_goals (first|rfl|(simp (disch:=first|omega|decide) only [rUz,t2,t3,t4,t7,t8,t9,t10]; done)|(simp (disch:=first|omega|decide) only [rUz,t2,t3,t4,t7,t8,t9,t10]; rfl))
 | true =>
 rw [hin,cond_true] at hval
 repeat refine S.seq ?_
 refine S.cond (v:=false) (by first|rfl|(simp (disch:=first|omega|decide) only [rUz,↓reduceIte,Nat.reduceEqDiff,Nat.reduceAdd,hin,Bool.not_true] <;> rfl)) (fun e=>by cases e) (fun _=>?_)
 repeat refine S.seq ?_
 refine S.skip ?_
 simp (disch:=first|omega|decide) only [rUz]
 clear d1 d2 d3 d4 hb3h hb4h hk4 hkg2 hg4 hn5 hk4H
 clear h4
 repeat refine S.seq ?_
 refine S.region ?_
 simp (disch:=first|omega|decide) only [rUz,t8,fieldAddr_ptr frT1 s3,p3,hg5,c71]
 have hub1:=units_bnd hv.sok hv.sl (sh:=x.sh) (a:=s) (b:=day) (by have:=htk.n0; omega) htk.n1
 obtain ⟨U,hU⟩:∃ U,U = unitsR c.sp x.sh s day:=⟨_,rfl⟩
 rw [← hU] at hval hub1
 obtain ⟨n1,hn1⟩:∃ m,m = n + (if x.bu = hh then U else 0):=⟨_,rfl⟩
 have hn1b : -2592000 * (1 + (j:Int)) ≤ n1 ∧ n1 ≤ 2592000 * (1 + (j:Int)) + 2592000:=by
  rw [hn1]; by_cases hx:x.bu = hh
  ·rw [if_pos hx]; omega
  ·rw [if_neg hx]; omega
 rw [← hn1] at hval
 obtain ⟨n2,hn2e⟩:∃ m,m = n1 - (if x.se = hh then U else 0):=⟨_,rfl⟩
 have hn2b : -2592000 * (1 + ((j + 1:Nat):Int)) ≤ n2 ∧ n2 ≤ 2592000 * (1 + ((j + 1:Nat):Int)):=by
  have hne:=htk.ne
  rw [hn2e,hn1]
  by_cases hx:x.se = hh
  ·rw [if_pos hx]
   by_cases hy:x.bu = hh
   ·rw [if_pos hy]; omega
   ·rw [if_neg hy]; omega
  ·rw [if_neg hx]
   by_cases hy:x.bu = hh
   ·rw [if_pos hy]; omega
   ·rw [if_neg hy]; omega
 rw [← hn2e] at hval
 have hj3:(j:Int) ≤ 4:=by omega
 repeat refine S.seq ?_
 generalize hJJ:seqK _ _ _ _ _ = KJ
 suffices hJ:∀ t h,Kp g h → h.bl.get B5 = some (.cells (c7 x) B5 false) → B5 < h.nx → tget t 2 = iv day → tget t 3 = ptr0 B3 → tget t 4 = ptr0 B4 → tget t 7 = t7v → tget t 8 = iv hh → tget t 9 = iv n1 → tget t 10 = iv (j:Int) → tget t 11 = ptr0 B5 → KJ .normal t h [] = true by
  clear hJJ hn hn2 he he2 hK
  by_cases hx:x.bu = hh
  ·rw [if_pos hx] at hn1
   repeat refine S.seq ?_
   refine S.cond (v:=true) (by first|rfl|(simp (disch:=first|omega|decide) only [rUz,↓reduceIte,Nat.reduceEqDiff,Nat.reduceAdd,decide_eq_true hx] <;> rfl)) (fun _=>?_) (fun e=>by cases e)
   have hb3h:=((hkpg.trans hk5).get hn3).trans hb3
   have hb4h:=((hkpg.trans hk5).get hn4).trans hb4
   obtain ⟨bb,fb,rb,d1,d2,d3,d4⟩:=(ha1.mono (hkpg.trans hk5)).idx slI s3' hja
   rw [hsa] at d4
   repeat refine S.seq ?_
   refine S.drawnL [(false,0),(false,0),(false,0),(false,4),(false,0),(false,16),(false,0),(false,112),(false,240),(false,0),(true,1022),(false,2047),(false,4095)] (by kernel_rfl) (by kernel_rfl) (by kernel_rfl) ?_
   simp (disch:=first|omega|decide) only [rUz,rDz,infoL,Nat.reduceSub,t2,t3,t4,t9,t10,hb3h,hb4h,hg5,part_0 pA (coV_len c.hs v),fieldAddr_ptr frT2 s3,fieldAddr_ptr frU0 lI,qI,p3,c72,d1,d3,d4]
   refine drW_brings (fid:=41) (first:=#[]) (captured:=#[]) (Post:=fun u _=>u = iv U) rfl (hoff _ _ _ rfl) (by simp (disch:=first|omega|decide) only [rUz]; exact (by rw [hU]; exact runits_y S _ v c (hc1.mono (hkpg.trans hk5)) hv.sl hv.sok x.sh s day (by have:=htk.n0; omega) htk.n1 (by omega) (by omega) hd1)) (Nat.le_of_ble_eq_true rfl) ?_
   rintro u gx hkx rfl
   refine ⟨?_,?_⟩
   ·try simp (disch:=first|decide|rfl) only [again_nil,again_skip,again_free]
   simp (disch:=first|omega|decide) only [rUz,rDz,infoL,Nat.reduceSub]
   refine hJ _ _ (hk5.trans hkx) ((hkx.get hn6).trans hg5) (Nat.lt_of_lt_of_le hn6 hkx.1) ?_ ?_ ?_ ?_ ?_ ?_ ?_ ?_
   all_goals (first|rfl|(simp (disch:=first|omega|decide) only [rUz,t2,t3,t4,t7,t8,t10,hn1]; done)|(simp (disch:=first|omega|decide) only [rUz,t2,t3,t4,t7,t8,t10,hn1]; rfl))
  ·rw [if_neg hx,Int.add_zero] at hn1
   repeat refine S.seq ?_
   refine S.cond (v:=false) (by first|rfl|(simp (disch:=first|omega|decide) only [rUz,↓reduceIte,Nat.reduceEqDiff,Nat.reduceAdd,decide_eq_false hx] <;> rfl)) (fun e=>by cases e) (fun _=>?_)
   refine S.skip ?_
   refine hJ _ _ hk5 hg5 hn6 ?_ ?_ ?_ ?_ ?_ ?_ ?_ ?_
   all_goals (first|rfl|(simp (disch:=first|omega|decide) only [rUz,t2,t3,t4,t7,t8,t9,t10,hn1]; done)|(simp (disch:=first|omega|decide) only [rUz,t2,t3,t4,t7,t8,t9,t10,hn1]; rfl))
 clear t2 t3 t4 t7 t8 t9 t10 hk5 hg5 hn6
 clear g3 t
 intro t h hk6 hg6 hn7 t2 t3 t4 t7 t8 t9 t10 t11
 subst hJJ
 simp only [seqK_normal]
 repeat refine S.seq ?_
 refine S.region ?_
 simp (disch:=first|omega|decide) only [rUz,t8,t11,fieldAddr_ptr frT0 s3,p3,hg6,c70]
 repeat refine S.seq ?_
 generalize hJJ:seqK _ _ _ _ _ = KJ
 suffices hJ:∀ t h,Kp g h → h.bl.get B5 = some (.cells (c7 x) B5 false) → B5 < h.nx → tget t 2 = iv day → tget t 3 = ptr0 B3 → tget t 4 = ptr0 B4 → tget t 7 = t7v → tget t 8 = iv hh → tget t 9 = iv n2 → tget t 10 = iv (j:Int) → tget t 11 = ptr0 B5 → KJ .normal t h [] = true by
  clear hJJ hn hn2 he he2 hK
  by_cases hx:x.se = hh
  ·rw [if_pos hx] at hn2e
   repeat refine S.seq ?_
   refine S.cond (v:=true) (by first|rfl|(simp (disch:=first|omega|decide) only [rUz,↓reduceIte,Nat.reduceEqDiff,Nat.reduceAdd,decide_eq_true hx] <;> rfl)) (fun _=>?_) (fun e=>by cases e)
   have hb3h:=((hkpg.trans hk6).get hn3).trans hb3
   have hb4h:=((hkpg.trans hk6).get hn4).trans hb4
   obtain ⟨bb,fb,rb,d1,d2,d3,d4⟩:=(ha1.mono (hkpg.trans hk6)).idx slI s3' hja
   rw [hsa] at d4
   repeat refine S.seq ?_
   refine S.drawnL [(false,0),(false,0),(false,0),(false,4),(false,0),(false,16),(false,0),(false,112),(false,240),(false,0),(true,1022),(false,2047),(false,4095)] (by kernel_rfl) (by kernel_rfl) (by kernel_rfl) ?_
   simp (disch:=first|omega|decide) only [rUz,rDz,infoL,Nat.reduceSub,t2,t3,t4,t9,t10,t11,hb3h,hb4h,hg6,part_0 pA (coV_len c.hs v),fieldAddr_ptr frT2 s3,fieldAddr_ptr frU0 lI,qI,p3,c72,d1,d3,d4]
   refine drW_brings (fid:=41) (first:=#[]) (captured:=#[]) (Post:=fun u _=>u = iv U) rfl (hoff _ _ _ rfl) (by simp (disch:=first|omega|decide) only [rUz]; exact (by rw [hU]; exact runits_y S _ v c (hc1.mono (hkpg.trans hk6)) hv.sl hv.sok x.sh s day (by have:=htk.n0; omega) htk.n1 (by omega) (by omega) hd1)) (Nat.le_of_ble_eq_true rfl) ?_
   rintro u gx hkx rfl
   refine ⟨?_,?_⟩
   ·try simp (disch:=first|decide|rfl) only [again_nil,again_skip,again_free]
   simp (disch:=first|omega|decide) only [rUz,rDz,infoL,Nat.reduceSub]
   refine hJ _ _ (hk6.trans hkx) ((hkx.get hn7).trans hg6) (Nat.lt_of_lt_of_le hn7 hkx.1) ?_ ?_ ?_ ?_ ?_ ?_ ?_ ?_
   all_goals (first|rfl|(simp (disch:=first|omega|decide) only [rUz,t2,t3,t4,t7,t8,t10,t11,hn2e]; done)|(simp (disch:=first|omega|decide) only [rUz,t2,t3,t4,t7,t8,t10,t11,hn2e]; rfl))
  ·rw [if_neg hx,Int.sub_zero] at hn2e
   repeat refine S.seq ?_
   refine S.cond (v:=false) (by first|rfl|(simp (disch:=first|omega|decide) only [rUz,↓reduceIte,Nat.reduceEqDiff,Nat.reduceAdd,decide_eq_false hx] <;> rfl)) (fun e=>by cases e) (fun _=>?_)
   refine S.skip ?_
   refine hJ _ _ hk6 hg6 hn7 ?_ ?_ ?_ ?_ ?_ ?_ ?_ ?_
   all_goals (first|rfl|(simp (disch:=first|omega|decide) only [rUz,t2,t3,t4,t7,t8,t9,t10,t11,hn2e]; done)|(simp (disch:=first|omega|decide) only [rUz,t2,t3,t4,t7,t8,t9,t10,t11,hn2e]; rfl))
 clear t2 t3 t4 t7 t8 t9 t10 t11 hk6 hg6 hn7
 clear h t
 intro t h hk6 hg6 _ t2 t3 t4 t7 t8 t9 t10 t11
 subst hJJ
 simp only [seqK_normal]
 repeat refine S.seq ?_
 refine S.region ?_
 simp (disch:=first|omega|decide) only [rUz,t10]
 refine hn2 (j + 1) _ _ (by omega) ⟨n2,hk6,?_,?_,?_,?_,?_,?_,?_,by omega,hval,hn2b⟩
 all_goals (first|rfl|(simp (disch:=first|omega|decide) only [rUz,t2,t3,t4,t7,t8,t9,t10]; done)|(simp (disch:=first|omega|decide) only [rUz,t2,t3,t4,t7,t8,t9,t10]; rfl))
theorem rheld_y (S:Ev.Steps Tryz.prog pr R) (hoff:Off pr) (h0:AHeap) (v:Vs) (c:Co) (hc:CoAt h0 v c) (hv:Val c) (ua ub:Value) (a b:List Int) (hua:IAt h0 ua a) (hub:IAt h0 ub b) (hda:datedB c a b = true) (day:Int) (_hd0:0 ≤ day) (hd1:day ≤ 11) :
  Brings Tryz.prog R 32 [.agg ⟨coV c.hs v⟩,.agg ⟨[ua,ub]⟩,iv day] h0 fun u h=>IAt h u (heldL c a b day):=by
 exact fun K hK=>rheldA_y S hoff h0 v c hc hv ua ub a b hua hub hda day _hd0 hd1 K fun u h k ⟨_,_,_,happ⟩=>hK u h k (SlAt.ints happ.at)
end Go.Proofs.Cp
