import Derived.Test.YtefjnhpghgahbaaGreatCt7
import Derived.Test.YtefjnhpghgahbaaGreatCd2
/- CouponPays: what is paid, the claims and the rights are as the document says. -/
namespace Go.Proofs.Cp
open Go Go.Ev Go.RowKit
set_option linter.unusedSimpArgs false

variable {pr:Prim} {R:ExT}
end Go.Proofs.Cp

/- CouponClosed: no closing of books changes a right. -/
namespace Go.Proofs.Cp
open Go Go.Ev Go.RowKit
set_option linter.unusedSimpArgs false

def begC (held:List Int):Co:=⟨(held.length:Int),held,[],[],[],[]⟩
def begB (held:List Int):Bool:=decide ((held.length:Int) ≤ 7) && decide (faultZ (begC held) = 0)
theorem wf_u8' {n:Int} (h:(Lit.int .u8 n).wf = true):0 ≤ n ∧ n ≤ 255:=by
 simp only [Lit.wf,Bool.and_eq_true,decide_eq_true_eq] at h; exact h
theorem thin_beg {held:List Int} (h7:(held.length:Int) ≤ 7):thinB (begC held) [] [] = true:=by
 unfold thinB
 show (decide ((held.length:Int) ≤ 7) && true) = true
 rw [decide_eq_true h7]; rfl
theorem bBg (hs:Int) (q:Option Addr) (n c:Nat):rBuild Tryz.prog 34 [(0,iv hs),(1,.slice q n c)] = some (.agg ⟨coV hs ⟨.slice q n c,nl,nl,nl,nl⟩⟩):=by kernel_rfl
theorem SlAt.sl {h:AHeap} {sz:Nat} {v:Value} {cs:List (List Value)} (k:SlAt h sz v cs):∃ q n c,v = .slice q n c:=by
 rcases k with ⟨_,rfl|rfl⟩|⟨b,w,f,cells,_,rfl,_⟩ <;> exact ⟨_,_,_,rfl⟩
theorem beg_at {h:AHeap} {hv:Value} {held:List Int} (hh:SlAt h 1 hv (held.map fun n=>[iv n])):CoAt h ⟨hv,nl,nl,nl,nl⟩ (begC held):=⟨SlAt.ints hh,.inl ⟨rfl,.inl rfl⟩,.inl ⟨rfl,.inl rfl⟩,.inl ⟨rfl,.inl rfl⟩,.inl ⟨rfl,.inl rfl⟩⟩
theorem beg_of {held:List Int} (h:begB held = true):1 ≤ held.length ∧ held.length ≤ 4 ∧ ∀ n,n ∈ held → 0 ≤ n ∧ n ≤ 100:=by
 unfold begB at h
 rw [Bool.and_eq_true,decide_eq_true_eq,decide_eq_true_eq] at h
 have hv:=Val.of_fault h.2
 have h1:=hv.h1
 have h4:=hv.h4
 exact ⟨by have:(1:Int) ≤ (held.length:Int):=h1; omega,by have:(held.length:Int) ≤ 4:=h4; omega,hv.hok⟩
theorem thin0 {c:Co} (h:faultZ c = 0) (hd:c.dv.length ≤ 7):thinB c [] [] = true:=by
 have hv:=Val.of_fault h
 have h1:=hv.h4
 have h2:=hv.held
 have h3:=hv.tl
 have h4:=hv.sl
 have h5:=hv.cll
 unfold thinB
 simp only [Bool.and_eq_true,decide_eq_true_eq,List.length_nil]
 omega
theorem many0 {c:Co} (h:faultZ c = 0):c.dv.length ≤ 3:=by
 unfold faultZ at h
 cases hm:manyZ c with
 | true=>rw [hm,cond_true] at h; omega
 | false =>
  unfold manyZ at hm
  simp only [Bool.or_eq_false_iff,decide_eq_false_iff_not] at hm
  omega
theorem asked_of {c:Co} {a b:List Int} (h:faultZ c = 0) (ht:truthB c a b = true):askedZ c a b = 0:=by
 unfold askedZ
 have hd:datedB c a b = true:=by
  have hx:=ht
  unfold truthB at hx
  rw [Bool.and_eq_true] at hx
  exact hx.1
 rw [if_pos h,hd,cond_true,ht,cond_true]
theorem tell_of {c:Co} {a b:List Int} (h:faultZ c = 0) (ht:truthB c a b = true) {i:Int} (h0:0 ≤ i) (h1:i < (c.dv.length:Int)):tellZ c a b i = 0:=by
 unfold tellZ
 rw [if_pos (asked_of h ht),inB_iff.2 ⟨h0,by omega⟩]; rfl

variable {pr:Prim} {R:ExT}
theorem begun_y (S:Ev.Steps Tryz.prog pr R) (hoff:Off pr) (h0:AHeap) (hv:Value) (held:List Int) (hh:SlAt h0 1 hv (held.map fun n=>[iv n])) :
  Brings Tryz.prog R 6 [hv] h0 fun u _=>u = .bool (begB held):=by
 refine brings_of (fn:=Tryz.f6) (c:=(Tryz.f6.body).getD .skip) (by kernel_rfl) rfl (by kernel_rfl) rfl (fun K hK=>?_)
 generalize hF:finish Tryz.prog Tryz.f6 K = KF
 simp only [Tryz.f6,Option.getD_some,argsT,setArgs,fV1_eq,T.setK_eq,id]
 have lh:∀ (t:T Value) (h1:AHeap) (o:Oper),rLen Tryz.prog t h1 o 22 hv = some (iv (held.length:Int)):=iv_len (SlAt.ints hh)
 obtain ⟨q,n,cp,rfl⟩:=SlAt.sl hh
 repeat refine S.seq ?_
 refine S.region ?_
 simp (disch:=first|omega|decide) only [rUz]
 by_cases h7:(held.length:Int) ≤ 7
 rotate_left
 ·repeat refine S.seq ?_
  refine S.region ?_
  simp (disch:=first|omega|decide) only [rUz,lh,decide_eq_false h7]
  refine S.ret ?_
  try simp only [seqK_ret,blockK_ret]
  subst hF
  simp only [finish,endMarks]
  rw [show Tryz.f6.results.toList = [.tmp 2] from rfl]
  simp (disch:=first|omega|decide) only [resA,ev_tmp,tget_ne,tget_eq,get_ne,get_eq,upd_eq,upd_ne,ag_eq,ag_ne,result1]
  refine hK _ _ Kp.refl ?_
  show Value.bool false = _
  unfold begB
  rw [decide_eq_false h7]; rfl
 ·repeat refine S.seq ?_
  refine S.region ?_
  simp (disch:=first|omega|decide) only [rUz,lh,decide_eq_true h7,rd_build,List.map_cons,List.map_nil,bBg]
  refine wr_brings (fid:=22) (first:=#[]) (captured:=#[]) (Post:=fun u _=>u = iv (faultZ (begC held))) rfl (hoff _ _ _ rfl) (by simp (disch:=first|omega|decide) only [rUz]; exact faultw_y S hoff _ ⟨.slice q n cp,nl,nl,nl,nl⟩ (begC held) (beg_at hh) (thin_beg h7)) ?_
  rintro u g hk rfl
  simp (disch:=first|omega|decide) only [rUz]
  refine S.ret ?_
  try simp only [seqK_ret,blockK_ret]
  subst hF
  simp only [finish,endMarks]
  rw [show Tryz.f6.results.toList = [.tmp 2] from rfl]
  simp (disch:=first|omega|decide) only [resA,ev_tmp,tget_ne,tget_eq,get_ne,get_eq,upd_eq,upd_ne,ag_eq,ag_ne,result1]
  refine hK _ _ hk ?_
  unfold begB
  rw [decide_eq_true h7]; rfl

end Go.Proofs.Cp
