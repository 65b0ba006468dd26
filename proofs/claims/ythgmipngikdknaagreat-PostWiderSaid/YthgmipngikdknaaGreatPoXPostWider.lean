import Derived.Test.YthgmipngikdknaaGreatPfA
import Derived.Test.YthgmipngikdknaaGreatPoT
import Derived.Test.YthgmipngikdknaaGreatPqU
/- PostWider: at every argument. No condition. -/
set_option maxRecDepth 100000
namespace Go.Proofs.YthgmipngikdknaaGreat.postWider
open Go Go.Ev Go.ChangeShapes Go.WideShapes Go.ChangeAt Go.RowKit Go.Proofs.Po

theorem argsRdN {H:Type} {P:Program} {h:AHeap} {k:Nat} {t0 t1 t2 t3:TypeId} {v0 v1 v2 v3:Value} {d0 d1 d2 d3:DataW H}:∀ {xs:List Value},ArgsRd P h k [t0,t1,t2,t3] [v0,v1,v2,v3] xs [d0,d1,d2,d3] →
  ∃ c0 c1 c2 c3,xs = [toV v0 c0,toV v1 c1,toV v2 c2,toV v3 c3] ∧ Rd P h k t0 c0 d0 ∧ Rd P h k t1 c1 d1 ∧ Rd P h k t2 c2 d2 ∧ Rd P h k t3 c3 d3
 | [_,_,_,_],⟨⟨c0,e0,k0⟩,⟨c1,e1,k1⟩,⟨c2,e2,k2⟩,⟨c3,e3,k3⟩,_⟩=>⟨c0,c1,c2,c3,by rw [e0,e1,e2,e3],k0,k1,k2,k3⟩
 | [],h=>h.elim
 | [_],⟨_,h⟩=>h.elim
 | [_,_],⟨_,_,h⟩=>h.elim
 | [_,_,_],⟨_,_,_,h⟩=>h.elim
 | _ :: _ :: _ :: _ :: _ :: _,⟨_,_,_,_,h⟩=>h.elim

theorem contract (H:Type) (enc:TypeId × Value → H) (W:World) (base:Nat) (args:Array Value) (ds gs:List (DataW H)) (bef:List MemPlace) (hsh:W.ShapedOpen Tryz.prog)
  (hval:∀ (j:Nat) (t:TypeId) (v:Value),Tryz.f7.params[j]? = some t → args[j]? = some v → Value.okWide Tryz.prog W .any base t v)
  (hW:DataW.Whole enc Tryz.prog Tryz.f7.params.toList Rows.postWiderSpec.vars false W args.toList ds gs bef) :
  Calls Tryz.prog 7 args W fun e W'=>∃ v,e = .returned v ∧ Rows.postWiderSpec.post enc Tryz.prog Tryz.f7 false true false false W args v W':=by
 have hW':=hW
 obtain ⟨p,q,hA0,hV,rfl,hfz,hnd⟩:=hW
 have hA:DataW.TrodAll enc Tryz.prog W 0 (fun _=>true) true Tryz.f7.params.toList args.toList ds p:=hA0
 rw [Tryz.params7] at hA hval
 have hA':=hA
 obtain ⟨v0,r0,d0,e0,p0,q0,ha0,rfl,hpq0,hT0,hA0_⟩:=trodAll_cons hA
 obtain ⟨v1,r1,d1,e1,p1,q1,ha1,rfl,hpq1,hT1,hA1_⟩:=trodAll_cons hA0_
 obtain ⟨v2,r2,d2,e2,p2,q2,ha2,rfl,hpq2,hT2,hA2_⟩:=trodAll_cons hA1_
 obtain ⟨v3,r3,d3,e3,p3,q3,ha3,rfl,hpq3,hT3,hA3_⟩:=trodAll_cons hA2_
 obtain ⟨rfl,rfl,rfl⟩:=trodAll_nil hA3_
 subst ha3 ha2 ha1
 obtain rfl:args = #[v0,v1,v2,v3]:=by apply Array.toList_inj.1; exact ha0
 obtain ⟨a0,rfl,_⟩:=okWide_struct Tryz.underlying24 (hval 0 24 v0 rfl rfl)
 obtain ⟨a1,l1,m1,rfl⟩:=okWide_slice Tryz.underlying50 (hval 1 50 v1 rfl rfl)
 obtain ⟨a2,rfl⟩:=okWide_int Tryz.underlying5 (hval 2 5 v2 rfl rfl)
 obtain ⟨a3,rfl⟩:=okWide_int Tryz.underlying5 (hval 3 5 v3 rfl rfl)
 obtain ⟨rfl,rfl⟩:=trodVars_none hV
 have hk:∀ t,t ∈ [24,50,5,5] → tC Tryz.prog 8 t = true:=fun t ht=>by
  simp only [List.mem_cons,List.not_mem_nil,or_false] at ht
  rcases ht with rfl|rfl|rfl|rfl
  ·kernel_rfl
  ·kernel_rfl
  ·kernel_rfl
  ·kernel_rfl
 refine (calls_args (k:=8) (tb:=[]) (fun p hp=>by cases hp) Tryz.func7 (c:=(Tryz.f7.body).getD .skip) rfl (by kernel_rfl) hA' hk (by kernel_rfl) (v:=.bool true) rfl ⟨globalsIn hsh,fun p hp=>by cases hp⟩ (fun h xs _ _ hR=>?_)).mono fun e W' ⟨he,hB⟩=>?_
 ·obtain ⟨cs0,cs1,cs2,cs3,rfl,hd0,hd1,hd2,hd3⟩:=argsRdN hR
  obtain ⟨v0,O0,z0,hb0⟩:=rd_post hd0
  obtain ⟨sv1,sl1,z1,hs1,_⟩:=rd_sales hd1
  obtain ⟨n2,z2,hn2⟩:=rd_intw Tryz.underlying5 hd2
  obtain ⟨n3,z3,hn3⟩:=rd_intw Tryz.underlying5 hd3
  subst z0 z1 z2 z3
  refine brings_body (fn:=Tryz.f7) (g:=7) (by kernel_rfl) rfl (by kernel_rfl) rfl (wider_law (steps_exA hmixT primR_sound) primR_tab h v0 O0 hb0 sv1 sl1 hs1 n2 hn2 n3 hn3) _ fun u g _ hu=>@decide_eq_true _ (Classical.propDecidable _) hu
 ·subst he
  refine ⟨_,rfl,post_below (pa:=p) (pv:=[]) hW' (fun _ _ _=>trodAll_cons_mk (shut_bool Tryz.underlying4 _) trodAll_mk0) (fun sp hsp=>?_) (fun _ _=>rfl) rfl hB (ok_one (by kernel_rfl) rfl (okWide_bool_mk Tryz.underlying4 _))⟩
  rw [Tryz.params7]
  have hlt:=hW'.lt
  rw [List.append_nil] at hsp hlt
  exact vS (k:=8) hB hA' hk hlt hsp

def arg0:Array Value:=#[.agg #[.slice none 0 0],.slice none 0 0,.int .u8 0,.int .u8 0]
theorem laid_met (os:Os):laidMet Tryz.prog Rows.postWiderRow.laid ((laidWorld os).forCall (fun _ _=>0) ⟨#[],arg0,[]⟩).memory:=
 laidMet_of_run' 80 (by kernel_rfl) (by kernel_rfl)
theorem reads (os:Os) {H:Type} (enc:TypeId × Value → H):∃ places,DataW.whole enc Tryz.prog ((laidWorld os).forCall (fun _ _=>0) ⟨#[],arg0,[]⟩).memory Tryz.f7.params.toList Rows.postWiderSpec.vars false arg0.toList 8 = some ([.agg [.nil],.nil,.lit (.int .u8 0),.lit (.int .u8 0)],[],places):=
 ⟨[],by kernel_rfl⟩

theorem lifted (os:Os) (started:os.Started) (H:Type) (enc:TypeId × Value → H) (F:Stop.Interp) :
  ReturnsInHanded {} Tryz.checked os 7 .any ((OpenSpec.ofChange Rows.postWiderSpec).preRow enc Tryz.prog Tryz.f7 Rows.postWiderRow.domain false Rows.postWiderRow.laid) (((OpenSpec.ofChange Rows.postWiderSpec).at F).post enc Tryz.prog Tryz.f7 false true false false):=by
 obtain ⟨places,hx⟩:=reads os enc
 refine returnsInHanded_of_row (C:=Tryz.checked) (s:=OpenSpec.ofChange Rows.postWiderSpec) own started (by kernel_rfl) Tryz.func7
  (witness_row_at (enc:=enc) (C:=Tryz.checked) false (laidWorld os) arg0 rfl (by kernel_rfl) (by kernel_rfl) (by kernel_rfl)
   (OpenSpec.preRow_of_cond 8 hx (by kernel_rfl) (fun k hk=>by cases hk) (by kernel_rfl) (laid_met os))) ?_
 intro W base args ds gs bef hval hW _ _ _ _ hsh _
 exact contract H enc W base args ds gs bef hsh hval hW

theorem closed:joinedFacts Tryz.pinned.checked.prog 7 Tryz.f7 (OpenSpec.ofChange Rows.postWiderSpec).bare Rows.postWiderRow = true:=by kernel_rfl

theorem said:Rows.PostWiderSaid:=
 OpenClaim.holds_of_cond 7 Tryz.f7 rfl rfl rfl rfl rfl rfl rfl ⟨rfl,rfl,rfl,rfl,rfl⟩ rfl rfl rfl rfl rfl (by kernel_rfl) Tryz.func7 closed
  (of_decide_eq_true (by kernel_rfl)) (by unfold Func.isWrapper; first|(rw [if_pos (by decide +kernel)]; kernel_rfl)|(rw [if_neg (by decide +kernel)]; exact ⟨rfl,rfl⟩))
  (fun os started H enc _ F=>by rw [OpenClaim.pre_eq_preRow]; exact lifted os started H enc F)
end Go.Proofs.YthgmipngikdknaaGreat.postWider

