import Derived.Test.YthgmipngikdknaaGreatPoG
import Derived.Test.YthgmipngikdknaaGreatPo2
import Derived.Test.YthgmipngikdknaaGreatEvD
import Derived.ChangeMaps5
import Derived.ChangeSame
import Derived.Shelf.LaysM
import Derived.Test.YthgmipngikdknaaGreatPrD
/- How the arguments lie in a heap. -/
set_option maxRecDepth 100000
namespace Go.Proofs.Po
open Go Go.Ev Go.ChangeShapes Go.WideShapes Go.ChangeAt Go.RowKit
set_option linter.unusedSimpArgs false

section
variable {H:Type} {P:Program} {h:AHeap} {k:Nat} {t:TypeId} {cs:List Value} {d:DataW H}
theorem rd_struct2 {f0 f1:Field} (hu:P.underlying t = some (.struct #[f0,f1])) (hd:Rd P h (k + 1) t cs d):∃ (c0 c1:List Value) (y0 y1:DataW H),cs = c0 ++ c1 ∧ Rd P h k f0.type c0 y0 ∧ Rd P h k f1.type c1 y1:=by
 unfold Rd at hd
 rw [hu] at hd
 obtain ⟨parts,css,rfl,rfl,h1,h2,h3⟩:=hd
 match css,parts,h1,h2 with
 | [c0,c1],[y0,y1],_,_=>exact ⟨c0,c1,y0,y1,by simp,(h3 0 f0 c0 y0 rfl rfl rfl).2,(h3 1 f1 c1 y1 rfl rfl rfl).2⟩
theorem rd_struct4 {f0 f1 f2 f3:Field} (hu:P.underlying t = some (.struct #[f0,f1,f2,f3])) (hd:Rd P h (k + 1) t cs d) :
  ∃ (c0 c1 c2 c3:List Value) (y0 y1 y2 y3:DataW H),cs = c0 ++ c1 ++ c2 ++ c3 ∧ Rd P h k f0.type c0 y0 ∧ Rd P h k f1.type c1 y1 ∧ Rd P h k f2.type c2 y2 ∧ Rd P h k f3.type c3 y3:=by
 unfold Rd at hd
 rw [hu] at hd
 obtain ⟨parts,css,rfl,rfl,h1,h2,h3⟩:=hd
 match css,parts,h1,h2 with
 | [c0,c1,c2,c3],[y0,y1,y2,y3],_,_=>exact ⟨c0,c1,c2,c3,y0,y1,y2,y3,by simp,(h3 0 f0 c0 y0 rfl rfl rfl).2,(h3 1 f1 c1 y1 rfl rfl rfl).2,(h3 2 f2 c2 y2 rfl rfl rfl).2,(h3 3 f3 c3 y3 rfl rfl rfl).2⟩
theorem rd_intw {q:IntKind} (hu:P.underlying t = some (.int q)) (hd:Rd P h (k + 1) t cs d):∃ n,cs = [.int q n] ∧ (Lit.int q n).wf = true:=by
 unfold Rd at hd
 rw [hu] at hd
 obtain ⟨n,_,hw,rfl⟩:=hd
 exact ⟨n,rfl,hw⟩
theorem tK {q:IntKind} (hu:P.underlying t = some (.int q)) (hd:Rd P h (k + 1) t cs d):∃ n,cs = [.int q n]:=by
 obtain ⟨n,e,_⟩:=rd_intw hu hd
 exact ⟨n,e⟩
theorem rows_of {α:Type} {cv:α → List Value}:∀ {l:List (List Value)},(∀ c,c ∈ l → ∃ p:α,c = cv p) → ∃ ps:List α,l = ps.map cv
 | [],_=>⟨[],rfl⟩
 | c :: l,k=>by
  obtain ⟨p,rfl⟩:=k c (by simp)
  obtain ⟨ps,rfl⟩:=rows_of (cv:=cv) (l:=l) fun c hc=>k c (by simp [hc])
  exact ⟨p :: ps,rfl⟩
theorem rd_rows {α:Type} {cv:α → List Value} {e:TypeId} {n:Nat} (hu:P.underlying t = some (.slice e)) (hn:P.cellsOf e = n) (hd:Rd P h (k + 1) t cs d) (hr:∀ c (y:DataW H),Rd P h k e c y → ∃ p,c = cv p):∃ (v:Value) (l:List α),cs = [v] ∧ SlAt h n v (l.map cv) ∧ l.length ≤ maxLen:=by
 obtain ⟨v,css,els,rfl,hs',hl,hr',hm,_⟩:=rd_slice_at hu hd
 rw [hn] at hs'
 obtain ⟨l,rfl⟩:=rows_of (cv:=cv) (l:=css) fun c hc=>by
  obtain ⟨i,hi⟩:=List.mem_iff_getElem?.1 hc
  have hlt:i < els.length:=by
   have:=(List.getElem?_eq_some_iff.1 hi).1
   omega
  exact hr c els[i] (hr' i c els[i] hi (List.getElem?_eq_getElem hlt))
 rw [List.length_map] at hm
 exact ⟨v,l,rfl,hs',hm⟩
end
theorem brings_body {P:Program} {R:ExT} {g:FuncId} {args:List Value} {h:AHeap} {Post:Value → AHeap → Prop} {fn:Func} {c:Code} (hf:P.funcs[g]? = some fn) (hb:fn.body = some c) (hname:(fn.name == "runtime.NumGoroutine") = false) (hlen:Nat.ble args.length fn.ntmps = true)
  (y:bD P R g args h Post) (K:KV) (hK:∀ v h',Kp h h' → Post v h' → K v h' = true):R fn.ntmps none c (bJ args) h [] (finish P fn K) = true:=by
 have:=y K hK
 unfold dU at this
 simp only [hf,hb] at this
 unfold iE at this
 rwa [hname,cond_false,hlen,cond_true,lN] at this
section
variable {H:Type} {h:AHeap} {k:Nat} {cs:List Value} {d:DataW H}
theorem rd_boolv {P:Program} {t:TypeId} (hu:P.underlying t = some .bool) (hd:Rd P h (k + 1) t cs d):∃ b,cs = [.bool b]:=by
 unfold Rd at hd
 rw [hu] at hd
 obtain ⟨b,_,rfl⟩:=hd
 exact ⟨b,rfl⟩
theorem rd_order (hd:Rd Tryz.prog h (k + 3) 47 cs d):∃ x:Od,cs = cOd x:=by
 obtain ⟨c0,c1,c2',c3,y0,y1,y2,y3,rfl,k0,k1,k2,k3⟩:=rd_struct4 Tryz.underlying47 hd
 obtain ⟨b,rfl⟩:=rd_boolv Tryz.underlying4 k0
 obtain ⟨l,rfl⟩:=tK Tryz.underlying3 k1
 obtain ⟨n,rfl⟩:=tK Tryz.underlying3 k2
 obtain ⟨e0,e1,z0,z1,rfl,m0,m1⟩:=rd_struct2 Tryz.underlying45 k3
 obtain ⟨lo,rfl⟩:=tK Tryz.underlying3 m0
 obtain ⟨hi,rfl⟩:=tK Tryz.underlying3 m1
 exact ⟨⟨b,l,n,lo,hi⟩,rfl⟩
theorem rd_post (hd:Rd Tryz.prog h 8 24 cs d):∃ (v:Value) (O:List Od),cs = poV v ∧ PoAt h v O:=by
 unfold Rd at hd
 rw [Tryz.underlying24] at hd
 obtain ⟨parts,css,rfl,rfl,h1,h2,h3⟩:=hd
 match css,parts,h1,h2 with
 | [c0],[y0],_,_ =>
  have k0:=(h3 0 _ c0 y0 rfl rfl rfl).2
  obtain ⟨v,O,rfl,ha,_⟩:=rd_rows (cv:=cOd) (n:=5) Tryz.underlying22 (by kernel_rfl) k0 fun c y hy=>rd_order hy
  exact ⟨v,O,rfl,ha⟩
theorem rd_sale (hd:Rd Tryz.prog h (k + 2) 79 cs d):∃ x:Sa,cs = cSa x:=by
 obtain ⟨c0,c1,c2',c3,y0,y1,y2,y3,rfl,k0,k1,k2,k3⟩:=rd_struct4 Tryz.underlying79 hd
 obtain ⟨a,rfl⟩:=tK Tryz.underlying3 k0
 obtain ⟨b,rfl⟩:=tK Tryz.underlying3 k1
 obtain ⟨c,rfl⟩:=tK Tryz.underlying3 k2
 obtain ⟨e,rfl⟩:=tK Tryz.underlying3 k3
 exact ⟨⟨a,b,c,e⟩,rfl⟩
theorem rd_sales (hd:Rd Tryz.prog h (k + 3) 50 cs d):∃ (v:Value) (l:List Sa),cs = [v] ∧ SlAt h 4 v (l.map cSa) ∧ l.length ≤ maxLen:=
 rd_rows (cv:=cSa) (n:=4) Tryz.underlying50 (by kernel_rfl) hd fun c y hy=>rd_sale hy
end
end Go.Proofs.Po

/- Words among the arguments. -/
namespace Go.Proofs.Po
open Go Go.Ev Go.ChangeShapes Go.WideShapes Go.ChangeAt Go.RowKit
set_option linter.unusedSimpArgs false
section
variable {H:Type} {h:AHeap} {k:Nat} {cs:List Value} {d:DataW H}
end
end Go.Proofs.Po
