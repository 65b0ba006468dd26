import Derived.Test.YtefjnhpghgahbaaGreatChecked
import Derived.Test.YtefjnhpghgahbaaGreatEvD
import Derived.IntWalk
/- The types of the layer coupon, and what lies of them in a heap. -/
namespace Go.Proofs.Cp
open Go Go.Ev
set_option linter.unusedSimpArgs false

theorem hmixT:Tryz.prog.follows .mixedOrders = true:=Tryz.checked.mixed
theorem s3:sizeB Tryz.prog 3 = some (0 + 1):=by kernel_rfl
theorem s3':sizeB Tryz.prog 3 = some 1:=by kernel_rfl
theorem p3 (c:List Value) (o:Nat):partL Tryz.prog 3 c o = c[o]?:=by kernel_rfl
theorem frR0:fieldOf Tryz.prog 25 0 = some (0,3):=by kernel_rfl
theorem frR1:fieldOf Tryz.prog 25 1 = some (1,3):=by kernel_rfl
theorem srR:sizeB Tryz.prog 25 = some 2:=by kernel_rfl
theorem SrR:sizeB Tryz.prog 25 = some (1 + 1):=by kernel_rfl
theorem zrR:zeroOf Tryz.prog 25 = some (.agg ⟨[iv 0,iv 0]⟩):=by kernel_rfl
theorem prR (c:List Value) (o:Nat):partL Tryz.prog 25 c o = bif Nat.ble (Nat.add o 2) c.length then some (.agg ⟨(c.drop o).take 2⟩) else none:=by kernel_rfl
theorem fcR0:fieldOf Tryz.prog 73 0 = some (0,3):=by kernel_rfl
theorem fcR1:fieldOf Tryz.prog 73 1 = some (1,3):=by kernel_rfl
theorem scR:sizeB Tryz.prog 73 = some 2:=by kernel_rfl
theorem ScR:sizeB Tryz.prog 73 = some (1 + 1):=by kernel_rfl
theorem zcR:zeroOf Tryz.prog 73 = some (.agg ⟨[iv 0,iv 0]⟩):=by kernel_rfl
theorem pcR (c:List Value) (o:Nat):partL Tryz.prog 73 c o = bif Nat.ble (Nat.add o 2) c.length then some (.agg ⟨(c.drop o).take 2⟩) else none:=by kernel_rfl
theorem frT0:fieldOf Tryz.prog 78 0 = some (0,3):=by kernel_rfl
theorem frT1:fieldOf Tryz.prog 78 1 = some (1,3):=by kernel_rfl
theorem frT2:fieldOf Tryz.prog 78 2 = some (2,3):=by kernel_rfl
theorem frT3:fieldOf Tryz.prog 78 3 = some (3,25):=by kernel_rfl
theorem frT4:fieldOf Tryz.prog 78 4 = some (5,25):=by kernel_rfl
theorem srT:sizeB Tryz.prog 78 = some 7:=by kernel_rfl
theorem zrT:zeroOf Tryz.prog 78 = some (.agg ⟨[iv 0,iv 0,iv 0,iv 0,iv 0,iv 0,iv 0]⟩):=by kernel_rfl
theorem prT (c:List Value) (o:Nat):partL Tryz.prog 78 c o = bif Nat.ble (Nat.add o 7) c.length then some (.agg ⟨(c.drop o).take 7⟩) else none:=by kernel_rfl
theorem fcT0:fieldOf Tryz.prog 88 0 = some (0,3):=by kernel_rfl
theorem fcT1:fieldOf Tryz.prog 88 1 = some (1,3):=by kernel_rfl
theorem fcT2:fieldOf Tryz.prog 88 2 = some (2,3):=by kernel_rfl
theorem fcT3:fieldOf Tryz.prog 88 3 = some (3,73):=by kernel_rfl
theorem fcT4:fieldOf Tryz.prog 88 4 = some (5,73):=by kernel_rfl
theorem scT:sizeB Tryz.prog 88 = some 7:=by kernel_rfl
theorem zcT:zeroOf Tryz.prog 88 = some (.agg ⟨[iv 0,iv 0,iv 0,iv 0,iv 0,iv 0,iv 0]⟩):=by kernel_rfl
theorem pcT (c:List Value) (o:Nat):partL Tryz.prog 88 c o = bif Nat.ble (Nat.add o 7) c.length then some (.agg ⟨(c.drop o).take 7⟩) else none:=by kernel_rfl
theorem frD0:fieldOf Tryz.prog 55 0 = some (0,3):=by kernel_rfl
theorem frD1:fieldOf Tryz.prog 55 1 = some (1,3):=by kernel_rfl
theorem frD2:fieldOf Tryz.prog 55 2 = some (2,3):=by kernel_rfl
theorem srD:sizeB Tryz.prog 55 = some 3:=by kernel_rfl
theorem zrD:zeroOf Tryz.prog 55 = some (.agg ⟨[iv 0,iv 0,iv 0]⟩):=by kernel_rfl
theorem prD (c:List Value) (o:Nat):partL Tryz.prog 55 c o = bif Nat.ble (Nat.add o 3) c.length then some (.agg ⟨(c.drop o).take 3⟩) else none:=by kernel_rfl
theorem fcD0:fieldOf Tryz.prog 89 0 = some (0,3):=by kernel_rfl
theorem fcD1:fieldOf Tryz.prog 89 1 = some (1,3):=by kernel_rfl
theorem fcD2:fieldOf Tryz.prog 89 2 = some (2,3):=by kernel_rfl
theorem scD:sizeB Tryz.prog 89 = some 3:=by kernel_rfl
theorem zcD:zeroOf Tryz.prog 89 = some (.agg ⟨[iv 0,iv 0,iv 0]⟩):=by kernel_rfl
theorem pcD (c:List Value) (o:Nat):partL Tryz.prog 89 c o = bif Nat.ble (Nat.add o 3) c.length then some (.agg ⟨(c.drop o).take 3⟩) else none:=by kernel_rfl
theorem frS0:fieldOf Tryz.prog 61 0 = some (0,3):=by kernel_rfl
theorem frS1:fieldOf Tryz.prog 61 1 = some (1,3):=by kernel_rfl
theorem frS2:fieldOf Tryz.prog 61 2 = some (2,3):=by kernel_rfl
theorem srS:sizeB Tryz.prog 61 = some 3:=by kernel_rfl
theorem zrS:zeroOf Tryz.prog 61 = some (.agg ⟨[iv 0,iv 0,iv 0]⟩):=by kernel_rfl
theorem prS (c:List Value) (o:Nat):partL Tryz.prog 61 c o = bif Nat.ble (Nat.add o 3) c.length then some (.agg ⟨(c.drop o).take 3⟩) else none:=by kernel_rfl
theorem fcS0:fieldOf Tryz.prog 90 0 = some (0,3):=by kernel_rfl
theorem fcS1:fieldOf Tryz.prog 90 1 = some (1,3):=by kernel_rfl
theorem fcS2:fieldOf Tryz.prog 90 2 = some (2,3):=by kernel_rfl
theorem scS:sizeB Tryz.prog 90 = some 3:=by kernel_rfl
theorem zcS:zeroOf Tryz.prog 90 = some (.agg ⟨[iv 0,iv 0,iv 0]⟩):=by kernel_rfl
theorem pcS (c:List Value) (o:Nat):partL Tryz.prog 90 c o = bif Nat.ble (Nat.add o 3) c.length then some (.agg ⟨(c.drop o).take 3⟩) else none:=by kernel_rfl
theorem fA0:fieldOf Tryz.prog 34 0 = some (0,3):=by kernel_rfl
theorem fA1:fieldOf Tryz.prog 34 1 = some (1,22):=by kernel_rfl
theorem fA2:fieldOf Tryz.prog 34 2 = some (2,29):=by kernel_rfl
theorem fA3:fieldOf Tryz.prog 34 3 = some (3,30):=by kernel_rfl
theorem fA4:fieldOf Tryz.prog 34 4 = some (4,31):=by kernel_rfl
theorem fA5:fieldOf Tryz.prog 34 5 = some (5,32):=by kernel_rfl
theorem sA:sizeB Tryz.prog 34 = some 6:=by kernel_rfl
theorem zA:zeroOf Tryz.prog 34 = some (.agg ⟨[iv 0,.slice none 0 0,.slice none 0 0,.slice none 0 0,.slice none 0 0,.slice none 0 0]⟩):=by kernel_rfl
theorem pA (c:List Value) (o:Nat):partL Tryz.prog 34 c o = bif Nat.ble (Nat.add o 6) c.length then some (.agg ⟨(c.drop o).take 6⟩) else none:=by kernel_rfl
theorem fB0:fieldOf Tryz.prog 48 0 = some (0,3):=by kernel_rfl
theorem fB1:fieldOf Tryz.prog 48 1 = some (1,22):=by kernel_rfl
theorem fB2:fieldOf Tryz.prog 48 2 = some (2,43):=by kernel_rfl
theorem fB3:fieldOf Tryz.prog 48 3 = some (3,44):=by kernel_rfl
theorem fB4:fieldOf Tryz.prog 48 4 = some (4,45):=by kernel_rfl
theorem fB5:fieldOf Tryz.prog 48 5 = some (5,46):=by kernel_rfl
theorem sB:sizeB Tryz.prog 48 = some 6:=by kernel_rfl
theorem SB:sizeB Tryz.prog 48 = some (5 + 1):=by kernel_rfl
theorem zB:zeroOf Tryz.prog 48 = some (.agg ⟨[iv 0,.slice none 0 0,.slice none 0 0,.slice none 0 0,.slice none 0 0,.slice none 0 0]⟩):=by kernel_rfl
theorem pB (c:List Value) (o:Nat):partL Tryz.prog 48 c o = bif Nat.ble (Nat.add o 6) c.length then some (.agg ⟨(c.drop o).take 6⟩) else none:=by kernel_rfl
theorem frU0:fieldOf Tryz.prog 36 0 = some (0,22):=by kernel_rfl
theorem frU1:fieldOf Tryz.prog 36 1 = some (1,22):=by kernel_rfl
theorem srU:sizeB Tryz.prog 36 = some 2:=by kernel_rfl
theorem zrU:zeroOf Tryz.prog 36 = some (.agg ⟨[.slice none 0 0,.slice none 0 0]⟩):=by kernel_rfl
theorem prU (c:List Value) (o:Nat):partL Tryz.prog 36 c o = bif Nat.ble (Nat.add o 2) c.length then some (.agg ⟨(c.drop o).take 2⟩) else none:=by kernel_rfl
theorem fcU0:fieldOf Tryz.prog 50 0 = some (0,22):=by kernel_rfl
theorem fcU1:fieldOf Tryz.prog 50 1 = some (1,22):=by kernel_rfl
theorem scU:sizeB Tryz.prog 50 = some 2:=by kernel_rfl
theorem zcU:zeroOf Tryz.prog 50 = some (.agg ⟨[.slice none 0 0,.slice none 0 0]⟩):=by kernel_rfl
theorem pcU (c:List Value) (o:Nat):partL Tryz.prog 50 c o = bif Nat.ble (Nat.add o 2) c.length then some (.agg ⟨(c.drop o).take 2⟩) else none:=by kernel_rfl
theorem isI:isSlTy Tryz.prog 22 = true:=by kernel_rfl
theorem slI:slOf Tryz.prog 22 = some 3:=by kernel_rfl
theorem uI:Tryz.prog.underlying 22 = some (.slice 3):=by kernel_rfl
theorem nI:numOk Tryz.prog 3 1 = true:=by kernel_rfl
theorem lI:sizeB Tryz.prog 22 = some (0 + 1):=by kernel_rfl
theorem qI (c:List Value) (o:Nat):partL Tryz.prog 22 c o = c[o]?:=by kernel_rfl
theorem isrT:isSlTy Tryz.prog 29 = true:=by kernel_rfl
theorem slrT:slOf Tryz.prog 29 = some 78:=by kernel_rfl
theorem urT:Tryz.prog.underlying 29 = some (.slice 78):=by kernel_rfl
theorem nrT:numOk Tryz.prog 78 1 = true:=by kernel_rfl
theorem lrT:sizeB Tryz.prog 29 = some (0 + 1):=by kernel_rfl
theorem qrT (c:List Value) (o:Nat):partL Tryz.prog 29 c o = c[o]?:=by kernel_rfl
theorem isrD:isSlTy Tryz.prog 30 = true:=by kernel_rfl
theorem slrD:slOf Tryz.prog 30 = some 55:=by kernel_rfl
theorem urD:Tryz.prog.underlying 30 = some (.slice 55):=by kernel_rfl
theorem nrD:numOk Tryz.prog 55 1 = true:=by kernel_rfl
theorem lrD:sizeB Tryz.prog 30 = some (0 + 1):=by kernel_rfl
theorem lrD':sizeB Tryz.prog 30 = some 1:=by kernel_rfl
theorem qrD (c:List Value) (o:Nat):partL Tryz.prog 30 c o = c[o]?:=by kernel_rfl
theorem isrS:isSlTy Tryz.prog 31 = true:=by kernel_rfl
theorem slrS:slOf Tryz.prog 31 = some 61:=by kernel_rfl
theorem urS:Tryz.prog.underlying 31 = some (.slice 61):=by kernel_rfl
theorem nrS:numOk Tryz.prog 61 1 = true:=by kernel_rfl
theorem lrS:sizeB Tryz.prog 31 = some (0 + 1):=by kernel_rfl
theorem lrS':sizeB Tryz.prog 31 = some 1:=by kernel_rfl
theorem qrS (c:List Value) (o:Nat):partL Tryz.prog 31 c o = c[o]?:=by kernel_rfl
theorem isrR:isSlTy Tryz.prog 32 = true:=by kernel_rfl
theorem slrR:slOf Tryz.prog 32 = some 25:=by kernel_rfl
theorem urR:Tryz.prog.underlying 32 = some (.slice 25):=by kernel_rfl
theorem nrR:numOk Tryz.prog 25 1 = true:=by kernel_rfl
theorem lrR:sizeB Tryz.prog 32 = some (0 + 1):=by kernel_rfl
theorem lrR':sizeB Tryz.prog 32 = some 1:=by kernel_rfl
theorem qrR (c:List Value) (o:Nat):partL Tryz.prog 32 c o = c[o]?:=by kernel_rfl
theorem iscT:isSlTy Tryz.prog 43 = true:=by kernel_rfl
theorem slcT:slOf Tryz.prog 43 = some 88:=by kernel_rfl
theorem ucT:Tryz.prog.underlying 43 = some (.slice 88):=by kernel_rfl
theorem ncT:numOk Tryz.prog 88 1 = true:=by kernel_rfl
theorem lcT:sizeB Tryz.prog 43 = some (0 + 1):=by kernel_rfl
theorem lcT':sizeB Tryz.prog 43 = some 1:=by kernel_rfl
theorem qcT (c:List Value) (o:Nat):partL Tryz.prog 43 c o = c[o]?:=by kernel_rfl
theorem iscD:isSlTy Tryz.prog 44 = true:=by kernel_rfl
theorem slcD:slOf Tryz.prog 44 = some 89:=by kernel_rfl
theorem ucD:Tryz.prog.underlying 44 = some (.slice 89):=by kernel_rfl
theorem ncD:numOk Tryz.prog 89 1 = true:=by kernel_rfl
theorem lcD:sizeB Tryz.prog 44 = some (0 + 1):=by kernel_rfl
theorem lcD':sizeB Tryz.prog 44 = some 1:=by kernel_rfl
theorem qcD (c:List Value) (o:Nat):partL Tryz.prog 44 c o = c[o]?:=by kernel_rfl
theorem iscS:isSlTy Tryz.prog 45 = true:=by kernel_rfl
theorem slcS:slOf Tryz.prog 45 = some 90:=by kernel_rfl
theorem ucS:Tryz.prog.underlying 45 = some (.slice 90):=by kernel_rfl
theorem ncS:numOk Tryz.prog 90 1 = true:=by kernel_rfl
theorem lcS:sizeB Tryz.prog 45 = some (0 + 1):=by kernel_rfl
theorem lcS':sizeB Tryz.prog 45 = some 1:=by kernel_rfl
theorem qcS (c:List Value) (o:Nat):partL Tryz.prog 45 c o = c[o]?:=by kernel_rfl
theorem iscR:isSlTy Tryz.prog 46 = true:=by kernel_rfl
theorem slcR:slOf Tryz.prog 46 = some 73:=by kernel_rfl
theorem ucR:Tryz.prog.underlying 46 = some (.slice 73):=by kernel_rfl
theorem ncR:numOk Tryz.prog 73 1 = true:=by kernel_rfl
theorem lcR:sizeB Tryz.prog 46 = some (0 + 1):=by kernel_rfl
theorem lcR':sizeB Tryz.prog 46 = some 1:=by kernel_rfl
theorem qcR (c:List Value) (o:Nat):partL Tryz.prog 46 c o = c[o]?:=by kernel_rfl

abbrev ptr0 (B:Nat):Value:=.pointer (some ⟨B,0,none⟩)
/-! ## Rows of structs -/
abbrev R2:=Int × Int
abbrev T3:=Int × Int × Int
structure Tr where
 se:Int
 bu:Int
 sh:Int
 so:R2
 de:R2
def c2 (r:R2):List Value:=[iv r.1,iv r.2]
def c3 (r:T3):List Value:=[iv r.1,iv r.2.1,iv r.2.2]
def c7 (x:Tr):List Value:=[iv x.se,iv x.bu,iv x.sh,iv x.so.1,iv x.so.2,iv x.de.1,iv x.de.2]
theorem c2_len (r:R2):(c2 r).length = 2:=rfl
theorem c3_len (r:T3):(c3 r).length = 3:=rfl
theorem c7_len (r:Tr):(c7 r).length = 7:=rfl
theorem c20 (r:R2):(c2 r)[0]? = some (iv r.1):=rfl
theorem c21 (r:R2):(c2 r)[1]? = some (iv r.2):=rfl
theorem c30 (r:T3):(c3 r)[0]? = some (iv r.1):=rfl
theorem c31 (r:T3):(c3 r)[1]? = some (iv r.2.1):=rfl
theorem c32 (r:T3):(c3 r)[2]? = some (iv r.2.2):=rfl
theorem c70 (x:Tr):(c7 x)[0]? = some (iv x.se):=rfl
theorem c71 (x:Tr):(c7 x)[1]? = some (iv x.bu):=rfl
theorem c72 (x:Tr):(c7 x)[2]? = some (iv x.sh):=rfl
theorem c73 (x:Tr):(c7 x)[3]? = some (iv x.so.1):=rfl
theorem c74 (x:Tr):(c7 x)[4]? = some (iv x.so.2):=rfl
theorem c75 (x:Tr):(c7 x)[5]? = some (iv x.de.1):=rfl
theorem c76 (x:Tr):(c7 x)[6]? = some (iv x.de.2):=rfl
section
variable {P:Program} {ty:TypeId} {α:Type}
def PartN (P:Program) (ty:TypeId) (n:Nat):Prop:=∀ (c:List Value) (o:Nat),partL P ty c o = bif Nat.ble (Nat.add o n) c.length then some (.agg ⟨(c.drop o).take n⟩) else none
theorem part_at {n:Nat} (hp:PartN P ty n) {cells:List Value} {o:Nat} {l:List Value} (h1:(cells.drop o).take n = l) (h2:Nat.ble (Nat.add o n) cells.length = true):partL P ty cells o = some (.agg ⟨l⟩):=by
 rw [hp,h2,cond_true,h1]
theorem part_0 {n:Nat} (hp:PartN P ty n) {l:List Value} (h:l.length = n):partL P ty l 0 = some (.agg ⟨l⟩):=by
 subst h
 rw [hp,List.drop_zero,List.take_length,show Nat.ble (Nat.add 0 l.length) l.length = true from Nat.ble_eq_true_of_le (by show 0 + l.length ≤ _; omega),cond_true]
theorem row_idx {h:AHeap} {v:Value} {n:Nat} {cv:α → List Value} {l:List α} (k:SlAt h n v (l.map cv)) {a e:TypeId} (h1:slOf P a = some e) (h2:sizeB P e = some n) {i:Nat} {x:α} (hi:l[i]? = some x) :
  ∃ b f ro cells,(∀ kd:IntKind,rIndexAddr P a v (.int kd (i:Int)) = some (.pointer (some ⟨b,i * n,none⟩))) ∧ b < h.nx ∧ h.bl.get b = some (.cells cells f ro) ∧
   (cells.drop (i * n)).take n = cv x ∧ Nat.ble (Nat.add (i * n) n) cells.length = true ∧ ∀ j y,(cv x)[j]? = some y → cells[i * n + j]? = some y:=by
 have hlt:i < l.length:=(List.getElem?_eq_some_iff.1 hi).1
 obtain ⟨b,f,ro,q1,q2,q3⟩:=SlAt.idx k h1 h2 (i:=i) (by rw [List.length_map]; exact hlt)
 have hm:(l.map cv)[i]? = some (cv x):=by rw [List.getElem?_map,hi]; rfl
 obtain ⟨u4,u5⟩:=flat_part (SlAt.sized k) hm
 exact ⟨b,f,ro,_,q1,q2,q3,u4,Nat.ble_eq_true_of_le (by show i * n + n ≤ _; exact u5),fun j y hj=>flat_get (SlAt.sized k) (j:=j) hm hj⟩
theorem row_len {h:AHeap} {v:Value} {n:Nat} {cv:α → List Value} {l:List α} (k:SlAt h n v (l.map cv)) {a:TypeId} (ha:isSlTy P a = true) (t:T Value) (h1:AHeap) (o:Oper):rLen P t h1 o a v = some (iv (l.length:Int)):=by
 rw [SlAt.len k ha,List.length_map]
end
/-! ## A company -/
structure Co where
 hs:Int
 held:List Int
 tr:List Tr
 dv:List T3
 sp:List T3
 cl:List R2
structure Vs where
 a:Value
 b:Value
 c:Value
 d:Value
 e:Value
def coV (hs:Int) (v:Vs):List Value:=[iv hs,v.a,v.b,v.c,v.d,v.e]
theorem coV_len (hs:Int) (v:Vs):(coV hs v).length = 6:=rfl
theorem co0 (hs:Int) (v:Vs):(coV hs v)[0]? = some (iv hs):=rfl
theorem co1 (hs:Int) (v:Vs):(coV hs v)[1]? = some v.a:=rfl
theorem co2 (hs:Int) (v:Vs):(coV hs v)[2]? = some v.b:=rfl
theorem co3 (hs:Int) (v:Vs):(coV hs v)[3]? = some v.c:=rfl
theorem co4 (hs:Int) (v:Vs):(coV hs v)[4]? = some v.d:=rfl
theorem co5 (hs:Int) (v:Vs):(coV hs v)[5]? = some v.e:=rfl
structure CoAt (h:AHeap) (v:Vs) (c:Co):Prop where
 held:IAt h v.a c.held
 tr:SlAt h 7 v.b (c.tr.map c7)
 dv:SlAt h 3 v.c (c.dv.map c3)
 sp:SlAt h 3 v.d (c.sp.map c3)
 cl:SlAt h 2 v.e (c.cl.map c2)
theorem CoAt.mono {h h':AHeap} {v:Vs} {c:Co} (k:CoAt h v c) (hk:Kp h h'):CoAt h' v c:=
 ⟨k.held.mono hk,SlAt.mono k.tr hk,SlAt.mono k.dv hk,SlAt.mono k.sp hk,SlAt.mono k.cl hk⟩
theorem iv_len {h:AHeap} {v:Value} {l:List Int} (k:IAt h v l) (t:T Value) (h1:AHeap) (o:Oper):rLen Tryz.prog t h1 o 22 v = some (iv (l.length:Int)):=k.len isI t h1 o
/-! ## What is owed of the table -/
def offB (g:FuncId):Bool:=!(Nat.beq g 8)
def Off (pr:Prim):Prop:=∀ g l h,offB g = true → pr g l h = none
structure Tab (pr:Prim):Prop where
 off:Off pr
 awake:∀ h,pr 8 [] h = some (.bool true)
def inB (i lo hi:Int):Bool:=decide (lo ≤ i) && decide (i ≤ hi)
theorem inB_iff {i lo hi:Int}:inB i lo hi = true ↔ lo ≤ i ∧ i ≤ hi:=by
 unfold inB; rw [Bool.and_eq_true,decide_eq_true_eq,decide_eq_true_eq]
def daysB (r:R2):Bool:=inB r.1 0 r.2 && decide (r.2 ≤ 11)
theorem daysB_iff {r:R2}:daysB r = true ↔ 0 ≤ r.1 ∧ r.1 ≤ r.2 ∧ r.2 ≤ 11:=by
 unfold daysB; rw [Bool.and_eq_true,inB_iff,decide_eq_true_eq,and_assoc]
end Go.Proofs.Cp
