import Derived.Test.YthgmipngikdknaaGreatPo1
/- The types of the layer post, and what lies of them in a heap. -/
namespace Go.Proofs.Po
open Go Go.Ev
set_option linter.unusedSimpArgs false
abbrev nl:Value:=.slice none 0 0

theorem frR0:bZ Tryz.prog 45 0 = some (0,3):=by kernel_rfl
theorem frR1:bZ Tryz.prog 45 1 = some (1,3):=by kernel_rfl
theorem srR:bH Tryz.prog 45 = some 2:=by kernel_rfl
theorem SrR:bH Tryz.prog 45 = some (1 + 1):=by kernel_rfl
theorem prR (c:List Value) (o:Nat):dD Tryz.prog 45 c o = bif Nat.ble (Nat.add o 2) c.length then some (.agg ⟨(c.drop o).take 2⟩) else none:=by kernel_rfl
theorem fcR0:bZ Tryz.prog 43 0 = some (0,3):=by kernel_rfl
theorem fcR1:bZ Tryz.prog 43 1 = some (1,3):=by kernel_rfl
theorem scR:bH Tryz.prog 43 = some 2:=by kernel_rfl
theorem ScR:bH Tryz.prog 43 = some (1 + 1):=by kernel_rfl
theorem zcR:zeroOf Tryz.prog 43 = some (.agg ⟨[iv 0,iv 0]⟩):=by kernel_rfl
theorem pcR (c:List Value) (o:Nat):dD Tryz.prog 43 c o = bif Nat.ble (Nat.add o 2) c.length then some (.agg ⟨(c.drop o).take 2⟩) else none:=by kernel_rfl
theorem frO0:bZ Tryz.prog 47 0 = some (0,4):=by kernel_rfl
theorem frO1:bZ Tryz.prog 47 1 = some (1,3):=by kernel_rfl
theorem frO2:bZ Tryz.prog 47 2 = some (2,3):=by kernel_rfl
theorem frO3:bZ Tryz.prog 47 3 = some (3,45):=by kernel_rfl
theorem srO:bH Tryz.prog 47 = some 5:=by kernel_rfl
theorem zrO:zeroOf Tryz.prog 47 = some (.agg ⟨[.bool false,iv 0,iv 0,iv 0,iv 0]⟩):=by kernel_rfl
theorem prO (c:List Value) (o:Nat):dD Tryz.prog 47 c o = bif Nat.ble (Nat.add o 5) c.length then some (.agg ⟨(c.drop o).take 5⟩) else none:=by kernel_rfl
theorem fcO0:bZ Tryz.prog 94 0 = some (0,4):=by kernel_rfl
theorem fcO1:bZ Tryz.prog 94 1 = some (1,3):=by kernel_rfl
theorem fcO2:bZ Tryz.prog 94 2 = some (2,3):=by kernel_rfl
theorem fcO3:bZ Tryz.prog 94 3 = some (3,43):=by kernel_rfl
theorem scO:bH Tryz.prog 94 = some 5:=by kernel_rfl
theorem zcO:zeroOf Tryz.prog 94 = some (.agg ⟨[.bool false,iv 0,iv 0,iv 0,iv 0]⟩):=by kernel_rfl
theorem pcO (c:List Value) (o:Nat):dD Tryz.prog 94 c o = bif Nat.ble (Nat.add o 5) c.length then some (.agg ⟨(c.drop o).take 5⟩) else none:=by kernel_rfl
theorem fA0:bZ Tryz.prog 24 0 = some (0,22):=by kernel_rfl
theorem sA:bH Tryz.prog 24 = some 1:=by kernel_rfl
theorem zA:zeroOf Tryz.prog 24 = some (.agg ⟨[.slice none 0 0]⟩):=by kernel_rfl
theorem pA (c:List Value) (o:Nat):dD Tryz.prog 24 c o = bif Nat.ble (Nat.add o 1) c.length then some (.agg ⟨(c.drop o).take 1⟩) else none:=by kernel_rfl
theorem fB0:bZ Tryz.prog 33 0 = some (0,31):=by kernel_rfl
theorem sB:bH Tryz.prog 33 = some 1:=by kernel_rfl
theorem SB:bH Tryz.prog 33 = some (0 + 1):=by kernel_rfl
theorem zB:zeroOf Tryz.prog 33 = some (.agg ⟨[.slice none 0 0]⟩):=by kernel_rfl
theorem pB (c:List Value) (o:Nat):dD Tryz.prog 33 c o = bif Nat.ble (Nat.add o 1) c.length then some (.agg ⟨(c.drop o).take 1⟩) else none:=by kernel_rfl
theorem frS0:bZ Tryz.prog 79 0 = some (0,3):=by kernel_rfl
theorem frS1:bZ Tryz.prog 79 1 = some (1,3):=by kernel_rfl
theorem frS2:bZ Tryz.prog 79 2 = some (2,3):=by kernel_rfl
theorem frS3:bZ Tryz.prog 79 3 = some (3,3):=by kernel_rfl
theorem srS:bH Tryz.prog 79 = some 4:=by kernel_rfl
theorem fcS0:bZ Tryz.prog 73 0 = some (0,3):=by kernel_rfl
theorem fcS1:bZ Tryz.prog 73 1 = some (1,3):=by kernel_rfl
theorem fcS2:bZ Tryz.prog 73 2 = some (2,3):=by kernel_rfl
theorem fcS3:bZ Tryz.prog 73 3 = some (3,3):=by kernel_rfl
theorem scS:bH Tryz.prog 73 = some 4:=by kernel_rfl
theorem zcS:zeroOf Tryz.prog 73 = some (.agg ⟨[iv 0,iv 0,iv 0,iv 0]⟩):=by kernel_rfl
theorem pcS (c:List Value) (o:Nat):dD Tryz.prog 73 c o = bif Nat.ble (Nat.add o 4) c.length then some (.agg ⟨(c.drop o).take 4⟩) else none:=by kernel_rfl
theorem pF (c:List Value) (o:Nat):dD Tryz.prog 116 c o = bif Nat.ble (Nat.add o 3) c.length then some (.agg ⟨(c.drop o).take 3⟩) else none:=by kernel_rfl
theorem fV0:bZ Tryz.prog 126 0 = some (0,3):=by kernel_rfl
theorem fV1:bZ Tryz.prog 126 1 = some (1,3):=by kernel_rfl
theorem sV:bH Tryz.prog 126 = some 2:=by kernel_rfl
theorem zV:zeroOf Tryz.prog 126 = some (.agg ⟨[iv 0,iv 0]⟩):=by kernel_rfl
theorem pV (c:List Value) (o:Nat):dD Tryz.prog 126 c o = bif Nat.ble (Nat.add o 2) c.length then some (.agg ⟨(c.drop o).take 2⟩) else none:=by kernel_rfl
theorem sN:bH Tryz.prog 112 = some 6:=by kernel_rfl
theorem SN:bH Tryz.prog 112 = some (5 + 1):=by kernel_rfl
theorem zN:zeroOf Tryz.prog 112 = some (.agg ⟨[iv 0,iv 0,iv 0,iv 0,iv 0,iv 0]⟩):=by kernel_rfl
theorem pN (c:List Value) (o:Nat):dD Tryz.prog 112 c o = bif Nat.ble (Nat.add o 6) c.length then some (.agg ⟨(c.drop o).take 6⟩) else none:=by kernel_rfl
theorem fC0:bZ Tryz.prog 114 0 = some (0,33):=by kernel_rfl
theorem fC1:bZ Tryz.prog 114 1 = some (1,35):=by kernel_rfl
theorem fC2:bZ Tryz.prog 114 2 = some (2,112):=by kernel_rfl
theorem fC3:bZ Tryz.prog 114 3 = some (8,52):=by kernel_rfl
theorem pC (c:List Value) (o:Nat):dD Tryz.prog 114 c o = bif Nat.ble (Nat.add o 9) c.length then some (.agg ⟨(c.drop o).take 9⟩) else none:=by kernel_rfl
theorem isrO:jW Tryz.prog 22 = true:=by kernel_rfl
theorem slrO:fE Tryz.prog 22 = some 47:=by kernel_rfl
theorem urO:Tryz.prog.underlying 22 = some (.slice 47):=by kernel_rfl
theorem nrO:eY Tryz.prog 47 1 = true:=by kernel_rfl
theorem lrO:bH Tryz.prog 22 = some (0 + 1):=by kernel_rfl
theorem qrO (c:List Value) (o:Nat):dD Tryz.prog 22 c o = c[o]?:=by kernel_rfl
theorem iscO:jW Tryz.prog 31 = true:=by kernel_rfl
theorem slcO:fE Tryz.prog 31 = some 94:=by kernel_rfl
theorem ucO:Tryz.prog.underlying 31 = some (.slice 94):=by kernel_rfl
theorem ncO:eY Tryz.prog 94 1 = true:=by kernel_rfl
theorem lcO:bH Tryz.prog 31 = some (0 + 1):=by kernel_rfl
theorem lcO':bH Tryz.prog 31 = some 1:=by kernel_rfl
theorem qcO (c:List Value) (o:Nat):dD Tryz.prog 31 c o = c[o]?:=by kernel_rfl
theorem isrS:jW Tryz.prog 50 = true:=by kernel_rfl
theorem slrS:fE Tryz.prog 50 = some 79:=by kernel_rfl
theorem iscS:jW Tryz.prog 52 = true:=by kernel_rfl
theorem slcS:fE Tryz.prog 52 = some 73:=by kernel_rfl
theorem ucS:Tryz.prog.underlying 52 = some (.slice 73):=by kernel_rfl
theorem ncS:eY Tryz.prog 73 1 = true:=by kernel_rfl
theorem lcS:bH Tryz.prog 52 = some (0 + 1):=by kernel_rfl
theorem lcS':bH Tryz.prog 52 = some 1:=by kernel_rfl
theorem qcS (c:List Value) (o:Nat):dD Tryz.prog 52 c o = c[o]?:=by kernel_rfl
theorem isV:jW Tryz.prog 131 = true:=by kernel_rfl
theorem slV:fE Tryz.prog 131 = some 126:=by kernel_rfl
theorem sb:bH Tryz.prog 4 = some (0 + 1):=by kernel_rfl
theorem pb (c:List Value) (o:Nat):dD Tryz.prog 4 c o = c[o]?:=by kernel_rfl
theorem bcR (a b:Int):fG Tryz.prog 43 [(0,iv a),(1,iv b)] = some (.agg ⟨[iv a,iv b]⟩):=by kernel_rfl
theorem bcO (x:Bool) (a b c d:Int):fG Tryz.prog 94 [(0,.bool x),(1,iv a),(2,iv b),(3,.agg ⟨[iv c,iv d]⟩)] = some (.agg ⟨[.bool x,iv a,iv b,iv c,iv d]⟩):=by kernel_rfl
theorem bV (a b:Int):fG Tryz.prog 126 [(0,iv a),(1,iv b)] = some (.agg ⟨[iv a,iv b]⟩):=by kernel_rfl
theorem bcS (a b c d:Int):fG Tryz.prog 73 [(0,iv a),(1,iv b),(2,iv c),(3,iv d)] = some (.agg ⟨[iv a,iv b,iv c,iv d]⟩):=by kernel_rfl
/-! ## Rows -/
/-- An order. -/
structure Od where
 b:Bool
 l:Int
 n:Int
 lo:Int
 hi:Int
/-- A sale. -/
structure Sa where
 bu:Int
 se:Int
 nu:Int
 pr:Int
 deriving DecidableEq
abbrev I2:=Int × Int
def cOd (x:Od):List Value:=[.bool x.b,iv x.l,iv x.n,iv x.lo,iv x.hi]
def cSa (x:Sa):List Value:=[iv x.bu,iv x.se,iv x.nu,iv x.pr]
def c2 (r:I2):List Value:=[iv r.1,iv r.2]
theorem xM (x:Od):(cOd x).length = 5:=rfl
theorem jL (x:Sa):(cSa x).length = 4:=rfl
theorem kX (r:I2):(c2 r).length = 2:=rfl
theorem c20 (r:I2):(c2 r)[0]? = some (iv r.1):=rfl
theorem c21 (r:I2):(c2 r)[1]? = some (iv r.2):=rfl
theorem cOd0 (x:Od):(cOd x)[0]? = some (.bool x.b):=rfl
theorem cOd1 (x:Od):(cOd x)[1]? = some (iv x.l):=rfl
theorem cOd2 (x:Od):(cOd x)[2]? = some (iv x.n):=rfl
theorem cOd3 (x:Od):(cOd x)[3]? = some (iv x.lo):=rfl
theorem cOd4 (x:Od):(cOd x)[4]? = some (iv x.hi):=rfl
theorem cSa0 (x:Sa):(cSa x)[0]? = some (iv x.bu):=rfl
theorem cSa1 (x:Sa):(cSa x)[1]? = some (iv x.se):=rfl
theorem cSa2 (x:Sa):(cSa x)[2]? = some (iv x.nu):=rfl
theorem cSa3 (x:Sa):(cSa x)[3]? = some (iv x.pr):=rfl

section
variable {P:Program} {ty:TypeId} {α:Type}
/-- How a struct of n cells is read. -/
def PartN (P:Program) (ty:TypeId) (n:Nat):Prop:=∀ (c:List Value) (o:Nat),dD P ty c o = bif Nat.ble (Nat.add o n) c.length then some (.agg ⟨(c.drop o).take n⟩) else none
theorem gQ {n:Nat} (hp:PartN P ty n) {cells:List Value} {o:Nat} {l:List Value} (h1:(cells.drop o).take n = l) (h2:Nat.ble (Nat.add o n) cells.length = true):dD P ty cells o = some (.agg ⟨l⟩):=by
 rw [hp,h2,cond_true,h1]
theorem bT {n:Nat} (hp:PartN P ty n) {l:List Value} (h:l.length = n):dD P ty l 0 = some (.agg ⟨l⟩):=by
 subst h
 rw [hp,List.drop_zero,List.take_length,show Nat.ble (Nat.add 0 l.length) l.length = true from Nat.ble_eq_true_of_le (by show 0 + l.length ≤ _; omega),cond_true]
theorem dM {h:AHeap} {v:Value} {n:Nat} {cv:α → List Value} {l:List α} (k:SlAt h n v (l.map cv)) {a e:TypeId} (h1:fE P a = some e) (h2:bH P e = some n) {i:Nat} {x:α} (hi:l[i]? = some x) :
  ∃ b f ro cells,(∀ kd:IntKind,bY P a v (.int kd (i:Int)) = some (.pointer (some ⟨b,i * n,none⟩))) ∧ b < h.nx ∧ h.bl.get b = some (.cells cells f ro) ∧
   (cells.drop (i * n)).take n = cv x ∧ Nat.ble (Nat.add (i * n) n) cells.length = true ∧ ∀ j y,(cv x)[j]? = some y → cells[i * n + j]? = some y:=by
 have hlt:i < l.length:=(List.getElem?_eq_some_iff.1 hi).1
 obtain ⟨b,f,ro,q1,q2,q3⟩:=SlAt.idx k h1 h2 (i:=i) (by rw [List.length_map]; exact hlt)
 have hm:(l.map cv)[i]? = some (cv x):=by rw [List.getElem?_map,hi]; rfl
 obtain ⟨u4,u5⟩:=flat_part (SlAt.sized k) hm
 exact ⟨b,f,ro,_,q1,q2,q3,u4,Nat.ble_eq_true_of_le (by show i * n + n ≤ _; exact u5),fun j y hj=>flat_get (SlAt.sized k) (j:=j) hm hj⟩
theorem dQ {h:AHeap} {v:Value} {n:Nat} {cv:α → List Value} {l:List α} (k:SlAt h n v (l.map cv)) {a:TypeId} (ha:jW P a = true) (t:T Value) (h1:AHeap) (o:Oper):qJ P t h1 o a v = some (iv (l.length:Int)):=by
 rw [SlAt.len k ha,List.length_map]
end
theorem rF {h:AHeap} {n:Nat} {v:Value} {cs:List (List Value)} (k:SlAt h n v cs):veq v v = true:=by
 rcases k with ⟨_,rfl|rfl⟩|⟨b,cap,f,ro,_,rfl,_⟩
 ·simp only [veq]
 ·simp only [emptyS,veq]
 ·simp only [veq,Nat.beq_refl,Bool.and_self]
theorem row_sl {h:AHeap} {n:Nat} {v:Value} {cs:List (List Value)} (k:SlAt h n v cs):∃ p m c,v = .slice p m c:=by
 rcases k with ⟨_,rfl|rfl⟩|⟨b,cap,f,ro,_,rfl,_⟩
 ·exact ⟨_,_,_,rfl⟩
 ·exact ⟨_,_,_,rfl⟩
 ·exact ⟨_,_,_,rfl⟩
theorem ints_sl {h:AHeap} {v:Value} {l:List Int} (k:IAt h v l):∃ p m c,v = .slice p m c:=by
 rcases k with ⟨_,rfl|rfl|⟨_,_,rfl⟩⟩|⟨_,_,_,_,rfl,_⟩
 ·exact ⟨_,_,_,rfl⟩
 ·exact ⟨_,_,_,rfl⟩
 ·exact ⟨_,_,_,rfl⟩
 ·exact ⟨_,_,_,rfl⟩

def poV (v:Value):List Value:=[v]
theorem dR (v:Value):(poV v).length = 1:=rfl
theorem po0 (v:Value):(poV v)[0]? = some v:=rfl
/-- Orders that lie at a slice. -/
def PoAt (h:AHeap) (v:Value) (O:List Od):Prop:=SlAt h 5 v (O.map cOd)
theorem PoAt.mono {h h':AHeap} {v:Value} {O:List Od} (k:PoAt h v O) (a:Kp h h'):PoAt h' v O:=SlAt.mono k a
end Go.Proofs.Po
