import Derived.Test.YtfbkgnojdngiiaaMg8
/- The types of the layer margin, and what lies of them in a heap. -/
namespace Go.Proofs.Mg
open Go Go.Ev
set_option linter.unusedSimpArgs false

theorem frR0 : fieldOf Try.prog 81 0 = some (0, 3) := by kernel_rfl
theorem frR1 : fieldOf Try.prog 81 1 = some (1, 3) := by kernel_rfl
theorem srR : sizeB Try.prog 81 = some 2 := by kernel_rfl
theorem SrR : sizeB Try.prog 81 = some (1 + 1) := by kernel_rfl
theorem prR (c : List Value) (o : Nat) : partL Try.prog 81 c o = bif Nat.ble (Nat.add o 2) c.length then some (.agg ⟨(c.drop o).take 2⟩) else none := by kernel_rfl
theorem fcR0 : fieldOf Try.prog 48 0 = some (0, 3) := by kernel_rfl
theorem fcR1 : fieldOf Try.prog 48 1 = some (1, 3) := by kernel_rfl
theorem scR : sizeB Try.prog 48 = some 2 := by kernel_rfl
theorem ScR : sizeB Try.prog 48 = some (1 + 1) := by kernel_rfl
theorem zcR : zeroOf Try.prog 48 = some (.agg ⟨[iv 0, iv 0]⟩) := by kernel_rfl
theorem pcR (c : List Value) (o : Nat) : partL Try.prog 48 c o = bif Nat.ble (Nat.add o 2) c.length then some (.agg ⟨(c.drop o).take 2⟩) else none := by kernel_rfl
theorem frD0 : fieldOf Try.prog 83 0 = some (0, 80) := by kernel_rfl
theorem frD1 : fieldOf Try.prog 83 1 = some (1, 81) := by kernel_rfl
theorem srD : sizeB Try.prog 83 = some 3 := by kernel_rfl
theorem zrD : zeroOf Try.prog 83 = some (.agg ⟨[.slice none 0 0, iv 0, iv 0]⟩) := by kernel_rfl
theorem prD (c : List Value) (o : Nat) : partL Try.prog 83 c o = bif Nat.ble (Nat.add o 3) c.length then some (.agg ⟨(c.drop o).take 3⟩) else none := by kernel_rfl
theorem fcD0 : fieldOf Try.prog 65 0 = some (0, 36) := by kernel_rfl
theorem fcD1 : fieldOf Try.prog 65 1 = some (1, 48) := by kernel_rfl
theorem scD : sizeB Try.prog 65 = some 3 := by kernel_rfl
theorem zcD : zeroOf Try.prog 65 = some (.agg ⟨[.slice none 0 0, iv 0, iv 0]⟩) := by kernel_rfl
theorem pcD (c : List Value) (o : Nat) : partL Try.prog 65 c o = bif Nat.ble (Nat.add o 3) c.length then some (.agg ⟨(c.drop o).take 3⟩) else none := by kernel_rfl
theorem frL0 : fieldOf Try.prog 85 0 = some (0, 3) := by kernel_rfl
theorem frL1 : fieldOf Try.prog 85 1 = some (1, 3) := by kernel_rfl
theorem frL2 : fieldOf Try.prog 85 2 = some (2, 22) := by kernel_rfl
theorem srL : sizeB Try.prog 85 = some 3 := by kernel_rfl
theorem zrL : zeroOf Try.prog 85 = some (.agg ⟨[iv 0, iv 0, .slice none 0 0]⟩) := by kernel_rfl
theorem prL (c : List Value) (o : Nat) : partL Try.prog 85 c o = bif Nat.ble (Nat.add o 3) c.length then some (.agg ⟨(c.drop o).take 3⟩) else none := by kernel_rfl
theorem fcL0 : fieldOf Try.prog 55 0 = some (0, 3) := by kernel_rfl
theorem fcL1 : fieldOf Try.prog 55 1 = some (1, 3) := by kernel_rfl
theorem fcL2 : fieldOf Try.prog 55 2 = some (2, 22) := by kernel_rfl
theorem scL : sizeB Try.prog 55 = some 3 := by kernel_rfl
theorem zcL : zeroOf Try.prog 55 = some (.agg ⟨[iv 0, iv 0, .slice none 0 0]⟩) := by kernel_rfl
theorem pcL (c : List Value) (o : Nat) : partL Try.prog 55 c o = bif Nat.ble (Nat.add o 3) c.length then some (.agg ⟨(c.drop o).take 3⟩) else none := by kernel_rfl
theorem fA0 : fieldOf Try.prog 70 0 = some (0, 3) := by kernel_rfl
theorem fA1 : fieldOf Try.prog 70 1 = some (1, 67) := by kernel_rfl
theorem fA2 : fieldOf Try.prog 70 2 = some (2, 68) := by kernel_rfl
theorem sA : sizeB Try.prog 70 = some 3 := by kernel_rfl
theorem zA : zeroOf Try.prog 70 = some (.agg ⟨[iv 0, .slice none 0 0, .slice none 0 0]⟩) := by kernel_rfl
theorem pA (c : List Value) (o : Nat) : partL Try.prog 70 c o = bif Nat.ble (Nat.add o 3) c.length then some (.agg ⟨(c.drop o).take 3⟩) else none := by kernel_rfl
theorem fB0 : fieldOf Try.prog 42 0 = some (0, 3) := by kernel_rfl
theorem fB1 : fieldOf Try.prog 42 1 = some (1, 39) := by kernel_rfl
theorem fB2 : fieldOf Try.prog 42 2 = some (2, 40) := by kernel_rfl
theorem sB : sizeB Try.prog 42 = some 3 := by kernel_rfl
theorem SB : sizeB Try.prog 42 = some (2 + 1) := by kernel_rfl
theorem zB : zeroOf Try.prog 42 = some (.agg ⟨[iv 0, .slice none 0 0, .slice none 0 0]⟩) := by kernel_rfl
theorem pB (c : List Value) (o : Nat) : partL Try.prog 42 c o = bif Nat.ble (Nat.add o 3) c.length then some (.agg ⟨(c.drop o).take 3⟩) else none := by kernel_rfl
theorem frU0 : fieldOf Try.prog 71 0 = some (0, 50) := by kernel_rfl
theorem frU1 : fieldOf Try.prog 71 1 = some (1, 22) := by kernel_rfl
theorem srU : sizeB Try.prog 71 = some 2 := by kernel_rfl
theorem zrU : zeroOf Try.prog 71 = some (.agg ⟨[.slice none 0 0, .slice none 0 0]⟩) := by kernel_rfl
theorem prU (c : List Value) (o : Nat) : partL Try.prog 71 c o = bif Nat.ble (Nat.add o 2) c.length then some (.agg ⟨(c.drop o).take 2⟩) else none := by kernel_rfl
theorem fcU0 : fieldOf Try.prog 52 0 = some (0, 50) := by kernel_rfl
theorem fcU1 : fieldOf Try.prog 52 1 = some (1, 22) := by kernel_rfl
theorem scU : sizeB Try.prog 52 = some 2 := by kernel_rfl
theorem ScU : sizeB Try.prog 52 = some (1 + 1) := by kernel_rfl
theorem zcU : zeroOf Try.prog 52 = some (.agg ⟨[.slice none 0 0, .slice none 0 0]⟩) := by kernel_rfl
theorem pcU (c : List Value) (o : Nat) : partL Try.prog 52 c o = bif Nat.ble (Nat.add o 2) c.length then some (.agg ⟨(c.drop o).take 2⟩) else none := by kernel_rfl
theorem fP0 : fieldOf Try.prog 98 0 = some (0, 3) := by kernel_rfl
theorem fP1 : fieldOf Try.prog 98 1 = some (1, 3) := by kernel_rfl
theorem pP (c : List Value) (o : Nat) : partL Try.prog 98 c o = bif Nat.ble (Nat.add o 2) c.length then some (.agg ⟨(c.drop o).take 2⟩) else none := by kernel_rfl
theorem fN0 : fieldOf Try.prog 107 0 = some (0, 3) := by kernel_rfl
theorem fN1 : fieldOf Try.prog 107 1 = some (1, 3) := by kernel_rfl
theorem fN2 : fieldOf Try.prog 107 2 = some (2, 3) := by kernel_rfl
theorem sN : sizeB Try.prog 107 = some 3 := by kernel_rfl
theorem zN : zeroOf Try.prog 107 = some (.agg ⟨[iv 0, iv 0, iv 0]⟩) := by kernel_rfl
theorem pN (c : List Value) (o : Nat) : partL Try.prog 107 c o = bif Nat.ble (Nat.add o 3) c.length then some (.agg ⟨(c.drop o).take 3⟩) else none := by kernel_rfl
theorem fW0 : fieldOf Try.prog 129 0 = some (0, 42) := by kernel_rfl
theorem fW1 : fieldOf Try.prog 129 1 = some (3, 52) := by kernel_rfl
theorem fW2 : fieldOf Try.prog 129 2 = some (5, 127) := by kernel_rfl
theorem SW : sizeB Try.prog 129 = some (5 + 1) := by kernel_rfl
theorem isrR : isSlTy Try.prog 80 = true := by kernel_rfl
theorem slrR : slOf Try.prog 80 = some 81 := by kernel_rfl
theorem lrR : sizeB Try.prog 80 = some (0 + 1) := by kernel_rfl
theorem qrR (c : List Value) (o : Nat) : partL Try.prog 80 c o = c[o]? := by kernel_rfl
theorem isrD : isSlTy Try.prog 67 = true := by kernel_rfl
theorem slrD : slOf Try.prog 67 = some 83 := by kernel_rfl
theorem urD : Try.prog.underlying 67 = some (.slice 83) := by kernel_rfl
theorem nrD : numOk Try.prog 83 1 = true := by kernel_rfl
theorem lrD : sizeB Try.prog 67 = some (0 + 1) := by kernel_rfl
theorem lrD' : sizeB Try.prog 67 = some 1 := by kernel_rfl
theorem qrD (c : List Value) (o : Nat) : partL Try.prog 67 c o = c[o]? := by kernel_rfl
theorem isrL : isSlTy Try.prog 68 = true := by kernel_rfl
theorem slrL : slOf Try.prog 68 = some 85 := by kernel_rfl
theorem lrL : sizeB Try.prog 68 = some (0 + 1) := by kernel_rfl
theorem qrL (c : List Value) (o : Nat) : partL Try.prog 68 c o = c[o]? := by kernel_rfl
theorem iscR : isSlTy Try.prog 36 = true := by kernel_rfl
theorem slcR : slOf Try.prog 36 = some 48 := by kernel_rfl
theorem ucR : Try.prog.underlying 36 = some (.slice 48) := by kernel_rfl
theorem ncR : numOk Try.prog 48 1 = true := by kernel_rfl
theorem lcR : sizeB Try.prog 36 = some (0 + 1) := by kernel_rfl
theorem lcR' : sizeB Try.prog 36 = some 1 := by kernel_rfl
theorem qcR (c : List Value) (o : Nat) : partL Try.prog 36 c o = c[o]? := by kernel_rfl
theorem iscD : isSlTy Try.prog 39 = true := by kernel_rfl
theorem slcD : slOf Try.prog 39 = some 65 := by kernel_rfl
theorem ucD : Try.prog.underlying 39 = some (.slice 65) := by kernel_rfl
theorem ncD : numOk Try.prog 65 1 = true := by kernel_rfl
theorem lcD : sizeB Try.prog 39 = some (0 + 1) := by kernel_rfl
theorem lcD' : sizeB Try.prog 39 = some 1 := by kernel_rfl
theorem qcD (c : List Value) (o : Nat) : partL Try.prog 39 c o = c[o]? := by kernel_rfl
theorem iscL : isSlTy Try.prog 40 = true := by kernel_rfl
theorem slcL : slOf Try.prog 40 = some 55 := by kernel_rfl
theorem ucL : Try.prog.underlying 40 = some (.slice 55) := by kernel_rfl
theorem ncL : numOk Try.prog 55 1 = true := by kernel_rfl
theorem lcL : sizeB Try.prog 40 = some (0 + 1) := by kernel_rfl
theorem lcL' : sizeB Try.prog 40 = some 1 := by kernel_rfl
theorem qcL (c : List Value) (o : Nat) : partL Try.prog 40 c o = c[o]? := by kernel_rfl
theorem isII : isSlTy Try.prog 50 = true := by kernel_rfl
theorem slII : slOf Try.prog 50 = some 22 := by kernel_rfl
theorem uII : Try.prog.underlying 50 = some (.slice 22) := by kernel_rfl
theorem nII : numOk Try.prog 22 1 = true := by kernel_rfl
theorem lII : sizeB Try.prog 50 = some (0 + 1) := by kernel_rfl
theorem lII' : sizeB Try.prog 50 = some 1 := by kernel_rfl
theorem qII (c : List Value) (o : Nat) : partL Try.prog 50 c o = c[o]? := by kernel_rfl
theorem zI : zeroOf Try.prog 22 = some nl := by kernel_rfl
theorem bcR (a b : Int) : rBuild Try.prog 48 [(0, iv a), (1, iv b)] = some (.agg ⟨[iv a, iv b]⟩) := by kernel_rfl
theorem bP (a b : Int) : rBuild Try.prog 98 [(0, iv a), (1, iv b)] = some (.agg ⟨[iv a, iv b]⟩) := by kernel_rfl
theorem bN (a b c : Int) : rBuild Try.prog 107 [(0, iv a), (1, iv b), (2, iv c)] = some (.agg ⟨[iv a, iv b, iv c]⟩) := by kernel_rfl
theorem bB0 (a : Int) : rBuild Try.prog 42 [(0, iv a)] = some (.agg ⟨[iv a, nl, nl]⟩) := by kernel_rfl
theorem bcD (a b : Int) : rBuild Try.prog 65 [(1, .agg ⟨[iv a, iv b]⟩)] = some (.agg ⟨[nl, iv a, iv b]⟩) := by kernel_rfl
theorem bcL (a b : Int) (p : Option Addr) (n c : Nat) : rBuild Try.prog 55 [(0, iv a), (1, iv b), (2, .slice p n c)] = some (.agg ⟨[iv a, iv b, .slice p n c]⟩) := by kernel_rfl
theorem bcU (p : Option Addr) (n c : Nat) : rBuild Try.prog 52 [(1, .slice p n c)] = some (.agg ⟨[nl, .slice p n c]⟩) := by kernel_rfl
theorem brU0 : rBuild Try.prog 71 [] = some (.agg ⟨[nl, nl]⟩) := by kernel_rfl

/-! ## Rows -/
abbrev R2 := Int × Int
/-- A day: where its prices lie, the prices, the rate. -/
abbrev PD := Value × List R2 × R2
/-- A loan: where its shares lie, the money, the margin, the shares. -/
abbrev PL := Value × Int × Int × List Int
/-- A list of prices: where it lies, and what it is. -/
abbrev PT := Value × List Int
def c2 (r : R2) : List Value := [iv r.1, iv r.2]
def cD (x : PD) : List Value := [x.1, iv x.2.2.1, iv x.2.2.2]
def cL (x : PL) : List Value := [iv x.2.1, iv x.2.2.1, x.1]
def cT (x : PT) : List Value := [x.1]
theorem c2_len (r : R2) : (c2 r).length = 2 := rfl
theorem cD_len (x : PD) : (cD x).length = 3 := rfl
theorem cL_len (x : PL) : (cL x).length = 3 := rfl
theorem c20 (r : R2) : (c2 r)[0]? = some (iv r.1) := rfl
theorem c21 (r : R2) : (c2 r)[1]? = some (iv r.2) := rfl
theorem cD0 (x : PD) : (cD x)[0]? = some x.1 := rfl
theorem cD1 (x : PD) : (cD x)[1]? = some (iv x.2.2.1) := rfl
theorem cD2 (x : PD) : (cD x)[2]? = some (iv x.2.2.2) := rfl
theorem cL0 (x : PL) : (cL x)[0]? = some (iv x.2.1) := rfl
theorem cL1 (x : PL) : (cL x)[1]? = some (iv x.2.2.1) := rfl
theorem cL2 (x : PL) : (cL x)[2]? = some x.1 := rfl
theorem cT0 (x : PT) : (cT x)[0]? = some x.1 := rfl
section
variable {P : Program} {ty : TypeId} {α : Type}
/-- How a struct of n cells is read. -/
def PartN (P : Program) (ty : TypeId) (n : Nat) : Prop := ∀ (c : List Value) (o : Nat), partL P ty c o = bif Nat.ble (Nat.add o n) c.length then some (.agg ⟨(c.drop o).take n⟩) else none
theorem part_at {n : Nat} (hp : PartN P ty n) {cells : List Value} {o : Nat} {l : List Value} (h1 : (cells.drop o).take n = l) (h2 : Nat.ble (Nat.add o n) cells.length = true) : partL P ty cells o = some (.agg ⟨l⟩) := by
  rw [hp, h2, cond_true, h1]
theorem part_0 {n : Nat} (hp : PartN P ty n) {l : List Value} (h : l.length = n) : partL P ty l 0 = some (.agg ⟨l⟩) := by
  subst h
  rw [hp, List.drop_zero, List.take_length, show Nat.ble (Nat.add 0 l.length) l.length = true from Nat.ble_eq_true_of_le (by show 0 + l.length ≤ _; omega), cond_true]
theorem row_idx {h : AHeap} {v : Value} {n : Nat} {cv : α → List Value} {l : List α} (k : SlAt h n v (l.map cv)) {a e : TypeId} (h1 : slOf P a = some e) (h2 : sizeB P e = some n) {i : Nat} {x : α} (hi : l[i]? = some x) :
    ∃ b f ro cells, (∀ kd : IntKind, rIndexAddr P a v (.int kd (i : Int)) = some (.pointer (some ⟨b, i * n, none⟩))) ∧ b < h.nx ∧ h.bl.get b = some (.cells cells f ro) ∧
      (cells.drop (i * n)).take n = cv x ∧ Nat.ble (Nat.add (i * n) n) cells.length = true ∧ ∀ j y, (cv x)[j]? = some y → cells[i * n + j]? = some y := by
  have hlt : i < l.length := (List.getElem?_eq_some_iff.1 hi).1
  obtain ⟨b, f, ro, q1, q2, q3⟩ := SlAt.idx k h1 h2 (i := i) (by rw [List.length_map]; exact hlt)
  have hm : (l.map cv)[i]? = some (cv x) := by rw [List.getElem?_map, hi]; rfl
  obtain ⟨u4, u5⟩ := flat_part (SlAt.sized k) hm
  exact ⟨b, f, ro, _, q1, q2, q3, u4, Nat.ble_eq_true_of_le (by show i * n + n ≤ _; exact u5), fun j y hj => flat_get (SlAt.sized k) (j := j) hm hj⟩
theorem row_len {h : AHeap} {v : Value} {n : Nat} {cv : α → List Value} {l : List α} (k : SlAt h n v (l.map cv)) {a : TypeId} (ha : isSlTy P a = true) (t : T Value) (h1 : AHeap) (o : Oper) : rLen P t h1 o a v = some (iv (l.length : Int)) := by
  rw [SlAt.len k ha, List.length_map]
end
theorem row_veq {h : AHeap} {n : Nat} {v : Value} {cs : List (List Value)} (k : SlAt h n v cs) : veq v v = true := by
  rcases k with ⟨_, rfl | rfl⟩ | ⟨b, cap, f, ro, _, rfl, _⟩
  · simp only [veq]
  · simp only [emptyS, veq]
  · simp only [veq, Nat.beq_refl, Bool.and_self]
theorem row_sl {h : AHeap} {n : Nat} {v : Value} {cs : List (List Value)} (k : SlAt h n v cs) : ∃ p m c, v = .slice p m c := by
  rcases k with ⟨_, rfl | rfl⟩ | ⟨b, cap, f, ro, _, rfl, _⟩
  · exact ⟨_, _, _, rfl⟩
  · exact ⟨_, _, _, rfl⟩
  · exact ⟨_, _, _, rfl⟩
theorem ints_sl {h : AHeap} {v : Value} {l : List Int} (k : IAt h v l) : ∃ p m c, v = .slice p m c := by
  rcases k with ⟨_, rfl | rfl | ⟨_, _, rfl⟩⟩ | ⟨_, _, _, _, rfl, _⟩
  · exact ⟨_, _, _, rfl⟩
  · exact ⟨_, _, _, rfl⟩
  · exact ⟨_, _, _, rfl⟩
  · exact ⟨_, _, _, rfl⟩
/-! ## A bank, a truth -/
def bkV (st : Int) (dv lv : Value) : List Value := [iv st, dv, lv]
def tuV (pv rv : Value) : List Value := [pv, rv]
theorem bkV_len (st : Int) (dv lv : Value) : (bkV st dv lv).length = 3 := rfl
theorem tuV_len (pv rv : Value) : (tuV pv rv).length = 2 := rfl
theorem bk0 (st : Int) (dv lv : Value) : (bkV st dv lv)[0]? = some (iv st) := rfl
theorem bk1 (st : Int) (dv lv : Value) : (bkV st dv lv)[1]? = some dv := rfl
theorem bk2 (st : Int) (dv lv : Value) : (bkV st dv lv)[2]? = some lv := rfl
theorem tu0 (pv rv : Value) : (tuV pv rv)[0]? = some pv := rfl
theorem tu1 (pv rv : Value) : (tuV pv rv)[1]? = some rv := rfl
structure BkAt (h : AHeap) (dv lv : Value) (D : List PD) (L : List PL) : Prop where
  dy : SlAt h 3 dv (D.map cD)
  pr : ∀ x, x ∈ D → SlAt h 2 x.1 (x.2.1.map c2)
  ln : SlAt h 3 lv (L.map cL)
  sh : ∀ x, x ∈ L → IAt h x.1 x.2.2.2
structure TuAt (h : AHeap) (pv rv : Value) (T : List PT) (rt : List Int) : Prop where
  pr : SlAt h 1 pv (T.map cT)
  ps : ∀ x, x ∈ T → IAt h x.1 x.2
  rt : IAt h rv rt
theorem BkAt.mono {h h' : AHeap} {dv lv : Value} {D : List PD} {L : List PL} (k : BkAt h dv lv D L) (a : Kp h h') : BkAt h' dv lv D L := ⟨SlAt.mono k.dy a, fun x hx => SlAt.mono (k.pr x hx) a, SlAt.mono k.ln a, fun x hx => (k.sh x hx).mono a⟩
theorem TuAt.mono {h h' : AHeap} {pv rv : Value} {T : List PT} {rt : List Int} (k : TuAt h pv rv T rt) (a : Kp h h') : TuAt h' pv rv T rt := ⟨SlAt.mono k.pr a, fun x hx => (k.ps x hx).mono a, k.rt.mono a⟩
theorem veq_tu {h : AHeap} {pv rv : Value} {T : List PT} {rt : List Int} (k : TuAt h pv rv T rt) : veq (.agg ⟨tuV pv rv⟩) (.agg ⟨tuV pv rv⟩) = true := by
  simp only [tuV, veq, veqA, veqL, row_veq k.pr, k.rt.veq, Bool.and_self]
end Go.Proofs.Mg
