import Derived.Test.YtemmpnipmklacaaChecked
import Derived.Test.YtemmpnipmklacaaEvD
import Derived.IntWalk
namespace Go.Proofs.Rg
open Go Go.Ev
set_option linter.unusedSimpArgs false

theorem hmixT : Try.prog.follows .mixedOrders = true := Try.checked.mixed
/-! ## Types -/
theorem s3 : sizeB Try.prog 3 = some (0 + 1) := by kernel_rfl
theorem s3' : sizeB Try.prog 3 = some 1 := by kernel_rfl
theorem p3 (c : List Value) (o : Nat) : partL Try.prog 3 c o = c[o]? := by kernel_rfl
theorem fA0 : fieldOf Try.prog 24 0 = some (0, 3) := by kernel_rfl
theorem fA1 : fieldOf Try.prog 24 1 = some (1, 22) := by kernel_rfl
theorem fB0 : fieldOf Try.prog 33 0 = some (0, 3) := by kernel_rfl
theorem fB1 : fieldOf Try.prog 33 1 = some (1, 31) := by kernel_rfl
theorem pA (a b : Value) : partL Try.prog 24 [a, b] 0 = some (.agg ⟨[a, b]⟩) := by kernel_rfl
theorem pB (a b : Value) : partL Try.prog 33 [a, b] 0 = some (.agg ⟨[a, b]⟩) := by kernel_rfl
theorem sAc : sizeB Try.prog 22 = some (0 + 1) := by kernel_rfl
theorem sBc : sizeB Try.prog 31 = some (0 + 1) := by kernel_rfl
theorem sAc' : sizeB Try.prog 22 = some 1 := by kernel_rfl
theorem sBc' : sizeB Try.prog 31 = some 1 := by kernel_rfl
theorem pAc (c : List Value) (o : Nat) : partL Try.prog 22 c o = c[o]? := by kernel_rfl
theorem pBc (c : List Value) (o : Nat) : partL Try.prog 31 c o = c[o]? := by kernel_rfl
theorem isA : isSlTy Try.prog 22 = true := by kernel_rfl
theorem isB : isSlTy Try.prog 31 = true := by kernel_rfl
theorem isI : isSlTy Try.prog 27 = true := by kernel_rfl
theorem slA : slOf Try.prog 22 = some 48 := by kernel_rfl
theorem slB : slOf Try.prog 31 = some 75 := by kernel_rfl
theorem slI : slOf Try.prog 27 = some 3 := by kernel_rfl
theorem sK : sizeB Try.prog 48 = some 4 := by kernel_rfl
theorem sL : sizeB Try.prog 75 = some 4 := by kernel_rfl
theorem fK0 : fieldOf Try.prog 48 0 = some (0, 3) := by kernel_rfl
theorem fK1 : fieldOf Try.prog 48 1 = some (1, 3) := by kernel_rfl
theorem fK2 : fieldOf Try.prog 48 2 = some (2, 3) := by kernel_rfl
theorem fK3 : fieldOf Try.prog 48 3 = some (3, 3) := by kernel_rfl
theorem fL0 : fieldOf Try.prog 75 0 = some (0, 3) := by kernel_rfl
theorem fL1 : fieldOf Try.prog 75 1 = some (1, 3) := by kernel_rfl
theorem fL2 : fieldOf Try.prog 75 2 = some (2, 3) := by kernel_rfl
theorem fL3 : fieldOf Try.prog 75 3 = some (3, 3) := by kernel_rfl
theorem zK : zeroOf Try.prog 48 = some (.agg ⟨[iv 0, iv 0, iv 0, iv 0]⟩) := by kernel_rfl
theorem zL : zeroOf Try.prog 75 = some (.agg ⟨[iv 0, iv 0, iv 0, iv 0]⟩) := by kernel_rfl
theorem pK (c : List Value) (o : Nat) : partL Try.prog 48 c o = bif Nat.ble (Nat.add o 4) c.length then some (.agg ⟨(c.drop o).take 4⟩) else none := by kernel_rfl
theorem pL (c : List Value) (o : Nat) : partL Try.prog 75 c o = bif Nat.ble (Nat.add o 4) c.length then some (.agg ⟨(c.drop o).take 4⟩) else none := by kernel_rfl

abbrev ptr0 (B : Nat) : Value := .pointer (some ⟨B, 0, none⟩)
/-! ## Contracts in a heap -/
abbrev C4 := Int × Int × Int × Int
abbrev C4.fr (c : C4) : Int := c.1
abbrev C4.to (c : C4) : Int := c.2.1
abbrev C4.nu (c : C4) : Int := c.2.2.1
abbrev C4.pr (c : C4) : Int := c.2.2.2
def cc (c : C4) : List Value := [iv c.1, iv c.2.1, iv c.2.2.1, iv c.2.2.2]
def CAt (h : AHeap) (v : Value) (cs : List C4) : Prop := SlAt h 4 v (cs.map cc)
theorem CAt.mono {h h' : AHeap} {v : Value} {cs : List C4} (k : CAt h v cs) (hk : Kp h h') : CAt h' v cs := SlAt.mono k hk
theorem CAt.len {h : AHeap} {v : Value} {cs : List C4} (k : CAt h v cs) {a : TypeId} (ha : isSlTy Try.prog a = true) (t : T Value) (h1 : AHeap) (o : Oper) : rLen Try.prog t h1 o a v = some (iv (cs.length : Int)) := by
  rw [SlAt.len k ha, List.length_map]
theorem CAt.idx {h : AHeap} {v : Value} {cs : List C4} (k : CAt h v cs) {a e : TypeId} (h1 : slOf Try.prog a = some e) (h2 : sizeB Try.prog e = some 4) {i : Nat} {c : C4} (hi : cs[i]? = some c) :
    ∃ b f ro cells, (∀ kd : IntKind, rIndexAddr Try.prog a v (.int kd (i : Int)) = some (.pointer (some ⟨b, i * 4, none⟩))) ∧ b < h.nx ∧ h.bl.get b = some (.cells cells f ro) ∧
      (cells.drop (i * 4)).take 4 = cc c ∧ Nat.ble (Nat.add (i * 4) 4) cells.length = true ∧ cells[i * 4]? = some (iv c.1) ∧ cells[i * 4 + 1]? = some (iv c.2.1) ∧ cells[i * 4 + 2]? = some (iv c.2.2.1) ∧ cells[i * 4 + 3]? = some (iv c.2.2.2) := by
  have hlt : i < cs.length := (List.getElem?_eq_some_iff.1 hi).1
  obtain ⟨b, f, ro, q1, q2, q3⟩ := SlAt.idx k h1 h2 (i := i) (by rw [List.length_map]; exact hlt)
  have hm : (cs.map cc)[i]? = some (cc c) := by rw [List.getElem?_map, hi]; rfl
  obtain ⟨u4, u5⟩ := flat_part (SlAt.sized k) hm
  have u0 := flat_get (SlAt.sized k) (j := 0) hm (x := iv c.1) rfl
  rw [Nat.add_zero] at u0
  exact ⟨b, f, ro, _, q1, q2, q3, u4, Nat.ble_eq_true_of_le (by show i * 4 + 4 ≤ _; exact u5), u0, flat_get (SlAt.sized k) (j := 1) hm rfl, flat_get (SlAt.sized k) (j := 2) hm rfl, flat_get (SlAt.sized k) (j := 3) hm rfl⟩
theorem cc_len (c : C4) : (cc c).length = 4 := rfl
theorem part_cc {P : Program} {ty : TypeId} (hp : ∀ (c : List Value) (o : Nat), partL P ty c o = bif Nat.ble (Nat.add o 4) c.length then some (.agg ⟨(c.drop o).take 4⟩) else none) {cells : List Value} {o : Nat} {c : C4} (h1 : (cells.drop o).take 4 = cc c) (h2 : Nat.ble (Nat.add o 4) cells.length = true) : partL P ty cells o = some (.agg ⟨cc c⟩) := by
  rw [hp, h2, cond_true, h1]
theorem part_c0 {P : Program} {ty : TypeId} (hp : ∀ (c : List Value) (o : Nat), partL P ty c o = bif Nat.ble (Nat.add o 4) c.length then some (.agg ⟨(c.drop o).take 4⟩) else none) {c : C4} : partL P ty (cc c) 0 = some (.agg ⟨cc c⟩) := by
  rw [hp]; rfl
theorem cc0 (c : C4) : (cc c)[0]? = some (iv c.1) := rfl
theorem cc1 (c : C4) : (cc c)[1]? = some (iv c.2.1) := rfl
theorem cc2 (c : C4) : (cc c)[2]? = some (iv c.2.2.1) := rfl
theorem cc3 (c : C4) : (cc c)[3]? = some (iv c.2.2.2) := rfl
end Go.Proofs.Rg
