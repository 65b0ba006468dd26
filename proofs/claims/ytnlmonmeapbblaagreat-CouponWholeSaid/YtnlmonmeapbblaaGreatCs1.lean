import Derived.Test.YtnlmonmeapbblaaGreatCr2
import Derived.Test.YtnlmonmeapbblaaGreatEvD
namespace Go.Ev
open Go.RowKit
section
variable {P : Program} {n : Nat} {t : T Value} {h : AHeap} {ops : Array Oper} {call : CallT} {dst : Option Tmp} {rest : List Oper} {KR : T Value → AHeap → Bool}
theorem wr_grown {lo sz F : Nat} {v : Value} {cs : List (List Value)} {c : List Value} {e : TypeId} {st xt e' : TypeId} {s x : Operand} {bx cx fx : Nat} {rx : Bool} (hst : slOf P st = some e) (hxt : P.underlying xt = some (.slice e')) (hs : ev P t s = v) (hx : ev P t x = .slice (some ⟨bx, 0, none⟩) 1 cx)
    (k : App lo h sz v cs F) (hHh : lo ≤ h.nx) (hsz : sizeB P e = some sz) (hc : c.length = sz) (hpos : 0 < sz) (hbx : h.bl.get bx = some (.cells c fx rx)) (hnum : numOk P e 1 = true) (hn : cs.length + 1 < bigNat)
    (kk : ∀ v' h' F', Grown lo h h' sz v' cs c F F' → putR P call ops n rest dst t v' h' KR = true) :
    wrR P call ops n rest (.call ⟨.builtin .append, #[s, x], #[st, xt]⟩) dst t h KR = true := by
  obtain ⟨v', h', F', hw, hg⟩ := aw_append (call := call) (dst := dst) (ty := 0) (pos := "") (af := #[]) (g := none) hst hxt hs hx k hHh hsz hc hpos hbx hnum hn
  unfold wrR
  rw [hw]
  exact kk v' h' F' hg
end
structure Two1 (lo : Nat) (h : AHeap) (xs ys : List (List Value)) (xv yv : Value) (F1 F2 : Nat) : Prop where
  x : App lo h 1 xv xs F1
  y : App lo h 1 yv ys F2
  fx : xs ≠ [] → F1 < h.nx
  fy : ys ≠ [] → F2 < h.nx
  ne : xs ≠ [] → ys ≠ [] → F1 ≠ F2 ∧ blk xv ≠ some F2 ∧ blk yv ≠ some F1
theorem App.blk_lt1 {lo : Nat} {h : AHeap} {sz F b : Nat} {v : Value} {cs : List (List Value)} (k : App lo h sz v cs F) (hb : blk v = some b) : b < h.nx := by
  rcases k with ⟨_, rfl⟩ | ⟨b', l, _, rfl, _, k3, _⟩
  · cases hb
  · cases hb; exact k3
section
variable {lo : Nat} {h h' : AHeap} {xs ys : List (List Value)} {xv yv xv' : Value} {F1 F2 F1' : Nat} {c : List Value}
theorem Two1.symm (k : Two1 lo h xs ys xv yv F1 F2) : Two1 lo h ys xs yv xv F2 F1 :=
  ⟨k.y, k.x, k.fy, k.fx, fun a b => ⟨fun e => (k.ne b a).1 e.symm, (k.ne b a).2.2, (k.ne b a).2.1⟩⟩
theorem Two1.mono (k : Two1 lo h xs ys xv yv F1 F2) (a : Kp h h') : Two1 lo h' xs ys xv yv F1 F2 :=
  ⟨k.x.mono a, k.y.mono a, fun q => Nat.lt_of_lt_of_le (k.fx q) a.1, fun q => Nat.lt_of_lt_of_le (k.fy q) a.1, k.ne⟩
theorem Two1.grow (k : Two1 lo h xs ys xv yv F1 F2) (g : Grown lo h h' 1 xv' xs c F1 F1') : Two1 lo h' (xs ++ [c]) ys xv' yv F1' F2 := by
  have hn := g.sm.1
  obtain ⟨b, n, m, rfl, hb⟩ := g.blk
  refine ⟨g.app, App.left k.y g.left fun hx hy => ⟨fun e => (k.ne hx hy).1 e.symm, (k.ne hx hy).2.2⟩, fun _ => g.app.fam_lt (by simp), fun q => by have := k.fy q; omega, fun _ hy => ⟨fun e => ?_, fun e => ?_, fun e => ?_⟩⟩
  · have := k.fy hy
    by_cases hx : xs = []
    · have := g.fresh hx; omega
    · rw [g.same hx] at e; exact (k.ne hx hy).1 e
  · have := k.fy hy
    have e : b = F2 := by cases e; rfl
    omega
  · by_cases hx : xs = []
    · have h1 := g.fresh hx
      have h2 := App.blk_lt1 k.y e
      omega
    · rw [g.same hx] at e; exact (k.ne hx hy).2.2 e
end
end Go.Ev
namespace Go.Proofs.Cp
open Go Go.Ev
theorem sliceA {t : T Value} {h : AHeap} {o : Oper} {B : Nat} {hs : Int} {x : Operand} (hx : ev Tryz.prog t x = iv hs) (h1 : 1 ≤ hs) (h4 : hs ≤ 4) : rSlice Tryz.prog t h o 92 none (some x) (.pointer (some ⟨B, 0, none⟩)) = some (.slice (some ⟨B, 0, none⟩) hs.toNat 4) := by
  show rSliceA Tryz.prog 92 none (some (ev Tryz.prog t x)) B 0 = _
  rw [hx]
  obtain rfl | rfl | rfl | rfl : hs = 1 ∨ hs = 2 ∨ hs = 3 ∨ hs = 4 := by omega
  · kernel_rfl
  · kernel_rfl
  · kernel_rfl
  · kernel_rfl
end Go.Proofs.Cp
