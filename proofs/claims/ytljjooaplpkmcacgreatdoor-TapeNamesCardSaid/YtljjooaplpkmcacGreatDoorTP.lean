/- The table of the functions on prices. -/
import Derived.Test.YtljjooaplpkmcacGreatDoorEv27
namespace Go.Ev

def lastT : List Bool → Int → Int → Int
  | [], _, b => b
  | x :: r, i, b => lastT r (i + 1) (if x then i else b)
def fwd (j : Int) : List Bool → Int → Int → List Bool
  | [], _, _ => []
  | x :: r, i, b => decide (i - (if x then i else b) ≤ j) :: fwd j r (i + 1) (if x then i else b)
def bwp (j a : Int) : List Bool → List Bool → Int → List Bool × Int
  | y :: os, x :: ls, i => let r := bwp j a os ls (i + 1); let f := if x then i else r.2; ((y || decide (f - i ≤ j)) :: r.1, f)
  | _, _, _ => ([], a)
def bw (l : List Bool) (j : Int) (m : Nat) : List Bool × Int := bwp j (800 + j) ((fwd j l 0 (-j - 1)).drop m) (l.drop m) m
def nearL (l : List Bool) (j : Int) : List Bool := (fwd j l 0 (-j - 1)).take 1 ++ (bw l j 1).1
def withinL (lo hi : Int) : List Bool := (List.range 800).map fun (k : Nat) => decide (lo ≤ (k : Int)) && decide ((k : Int) ≤ hi)
def allowsB (full : Bool) (fig i : Int) : Bool := if full then decide (i = fig) else decide (Int.tmod i 80 = fig)
def allowsL (full : Bool) (fig : Int) : List Bool := (List.range 800).map fun (k : Nat) => allowsB full fig k
def firstI : List Bool → Int → Int
  | [], _ => -1
  | x :: r, i => if x then i else firstI r (i + 1)

/-! ## The same, as the kernel reckons it faster -/
def fwdN (j : Nat) : List Bool → Nat → List Bool
  | [], _ => []
  | true :: r, _ => Nat.ble 0 j :: fwdN j r 1
  | false :: r, c => Nat.ble c j :: fwdN j r (Nat.succ c)
theorem fwdN_eq (j : Nat) : ∀ (l : List Bool) (c : Nat) (i b : Int), i - b = c → fwdN j l c = fwd j l i b
  | [], _, _, _, _ => rfl
  | true :: r, c, i, b, h => by
    simp only [fwdN, fwd, if_true]
    rw [fwdN_eq j r 1 (i + 1) i (by omega)]
    congr 1
    rw [Bool.eq_iff_iff, Nat.ble_eq, decide_eq_true_iff]; omega
  | false :: r, c, i, b, h => by
    simp only [fwdN, fwd, Bool.false_eq_true, if_false]
    rw [fwdN_eq j r (c + 1) (i + 1) b (by omega)]
    congr 1
    rw [Bool.eq_iff_iff, Nat.ble_eq, decide_eq_true_iff]; omega

def stepN (j : Nat) (y x : Bool) : List Bool × Nat → List Bool × Nat
  | (l, d) =>
    match x with
    | true => ((y || Nat.ble 0 j) :: l, 0)
    | false => ((y || Nat.ble (Nat.succ d) j) :: l, Nat.succ d)
def bwpN (j : Nat) : List Bool → List Bool → List Bool × Nat
  | y :: os, x :: ls => stepN j y x (bwpN j os ls)
  | _, _ => ([], j)
theorem bwpN_eq (j : Nat) (a : Int) : ∀ (os ls : List Bool) (i : Int), os.length = ls.length → a - (i + os.length) = j → (bwpN j os ls).1 = (bwp j a os ls i).1 ∧ (bwp j a os ls i).2 - i = (bwpN j os ls).2
  | [], [], i, _, h => by simp [bwpN, bwp] at h ⊢; omega
  | y :: os, x :: ls, i, hl, h => by
    obtain ⟨h1, h2⟩ := bwpN_eq j a os ls (i + 1) (by simpa using hl) (by simp at h; omega)
    simp only [bwpN, bwp]
    generalize hb : bwpN j os ls = q at h1 h2
    obtain ⟨l, d⟩ := q
    simp only at h1 h2
    cases x with
    | true =>
      simp only [stepN, if_true, h1]
      refine ⟨?_, by omega⟩
      congr 2
      rw [Bool.eq_iff_iff, Nat.ble_eq, decide_eq_true_iff]; omega
    | false =>
      simp only [stepN, Bool.false_eq_true, if_false, h1]
      refine ⟨?_, by omega⟩
      congr 2
      rw [Bool.eq_iff_iff, Nat.ble_eq, decide_eq_true_iff]; omega

def consB : List Bool → List Bool → (List Bool → List Bool → List Bool) → List Bool
  | y :: os, _ :: ls, f => y :: f os ls
  | _, _, _ => []
def nearN (l : List Bool) (j : Nat) : List Bool := consB (fwdN j l (Nat.succ j)) l fun os ls => (bwpN j os ls).1
theorem fwd_len (j : Int) : ∀ (l : List Bool) (i b : Int), (fwd j l i b).length = l.length
  | [], _, _ => rfl
  | _ :: l, _, _ => by simp [fwd, fwd_len j l]
theorem nearN_eq (l : List Bool) (j : Nat) (hl : l.length = 800) : nearN l j = nearL l j := by
  unfold nearN nearL bw
  rw [fwdN_eq j l (Nat.succ j) 0 (-(j : Int) - 1) (by simp only [Nat.succ_eq_add_one]; omega)]
  have h0 := fwd_len j l 0 (-(j : Int) - 1)
  cases hf : fwd j l 0 (-(j : Int) - 1) with
  | nil => rw [hf] at h0; simp at h0; omega
  | cons y os =>
    cases hq : l with
    | nil => rw [hq] at hl; simp at hl
    | cons x ls =>
      rw [hf, hq] at h0
      rw [hq] at hl
      simp only [List.length_cons] at h0 hl
      simp only [consB, List.take_succ_cons, List.take_zero, List.drop_succ_cons, List.drop_zero, List.cons_append, List.nil_append]
      rw [(bwpN_eq j (800 + j) os ls ((1 : Nat) : Int) (by omega) (by omega)).1]

def listN (f : Nat → Bool) : Nat → Nat → List Bool
  | 0, _ => []
  | Nat.succ n, k => f k :: listN f n (Nat.succ k)
theorem listN_eq (f : Nat → Bool) : ∀ (n k : Nat), listN f n k = (List.range n).map fun i => f (k + i)
  | 0, _ => rfl
  | n + 1, k => by
    simp only [listN, listN_eq f n, List.range_succ_eq_map, List.map_cons, List.map_map, Nat.add_zero, Nat.succ_eq_add_one]
    congr 1
    apply List.map_congr_left
    intro i _
    simp only [Function.comp, Nat.succ_eq_add_one]
    congr 1; omega
def withinN (lo hi : Nat) : List Bool := listN (fun k => Nat.ble lo k && Nat.ble k hi) 800 0
theorem withinN_eq (lo hi : Nat) : withinN lo hi = withinL lo hi := by
  unfold withinN withinL
  rw [listN_eq]
  apply List.map_congr_left
  intro k _
  rw [Nat.zero_add]
  congr 1 <;> rw [Bool.eq_iff_iff, Nat.ble_eq, decide_eq_true_iff] <;> omega
def allowsN (full : Bool) (fig : Nat) : List Bool :=
  match full with
  | true => listN (fun k => Nat.beq k fig) 800 0
  | false => listN (fun k => Nat.beq (Nat.mod k 80) fig) 800 0
theorem allowsN_eq (full : Bool) (fig : Nat) : allowsN full fig = allowsL full fig := by
  unfold allowsL allowsB
  cases full with
  | true =>
    simp only [allowsN, if_true]
    rw [listN_eq]
    apply List.map_congr_left
    intro k _
    rw [Nat.zero_add, Bool.eq_iff_iff, Nat.beq_eq, decide_eq_true_iff]; omega
  | false =>
    simp only [allowsN, Bool.false_eq_true, if_false]
    rw [listN_eq]
    apply List.map_congr_left
    intro k _
    rw [Nat.zero_add, Bool.eq_iff_iff, Nat.beq_eq, decide_eq_true_iff]
    show k % 80 = fig ↔ _
    rw [show Int.tmod (k : Int) 80 = ((k % 80 : Nat) : Int) from rfl]; omega
def firstN : List Bool → Nat → Int
  | [], _ => -1
  | true :: _, k => .ofNat k
  | false :: r, k => firstN r (Nat.succ k)
theorem firstN_eq : ∀ (l : List Bool) (k : Nat), firstN l k = firstI l k
  | [], _ => rfl
  | true :: _, k => rfl
  | false :: r, k => by simp only [firstN, firstI, Bool.false_eq_true, if_false]; rw [firstN_eq r (Nat.succ k)]; rfl
def lastN : List Bool → Nat → Int → Int
  | [], _, b => b
  | true :: r, k, _ => lastN r (Nat.succ k) (.ofNat k)
  | false :: r, k, b => lastN r (Nat.succ k) b
theorem lastN_eq : ∀ (l : List Bool) (k : Nat) (b : Int), lastN l k b = lastT l k b
  | [], _, _ => rfl
  | true :: r, k, b => by simp only [lastN, lastT, if_true]; rw [lastN_eq r (Nat.succ k)]; rfl
  | false :: r, k, b => by simp only [lastN, lastT, Bool.false_eq_true, if_false]; rw [lastN_eq r (Nat.succ k)]; rfl
def andN : List Bool → List Bool → List Bool
  | true :: a, y :: b => y :: andN a b
  | false :: a, _ :: b => false :: andN a b
  | _, _ => []
theorem andN_eq : ∀ (a b : List Bool), andN a b = List.zipWith (· && ·) a b
  | [], _ => by simp [andN]
  | x :: a, [] => by cases x <;> simp [andN]
  | true :: a, y :: b => by simp [andN, andN_eq a b]
  | false :: a, y :: b => by simp [andN, andN_eq a b]

def ofB (o : Option (List Bool)) (K : List Bool → Option Value) : Option Value :=
  match o with
  | some l => bif Nat.beq l.length 800 then K l else none
  | none => none
def aggB (l : List Bool) : Value := .agg ⟨l.map .bool⟩

/-- Is there one? -/
def someB : List Bool → Bool
  | [] => false
  | true :: _ => true
  | false :: r => someB r

/-- What the single functions return. -/
def prim1 : Prim := fun g l _ =>
  bif Nat.beq g 33 then (match l with | [.agg ⟨[.int .i64 lo, .int .i64 hi]⟩, .int .i64 i] => some (.bool (decide (lo ≤ i) && decide (i ≤ hi))) | _ => none)
  else bif Nat.beq g 51 then (match l with | [.int .i64 i] => some (.agg ⟨[.int .i64 i, .int .i64 i]⟩) | _ => none)
  else bif Nat.beq g 50 then (match l with | [.agg ⟨vs⟩, .int .i64 (.ofNat k)] => ofB (bools vs) fun l => (match l[k]? with | some x => some (.bool x) | none => none) | _ => none)
  else bif Nat.beq g 48 then
    (match l with | [.agg ⟨[.int .i64 _, .int .i64 _, .int .i64 _, .int .i64 fig, .bool full, .int .i64 _, .int .i64 _, .int .i64 _]⟩, .int .i64 i] => some (.bool (allowsB full fig i)) | _ => none)
  else none

/-- Whether a price is as asked. -/
def asked : Value → Option (List Bool)
  | .func (.func 50) ⟨[.agg ⟨vs⟩]⟩ ⟨[]⟩ => (match bools vs with | some l => bif Nat.beq l.length 800 then some l else none | none => none)
  | .func (.func 48) ⟨[.agg ⟨[.int .i64 _, .int .i64 _, .int .i64 _, .int .i64 (.ofNat fig), .bool full, .int .i64 _, .int .i64 _, .int .i64 _]⟩]⟩ ⟨[]⟩ => some (allowsN full fig)
  | _ => none

def prim2 : Prim := fun g l h =>
  bif Nat.beq g 45 then (match l with | [.agg ⟨vs⟩, .int .i64 (.ofNat j)] => ofB (bools vs) fun l => bif Nat.ble j 1000000 then some (aggB (nearN l j)) else none | _ => none)
  else bif Nat.beq g 47 then (match l with | [.agg ⟨vs⟩, f] => ofB (bools vs) fun l => (match asked f with | some bs => some (aggB (andN l bs)) | none => none) | _ => none)
  else bif Nat.beq g 43 then (match l with | [.agg ⟨[.int .i64 (.ofNat lo), .int .i64 (.ofNat hi)]⟩] => some (aggB (withinN lo hi)) | _ => none)
  else bif Nat.beq g 20 then (match l with | [.agg ⟨vs⟩] => ofB (bools vs) fun l => some (.agg ⟨[.int .i64 (firstN l 0), .int .i64 (lastN l 0 (firstN l 0))]⟩) | _ => none)
  else bif Nat.beq g 42 then (match l with | [.agg ⟨vs⟩] => ofB (bools vs) fun l => some (.bool (someB l)) | _ => none)
  else prim1 g l h
end Go.Ev
