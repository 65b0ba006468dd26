/- The table of the functions on prices, of strings.Join, and of the ends of lists of integers. -/
import Derived.Test.YtljjooaplpkmcacGreatDoorTP
import Derived.Test.YtljjooaplpkmcacGreatDoorEv28
import Derived.Lib.Join
namespace Go.Ev

def max2 (x y : Int) : Int := if y > x then y else x
def min2 (x y : Int) : Int := if y < x then y else x

def joinP (l : List Value) (h : AHeap) : Option Value :=
  match l with
  | [.slice (some ⟨b, off, none⟩) n c, .string ⟨⟨sep⟩⟩] =>
    match h.bl.get b with
    | some (.cells cs _ _) =>
      match strs ((cs.drop off).take n) with
      | some xs => bif Nat.beq xs.length n && Nat.ble (Lib.join (xs.map (·.data.toList)) sep).length 100000 && Nat.ble n 100000 && Nat.ble n c then some (.string ⟨⟨Lib.join (xs.map (·.data.toList)) sep⟩⟩) else none
      | none => none
    | _ => none
  | _ => none

/-- The integers of a slice that is not empty, of these cells. -/
def sliceI (h : AHeap) (b off n : Nat) : Option (List Int) :=
  match h.bl.get b with
  | some (.cells cs _ _) =>
    match intsV ((cs.drop off).take n) with
    | some xs => bif Nat.beq xs.length n && Nat.ble n 100000 then some xs else none
    | none => none
  | _ => none

def maxP (l : List Value) (h : AHeap) : Option Value :=
  match l with
  | [.slice (some ⟨b, off, none⟩) n _] =>
    match sliceI h b off n with
    | some (x :: xs) => some (.int .i64 (xs.foldl max2 x))
    | _ => none
  | _ => none

def leastP (l : List Value) (h : AHeap) : Option Value :=
  match l with
  | [.int .i64 x, .slice (some ⟨b, off, none⟩) n _] =>
    match sliceI h b off n with
    | some xs => some (.int .i64 (xs.foldl min2 x))
    | _ => none
  | [.int .i64 x, .slice none 0 1] => some (.int .i64 x)
  | _ => none

def prim3 : Prim := fun g l h =>
  bif Nat.beq g 64 then joinP l h
  else bif Nat.beq g 53 then maxP l h
  else bif Nat.beq g 54 then leastP l h
  else prim2 g l h
end Go.Ev
