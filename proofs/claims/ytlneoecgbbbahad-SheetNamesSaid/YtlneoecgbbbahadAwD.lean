/- The states between the statements of the law. -/
import Derived.Test.YtlneoecgbbbahadHD
import Derived.Test.YtlneoecgbbbahadProg
import Derived.Test.YtlneoecgbbbahadEvC
namespace Go.Proofs.Ytlneoecgbbbahad.aw
open Go Go.Ev
set_option maxRecDepth 10000000

noncomputable def lawC : Code := ((Try.prog.funcs[17]?).bind (·.body)).getD .skip
noncomputable def lawN : Nat := ((Try.prog.funcs[17]?).map (·.ntmps)).getD 0
noncomputable def lawF : Func := (Try.prog.funcs[17]?).getD default
noncomputable def t0 : T Value := .leaf
noncomputable def h0 : AHeap := ⟨.leaf, 0, .leaf⟩
noncomputable def t1 : T Value := (.node .leaf (some (.bool false)) .leaf)
noncomputable def h1 : AHeap := ⟨.leaf, 0, .leaf⟩
noncomputable def tn0 : T Value := .node (.node (.node .leaf (some bad) .leaf) none .leaf) none (.node (.node .leaf (some bad) .leaf) none .leaf)
noncomputable def tn1 : T Value := .node (.node (.node .leaf (some bad) .leaf) none .leaf) none .leaf
noncomputable def t2 : T Value := (.node (.node tn0 (some (.slice (some ⟨1279, 0, none⟩) 3 3)) tn1) (some (.bool false)) (.node tn1 (some (.int .i64 (.ofNat 0))) tn1))
noncomputable def bn2 : T AObj := .node (.node (.node .leaf none (.node (.node .leaf (some (.cells [(.int .i64 (.ofNat 0)), (.int .i64 (.ofNat 1)), (.int .i64 (.ofNat 2))] 1259 false)) .leaf) none .leaf)) none .leaf) none .leaf
noncomputable def bn3 : T AObj := .node (.node (.node (.node bn2 none .leaf) none .leaf) none .leaf) none .leaf
noncomputable def fn4 : T (List Nat) := .node (.node (.node .leaf none (.node (.node .leaf (some [1]) .leaf) none .leaf)) none .leaf) none .leaf
noncomputable def fn5 : T (List Nat) := .node .leaf none (.node (.node .leaf none (.node .leaf none (.node .leaf none (.node (.node (.node .leaf (some [1279, 1268]) .leaf) none .leaf) none .leaf)))) none .leaf)
noncomputable def fn6 : T (List Nat) := .node (.node (.node (.node fn4 none .leaf) none .leaf) none .leaf) none fn5
noncomputable def h2 : AHeap := ⟨(.node (.node bn3 none .leaf) none .leaf), 1280, (.node (.node fn6 none .leaf) none .leaf)⟩
noncomputable def tn7 : T Value := .node (.node .leaf (some bad) .leaf) none (.node .leaf (some bad) .leaf)
noncomputable def tn8 : T Value := .node tn7 (some (.int .i64 (.ofNat 0))) (.node (.node .leaf (some bad) .leaf) none .leaf)
noncomputable def t3 : T Value := (.node (.node (.node tn7 (some (.pointer (some ⟨2576, 0, none⟩))) (.node (.node .leaf (some bad) .leaf) none .leaf)) (some (.slice (some ⟨1279, 0, none⟩) 3 3)) tn0) (some (.bool false)) (.node tn8 (some (.int .i64 (.ofNat 0))) tn0))
noncomputable def bn9 : T AObj := .node (.node (.node .leaf none (.node (.node (.node (.node (.node .leaf none (.node (.node .leaf (some (.cells [(.int .i64 (.ofNat 0)), (.int .i64 (.ofNat 2))] 2576 false)) .leaf) none .leaf)) none .leaf) none .leaf) none .leaf) none .leaf)) none .leaf) none .leaf
noncomputable def fn10 : T (List Nat) := .node (.node (.node .leaf none (.node (.node (.node (.node (.node .leaf none (.node (.node .leaf (some [2576]) .leaf) none .leaf)) none .leaf) none .leaf) none .leaf) none .leaf)) none .leaf) none .leaf
noncomputable def h3 : AHeap := ⟨(.node (.node bn3 none .leaf) none (.node bn9 none .leaf)), 2577, (.node (.node fn6 none .leaf) none (.node fn10 none .leaf))⟩
noncomputable def t4 : T Value := (.node (.node (.node tn7 (some (.pointer (some ⟨2576, 0, none⟩))) tn7) (some (.slice (some ⟨1279, 0, none⟩) 3 3)) (.node tn7 (some (.pointer (some ⟨3857, 0, none⟩))) tn7)) (some (.bool false)) (.node (.node tn7 (some (.int .i64 (.ofNat 0))) tn7) (some (.int .i64 (.ofNat 0))) tn8))
noncomputable def bn11 : T AObj := .node .leaf none (.node (.node (.node (.node .leaf none (.node .leaf none (.node .leaf none (.node .leaf (some (.cells [(.int .i64 (.ofNat 0)), (.int .i64 (.ofNat 1))] 3857 false)) .leaf)))) none .leaf) none .leaf) none .leaf)
noncomputable def fn12 : T (List Nat) := .node (.node (.node (.node .leaf none (.node .leaf none (.node .leaf none (.node .leaf (some [3857]) .leaf)))) none .leaf) none .leaf) none .leaf
noncomputable def h4 : AHeap := ⟨(.node (.node bn3 none (.node (.node bn11 none .leaf) none .leaf)) none (.node bn9 none .leaf)), 3858, (.node (.node fn6 none (.node (.node (.node .leaf none fn12) none .leaf) none .leaf)) none (.node fn10 none .leaf))⟩
noncomputable def tn13 : T Value := .node (.node (.node .leaf (some bad) .leaf) (some bad) .leaf) none (.node .leaf (some bad) .leaf)
noncomputable def tn14 : T Value := .node (.node (.node .leaf (some bad) .leaf) (some bad) .leaf) (some (.int .i64 (.ofNat 0))) (.node .leaf (some bad) .leaf)
noncomputable def t5 : T Value := (.node (.node (.node (.node (.node (.node .leaf (some bad) .leaf) (some bad) .leaf) (some (.slice (some ⟨5122, 0, none⟩) 1 1)) (.node .leaf (some bad) .leaf)) (some (.pointer (some ⟨2576, 0, none⟩))) tn7) (some (.slice (some ⟨1279, 0, none⟩) 3 3)) (.node tn13 (some (.pointer (some ⟨3857, 0, none⟩))) tn7)) (some (.bool false)) (.node (.node tn14 (some (.int .i64 (.ofNat 0))) tn7) (some (.int .i64 (.ofNat 0))) (.node tn13 (some (.int .i64 (.ofNat 0))) tn7)))
noncomputable def bn15 : T AObj := .node bn9 none (.node (.node (.node (.node (.node (.node (.node (.node (.node .leaf none (.node (.node .leaf (some (.cells [(.int .i64 (.ofNat 0))] 5121 false)) .leaf) none .leaf)) none .leaf) none .leaf) none .leaf) none .leaf) none .leaf) none .leaf) none .leaf) none .leaf)
noncomputable def fn16 : T (List Nat) := .node (.node (.node (.node (.node (.node (.node .leaf none (.node (.node .leaf (some [5122]) .leaf) none .leaf)) none .leaf) none .leaf) none .leaf) none .leaf) none .leaf) none fn12
noncomputable def fn17 : T (List Nat) := .node (.node (.node (.node (.node fn4 none .leaf) none .leaf) none .leaf) none .leaf) none .leaf
noncomputable def h5 : AHeap := ⟨(.node (.node bn3 none (.node (.node bn11 none .leaf) none .leaf)) none bn15), 5128, (.node (.node fn6 none (.node (.node fn16 none .leaf) none .leaf)) none (.node fn10 none (.node fn17 none .leaf)))⟩
noncomputable def tn18 : T Value := .node (.node (.node .leaf (some bad) .leaf) (some bad) .leaf) (some (.slice (some ⟨5122, 0, none⟩) 1 1)) (.node (.node .leaf (some bad) .leaf) (some bad) .leaf)
noncomputable def tn19 : T Value := .node (.node (.node .leaf (some bad) .leaf) (some bad) .leaf) (some (.int .i64 (.ofNat 0))) (.node (.node .leaf (some bad) .leaf) (some bad) .leaf)
noncomputable def t6 : T Value := (.node (.node (.node tn18 (some (.pointer (some ⟨2576, 0, none⟩))) tn13) (some (.slice (some ⟨1279, 0, none⟩) 3 3)) (.node (.node (.node (.node .leaf (some bad) .leaf) (some bad) .leaf) (some (.slice (some ⟨5279, 0, none⟩) 1 1)) (.node .leaf (some bad) .leaf)) (some (.pointer (some ⟨3857, 0, none⟩))) tn13)) (some (.bool false)) (.node (.node tn19 (some (.int .i64 (.ofNat 0))) tn13) (some (.int .i64 (.ofNat 0))) (.node tn14 (some (.int .i64 (.ofNat 0))) tn13)))
noncomputable def bn20 : T AObj := .node (.node (.node (.node bn2 none (.node (.node .leaf none (.node (.node (.node .leaf none (.node (.node .leaf (some (.cells [(.int .i64 (.ofNat 3))] 5278 false)) .leaf) none .leaf)) none .leaf) none .leaf)) none .leaf)) none .leaf) none .leaf) none .leaf
noncomputable def bn21 : T AObj := .node (.node bn20 none (.node (.node bn11 none .leaf) none .leaf)) none bn15
noncomputable def fn22 : T (List Nat) := .node (.node (.node (.node fn4 none (.node (.node .leaf none fn4) none .leaf)) none .leaf) none .leaf) none fn5
noncomputable def fn23 : T (List Nat) := .node fn10 none (.node fn17 none (.node .leaf none (.node .leaf none (.node (.node (.node .leaf none (.node (.node (.node .leaf none (.node (.node .leaf (some [5279, 5278]) .leaf) none .leaf)) none .leaf) none .leaf)) none .leaf) none .leaf))))
noncomputable def fn24 : T (List Nat) := .node (.node fn22 none (.node (.node fn16 none .leaf) none .leaf)) none fn23
noncomputable def h6 : AHeap := ⟨bn21, 5293, fn24⟩
noncomputable def tn25 : T Value := .node (.node (.node .leaf (some bad) .leaf) (some bad) .leaf) none (.node (.node .leaf (some bad) .leaf) (some bad) .leaf)
noncomputable def t7 : T Value := (.node (.node (.node tn18 (some (.pointer (some ⟨2576, 0, none⟩))) (.node (.node (.node .leaf (some bad) .leaf) (some bad) .leaf) (some (.int .i64 (.ofNat 3))) (.node (.node .leaf (some bad) .leaf) (some bad) .leaf))) (some (.slice (some ⟨1279, 0, none⟩) 3 3)) (.node (.node (.node (.node .leaf (some bad) .leaf) (some bad) .leaf) (some (.slice (some ⟨5279, 0, none⟩) 1 1)) (.node (.node .leaf (some bad) .leaf) (some bad) .leaf)) (some (.pointer (some ⟨3857, 0, none⟩))) tn25)) (some (.bool false)) (.node (.node tn19 (some (.int .i64 (.ofNat 0))) tn19) (some (.int .i64 (.ofNat 0))) (.node tn19 (some (.int .i64 (.ofNat 0))) tn25)))
noncomputable def h7 : AHeap := ⟨bn21, 5367, fn24⟩
noncomputable def tn26 : T Value := .node (.node .leaf (some bad) .leaf) (some bad) (.node .leaf (some bad) .leaf)
noncomputable def tn27 : T Value := .node (.node tn26 (some (.int .i64 (.ofNat 0))) (.node (.node .leaf (some bad) .leaf) (some bad) .leaf)) (some (.int .i64 (.ofNat 0))) tn19
noncomputable def t8 : T Value := (.node (.node (.node (.node tn26 (some (.slice (some ⟨5122, 0, none⟩) 1 1)) (.node (.node .leaf (some bad) .leaf) (some bad) .leaf)) (some (.pointer (some ⟨2576, 0, none⟩))) (.node tn26 (some (.int .i64 (.ofNat 3))) (.node (.node .leaf (some bad) .leaf) (some bad) .leaf))) (some (.slice (some ⟨1279, 0, none⟩) 3 3)) (.node (.node tn26 (some (.slice (some ⟨5279, 0, none⟩) 1 1)) (.node (.node .leaf (some bad) .leaf) (some bad) .leaf)) (some (.pointer (some ⟨3857, 0, none⟩))) (.node (.node (.node .leaf (some bad) .leaf) (some bad) .leaf) (some (.slice (some ⟨6601, 0, none⟩) 3 3)) (.node (.node .leaf (some bad) .leaf) (some bad) .leaf)))) (some (.bool false)) (.node tn27 (some (.int .i64 (.ofNat 0))) tn27))
noncomputable def h8 : AHeap := ⟨(.node (.node bn20 none (.node (.node bn11 none (.node (.node (.node .leaf none (.node .leaf none (.node .leaf none (.node (.node (.node .leaf none (.node .leaf (some (.cells [(.int .i64 (.ofNat 1)), (.int .i64 (.ofNat 2)), (.int .i64 (.ofNat 3))] 6601 false)) .leaf)) none .leaf) none .leaf)))) none .leaf) none .leaf)) none .leaf)) none bn15), 6625, (.node (.node fn22 none (.node (.node fn16 none (.node (.node (.node .leaf none (.node .leaf none (.node .leaf none (.node (.node (.node .leaf none (.node .leaf (some [6601]) .leaf)) none .leaf) none .leaf)))) none .leaf) none .leaf)) none .leaf)) none fn23)⟩
noncomputable def tn28 : T Value := .node tn26 (some bad) (.node (.node .leaf (some bad) .leaf) (some bad) .leaf)
noncomputable def tn29 : T Value := .node (.node tn28 (some bad) tn28) (some bad) (.node tn28 (some bad) tn28)
noncomputable def t9 : T Value := (.node (.node (.node (.node (.node tn26 (some bad) tn26) (some bad) tn28) (some bad) (.node tn28 (some bad) tn28)) (some bad) tn29) (some (.bool true)) (.node tn29 (some bad) tn29))
noncomputable def h9 : AHeap := ⟨.leaf, 6848, .leaf⟩
end Go.Proofs.Ytlneoecgbbbahad.aw
