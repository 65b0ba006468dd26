import Derived.Test.YtefjnhpghgahbaaGreatTZ
import Derived.Test.YtefjnhpghgahbaaGreatChecked
import Derived.Test.YtefjnhpghgahbaaGreatEvD
/- The states between the statements of the law. -/
namespace Go.Proofs.YtefjnhpghgahbaaGreat.aw
open Go Go.Ev
set_option maxRecDepth 10000000

noncomputable def lawC:Code:=((Tryz.prog.funcs[8]?).bind (·.body)).getD .skip
noncomputable def lawN:Nat:=((Tryz.prog.funcs[8]?).map (·.ntmps)).getD 0
noncomputable def lawF:Func:=(Tryz.prog.funcs[8]?).getD default
noncomputable def t0:T Value:=.leaf
noncomputable def h0:AHeap:=⟨.leaf,0,.leaf⟩
noncomputable def t1:T Value:=(.node .leaf (some (.bool false)) .leaf)
noncomputable def h1:AHeap:=⟨.leaf,0,.leaf⟩
noncomputable def tn0:T Value:=.node .leaf none (.node (.node .leaf (some bad) .leaf) none .leaf)
noncomputable def t2:T Value:=(.node (.node tn0 (some (.int .i64 (.ofNat 7))) tn0) (some (.bool false)) (.node tn0 (some (.int .i64 (.ofNat 0))) (.node (.node (.node .leaf (some bad) .leaf) none .leaf) none (.node (.node .leaf (some bad) .leaf) none .leaf))))
noncomputable def h2:AHeap:=⟨.leaf,49,.leaf⟩
noncomputable def tn1:T Value:=.node (.node .leaf (some bad) .leaf) none (.node .leaf (some bad) .leaf)
noncomputable def t3:T Value:=(.node (.node (.node (.node .leaf none (.node .leaf (some bad) .leaf)) (some (.slice (some ⟨184,0,none⟩) 2 2)) tn1) (some (.int .i64 (.ofNat 7))) (.node (.node .leaf none (.node .leaf (some bad) .leaf)) (some (.int .i64 (.ofNat 0))) tn1)) (some (.bool false)) (.node (.node (.node .leaf none (.node .leaf (some bad) .leaf)) (some (.slice (some ⟨186,0,none⟩) 2 2)) tn1) (some (.int .i64 (.ofNat 0))) (.node tn1 none (.node (.node .leaf (some bad) .leaf) none .leaf))))
noncomputable def bn2:T AObj:=.node (.node .leaf none (.node .leaf none (.node .leaf none (.node (.node .leaf (some (.cells [(.int .i64 (.ofNat 9)),(.int .i64 (.ofNat 6))] 178 false)) .leaf) none .leaf)))) none .leaf
noncomputable def bn3:T AObj:=.node .leaf none (.node .leaf none (.node .leaf none (.node (.node .leaf (some (.cells [(.int .i64 (.ofNat 0)),(.int .i64 (.ofNat 0))] 181 false)) .leaf) none .leaf)))
noncomputable def fn4:T (List Nat):=.node .leaf none (.node (.node .leaf none (.node .leaf none (.node (.node .leaf (some [186,182]) .leaf) none .leaf))) none .leaf)
noncomputable def fn5:T (List Nat):=.node .leaf none (.node (.node .leaf (some [1]) .leaf) none .leaf)
noncomputable def fn6:T (List Nat):=.node .leaf none (.node (.node .leaf (some [184,179]) .leaf) none .leaf)
noncomputable def fn7:T (List Nat):=.node (.node (.node .leaf none (.node .leaf none fn5)) none .leaf) none (.node (.node (.node .leaf none fn6) none (.node .leaf none fn5)) none .leaf)
noncomputable def h3:AHeap:=⟨(.node .leaf none (.node bn2 none (.node bn3 none .leaf))),187,(.node (.node .leaf none fn4) none fn7)⟩
noncomputable def tn8:T Value:=.node (.node (.node .leaf (some bad) .leaf) (some bad) .leaf) none (.node .leaf (some bad) .leaf)
noncomputable def tn9:T Value:=.node (.node (.node .leaf (some bad) .leaf) none .leaf) none (.node .leaf (some bad) .leaf)
noncomputable def t4:T Value:=(.node (.node (.node (.node (.node (.node .leaf (some bad) .leaf) none .leaf) (some (.int .i64 (.ofNat 0))) (.node .leaf (some bad) .leaf)) (some (.slice (some ⟨184,0,none⟩) 2 2)) tn8) (some (.int .i64 (.ofNat 7))) (.node tn9 (some (.int .i64 (.ofNat 0))) tn1)) (some (.bool false)) (.node (.node tn9 (some (.slice (some ⟨186,0,none⟩) 2 2)) tn1) (some (.int .i64 (.ofNat 0))) (.node tn8 (some (.slice (some ⟨327,0,none⟩) 2 2)) tn1)))
noncomputable def bn10:T AObj:=.node (.node .leaf none (.node (.node .leaf (some (.cells [(.int .i64 (.ofNat 54000)),(.int .i64 (.ofNat 0))] 327 false)) .leaf) none .leaf)) none .leaf
noncomputable def fn11:T (List Nat):=.node (.node .leaf none (.node (.node .leaf (some [327]) .leaf) none .leaf)) none .leaf
noncomputable def h4:AHeap:=⟨(.node (.node (.node (.node .leaf none (.node bn10 none .leaf)) none .leaf) none .leaf) none (.node bn2 none (.node bn3 none .leaf))),328,(.node (.node (.node (.node .leaf none (.node fn11 none .leaf)) none .leaf) none fn4) none fn7)⟩
noncomputable def tn12:T Value:=.node (.node (.node .leaf (some bad) .leaf) none .leaf) (some (.int .i64 (.ofNat 0))) (.node (.node .leaf (some bad) .leaf) (some bad) .leaf)
noncomputable def tn13:T Value:=.node (.node (.node .leaf (some bad) .leaf) none .leaf) (some (.slice (some ⟨439,0,none⟩) 1 1)) (.node (.node .leaf (some bad) .leaf) (some bad) .leaf)
noncomputable def t5:T Value:=(.node (.node (.node tn12 (some (.slice (some ⟨184,0,none⟩) 2 2)) tn8) (some (.int .i64 (.ofNat 7))) (.node tn12 (some (.int .i64 (.ofNat 0))) tn8)) (some (.bool false)) (.node (.node tn13 (some (.slice (some ⟨186,0,none⟩) 2 2)) tn8) (some (.int .i64 (.ofNat 0))) (.node tn8 (some (.slice (some ⟨327,0,none⟩) 2 2)) tn8)))
noncomputable def bn14:T AObj:=.node .leaf none (.node bn10 none (.node .leaf none (.node (.node .leaf none (.node .leaf (some (.cells [(.int .i64 (.negSucc 21599))] 439 false)) .leaf)) none .leaf)))
noncomputable def fn15:T (List Nat):=.node .leaf none (.node fn11 none (.node .leaf none (.node (.node .leaf none (.node .leaf (some [439]) .leaf)) none .leaf)))
noncomputable def h5:AHeap:=⟨(.node (.node (.node bn14 none .leaf) none .leaf) none (.node bn2 none (.node bn3 none .leaf))),453,(.node (.node (.node fn15 none .leaf) none fn4) none fn7)⟩
noncomputable def tn16:T Value:=.node tn1 (some (.int .i64 (.ofNat 0))) (.node (.node .leaf (some bad) .leaf) (some bad) .leaf)
noncomputable def tn17:T Value:=.node (.node (.node .leaf (some bad) .leaf) (some bad) .leaf) none (.node (.node .leaf (some bad) .leaf) (some bad) .leaf)
noncomputable def t6:T Value:=(.node (.node (.node tn16 (some (.slice (some ⟨184,0,none⟩) 2 2)) (.node (.node (.node .leaf (some bad) .leaf) (some bad) .leaf) (some (.int .i64 (.ofNat 0))) (.node (.node .leaf (some bad) .leaf) (some bad) .leaf))) (some (.int .i64 (.ofNat 7))) (.node tn12 (some (.int .i64 (.ofNat 0))) tn17)) (some (.bool false)) (.node (.node tn13 (some (.slice (some ⟨186,0,none⟩) 2 2)) tn17) (some (.int .i64 (.ofNat 0))) (.node (.node (.node (.node .leaf (some bad) .leaf) (some bad) .leaf) (some (.slice (some ⟨603,0,none⟩) 2 2)) (.node (.node .leaf (some bad) .leaf) (some bad) .leaf)) (some (.slice (some ⟨327,0,none⟩) 2 2)) tn17)))
noncomputable def bn18:T AObj:=.node .leaf none (.node (.node .leaf none (.node (.node (.node .leaf (some (.cells [(.int .i64 (.ofNat 32400)),(.int .i64 (.ofNat 21600))] 603 false)) .leaf) none .leaf) none .leaf)) none .leaf)
noncomputable def fn19:T (List Nat):=.node (.node (.node .leaf (some [603]) .leaf) none .leaf) none .leaf
noncomputable def h6:AHeap:=⟨(.node (.node (.node bn14 none (.node .leaf none bn18)) none .leaf) none (.node bn2 none (.node bn3 none .leaf))),604,(.node (.node (.node fn15 none (.node .leaf none (.node .leaf none (.node (.node .leaf none fn19) none .leaf)))) none fn4) none fn7)⟩
noncomputable def tn20:T Value:=.node (.node .leaf (some bad) .leaf) (some (.int .i64 (.ofNat 0))) (.node .leaf (some bad) .leaf)
noncomputable def tn21:T Value:=.node (.node .leaf (some bad) .leaf) (some bad) (.node .leaf (some bad) .leaf)
noncomputable def tn22:T Value:=.node tn21 (some (.slice (some ⟨1027,0,none⟩) 1 1)) (.node (.node .leaf (some bad) .leaf) (some bad) .leaf)
noncomputable def tn23:T Value:=.node tn21 (some (.slice (some ⟨926,0,none⟩) 2 2)) (.node (.node .leaf (some bad) .leaf) (some bad) .leaf)
noncomputable def tn24:T Value:=.node tn21 (some (.slice (some ⟨1110,0,none⟩) 2 2)) (.node (.node .leaf (some bad) .leaf) (some bad) .leaf)
noncomputable def t7:T Value:=(.node (.node (.node (.node tn20 (some (.int .i64 (.ofNat 0))) (.node (.node .leaf (some bad) .leaf) (some bad) .leaf)) (some (.slice (some ⟨184,0,none⟩) 2 2)) (.node tn21 (some (.int .i64 (.ofNat 0))) (.node (.node .leaf (some bad) .leaf) (some bad) .leaf))) (some (.int .i64 (.ofNat 7))) (.node tn16 (some (.int .i64 (.ofNat 0))) tn22)) (some (.bool false)) (.node (.node (.node tn1 (some (.slice (some ⟨439,0,none⟩) 1 1)) (.node (.node .leaf (some bad) .leaf) (some bad) .leaf)) (some (.slice (some ⟨186,0,none⟩) 2 2)) tn23) (some (.int .i64 (.ofNat 0))) (.node (.node tn21 (some (.slice (some ⟨603,0,none⟩) 2 2)) (.node (.node .leaf (some bad) .leaf) (some bad) .leaf)) (some (.slice (some ⟨327,0,none⟩) 2 2)) tn24)))
noncomputable def bn25:T AObj:=.node (.node bn14 none (.node (.node (.node (.node (.node (.node (.node (.node .leaf (some (.cells [(.int .i64 (.negSucc 21599)),(.int .i64 (.ofNat 21600))] 1026 false)) .leaf) none .leaf) none .leaf) none .leaf) none .leaf) none .leaf) none .leaf) none bn18)) none .leaf
noncomputable def bn26:T AObj:=.node (.node (.node .leaf (some (.cells [(.int .i64 (.ofNat 32400)),(.int .i64 (.ofNat 54000)),(.int .i64 (.ofNat 0)),(.int .i64 (.ofNat 21600))] 1107 false)) .leaf) none .leaf) none .leaf
noncomputable def bn27:T AObj:=.node .leaf none (.node (.node (.node .leaf none (.node .leaf none (.node .leaf (some (.cells [(.int .i64 (.ofNat 32400)),(.int .i64 (.ofNat 54000)),(.int .i64 (.ofNat 0)),(.int .i64 (.ofNat 21600))] 923 false)) .leaf))) none .leaf) none .leaf)
noncomputable def fn28:T (List Nat):=.node (.node (.node .leaf (some [2]) .leaf) none .leaf) none .leaf
noncomputable def fn29:T (List Nat):=.node fn15 none (.node (.node (.node (.node (.node fn28 none .leaf) none .leaf) none .leaf) none (.node (.node .leaf none (.node (.node (.node (.node .leaf (some [1110]) .leaf) none .leaf) none .leaf) none .leaf)) none .leaf)) none (.node .leaf none (.node (.node (.node .leaf none (.node .leaf none (.node .leaf (some [926]) .leaf))) none fn19) none .leaf)))
noncomputable def fn30:T (List Nat):=.node (.node (.node (.node (.node (.node (.node (.node .leaf (some [1027]) .leaf) none .leaf) none .leaf) none .leaf) none .leaf) none .leaf) none fn6) none (.node .leaf none fn5)
noncomputable def fn31:T (List Nat):=.node .leaf none (.node (.node (.node .leaf none (.node .leaf none (.node .leaf (some [2]) .leaf))) none .leaf) none .leaf)
noncomputable def h7:AHeap:=⟨(.node bn25 none (.node bn2 none (.node bn3 none (.node (.node .leaf none (.node (.node .leaf none (.node bn26 none .leaf)) none .leaf)) none bn27)))),1193,(.node (.node fn29 none fn4) none (.node (.node (.node .leaf none (.node .leaf none fn5)) none .leaf) none (.node fn30 none (.node (.node .leaf none (.node (.node .leaf none (.node fn28 none .leaf)) none .leaf)) none fn31))))⟩
noncomputable def t8:T Value:=(.node (.node (.node (.node tn20 (some (.int .i64 (.ofNat 0))) tn21) (some (.slice (some ⟨184,0,none⟩) 2 2)) (.node tn21 (some (.int .i64 (.ofNat 0))) tn21)) (some (.int .i64 (.ofNat 7))) (.node (.node tn20 (some (.int .i64 (.ofNat 0))) tn21) (some (.int .i64 (.ofNat 0))) tn22)) (some (.bool false)) (.node (.node (.node (.node (.node .leaf (some bad) .leaf) (some (.slice (some ⟨1494,0,none⟩) 1 1)) (.node .leaf (some bad) .leaf)) (some (.slice (some ⟨439,0,none⟩) 1 1)) tn21) (some (.slice (some ⟨186,0,none⟩) 2 2)) tn23) (some (.int .i64 (.ofNat 0))) (.node (.node tn21 (some (.slice (some ⟨603,0,none⟩) 2 2)) tn21) (some (.slice (some ⟨327,0,none⟩) 2 2)) tn24)))
noncomputable def h8:AHeap:=⟨(.node bn25 none (.node bn2 none (.node bn3 none (.node (.node .leaf none (.node (.node .leaf none (.node bn26 none (.node .leaf none (.node (.node .leaf (some (.cells [(.int .i64 (.ofNat 0))] 1493 false)) .leaf) none .leaf)))) none .leaf)) none bn27)))),1516,(.node (.node fn29 none (.node .leaf none (.node (.node .leaf none (.node (.node .leaf none (.node .leaf none (.node .leaf none (.node (.node .leaf (some [1494,1493]) .leaf) none .leaf)))) none (.node (.node .leaf (some [186,182]) .leaf) none .leaf))) none .leaf))) none (.node (.node (.node .leaf none (.node .leaf none fn5)) none .leaf) none (.node fn30 none (.node (.node .leaf none (.node (.node .leaf none (.node fn28 none fn5)) none .leaf)) none fn31))))⟩
noncomputable def tn32:T Value:=.node (.node (.node .leaf (some bad) .leaf) (some bad) .leaf) (some bad) (.node .leaf (some bad) .leaf)
noncomputable def tn33:T Value:=.node (.node tn32 (some bad) tn32) (some bad) (.node tn32 (some bad) tn32)
noncomputable def tn34:T Value:=.node tn33 (some bad) (.node (.node tn32 (some bad) tn32) (some bad) (.node tn32 (some bad) tn21))
noncomputable def t9:T Value:=(.node (.node (.node tn33 (some bad) tn33) (some bad) tn34) (some (.bool true)) (.node tn34 (some bad) tn34))
noncomputable def h9:AHeap:=⟨.leaf,1525,.leaf⟩
end Go.Proofs.YtefjnhpghgahbaaGreat.aw
