import Derived.Test.YthgmipngikdknaaGreatTZ
import Derived.Test.YthgmipngikdknaaGreatChecked
import Derived.Test.YthgmipngikdknaaGreatEvC
/- The states between the statements of the law. -/
namespace Go.Proofs.YthgmipngikdknaaGreat.aw
open Go Go.Ev
set_option maxRecDepth 10000000

noncomputable def lawC:Code:=((Tryz.prog.funcs[11]?).bind (·.body)).getD .skip
noncomputable def lawN:Nat:=((Tryz.prog.funcs[11]?).map (·.ntmps)).getD 0
noncomputable def lawF:Func:=(Tryz.prog.funcs[11]?).getD default
noncomputable def t0:T Value:=.leaf
noncomputable def h0:AHeap:=⟨.leaf,0,.leaf⟩
noncomputable def t1:T Value:=(.node .leaf (some (.bool false)) .leaf)
noncomputable def h1:AHeap:=⟨.leaf,0,.leaf⟩
noncomputable def tn0:T Value:=.node (.node (.node .leaf (some bad) .leaf) none .leaf) none (.node (.node .leaf (some bad) .leaf) none .leaf)
noncomputable def tn1:T Value:=.node (.node (.node .leaf (some bad) .leaf) none .leaf) none .leaf
noncomputable def t2:T Value:=(.node (.node tn0 (some (.slice (some ⟨111,0,none⟩) 2 2)) tn1) (some (.bool false)) (.node tn0 (some (.int .i64 (.ofNat 0))) tn1))
noncomputable def bn2:T AObj:=.node (.node (.node (.node .leaf none (.node .leaf none (.node .leaf (some (.cells [(.int .i64 (.ofNat 2)),(.int .i64 (.ofNat 1)),(.int .i64 (.ofNat 4)),(.int .i64 (.ofNat 38)),(.int .i64 (.ofNat 2)),(.int .i64 (.ofNat 0)),(.int .i64 (.ofNat 2)),(.int .i64 (.ofNat 40))] 93 false)) .leaf))) none .leaf) none .leaf) none .leaf
noncomputable def fn3:T (List Nat):=.node (.node (.node .leaf none (.node .leaf none (.node .leaf (some [4]) .leaf))) none .leaf) none .leaf
noncomputable def fn4:T (List Nat):=.node .leaf none (.node (.node .leaf (some [111,94]) .leaf) none .leaf)
noncomputable def h2:AHeap:=⟨(.node bn2 none .leaf),120,(.node (.node fn3 none (.node .leaf none (.node .leaf none fn4))) none .leaf)⟩
noncomputable def tn5:T Value:=.node (.node .leaf (some bad) .leaf) none (.node .leaf (some bad) .leaf)
noncomputable def t3:T Value:=(.node (.node (.node tn5 (some (.slice (some ⟨1240,0,none⟩) 4 4)) (.node (.node .leaf (some bad) .leaf) none .leaf)) (some (.slice (some ⟨111,0,none⟩) 2 2)) (.node tn5 (some (.int .i64 (.ofNat 0))) (.node (.node .leaf (some bad) .leaf) none .leaf))) (some (.bool false)) (.node (.node tn5 (some (.slice (some ⟨1342,0,none⟩) 4 4)) (.node (.node .leaf (some bad) .leaf) none .leaf)) (some (.int .i64 (.ofNat 0))) (.node tn5 none (.node (.node .leaf (some bad) .leaf) none .leaf))))
noncomputable def bn6:T AObj:=.node (.node .leaf none (.node .leaf none (.node (.node .leaf none (.node .leaf none (.node (.node (.node .leaf (some (.cells [(.int .i64 (.ofNat 2)),(.int .i64 (.ofNat 2)),(.int .i64 (.ofNat 4)),(.int .i64 (.ofNat 4)),(.int .i64 (.ofNat 6)),(.int .i64 (.ofNat 6)),(.int .i64 (.ofNat 0)),(.int .i64 (.ofNat 0))] 1240 false)) .leaf) none .leaf) none .leaf))) none .leaf))) none .leaf
noncomputable def bn7:T AObj:=.node (.node (.node .leaf none (.node (.node .leaf (some (.cells [(.int .i64 (.ofNat 80)),(.int .i64 (.ofNat 82)),(.int .i64 (.ofNat 152)),(.int .i64 (.ofNat 152)),(.int .i64 (.ofNat 232)),(.int .i64 (.ofNat 234)),(.int .i64 (.ofNat 0)),(.int .i64 (.ofNat 0))] 1342 false)) .leaf) none .leaf)) none .leaf) none .leaf
noncomputable def fn8:T (List Nat):=.node (.node .leaf none (.node .leaf none (.node (.node .leaf none (.node .leaf none (.node (.node (.node .leaf (some [1240]) .leaf) none .leaf) none .leaf))) none .leaf))) none .leaf
noncomputable def fn9:T (List Nat):=.node (.node (.node .leaf none (.node (.node .leaf (some [1342]) .leaf) none .leaf)) none .leaf) none .leaf
noncomputable def h3:AHeap:=⟨(.node bn2 none (.node bn6 none (.node .leaf none (.node .leaf none (.node .leaf none (.node .leaf none bn7)))))),1347,(.node (.node fn3 none (.node .leaf none (.node .leaf none fn4))) none (.node fn8 none (.node .leaf none (.node .leaf none (.node .leaf none (.node .leaf none fn9))))))⟩
noncomputable def tn10:T Value:=.node (.node (.node .leaf (some bad) .leaf) (some bad) .leaf) (some (.int .i64 (.ofNat 0))) (.node .leaf (some bad) .leaf)
noncomputable def t4:T Value:=(.node (.node (.node tn10 (some (.slice (some ⟨1240,0,none⟩) 4 4)) tn5) (some (.slice (some ⟨111,0,none⟩) 2 2)) (.node tn5 (some (.int .i64 (.ofNat 0))) tn5)) (some (.bool false)) (.node (.node tn5 (some (.slice (some ⟨1342,0,none⟩) 4 4)) tn5) (some (.int .i64 (.ofNat 0))) (.node tn5 (some (.slice (some ⟨2582,0,none⟩) 2 2)) tn5)))
noncomputable def bn11:T AObj:=.node (.node (.node (.node .leaf none (.node (.node .leaf (some (.cells [(.int .i64 (.ofNat 1)),(.int .i64 (.ofNat 2))] 2578 false)) .leaf) none .leaf)) none .leaf) none .leaf) none .leaf
noncomputable def bn12:T AObj:=.node bn2 none (.node bn6 none (.node .leaf none (.node (.node .leaf none (.node bn11 none .leaf)) none (.node .leaf none (.node .leaf none bn7)))))
noncomputable def fn13:T (List Nat):=.node (.node .leaf none (.node (.node (.node (.node (.node .leaf none (.node (.node .leaf (some [2582,2579]) .leaf) none .leaf)) none .leaf) none .leaf) none .leaf) none .leaf)) none .leaf
noncomputable def fn14:T (List Nat):=.node (.node (.node (.node .leaf none (.node (.node .leaf (some [1]) .leaf) none .leaf)) none .leaf) none .leaf) none .leaf
noncomputable def fn15:T (List Nat):=.node (.node fn3 none (.node .leaf none (.node .leaf none fn4))) none (.node fn8 none (.node fn13 none (.node (.node .leaf none (.node fn14 none .leaf)) none (.node .leaf none (.node .leaf none fn9)))))
noncomputable def h4:AHeap:=⟨bn12,2584,fn15⟩
noncomputable def tn16:T Value:=.node (.node (.node .leaf (some bad) .leaf) (some bad) .leaf) none (.node .leaf (some bad) .leaf)
noncomputable def t5:T Value:=(.node (.node (.node tn10 (some (.slice (some ⟨1240,0,none⟩) 4 4)) tn16) (some (.slice (some ⟨111,0,none⟩) 2 2)) (.node (.node (.node (.node .leaf (some bad) .leaf) (some bad) .leaf) (some (.int .i64 (.ofNat 6))) (.node .leaf (some bad) .leaf)) (some (.int .i64 (.ofNat 0))) tn16)) (some (.bool false)) (.node (.node (.node (.node (.node .leaf (some bad) .leaf) (some bad) .leaf) (some (.int .i64 (.ofNat 40))) (.node .leaf (some bad) .leaf)) (some (.slice (some ⟨1342,0,none⟩) 4 4)) tn16) (some (.int .i64 (.ofNat 0))) (.node tn10 (some (.slice (some ⟨2582,0,none⟩) 2 2)) tn5)))
noncomputable def h5:AHeap:=⟨bn12,5314,fn15⟩
noncomputable def tn17:T Value:=.node (.node (.node .leaf (some bad) .leaf) (some bad) .leaf) (some (.int .i64 (.ofNat 0))) (.node (.node .leaf (some bad) .leaf) (some bad) .leaf)
noncomputable def t6:T Value:=(.node (.node (.node tn17 (some (.slice (some ⟨1240,0,none⟩) 4 4)) (.node (.node (.node .leaf (some bad) .leaf) (some bad) .leaf) (some (.slice (some ⟨6198,0,none⟩) 4 4)) (.node (.node .leaf (some bad) .leaf) (some bad) .leaf))) (some (.slice (some ⟨111,0,none⟩) 2 2)) (.node (.node (.node (.node .leaf (some bad) .leaf) (some bad) .leaf) (some (.int .i64 (.ofNat 6))) (.node (.node .leaf (some bad) .leaf) (some bad) .leaf)) (some (.int .i64 (.ofNat 0))) tn16)) (some (.bool false)) (.node (.node (.node (.node (.node .leaf (some bad) .leaf) (some bad) .leaf) (some (.int .i64 (.ofNat 40))) (.node (.node .leaf (some bad) .leaf) (some bad) .leaf)) (some (.slice (some ⟨1342,0,none⟩) 4 4)) tn17) (some (.int .i64 (.ofNat 0))) (.node tn17 (some (.slice (some ⟨2582,0,none⟩) 2 2)) tn16)))
noncomputable def bn18:T AObj:=.node .leaf none (.node bn11 none (.node (.node (.node (.node (.node (.node .leaf none (.node .leaf (some (.cells [(.int .i64 (.ofNat 3)),(.int .i64 (.ofNat 2)),(.int .i64 (.ofNat 2)),(.int .i64 (.ofNat 0))] 6197 false)) .leaf)) none .leaf) none .leaf) none .leaf) none .leaf) none .leaf))
noncomputable def fn19:T (List Nat):=.node .leaf none (.node .leaf none (.node (.node (.node (.node (.node (.node .leaf none (.node .leaf (some [6198,6197]) .leaf)) none .leaf) none .leaf) none .leaf) none .leaf) none .leaf))
noncomputable def fn20:T (List Nat):=.node .leaf none (.node fn14 none (.node (.node (.node (.node (.node (.node .leaf none (.node .leaf (some [1]) .leaf)) none .leaf) none .leaf) none .leaf) none .leaf) none .leaf))
noncomputable def h6:AHeap:=⟨(.node bn2 none (.node bn6 none (.node .leaf none (.node bn18 none (.node .leaf none (.node .leaf none bn7)))))),6295,(.node (.node fn3 none (.node .leaf none (.node fn19 none fn4))) none (.node fn8 none (.node fn13 none (.node fn20 none (.node .leaf none (.node .leaf none fn9))))))⟩
noncomputable def tn21:T Value:=.node (.node .leaf (some bad) .leaf) (some bad) (.node .leaf (some bad) .leaf)
noncomputable def tn22:T Value:=.node tn21 (some (.int .i64 (.ofNat 0))) (.node (.node .leaf (some bad) .leaf) (some bad) .leaf)
noncomputable def t7:T Value:=(.node (.node (.node tn22 (some (.slice (some ⟨1240,0,none⟩) 4 4)) (.node tn21 (some (.slice (some ⟨6198,0,none⟩) 4 4)) (.node (.node .leaf (some bad) .leaf) (some bad) .leaf))) (some (.slice (some ⟨111,0,none⟩) 2 2)) (.node (.node tn21 (some (.int .i64 (.ofNat 6))) (.node (.node .leaf (some bad) .leaf) (some bad) .leaf)) (some (.int .i64 (.ofNat 0))) (.node (.node (.node .leaf (some bad) .leaf) (some bad) .leaf) (some (.slice (some ⟨7390,0,none⟩) 1 1)) (.node (.node .leaf (some bad) .leaf) (some bad) .leaf)))) (some (.bool false)) (.node (.node (.node tn21 (some (.int .i64 (.ofNat 40))) (.node (.node .leaf (some bad) .leaf) (some bad) .leaf)) (some (.slice (some ⟨1342,0,none⟩) 4 4)) tn22) (some (.int .i64 (.ofNat 0))) (.node tn22 (some (.slice (some ⟨2582,0,none⟩) 2 2)) tn17)))
noncomputable def h7:AHeap:=⟨(.node bn2 none (.node bn6 none (.node .leaf none (.node bn18 none (.node .leaf none (.node (.node .leaf none (.node .leaf none (.node (.node (.node .leaf none (.node .leaf none (.node .leaf (some (.cells [(.int .i64 (.ofNat 0))] 7389 false)) .leaf))) none .leaf) none .leaf))) none bn7)))))),7407,(.node (.node fn3 none (.node .leaf none (.node fn19 none (.node .leaf none (.node (.node .leaf (some [111,94]) (.node .leaf none (.node (.node (.node .leaf none (.node .leaf none (.node .leaf (some [7390,7389]) .leaf))) none .leaf) none .leaf))) none .leaf))))) none (.node fn8 none (.node fn13 none (.node fn20 none (.node .leaf none (.node (.node .leaf none (.node .leaf none (.node (.node (.node .leaf none (.node .leaf none (.node .leaf (some [1]) .leaf))) none .leaf) none .leaf))) none fn9))))))⟩
noncomputable def tn23:T Value:=.node (.node (.node .leaf (some bad) .leaf) (some bad) .leaf) (some bad) (.node .leaf (some bad) .leaf)
noncomputable def tn24:T Value:=.node (.node tn23 (some bad) tn23) (some bad) (.node tn23 (some bad) tn23)
noncomputable def tn25:T Value:=.node (.node (.node (.node (.node (.node .leaf (some bad) .leaf) (some bad) .leaf) (some bad) (.node (.node .leaf (some bad) .leaf) (some bad) .leaf)) (some bad) tn23) (some bad) (.node tn23 (some bad) tn23)) (some bad) tn24
noncomputable def t8:T Value:=(.node (.node tn25 (some bad) tn25) (some (.bool true)) (.node tn25 (some bad) (.node tn24 (some bad) tn24)))
noncomputable def h8:AHeap:=⟨.leaf,7545,.leaf⟩
end Go.Proofs.YthgmipngikdknaaGreat.aw
