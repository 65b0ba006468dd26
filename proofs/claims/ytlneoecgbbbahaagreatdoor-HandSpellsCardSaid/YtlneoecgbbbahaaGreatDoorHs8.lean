import Derived.Test.YtlneoecgbbbahaaGreatDoorHs7
namespace Go.Proofs.Hs
open Go Go.Ev
set_option linter.unusedSimpArgs false

theorem m104 : mapOf Tryz.prog 104 = some (78, 3) := by kernel_rfl
theorem k78 : intKey Tryz.prog 78 = some 2 := by kernel_rfl
theorem z3 : zeroOf Tryz.prog 3 = some (.int .i64 0) := by kernel_rfl
theorem s78' : sizeB Tryz.prog 78 = some (1 + 1) := by kernel_rfl

def AHeap.setm (h : AHeap) (r : Nat) (o : AObj) : AHeap := ⟨T.set (r + 1) h.bl r o, h.nx, h.fams⟩
theorem setm_nx {h : AHeap} {r : Nat} {o : AObj} : (AHeap.setm h r o).nx = h.nx := rfl
theorem setm_eq {h : AHeap} {r : Nat} {o : AObj} : (AHeap.setm h r o).bl.get r = some o := L6 (Nat.lt_succ_self _)
theorem setm_ne {h : AHeap} {r : Nat} {o : AObj} {B : Nat} (e : B ≠ r) : (AHeap.setm h r o).bl.get B = h.bl.get B := O6 (Nat.lt_succ_self _) e
theorem setm_kp {h h' : AHeap} {r : Nat} {o : AObj} (a : Kp h h') (hr : h.nx ≤ r) : Kp h (AHeap.setm h' r o) := ⟨a.1, fun k hk => by
  rw [setm_ne (by omega)]
  exact ⟨(a.2 k hk).1, (a.2 k hk).2⟩⟩
theorem setMap_eq (h : AHeap) (r clock : Nat) (es : List MapEntry) (K : AHeap → Bool) : setMap h r clock es K = K (AHeap.setm h r (.map es clock)) := by
  simp only [setMap, fSpine_eq, setO, T.setK_eq, AHeap.setm]

theorem findK_cnt (empty : Bool) (L : Cnt) (p : Int × Int) : findK Tryz.prog empty 78 (.agg ⟨pc p⟩) (mkE L 0) = some (bif isIn L p then some (pos L p, .int .i64 (look L p)) else none) := by
  have h1 : plainB (.agg ⟨pc p⟩) = true := rfl
  simp only [findK, h1, cond_true, k78, findKeyF1]
  have h2 : Nat.beq (pc p).length 2 = true := rfl
  simp only [h2, cond_true, findI_mk, Nat.zero_add, findKeyF2]

theorem lookup_cnt {t : T Value} {h : AHeap} {o : Oper} {r n : Nat} {L : Cnt} {p : Int × Int} (hm : h.bl.get r = some (.map (mkE L 0) n)) : rLookup Tryz.prog t h o 104 (.agg ⟨[.int .i64 p.1, .int .i64 p.2]⟩) false (.map (some r)) = some (.int .i64 (look L p)) := by
  show rLookup Tryz.prog t h o 104 (.agg ⟨pc p⟩) false (.map (some r)) = _
  simp only [rLookup, m104, entriesOf, hm, findK_cnt, z3]
  cases hi : isIn L p with
  | true => rfl
  | false => rw [(look_no hi).1]; rfl
theorem rd_lookup {P : Program} {t : T Value} {h : AHeap} {dst : Option Tmp} {ty a : TypeId} {pos : String} {af : Array Edge} {g : Option (Nat × Bool)} {x y : Operand} {ok : Bool} : aread P t h ⟨dst, .lookup a x y ok, ty, pos, af, g⟩ = rLookup P t h ⟨dst, .lookup a x y ok, ty, pos, af, g⟩ a (ev P t y) ok (ev P t x) := (rfl)
theorem w_lookup {P : Program} {a : TypeId} {x y : Operand} {ok : Bool} : isW P (.lookup a x y ok) = false := (rfl)

theorem mapEntry_cnt {h : AHeap} {r : Nat} {L : Cnt} {p : Int × Int} {K : KV} (hm : h.bl.get r = some (.map (mkE L 0) L.length)) :
    wMapEntry Tryz.prog h 104 (.agg ⟨pc p⟩) K (.map (some r)) = K (.tuple #[.int .i64 (look L p), .int .i64 (.ofNat (pos L p))]) (AHeap.setm h r (.map (mkE (touch L p) 0) (touch L p).length)) := by
  simp only [wMapEntry, m104, entriesOf, hm, findK_cnt, z3]
  cases hi : isIn L p with
  | true =>
    have hg := mk_get L p 0 hi
    have hsk : sameKeyAt (mkE L 0) (pos L p) (.agg ⟨pc p⟩) = true := by
      unfold sameKeyAt
      rw [hg]
      simp [Instr.sameBits, pc]
    simp only [cond_true, wMapEntry1, hg, hsk, setMap_eq, Nat.zero_add, touch_yes hi, modE_same p L 0 hi]
  | false =>
    obtain ⟨k1, k2, k3⟩ := look_no hi
    have ha := mk_append L p 0 0
    rw [Nat.zero_add] at ha
    simp only [cond_false, wMapEntry1, fNat_eq, setMap_eq, k1, k2, k3, ha]
    rw [List.length_append]
    rfl
theorem entryStore_cnt {h : AHeap} {r n : Nat} {L : Cnt} {p : Int × Int} {K : KV} (hm : h.bl.get r = some (.map (mkE (touch L p) 0) n)) :
    wEntryStore h (.int .i64 (.ofNat (pos L p))) (.int .i64 (look L p + 1)) K (.map (some r)) = K undef (AHeap.setm h r (.map (mkE (bump L p) 0) n)) := by
  obtain ⟨k1, k2, k3, k4, k5⟩ := look_touch p L
  have hb := findBorn_mk (touch L p) 0 (pos L p) 0 k4
  rw [Nat.zero_add] at hb
  have hm2 := modE_bump p L 0
  simp only [wEntryStore, entriesOf, hm, hb, wEntryStore1, setMap_eq, hm2]
  rfl

section
variable {P : Program} {call : CallT} {ops : Array Oper} {n f : Nat} {l : List Info} {done i m : Nat} {hist : List Seen} {t : T Value} {h : AHeap} {KR : T Value → AHeap → Bool} {op : Op} {ty : TypeId} {ps : String} {af : Array Edge} {g : Option (Nat × Bool)} {d : Tmp}
theorem drW_some {v : Value} {h' : AHeap} (hw : ∀ K : KV, awrite P call t h ⟨some d, op, ty, ps, af, g⟩ K = K v h') (hd : d < n) (ha : again P h' m hist = true)
    (k : drawGo P call ops n 0 [] f l (Nat.lor done (Nat.pow 2 i)) hist (T.set (d + 1) t d v) h' KR = true) : drW (some true) P call ops n f l done i m ⟨some d, op, ty, ps, af, g⟩ hist t h KR = true := by
  have : Nat.blt d n = true := by rw [Nat.blt_eq]; exact hd
  simp only [drW, hw, ha, cond_true, putK, this, fV1_eq, T.setK_eq]
  exact k
theorem drW_none {v : Value} {h' : AHeap} (hw : ∀ K : KV, awrite P call t h ⟨none, op, ty, ps, af, g⟩ K = K v h') (ha : again P h' m hist = true)
    (k : drawGo P call ops n 0 [] f l (Nat.lor done (Nat.pow 2 i)) hist t h' KR = true) : drW (some true) P call ops n f l done i m ⟨none, op, ty, ps, af, g⟩ hist t h KR = true := by
  simp only [drW, hw, ha, cond_true, putK]
  exact k
end

theorem aw_mapEntry {P : Program} {call : CallT} {t : T Value} {h : AHeap} {dst : Option Tmp} {ty a : TypeId} {ps : String} {af : Array Edge} {g : Option (Nat × Bool)} {x y : Operand} {K : KV} : awrite P call t h ⟨dst, .mapEntry a x y, ty, ps, af, g⟩ K = wMapEntry P h a (ev P t y) K (ev P t x) := (rfl)
theorem aw_entryStore {P : Program} {call : CallT} {t : T Value} {h : AHeap} {dst : Option Tmp} {ty a : TypeId} {ps : String} {af : Array Edge} {g : Option (Nat × Bool)} {x y z : Operand} {K : KV} : awrite P call t h ⟨dst, .entryStore a x y z, ty, ps, af, g⟩ K = wEntryStore h (ev P t y) (ev P t z) K (ev P t x) := (rfl)

theorem wr_mkmap {P : Program} {call : CallT} {ops : Array Oper} {n : Nat} {rest : List Oper} {t : T Value} {h : AHeap} {KR : T Value → AHeap → Bool} {dst : Option Tmp} {a : TypeId} :
    wrR P call ops n rest (.makeMap a none) dst t h KR = putR P call ops n rest dst t (.map (some h.nx)) ⟨T.set (h.nx + 1) h.bl h.nx (.map [] 0), h.nx + 1, h.fams⟩ KR := by
  simp only [wrR, awrite, wMakeMap, newO, fNat_eq, T.setK_eq]

def IM (ps : Prs) (H : AHeap) (sv : Value) (r k : Nat) (t : T Value) (h : AHeap) : Prop :=
  k ≤ ps.length ∧ Kp H h ∧ r < h.nx ∧ h.bl.get r = some (.map (mkE (cntOf (ps.take k)) 0) (cntOf (ps.take k)).length) ∧ tget t 3 = .map (some r) ∧ tget t 7 = sv ∧ tget t 8 = .int .i64 (ps.length : Int) ∧ tget t 9 = .int .i64 (k : Int)

variable {pr : Prim} {R : ExT}
set_option maxHeartbeats 8000000 in
theorem count_y (S : Ev.Steps Tryz.prog pr R) (h0 : AHeap) (sv : Value) (ps : Prs) (hc : SlAt h0 2 sv (ps.map pc)) (hsz : (ps.length : Int) ≤ 1000000) :
    Brings Tryz.prog R 50 [sv] h0 fun u h => ∃ r n, u = .map (some r) ∧ h0.nx ≤ r ∧ r < h.nx ∧ h.bl.get r = some (.map (mkE (cntOf ps) 0) n) := by
  refine brings_of (fn := Tryz.f50) (c := (Tryz.f50.body).getD .skip) (by kernel_rfl) rfl (by kernel_rfl) rfl (fun K hK => ?_)
  generalize hF : finish Tryz.prog Tryz.f50 K = KF
  simp only [Tryz.f50, Option.getD_some, argsT, setArgs, fV1_eq, T.setK_eq, id]
  have hlen := fun t h1 o => hc.len (P := Tryz.prog) is74 (t := t) h1 o
  repeat refine S.seq ?_
  refine S.region ?_
  simp (disch := first | omega | (simp only [D8, I8] <;> omega) | decide) only [O0,U0,X0,Y0,O1,U1,Y1,U2,Y2,Y9,Z9,l9,o9,x9,J3,O3,Q3,U3,V3,X3,Y3,I4,J4,O4,Q4,U4,V4,X4,Y4,Z4,D5,E5,F5,G5,H5,I5,J5,O5,P5,Q5,U5,V5,X5,Y5,Z5,o5,y5,D6,F6,G6,H6,J6,L6,O6,P6,U6,V6,X6,Y6,o6,A7,D7,F7,G7,H7,I7,J7,N7,O7,P7,Q7,U7,V7,X7,Y7,Z7,l7,o7,y7,A8,D8,E8,F8,G8,H8,↓reduceIte,Nat.reduceEqDiff,I8,J8,L8,N8,O8,P8,Q8,U8,V8,X8,Y8,Z8,o8,y8,C9,D9,E9,F9,G9,H9,I9,J9,L9,N9,Nat.reduceAdd,y9,A_,B_,C_,D_,O9,P9,E_,F_]
  repeat refine S.seq ?_
  refine S.region ?_
  simp (disch := first | omega | (simp only [D8, I8] <;> omega) | decide) only [O0,U0,X0,Y0,O1,U1,Y1,U2,Y2,Y9,Z9,l9,o9,x9,J3,O3,Q3,U3,V3,X3,Y3,I4,J4,O4,Q4,U4,V4,X4,Y4,Z4,D5,E5,F5,G5,H5,I5,J5,O5,P5,Q5,U5,V5,X5,Y5,Z5,o5,y5,D6,F6,G6,H6,J6,L6,O6,P6,U6,V6,X6,Y6,o6,A7,D7,F7,G7,H7,I7,J7,N7,O7,P7,Q7,U7,V7,X7,Y7,Z7,l7,o7,y7,A8,D8,E8,F8,G8,H8,↓reduceIte,Nat.reduceEqDiff,I8,J8,L8,N8,O8,P8,Q8,U8,V8,X8,Y8,Z8,o8,y8,C9,D9,E9,F9,G9,H9,I9,J9,L9,N9,Nat.reduceAdd,y9,A_,B_,C_,D_,O9,P9,E_,F_,w_makeMap,wr_mkmap]
  repeat refine S.seq ?_
  refine S.region ?_
  simp (disch := first | omega | (simp only [D8, I8] <;> omega) | decide) only [O0,U0,X0,Y0,O1,U1,Y1,U2,Y2,Y9,Z9,l9,o9,x9,J3,O3,Q3,U3,V3,X3,Y3,I4,J4,O4,Q4,U4,V4,X4,Y4,Z4,D5,E5,F5,G5,H5,I5,J5,O5,P5,Q5,U5,V5,X5,Y5,Z5,o5,y5,D6,F6,G6,H6,J6,L6,O6,P6,U6,V6,X6,Y6,o6,A7,D7,F7,G7,H7,I7,J7,N7,O7,P7,Q7,U7,V7,X7,Y7,Z7,l7,o7,y7,A8,D8,E8,F8,G8,H8,↓reduceIte,Nat.reduceEqDiff,I8,J8,L8,N8,O8,P8,Q8,U8,V8,X8,Y8,Z8,o8,y8,C9,D9,E9,F9,G9,H9,I9,J9,L9,N9,Nat.reduceAdd,y9,A_,B_,C_,D_,O9,P9,E_,F_,hlen,List.length_map]
  repeat refine S.seq ?_
  refine S.block ?_
  have hk1 : Kp h0 ⟨T.set (h0.nx + 1) h0.bl h0.nx (.map [] 0), h0.nx + 1, h0.fams⟩ := ⟨Nat.le_succ _, fun k hk => ⟨O6 (by omega) (by omega), rfl⟩⟩
  refine S.loop (ι := Nat) (IM ps h0 sv h0.nx) (fun k => ps.length - k) ?_ 0 _ _ ?_
  · intro k t h ⟨hk, hkp, hrlt, hm, t3, t7, t8, t9⟩ K' hn he
    repeat refine S.seq ?_
    refine S.region ?_
    simp (disch := first | omega | (simp only [D8, I8] <;> omega) | decide) only [O0,U0,X0,Y0,O1,U1,Y1,U2,Y2,Y9,Z9,l9,o9,x9,J3,O3,Q3,U3,V3,X3,Y3,I4,J4,O4,Q4,U4,V4,X4,Y4,Z4,D5,E5,F5,G5,H5,I5,J5,O5,P5,Q5,U5,V5,X5,Y5,Z5,o5,y5,D6,F6,G6,H6,J6,L6,O6,P6,U6,V6,X6,Y6,o6,A7,D7,F7,G7,H7,I7,J7,N7,O7,P7,Q7,U7,V7,X7,Y7,Z7,l7,o7,y7,A8,D8,E8,F8,G8,H8,↓reduceIte,Nat.reduceEqDiff,I8,J8,L8,N8,O8,P8,Q8,U8,V8,X8,Y8,Z8,o8,y8,C9,D9,E9,F9,G9,H9,I9,J9,L9,N9,Nat.reduceAdd,y9,A_,B_,C_,D_,O9,P9,E_,F_,t8,t9]
    repeat refine S.seq ?_
    refine S.cond (v := decide ((k : Int) < (ps.length : Int))) (by first | rfl | (simp (disch := first | omega | (simp only [D8, I8] <;> omega) | decide) only [O0,U0,X0,Y0,O1,U1,Y1,U2,Y2,Y9,Z9,l9,o9,x9,J3,O3,Q3,U3,V3,X3,Y3,I4,J4,O4,Q4,U4,V4,X4,Y4,Z4,D5,E5,F5,G5,H5,I5,J5,O5,P5,Q5,U5,V5,X5,Y5,Z5,o5,y5,D6,F6,G6,H6,J6,L6,O6,P6,U6,V6,X6,Y6,o6,A7,D7,F7,G7,H7,I7,J7,N7,O7,P7,Q7,U7,V7,X7,Y7,Z7,l7,o7,y7,A8,D8,E8,F8,G8,H8,↓reduceIte,Nat.reduceEqDiff,I8,J8,L8,N8,O8,P8,Q8,U8,V8,X8,Y8,Z8,o8,y8,C9,D9,E9,F9,G9,H9,I9,J9,L9,N9,Nat.reduceAdd,y9,A_,B_,C_,D_,O9,P9,E_,F_] <;> rfl)) (fun e => ?_) (fun e => ?_)
    · have hkn : k < ps.length := by have := of_decide_eq_true e; omega
      clear e
      have hp : ps[k]? = some ps[k] := List.getElem?_eq_getElem hkn
      generalize hpe : ps[k] = p at hp
      have hck := hc.mono hkp
      obtain ⟨b2, f2, ro2, u1, u2, u3⟩ := hck.idx sl74 s78 (i := k) (by rw [List.length_map]; exact hkn)
      obtain ⟨u4, u5⟩ := flat_part hck.sized (i := k) (c := pc p) (by rw [List.getElem?_map, hp]; rfl)
      have upart := part78 u4 u5
      have hcn : cntOf (ps.take (k + 1)) = bump (cntOf (ps.take k)) p := by
        rw [List.take_add_one, hp]; exact cnt_snoc _ _
      have hkl := hkp.1
      have hlk : 0 ≤ look (cntOf (ps.take k)) p ∧ look (cntOf (ps.take k)) p ≤ 1000000 := by
        rw [look_cntOf]
        have h1 : (ps.take k).count p ≤ (ps.take k).length := List.count_le_length
        have h2 : (ps.take k).length ≤ ps.length := by rw [List.length_take]; omega
        omega
      generalize hLe : cntOf (ps.take k) = L at hm hcn hlk
      repeat refine S.seq ?_
      refine S.skip ?_
      simp (disch := first | omega | (simp only [D8, I8] <;> omega) | decide) only [O0,U0,X0,Y0,O1,U1,Y1,U2,Y2,Y9,Z9,l9,o9,x9,J3,O3,Q3,U3,V3,X3,Y3,I4,J4,O4,Q4,U4,V4,X4,Y4,Z4,D5,E5,F5,G5,H5,I5,J5,O5,P5,Q5,U5,V5,X5,Y5,Z5,o5,y5,D6,F6,G6,H6,J6,L6,O6,P6,U6,V6,X6,Y6,o6,A7,D7,F7,G7,H7,I7,J7,N7,O7,P7,Q7,U7,V7,X7,Y7,Z7,l7,o7,y7,A8,D8,E8,F8,G8,H8,↓reduceIte,Nat.reduceEqDiff,I8,J8,L8,N8,O8,P8,Q8,U8,V8,X8,Y8,Z8,o8,y8,C9,D9,E9,F9,G9,H9,I9,J9,L9,N9,Nat.reduceAdd,y9,A_,B_,C_,D_,O9,P9,E_,F_]
      repeat refine S.seq ?_
      refine S.block ?_
      repeat refine S.seq ?_
      refine S.region ?_
      simp (disch := first | omega | (simp only [D8, I8] <;> omega) | decide) only [O0,U0,X0,Y0,O1,U1,Y1,U2,Y2,Y9,Z9,l9,o9,x9,J3,O3,Q3,U3,V3,X3,Y3,I4,J4,O4,Q4,U4,V4,X4,Y4,Z4,D5,E5,F5,G5,H5,I5,J5,O5,P5,Q5,U5,V5,X5,Y5,Z5,o5,y5,D6,F6,G6,H6,J6,L6,O6,P6,U6,V6,X6,Y6,o6,A7,D7,F7,G7,H7,I7,J7,N7,O7,P7,Q7,U7,V7,X7,Y7,Z7,l7,o7,y7,A8,D8,E8,F8,G8,H8,↓reduceIte,Nat.reduceEqDiff,I8,J8,L8,N8,O8,P8,Q8,U8,V8,X8,Y8,Z8,o8,y8,C9,D9,E9,F9,G9,H9,I9,J9,L9,N9,Nat.reduceAdd,y9,A_,B_,C_,D_,O9,P9,E_,F_,t7,t9,u1,u3,upart,wr_alloc z78]
      refine wr_storeN (B := h.nx) (c := [.int .i64 0, .int .i64 0]) (fam := h.nx) (k := h.nx) (l := [.int .i64 p.1, .int .i64 p.2]) (by simp (disch := first | omega | (simp only [D8, I8] <;> omega) | decide) only [O0,U0,X0,Y0,O1,U1,Y1,U2,Y2,Y9,Z9,l9,o9,x9,J3,O3,Q3,U3,V3,X3,Y3,I4,J4,O4,Q4,U4,V4,X4,Y4,Z4,D5,E5,F5,G5,H5,I5,J5,O5,P5,Q5,U5,V5,X5,Y5,Z5,o5,y5,D6,F6,G6,H6,J6,L6,O6,P6,U6,V6,X6,Y6,o6,A7,D7,F7,G7,H7,I7,J7,N7,O7,P7,Q7,U7,V7,X7,Y7,Z7,l7,o7,y7,A8,D8,E8,F8,G8,H8,↓reduceIte,Nat.reduceEqDiff,I8,J8,L8,N8,O8,P8,Q8,U8,V8,X8,Y8,Z8,o8,y8,C9,D9,E9,F9,G9,H9,I9,J9,L9,N9,Nat.reduceAdd,y9,A_,B_,C_,D_,O9,P9,E_,F_]) (by simp (disch := first | omega | (simp only [D8, I8] <;> omega) | decide) only [O0,U0,X0,Y0,O1,U1,Y1,U2,Y2,Y9,Z9,l9,o9,x9,J3,O3,Q3,U3,V3,X3,Y3,I4,J4,O4,Q4,U4,V4,X4,Y4,Z4,D5,E5,F5,G5,H5,I5,J5,O5,P5,Q5,U5,V5,X5,Y5,Z5,o5,y5,D6,F6,G6,H6,J6,L6,O6,P6,U6,V6,X6,Y6,o6,A7,D7,F7,G7,H7,I7,J7,N7,O7,P7,Q7,U7,V7,X7,Y7,Z7,l7,o7,y7,A8,D8,E8,F8,G8,H8,↓reduceIte,Nat.reduceEqDiff,I8,J8,L8,N8,O8,P8,Q8,U8,V8,X8,Y8,Z8,o8,y8,C9,D9,E9,F9,G9,H9,I9,J9,L9,N9,Nat.reduceAdd,y9,A_,B_,C_,D_,O9,P9,E_,F_]; rfl) s78 (by omega) rfl (by rw [E8 rfl]) (by rw [G8 rfl]) rfl ?_
      simp (disch := first | omega | (simp only [D8, I8] <;> omega) | decide) only [O0,U0,X0,Y0,O1,U1,Y1,U2,Y2,Y9,Z9,l9,o9,x9,J3,O3,Q3,U3,V3,X3,Y3,I4,J4,O4,Q4,U4,V4,X4,Y4,Z4,D5,E5,F5,G5,H5,I5,J5,O5,P5,Q5,U5,V5,X5,Y5,Z5,o5,y5,D6,F6,G6,H6,J6,L6,O6,P6,U6,V6,X6,Y6,o6,A7,D7,F7,G7,H7,I7,J7,N7,O7,P7,Q7,U7,V7,X7,Y7,Z7,l7,o7,y7,A8,D8,E8,F8,G8,H8,↓reduceIte,Nat.reduceEqDiff,I8,J8,L8,N8,O8,P8,Q8,U8,V8,X8,Y8,Z8,o8,y8,C9,D9,E9,F9,G9,H9,I9,J9,L9,N9,Nat.reduceAdd,y9,A_,B_,C_,D_,O9,P9,E_,F_]
      have hg4 : ((h.add [Value.int .i64 0, .int .i64 0]).upd h.nx [.int .i64 p.1, .int .i64 p.2] h.nx).bl.get h.nx = some (.cells [.int .i64 p.1, .int .i64 p.2] h.nx false) := L8 _ _ _
      have hm4 : ((h.add [Value.int .i64 0, .int .i64 0]).upd h.nx [.int .i64 p.1, .int .i64 p.2] h.nx).bl.get h0.nx = some (.map (mkE L 0) L.length) := by
        rw [N8 _ _ _ (by omega), F8 (by omega)]; exact hm
      have hk4 : Kp h0 ((h.add [Value.int .i64 0, .int .i64 0]).upd h.nx [.int .i64 p.1, .int .i64 p.2] h.nx) := hkp.add.upd hkl
      have hlt4 : h0.nx < ((h.add [Value.int .i64 0, .int .i64 0]).upd h.nx [.int .i64 p.1, .int .i64 p.2] h.nx).nx := by show h0.nx < h.nx + 1; omega
      have hne4 : h.nx ≠ h0.nx := by omega
      generalize (h.add [Value.int .i64 0, .int .i64 0]).upd h.nx [.int .i64 p.1, .int .i64 p.2] h.nx = h4 at hg4 hm4 hk4 hlt4 ⊢
      repeat refine S.seq ?_
      refine S.drawnL [(false, 0), (false, 0), (false, 3), (false, 7), (true, 3), (false, 19), (true, 63)] (by kernel_rfl) (by kernel_rfl) (by kernel_rfl) ?_
      simp (disch := first | omega | (simp only [D8, I8] <;> omega) | decide) only [O0,U0,X0,Y0,O1,U1,Y1,U2,Y2,Y9,Z9,l9,o9,x9,J3,O3,Q3,U3,V3,X3,Y3,I4,J4,O4,Q4,U4,V4,X4,Y4,Z4,D5,E5,F5,G5,H5,I5,J5,O5,P5,Q5,U5,V5,X5,Y5,Z5,o5,y5,D6,F6,G6,H6,J6,L6,O6,P6,U6,V6,X6,Y6,o6,A7,D7,F7,G7,H7,I7,J7,N7,O7,P7,Q7,U7,V7,X7,Y7,Z7,l7,o7,y7,A8,D8,E8,F8,G8,H8,↓reduceIte,Nat.reduceEqDiff,I8,J8,L8,N8,O8,P8,Q8,U8,V8,X8,Y8,Z8,o8,y8,C9,D9,E9,F9,G9,H9,I9,J9,L9,N9,Nat.reduceAdd,y9,A_,B_,C_,D_,O9,P9,E_,F_,Q9,S9,U9,V9,W9,X9,infoL,Nat.reduceSub,List.size_toArray,List.length_cons,List.length_nil,A_,t3,hg4,part780,rd_lookup,w_lookup,lookup_cnt hm4]
      obtain ⟨j1, j2, j3, j4, j5⟩ := look_touch p L
      have hm5 : (AHeap.setm h4 h0.nx (.map (mkE (touch L p) 0) (touch L p).length)).bl.get h0.nx = some (.map (mkE (touch L p) 0) (touch L p).length) := setm_eq
      refine drW_some (v := .tuple #[.int .i64 (look L p), .int .i64 (.ofNat (Go.Proofs.Hs.pos L p))]) (h' := AHeap.setm h4 h0.nx (.map (mkE (touch L p) 0) (touch L p).length)) (fun K => ?_) ?_ ?_ ?_
      · rw [aw_mapEntry]
        simp (disch := first | omega | (simp only [D8, I8] <;> omega) | decide) only [O0,U0,X0,Y0,O1,U1,Y1,U2,Y2,Y9,Z9,l9,o9,x9,J3,O3,Q3,U3,V3,X3,Y3,I4,J4,O4,Q4,U4,V4,X4,Y4,Z4,D5,E5,F5,G5,H5,I5,J5,O5,P5,Q5,U5,V5,X5,Y5,Z5,o5,y5,D6,F6,G6,H6,J6,L6,O6,P6,U6,V6,X6,Y6,o6,A7,D7,F7,G7,H7,I7,J7,N7,O7,P7,Q7,U7,V7,X7,Y7,Z7,l7,o7,y7,A8,D8,E8,F8,G8,H8,↓reduceIte,Nat.reduceEqDiff,I8,J8,L8,N8,O8,P8,Q8,U8,V8,X8,Y8,Z8,o8,y8,C9,D9,E9,F9,G9,H9,I9,J9,L9,N9,Nat.reduceAdd,y9,A_,B_,C_,D_,O9,P9,E_,F_]
        exact mapEntry_cnt hm4
      · exact Nat.le_of_ble_eq_true rfl
      · rw [again_free rfl, again_same (v := .int .i64 (look L p)) (by simp (disch := first | omega | (simp only [D8, I8] <;> omega) | decide) only [O0,U0,X0,Y0,O1,U1,Y1,U2,Y2,Y9,Z9,l9,o9,x9,J3,O3,Q3,U3,V3,X3,Y3,I4,J4,O4,Q4,U4,V4,X4,Y4,Z4,D5,E5,F5,G5,H5,I5,J5,O5,P5,Q5,U5,V5,X5,Y5,Z5,o5,y5,D6,F6,G6,H6,J6,L6,O6,P6,U6,V6,X6,Y6,o6,A7,D7,F7,G7,H7,I7,J7,N7,O7,P7,Q7,U7,V7,X7,Y7,Z7,l7,o7,y7,A8,D8,E8,F8,G8,H8,↓reduceIte,Nat.reduceEqDiff,I8,J8,L8,N8,O8,P8,Q8,U8,V8,X8,Y8,Z8,o8,y8,C9,D9,E9,F9,G9,H9,I9,J9,L9,N9,Nat.reduceAdd,y9,A_,B_,C_,D_,O9,P9,E_,F_,Q9,S9,U9,V9,W9,X9,infoL,Nat.reduceSub,List.size_toArray,List.length_cons,List.length_nil,A_,rd_lookup]; rw [lookup_cnt hm5, j1]) (by simp only [veq, beqI_eq, beqKind, decide_true, Bool.and_true]), again_skip (by decide), again_skip (by decide), again_nil]
      have x1 : (#[Value.int .i64 (look L p), .int .i64 (.ofNat (Go.Proofs.Hs.pos L p))] : Array Value)[1]? = some (.int .i64 (.ofNat (Go.Proofs.Hs.pos L p))) := rfl
      simp (disch := first | omega | (simp only [D8, I8] <;> omega) | decide) only [O0,U0,X0,Y0,O1,U1,Y1,U2,Y2,Y9,Z9,l9,o9,x9,J3,O3,Q3,U3,V3,X3,Y3,I4,J4,O4,Q4,U4,V4,X4,Y4,Z4,D5,E5,F5,G5,H5,I5,J5,O5,P5,Q5,U5,V5,X5,Y5,Z5,o5,y5,D6,F6,G6,H6,J6,L6,O6,P6,U6,V6,X6,Y6,o6,A7,D7,F7,G7,H7,I7,J7,N7,O7,P7,Q7,U7,V7,X7,Y7,Z7,l7,o7,y7,A8,D8,E8,F8,G8,H8,↓reduceIte,Nat.reduceEqDiff,I8,J8,L8,N8,O8,P8,Q8,U8,V8,X8,Y8,Z8,o8,y8,C9,D9,E9,F9,G9,H9,I9,J9,L9,N9,Nat.reduceAdd,y9,A_,B_,C_,D_,O9,P9,E_,F_,Q9,S9,U9,V9,W9,X9,infoL,Nat.reduceSub,List.size_toArray,List.length_cons,List.length_nil,A_,x1]
      refine drW_none (v := undef) (h' := AHeap.setm (AHeap.setm h4 h0.nx (.map (mkE (touch L p) 0) (touch L p).length)) h0.nx (.map (mkE (bump L p) 0) (touch L p).length)) (fun K => ?_) ?_ ?_
      · rw [aw_entryStore]
        simp (disch := first | omega | (simp only [D8, I8] <;> omega) | decide) only [O0,U0,X0,Y0,O1,U1,Y1,U2,Y2,Y9,Z9,l9,o9,x9,J3,O3,Q3,U3,V3,X3,Y3,I4,J4,O4,Q4,U4,V4,X4,Y4,Z4,D5,E5,F5,G5,H5,I5,J5,O5,P5,Q5,U5,V5,X5,Y5,Z5,o5,y5,D6,F6,G6,H6,J6,L6,O6,P6,U6,V6,X6,Y6,o6,A7,D7,F7,G7,H7,I7,J7,N7,O7,P7,Q7,U7,V7,X7,Y7,Z7,l7,o7,y7,A8,D8,E8,F8,G8,H8,↓reduceIte,Nat.reduceEqDiff,I8,J8,L8,N8,O8,P8,Q8,U8,V8,X8,Y8,Z8,o8,y8,C9,D9,E9,F9,G9,H9,I9,J9,L9,N9,Nat.reduceAdd,y9,A_,B_,C_,D_,O9,P9,E_,F_]
        exact entryStore_cnt hm5
      · rw [again_skip (by decide), again_skip (by decide), again_skip (by decide), again_skip (by decide), again_skip (by decide), again_nil]
      simp (disch := first | omega | (simp only [D8, I8] <;> omega) | decide) only [O0,U0,X0,Y0,O1,U1,Y1,U2,Y2,Y9,Z9,l9,o9,x9,J3,O3,Q3,U3,V3,X3,Y3,I4,J4,O4,Q4,U4,V4,X4,Y4,Z4,D5,E5,F5,G5,H5,I5,J5,O5,P5,Q5,U5,V5,X5,Y5,Z5,o5,y5,D6,F6,G6,H6,J6,L6,O6,P6,U6,V6,X6,Y6,o6,A7,D7,F7,G7,H7,I7,J7,N7,O7,P7,Q7,U7,V7,X7,Y7,Z7,l7,o7,y7,A8,D8,E8,F8,G8,H8,↓reduceIte,Nat.reduceEqDiff,I8,J8,L8,N8,O8,P8,Q8,U8,V8,X8,Y8,Z8,o8,y8,C9,D9,E9,F9,G9,H9,I9,J9,L9,N9,Nat.reduceAdd,y9,A_,B_,C_,D_,O9,P9,E_,F_,Q9,S9,U9,V9,W9,X9,infoL,Nat.reduceSub,List.size_toArray,List.length_cons,List.length_nil,A_]
      repeat refine S.seq ?_
      refine S.region ?_
      simp (disch := first | omega | (simp only [D8, I8] <;> omega) | decide) only [O0,U0,X0,Y0,O1,U1,Y1,U2,Y2,Y9,Z9,l9,o9,x9,J3,O3,Q3,U3,V3,X3,Y3,I4,J4,O4,Q4,U4,V4,X4,Y4,Z4,D5,E5,F5,G5,H5,I5,J5,O5,P5,Q5,U5,V5,X5,Y5,Z5,o5,y5,D6,F6,G6,H6,J6,L6,O6,P6,U6,V6,X6,Y6,o6,A7,D7,F7,G7,H7,I7,J7,N7,O7,P7,Q7,U7,V7,X7,Y7,Z7,l7,o7,y7,A8,D8,E8,F8,G8,H8,↓reduceIte,Nat.reduceEqDiff,I8,J8,L8,N8,O8,P8,Q8,U8,V8,X8,Y8,Z8,o8,y8,C9,D9,E9,F9,G9,H9,I9,J9,L9,N9,Nat.reduceAdd,y9,A_,B_,C_,D_,O9,P9,E_,F_,t9]
      refine hn (k + 1) _ _ (by omega) ⟨by omega, setm_kp (setm_kp hk4 (Nat.le_refl _)) (Nat.le_refl _), hlt4, ?_, ?_, ?_, ?_, ?_⟩
      · rw [setm_eq, hcn, j5]
      all_goals (first | rfl | (simp (disch := first | omega | (simp only [D8, I8] <;> omega) | decide) only [O0,U0,X0,Y0,O1,U1,Y1,U2,Y2,Y9,Z9,l9,o9,x9,J3,O3,Q3,U3,V3,X3,Y3,I4,J4,O4,Q4,U4,V4,X4,Y4,Z4,D5,E5,F5,G5,H5,I5,J5,O5,P5,Q5,U5,V5,X5,Y5,Z5,o5,y5,D6,F6,G6,H6,J6,L6,O6,P6,U6,V6,X6,Y6,o6,A7,D7,F7,G7,H7,I7,J7,N7,O7,P7,Q7,U7,V7,X7,Y7,Z7,l7,o7,y7,A8,D8,E8,F8,G8,H8,↓reduceIte,Nat.reduceEqDiff,I8,J8,L8,N8,O8,P8,Q8,U8,V8,X8,Y8,Z8,o8,y8,C9,D9,E9,F9,G9,H9,I9,J9,L9,N9,Nat.reduceAdd,y9,A_,B_,C_,D_,O9,P9,E_,F_,t3,t7,t8,t9]; done) | (simp (disch := first | omega | (simp only [D8, I8] <;> omega) | decide) only [O0,U0,X0,Y0,O1,U1,Y1,U2,Y2,Y9,Z9,l9,o9,x9,J3,O3,Q3,U3,V3,X3,Y3,I4,J4,O4,Q4,U4,V4,X4,Y4,Z4,D5,E5,F5,G5,H5,I5,J5,O5,P5,Q5,U5,V5,X5,Y5,Z5,o5,y5,D6,F6,G6,H6,J6,L6,O6,P6,U6,V6,X6,Y6,o6,A7,D7,F7,G7,H7,I7,J7,N7,O7,P7,Q7,U7,V7,X7,Y7,Z7,l7,o7,y7,A8,D8,E8,F8,G8,H8,↓reduceIte,Nat.reduceEqDiff,I8,J8,L8,N8,O8,P8,Q8,U8,V8,X8,Y8,Z8,o8,y8,C9,D9,E9,F9,G9,H9,I9,J9,L9,N9,Nat.reduceAdd,y9,A_,B_,C_,D_,O9,P9,E_,F_,t3,t7,t8,t9]; rfl))
    · have hkn : k = ps.length := by have := of_decide_eq_false e; omega
      subst hkn
      rw [List.take_length] at hm
      refine S.exit (he _ _ _ _ (fun e => by cases e) ?_)
      simp (disch := first | omega | (simp only [D8, I8] <;> omega) | decide) only [O0,U0,X0,Y0,O1,U1,Y1,U2,Y2,Y9,Z9,l9,o9,x9,J3,O3,Q3,U3,V3,X3,Y3,I4,J4,O4,Q4,U4,V4,X4,Y4,Z4,D5,E5,F5,G5,H5,I5,J5,O5,P5,Q5,U5,V5,X5,Y5,Z5,o5,y5,D6,F6,G6,H6,J6,L6,O6,P6,U6,V6,X6,Y6,o6,A7,D7,F7,G7,H7,I7,J7,N7,O7,P7,Q7,U7,V7,X7,Y7,Z7,l7,o7,y7,A8,D8,E8,F8,G8,H8,↓reduceIte,Nat.reduceEqDiff,I8,J8,L8,N8,O8,P8,Q8,U8,V8,X8,Y8,Z8,o8,y8,C9,D9,E9,F9,G9,H9,I9,J9,L9,N9,Nat.reduceAdd,y9,A_,B_,C_,D_,O9,P9,E_,F_]
      repeat refine S.seq ?_
      refine S.region ?_
      simp (disch := first | omega | (simp only [D8, I8] <;> omega) | decide) only [O0,U0,X0,Y0,O1,U1,Y1,U2,Y2,Y9,Z9,l9,o9,x9,J3,O3,Q3,U3,V3,X3,Y3,I4,J4,O4,Q4,U4,V4,X4,Y4,Z4,D5,E5,F5,G5,H5,I5,J5,O5,P5,Q5,U5,V5,X5,Y5,Z5,o5,y5,D6,F6,G6,H6,J6,L6,O6,P6,U6,V6,X6,Y6,o6,A7,D7,F7,G7,H7,I7,J7,N7,O7,P7,Q7,U7,V7,X7,Y7,Z7,l7,o7,y7,A8,D8,E8,F8,G8,H8,↓reduceIte,Nat.reduceEqDiff,I8,J8,L8,N8,O8,P8,Q8,U8,V8,X8,Y8,Z8,o8,y8,C9,D9,E9,F9,G9,H9,I9,J9,L9,N9,Nat.reduceAdd,y9,A_,B_,C_,D_,O9,P9,E_,F_,t3]
      refine S.ret ?_
      try simp only [Q4, V4]
      subst hF
      simp only [finish, endMarks]
      rw [show Tryz.f50.results.toList = [.tmp 2] from rfl]
      simp (disch := first | omega | (simp only [D8, I8] <;> omega) | decide) only [resA, o5, J6, H6, O6, L6, L8, N8, E8, F8, result1]
      exact hK _ _ hkp ⟨_, _, rfl, Nat.le_refl _, hrlt, hm⟩
  · refine ⟨Nat.zero_le _, hk1, Nat.lt_succ_self _, L6 (Nat.lt_succ_self _), ?_, ?_, ?_, ?_⟩
    all_goals (first | rfl | (simp (disch := first | omega | (simp only [D8, I8] <;> omega) | decide) only [O0,U0,X0,Y0,O1,U1,Y1,U2,Y2,Y9,Z9,l9,o9,x9,J3,O3,Q3,U3,V3,X3,Y3,I4,J4,O4,Q4,U4,V4,X4,Y4,Z4,D5,E5,F5,G5,H5,I5,J5,O5,P5,Q5,U5,V5,X5,Y5,Z5,o5,y5,D6,F6,G6,H6,J6,L6,O6,P6,U6,V6,X6,Y6,o6,A7,D7,F7,G7,H7,I7,J7,N7,O7,P7,Q7,U7,V7,X7,Y7,Z7,l7,o7,y7,A8,D8,E8,F8,G8,H8,↓reduceIte,Nat.reduceEqDiff,I8,J8,L8,N8,O8,P8,Q8,U8,V8,X8,Y8,Z8,o8,y8,C9,D9,E9,F9,G9,H9,I9,J9,L9,N9,Nat.reduceAdd,y9,A_,B_,C_,D_,O9,P9,E_,F_]; done) | (simp (disch := first | omega | (simp only [D8, I8] <;> omega) | decide) only [O0,U0,X0,Y0,O1,U1,Y1,U2,Y2,Y9,Z9,l9,o9,x9,J3,O3,Q3,U3,V3,X3,Y3,I4,J4,O4,Q4,U4,V4,X4,Y4,Z4,D5,E5,F5,G5,H5,I5,J5,O5,P5,Q5,U5,V5,X5,Y5,Z5,o5,y5,D6,F6,G6,H6,J6,L6,O6,P6,U6,V6,X6,Y6,o6,A7,D7,F7,G7,H7,I7,J7,N7,O7,P7,Q7,U7,V7,X7,Y7,Z7,l7,o7,y7,A8,D8,E8,F8,G8,H8,↓reduceIte,Nat.reduceEqDiff,I8,J8,L8,N8,O8,P8,Q8,U8,V8,X8,Y8,Z8,o8,y8,C9,D9,E9,F9,G9,H9,I9,J9,L9,N9,Nat.reduceAdd,y9,A_,B_,C_,D_,O9,P9,E_,F_]; rfl))
end Go.Proofs.Hs
