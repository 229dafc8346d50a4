/-
  The law of the mirror, walked.
-/
import Derived.Test.YtdliebbfcmdmaaaGreatMj49
set_option linter.unusedVariables false
set_option maxHeartbeats 6400000
set_option maxRecDepth 100000
namespace Go.Proofs.YtdliebbfcmdmaaaGreat
open Go.RowKit
theorem cellsM {W:World} {s:Nat} (hs:W.heap.size = s) (cs:List Value) (t:TypeId) (j:Nat) (u:Value) (h:cs[j]? = some u):(W.alloc (Obj.cells cs.toArray t)).cell? ((⟨s,0,none⟩:Addr).add j) = some u:=by
 subst hs; exact dK W cs t j u h
theorem take_turn {cs:List Cm} {k:Nat} {c:Cm} (h:cs[k]? = some c):((cs.take (k + 1)).map aH).flatMap Cm.vs = ((cs.take k).map aH).flatMap Cm.vs ++ (aH c).vs:=by
 rw [List.take_add_one,h]; simp
set_option maxRecDepth 100000 in
set_option maxHeartbeats 6400000 in
theorem mirLaw (v:Value) (l:List Int) (w:World) (hr:Rd w v l) (L:Bts l) (hl:l.length ≤ 1048576) :
  Calls Tryz.prog 3 #[v] w fun e w'=>e = .returned (.bool true)∧Below w.heap.size w w':=by
 have HR:=hide hr
 have HBT:=hide L
 obtain ⟨a,A,rfl,-,-⟩:=hr
 clear L
 have hl':¬ ((1048576:Int) < l.length):=by omega
 obtain ⟨i0,hi,uA,uC,uM⟩:=info_parts Tryz.infoCmdD
 go_enter Tryz.func3,Tryz.ntmps3
 go_wp2_with fail
 refine (cleanOf_any _ l w (U HR) (U HBT)).mono ?_
 rintro e w1 ⟨o,cs,rfl,xo,hn,xL,xX⟩
 obtain ⟨ao,co,rfl⟩:=db xL
 have HRC:Hid (RdR Cm.vs 8 w1 (.slice ao cs.length co) cs):=ownR_rd (bS Cm.len (by omega) xL)
 have qk:=hide xo
 have xW:=hide xX
 clear xo xL xX HR HBT
 have vG:=hide (World.ownsRow_made (base:=w1.heap.size) (e:=27) (size:=8) w1 #[] 0 (Nat.le_refl _) (by decide) rfl)
 have vj:Hid (Below w1.heap.size w1 (w1.alloc (Obj.cells #[] 27))):=(Below.refl _ _).alloc (Nat.le_refl _) _
 have hsf:=sfl
 go_wp2_with fail
 go_loopw [4,5] (fun ov iv wr=>∃ k:Nat,k ≤ cs.length∧iv = .int .i64 k∧wr.ownsRow w1.heap.size 27 8 ov k (((cs.take k).map aH).flatMap Cm.vs)∧Below w1.heap.size w1 wr) (fun _ iv _=>cs.length - (intOf iv).toNat)
 case atStart=>exact ⟨0,Nat.zero_le _,rfl,U vG,U vj⟩
 case round =>
  obtain ⟨k,hk,rfl,xL,qr⟩:=hrel
  have jC:=hide xL
  have xE:=hide qr
  obtain ⟨at_,ct_,rfl⟩:=db xL
  clear xL qr
  by_cases xK:k < cs.length
  ·obtain ⟨c,hc⟩:∃ c,cs[k]? = some c:=⟨_,yH xK⟩
   have uv:(k:Int) < cs.length:=by omega
   have hcc:=U qk c (yO hc)
   have kG:=hide (take_turn hc)
   obtain ⟨lb,lo,rfl,qn⟩:∃ lb lo,ao = some ⟨lb,lo,none⟩∧wr.rangeAt lb (lo + k * 8) c.vs:=by
    obtain ⟨a1,c1,e1,-,Q⟩:=U HRC
    simp only [Value.slice.injEq,true_and] at e1
    obtain ⟨b,off,N,js,h3⟩:=Q (by intro h; rw [h] at hc; simp at hc)
    exact ⟨b,off,e1.1.trans N,zb (h3 k c hc) (U xE) js⟩
   obtain ⟨ck,c1,ct,cl,cq,ci,cp,jc⟩:=c
   obtain ⟨l0,l1,l2,l3,l4,l5,l6,l7⟩:=cm_cells qn
   simp only at l0 l1 l2 l3 l4 l5 l6 l7
   obtain ⟨uF,hpr,-⟩:=hcc
   simp only at uF hpr
   have xA:=(U xE).size
   clear hc qn
   by_cases hk1:ck = 1
   ·subst hk1
    have hw1:IntKind.i64.wrap (3 - c1) = 3 - c1:=by rw [IntKind.wrap_i64]; omega
    by_cases ht:ct = 2
    ·subst ht
     have e1:aH ⟨1,c1,2,cl,cq,ci,cp,jc⟩ = ⟨1,3 - c1,2,cl,cq,ci,cp,jc⟩:=rfl
     rw [e1] at kG
     clear hpr e1
     go_wp2_with (at_builtin; go_must (refine wpList_append_own _ rfl _ _ 23 rfl w1.heap.size 27 i0 _ 8 72 Tryz.underlying23 hi uA uC uM rfl (by decide) _ k (((cs.take k).map aH).flatMap Cm.vs) rfl (((U jC).alloc _).alloc _) ⟨wr.heap.size + 1,0,none⟩ 1 1 (Cm.vs ⟨1,3 - c1,2,cl,cq,ci,cp,jc⟩) rfl rfl (cellsM (ze wr _) _ _) (by simp [Value.oneCell',Cm.vs]) (by unfold maxLen; omega) (by omega) (by rw [ze,ze]; omega) ?_); intro v4 w4 uR jX _)
     try dsimp only [H,I,J,M,yj,yk,yu,yv,yw,yp,yq,E]
     go_roundw
     case rel=>exact ⟨k + 1,by omega,by go_num,by rw [U kG]; simpa using uR,(((U xE).alloc (U xE).size _).alloc (by rw [ze]; have:=(U xE).size; omega) _).grown jX (by rw [ze,ze]; have:=(U xE).size; omega) (fun j R=>((U jC).lt j R).1)⟩
     case measure=>simp [intOf]; omega
    ·have htb:(ct != 2) = true:=by simpa using ht
     obtain ⟨Q,N,h3⟩:=hpr rfl ht
     have pK:=(mir_price h3 Q N).1
     have e1:aH ⟨1,c1,ct,cl,cq,ci,cp,jc⟩ = ⟨1,3 - c1,ct,cl,cq,ci,mirP cp,jc⟩:=by
      unfold aH; rw [if_pos rfl]; simp only [if_neg ht]
     rw [e1] at kG
     clear hpr e1 Q N h3 ht
     generalize mirP cp = pm at pK kG
     have hbin:∀ W,(binOp .sub 25 (.float .f64 4641240890982006784) (.float .f64 cp)).run Tryz.prog W = .ok (.float .f64 pm) W:=fun W=>by simp [binOp,Op.floatArith,pK]
     clear pK
     go_wp2_with (at_builtin; go_must (refine wpList_append_own _ rfl _ _ 23 rfl w1.heap.size 27 i0 _ 8 72 Tryz.underlying23 hi uA uC uM rfl (by decide) _ k (((cs.take k).map aH).flatMap Cm.vs) rfl (((U jC).alloc _).alloc _) ⟨wr.heap.size + 1,0,none⟩ 1 1 (Cm.vs ⟨1,3 - c1,ct,cl,cq,ci,pm,jc⟩) rfl rfl (cellsM (ze wr _) _ _) (by simp [Value.oneCell',Cm.vs]) (by unfold maxLen; omega) (by omega) (by rw [ze,ze]; omega) ?_); intro v4 w4 uR jX _)
     try dsimp only [H,I,J,M,yj,yk,yu,yv,yw,yp,yq,E]
     go_roundw
     case rel=>exact ⟨k + 1,by omega,by go_num,by rw [U kG]; simpa using uR,(((U xE).alloc (U xE).size _).alloc (by rw [ze]; have:=(U xE).size; omega) _).grown jX (by rw [ze,ze]; have:=(U xE).size; omega) (fun j R=>((U jC).lt j R).1)⟩
     case measure=>simp [intOf]; omega
   ·have hkb:(ck == 1) = false:=by simpa using hk1
    have e1:aH ⟨ck,c1,ct,cl,cq,ci,cp,jc⟩ = ⟨ck,c1,ct,cl,cq,ci,cp,jc⟩:=by unfold aH; rw [if_neg hk1]
    rw [e1] at kG
    clear hpr e1 hk1
    go_wp2_with (at_builtin; go_must (refine wpList_append_own _ rfl _ _ 23 rfl w1.heap.size 27 i0 _ 8 72 Tryz.underlying23 hi uA uC uM rfl (by decide) _ k (((cs.take k).map aH).flatMap Cm.vs) rfl (((U jC).alloc _).alloc _) ⟨wr.heap.size + 1,0,none⟩ 1 1 (Cm.vs ⟨ck,c1,ct,cl,cq,ci,cp,jc⟩) rfl rfl (cellsM (ze wr _) _ _) (by simp [Value.oneCell',Cm.vs]) (by unfold maxLen; omega) (by omega) (by rw [ze,ze]; omega) ?_); intro v4 w4 uR jX _)
    try dsimp only [H,I,J,M,yj,yk,yu,yv,yw,yp,yq,E]
    go_roundw
    case rel=>exact ⟨k + 1,by omega,by go_num,by rw [U kG]; simpa using uR,(((U xE).alloc (U xE).size _).alloc (by rw [ze]; have:=(U xE).size; omega) _).grown jX (by rw [ze,ze]; have:=(U xE).size; omega) (fun j R=>((U jC).lt j R).1)⟩
    case measure=>simp [intOf]; omega
  ·obtain rfl:k = cs.length:=by omega
   have uv:¬ ((cs.length:Int) < cs.length):=by omega
   rw [yZ (Nat.le_refl _)] at jC
   obtain ⟨q1,q2,q3,q4,q5⟩:=mir_run (U qk) (by omega)
   have qI:Hid (∀ c ∈ cs,c.g.size ≤ maxLen):=fun c hc=>yN (U qk c hc).ok.1 (by unfold maxLen; omega)
   have HTG2:Hid (∀ c ∈ cs.map aH,c.g.size ≤ maxLen):=fun c hc=>by
    obtain ⟨d,hd,rfl⟩:=List.mem_map.1 hc
    rw [turn_tag]; exact U qI d hd
   have hcf:cntF cs.length = 0:=cntF_zero.2 (by omega)
   have HRC3:=hide (zl (U HRC) (U xE) (Nat.le_refl _))
   have kr:Hid (RdR Cm.vs 8 wr (.slice at_ cs.length ct_) (cs.map aH)):=by
    have h:=ownR_rd (bS Cm.len (l:=cs.map aH) (by rw [List.length_map]; omega) (by rw [List.length_map]; exact U jC))
    exact h
   have HIM:=hide (fun W hW=>dX (.slice ao cs.length co) cs W hW (U qI))
   have HIT:=hide (fun W hW=>dX (.slice at_ cs.length ct_) (cs.map aH) W hW (U HTG2))
   have HSM:=hide (fun W hW=>specRunScript_any (.slice ao cs.length co) cs W hW (U qI))
   rw [List.length_map] at HIT
   simp only [hcf] at HIM HIT HSM
   generalize rsF cs = qt at q1 q2 q3 q4 q5 HIM HSM
   generalize rsF (cs.map aH) = F2 at q1 q4 q5 HIT
   have kE:=hide q1
   have HQ2:=hide q2
   have jN:Hid (∀ es ∈ qt.g,es.length ≤ 1000):=fun es he=>by have:=q3 es he; omega
   have uL:Hid (∀ es ∈ F2.g,es.length ≤ 1000):=fun es he=>by have:=q4 es he; omega
   have HQ3:=hide q3
   have HQ5:=hide q5
   have hg27:qt.g.length ≤ 27:=by omega
   have HBW1:=hide ((U xW).trans ((U xE).mono (U xW).size))
   clear q1 q2 q3 q4 q5 hcf jC qI HTG2 qk HRC xE xW
   go_wp2_with fail
   refine (U HIM wr (U HRC3)).mono ?_
   rintro e w2 ⟨gv,vq,rfl,ub,oQ,xZ⟩
   obtain ⟨gs,vV,vN,uW,-⟩:=ub.ex
   have jI:=grs_rd vV vN uW (by omega) (U jN)
   obtain ⟨ag,cg,rfl,-⟩:=id jI
   obtain ⟨aq,cq,rfl⟩:=db oQ
   have oX:Below w2.heap.size w2 (w2.alloc (Obj.cells #[.slice ag qt.g.length cg,.int .i64 qt.n,.slice aq qt.l.length cq,.int .i64 qt.t.gr,.int .i64 qt.t.ac,.int .i64 qt.t.rf,.int .i64 qt.t.tr,.int .i64 qt.t.vo,.int .i64 qt.t.no,.int .i64 qt.t.li,.int .i64 qt.t.le] 35)):=(Below.refl _ _).alloc (Nat.le_refl _) _
   have hb23:=xZ.trans (oX.mono xZ.size)
   have xT:=hide ((U HBW1).trans (hb23.mono (U HBW1).size))
   have kH:=hide (bG w2 [.slice ag qt.g.length cg,.int .i64 qt.n,.slice aq qt.l.length cq,.int .i64 qt.t.gr,.int .i64 qt.t.ac,.int .i64 qt.t.rf,.int .i64 qt.t.tr,.int .i64 qt.t.vo,.int .i64 qt.t.no,.int .i64 qt.t.li,.int .i64 qt.t.le] 35)
   have vK:=hide (cx jI oX (Nat.le_refl _))
   have HRT3:=hide (zl (U kr) hb23 (Nat.le_refl _))
   have HRC4:=hide (zl (U HRC3) hb23 (Nat.le_refl _))
   have qG:w2.heap.size < (w2.alloc (Obj.cells #[.slice ag qt.g.length cg,.int .i64 qt.n,.slice aq qt.l.length cq,.int .i64 qt.t.gr,.int .i64 qt.t.ac,.int .i64 qt.t.rf,.int .i64 qt.t.tr,.int .i64 qt.t.vo,.int .i64 qt.t.no,.int .i64 qt.t.li,.int .i64 qt.t.le] 35)).heap.size:=by simp
   clear ub oQ xZ vV vN uW jI oX hb23 HIM HRC3 kr HBW1
   go_wp2_with fail
   generalize (w2.alloc (Obj.cells #[.slice ag qt.g.length cg,.int .i64 qt.n,.slice aq qt.l.length cq,.int .i64 qt.t.gr,.int .i64 qt.t.ac,.int .i64 qt.t.rf,.int .i64 qt.t.tr,.int .i64 qt.t.vo,.int .i64 qt.t.no,.int .i64 qt.t.li,.int .i64 qt.t.le] 35)) = W3 at xT kH vK HRT3 HRC4 qG ⊢
   refine (U HIT W3 (U HRT3)).mono ?_
   rintro e w4 ⟨gv,vq,rfl,ub,oQ,xC⟩
   obtain ⟨gs2,vV,vN,uW,-⟩:=ub.ex
   have jI:=grs_rd vV vN uW (by rw [U kE]; omega) (U uL)
   obtain ⟨ag2,cg2,rfl,-⟩:=id jI
   obtain ⟨aq2,cq2,rfl⟩:=db oQ
   have oX:Below w4.heap.size w4 (w4.alloc (Obj.cells #[.slice ag2 F2.g.length cg2,.int .i64 F2.n,.slice aq2 F2.l.length cq2,.int .i64 F2.t.gr,.int .i64 F2.t.ac,.int .i64 F2.t.rf,.int .i64 F2.t.tr,.int .i64 F2.t.vo,.int .i64 F2.t.no,.int .i64 F2.t.li,.int .i64 F2.t.le] 35)):=(Below.refl _ _).alloc (Nat.le_refl _) _
   have hb45:=xC.trans (oX.mono xC.size)
   have km:=hide ((U xT).trans (hb45.mono (U xT).size))
   have pv:=hide (bQ (U kH) hb45 qG)
   have HY5:=hide (bG w4 [.slice ag2 F2.g.length cg2,.int .i64 F2.n,.slice aq2 F2.l.length cq2,.int .i64 F2.t.gr,.int .i64 F2.t.ac,.int .i64 F2.t.rf,.int .i64 F2.t.tr,.int .i64 F2.t.vo,.int .i64 F2.t.no,.int .i64 F2.t.li,.int .i64 F2.t.le] 35)
   have qW:=hide (cx (U vK) hb45 (Nat.le_refl _))
   have HH5:=hide (cx jI oX (Nat.le_refl _))
   have HRC5:=hide (zl (U HRC4) hb45 (Nat.le_refl _))
   have pe:w2.heap.size < (w4.alloc (Obj.cells #[.slice ag2 F2.g.length cg2,.int .i64 F2.n,.slice aq2 F2.l.length cq2,.int .i64 F2.t.gr,.int .i64 F2.t.ac,.int .i64 F2.t.rf,.int .i64 F2.t.tr,.int .i64 F2.t.vo,.int .i64 F2.t.no,.int .i64 F2.t.li,.int .i64 F2.t.le] 35)).heap.size∧w4.heap.size < (w4.alloc (Obj.cells #[.slice ag2 F2.g.length cg2,.int .i64 F2.n,.slice aq2 F2.l.length cq2,.int .i64 F2.t.gr,.int .i64 F2.t.ac,.int .i64 F2.t.rf,.int .i64 F2.t.tr,.int .i64 F2.t.vo,.int .i64 F2.t.no,.int .i64 F2.t.li,.int .i64 F2.t.le] 35)).heap.size:=⟨yJ qG hb45.size,by simp⟩
   clear ub oQ xC vV vN uW jI oX hb45 HIT HRC4 HRT3 kH vK xT qG
   go_wp2_with fail
   generalize (w4.alloc (Obj.cells #[.slice ag2 F2.g.length cg2,.int .i64 F2.n,.slice aq2 F2.l.length cq2,.int .i64 F2.t.gr,.int .i64 F2.t.ac,.int .i64 F2.t.rf,.int .i64 F2.t.tr,.int .i64 F2.t.vo,.int .i64 F2.t.no,.int .i64 F2.t.li,.int .i64 F2.t.le] 35)) = W5 at km pv HY5 qW HH5 HRC5 pe ⊢
   refine (U HSM W5 (U HRC5)).mono ?_
   rintro e w6 ⟨gv,vq,rfl,ub,oQ,jj⟩
   obtain ⟨gs3,vV,vN,uW⟩:=ub.ex
   have jI:=grs_rd vV vN uW (by omega) (U jN)
   obtain ⟨ag3,cg3,rfl,-⟩:=id jI
   obtain ⟨aq3,cq3,rfl⟩:=db oQ
   have oX:Below w6.heap.size w6 (w6.alloc (Obj.cells #[.slice ag3 qt.g.length cg3,.int .i64 qt.n,.slice aq3 qt.l.length cq3,.int .i64 qt.t.gr,.int .i64 qt.t.ac,.int .i64 qt.t.rf,.int .i64 qt.t.tr,.int .i64 qt.t.vo,.int .i64 qt.t.no,.int .i64 qt.t.li,.int .i64 qt.t.le] 35)):=(Below.refl _ _).alloc (Nat.le_refl _) _
   have oG:=jj.trans (oX.mono jj.size)
   have jA:=hide ((U km).trans (oG.mono (U km).size))
   have HX7:=hide (bQ (U pv) oG pe.1)
   have HY7:=hide (bQ (U HY5) oG pe.2)
   have HZ7:=hide (bG w6 [.slice ag3 qt.g.length cg3,.int .i64 qt.n,.slice aq3 qt.l.length cq3,.int .i64 qt.t.gr,.int .i64 qt.t.ac,.int .i64 qt.t.rf,.int .i64 qt.t.tr,.int .i64 qt.t.vo,.int .i64 qt.t.no,.int .i64 qt.t.li,.int .i64 qt.t.le] 35)
   have ox:=hide (cx (U qW) oG (Nat.le_refl _))
   have HH7:=hide (cx (U HH5) oG (Nat.le_refl _))
   have HI7:=hide (cx jI oX (Nat.le_refl _))
   have hs7:w2.heap.size < (w6.alloc (Obj.cells #[.slice ag3 qt.g.length cg3,.int .i64 qt.n,.slice aq3 qt.l.length cq3,.int .i64 qt.t.gr,.int .i64 qt.t.ac,.int .i64 qt.t.rf,.int .i64 qt.t.tr,.int .i64 qt.t.vo,.int .i64 qt.t.no,.int .i64 qt.t.li,.int .i64 qt.t.le] 35)).heap.size∧w4.heap.size < (w6.alloc (Obj.cells #[.slice ag3 qt.g.length cg3,.int .i64 qt.n,.slice aq3 qt.l.length cq3,.int .i64 qt.t.gr,.int .i64 qt.t.ac,.int .i64 qt.t.rf,.int .i64 qt.t.tr,.int .i64 qt.t.vo,.int .i64 qt.t.no,.int .i64 qt.t.li,.int .i64 qt.t.le] 35)).heap.size:=⟨yJ pe.1 oG.size,yJ pe.2 oG.size⟩
   clear ub oQ jj vV vN uW jI oX oG HSM HRC5 pv HY5 qW HH5 km pe
   have x0:=aM (U HX7) 0 rfl
   have z0:=aM (U HZ7) 0 rfl
   go_wp2_with fail
   generalize (w6.alloc (Obj.cells #[.slice ag3 qt.g.length cg3,.int .i64 qt.n,.slice aq3 qt.l.length cq3,.int .i64 qt.t.gr,.int .i64 qt.t.ac,.int .i64 qt.t.rf,.int .i64 qt.t.tr,.int .i64 qt.t.vo,.int .i64 qt.t.no,.int .i64 qt.t.li,.int .i64 qt.t.le] 35)) = W7 at jA HX7 HY7 HZ7 ox HH7 HI7 hs7 x0 z0 ⊢
   refine (smGs_same _ _ qt.g W7 (U ox) (U HI7)).mono ?_
   rintro e w8 ⟨rfl,hb8⟩
   have vQ:=hide ((U jA).trans (hb8.mono (U jA).size))
   have HX8:=hide (bQ (U HX7) hb8 hs7.1)
   have HY8:=hide (bQ (U HY7) hb8 hs7.2)
   have HG8:=hide (cx (U ox) hb8 (Nat.le_refl _))
   have HH8:=hide (cx (U HH7) hb8 (Nat.le_refl _))
   have hs8:w2.heap.size < w8.heap.size∧w4.heap.size < w8.heap.size:=⟨yJ hs7.1 hb8.size,yJ hs7.2 hb8.size⟩
   clear hb8 jA HX7 HY7 HZ7 ox HH7 HI7 hs7 x0 z0
   have x0:=aM (U HX8) 0 rfl
   have y0:=aM (U HY8) 0 rfl
   have hln:((F2.g.length:Int) != (qt.g.length:Int)) = false:=by rw [U kE]; simp
   go_wp2_with fail
   clear hln x0 y0
   generalize Value.tuple #[Value.agg #[.slice ag qt.g.length cg,.int .i64 qt.n,.slice aq qt.l.length cq,.int .i64 qt.t.gr,.int .i64 qt.t.ac,.int .i64 qt.t.rf,.int .i64 qt.t.tr,.int .i64 qt.t.vo,.int .i64 qt.t.no,.int .i64 qt.t.li,.int .i64 qt.t.le],.int .i64 0] = dA
   generalize Value.agg #[.slice ag qt.g.length cg,.int .i64 qt.n,.slice aq qt.l.length cq,.int .i64 qt.t.gr,.int .i64 qt.t.ac,.int .i64 qt.t.rf,.int .i64 qt.t.tr,.int .i64 qt.t.vo,.int .i64 qt.t.no,.int .i64 qt.t.li,.int .i64 qt.t.le] = dB
   generalize Value.tuple #[Value.agg #[.slice ag2 F2.g.length cg2,.int .i64 F2.n,.slice aq2 F2.l.length cq2,.int .i64 F2.t.gr,.int .i64 F2.t.ac,.int .i64 F2.t.rf,.int .i64 F2.t.tr,.int .i64 F2.t.vo,.int .i64 F2.t.no,.int .i64 F2.t.li,.int .i64 F2.t.le],.int .i64 0] = dC
   generalize Value.agg #[.slice ag2 F2.g.length cg2,.int .i64 F2.n,.slice aq2 F2.l.length cq2,.int .i64 F2.t.gr,.int .i64 F2.t.ac,.int .i64 F2.t.rf,.int .i64 F2.t.tr,.int .i64 F2.t.vo,.int .i64 F2.t.no,.int .i64 F2.t.li,.int .i64 F2.t.le] = dD
   generalize Value.tuple #[Value.agg #[.slice ag3 qt.g.length cg3,.int .i64 qt.n,.slice aq3 qt.l.length cq3,.int .i64 qt.t.gr,.int .i64 qt.t.ac,.int .i64 qt.t.rf,.int .i64 qt.t.tr,.int .i64 qt.t.vo,.int .i64 qt.t.no,.int .i64 qt.t.li,.int .i64 qt.t.le],.int .i64 0] = dE
   generalize Value.agg #[.slice ag3 qt.g.length cg3,.int .i64 qt.n,.slice aq3 qt.l.length cq3,.int .i64 qt.t.gr,.int .i64 qt.t.ac,.int .i64 qt.t.rf,.int .i64 qt.t.tr,.int .i64 qt.t.vo,.int .i64 qt.t.no,.int .i64 qt.t.li,.int .i64 qt.t.le] = dF
   go_loopw [13] (fun i wr=>∃ k:Nat,k ≤ qt.g.length∧i = .int .i64 k∧Below w8.heap.size w8 wr) (fun i _=>qt.g.length - (intOf i).toNat)
   case atStart=>exact ⟨0,Nat.zero_le _,rfl,Below.refl _ _⟩
   case round =>
    obtain ⟨k,hk,rfl,qr⟩:=hrel
    have xE:=hide qr
    have x0:wr.cell? ⟨w2.heap.size,0,none⟩ = some (.slice ag qt.g.length cg):=aM (bQ (U HX8) qr hs8.1) 0 rfl
    have y0:wr.cell? ⟨w4.heap.size,0,none⟩ = some (.slice ag2 F2.g.length cg2):=aM (bQ (U HY8) qr hs8.2) 0 rfl
    clear qr
    by_cases xK:k < qt.g.length
    ·obtain ⟨es,vi⟩:∃ es,qt.g[k]? = some es:=⟨_,yH xK⟩
     obtain ⟨fs,hfs,hef⟩:=U HQ5 k es vi
     have hel:=U HQ3 es (yO vi)
     have HEF:=hide hef
     have HLF:=hide (esM_len hef)
     have uv:(k:Int) < qt.g.length:=by omega
     have oP:(k:Int) < F2.g.length:=by rw [U kE]; omega
     obtain ⟨gb,go,ga,gc,rfl,hgb,g0,hre⟩:∃ gb go ga gc,ag = some ⟨gb,go,none⟩∧gb < w8.heap.size∧w8.cell? ⟨gb,go + k,none⟩ = some (.slice ga es.length gc)∧RdR Ev.vs 14 w8 (.slice ga es.length gc) es:=by
      obtain ⟨a1,c1,e1,-,Q⟩:=U HG8
      simp only [Value.slice.injEq,true_and] at e1
      obtain ⟨b,off,N,js,h3⟩:=Q (by intro h; rw [h] at vi; simp at vi)
      obtain ⟨g,h4,h5⟩:=h3 k es vi
      obtain ⟨ga,gc,rfl,-⟩:=id h5
      exact ⟨b,off,ga,gc,e1.1.trans N,js,h4,h5⟩
     obtain ⟨hb_,ho_,ha_,hc_,rfl,hhb,h0,hrf⟩:∃ gb go ga gc,ag2 = some ⟨gb,go,none⟩∧gb < w8.heap.size∧w8.cell? ⟨gb,go + k,none⟩ = some (.slice ga fs.length gc)∧RdR Ev.vs 14 w8 (.slice ga fs.length gc) fs:=by
      obtain ⟨a1,c1,e1,-,Q⟩:=U HH8
      simp only [Value.slice.injEq,true_and] at e1
      obtain ⟨b,off,N,js,h3⟩:=Q (by intro h; rw [h] at hfs; simp at hfs)
      obtain ⟨g,h4,h5⟩:=h3 k fs hfs
      obtain ⟨ga,gc,rfl,-⟩:=id h5
      exact ⟨b,off,ga,gc,e1.1.trans N,js,h4,h5⟩
     have HG0:=hide g0
     have HH0:=hide h0
     have vp:=hide hre
     have kT:=hide hrf
     have p0:=((U xE).cell (p:=⟨gb,go + k,none⟩) hgb).trans g0
     have p1:=((U xE).cell (p:=⟨hb_,ho_ + k,none⟩) hhb).trans h0
     have hln2:((es.length:Int) != (fs.length:Int)) = false:=by rw [U HLF]; simp
     clear g0 h0 hre hrf vi hfs hef
     go_wp2_with fail
     go_quiet (fail)
     go_wp2_with fail
     clear hln2 p0 p1 x0 y0
     go_loopw [14] (fun jv wq=>∃ j:Nat,j ≤ es.length∧jv = .int .i64 j∧Below w8.heap.size w8 wq) (fun jv _=>es.length - (intOf jv).toNat)
     case atStart=>exact ⟨0,Nat.zero_le _,rfl,by first | exact U xE | exact ⟨(U xE).os,(U xE).tape,(U xE).output,(U xE).size,(U xE).block⟩⟩
     case round =>
      obtain ⟨j,R,rfl,qr⟩:=hrel
      clear xE
      have xE:=hide qr
      have x0:wr.cell? ⟨w2.heap.size,0,none⟩ = some (.slice (some ⟨gb,go,none⟩) qt.g.length cg):=aM (bQ (U HX8) qr hs8.1) 0 rfl
      have y0:wr.cell? ⟨w4.heap.size,0,none⟩ = some (.slice (some ⟨hb_,ho_,none⟩) F2.g.length cg2):=aM (bQ (U HY8) qr hs8.2) 0 rfl
      have p0:=(qr.cell (p:=⟨gb,go + k,none⟩) hgb).trans (U HG0)
      have p1:=(qr.cell (p:=⟨hb_,ho_ + k,none⟩) hhb).trans (U HH0)
      by_cases hjl:j < es.length
      ·obtain ⟨x,hx⟩:∃ x,es[j]? = some x:=⟨_,yH hjl⟩
       obtain ⟨y,hy,hxy⟩:=esM_at (U HEF) j x hx
       have hjl':(j:Int) < es.length:=by omega
       have hjf:(j:Int) < fs.length:=by rw [U HLF]; omega
       obtain ⟨eb,eo,rfl,hxr⟩:∃ eb eo,ga = some ⟨eb,eo,none⟩∧wr.rangeAt eb (eo + j * 14) x.vs:=by
        obtain ⟨a1,c1,e1,-,Q⟩:=U vp
        simp only [Value.slice.injEq,true_and] at e1
        obtain ⟨b,off,N,js,h3⟩:=Q (by intro h; rw [h] at hx; simp at hx)
        exact ⟨b,off,e1.1.trans N,zb (h3 j x hx) qr js⟩
       obtain ⟨fb,fo,rfl,hfb,hyr⟩:∃ eb eo,ha_ = some ⟨eb,eo,none⟩∧eb < wr.heap.size∧wr.rangeAt eb (eo + j * 14) y.vs:=by
        obtain ⟨a1,c1,e1,-,Q⟩:=U kT
        simp only [Value.slice.injEq,true_and] at e1
        obtain ⟨b,off,N,js,h3⟩:=Q (by intro h; rw [h] at hy; simp at hy)
        exact ⟨b,off,e1.1.trans N,yJ js qr.size,zb (h3 j y hy) qr js⟩
       have uU:Hid (_∧_∧_∧_∧_∧_):=⟨hxy.kind.symm,hxy.id.symm,hxy.other.symm,hxy.qty.symm,hxy.reason.symm,hxy.price⟩
       obtain ⟨xkd,⟨xmk,xms,xmt,xml,xmq,xmi,xmp,xmg⟩,xid,xot,xqt,xpr,xrs⟩:=x
       obtain ⟨ykd,⟨ymk,yms,ymt,yml,ymq,ymi,ymp,ymg⟩,yid,yot,yqt,ypr,yrs⟩:=y
       simp only at uU
       obtain ⟨rfl,rfl,rfl,rfl,rfl,hpp⟩:=U uU
       have HPP:=hide hpp
       obtain ⟨g0,g1,g2,g3,g4,g5,g6,g7,g8,g9,qC,vF,ua,ku⟩:=cz hxr
       simp only at g0 g1 g2 g3 g4 g5 g6 g7 g8 g9 qC vF ua ku
       have hA1:=(Below.refl wr.heap.size wr).alloc (Nat.le_refl _) (Obj.cells #[.int .i64 xkd,.int .i64 xmk,.int .i64 xms,.int .i64 xmt,.int .i64 xml,.int .i64 xmq,.int .i64 xmi,.float .f64 xmp,.string xmg,.int .i64 xid,.int .i64 xot,.int .i64 xqt,.int .i64 xpr,.int .i64 xrs] 41)
       obtain ⟨k0,k1,k2,k3,k4,k5,k6,k7,k8,k9,k10,oe,k12,k13⟩:=cz (zb hyr hA1 hfb)
       simp only at k0 k1 k2 k3 k4 k5 k6 k7 k8 k9 k10 oe k12 k13
       have y0':=(hA1.cell (p:=⟨w4.heap.size,0,none⟩) (yJ hs8.2 qr.size)).trans y0
       have p1':=(hA1.cell (p:=⟨hb_,ho_ + k,none⟩) (yJ hhb qr.size)).trans p1
       have kB:Hid (Below w8.heap.size w8 ((wr.alloc (Obj.cells #[.int .i64 xkd,.int .i64 xmk,.int .i64 xms,.int .i64 xmt,.int .i64 xml,.int .i64 xmq,.int .i64 xmi,.float .f64 xmp,.string xmg,.int .i64 xid,.int .i64 xot,.int .i64 xqt,.int .i64 xpr,.int .i64 xrs] 41)).alloc (Obj.cells #[.int .i64 xkd,.int .i64 ymk,.int .i64 yms,.int .i64 ymt,.int .i64 yml,.int .i64 ymq,.int .i64 ymi,.float .f64 ymp,.string ymg,.int .i64 xid,.int .i64 xot,.int .i64 xqt,.int .i64 ypr,.int .i64 xrs] 41))):=(qr.alloc qr.size _).alloc (by rw [ze]; have:=qr.size; omega) _
       clear hx hy hxy hxr hyr uU hpp hA1 qr
       by_cases h3:xkd = 3
       ·subst h3
        have hs8':IntKind.i64.wrap (xpr + ypr) = 800:=by rw [U HPP rfl]; rfl
        go_wp2_with fail
        try dsimp only [H,I,J,M,yj,yk,yu,yv,yw,yp,yq,E]
        go_roundw
        case rel=>exact ⟨j + 1,by omega,by go_num,U kB⟩
        case measure=>simp [intOf]; omega
       ·have h3b:(xkd == 3) = false:=by simpa using h3
        go_wp2_with fail
        try dsimp only [H,I,J,M,yj,yk,yu,yv,yw,yp,yq,E]
        go_roundw
        case rel=>exact ⟨j + 1,by omega,by go_num,U kB⟩
        case measure=>simp [intOf]; omega
      ·have hjl':¬ ((j:Int) < es.length):=by omega
       clear qr
       go_wp2_with fail
       try dsimp only [H,I,J,M,yj,yk,yu,yv,yw,yp,yq,E]
       go_roundw
       case rel=>exact ⟨k + 1,by omega,by go_num,U xE⟩
       case measure=>simp [intOf]; omega
    ·have uv:¬ ((k:Int) < qt.g.length):=by omega
     go_wp2_with fail
     go_ret
     exact ⟨rfl,(U vQ).trans ((U xE).mono (U vQ).size)⟩
set_option maxRecDepth 100000 in
set_option maxHeartbeats 800000 in
theorem lawMirror (a0:Option Addr) (len0 cap0:Nat) (z0:List Int) (w:World)
  (w0:(a0 = none∧len0 = 0∧cap0 = 0∧z0 = []) ∨ ∃ x,a0 = some x∧len0 ≤ cap0∧cap0 ≤ maxLen∧z0.length = cap0∧(∀ i,i < z0.length→w.cell? (x.add i) = some (.int .u8 (z0.getD i 0)))∧∀ n ∈ z0,(Lit.int .u8 n).wf = true) :
  Calls Tryz.prog 3 #[.slice a0 len0 cap0] w fun e w'=>e = .returned (.bool true)∧Below w.heap.size w w':=by
 by_cases h0:1048576 < len0
 ·have h0':(1048576:Int) < len0:=by omega
  clear w0
  go_enter Tryz.func3,Tryz.ntmps3
  go_wp2_with fail
  go_ret
  exact ⟨rfl,Below.refl _ _⟩
 obtain ⟨e0,r0,b0⟩:=rd_of_row w0 (by omega)
 exact mirLaw _ _ w r0 b0 (by omega)
end Go.Proofs.YtdliebbfcmdmaaaGreat
