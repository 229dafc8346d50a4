/-
  RunScript by the model: proved by walking the function.
-/
import Derived.Test.YtbakanofkghmiaaGreatTj48
set_option linter.unusedVariables false
set_option maxHeartbeats 6400000
set_option maxRecDepth 100000
namespace Go.Proofs.YtbakanofkghmiaaGreat
open Go.RowKit
theorem specRunScript_any (v:Value) (cs:List Cm) (w:World) (hr:RdR Cm.vs 8 w v cs) (oL:∀ c ∈ cs,c.g.size ≤ maxLen) :
  Calls Tryz.prog 11 #[v] w fun e w'=>∃ gv vq,e = yl (.tuple #[.agg #[gv,H (rsF cs).n,vq,H (rsF cs).t.gr,H (rsF cs).t.ac,H (rsF cs).t.rf,H (rsF cs).t.tr,H (rsF cs).t.vo,H (rsF cs).t.no,H (rsF cs).t.li,H (rsF cs).t.le],H (cntF cs.length)])∧GRs w' w.heap.size gv (rsF cs).g∧ORow w' w.heap.size vq (rsF cs).l∧ym w w':=by
 have HR:=Y hr
 have qF:=Y oL
 obtain ⟨a,E,rfl,xB,hc⟩:=hr
 clear hc oL
 have hsf:=sfl
 have HF:Hid (rsF cs = if cs.length ≤ 200 then { runS cs with t:=wbT (runS cs).t (runS cs).l } else ⟨0,[],[],tot0⟩):=rfl
 have HCF:=Y (cntF.eq_1 cs.length)
 have HRU:=Y (fun (h:cs.length ≤ 200) (W:World) hW=>l04Run_any (.slice a cs.length E) cs W hW (U qF) h)
 generalize rsF cs = hb at HF HRU ⊢
 generalize cntF cs.length = CF at HCF ⊢
 have hbX:=dm w (D #[.slice none 0 0,H 0,.slice none 0 0,H 0,H 0,H 0,H 0,H 0,H 0,H 0,H 0] 32)
 have HX:Hid ((w.alloc (D #[.slice none 0 0,H 0,.slice none 0 0,H 0,H 0,H 0,H 0,H 0,H 0,H 0,H 0] 32)).heap.size = w.heap.size + 1∧World.there (w.alloc (D #[.slice none 0 0,H 0,.slice none 0 0,H 0,H 0,H 0,H 0,H 0,H 0,H 0,H 0] 32)) w.heap.size 0 11∧ym w (w.alloc (D #[.slice none 0 0,H 0,.slice none 0 0,H 0,H 0,H 0,H 0,H 0,H 0,H 0,H 0] 32))):=⟨zf _ _,zt w [.slice none 0 0,H 0,.slice none 0 0,H 0,H 0,H 0,H 0,H 0,H 0,H 0,H 0] 32,hbX⟩
 clear hbX
 go_enter Tryz.func11,Tryz.ntmps11
 refine ds fun tg xq=>?_
 go_wp2_with fail
 refine U xq _ _ ?_
 clear xq
 generalize (w.alloc (D #[.slice none 0 0,H 0,.slice none 0 0,H 0,H 0,H 0,H 0,H 0,H 0,H 0,H 0] 32)) = hD at HX ⊢
 obtain ⟨y0,z0,q0⟩:=zc (U HX).2.1 (j:=0) (by omega)
 obtain ⟨y1,z1,q1⟩:=zc (U HX).2.1 (j:=1) (by omega)
 obtain ⟨y2,z2,q2⟩:=zc (U HX).2.1 (j:=2) (by omega)
 obtain ⟨y3,z3,q3⟩:=zc (U HX).2.1 (j:=3) (by omega)
 obtain ⟨y4,z4,q4⟩:=zc (U HX).2.1 (j:=4) (by omega)
 obtain ⟨y5,z5,q5⟩:=zc (U HX).2.1 (j:=5) (by omega)
 obtain ⟨y6,z6,q6⟩:=zc (U HX).2.1 (j:=6) (by omega)
 obtain ⟨y7,z7,q7⟩:=zc (U HX).2.1 (j:=7) (by omega)
 obtain ⟨y8,z8,q8⟩:=zc (U HX).2.1 (j:=8) (by omega)
 obtain ⟨y9,z9,q9⟩:=zc (U HX).2.1 (j:=9) (by omega)
 obtain ⟨y10,z10,q10⟩:=zc (U HX).2.1 (j:=10) (by omega)
 by_cases Q:4096 < cs.length
 ·have qC:Hid (hb = ⟨0,[],[],tot0⟩):=(U HF).trans (if_neg (by omega))
  have HCD:Hid (CF = 2):=(U HCF).trans (if_pos Q)
  have kZ:(4096:Int) < cs.length:=by omega
  have xN:=Y (yV hD w.heap.size 0 [.slice none 0 0,H 0,.slice none 0 0,H 0,H 0,H 0,H 0,H 0,H 0,H 0,H 0] (fun j R=>(U HX).2.1 j R))
  have vX:=Y (zm w.heap.size qt [.slice none 0 0,H 0,.slice none 0 0,H 0,H 0,H 0,H 0,H 0,H 0,H 0,H 0] 0 hD (U HX).2.2)
  clear HF HCF HRU
  go_wp2_with fail
  change bodyPost _ _ _ _ _ (hD.setCells w.heap.size 0 [.slice none 0 0,H 0,.slice none 0 0,H 0,H 0,H 0,H 0,H 0,H 0,H 0,H 0])
  generalize hD.setCells w.heap.size 0 [.slice none 0 0,H 0,.slice none 0 0,H 0,H 0,H 0,H 0,H 0,H 0,H 0,H 0] = WE at xN vX ⊢
  obtain rfl:=U qC
  have d0:WE.cell? (yp w 0) = some (.slice none 0 0):=U xN 0 _ rfl
  have d1:WE.cell? (yp w 1) = some (H 0):=U xN 1 _ rfl
  have d2:WE.cell? (yp w 2) = some (.slice none 0 0):=U xN 2 _ rfl
  have d3:WE.cell? (yp w 3) = some (H 0):=U xN 3 _ rfl
  have d4:WE.cell? (yp w 4) = some (H 0):=U xN 4 _ rfl
  have d5:WE.cell? (yp w 5) = some (H 0):=U xN 5 _ rfl
  have d6:WE.cell? (yp w 6) = some (H 0):=U xN 6 _ rfl
  have d7:WE.cell? (yp w 7) = some (H 0):=U xN 7 _ rfl
  have d8:WE.cell? (yp w 8) = some (H 0):=U xN 8 _ rfl
  have d9:WE.cell? (yp w 9) = some (H 0):=U xN 9 _ rfl
  have d10:WE.cell? (yp w 10) = some (H 0):=U xN 10 _ rfl
  refine bodyPost_ret (by simp [results,Tryz.results11,go_sem,d0,d1,d2,d3,d4,d5,d6,d7,d8,d9,d10]; try rfl) rfl ?_
  rw [U HCD]
  exact ⟨_,_,rfl,⟨[],World.ownsRow_nil _ _ _ _,rfl,fun i g es hg=>by simp at hg⟩,World.ownsRow_nil _ _ _ _,U vX⟩
 have kZ:¬ (4096:Int) < cs.length:=by omega
 by_cases N:200 < cs.length
 ·have qC:Hid (hb = ⟨0,[],[],tot0⟩):=(U HF).trans (if_neg (by omega))
  have HCD:Hid (CF = 7):=(U HCF).trans ((if_neg Q).trans (if_pos N))
  have pH:(200:Int) < cs.length:=by omega
  have xN:=Y (yV hD w.heap.size 0 [.slice none 0 0,H 0,.slice none 0 0,H 0,H 0,H 0,H 0,H 0,H 0,H 0,H 0] (fun j R=>(U HX).2.1 j R))
  have vX:=Y (zm w.heap.size qt [.slice none 0 0,H 0,.slice none 0 0,H 0,H 0,H 0,H 0,H 0,H 0,H 0,H 0] 0 hD (U HX).2.2)
  clear HF HCF HRU
  go_wp2_with fail
  change bodyPost _ _ _ _ _ (hD.setCells w.heap.size 0 [.slice none 0 0,H 0,.slice none 0 0,H 0,H 0,H 0,H 0,H 0,H 0,H 0,H 0])
  generalize hD.setCells w.heap.size 0 [.slice none 0 0,H 0,.slice none 0 0,H 0,H 0,H 0,H 0,H 0,H 0,H 0,H 0] = WE at xN vX ⊢
  obtain rfl:=U qC
  have d0:WE.cell? (yp w 0) = some (.slice none 0 0):=U xN 0 _ rfl
  have d1:WE.cell? (yp w 1) = some (H 0):=U xN 1 _ rfl
  have d2:WE.cell? (yp w 2) = some (.slice none 0 0):=U xN 2 _ rfl
  have d3:WE.cell? (yp w 3) = some (H 0):=U xN 3 _ rfl
  have d4:WE.cell? (yp w 4) = some (H 0):=U xN 4 _ rfl
  have d5:WE.cell? (yp w 5) = some (H 0):=U xN 5 _ rfl
  have d6:WE.cell? (yp w 6) = some (H 0):=U xN 6 _ rfl
  have d7:WE.cell? (yp w 7) = some (H 0):=U xN 7 _ rfl
  have d8:WE.cell? (yp w 8) = some (H 0):=U xN 8 _ rfl
  have d9:WE.cell? (yp w 9) = some (H 0):=U xN 9 _ rfl
  have d10:WE.cell? (yp w 10) = some (H 0):=U xN 10 _ rfl
  refine bodyPost_ret (by simp [results,Tryz.results11,go_sem,d0,d1,d2,d3,d4,d5,d6,d7,d8,d9,d10]; try rfl) rfl ?_
  rw [U HCD]
  exact ⟨_,_,rfl,⟨[],World.ownsRow_nil _ _ _ _,rfl,fun i g es hg=>by simp at hg⟩,World.ownsRow_nil _ _ _ _,U vX⟩
 have pH:¬ (200:Int) < cs.length:=by omega
 have HCD:Hid (CF = 0):=(U HCF).trans ((if_neg Q).trans (if_neg N))
 have HRU1:=Y (U HRU (by omega) hD (zl (U HR) (U HX).2.2 qt))
 clear HRU HF HCF z0 q0 z1 q1 z2 q2 z3 q3 z4 q4 z5 q5 z6 q6 z7 q7 z8 q8 z9 q9 z10 q10
 obtain ⟨fn,fl,fg,⟨ua,xZ,uc,ud,ue,ub,uo,un⟩⟩:=hb
 simp only at HRU1 ⊢
 go_wp2_with fail
 refine (U HRU1).mono ?_
 rintro e w4 ⟨gv,vq,rfl,⟨gs,hg,oj,hge⟩,hq,xz⟩
 obtain ⟨aq,cq,hv⟩:=zQ hq
 subst hv
 obtain ⟨ga,gc,hgv⟩:=zQ hg
 subst hgv
 have hxs:=(U HX).1
 have pF:=Y (ze (U HX).2.1 xz (by omega))
 have uk:=Y ((U HX).2.2.trans (xz.mono (U HX).2.2.size))
 obtain ⟨y0,z0,q0⟩:=zc (U pF) (j:=0) (by omega)
 obtain ⟨y1,z1,q1⟩:=zc (U pF) (j:=1) (by omega)
 obtain ⟨y2,z2,q2⟩:=zc (U pF) (j:=2) (by omega)
 obtain ⟨y3,z3,q3⟩:=zc (U pF) (j:=3) (by omega)
 obtain ⟨y4,z4,q4⟩:=zc (U pF) (j:=4) (by omega)
 obtain ⟨y5,z5,q5⟩:=zc (U pF) (j:=5) (by omega)
 obtain ⟨y6,z6,q6⟩:=zc (U pF) (j:=6) (by omega)
 obtain ⟨y7,z7,q7⟩:=zc (U pF) (j:=7) (by omega)
 obtain ⟨y8,z8,q8⟩:=zc (U pF) (j:=8) (by omega)
 obtain ⟨y9,z9,q9⟩:=zc (U pF) (j:=9) (by omega)
 obtain ⟨y10,z10,q10⟩:=zc (U pF) (j:=10) (by omega)
 have xN:=Y (yV w4 w.heap.size 0 [.slice ga gs.length gc,H fn,.slice aq fl.length cq,H ua,H xZ,H uc,H ud,H ue,H ub,H uo,H un] (fun j R=>U pF j R))
 have vX:=Y (zm w.heap.size qt [.slice ga gs.length gc,H fn,.slice aq fl.length cq,H ua,H xZ,H uc,H ud,H ue,H ub,H uo,H un] 0 w4 (U uk))
 have vD:Hid (∀ {e sz m:Nat} {v:Value} {xs:List Value},w4.ownsRow hD.heap.size e sz v m xs→World.ownsRow (w4.setCells w.heap.size 0 [.slice ga gs.length gc,H fn,.slice aq fl.length cq,H ua,H xZ,H uc,H ud,H ue,H ub,H uo,H un]) w.heap.size e sz v m xs):=fun {e sz m v xs} h=>by
  have h3:=bp (b:=w.heap.size) (fun e'=>by have:=(h.lt _ e'.symm).1; omega) [.slice ga gs.length gc,H fn,.slice aq fl.length cq,H ua,H xZ,H uc,H ud,H ue,H ub,H uo,H un] 0 _ h
  refine ⟨h3.1,?_⟩
  rcases h3.2 with k1 | ⟨g',c',xp,k1,k2,k3⟩
  ·exact .inl k1
  ·exact .inr ⟨g',c',xp,k1,by omega,k3⟩
 have HGG:Hid (GRs (w4.setCells w.heap.size 0 [.slice ga gs.length gc,H fn,.slice aq fl.length cq,H ua,H xZ,H uc,H ud,H ue,H ub,H uo,H un]) w.heap.size (.slice ga gs.length gc) fg):=⟨gs,U vD hg,oj,fun i g es Q N=>U vD (hge i g es Q N)⟩
 have HO:Hid (ORow (w4.setCells w.heap.size 0 [.slice ga gs.length gc,H fn,.slice aq fl.length cq,H ua,H xZ,H uc,H ud,H ue,H ub,H uo,H un]) w.heap.size (.slice aq fl.length cq) fl):=U vD hq
 clear vD hg oj hge hq xz hxs
 go_wp2_with fail
 change bodyPost _ _ _ _ _ (w4.setCells w.heap.size 0 [.slice ga gs.length gc,H fn,.slice aq fl.length cq,H ua,H xZ,H uc,H ud,H ue,H ub,H uo,H un])
 generalize w4.setCells w.heap.size 0 [.slice ga gs.length gc,H fn,.slice aq fl.length cq,H ua,H xZ,H uc,H ud,H ue,H ub,H uo,H un] = WE at xN vX HGG HO ⊢
 have d0:WE.cell? (yp w 0) = some (.slice ga gs.length gc):=U xN 0 _ rfl
 have d1:WE.cell? (yp w 1) = some (H fn):=U xN 1 _ rfl
 have d2:WE.cell? (yp w 2) = some (.slice aq fl.length cq):=U xN 2 _ rfl
 have d3:WE.cell? (yp w 3) = some (H ua):=U xN 3 _ rfl
 have d4:WE.cell? (yp w 4) = some (H xZ):=U xN 4 _ rfl
 have d5:WE.cell? (yp w 5) = some (H uc):=U xN 5 _ rfl
 have d6:WE.cell? (yp w 6) = some (H ud):=U xN 6 _ rfl
 have d7:WE.cell? (yp w 7) = some (H ue):=U xN 7 _ rfl
 have d8:WE.cell? (yp w 8) = some (H ub):=U xN 8 _ rfl
 have d9:WE.cell? (yp w 9) = some (H uo):=U xN 9 _ rfl
 have d10:WE.cell? (yp w 10) = some (H un):=U xN 10 _ rfl
 refine bodyPost_ret (by simp [results,Tryz.results11,go_sem,d0,d1,d2,d3,d4,d5,d6,d7,d8,d9,d10]; try rfl) rfl ?_
 rw [U HCD]
 exact ⟨_,_,rfl,U HGG,U HO,U vX⟩
theorem zero_read:FloatKind.f64.format.read 0 = .number false 0 FloatKind.f64.format.leastPlace:=by decide
theorem one_read:∃ m j,FloatKind.f64.format.read 4607182418800017408 = .number false m j∧m ≠ 0:=⟨_,_,rfl,by decide⟩
theorem zero_mag (s:Bool) (m a b:Nat) (h:Ieee.signed s m a = Ieee.signed false 0 b):m = 0:=by
 have h0:Ieee.signed false 0 b = 0:=by simp [Ieee.signed]
 rw [h0] at h
 have N:m <<< a = 0:=by
  cases s
  ·have h':((m <<< a:Nat):Int) = 0:=h
   omega
  ·have h':-((m <<< a:Nat):Int) = 0:=h
   omega
 rw [Nat.shiftLeft_eq] at N
 have:=Nat.two_pow_pos a
 rcases Nat.mul_eq_zero.1 N with h | h
 ·exact h
 ·omega
theorem div_zero (x:Nat) (h:FloatKind.f64.format.order x 0 = some Ordering.eq):∃ r,FloatKind.f64.format.div 4607182418800017408 x = some r:=by
 obtain ⟨m1,j1,Q,hm1⟩:=one_read
 unfold Ieee.Format.order at h
 rw [zero_read] at h
 unfold Ieee.Format.div
 rw [Q]
 cases hx:FloatKind.f64.format.read x with
 | nan s f=>rw [hx] at h; simp [Ieee.Datum.order] at h
 | infinity s=>rw [hx] at h; cases s <;> simp [Ieee.Datum.order] at h
 | number s m i =>
  rw [hx] at h
  simp only [Ieee.Datum.order,Option.some.injEq] at h
  have hm:=zero_mag s m _ _ (Std.LawfulEqCmp.eq_of_compare h)
  subst hm
  exact ⟨FloatKind.f64.format.write (.infinity s),by simp [Ieee.Datum.quotient,hm1]⟩
theorem sameFloat_any (x:Nat) (w:World) :
  Calls Tryz.prog 97 #[yi x,yi x] w fun e w'=>e = .returned (.bool true)∧w' = w:=by
 cases hn:nanB x with
 | true =>
  have h':(FloatKind.f64.format.order x x != some Ordering.eq) = true:=hn
  clear hn
  go_enter Tryz.func97,Tryz.ntmps97
  go_wp2
  go_ret
  exact ⟨rfl,rfl⟩
 | false =>
  have h':(FloatKind.f64.format.order x x != some Ordering.eq) = false:=hn
  have N:FloatKind.f64.format.order x x = some Ordering.eq:=by simpa using h'
  clear hn
  by_cases hz:FloatKind.f64.format.order x 0 = some Ordering.eq
  ·obtain ⟨r,hr⟩:=div_zero x hz
   have hq:∀ W,(binOp .quo 41 (yi 4607182418800017408) (yi x)).run Tryz.prog W = .ok (yi r) W:=fun W=>by simp [binOp,Op.floatArith,hr]
   have hz':(FloatKind.f64.format.order x 0 == some Ordering.eq) = true:=by rw [hz]; rfl
   clear hz hr
   go_enter Tryz.func97,Tryz.ntmps97
   go_wp2
   all_goals go_ret
   all_goals exact ⟨zy (by simp),rfl⟩
  ·have hz':(FloatKind.f64.format.order x 0 == some Ordering.eq) = false:=by simpa using hz
   clear hz
   go_enter Tryz.func97,Tryz.ntmps97
   go_wp2
   go_ret
   exact ⟨zy (by simp),rfl⟩
theorem smCmd_same (c:Cm) (w:World) :
  Calls Tryz.prog 79 #[.agg (yv c.k c.s c.t c.l c.q c.i c.p c.g).toArray,.agg (yv c.k c.s c.t c.l c.q c.i c.p c.g).toArray] w fun e w' =>
   e = yl (.bool true)∧ym w w':=by
 obtain ⟨k,s,t,l,q,i,p,g⟩:=c
 simp only
 go_enter Tryz.func79,Tryz.ntmps79
 go_wp2_with (go_at_call 97; refine (sameFloat_any _ _).mono ?_; rintro e w' ⟨rfl,rfl⟩)
 go_returns
 refine ⟨rfl,?_⟩
 go_grown
theorem smEvent_same (e:Ev) (w:World) :
  Calls Tryz.prog 42 #[evV e,evV e] w fun x w'=>x = yl (.bool true)∧ym w w':=by
 obtain ⟨ut,⟨k,s,t,l,q,i,p,g⟩,id,xL,qty,xQ,xG⟩:=e
 unfold evV
 have HE:=Y (fun W=>smCmd_same ⟨k,s,t,l,q,i,p,g⟩ W)
 simp only at *
 have xy:(w.alloc (D (yt ut k s t l q i p g id xL qty xQ xG).toArray 46)).heap.size = w.heap.size + 1:=cM _ _
 have xY:((w.alloc (D (yt ut k s t l q i p g id xL qty xQ xG).toArray 46)).alloc (D (yt ut k s t l q i p g id xL qty xQ xG).toArray 46)).heap.size = w.heap.size + 1 + 1:=by rw [cM,xy]
 have b1:Below (w.heap.size + 1) (w.alloc (D (yt ut k s t l q i p g id xL qty xQ xG).toArray 46)) ((w.alloc (D (yt ut k s t l q i p g id xL qty xQ xG).toArray 46)).alloc (D (yt ut k s t l q i p g id xL qty xQ xG).toArray 46)):=(Below.refl _ _).alloc (by rw [xy]; omega) _
 have r1:=zb (cS w (yt ut k s t l q i p g id xL qty xQ xG) 46) b1 (by omega)
 have r2:=cS (w.alloc (D (yt ut k s t l q i p g id xL qty xQ xG).toArray 46)) (yt ut k s t l q i p g id xL qty xQ xG) 46
 rw [xy] at r2
 have HB:Hid (ym w ((w.alloc (D (yt ut k s t l q i p g id xL qty xQ xG).toArray 46)).alloc (D (yt ut k s t l q i p g id xL qty xQ xG).toArray 46))):=(dm _ _).alloc (by rw [xy]; omega) _
 have HX:Hid (_∧_∧_):=⟨r1,r2,xY⟩
 clear r1 r2 b1 xy xY
 go_enter Tryz.func42,Tryz.ntmps42
 go_wp2_with fail
 generalize ((w.alloc (D (yt ut k s t l q i p g id xL qty xQ xG).toArray 46)).alloc (D (yt ut k s t l q i p g id xL qty xQ xG).toArray 46)) = W at HX HB ⊢
 obtain ⟨js,hr2,hsW⟩:=U HX
 refine (U HE _).mono ?_
 rintro e w2 ⟨rfl,xU⟩
 have xC:=Y (dq (U HB) xU)
 have q1:=zb js xU (by omega)
 have q2:=zb hr2 xU (by omega)
 have x9:=q1 9 _ rfl
 have x10:=q1 10 _ rfl
 have x11:=q1 11 _ rfl
 have x12:=q1 12 _ rfl
 have x13:=q1 13 _ rfl
 have y9:=q2 9 _ rfl
 have y10:=q2 10 _ rfl
 have y11:=q2 11 _ rfl
 have y12:=q2 12 _ rfl
 have y13:=q2 13 _ rfl
 clear js hr2 q1 q2 xU HX HB hsW
 go_wp2_with fail
 go_returns
 exact ⟨rfl,U xC⟩
theorem smEvents_same (va vb:Value) (l:List Ev) (w:World) (ha:RdR Ev.vs 14 w va l) (F:RdR Ev.vs 14 w vb l) :
  Calls Tryz.prog 16 #[va,vb] w fun e w'=>e = yl (.bool true)∧ym w w':=by
 obtain ⟨aa,ca,rfl,hl,hca⟩:=ha
 obtain ⟨ab,cb,rfl,_,hcb⟩:=F
 have xo:∀ (k:Nat) (c:Ev),l[k]? = some c→∃ b off b' uG,aa = some (J b off)∧ab = some (J b' uG)∧b < w.heap.size∧b' < w.heap.size∧w.rangeAt b (off + k * 14) c.vs∧w.rangeAt b' (uG + k * 14) c.vs:=by
  intro k c hk
  have xA:l ≠ []:=by intro h; rw [h] at hk; simp at hk
  obtain ⟨b,off,Q,N,h3⟩:=hca xA
  obtain ⟨b',uG,kZ,pH,h3'⟩:=hcb xA
  exact ⟨b,off,b',uG,Q,kZ,N,pH,h3 k c hk,h3' k c hk⟩
 have HC:=Y xo
 clear xo hca hcb
 go_enter Tryz.func16,Tryz.ntmps16
 go_wp2_with fail
 go_loopw [5] (fun i wr=>∃ k:Nat,k ≤ l.length∧i = H k∧ym w wr) (fun i _=>l.length - (intOf i).toNat)
 case atStart=>exact ⟨0,Nat.zero_le _,rfl,Below.refl _ _⟩
 case round =>
  obtain ⟨k,hk,rfl,xh⟩:=hrel
  have HB:=Y xh
  clear xh
  by_cases xH:k < l.length
  ·obtain ⟨c,uW⟩:∃ c,l[k]? = some c:=⟨_,yF xH⟩
   obtain ⟨b,off,b',uG,rfl,rfl,F,ob,L,qk⟩:=U HC k c uW
   obtain ⟨g0,g1,g2,g3,g4,g5,g6,g7,g8,g9,qG,vB,xX,kC⟩:=bM (zb L (U HB) F)
   obtain ⟨e0,e1,e2,e3,e4,e5,e6,e7,e8,e9,kY,e11,e12,e13⟩:=bM (zb qk (U HB) ob)
   have uu:(k:Int) < l.length:=by omega
   clear uW L qk F ob
   go_wp2_with fail
   go_region_with (go_at_call 42; refine (smEvent_same c _).mono ?_; rintro e w2 ⟨rfl,xU⟩; have xC:=Y ((U HB).drew.trans (xU.mono (U HB).drew.size)); clear xU)
   go_wp2_with fail
   go_roundw
   case rel=>exact ⟨k + 1,by omega,by go_num,U xC⟩
   case measure=>simp [intOf]; omega
   all_goals exact ⟨⟨k + 1,by omega,by go_num,U xC⟩,by simp [intOf]; omega⟩
  ·go_wp2_with fail
   go_ret
   exact ⟨rfl,U HB⟩
theorem smGs_same (va vb:Value) (gl:List (List Ev)) (w:World) (ha:RdG w va gl) (F:RdG w vb gl) :
  Calls Tryz.prog 12 #[va,vb] w fun e w'=>e = yl (.bool true)∧ym w w':=by
 obtain ⟨aa,ca,rfl,hl,hca⟩:=ha
 obtain ⟨ab,cb,rfl,_,hcb⟩:=F
 have xo:∀ (k:Nat) (es:List Ev),gl[k]? = some es→∃ b off b' uG ga gc ga' gc',aa = some (J b off)∧ab = some (J b' uG)∧b < w.heap.size∧b' < w.heap.size∧w.cell? (J b (off + k)) = some (.slice ga es.length gc)∧w.cell? (J b' (uG + k)) = some (.slice ga' es.length gc')∧RdR Ev.vs 14 w (.slice ga es.length gc) es∧RdR Ev.vs 14 w (.slice ga' es.length gc') es:=by
  intro k es hk
  have xA:gl ≠ []:=by intro h; rw [h] at hk; simp at hk
  obtain ⟨b,off,Q,N,h3⟩:=hca xA
  obtain ⟨b',uG,kZ,pH,h3'⟩:=hcb xA
  obtain ⟨g,h4,h5⟩:=h3 k es hk
  obtain ⟨g',h4',h5'⟩:=h3' k es hk
  obtain ⟨ga,gc,rfl,_⟩:=id h5
  obtain ⟨ga',gc',rfl,_⟩:=id h5'
  exact ⟨b,off,b',uG,ga,gc,ga',gc',Q,kZ,N,pH,h4,h4',h5,h5'⟩
 have HC:=Y xo
 clear xo hca hcb
 go_enter Tryz.func12,Tryz.ntmps12
 go_wp2_with fail
 go_loopw [5] (fun i wr=>∃ k:Nat,k ≤ gl.length∧i = H k∧ym w wr) (fun i _=>gl.length - (intOf i).toNat)
 case atStart=>exact ⟨0,Nat.zero_le _,rfl,Below.refl _ _⟩
 case round =>
  obtain ⟨k,hk,rfl,xh⟩:=hrel
  have HB:=Y xh
  clear xh
  by_cases xH:k < gl.length
  ·obtain ⟨es,uW⟩:∃ es,gl[k]? = some es:=⟨_,yF xH⟩
   obtain ⟨b,off,b',uG,ga,gc,ga',gc',rfl,rfl,F,ob,L,qk,hr,hr'⟩:=U HC k es uW
   have g0:=((U HB).cell (p:=(J b (off + k))) F).trans L
   have g1:=((U HB).cell (p:=(J b' (uG + k))) ob).trans qk
   have HRA:=Y (zl hr (U HB).drew qt)
   have HRB:=Y (zl hr' (U HB).drew qt)
   have uu:(k:Int) < gl.length:=by omega
   clear uW L qk F ob hr hr'
   go_wp2_with fail
   go_region_with (go_at_call 16; refine (smEvents_same _ _ es _ (U HRA) (U HRB)).mono ?_; rintro e w2 ⟨rfl,xU⟩; have xC:=Y ((U HB).drew.trans (xU.mono (U HB).drew.size)); clear xU)
   go_wp2_with fail
   go_roundw
   case rel=>exact ⟨k + 1,by omega,by go_num,U xC⟩
   case measure=>simp [intOf]; omega
   all_goals exact ⟨⟨k + 1,by omega,by go_num,U xC⟩,by simp [intOf]; omega⟩
  ·go_wp2_with fail
   go_ret
   exact ⟨rfl,U HB⟩
end Go.Proofs.YtbakanofkghmiaaGreat
